/-
  DiskPlays, called: true; nothing old is turned.
-/
import Derived.Test.YthcnoeddilhpbaaDLaws2
namespace Go.Proofs.Ythcnoeddilhpbaa
open Go.RowKit
/-- Two cells of a block that is new since w7. -/
def NewD (w7 : World) (g : Nat) (a b : Value) (wx : World) : Prop := w7.heap.size ≤ g ∧ g < wx.heap.size ∧ wx.cell? ⟨g, 0, none⟩ = some a ∧ wx.cell? ⟨g, 1, none⟩ = some b ∧ wx.frozen? ⟨g, 0, none⟩ = false ∧ wx.frozen? ⟨g, 1, none⟩ = false
theorem NewD.new {w7 W : World} (h : Ext w7 W) (t : TypeId) (a b : Value) : NewD w7 W.heap.size a b (W.alloc (.cells #[a, b] t)) :=
  ⟨h.size, by simp, by rw [World.cell?_alloc_at _ _ _ _ rfl]; rfl, by rw [World.cell?_alloc_at _ _ _ _ rfl]; rfl, World.frozen?_alloc_at _ _ _ _ rfl, World.frozen?_alloc_at _ _ _ _ rfl⟩
theorem NewD.ext {w7 W W2 : World} {g : Nat} {a b : Value} (h : NewD w7 g a b W) (hx : Ext W W2) : NewD w7 g a b W2 := by
  obtain ⟨h0, h1, h2, h3, h4, h5⟩ := h
  have hb := Below.block hx g h1
  exact ⟨h0, Nat.lt_of_lt_of_le h1 hx.size, later hx h2, later hx h3, (World.frozen?_of_block (a := ⟨g, 0, none⟩) hb).trans h4, (World.frozen?_of_block (a := ⟨g, 1, none⟩) hb).trans h5⟩
theorem NewD.put {w7 W : World} {g : Nat} {a b : Value} (h : NewD w7 g a b W) (c d : Value) : NewD w7 g c d ((W.setCell ⟨g, 0, none⟩ c).setCell ⟨g, 1, none⟩ d) := by
  obtain ⟨h0, h1, h2, h3, h4, h5⟩ := h
  refine ⟨h0, by simpa using h1, ?_, ?_, ?_, ?_⟩
  · simp [World.cell?_setCell_other, World.cell?_setCell_same, h2]
  · simp [World.cell?_setCell_other, World.cell?_setCell_same, h3]
  · simp [h4]
  · simp [h5]
theorem NewD.old {w7 W : World} {g : Nat} {a b : Value} (h : NewD w7 g a b W) (hx : Ext w7 W) (c d : Value) : Ext w7 ((W.setCell ⟨g, 0, none⟩ c).setCell ⟨g, 1, none⟩ d) := Ext.st h.1 (Ext.st h.1 hx)
/-- The variable's cells; nothing of w has turned. -/
def XS (w : World) (g : Nat) (Tx : ByteArray) (yx : Nat) (wx : World) : Prop := Ext w wx ∧ g < wx.heap.size ∧ wx.cell? ⟨g, 0, none⟩ = some (.string Tx) ∧ wx.cell? ⟨g, 1, none⟩ = some (.int .i64 (yx : Int))
theorem PlX.xs {w W : World} {v : Value} {g : Nat} {T Tx : ByteArray} {y yx : Nat} (h : PlX w v g T y Tx yx W) : XS w g Tx yx W := ⟨h.old, h.cells.1, h.cells.2.1, h.cells.2.2.1⟩
set_option maxHeartbeats 2000000 in
theorem diskPlays_any (v : Value) (n : Nat) (k : Nat → Int) (x : Nat → ByteArray) (K : Nat → Nat) (hKs : ∀ i, i < n → K i < 18446744073709551616) (w : World) (hL : ActsIs w v n k x K) :
    Calls Try.prog 3 #[v] w fun e w' => e = .returned (.bool true) ∧ Ext w w' := by
  have HL : Hid (ActsIs w v n k x K) := hL
  obtain ⟨a, cap, rfl, _⟩ := hL
  have HK : Hid (∀ i, i < n → K i < 18446744073709551616) := hKs
  have HF : Hid (Calls Try.prog 8 #[.slice a n cap] w fun e w' => FewP x n w e w') := few_any _ n k x K w HL.out
  clear hKs
  go_enter Try.func3, Try.ntmps3
  go_wp2_with fail
  refine HF.out.mono ?_
  rintro e w1 ⟨b, rfl, hb, HX⟩
  have HE1 : Hid (Ext w w1) := HX
  clear HX HF
  cases b with
  | false =>
    go_wp2_with fail
    refine (awake_any _).mono ?_
    rintro e w2 ⟨rfl, HX⟩
    have HE2 : Hid (Ext w w2) := HE1.out.trans HX
    clear HX
    go_wp2
    go_ret
    exact ⟨rfl, HE2.out⟩
  | true =>
    have Hn : Hid (n ≤ 40) := (hb rfl).1
    have Hx : Hid (∀ i, i < n → (x i).size ≤ 70000) := (hb rfl).2
    clear hb
    go_wp2_with fail
    refine (pnew_any w w1 HE1.out).mono ?_
    rintro e w2 ⟨da, rfl, HP, HX⟩
    have HPa : Hid (PlD w (.pointer (some da)) ⟨#[]⟩ 0 w2) := HP
    clear HP HX HE1
    have HPx : Hid (PlX w (.pointer (some da)) w2.heap.size (dPl k x K 0).1 (dPl k x K 0).2 (dPl k x K 0).1 (dPl k x K 0).2 (w2.alloc (.cells #[.string ⟨#[]⟩, .int .i64 0] 28))) := PlX.new HPa.out _ _ _ rfl rfl
    clear HPa
    go_wp2_with fail
    generalize w2.alloc (.cells #[.string ⟨#[]⟩, .int .i64 0] 28) = w3 at *
    generalize w2.heap.size = g at *
    go_loopw [5] (fun u5 wr => ∃ j : Nat, j ≤ n ∧ u5 = .int .i64 j ∧ Hid (PlX w (.pointer (some da)) g (dPl k x K j).1 (dPl k x K j).2 (dPl k x K j).1 (dPl k x K j).2 wr)) (fun u5 _ => n - (intOf u5).toNat)
    case atStart => exact ⟨0, Nat.zero_le _, rfl, HPx⟩
    case round =>
      obtain ⟨j, hj, rfl, HP⟩ := hrel
      clear HPx
      by_cases hlt : j < n
      · obtain ⟨q1, q0, qw⟩ := lp_nums j n hlt (by have := Hn.out; omega)
        obtain ⟨ga, off, rfl, hbl, hd0, hd1, hd2⟩ := HL.out.get hlt
        have HOk : Hid (dOk (dPl k x K j).1 (dPl k x K j).2) := dPl_ok k x K j
        have HKj : Hid (K j < 18446744073709551616) := HK.out j hlt
        obtain ⟨T2, y2, r2, hdo⟩ : ∃ T2 y2 r2, dDo (dPl k x K j).1 (dPl k x K j).2 (k j) (x j) (K j) = (T2, y2, r2) := ⟨_, _, _, rfl⟩
        have HNx : Hid ((dPl k x K (j + 1)).1 = T2 ∧ (dPl k x K (j + 1)).2 = y2) := by
          show _ ∧ _
          constructor
          · show (dDo (dPl k x K j).1 (dPl k x K j).2 (k j) (x j) (K j)).1 = _; rw [hdo]
          · show (dDo (dPl k x K j).1 (dPl k x K j).2 (k j) (x j) (K j)).2.1 = _; rw [hdo]
        generalize (dPl k x K j).1 = T at *
        generalize (dPl k x K j).2 = y at *
        have HR : Hid (∀ W, Calls Try.prog 11 #[.agg #[.string T, .int .i64 (y : Int)], .agg #[.int .i64 (k j), .string (x j), .int .u64 (K j : Int)]] W fun e w' => e = .returned (.tuple #[.agg #[.string T2, .int .i64 (y2 : Int)], .int .i64 r2]) ∧ Ext W w') := fun W => by
          have := rdo_any T y (k j) (x j) (K j) HOk.out HKj.out W
          unfold doV at this
          rw [hdo] at this
          exact this
        have HD : Hid (∀ W, PlX w (.pointer (some da)) g T y T2 y2 W → Calls Try.prog 12 #[.pointer (some da), .agg #[.int .i64 (k j), .string (x j), .int .u64 (K j : Int)]] W fun e w' => e = .returned (.int .i64 r2) ∧ PlX w (.pointer (some da)) g T2 y2 T2 y2 w') := fun W h => by
          have := pdoX_any (k j) (x j) (K j) HOk.out HKj.out h
          rw [hdo] at this
          exact this
        clear hdo HOk HKj
        go_upto_region 7 with fail
        go_cut [6, 7] (fun u6 u7 wx => ∃ gy : Nat, u6 = .pointer (some ⟨gy, 0, none⟩) ∧ u7 = .int .i64 r2 ∧ Hid (PlX w (.pointer (some da)) g T y T y wx ∧ NewD wr gy (.string T2) (.int .i64 (y2 : Int)) wx))
        case first =>
          obtain ⟨hg0, c0, c1, f0, f1⟩ := HP.out.cells
          have HW : Hid (Ext w wr) := HP.out.old
          have HS : Ext wr wr.drew := (Ext.refl wr).drew
          refine wp_region_noPanic ?_
          refine wp_region_held (S := Ext wr) (by kernel_rfl) ?_
          rw [show ({ wr with drawn := wr.drawn + 1 } : World) = wr.drew from rfl]
          generalize wr.drew = x0 at *
          refine held_take (i := 0) (v := ?vp0) rfl (by kernel_rfl) (by kernel_rfl) (by kernel_rfl) (fun _ _ _ h => h) rfl ?hyp0 HS ?restp0
          case hyp0 => (intro wx hSx; have z0 := later hSx c0; have z1 := later hSx c1; have zb := Nat.lt_of_lt_of_le hg0 hSx.size; go_simp; try with_reducible rfl)
          try simp only [Act.put, List.setIfInBounds_toArray, List.set_cons_zero, List.set_cons_succ]
          refine held_take (i := 1) (v := ?vp1) rfl (by kernel_rfl) (by kernel_rfl) (by kernel_rfl) (fun _ _ _ h => h) rfl ?hyp1 HS ?restp1
          case hyp1 => (intro wx hSx; go_simp; try with_reducible rfl)
          try simp only [Act.put, List.setIfInBounds_toArray, List.set_cons_zero, List.set_cons_succ]
          refine held_take (i := 2) (v := ?vp2) rfl (by kernel_rfl) (by kernel_rfl) (by kernel_rfl) (fun _ _ _ h => h) rfl ?hyp2 HS ?restp2
          case hyp2 => (intro wx hSx; go_simp; try with_reducible rfl)
          try simp only [Act.put, List.setIfInBounds_toArray, List.set_cons_zero, List.set_cons_succ]
          refine held_take (i := 3) (v := ?vp3) rfl (by kernel_rfl) (by kernel_rfl) (by kernel_rfl) (fun _ _ _ h => h) rfl ?hyp3 HS ?restp3
          case hyp3 => (intro wx hSx; go_simp; try with_reducible rfl)
          try simp only [Act.put, List.setIfInBounds_toArray, List.set_cons_zero, List.set_cons_succ]
          refine held_take (i := 4) (v := ?vp4) rfl (by kernel_rfl) (by kernel_rfl) (by kernel_rfl) (fun _ _ _ h => h) rfl ?hyp4 HS ?restp4
          case hyp4 => (intro wx hSx; have z0 := later (HW.out.trans hSx) hd0; have z1 := later (HW.out.trans hSx) hd1; have z2 := later (HW.out.trans hSx) hd2; have zb := Nat.lt_of_lt_of_le hbl (HW.out.trans hSx).size; go_simp; try with_reducible rfl)
          try simp only [Act.put, List.setIfInBounds_toArray, List.set_cons_zero, List.set_cons_succ]
          refine held_two (i := 5) (k := 9) (by kernel_rfl) rfl rfl rfl rfl (fun K hK => ?_) (fun K hK => ?_)
          · go_simp
            refine (HR.out _).mono ?_
            rintro e x1 ⟨rfl, HX⟩
            have H1 := HS.trans HX
            clear HX
            try go_simp
            refine hK.out _ _ ⟨H1, ?_⟩
            clear hK K
            try simp only [Act.put, List.setIfInBounds_toArray, List.set_cons_zero, List.set_cons_succ]
            refine held_take (i := 6) (v := ?vp6n1) rfl (by kernel_rfl) (by kernel_rfl) (by kernel_rfl) (fun _ _ _ h => h) rfl ?hyp6n1 H1 ?restp6n1
            case hyp6n1 => (intro wx hSx; go_simp; try with_reducible rfl)
            try simp only [Act.put, List.setIfInBounds_toArray, List.set_cons_zero, List.set_cons_succ]
            refine held_take (i := 7) (v := ?vp7n1) rfl (by kernel_rfl) (by kernel_rfl) (by kernel_rfl) (fun _ _ _ h => h) rfl ?hyp7n1 H1 ?restp7n1
            case hyp7n1 => (intro wx hSx; go_simp; try with_reducible rfl)
            try simp only [Act.put, List.setIfInBounds_toArray, List.set_cons_zero, List.set_cons_succ]
            refine held_take (i := 8) (v := ?vp8n1) rfl (by kernel_rfl) (by kernel_rfl) (by kernel_rfl) (fun _ _ _ h => h) rfl ?hyp8n1 H1 ?restp8n1
            case hyp8n1 => (intro wx hSx; go_simp; try with_reducible rfl)
            try simp only [Act.put, List.setIfInBounds_toArray, List.set_cons_zero, List.set_cons_succ]
            refine held_one (i := 9) (by kernel_rfl) rfl rfl (fun K hK => ?_)
            go_simp
            have H2 := H1.alloc (.cells #[.string ⟨#[]⟩, .int .i64 0] 28)
            have D2 := NewD.new H1 28 (.string ⟨#[]⟩) (.int .i64 0)
            generalize x1.alloc (.cells #[.string ⟨#[]⟩, .int .i64 0] 28) = x2 at *
            generalize x1.heap.size = gy at *
            try go_simp
            refine hK.out _ _ ⟨H2, ?_⟩
            clear hK K
            try simp only [Act.put, List.setIfInBounds_toArray, List.set_cons_zero, List.set_cons_succ]
            refine held_one (i := 10) (by kernel_rfl) rfl rfl (fun K hK => ?_)
            obtain ⟨-, e1, e2, e3, e4, e5⟩ := id D2
            go_simp
            have H3 := D2.old H2 (.string T2) (.int .i64 (y2 : Int))
            have D3 := D2.put (.string T2) (.int .i64 (y2 : Int))
            generalize (x2.setCell ⟨gy, 0, none⟩ (.string T2)).setCell ⟨gy, 1, none⟩ (.int .i64 (y2 : Int)) = x3 at *
            clear e1 e2 e3 e4 e5
            try go_simp
            refine hK.out _ _ ⟨H3, ?_⟩
            clear hK K
            try simp only [Act.put, List.setIfInBounds_toArray, List.set_cons_zero, List.set_cons_succ]
            refine held_take (i := 11) (v := ?vp11n1) rfl (by kernel_rfl) (by kernel_rfl) (by kernel_rfl) (fun _ _ _ h => h) rfl ?hyp11n1 H3 ?restp11n1
            case hyp11n1 => (intro wx hSx; go_simp; try with_reducible rfl)
            try simp only [Act.put, List.setIfInBounds_toArray, List.set_cons_zero, List.set_cons_succ]
            refine wpAnyH_done (by kernel_rfl) ?_ _
            refine NoPanic.normal ?_
            go_wp2_with fail
            go_meet
            case rel => exact ⟨gy, rfl, rfl, HP.out.ext H3, D3⟩
          · go_simp
            have H1 := HS.alloc (.cells #[.string ⟨#[]⟩, .int .i64 0] 28)
            have D1 := NewD.new HS 28 (.string ⟨#[]⟩) (.int .i64 0)
            generalize x0.alloc (.cells #[.string ⟨#[]⟩, .int .i64 0] 28) = x1 at *
            generalize x0.heap.size = gy at *
            try go_simp
            refine hK.out _ _ ⟨H1, ?_⟩
            clear hK K
            try simp only [Act.put, List.setIfInBounds_toArray, List.set_cons_zero, List.set_cons_succ]
            refine held_one (i := 5) (by kernel_rfl) rfl rfl (fun K hK => ?_)
            go_simp
            refine (HR.out _).mono ?_
            rintro e x2 ⟨rfl, HX⟩
            have H2 := H1.trans HX
            have D2 := D1.ext HX
            clear HX
            try go_simp
            refine hK.out _ _ ⟨H2, ?_⟩
            clear hK K
            try simp only [Act.put, List.setIfInBounds_toArray, List.set_cons_zero, List.set_cons_succ]
            refine held_take (i := 6) (v := ?vp6n2) rfl (by kernel_rfl) (by kernel_rfl) (by kernel_rfl) (fun _ _ _ h => h) rfl ?hyp6n2 H2 ?restp6n2
            case hyp6n2 => (intro wx hSx; go_simp; try with_reducible rfl)
            try simp only [Act.put, List.setIfInBounds_toArray, List.set_cons_zero, List.set_cons_succ]
            refine held_take (i := 7) (v := ?vp7n2) rfl (by kernel_rfl) (by kernel_rfl) (by kernel_rfl) (fun _ _ _ h => h) rfl ?hyp7n2 H2 ?restp7n2
            case hyp7n2 => (intro wx hSx; go_simp; try with_reducible rfl)
            try simp only [Act.put, List.setIfInBounds_toArray, List.set_cons_zero, List.set_cons_succ]
            refine held_take (i := 8) (v := ?vp8n2) rfl (by kernel_rfl) (by kernel_rfl) (by kernel_rfl) (fun _ _ _ h => h) rfl ?hyp8n2 H2 ?restp8n2
            case hyp8n2 => (intro wx hSx; go_simp; try with_reducible rfl)
            try simp only [Act.put, List.setIfInBounds_toArray, List.set_cons_zero, List.set_cons_succ]
            refine held_one (i := 10) (by kernel_rfl) rfl rfl (fun K hK => ?_)
            obtain ⟨-, e1, e2, e3, e4, e5⟩ := id D2
            go_simp
            have H3 := D2.old H2 (.string T2) (.int .i64 (y2 : Int))
            have D3 := D2.put (.string T2) (.int .i64 (y2 : Int))
            generalize (x2.setCell ⟨gy, 0, none⟩ (.string T2)).setCell ⟨gy, 1, none⟩ (.int .i64 (y2 : Int)) = x3 at *
            clear e1 e2 e3 e4 e5
            try go_simp
            refine hK.out _ _ ⟨H3, ?_⟩
            clear hK K
            try simp only [Act.put, List.setIfInBounds_toArray, List.set_cons_zero, List.set_cons_succ]
            refine held_take (i := 11) (v := ?vp11n2) rfl (by kernel_rfl) (by kernel_rfl) (by kernel_rfl) (fun _ _ _ h => h) rfl ?hyp11n2 H3 ?restp11n2
            case hyp11n2 => (intro wx hSx; go_simp; try with_reducible rfl)
            try simp only [Act.put, List.setIfInBounds_toArray, List.set_cons_zero, List.set_cons_succ]
            refine wpAnyH_done (by kernel_rfl) ?_ _
            refine NoPanic.normal ?_
            go_wp2_with fail
            go_meet
            case rel => exact ⟨gy, rfl, rfl, HP.out.ext H3, D3⟩
        case rest =>
          obtain ⟨gy, rfl, rfl, HPy⟩ := hcut
          obtain ⟨hg0, c0, c1, f0, f1⟩ := HPy.out.1.cells
          obtain ⟨-, e1, e2, e3, e4, e5⟩ := HPy.out.2
          have HP2 : Hid (PlX w (.pointer (some da)) g T y T2 y2 ((wc.setCell ⟨g, 0, none⟩ (.string T2)).setCell ⟨g, 1, none⟩ (.int .i64 (y2 : Int)))) := HPy.out.1.put T2 y2
          have HW : Hid (Ext w wc) := HPy.out.1.old
          clear HPy HP HR
          go_wp2_with fail
          clear c0 c1 f0 f1 e1 e2 e3 e4 e5 hg0
          generalize (wc.setCell ⟨g, 0, none⟩ (.string T2)).setCell ⟨g, 1, none⟩ (.int .i64 (y2 : Int)) = w9 at *
          have HP3 : PlX w (.pointer (some da)) g T y T2 y2 w9.drew := HP2.out.ext (Ext.refl w9).drew
          have HS := HP3.xs
          clear HP2
          refine wp_region_noPanic ?_
          refine wp_region_held (S := XS w g T2 y2) (by kernel_rfl) ?_
          rw [show ({ w9 with drawn := w9.drawn + 1 } : World) = w9.drew from rfl]
          generalize w9.drew = x9 at *
          refine held_take (i := 0) (v := ?vq0) rfl (by kernel_rfl) (by kernel_rfl) (by kernel_rfl) (fun _ _ _ h => h) rfl ?hyq0 HS ?restq0
          case hyq0 => (intro wx hSx; go_simp; try with_reducible rfl)
          try simp only [Act.put, List.setIfInBounds_toArray, List.set_cons_zero, List.set_cons_succ]
          refine held_take (i := 1) (v := ?vq1) rfl (by kernel_rfl) (by kernel_rfl) (by kernel_rfl) (fun _ _ _ h => h) rfl ?hyq1 HS ?restq1
          case hyq1 => (intro wx hSx; go_simp; try with_reducible rfl)
          try simp only [Act.put, List.setIfInBounds_toArray, List.set_cons_zero, List.set_cons_succ]
          refine held_take (i := 2) (v := ?vq2) rfl (by kernel_rfl) (by kernel_rfl) (by kernel_rfl) (fun _ _ _ h => h) rfl ?hyq2 HS ?restq2
          case hyq2 => (intro wx hSx; go_simp; try with_reducible rfl)
          try simp only [Act.put, List.setIfInBounds_toArray, List.set_cons_zero, List.set_cons_succ]
          refine held_take (i := 3) (v := ?vq3) rfl (by kernel_rfl) (by kernel_rfl) (by kernel_rfl) (fun _ _ _ h => h) rfl ?hyq3 HS ?restq3
          case hyq3 => (intro wx hSx; go_simp; try with_reducible rfl)
          try simp only [Act.put, List.setIfInBounds_toArray, List.set_cons_zero, List.set_cons_succ]
          refine held_take (i := 4) (v := ?vq4) rfl (by kernel_rfl) (by kernel_rfl) (by kernel_rfl) (fun _ _ _ h => h) rfl ?hyq4 HS ?restq4
          case hyq4 => (intro wx hSx; have z0 := later hSx.1 hd0; have z1 := later hSx.1 hd1; have z2 := later hSx.1 hd2; have zb := Nat.lt_of_lt_of_le hbl hSx.1.size; go_simp; try with_reducible rfl)
          try simp only [Act.put, List.setIfInBounds_toArray, List.set_cons_zero, List.set_cons_succ]
          refine held_take (i := 6) (v := ?vq6) rfl (by kernel_rfl) (by kernel_rfl) (by kernel_rfl) (fun _ _ _ h => h) rfl ?hyq6 HS ?restq6
          case hyq6 => (intro wx hSx; go_simp; try with_reducible rfl)
          try simp only [Act.put, List.setIfInBounds_toArray, List.set_cons_zero, List.set_cons_succ]
          refine held_one (i := 5) (by kernel_rfl) rfl rfl (fun K hK => ?_)
          go_simp
          refine (HD.out _ HP3).mono ?_
          rintro e w5 ⟨rfl, HP5⟩
          have HS5 := HP5.xs
          clear HP3 HD
          try go_simp
          refine hK.out _ _ ⟨HS5, ?_⟩
          clear hK K
          try simp only [Act.put, List.setIfInBounds_toArray, List.set_cons_zero, List.set_cons_succ]
          refine held_take (i := 7) (v := ?vq7) rfl (by kernel_rfl) (by kernel_rfl) (by kernel_rfl) (fun _ _ _ h => h) rfl ?hyq7 HS5 ?restq7
          case hyq7 => (intro wx hSx; go_simp; try with_reducible rfl)
          try simp only [Act.put, List.setIfInBounds_toArray, List.set_cons_zero, List.set_cons_succ]
          refine held_take (i := 8) (v := ?vq8) rfl (by kernel_rfl) (by kernel_rfl) (by kernel_rfl) (fun _ _ _ h => h) rfl ?hyq8 HS5 ?restq8
          case hyq8 => (intro wx hSx; go_simp; try with_reducible rfl)
          try simp only [Act.put, List.setIfInBounds_toArray, List.set_cons_zero, List.set_cons_succ]
          refine held_take (i := 9) (v := ?vq9) rfl (by kernel_rfl) (by kernel_rfl) (by kernel_rfl) (fun _ _ _ h => h) rfl ?hyq9 HS5 ?restq9
          case hyq9 => (intro wx hSx; go_simp; try with_reducible rfl)
          try simp only [Act.put, List.setIfInBounds_toArray, List.set_cons_zero, List.set_cons_succ]
          refine held_take (i := 11) (v := ?vq11) rfl (by kernel_rfl) (by kernel_rfl) (by kernel_rfl) (fun _ _ _ h => h) rfl ?hyq11 HS5 ?restq11
          case hyq11 => (intro wx hSx; go_simp; try with_reducible rfl)
          try simp only [Act.put, List.setIfInBounds_toArray, List.set_cons_zero, List.set_cons_succ]
          refine held_take (i := 12) (v := ?vq12) rfl (by kernel_rfl) (by kernel_rfl) (by kernel_rfl) (fun _ _ _ h => h) rfl ?hyq12 HS5 ?restq12
          case hyq12 => (intro wx hSx; obtain ⟨s1, s2, s3, s4⟩ := hSx; go_simp; try with_reducible rfl)
          try simp only [Act.put, List.setIfInBounds_toArray, List.set_cons_zero, List.set_cons_succ]
          refine held_one (i := 10) (by kernel_rfl) rfl rfl (fun K hK => ?_)
          go_simp
          refine (ptext_any HP5.one).mono ?_
          rintro e w6 ⟨rfl, HX⟩
          have HP6 := HP5.ext HX
          have HS6 := HP6.xs
          clear HX HP5
          try go_simp
          refine hK.out _ _ ⟨HS6, ?_⟩
          clear hK K
          try simp only [Act.put, List.setIfInBounds_toArray, List.set_cons_zero, List.set_cons_succ]
          refine held_take (i := 13) (v := ?vq13) rfl (by kernel_rfl) (by kernel_rfl) (by kernel_rfl) (fun _ _ _ h => h) rfl ?hyq13 HS6 ?restq13
          case hyq13 => (intro wx hSx; go_simp; try with_reducible rfl)
          try simp only [Act.put, List.setIfInBounds_toArray, List.set_cons_zero, List.set_cons_succ]
          refine held_take (i := 14) (v := ?vq14) rfl (by kernel_rfl) (by kernel_rfl) (by kernel_rfl) (fun _ _ _ h => h) rfl ?hyq14 HS6 ?restq14
          case hyq14 => (intro wx hSx; go_simp; try with_reducible rfl)
          try simp only [Act.put, List.setIfInBounds_toArray, List.set_cons_zero, List.set_cons_succ]
          refine held_take (i := 15) (v := ?vq15) rfl (by kernel_rfl) (by kernel_rfl) (by kernel_rfl) (fun _ _ _ h => h) rfl ?hyq15 HS6 ?restq15
          case hyq15 => (intro wx hSx; go_simp; try with_reducible rfl)
          try simp only [Act.put, List.setIfInBounds_toArray, List.set_cons_zero, List.set_cons_succ]
          refine held_take (i := 16) (v := ?vq16) rfl (by kernel_rfl) (by kernel_rfl) (by kernel_rfl) (fun _ _ _ h => h) rfl ?hyq16 HS6 ?restq16
          case hyq16 => (intro wx hSx; go_simp; try with_reducible rfl)
          try simp only [Act.put, List.setIfInBounds_toArray, List.set_cons_zero, List.set_cons_succ]
          refine held_take (i := 18) (v := ?vq18) rfl (by kernel_rfl) (by kernel_rfl) (by kernel_rfl) (fun _ _ _ h => h) rfl ?hyq18 HS6 ?restq18
          case hyq18 => (intro wx hSx; go_simp; try with_reducible rfl)
          try simp only [Act.put, List.setIfInBounds_toArray, List.set_cons_zero, List.set_cons_succ]
          refine held_take (i := 19) (v := ?vq19) rfl (by kernel_rfl) (by kernel_rfl) (by kernel_rfl) (fun _ _ _ h => h) rfl ?hyq19 HS6 ?restq19
          case hyq19 => (intro wx hSx; obtain ⟨s1, s2, s3, s4⟩ := hSx; go_simp; try with_reducible rfl)
          try simp only [Act.put, List.setIfInBounds_toArray, List.set_cons_zero, List.set_cons_succ]
          refine held_one (i := 17) (by kernel_rfl) rfl rfl (fun K hK => ?_)
          go_simp
          refine (psync_any HP6.one).mono ?_
          rintro e w7 ⟨rfl, HX⟩
          have HP7 := HP6.ext HX
          have HS7 := HP7.xs
          clear HX HP6
          try go_simp
          refine hK.out _ _ ⟨HS7, ?_⟩
          clear hK K
          try simp only [Act.put, List.setIfInBounds_toArray, List.set_cons_zero, List.set_cons_succ]
          refine held_take (i := 20) (v := ?vq20) rfl (by kernel_rfl) (by kernel_rfl) (by kernel_rfl) (fun _ _ _ h => h) rfl ?hyq20 HS7 ?restq20
          case hyq20 => (intro wx hSx; go_simp; try with_reducible rfl)
          try simp only [Act.put, List.setIfInBounds_toArray, List.set_cons_zero, List.set_cons_succ]
          refine held_take (i := 21) (v := ?vq21) rfl (by kernel_rfl) (by kernel_rfl) (by kernel_rfl) (fun _ _ _ h => h) rfl ?hyq21 HS7 ?restq21
          case hyq21 => (intro wx hSx; go_simp; try with_reducible rfl)
          try simp only [Act.put, List.setIfInBounds_toArray, List.set_cons_zero, List.set_cons_succ]
          refine wpAnyH_done (by kernel_rfl) ?_ _
          refine NoPanic.normal ?_
          have HPn : Hid (PlX w (.pointer (some da)) g (dPl k x K (j + 1)).1 (dPl k x K (j + 1)).2 (dPl k x K (j + 1)).1 (dPl k x K (j + 1)).2 w7) := by rw [HNx.out.1, HNx.out.2]; exact HP7
          clear HP7 HS7
          go_wp2
          go_roundw
          case rel => exact ⟨j + 1, hlt, by push_cast; rfl, HPn⟩
          case measure => exact lp_meas hlt
      · have hnl : ¬ (j : Int) < (n : Int) := by omega
        have HE9 : Hid (Ext w wr) := HP.out.old
        go_wp2_with fail
        refine (awake_any _).mono ?_
        rintro e w4 ⟨rfl, HX⟩
        have HE4 : Hid (Ext w w4) := HE9.out.trans HX
        clear HX
        go_wp2
        go_ret
        exact ⟨rfl, HE4.out⟩
end Go.Proofs.Ythcnoeddilhpbaa
