/-
  ReleasePlays, called: true; nothing old is turned.
-/
import Derived.Test.YtdpplmfgbglkhaaGLaws
namespace Go.Proofs.Ytdpplmfgbglkhaa
open Go.RowKit
theorem Four.new {w : World} (t : TypeId) (B E N M : Int) : Four (w.alloc (.cells #[.int .i64 B, .int .i64 E, .int .i64 N, .int .i64 M] t)) w.heap.size B E N M := by
  refine ⟨by simp, ?_, ?_, ?_, ?_, World.frozen?_alloc_at _ _ _ _ rfl, World.frozen?_alloc_at _ _ _ _ rfl, World.frozen?_alloc_at _ _ _ _ rfl, World.frozen?_alloc_at _ _ _ _ rfl⟩ <;> (rw [World.cell?_alloc_at _ _ _ _ rfl]; rfl)
theorem Four.ext {w w' : World} {g : Nat} {B E N M : Int} (h : Four w g B E N M) (hx : Ext w w') : Four w' g B E N M := h.same hx.size (Below.block hx g h.1)
/-- A block of four numbers made since V. -/
def FX (V : World) (g : Nat) (B E N M : Int) (wr : World) : Prop := Ext V wr ∧ V.heap.size ≤ g ∧ Four wr g B E N M
theorem FX.ext {V W wy : World} {g : Nat} {B E N M : Int} (h : FX V g B E N M W) (hx : Ext W wy) : FX V g B E N M wy := ⟨h.1.trans hx, h.2.1, h.2.2.ext hx⟩
theorem FX.new {V W : World} (h : Ext V W) (t : TypeId) (B E N M : Int) : FX V W.heap.size B E N M (W.alloc (.cells #[.int .i64 B, .int .i64 E, .int .i64 N, .int .i64 M] t)) := ⟨h.alloc _, h.size, Four.new t B E N M⟩
theorem PlX.new {V W : World} {v : Value} {B E N M : Int} (h : PlG V v B E N M W) (t : TypeId) (B' E' N' M' : Int) : PlX V v W.heap.size B E N M B' E' N' M' (W.alloc (.cells #[.int .i64 B', .int .i64 E', .int .i64 N', .int .i64 M'] t)) := by
  obtain ⟨F, h1, h2, h3⟩ := h
  exact ⟨F, h1.ext ((Ext.refl W).alloc _), h2, h3.alloc _, fun q => by have := h1.lt _ q; omega, h3.size, Four.new t B' E' N' M'⟩
theorem fnew_any {V W : World} {g : Nat} {B' E' N' M' : Int} (b e : Int) (h : FX V g B' E' N' M' W) : Calls Try.prog 9 #[.int .i64 b, .int .i64 e] W fun r w' => ∃ a, r = .returned (.pointer (some a)) ∧ PlX V (.pointer (some a)) g (rB b) (rE e) 0 (-1) B' E' N' M' w' := by
  obtain ⟨h1, h2, h3⟩ := h
  refine (gnew_any b e W).mono ?_
  rintro r w' ⟨v, F, rfl, HD, HF, HX⟩
  obtain ⟨a, rfl⟩ := HD.form
  exact ⟨a, rfl, F, HD, fun k hk => Nat.le_trans h1.size (HF k hk), h1.trans HX, fun q => by have := HF g q; have := h3.1; omega, h2, h3.ext HX⟩
theorem pl_crash {f : Nat → Int} {j : Nat} (h : f j < 0) (h2 : -1000 < f j) : pNs f (j + 1) = 0 ∧ pMs f (j + 1) = pMs f j := by
  have : isC (f j) = true := by unfold isC; rw [decide_eq_true h, decide_eq_true h2]; rfl
  exact ⟨if_pos this, if_pos this⟩
theorem pl_tick {f : Nat → Int} {j : Nat} (h : ¬ (f j < 0 ∧ -1000 < f j)) : pNs f (j + 1) = rN (f j) ∧ pMs f (j + 1) = rM (pMs f j) (f j) := by
  have : ¬ isC (f j) = true := fun q => h (by unfold isC at q; simpa using q)
  exact ⟨if_neg this, if_neg this⟩
theorem pl_meas {i : Nat} (h : i < 66) : 66 - (intOf (.int .i64 ((i : Int) - 1 + 1)) + 1).toNat < 66 - (intOf (.int .i64 ((i : Int) - 1)) + 1).toNat := by
  simp only [intOf]
  omega
set_option maxRecDepth 10000 in
set_option maxHeartbeats 4000000 in
theorem releasePlays_any (b e : Int) (v : Value) (n : Nat) (f : Nat → Int) (ep : Int) (w : World) (hL : IntsIs w v n f) :
    Calls Try.prog 3 #[.agg #[.int .i64 b, .int .i64 e], v, .int .i64 ep] w fun r w' => r = .returned (.bool true) ∧ Ext w w' := by
  have HL : Hid (IntsIs w v n f) := hL
  obtain ⟨a, cap, rfl, _⟩ := hL
  have HE0 : Hid (Ext w (w.alloc (.cells #[.int .i64 b, .int .i64 e] 23))) := (Ext.refl w).alloc _
  by_cases hn : 1000 < n
  · go_enter Try.func3, Try.ntmps3
    go_wp2_with fail
    refine (awake_any _).mono ?_
    rintro r w1 ⟨rfl, HX⟩
    have HE1 : Hid (Ext w w1) := HE0.out.trans HX
    clear HX HE0
    go_wp2
    go_ret
    exact ⟨rfl, HE1.out⟩
  · have c0 : (w.alloc (.cells #[.int .i64 b, .int .i64 e] 23)).cell? ⟨w.heap.size, 0, none⟩ = some (.int .i64 b) := by rw [World.cell?_alloc_at _ _ _ _ rfl]; rfl
    have c1 : (w.alloc (.cells #[.int .i64 b, .int .i64 e] 23)).cell? ⟨w.heap.size, 1, none⟩ = some (.int .i64 e) := by rw [World.cell?_alloc_at _ _ _ _ rfl]; rfl
    have c2 : w.heap.size < (w.alloc (.cells #[.int .i64 b, .int .i64 e] 23)).heap.size := by simp
    go_enter Try.func3, Try.ntmps3
    go_upto_region 3 with fail
    generalize w.alloc (.cells #[.int .i64 b, .int .i64 e] 23) = V at *
    have HNw : Hid (∀ W, Ext V W → Calls Try.prog 9 #[.int .i64 b, .int .i64 e] W fun r w' => ∃ p, r = .returned (.pointer (some p)) ∧ PlG V (.pointer (some p)) (rB b) (rE e) 0 (-1) w') := fun W h => pnew_any b e h
    have HNx : Hid (∀ W g, FX V g 0 0 0 0 W → Calls Try.prog 9 #[.int .i64 b, .int .i64 e] W fun r w' => ∃ p, r = .returned (.pointer (some p)) ∧ PlX V (.pointer (some p)) g (rB b) (rE e) 0 (-1) 0 0 0 0 w') := fun W g h => fnew_any b e h
    have HRn : Hid (∀ W, Calls Try.prog 10 #[.int .i64 b, .int .i64 e] W fun r w' => r = .returned (.agg #[.int .i64 (rB b), .int .i64 (rE e), .int .i64 0, .int .i64 (-1)]) ∧ Ext W w') := fun W => rnew_any b e W
    obtain ⟨B, hB⟩ : ∃ B, rB b = B := ⟨_, rfl⟩
    obtain ⟨E, hE⟩ : ∃ E, rE e = E := ⟨_, rfl⟩
    rw [hB, hE] at HNw HNx HRn
    clear hB hE
    go_cut [7, 8] (fun u7 u8 wx => ∃ (p : Addr) (g : Nat), u7 = .pointer (some p) ∧ u8 = .pointer (some ⟨g, 0, none⟩) ∧ Hid (PlX V (.pointer (some p)) g B E 0 (-1) B E 0 (-1) wx))
    case first =>
      have HS : Ext V V.drew := (Ext.refl V).drew
      refine wp_region_noPanic ?_
      refine wp_region_held (S := Ext V) (by kernel_rfl) ?_
      rw [show ({ V with drawn := V.drawn + 1 } : World) = V.drew from rfl]
      generalize V.drew = x0 at *
      refine held_take (i := 0) (v := ?vp0) rfl (by kernel_rfl) (by kernel_rfl) (by kernel_rfl) (fun _ _ _ h => h) rfl ?hyp0 HS ?restp0
      case hyp0 => (intro wx hSx; go_simp; try with_reducible rfl)
      try simp only [Act.put, List.setIfInBounds_toArray, List.set_cons_zero, List.set_cons_succ]
      refine held_take (i := 1) (v := ?vp1) rfl (by kernel_rfl) (by kernel_rfl) (by kernel_rfl) (fun _ _ _ h => h) rfl ?hyp1 HS ?restp1
      case hyp1 => (intro wx hSx; have z0 := later hSx c0; have z1 := later hSx c1; have zb := Nat.lt_of_lt_of_le c2 hSx.size; go_simp; try with_reducible rfl)
      try simp only [Act.put, List.setIfInBounds_toArray, List.set_cons_zero, List.set_cons_succ]
      refine held_take (i := 2) (v := ?vp2) rfl (by kernel_rfl) (by kernel_rfl) (by kernel_rfl) (fun _ _ _ h => h) rfl ?hyp2 HS ?restp2
      case hyp2 => (intro wx hSx; go_simp; try with_reducible rfl)
      try simp only [Act.put, List.setIfInBounds_toArray, List.set_cons_zero, List.set_cons_succ]
      refine held_take (i := 3) (v := ?vp3) rfl (by kernel_rfl) (by kernel_rfl) (by kernel_rfl) (fun _ _ _ h => h) rfl ?hyp3 HS ?restp3
      case hyp3 => (intro wx hSx; have z0 := later hSx c0; have z1 := later hSx c1; have zb := Nat.lt_of_lt_of_le c2 hSx.size; go_simp; try with_reducible rfl)
      try simp only [Act.put, List.setIfInBounds_toArray, List.set_cons_zero, List.set_cons_succ]
      refine held_take (i := 5) (v := ?vp5) rfl (by kernel_rfl) (by kernel_rfl) (by kernel_rfl) (fun _ _ _ h => h) rfl ?hyp5 HS ?restp5
      case hyp5 => (intro wx hSx; go_simp; try with_reducible rfl)
      try simp only [Act.put, List.setIfInBounds_toArray, List.set_cons_zero, List.set_cons_succ]
      refine held_take (i := 6) (v := ?vp6) rfl (by kernel_rfl) (by kernel_rfl) (by kernel_rfl) (fun _ _ _ h => h) rfl ?hyp6 HS ?restp6
      case hyp6 => (intro wx hSx; have z0 := later hSx c0; have z1 := later hSx c1; have zb := Nat.lt_of_lt_of_le c2 hSx.size; go_simp; try with_reducible rfl)
      try simp only [Act.put, List.setIfInBounds_toArray, List.set_cons_zero, List.set_cons_succ]
      refine held_take (i := 7) (v := ?vp7) rfl (by kernel_rfl) (by kernel_rfl) (by kernel_rfl) (fun _ _ _ h => h) rfl ?hyp7 HS ?restp7
      case hyp7 => (intro wx hSx; go_simp; try with_reducible rfl)
      try simp only [Act.put, List.setIfInBounds_toArray, List.set_cons_zero, List.set_cons_succ]
      refine held_take (i := 8) (v := ?vp8) rfl (by kernel_rfl) (by kernel_rfl) (by kernel_rfl) (fun _ _ _ h => h) rfl ?hyp8 HS ?restp8
      case hyp8 => (intro wx hSx; have z0 := later hSx c0; have z1 := later hSx c1; have zb := Nat.lt_of_lt_of_le c2 hSx.size; go_simp; try with_reducible rfl)
      try simp only [Act.put, List.setIfInBounds_toArray, List.set_cons_zero, List.set_cons_succ]
      refine held_two (i := 4) (k := 10) (by kernel_rfl) rfl rfl rfl rfl (fun K hK => ?_) (fun K hK => ?_)
      · go_simp
        refine (HNw.out _ HS).mono ?_
        rintro r x1 ⟨p, rfl, D1⟩
        have H1 := D1.old
        try go_simp
        refine hK.out _ _ ⟨H1, ?_⟩
        clear hK K
        try simp only [Act.put, List.setIfInBounds_toArray, List.set_cons_zero, List.set_cons_succ]
        refine held_two (i := 9) (k := 10) (by kernel_rfl) rfl rfl rfl rfl (fun K hK => ?_) (fun K hK => ?_)
        · go_simp
          refine (HRn.out _).mono ?_
          rintro r x2 ⟨rfl, HX⟩
          have D2 := D1.ext HX
          have H2 := D2.old
          clear HX
          try go_simp
          refine hK.out _ _ ⟨H2, ?_⟩
          clear hK K
          try simp only [Act.put, List.setIfInBounds_toArray, List.set_cons_zero, List.set_cons_succ]
          refine held_one (i := 10) (by kernel_rfl) rfl rfl (fun K hK => ?_)
          go_simp
          have D3 := PlX.new D2 29 0 0 0 0
          have H3 := D3.old
          generalize x2.alloc (.cells #[.int .i64 0, .int .i64 0, .int .i64 0, .int .i64 0] 29) = x3 at *
          generalize x2.heap.size = g at *
          try go_simp
          refine hK.out _ _ ⟨H3, ?_⟩
          clear hK K
          try simp only [Act.put, List.setIfInBounds_toArray, List.set_cons_zero, List.set_cons_succ]
          refine held_take (i := 11) (v := ?vp11n2) rfl (by kernel_rfl) (by kernel_rfl) (by kernel_rfl) (fun _ _ _ h => h) rfl ?hyp11n2 H3 ?restp11n2
          case hyp11n2 => (intro wx hSx; go_simp; try with_reducible rfl)
          try simp only [Act.put, List.setIfInBounds_toArray, List.set_cons_zero, List.set_cons_succ]
          refine held_one (i := 12) (by kernel_rfl) rfl rfl (fun K hK => ?_)
          obtain ⟨e0, e1, e2, e3, e4, e5, e6, e7, e8⟩ := D3.four
          go_simp
          have D4 := D3.put B E 0 (-1)
          have H4 := D4.old
          generalize (((x3.setCell ⟨g, 0, none⟩ (.int .i64 B)).setCell ⟨g, 1, none⟩ (.int .i64 E)).setCell ⟨g, 2, none⟩ (.int .i64 0)).setCell ⟨g, 3, none⟩ (.int .i64 (-1)) = x4 at *
          clear e0 e1 e2 e3 e4 e5 e6 e7 e8
          try go_simp
          refine hK.out _ _ ⟨H4, ?_⟩
          clear hK K
          try simp only [Act.put, List.setIfInBounds_toArray, List.set_cons_zero, List.set_cons_succ]
          refine wpAnyH_done (by kernel_rfl) ?_ _
          refine NoPanic.normal ?_
          go_wp2_with fail
          go_meet
          case rel => exact ⟨p, g, rfl, rfl, D4⟩
        · go_simp
          have D2 := PlX.new D1 29 0 0 0 0
          have H2 := D2.old
          generalize x1.alloc (.cells #[.int .i64 0, .int .i64 0, .int .i64 0, .int .i64 0] 29) = x2 at *
          generalize x1.heap.size = g at *
          try go_simp
          refine hK.out _ _ ⟨H2, ?_⟩
          clear hK K
          try simp only [Act.put, List.setIfInBounds_toArray, List.set_cons_zero, List.set_cons_succ]
          refine held_one (i := 9) (by kernel_rfl) rfl rfl (fun K hK => ?_)
          go_simp
          refine (HRn.out _).mono ?_
          rintro r x3 ⟨rfl, HX⟩
          have D3 := D2.ext HX
          have H3 := D3.old
          clear HX
          try go_simp
          refine hK.out _ _ ⟨H3, ?_⟩
          clear hK K
          try simp only [Act.put, List.setIfInBounds_toArray, List.set_cons_zero, List.set_cons_succ]
          refine held_take (i := 11) (v := ?vp11n3) rfl (by kernel_rfl) (by kernel_rfl) (by kernel_rfl) (fun _ _ _ h => h) rfl ?hyp11n3 H3 ?restp11n3
          case hyp11n3 => (intro wx hSx; go_simp; try with_reducible rfl)
          try simp only [Act.put, List.setIfInBounds_toArray, List.set_cons_zero, List.set_cons_succ]
          refine held_one (i := 12) (by kernel_rfl) rfl rfl (fun K hK => ?_)
          obtain ⟨e0, e1, e2, e3, e4, e5, e6, e7, e8⟩ := D3.four
          go_simp
          have D4 := D3.put B E 0 (-1)
          have H4 := D4.old
          generalize (((x3.setCell ⟨g, 0, none⟩ (.int .i64 B)).setCell ⟨g, 1, none⟩ (.int .i64 E)).setCell ⟨g, 2, none⟩ (.int .i64 0)).setCell ⟨g, 3, none⟩ (.int .i64 (-1)) = x4 at *
          clear e0 e1 e2 e3 e4 e5 e6 e7 e8
          try go_simp
          refine hK.out _ _ ⟨H4, ?_⟩
          clear hK K
          try simp only [Act.put, List.setIfInBounds_toArray, List.set_cons_zero, List.set_cons_succ]
          refine wpAnyH_done (by kernel_rfl) ?_ _
          refine NoPanic.normal ?_
          go_wp2_with fail
          go_meet
          case rel => exact ⟨p, g, rfl, rfl, D4⟩
      · go_simp
        have D1 := FX.new HS 29 0 0 0 0
        have H1 := D1.1
        generalize x0.alloc (.cells #[.int .i64 0, .int .i64 0, .int .i64 0, .int .i64 0] 29) = x1 at *
        generalize x0.heap.size = g at *
        try go_simp
        refine hK.out _ _ ⟨H1, ?_⟩
        clear hK K
        try simp only [Act.put, List.setIfInBounds_toArray, List.set_cons_zero, List.set_cons_succ]
        refine held_one (i := 4) (by kernel_rfl) rfl rfl (fun K hK => ?_)
        go_simp
        refine (HNx.out _ _ D1).mono ?_
        rintro r x2 ⟨p, rfl, D2⟩
        have H2 := D2.old
        try go_simp
        refine hK.out _ _ ⟨H2, ?_⟩
        clear hK K
        try simp only [Act.put, List.setIfInBounds_toArray, List.set_cons_zero, List.set_cons_succ]
        refine held_one (i := 9) (by kernel_rfl) rfl rfl (fun K hK => ?_)
        go_simp
        refine (HRn.out _).mono ?_
        rintro r x3 ⟨rfl, HX⟩
        have D3 := D2.ext HX
        have H3 := D3.old
        clear HX
        try go_simp
        refine hK.out _ _ ⟨H3, ?_⟩
        clear hK K
        try simp only [Act.put, List.setIfInBounds_toArray, List.set_cons_zero, List.set_cons_succ]
        refine held_take (i := 11) (v := ?vp11n4) rfl (by kernel_rfl) (by kernel_rfl) (by kernel_rfl) (fun _ _ _ h => h) rfl ?hyp11n4 H3 ?restp11n4
        case hyp11n4 => (intro wx hSx; go_simp; try with_reducible rfl)
        try simp only [Act.put, List.setIfInBounds_toArray, List.set_cons_zero, List.set_cons_succ]
        refine held_one (i := 12) (by kernel_rfl) rfl rfl (fun K hK => ?_)
        obtain ⟨e0, e1, e2, e3, e4, e5, e6, e7, e8⟩ := D3.four
        go_simp
        have D4 := D3.put B E 0 (-1)
        have H4 := D4.old
        generalize (((x3.setCell ⟨g, 0, none⟩ (.int .i64 B)).setCell ⟨g, 1, none⟩ (.int .i64 E)).setCell ⟨g, 2, none⟩ (.int .i64 0)).setCell ⟨g, 3, none⟩ (.int .i64 (-1)) = x4 at *
        clear e0 e1 e2 e3 e4 e5 e6 e7 e8
        try go_simp
        refine hK.out _ _ ⟨H4, ?_⟩
        clear hK K
        try simp only [Act.put, List.setIfInBounds_toArray, List.set_cons_zero, List.set_cons_succ]
        refine wpAnyH_done (by kernel_rfl) ?_ _
        refine NoPanic.normal ?_
        go_wp2_with fail
        go_meet
        case rel => exact ⟨p, g, rfl, rfl, D4⟩
    case rest =>
      obtain ⟨p, g, rfl, rfl, HP⟩ := hcut
      replace HP : Hid (PlX V (.pointer (some p)) g B E (pNs f 0) (pMs f 0) B E (pNs f 0) (pMs f 0) wc) := HP
      clear HNw HNx HRn c0 c1 c2
      go_wp2_with fail
      go_loopw [9] (fun u9 wr => ∃ j : Nat, j ≤ n ∧ u9 = .int .i64 j ∧ Hid (PlX V (.pointer (some p)) g B E (pNs f j) (pMs f j) B E (pNs f j) (pMs f j) wr)) (fun u9 _ => n - (intOf u9).toNat)
      case atStart => exact ⟨0, Nat.zero_le _, rfl, HP⟩
      case round =>
        rename World => W0
        obtain ⟨j, hj, rfl, HP⟩ := hrel
        by_cases hlt : j < n
        · obtain ⟨q1, q0, qw⟩ := lp_nums j n hlt (by omega)
          obtain ⟨bl, off, rfl, hbl, hcw⟩ := HL.out.get hlt
          have hc := later (HE0.out.trans HP.out.old) hcw
          have hcw : Hid _ := hcw
          generalize pNs f j = Nj at HP
          by_cases k1 : f j < 0
          · by_cases k2 : -1000 < f j
            · obtain ⟨eN, eM⟩ := pl_crash k1 k2
              have C1 : Hid (∀ W, PlX V (.pointer (some p)) g B E Nj (pMs f j) B E Nj (pMs f j) W → Calls Try.prog 11 #[.pointer (some p)] W fun r w' => r = .returned (.tuple #[]) ∧ PlX V (.pointer (some p)) g B E 0 (pMs f j) B E Nj (pMs f j) w') := fun W h => xcrash_any h
              have C2 : Hid (∀ W, Calls Try.prog 12 #[.agg #[.int .i64 B, .int .i64 E, .int .i64 Nj, .int .i64 (pMs f j)]] W fun r w' => r = .returned (.agg #[.int .i64 B, .int .i64 E, .int .i64 0, .int .i64 (pMs f j)]) ∧ Ext W w') := fun W => rcrash_any B E Nj (pMs f j) W
              generalize pMs f j = M' at *
              replace eM : Hid (pMs f (j + 1) = M') := eM
              replace eN : Hid (pNs f (j + 1) = 0) := eN
              go_wp2_with fail
              refine (C1.out _ HP.out).mono ?_
              rintro r w3 ⟨rfl, HP3⟩
              obtain ⟨f0, f1, f2, f3, f4, -⟩ := HP3.four
              replace HP3 : Hid (PlX V (.pointer (some p)) g B E 0 M' B E Nj M' w3) := HP3
              clear HP C1 hc
              go_wp2_with fail
              refine (C2.out _).mono ?_
              rintro r w4 ⟨rfl, HX⟩
              have HP4 := HP3.out.ext HX
              clear f0 f1 f2 f3 f4 HX HP3 C2
              obtain ⟨f0, f1, f2, f3, f4, f5, f6, f7, f8⟩ := HP4.four
              obtain ⟨N', HN'⟩ : ∃ N' : Int, Hid (N' = 0) := ⟨0, rfl⟩
              have HP5 : Hid (PlX V (.pointer (some p)) g B E N' M' B E N' M' ((((w4.setCell ⟨g, 0, none⟩ (.int .i64 B)).setCell ⟨g, 1, none⟩ (.int .i64 E)).setCell ⟨g, 2, none⟩ (.int .i64 0)).setCell ⟨g, 3, none⟩ (.int .i64 M'))) := by rw [HN'.out]; exact HP4.put B E 0 M'
              rw [← HN'.out] at eN
              clear HP4
              go_upto_region 12 with fail
              generalize (((w4.setCell ⟨g, 0, none⟩ (.int .i64 B)).setCell ⟨g, 1, none⟩ (.int .i64 E)).setCell ⟨g, 2, none⟩ (.int .i64 0)).setCell ⟨g, 3, none⟩ (.int .i64 M') = w5 at *
              clear f0 f1 f2 f3 f4 f5 f6 f7 f8
              have HPz : Hid (PlX V (.pointer (some p)) g B E N' M' B E N' M' w5) := HP5
              have HK : Hid (GOk B E N' M') := HPz.out.ok
              obtain ⟨ob, Ho⟩ : ∃ o, Hid (rO B E M' ep = o) := ⟨_, rfl⟩
              have HNo : Hid (∀ W, PlX V (.pointer (some p)) g B E N' M' B E N' M' W → Calls Try.prog 15 #[.pointer (some p)] W fun r w' => r = .returned (.int .i64 N') ∧ PlX V (.pointer (some p)) g B E N' M' B E N' M' w') := fun W h => xnow_any h
              have HOp : Hid (∀ W, PlX V (.pointer (some p)) g B E N' M' B E N' M' W → Calls Try.prog 16 #[.pointer (some p), .int .i64 ep] W fun r w' => r = .returned (.bool ob) ∧ PlX V (.pointer (some p)) g B E N' M' B E N' M' w') := fun W h => by rw [← Ho.out]; exact xopen_any ep h
              have HRo : Hid (∀ W, PlX V (.pointer (some p)) g B E N' M' B E N' M' W → Calls Try.prog 17 #[.agg #[.int .i64 B, .int .i64 E, .int .i64 N', .int .i64 M'], .int .i64 ep] W fun r w' => r = .returned (.bool ob) ∧ PlX V (.pointer (some p)) g B E N' M' B E N' M' w') := fun W h => by rw [← Ho.out]; exact (ropen_any B E N' M' ep HK.out W).mono fun r w' q => ⟨q.1, h.ext q.2⟩
              clear Ho HK HP5
              have HS : PlX V (.pointer (some p)) g B E N' M' B E N' M' w5.drew := HPz.out.ext (Ext.refl w5).drew
              refine wp_region_noPanic ?_
              refine wp_region_held (S := fun wx => PlX V (.pointer (some p)) g B E N' M' B E N' M' wx) (by kernel_rfl) ?_
              rw [show ({ w5 with drawn := w5.drawn + 1 } : World) = w5.drew from rfl]
              clear HPz
              generalize w5.drew = x0 at *
              refine held_take (i := 0) (v := ?vs1_0) rfl (by kernel_rfl) (by kernel_rfl) (by kernel_rfl) (fun _ _ _ h => h) rfl ?hys1_0 HS ?rests1_0
              case hys1_0 => (intro wx hSx; go_simp; try with_reducible rfl)
              try simp only [Act.put, List.setIfInBounds_toArray, List.set_cons_zero, List.set_cons_succ]
              refine held_take (i := 2) (v := ?vs1_2) rfl (by kernel_rfl) (by kernel_rfl) (by kernel_rfl) (fun _ _ _ h => h) rfl ?hys1_2 HS ?rests1_2
              case hys1_2 => (intro wx hSx; go_simp; try with_reducible rfl)
              try simp only [Act.put, List.setIfInBounds_toArray, List.set_cons_zero, List.set_cons_succ]
              refine held_take (i := 3) (v := ?vs1_3) rfl (by kernel_rfl) (by kernel_rfl) (by kernel_rfl) (fun _ _ _ h => h) rfl ?hys1_3 HS ?rests1_3
              case hys1_3 => (intro wx hSx; obtain ⟨f0, f1, f2, f3, f4, -⟩ := hSx.four; go_simp; try with_reducible rfl)
              try simp only [Act.put, List.setIfInBounds_toArray, List.set_cons_zero, List.set_cons_succ]
              refine held_one (i := 1) (by kernel_rfl) rfl rfl (fun K hK => ?_)
              try go_simp
              refine (HNo.out _ HS).mono ?_
              rintro r x1 ⟨rfl, H1⟩
              try go_simp
              refine hK.out _ _ ⟨H1, ?_⟩
              clear hK K
              try simp only [Act.put, List.setIfInBounds_toArray, List.set_cons_zero, List.set_cons_succ]
              refine held_take (i := 4) (v := ?vs1_4) rfl (by kernel_rfl) (by kernel_rfl) (by kernel_rfl) (fun _ _ _ h => h) rfl ?hys1_4 H1 ?rests1_4
              case hys1_4 => (intro wx hSx; go_simp; try with_reducible rfl)
              try simp only [Act.put, List.setIfInBounds_toArray, List.set_cons_zero, List.set_cons_succ]
              refine held_take (i := 5) (v := ?vs1_5) rfl (by kernel_rfl) (by kernel_rfl) (by kernel_rfl) (fun _ _ _ h => h) rfl ?hys1_5 H1 ?rests1_5
              case hys1_5 => (intro wx hSx; go_simp; try with_reducible rfl)
              try simp only [Act.put, List.setIfInBounds_toArray, List.set_cons_zero, List.set_cons_succ]
              refine held_take (i := 6) (v := ?vs1_6) rfl (by kernel_rfl) (by kernel_rfl) (by kernel_rfl) (fun _ _ _ h => h) rfl ?hys1_6 H1 ?rests1_6
              case hys1_6 => (intro wx hSx; go_simp; try with_reducible rfl)
              try simp only [Act.put, List.setIfInBounds_toArray, List.set_cons_zero, List.set_cons_succ]
              refine held_take (i := 7) (v := ?vs1_7) rfl (by kernel_rfl) (by kernel_rfl) (by kernel_rfl) (fun _ _ _ h => h) rfl ?hys1_7 H1 ?rests1_7
              case hys1_7 => (intro wx hSx; go_simp; try with_reducible rfl)
              try simp only [Act.put, List.setIfInBounds_toArray, List.set_cons_zero, List.set_cons_succ]
              refine held_take (i := 9) (v := ?vs1_9) rfl (by kernel_rfl) (by kernel_rfl) (by kernel_rfl) (fun _ _ _ h => h) rfl ?hys1_9 H1 ?rests1_9
              case hys1_9 => (intro wx hSx; obtain ⟨f0, f1, f2, f3, f4, -⟩ := hSx.four; go_simp; try with_reducible rfl)
              try simp only [Act.put, List.setIfInBounds_toArray, List.set_cons_zero, List.set_cons_succ]
              refine held_take (i := 10) (v := ?vs1_10) rfl (by kernel_rfl) (by kernel_rfl) (by kernel_rfl) (fun _ _ _ h => h) rfl ?hys1_10 H1 ?rests1_10
              case hys1_10 => (intro wx hSx; go_simp; try with_reducible rfl)
              try simp only [Act.put, List.setIfInBounds_toArray, List.set_cons_zero, List.set_cons_succ]
              refine held_one (i := 8) (by kernel_rfl) rfl rfl (fun K hK => ?_)
              try go_simp
              refine (HOp.out _ H1).mono ?_
              rintro r x2 ⟨rfl, H2⟩
              try go_simp
              refine hK.out _ _ ⟨H2, ?_⟩
              clear hK K
              try simp only [Act.put, List.setIfInBounds_toArray, List.set_cons_zero, List.set_cons_succ]
              refine held_one (i := 11) (by kernel_rfl) rfl rfl (fun K hK => ?_)
              try go_simp
              refine (HRo.out _ H2).mono ?_
              rintro r x3 ⟨rfl, H3⟩
              try go_simp
              refine hK.out _ _ ⟨H3, ?_⟩
              clear hK K
              try simp only [Act.put, List.setIfInBounds_toArray, List.set_cons_zero, List.set_cons_succ]
              refine held_take (i := 12) (v := ?vs1_12) rfl (by kernel_rfl) (by kernel_rfl) (by kernel_rfl) (fun _ _ _ h => h) rfl ?hys1_12 H3 ?rests1_12
              case hys1_12 => (intro wx hSx; go_simp; try with_reducible rfl)
              try simp only [Act.put, List.setIfInBounds_toArray, List.set_cons_zero, List.set_cons_succ]
              refine held_take (i := 13) (v := ?vs1_13) rfl (by kernel_rfl) (by kernel_rfl) (by kernel_rfl) (fun _ _ _ h => h) rfl ?hys1_13 H3 ?rests1_13
              case hys1_13 => (intro wx hSx; go_simp; try with_reducible rfl)
              try simp only [Act.put, List.setIfInBounds_toArray, List.set_cons_zero, List.set_cons_succ]
              refine wpAnyH_done (by kernel_rfl) ?_ _
              refine NoPanic.normal ?_
              have HPn : Hid (PlX V (.pointer (some p)) g B E N' M' B E N' M' x3) := H3
              clear HNo HOp HRo HS
              go_wp2_with fail
              go_roundw
              case rel => exact ⟨j + 1, hlt, by push_cast; rfl, by rw [eN, eM]; exact HPn⟩
              case measure => exact lp_meas hlt
            · obtain ⟨eN, eM⟩ := pl_tick (f := f) (j := j) (fun q => k2 q.2)
              have k2b : decide (-1000 < f j) = false := decide_eq_false k2
              have k2c : (-1000 < f j) = False := eq_false k2
              clear k2
              have C1 : Hid (∀ W, PlX V (.pointer (some p)) g B E Nj (pMs f j) B E Nj (pMs f j) W → Calls Try.prog 13 #[.pointer (some p), .int .i64 (f j)] W fun r w' => r = .returned (.tuple #[]) ∧ PlX V (.pointer (some p)) g B E (rN (f j)) (rM (pMs f j) (f j)) B E Nj (pMs f j) w') := fun W h => xtick_any (f j) h
              have C2 : Hid (∀ W, Calls Try.prog 14 #[.agg #[.int .i64 B, .int .i64 E, .int .i64 Nj, .int .i64 (pMs f j)], .int .i64 (f j)] W fun r w' => r = .returned (.agg #[.int .i64 B, .int .i64 E, .int .i64 (rN (f j)), .int .i64 (rM (pMs f j) (f j))]) ∧ Ext W w') := fun W => rtick_any B E Nj (pMs f j) (f j) W
              generalize rM (pMs f j) (f j) = M' at *
              generalize rN (f j) = N' at *
              generalize pMs f j = M0 at *
              replace eM : Hid (pMs f (j + 1) = M') := eM
              replace eN : Hid (pNs f (j + 1) = N') := eN
              go_wp2_with fail
              refine (C1.out _ HP.out).mono ?_
              rintro r w3 ⟨rfl, HP3⟩
              replace hc := later (HE0.out.trans HP3.old) hcw.out
              replace HP3 : Hid (PlX V (.pointer (some p)) g B E N' M' B E Nj M0 w3) := HP3
              clear HP C1
              go_upto_region 11 with fail
              have HS : PlX V (.pointer (some p)) g B E N' M' B E Nj M0 w3.drew := HP3.out.ext (Ext.refl w3).drew
              refine wp_region_noPanic ?_
              refine wp_region_until (X := 6) (S := fun wx => PlX V (.pointer (some p)) g B E N' M' B E Nj M0 wx) (by kernel_rfl) ?_
              clear HP3 hc
              refine until_take (i := 0) (v := ?vu1_0) rfl (by kernel_rfl) (by kernel_rfl) (by kernel_rfl) (by kernel_rfl) (by kernel_rfl) (fun _ _ _ h => h) rfl ?hyu1_0 HS ?restu1_0
              case hyu1_0 => (intro w hSw; obtain ⟨f0, f1, f2, f3, f4, -⟩ := hSw.four; go_simp; try with_reducible rfl)
              try simp only [Act.put, List.setIfInBounds_toArray, List.set_cons_zero, List.set_cons_succ]
              refine until_take (i := 1) (v := ?vu1_1) rfl (by kernel_rfl) (by kernel_rfl) (by kernel_rfl) (by kernel_rfl) (by kernel_rfl) (fun _ _ _ h => h) rfl ?hyu1_1 HS ?restu1_1
              case hyu1_1 => (intro w hSw; go_simp; try with_reducible rfl)
              try simp only [Act.put, List.setIfInBounds_toArray, List.set_cons_zero, List.set_cons_succ]
              refine until_take (i := 2) (v := ?vu1_2) rfl (by kernel_rfl) (by kernel_rfl) (by kernel_rfl) (by kernel_rfl) (by kernel_rfl) (fun _ _ _ h => h) rfl ?hyu1_2 HS ?restu1_2
              case hyu1_2 => (intro w hSw; go_simp; try with_reducible rfl)
              try simp only [Act.put, List.setIfInBounds_toArray, List.set_cons_zero, List.set_cons_succ]
              refine until_take (i := 3) (v := ?vu1_3) rfl (by kernel_rfl) (by kernel_rfl) (by kernel_rfl) (by kernel_rfl) (by kernel_rfl) (fun _ _ _ h => h) rfl ?hyu1_3 HS ?restu1_3
              case hyu1_3 => (intro w hSw; go_simp; try with_reducible rfl)
              try simp only [Act.put, List.setIfInBounds_toArray, List.set_cons_zero, List.set_cons_succ]
              refine until_take (i := 4) (v := ?vu1_4) rfl (by kernel_rfl) (by kernel_rfl) (by kernel_rfl) (by kernel_rfl) (by kernel_rfl) (fun _ _ _ h => h) rfl ?hyu1_4 HS ?restu1_4
              case hyu1_4 => (intro w hSw; have z0 := later (HE0.out.trans hSw.old) hcw.out; go_simp; try with_reducible rfl)
              try simp only [Act.put, List.setIfInBounds_toArray, List.set_cons_zero, List.set_cons_succ]
              refine until_one (i := 5) (by kernel_rfl) (by kernel_rfl) rfl rfl (fun K hK => ?_)
              go_simp
              refine (C2.out _).mono ?_
              rintro r w4 ⟨rfl, HX⟩
              have HS2 := HS.ext HX
              go_simp
              refine hK.out _ _ HS2 ?_
              clear hK K
              try simp only [Act.put, List.setIfInBounds_toArray, List.set_cons_zero, List.set_cons_succ]
              clear HS HX
              obtain ⟨f0, f1, f2, f3, f4, f5, f6, f7, f8⟩ := HS2.four
              refine until_last (by kernel_rfl) (by kernel_rfl) rfl rfl (fun K hK => ?_)
              go_simp
              refine hK.out _ _ (NoPanic.normal ?_)
              clear hK K
              try simp only [Act.put, List.setIfInBounds_toArray, List.set_cons_zero, List.set_cons_succ]
              have HP5 : Hid (PlX V (.pointer (some p)) g B E N' M' B E N' M' ((((w4.setCell ⟨g, 0, none⟩ (.int .i64 B)).setCell ⟨g, 1, none⟩ (.int .i64 E)).setCell ⟨g, 2, none⟩ (.int .i64 N')).setCell ⟨g, 3, none⟩ (.int .i64 M'))) := HS2.put B E N' M'
              clear HS2 C2
              go_upto_region 12 with fail
              generalize (((w4.setCell ⟨g, 0, none⟩ (.int .i64 B)).setCell ⟨g, 1, none⟩ (.int .i64 E)).setCell ⟨g, 2, none⟩ (.int .i64 N')).setCell ⟨g, 3, none⟩ (.int .i64 M') = w5 at *
              clear f0 f1 f2 f3 f4 f5 f6 f7 f8
              have HPz : Hid (PlX V (.pointer (some p)) g B E N' M' B E N' M' w5) := HP5
              have HK : Hid (GOk B E N' M') := HPz.out.ok
              obtain ⟨ob, Ho⟩ : ∃ o, Hid (rO B E M' ep = o) := ⟨_, rfl⟩
              have HNo : Hid (∀ W, PlX V (.pointer (some p)) g B E N' M' B E N' M' W → Calls Try.prog 15 #[.pointer (some p)] W fun r w' => r = .returned (.int .i64 N') ∧ PlX V (.pointer (some p)) g B E N' M' B E N' M' w') := fun W h => xnow_any h
              have HOp : Hid (∀ W, PlX V (.pointer (some p)) g B E N' M' B E N' M' W → Calls Try.prog 16 #[.pointer (some p), .int .i64 ep] W fun r w' => r = .returned (.bool ob) ∧ PlX V (.pointer (some p)) g B E N' M' B E N' M' w') := fun W h => by rw [← Ho.out]; exact xopen_any ep h
              have HRo : Hid (∀ W, PlX V (.pointer (some p)) g B E N' M' B E N' M' W → Calls Try.prog 17 #[.agg #[.int .i64 B, .int .i64 E, .int .i64 N', .int .i64 M'], .int .i64 ep] W fun r w' => r = .returned (.bool ob) ∧ PlX V (.pointer (some p)) g B E N' M' B E N' M' w') := fun W h => by rw [← Ho.out]; exact (ropen_any B E N' M' ep HK.out W).mono fun r w' q => ⟨q.1, h.ext q.2⟩
              clear Ho HK HP5
              have HS : PlX V (.pointer (some p)) g B E N' M' B E N' M' w5.drew := HPz.out.ext (Ext.refl w5).drew
              refine wp_region_noPanic ?_
              refine wp_region_held (S := fun wx => PlX V (.pointer (some p)) g B E N' M' B E N' M' wx) (by kernel_rfl) ?_
              rw [show ({ w5 with drawn := w5.drawn + 1 } : World) = w5.drew from rfl]
              clear HPz
              generalize w5.drew = x0 at *
              refine held_take (i := 0) (v := ?vs2_0) rfl (by kernel_rfl) (by kernel_rfl) (by kernel_rfl) (fun _ _ _ h => h) rfl ?hys2_0 HS ?rests2_0
              case hys2_0 => (intro wx hSx; go_simp; try with_reducible rfl)
              try simp only [Act.put, List.setIfInBounds_toArray, List.set_cons_zero, List.set_cons_succ]
              refine held_take (i := 2) (v := ?vs2_2) rfl (by kernel_rfl) (by kernel_rfl) (by kernel_rfl) (fun _ _ _ h => h) rfl ?hys2_2 HS ?rests2_2
              case hys2_2 => (intro wx hSx; go_simp; try with_reducible rfl)
              try simp only [Act.put, List.setIfInBounds_toArray, List.set_cons_zero, List.set_cons_succ]
              refine held_take (i := 3) (v := ?vs2_3) rfl (by kernel_rfl) (by kernel_rfl) (by kernel_rfl) (fun _ _ _ h => h) rfl ?hys2_3 HS ?rests2_3
              case hys2_3 => (intro wx hSx; obtain ⟨f0, f1, f2, f3, f4, -⟩ := hSx.four; go_simp; try with_reducible rfl)
              try simp only [Act.put, List.setIfInBounds_toArray, List.set_cons_zero, List.set_cons_succ]
              refine held_one (i := 1) (by kernel_rfl) rfl rfl (fun K hK => ?_)
              try go_simp
              refine (HNo.out _ HS).mono ?_
              rintro r x1 ⟨rfl, H1⟩
              try go_simp
              refine hK.out _ _ ⟨H1, ?_⟩
              clear hK K
              try simp only [Act.put, List.setIfInBounds_toArray, List.set_cons_zero, List.set_cons_succ]
              refine held_take (i := 4) (v := ?vs2_4) rfl (by kernel_rfl) (by kernel_rfl) (by kernel_rfl) (fun _ _ _ h => h) rfl ?hys2_4 H1 ?rests2_4
              case hys2_4 => (intro wx hSx; go_simp; try with_reducible rfl)
              try simp only [Act.put, List.setIfInBounds_toArray, List.set_cons_zero, List.set_cons_succ]
              refine held_take (i := 5) (v := ?vs2_5) rfl (by kernel_rfl) (by kernel_rfl) (by kernel_rfl) (fun _ _ _ h => h) rfl ?hys2_5 H1 ?rests2_5
              case hys2_5 => (intro wx hSx; go_simp; try with_reducible rfl)
              try simp only [Act.put, List.setIfInBounds_toArray, List.set_cons_zero, List.set_cons_succ]
              refine held_take (i := 6) (v := ?vs2_6) rfl (by kernel_rfl) (by kernel_rfl) (by kernel_rfl) (fun _ _ _ h => h) rfl ?hys2_6 H1 ?rests2_6
              case hys2_6 => (intro wx hSx; go_simp; try with_reducible rfl)
              try simp only [Act.put, List.setIfInBounds_toArray, List.set_cons_zero, List.set_cons_succ]
              refine held_take (i := 7) (v := ?vs2_7) rfl (by kernel_rfl) (by kernel_rfl) (by kernel_rfl) (fun _ _ _ h => h) rfl ?hys2_7 H1 ?rests2_7
              case hys2_7 => (intro wx hSx; go_simp; try with_reducible rfl)
              try simp only [Act.put, List.setIfInBounds_toArray, List.set_cons_zero, List.set_cons_succ]
              refine held_take (i := 9) (v := ?vs2_9) rfl (by kernel_rfl) (by kernel_rfl) (by kernel_rfl) (fun _ _ _ h => h) rfl ?hys2_9 H1 ?rests2_9
              case hys2_9 => (intro wx hSx; obtain ⟨f0, f1, f2, f3, f4, -⟩ := hSx.four; go_simp; try with_reducible rfl)
              try simp only [Act.put, List.setIfInBounds_toArray, List.set_cons_zero, List.set_cons_succ]
              refine held_take (i := 10) (v := ?vs2_10) rfl (by kernel_rfl) (by kernel_rfl) (by kernel_rfl) (fun _ _ _ h => h) rfl ?hys2_10 H1 ?rests2_10
              case hys2_10 => (intro wx hSx; go_simp; try with_reducible rfl)
              try simp only [Act.put, List.setIfInBounds_toArray, List.set_cons_zero, List.set_cons_succ]
              refine held_one (i := 8) (by kernel_rfl) rfl rfl (fun K hK => ?_)
              try go_simp
              refine (HOp.out _ H1).mono ?_
              rintro r x2 ⟨rfl, H2⟩
              try go_simp
              refine hK.out _ _ ⟨H2, ?_⟩
              clear hK K
              try simp only [Act.put, List.setIfInBounds_toArray, List.set_cons_zero, List.set_cons_succ]
              refine held_one (i := 11) (by kernel_rfl) rfl rfl (fun K hK => ?_)
              try go_simp
              refine (HRo.out _ H2).mono ?_
              rintro r x3 ⟨rfl, H3⟩
              try go_simp
              refine hK.out _ _ ⟨H3, ?_⟩
              clear hK K
              try simp only [Act.put, List.setIfInBounds_toArray, List.set_cons_zero, List.set_cons_succ]
              refine held_take (i := 12) (v := ?vs2_12) rfl (by kernel_rfl) (by kernel_rfl) (by kernel_rfl) (fun _ _ _ h => h) rfl ?hys2_12 H3 ?rests2_12
              case hys2_12 => (intro wx hSx; go_simp; try with_reducible rfl)
              try simp only [Act.put, List.setIfInBounds_toArray, List.set_cons_zero, List.set_cons_succ]
              refine held_take (i := 13) (v := ?vs2_13) rfl (by kernel_rfl) (by kernel_rfl) (by kernel_rfl) (fun _ _ _ h => h) rfl ?hys2_13 H3 ?rests2_13
              case hys2_13 => (intro wx hSx; go_simp; try with_reducible rfl)
              try simp only [Act.put, List.setIfInBounds_toArray, List.set_cons_zero, List.set_cons_succ]
              refine wpAnyH_done (by kernel_rfl) ?_ _
              refine NoPanic.normal ?_
              have HPn : Hid (PlX V (.pointer (some p)) g B E N' M' B E N' M' x3) := H3
              clear HNo HOp HRo HS
              go_wp2_with fail
              go_roundw
              case rel => exact ⟨j + 1, hlt, by push_cast; rfl, by rw [eN, eM]; exact HPn⟩
              case measure => exact lp_meas hlt
          · obtain ⟨eN, eM⟩ := pl_tick (f := f) (j := j) (fun q => k1 q.1)
            have k1b : decide (f j < 0) = false := decide_eq_false k1
            have k1c : (f j < 0) = False := eq_false k1
            clear k1
            have C1 : Hid (∀ W, PlX V (.pointer (some p)) g B E Nj (pMs f j) B E Nj (pMs f j) W → Calls Try.prog 13 #[.pointer (some p), .int .i64 (f j)] W fun r w' => r = .returned (.tuple #[]) ∧ PlX V (.pointer (some p)) g B E (rN (f j)) (rM (pMs f j) (f j)) B E Nj (pMs f j) w') := fun W h => xtick_any (f j) h
            have C2 : Hid (∀ W, Calls Try.prog 14 #[.agg #[.int .i64 B, .int .i64 E, .int .i64 Nj, .int .i64 (pMs f j)], .int .i64 (f j)] W fun r w' => r = .returned (.agg #[.int .i64 B, .int .i64 E, .int .i64 (rN (f j)), .int .i64 (rM (pMs f j) (f j))]) ∧ Ext W w') := fun W => rtick_any B E Nj (pMs f j) (f j) W
            generalize rM (pMs f j) (f j) = M' at *
            generalize rN (f j) = N' at *
            generalize pMs f j = M0 at *
            replace eM : Hid (pMs f (j + 1) = M') := eM
            replace eN : Hid (pNs f (j + 1) = N') := eN
            go_wp2_with fail
            refine (C1.out _ HP.out).mono ?_
            rintro r w3 ⟨rfl, HP3⟩
            replace hc := later (HE0.out.trans HP3.old) hcw.out
            replace HP3 : Hid (PlX V (.pointer (some p)) g B E N' M' B E Nj M0 w3) := HP3
            clear HP C1
            go_upto_region 11 with fail
            have HS : PlX V (.pointer (some p)) g B E N' M' B E Nj M0 w3.drew := HP3.out.ext (Ext.refl w3).drew
            refine wp_region_noPanic ?_
            refine wp_region_until (X := 6) (S := fun wx => PlX V (.pointer (some p)) g B E N' M' B E Nj M0 wx) (by kernel_rfl) ?_
            clear HP3 hc
            refine until_take (i := 0) (v := ?vu2_0) rfl (by kernel_rfl) (by kernel_rfl) (by kernel_rfl) (by kernel_rfl) (by kernel_rfl) (fun _ _ _ h => h) rfl ?hyu2_0 HS ?restu2_0
            case hyu2_0 => (intro w hSw; obtain ⟨f0, f1, f2, f3, f4, -⟩ := hSw.four; go_simp; try with_reducible rfl)
            try simp only [Act.put, List.setIfInBounds_toArray, List.set_cons_zero, List.set_cons_succ]
            refine until_take (i := 1) (v := ?vu2_1) rfl (by kernel_rfl) (by kernel_rfl) (by kernel_rfl) (by kernel_rfl) (by kernel_rfl) (fun _ _ _ h => h) rfl ?hyu2_1 HS ?restu2_1
            case hyu2_1 => (intro w hSw; go_simp; try with_reducible rfl)
            try simp only [Act.put, List.setIfInBounds_toArray, List.set_cons_zero, List.set_cons_succ]
            refine until_take (i := 2) (v := ?vu2_2) rfl (by kernel_rfl) (by kernel_rfl) (by kernel_rfl) (by kernel_rfl) (by kernel_rfl) (fun _ _ _ h => h) rfl ?hyu2_2 HS ?restu2_2
            case hyu2_2 => (intro w hSw; go_simp; try with_reducible rfl)
            try simp only [Act.put, List.setIfInBounds_toArray, List.set_cons_zero, List.set_cons_succ]
            refine until_take (i := 3) (v := ?vu2_3) rfl (by kernel_rfl) (by kernel_rfl) (by kernel_rfl) (by kernel_rfl) (by kernel_rfl) (fun _ _ _ h => h) rfl ?hyu2_3 HS ?restu2_3
            case hyu2_3 => (intro w hSw; go_simp; try with_reducible rfl)
            try simp only [Act.put, List.setIfInBounds_toArray, List.set_cons_zero, List.set_cons_succ]
            refine until_take (i := 4) (v := ?vu2_4) rfl (by kernel_rfl) (by kernel_rfl) (by kernel_rfl) (by kernel_rfl) (by kernel_rfl) (fun _ _ _ h => h) rfl ?hyu2_4 HS ?restu2_4
            case hyu2_4 => (intro w hSw; have z0 := later (HE0.out.trans hSw.old) hcw.out; go_simp; try with_reducible rfl)
            try simp only [Act.put, List.setIfInBounds_toArray, List.set_cons_zero, List.set_cons_succ]
            refine until_one (i := 5) (by kernel_rfl) (by kernel_rfl) rfl rfl (fun K hK => ?_)
            go_simp
            refine (C2.out _).mono ?_
            rintro r w4 ⟨rfl, HX⟩
            have HS2 := HS.ext HX
            go_simp
            refine hK.out _ _ HS2 ?_
            clear hK K
            try simp only [Act.put, List.setIfInBounds_toArray, List.set_cons_zero, List.set_cons_succ]
            clear HS HX
            obtain ⟨f0, f1, f2, f3, f4, f5, f6, f7, f8⟩ := HS2.four
            refine until_last (by kernel_rfl) (by kernel_rfl) rfl rfl (fun K hK => ?_)
            go_simp
            refine hK.out _ _ (NoPanic.normal ?_)
            clear hK K
            try simp only [Act.put, List.setIfInBounds_toArray, List.set_cons_zero, List.set_cons_succ]
            have HP5 : Hid (PlX V (.pointer (some p)) g B E N' M' B E N' M' ((((w4.setCell ⟨g, 0, none⟩ (.int .i64 B)).setCell ⟨g, 1, none⟩ (.int .i64 E)).setCell ⟨g, 2, none⟩ (.int .i64 N')).setCell ⟨g, 3, none⟩ (.int .i64 M'))) := HS2.put B E N' M'
            clear HS2 C2
            go_upto_region 12 with fail
            generalize (((w4.setCell ⟨g, 0, none⟩ (.int .i64 B)).setCell ⟨g, 1, none⟩ (.int .i64 E)).setCell ⟨g, 2, none⟩ (.int .i64 N')).setCell ⟨g, 3, none⟩ (.int .i64 M') = w5 at *
            clear f0 f1 f2 f3 f4 f5 f6 f7 f8
            have HPz : Hid (PlX V (.pointer (some p)) g B E N' M' B E N' M' w5) := HP5
            have HK : Hid (GOk B E N' M') := HPz.out.ok
            obtain ⟨ob, Ho⟩ : ∃ o, Hid (rO B E M' ep = o) := ⟨_, rfl⟩
            have HNo : Hid (∀ W, PlX V (.pointer (some p)) g B E N' M' B E N' M' W → Calls Try.prog 15 #[.pointer (some p)] W fun r w' => r = .returned (.int .i64 N') ∧ PlX V (.pointer (some p)) g B E N' M' B E N' M' w') := fun W h => xnow_any h
            have HOp : Hid (∀ W, PlX V (.pointer (some p)) g B E N' M' B E N' M' W → Calls Try.prog 16 #[.pointer (some p), .int .i64 ep] W fun r w' => r = .returned (.bool ob) ∧ PlX V (.pointer (some p)) g B E N' M' B E N' M' w') := fun W h => by rw [← Ho.out]; exact xopen_any ep h
            have HRo : Hid (∀ W, PlX V (.pointer (some p)) g B E N' M' B E N' M' W → Calls Try.prog 17 #[.agg #[.int .i64 B, .int .i64 E, .int .i64 N', .int .i64 M'], .int .i64 ep] W fun r w' => r = .returned (.bool ob) ∧ PlX V (.pointer (some p)) g B E N' M' B E N' M' w') := fun W h => by rw [← Ho.out]; exact (ropen_any B E N' M' ep HK.out W).mono fun r w' q => ⟨q.1, h.ext q.2⟩
            clear Ho HK HP5
            have HS : PlX V (.pointer (some p)) g B E N' M' B E N' M' w5.drew := HPz.out.ext (Ext.refl w5).drew
            refine wp_region_noPanic ?_
            refine wp_region_held (S := fun wx => PlX V (.pointer (some p)) g B E N' M' B E N' M' wx) (by kernel_rfl) ?_
            rw [show ({ w5 with drawn := w5.drawn + 1 } : World) = w5.drew from rfl]
            clear HPz
            generalize w5.drew = x0 at *
            refine held_take (i := 0) (v := ?vs3_0) rfl (by kernel_rfl) (by kernel_rfl) (by kernel_rfl) (fun _ _ _ h => h) rfl ?hys3_0 HS ?rests3_0
            case hys3_0 => (intro wx hSx; go_simp; try with_reducible rfl)
            try simp only [Act.put, List.setIfInBounds_toArray, List.set_cons_zero, List.set_cons_succ]
            refine held_take (i := 2) (v := ?vs3_2) rfl (by kernel_rfl) (by kernel_rfl) (by kernel_rfl) (fun _ _ _ h => h) rfl ?hys3_2 HS ?rests3_2
            case hys3_2 => (intro wx hSx; go_simp; try with_reducible rfl)
            try simp only [Act.put, List.setIfInBounds_toArray, List.set_cons_zero, List.set_cons_succ]
            refine held_take (i := 3) (v := ?vs3_3) rfl (by kernel_rfl) (by kernel_rfl) (by kernel_rfl) (fun _ _ _ h => h) rfl ?hys3_3 HS ?rests3_3
            case hys3_3 => (intro wx hSx; obtain ⟨f0, f1, f2, f3, f4, -⟩ := hSx.four; go_simp; try with_reducible rfl)
            try simp only [Act.put, List.setIfInBounds_toArray, List.set_cons_zero, List.set_cons_succ]
            refine held_one (i := 1) (by kernel_rfl) rfl rfl (fun K hK => ?_)
            try go_simp
            refine (HNo.out _ HS).mono ?_
            rintro r x1 ⟨rfl, H1⟩
            try go_simp
            refine hK.out _ _ ⟨H1, ?_⟩
            clear hK K
            try simp only [Act.put, List.setIfInBounds_toArray, List.set_cons_zero, List.set_cons_succ]
            refine held_take (i := 4) (v := ?vs3_4) rfl (by kernel_rfl) (by kernel_rfl) (by kernel_rfl) (fun _ _ _ h => h) rfl ?hys3_4 H1 ?rests3_4
            case hys3_4 => (intro wx hSx; go_simp; try with_reducible rfl)
            try simp only [Act.put, List.setIfInBounds_toArray, List.set_cons_zero, List.set_cons_succ]
            refine held_take (i := 5) (v := ?vs3_5) rfl (by kernel_rfl) (by kernel_rfl) (by kernel_rfl) (fun _ _ _ h => h) rfl ?hys3_5 H1 ?rests3_5
            case hys3_5 => (intro wx hSx; go_simp; try with_reducible rfl)
            try simp only [Act.put, List.setIfInBounds_toArray, List.set_cons_zero, List.set_cons_succ]
            refine held_take (i := 6) (v := ?vs3_6) rfl (by kernel_rfl) (by kernel_rfl) (by kernel_rfl) (fun _ _ _ h => h) rfl ?hys3_6 H1 ?rests3_6
            case hys3_6 => (intro wx hSx; go_simp; try with_reducible rfl)
            try simp only [Act.put, List.setIfInBounds_toArray, List.set_cons_zero, List.set_cons_succ]
            refine held_take (i := 7) (v := ?vs3_7) rfl (by kernel_rfl) (by kernel_rfl) (by kernel_rfl) (fun _ _ _ h => h) rfl ?hys3_7 H1 ?rests3_7
            case hys3_7 => (intro wx hSx; go_simp; try with_reducible rfl)
            try simp only [Act.put, List.setIfInBounds_toArray, List.set_cons_zero, List.set_cons_succ]
            refine held_take (i := 9) (v := ?vs3_9) rfl (by kernel_rfl) (by kernel_rfl) (by kernel_rfl) (fun _ _ _ h => h) rfl ?hys3_9 H1 ?rests3_9
            case hys3_9 => (intro wx hSx; obtain ⟨f0, f1, f2, f3, f4, -⟩ := hSx.four; go_simp; try with_reducible rfl)
            try simp only [Act.put, List.setIfInBounds_toArray, List.set_cons_zero, List.set_cons_succ]
            refine held_take (i := 10) (v := ?vs3_10) rfl (by kernel_rfl) (by kernel_rfl) (by kernel_rfl) (fun _ _ _ h => h) rfl ?hys3_10 H1 ?rests3_10
            case hys3_10 => (intro wx hSx; go_simp; try with_reducible rfl)
            try simp only [Act.put, List.setIfInBounds_toArray, List.set_cons_zero, List.set_cons_succ]
            refine held_one (i := 8) (by kernel_rfl) rfl rfl (fun K hK => ?_)
            try go_simp
            refine (HOp.out _ H1).mono ?_
            rintro r x2 ⟨rfl, H2⟩
            try go_simp
            refine hK.out _ _ ⟨H2, ?_⟩
            clear hK K
            try simp only [Act.put, List.setIfInBounds_toArray, List.set_cons_zero, List.set_cons_succ]
            refine held_one (i := 11) (by kernel_rfl) rfl rfl (fun K hK => ?_)
            try go_simp
            refine (HRo.out _ H2).mono ?_
            rintro r x3 ⟨rfl, H3⟩
            try go_simp
            refine hK.out _ _ ⟨H3, ?_⟩
            clear hK K
            try simp only [Act.put, List.setIfInBounds_toArray, List.set_cons_zero, List.set_cons_succ]
            refine held_take (i := 12) (v := ?vs3_12) rfl (by kernel_rfl) (by kernel_rfl) (by kernel_rfl) (fun _ _ _ h => h) rfl ?hys3_12 H3 ?rests3_12
            case hys3_12 => (intro wx hSx; go_simp; try with_reducible rfl)
            try simp only [Act.put, List.setIfInBounds_toArray, List.set_cons_zero, List.set_cons_succ]
            refine held_take (i := 13) (v := ?vs3_13) rfl (by kernel_rfl) (by kernel_rfl) (by kernel_rfl) (fun _ _ _ h => h) rfl ?hys3_13 H3 ?rests3_13
            case hys3_13 => (intro wx hSx; go_simp; try with_reducible rfl)
            try simp only [Act.put, List.setIfInBounds_toArray, List.set_cons_zero, List.set_cons_succ]
            refine wpAnyH_done (by kernel_rfl) ?_ _
            refine NoPanic.normal ?_
            have HPn : Hid (PlX V (.pointer (some p)) g B E N' M' B E N' M' x3) := H3
            clear HNo HOp HRo HS
            go_wp2_with fail
            go_roundw
            case rel => exact ⟨j + 1, hlt, by push_cast; rfl, by rw [eN, eM]; exact HPn⟩
            case measure => exact lp_meas hlt
        · have hnl : ¬ (j : Int) < (n : Int) := by omega
          generalize pNs f j = Nj at HP
          generalize pMs f j = Mj at HP
          have HK : Hid (GOk B E Nj Mj) := HP.out.ok
          go_wp2_with fail
          go_loopw [10] (fun u10 wr => ∃ (i : Nat) (z : Int), i ≤ 66 ∧ u10 = .int .i64 z ∧ Hid (z = (i : Int) - 1) ∧ Hid (PlX V (.pointer (some p)) g B E Nj Mj B E Nj Mj wr)) (fun u10 _ => 66 - (intOf u10 + 1).toNat)
          case atStart => exact ⟨0, -1, by decide, rfl, rfl, HP⟩
          case round =>
            rename World => W1
            obtain ⟨i, z, hi, rfl, Hz, HP2⟩ := hrel
            clear HP
            by_cases hlt2 : i < 66
            · have z1 : z ≤ 64 := by have := Hz.out; omega
              have z2 : IntKind.i64.wrap (z + 1) = z + 1 := by have := Hz.out; rw [IntKind.wrap_i64]; omega
              have Hz2 : Hid (z + 1 = ((i + 1 : Nat) : Int) - 1) := by have := Hz.out; show _ = _; omega
              have HM : 66 - (intOf (.int .i64 (z + 1)) + 1).toNat < 66 - (intOf (.int .i64 z) + 1).toNat := by
                have := Hz.out
                simp only [intOf]
                omega
              have HM : Hid _ := HM
              clear Hz
              obtain ⟨ob, Ho⟩ : ∃ o, Hid (rO B E Mj z = o) := ⟨_, rfl⟩
              obtain ⟨t, Ht⟩ : ∃ t, Hid (rT B E z = t) := ⟨_, rfl⟩
              have HOp : Hid (∀ W, PlX V (.pointer (some p)) g B E Nj Mj B E Nj Mj W → Calls Try.prog 16 #[.pointer (some p), .int .i64 z] W fun r w' => r = .returned (.bool ob) ∧ PlX V (.pointer (some p)) g B E Nj Mj B E Nj Mj w') := fun W h => by rw [← Ho.out]; exact xopen_any z h
              have HRo : Hid (∀ W, PlX V (.pointer (some p)) g B E Nj Mj B E Nj Mj W → Calls Try.prog 17 #[.agg #[.int .i64 B, .int .i64 E, .int .i64 Nj, .int .i64 Mj], .int .i64 z] W fun r w' => r = .returned (.bool ob) ∧ PlX V (.pointer (some p)) g B E Nj Mj B E Nj Mj w') := fun W h => by rw [← Ho.out]; exact (ropen_any B E Nj Mj z HK.out W).mono fun r w' q => ⟨q.1, h.ext q.2⟩
              have HTm : Hid (∀ W, PlX V (.pointer (some p)) g B E Nj Mj B E Nj Mj W → Calls Try.prog 18 #[.pointer (some p), .int .i64 z] W fun r w' => r = .returned (.int .i64 t) ∧ PlX V (.pointer (some p)) g B E Nj Mj B E Nj Mj w') := fun W h => by rw [← Ht.out]; exact xtime_any z h
              have HRt : Hid (∀ W, PlX V (.pointer (some p)) g B E Nj Mj B E Nj Mj W → Calls Try.prog 19 #[.agg #[.int .i64 B, .int .i64 E, .int .i64 Nj, .int .i64 Mj], .int .i64 z] W fun r w' => r = .returned (.int .i64 t) ∧ PlX V (.pointer (some p)) g B E Nj Mj B E Nj Mj w') := fun W h => by rw [← Ht.out]; exact (rtime_any B E Nj Mj z HK.out W).mono fun r w' q => ⟨q.1, h.ext q.2⟩
              clear Ho Ht
              go_upto_region 17 with fail
              have HS : PlX V (.pointer (some p)) g B E Nj Mj B E Nj Mj W1.drew := HP2.out.ext (Ext.refl W1).drew
              refine wp_region_noPanic ?_
              refine wp_region_held (S := fun wx => PlX V (.pointer (some p)) g B E Nj Mj B E Nj Mj wx) (by kernel_rfl) ?_
              rw [show ({ W1 with drawn := W1.drawn + 1 } : World) = W1.drew from rfl]
              clear HP2
              generalize W1.drew = x0 at *
              refine held_take (i := 0) (v := ?vr0) rfl (by kernel_rfl) (by kernel_rfl) (by kernel_rfl) (fun _ _ _ h => h) rfl ?hyr0 HS ?restr0
              case hyr0 => (intro wx hSx; go_simp; try with_reducible rfl)
              try simp only [Act.put, List.setIfInBounds_toArray, List.set_cons_zero, List.set_cons_succ]
              refine held_take (i := 1) (v := ?vr1) rfl (by kernel_rfl) (by kernel_rfl) (by kernel_rfl) (fun _ _ _ h => h) rfl ?hyr1 HS ?restr1
              case hyr1 => (intro wx hSx; go_simp; try with_reducible rfl)
              try simp only [Act.put, List.setIfInBounds_toArray, List.set_cons_zero, List.set_cons_succ]
              refine held_take (i := 3) (v := ?vr3) rfl (by kernel_rfl) (by kernel_rfl) (by kernel_rfl) (fun _ _ _ h => h) rfl ?hyr3 HS ?restr3
              case hyr3 => (intro wx hSx; obtain ⟨f0, f1, f2, f3, f4, -⟩ := hSx.four; go_simp; try with_reducible rfl)
              try simp only [Act.put, List.setIfInBounds_toArray, List.set_cons_zero, List.set_cons_succ]
              refine held_take (i := 4) (v := ?vr4) rfl (by kernel_rfl) (by kernel_rfl) (by kernel_rfl) (fun _ _ _ h => h) rfl ?hyr4 HS ?restr4
              case hyr4 => (intro wx hSx; go_simp; try with_reducible rfl)
              try simp only [Act.put, List.setIfInBounds_toArray, List.set_cons_zero, List.set_cons_succ]
              refine held_one (i := 2) (by kernel_rfl) rfl rfl (fun K hK => ?_)
              try go_simp
              refine (HOp.out _ HS).mono ?_
              rintro r x1 ⟨rfl, H1⟩
              try go_simp
              refine hK.out _ _ ⟨H1, ?_⟩
              clear hK K
              try simp only [Act.put, List.setIfInBounds_toArray, List.set_cons_zero, List.set_cons_succ]
              refine held_one (i := 5) (by kernel_rfl) rfl rfl (fun K hK => ?_)
              try go_simp
              refine (HRo.out _ H1).mono ?_
              rintro r x2 ⟨rfl, H2⟩
              try go_simp
              refine hK.out _ _ ⟨H2, ?_⟩
              clear hK K
              try simp only [Act.put, List.setIfInBounds_toArray, List.set_cons_zero, List.set_cons_succ]
              refine held_take (i := 6) (v := ?vr6) rfl (by kernel_rfl) (by kernel_rfl) (by kernel_rfl) (fun _ _ _ h => h) rfl ?hyr6 H2 ?restr6
              case hyr6 => (intro wx hSx; go_simp; try with_reducible rfl)
              try simp only [Act.put, List.setIfInBounds_toArray, List.set_cons_zero, List.set_cons_succ]
              refine held_take (i := 7) (v := ?vr7) rfl (by kernel_rfl) (by kernel_rfl) (by kernel_rfl) (fun _ _ _ h => h) rfl ?hyr7 H2 ?restr7
              case hyr7 => (intro wx hSx; go_simp; try with_reducible rfl)
              try simp only [Act.put, List.setIfInBounds_toArray, List.set_cons_zero, List.set_cons_succ]
              refine held_take (i := 8) (v := ?vr8) rfl (by kernel_rfl) (by kernel_rfl) (by kernel_rfl) (fun _ _ _ h => h) rfl ?hyr8 H2 ?restr8
              case hyr8 => (intro wx hSx; go_simp; try with_reducible rfl)
              try simp only [Act.put, List.setIfInBounds_toArray, List.set_cons_zero, List.set_cons_succ]
              refine held_take (i := 9) (v := ?vr9) rfl (by kernel_rfl) (by kernel_rfl) (by kernel_rfl) (fun _ _ _ h => h) rfl ?hyr9 H2 ?restr9
              case hyr9 => (intro wx hSx; go_simp; try with_reducible rfl)
              try simp only [Act.put, List.setIfInBounds_toArray, List.set_cons_zero, List.set_cons_succ]
              refine held_take (i := 11) (v := ?vr11) rfl (by kernel_rfl) (by kernel_rfl) (by kernel_rfl) (fun _ _ _ h => h) rfl ?hyr11 H2 ?restr11
              case hyr11 => (intro wx hSx; obtain ⟨f0, f1, f2, f3, f4, -⟩ := hSx.four; go_simp; try with_reducible rfl)
              try simp only [Act.put, List.setIfInBounds_toArray, List.set_cons_zero, List.set_cons_succ]
              refine held_take (i := 12) (v := ?vr12) rfl (by kernel_rfl) (by kernel_rfl) (by kernel_rfl) (fun _ _ _ h => h) rfl ?hyr12 H2 ?restr12
              case hyr12 => (intro wx hSx; go_simp; try with_reducible rfl)
              try simp only [Act.put, List.setIfInBounds_toArray, List.set_cons_zero, List.set_cons_succ]
              refine held_one (i := 10) (by kernel_rfl) rfl rfl (fun K hK => ?_)
              try go_simp
              refine (HTm.out _ H2).mono ?_
              rintro r x3 ⟨rfl, H3⟩
              try go_simp
              refine hK.out _ _ ⟨H3, ?_⟩
              clear hK K
              try simp only [Act.put, List.setIfInBounds_toArray, List.set_cons_zero, List.set_cons_succ]
              refine held_one (i := 13) (by kernel_rfl) rfl rfl (fun K hK => ?_)
              try go_simp
              refine (HRt.out _ H3).mono ?_
              rintro r x4 ⟨rfl, H4⟩
              try go_simp
              refine hK.out _ _ ⟨H4, ?_⟩
              clear hK K
              try simp only [Act.put, List.setIfInBounds_toArray, List.set_cons_zero, List.set_cons_succ]
              refine held_take (i := 14) (v := ?vr14) rfl (by kernel_rfl) (by kernel_rfl) (by kernel_rfl) (fun _ _ _ h => h) rfl ?hyr14 H4 ?restr14
              case hyr14 => (intro wx hSx; go_simp; try with_reducible rfl)
              try simp only [Act.put, List.setIfInBounds_toArray, List.set_cons_zero, List.set_cons_succ]
              refine held_take (i := 15) (v := ?vr15) rfl (by kernel_rfl) (by kernel_rfl) (by kernel_rfl) (fun _ _ _ h => h) rfl ?hyr15 H4 ?restr15
              case hyr15 => (intro wx hSx; go_simp; try with_reducible rfl)
              try simp only [Act.put, List.setIfInBounds_toArray, List.set_cons_zero, List.set_cons_succ]
              refine wpAnyH_done (by kernel_rfl) ?_ _
              refine NoPanic.normal ?_
              have HPn : Hid (PlX V (.pointer (some p)) g B E Nj Mj B E Nj Mj x4) := H4
              clear HOp HRo HTm HRt
              go_wp2_with fail
              go_roundw
              case rel => exact ⟨i + 1, z + 1, hlt2, rfl, Hz2, HPn⟩
              case measure => exact HM.out
            · have z0 : (z ≤ 64) = False := eq_false (by have := Hz.out; omega)
              have z1 : decide (z ≤ 64) = false := decide_eq_false (by have := Hz.out; omega)
              have HX := HE0.out.trans HP2.out.old
              clear HP2 HK
              go_wp2_with fail
              refine (awake_any _).mono ?_
              rintro r w6 ⟨rfl, HX3⟩
              have HE3 : Hid (Ext w w6) := HX.trans HX3
              clear HX3 HX
              go_wp2
              go_ret
              exact ⟨rfl, HE3.out⟩
end Go.Proofs.Ytdpplmfgbglkhaa
