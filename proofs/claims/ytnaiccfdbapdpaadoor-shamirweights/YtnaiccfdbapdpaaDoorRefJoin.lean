/-
  The document's Join (sandglassref13), called: what a polynomial is at 0, or the error; nothing old is turned.
-/
import Derived.Test.YtnaiccfdbapdpaaDoorRefWeights
namespace Go.Proofs.YtnaiccfdbapdpaaDoor
open Go.RowKit
theorem info3 : (Tryd.prog.info? 3).map (fun i => (i.zero, i.size, i.bytes)) = some (some (.int .i64 0), 1, 8) := by kernel_rfl
/-- The cells of k places. -/
def itl (P : Nat → Int) : Nat → List Value
  | 0 => []
  | k + 1 => itl P k ++ [.int .i64 (P k)]
theorem itl_len (P : Nat → Int) : ∀ k, (itl P k).length = k
  | 0 => rfl
  | k + 1 => by unfold itl; rw [List.length_append, itl_len P k]; rfl
theorem itl_at (P : Nat → Int) : ∀ k j, j < k * 1 → (itl P k)[j]? = some (.int .i64 (P j))
  | 0, j, h => by omega
  | k + 1, j, h => by
    unfold itl
    by_cases e : j < k
    · rw [List.getElem?_append_left (by rw [itl_len]; exact e)]; exact itl_at P k j (by omega)
    · obtain rfl : j = k := by omega
      rw [List.getElem?_append_right (by rw [itl_len]; exact Nat.le_refl _), itl_len, Nat.sub_self]; rfl
theorem news1 (w : World) {a : Value} {t : TypeId} : ∀ j u, [a][j]? = some u → (w.alloc (.cells #[a] t)).cell? (Addr.add ⟨w.heap.size, 0, none⟩ j) = some u := by
  intro j u h
  match j, h with
  | 0, h => simp at h; subst h; simp [Addr.add]
theorem int_one (a : Int) : ∀ u ∈ [Value.int .i64 a], u.oneCell' = true := by
  intro u h
  simp at h
  subst h; rfl
def JS (w : World) (g : Nat) (s0 s1 s2 s3 : Int) (bw ow : Nat) (x0 x1 x2 x3 : Int) (b o : Nat) (z0 z1 z2 z3 : Int) (wx : World) : Prop :=
  Row wx g s0 s1 s2 s3 ∧ wx.cell? ⟨bw, ow, none⟩ = some (.int .u64 x0) ∧ wx.cell? ⟨bw, ow + 1, none⟩ = some (.int .u64 x1) ∧ wx.cell? ⟨bw, ow + 2, none⟩ = some (.int .u64 x2) ∧ wx.cell? ⟨bw, ow + 3, none⟩ = some (.int .u64 x3) ∧ wx.cell? ⟨b, o + 1, none⟩ = some (.int .u64 z0) ∧ wx.cell? ⟨b, o + 2, none⟩ = some (.int .u64 z1) ∧ wx.cell? ⟨b, o + 3, none⟩ = some (.int .u64 z2) ∧ wx.cell? ⟨b, o + 4, none⟩ = some (.int .u64 z3) ∧ Ext w wx
theorem JS.ext {w wx wy : World} {g bw ow b o : Nat} {s0 s1 s2 s3 x0 x1 x2 x3 z0 z1 z2 z3 : Int} (h : JS w g s0 s1 s2 s3 bw ow x0 x1 x2 x3 b o z0 z1 z2 z3 wx) (hx : Ext wx wy) : JS w g s0 s1 s2 s3 bw ow x0 x1 x2 x3 b o z0 z1 z2 z3 wy :=
  ⟨h.1.ext hx, later hx h.2.1, later hx h.2.2.1, later hx h.2.2.2.1, later hx h.2.2.2.2.1, later hx h.2.2.2.2.2.1, later hx h.2.2.2.2.2.2.1, later hx h.2.2.2.2.2.2.2.1, later hx h.2.2.2.2.2.2.2.2.1, h.2.2.2.2.2.2.2.2.2.trans hx⟩
theorem join_step {X V : Nat → Int} {i : Nat} {s0 s1 s2 s3 m0 m1 m2 m3 t0 t1 t2 t3 : Int} (hs : QMod (smN (fun i => X i * V i) i) s0 s1 s2 s3) (hm : QMod (val (qw (X i) 0) (qw (X i) 1) (qw (X i) 2) (qw (X i) 3) * V i) m0 m1 m2 m3) (ht : QMod (val s0 s1 s2 s3 + val m0 m1 m2 m3) t0 t1 t2 t3) : QMod (smN (fun i => X i * V i) (i + 1)) t0 t1 t2 t3 := by
  refine ht.cong ?_
  rw [hs.2, hm.2, (qw_mod (X i)).2, modq_mul_mod, ← Int.add_emod]
  rfl
theorem zero_mod (X V : Nat → Int) : QMod (smN (fun i => X i * V i) 0) 0 0 0 0 := ⟨⟨lim_of _ rfl, lim_of _ rfl, lim_of _ rfl, lim_of _ rfl⟩, show val 0 0 0 0 = 0 % FQ by decide⟩
set_option maxHeartbeats 16000000 in
set_option maxRecDepth 10000 in
theorem rjoin_any (v : Value) (n : Nat) (P : Nat → Int) (F : Nat → Nat → Int) (hn : n ≤ 1000) (hl : LimN F n) (w : World) (hL : Lies w v n 5 (sc P F)) :
    Calls Tryd.prog 18 #[v] w fun e w' => Ext w w' ∧ ((OkP P n ∧ ∃ r0 r1 r2 r3, e = .returned (.tuple #[.agg #[.int .u64 r0, .int .u64 r1, .int .u64 r2, .int .u64 r3], .int .i64 0]) ∧ Hid (QMod (smN (fun i => wI P i n * val (F i 0) (F i 1) (F i 2) (F i 3)) n) r0 r1 r2 r3)) ∨ (¬ OkP P n ∧ e = .returned (.tuple #[.agg #[.int .u64 0, .int .u64 0, .int .u64 0, .int .u64 0], .int .i64 1]))) := by
  obtain ⟨i0, hi0, hz0, hz1, hz2⟩ := info_parts info3
  obtain ⟨a, cap, rfl, hL'⟩ := hL
  have HL : Hid (Lies w (.slice a n cap) n 5 (sc P F)) := ⟨a, cap, rfl, hL'⟩
  clear hL'
  have HLi : Hid (LimN F n) := hl
  obtain ⟨X, hX⟩ : ∃ X, Hid ((fun i => wI P i n) = X) := ⟨_, rfl⟩
  have HXi : Hid (∀ i, wI P i n = X i) := fun i => congrFun hX.out i
  have HXe : Hid ((fun i => wI P i n * val (F i 0) (F i 1) (F i 2) (F i 3)) = fun i => X i * val (F i 0) (F i 1) (F i 2) (F i 3)) := funext fun i => by rw [HXi.out i]
  rw [HXe.out]
  clear hl HXe
  have HE0 : Hid (Ext w (w.alloc (.cells #[.int .u64 0, .int .u64 0, .int .u64 0, .int .u64 0] 26))) := (Ext.refl w).alloc _
  have RZ := RowF.new w 0 0 0 0
  have HB0 : SizeLe w w.heap.size := Nat.le_refl _
  have HO0 : Hid ((w.alloc (.cells #[.int .u64 0, .int .u64 0, .int .u64 0, .int .u64 0] 26)).ownsRow (w.heap.size + 1) 3 1 (.slice none 0 0) 0 (itl P 0)) := World.ownsRow_nil _ _ _ _
  go_enter Tryd.func18, Tryd.ntmps18
  go_wp2
  go_loopw [4, 5] (fun u4 u5 wr => ∃ i : Nat, i ≤ n ∧ u5 = .int .i64 (i : Int) ∧ RowF wr w.heap.size 0 0 0 0 ∧ Hid (wr.ownsRow (w.heap.size + 1) 3 1 u4 i (itl P i)) ∧ Hid (Ext w wr)) (fun _ u5 _ => n - (intOf u5).toNat)
  case atStart => exact ⟨0, Nat.zero_le _, rfl, RZ, HO0, HE0⟩
  case round =>
    obtain ⟨i, hi, rfl, Rz, HOr, HE⟩ := hrel
    clear RZ HO0 HE0
    by_cases hlt : i < n
    · have h1 : (i : Int) < (n : Int) := by omega
      have h0 : (0 : Int) ≤ (i : Int) := by omega
      have hw : IntKind.i64.wrap ((i : Int) + 1) = (i : Int) + 1 := by rw [IntKind.wrap_i64]; omega
      obtain ⟨b, o, rfl, hb, x0, _⟩ := (HL.out.ext HE.out).share hlt
      have hsz : w.heap.size + 1 ≤ wr.heap.size := Rz.1.1
      go_wp2_with (first | (at_builtin; refine wpList_append_lies _ rfl _ _ 32 rfl (w.heap.size + 1) 3 i0 (.int .i64 0) 1 8 Tryd.underlying32 hi0 hz0 hz1 hz2 rfl (by decide) u4 i (itl P i) rfl (HOr.out.alloc _) ⟨wr.heap.size, 0, none⟩ 1 1 [.int .i64 (P i)] rfl rfl ?c1 (int_one _) (by decide) (by unfold maxLen; omega) (by omega) ?c2 _ rfl ?_))
      case c1 => exact news1 wr
      case c2 => (simp; omega)
      intro g cp w2 hown hgrow _ _
      have HO2 : Hid (w2.ownsRow (w.heap.size + 1) 3 1 (.slice (some ⟨g, 0, none⟩) (i + 1) cp) (i + 1) (itl P (i + 1))) := hown
      have HE2 : Hid (Ext w w2) := Ext.grown (HE.out.alloc _) (HOr.out.alloc _) (Nat.le_succ _) hgrow
      have hne : some w.heap.size ≠ u4.ownBlock := fun e => Nat.lt_irrefl _ ((HOr.out.lt _ e.symm).1)
      have Rz2 : RowF w2 w.heap.size 0 0 0 0 := (Rz.ext ((Ext.refl _).alloc _)).grown hgrow hne
      clear hown hgrow HOr HE
      go_wp2
      go_roundw
      case rel => exact ⟨i + 1, hlt, by push_cast; rfl, Rz2, HO2, HE2⟩
      case measure => simp [intOf]; omega
    · obtain rfl : i = n := by omega
      have HW : Hid (∀ W, Ext wr W → Calls Tryd.prog 15 #[u4] W fun e w' => Ext W w' ∧ ((OkP P i ∧ ∃ u, e = .returned (.tuple #[u, .int .i64 0]) ∧ w'.ownsRow W.heap.size 26 4 u i (nml X i)) ∨ (¬ OkP P i ∧ e = .returned (.tuple #[.slice none 0 0, .int .i64 1])))) := fun W hW => by
        have := rweights_any u4 i P hn W (Lies.own (own_ext HOr.out hW) (itl_at P i))
        rwa [hX.out] at this
      clear hi hlt
      go_wp2_with fail
      refine (HW.out _ (Ext.refl _)).mono ?_
      rintro e w1 ⟨HX1, hcase⟩
      have HE1 : Hid (Ext w w1) := HE.out.trans HX1
      have Rz1 := Rz.ext HX1
      clear Rz HOr HW HE
      rcases hcase with ⟨hok, uw, rfl, hown⟩ | ⟨hbad, rfl⟩
      · have HOk : Hid (OkP P i) := hok
        obtain ⟨aw, cw, rfl, hw'⟩ := Lies.own hown (nml_at X i)
        have HLw : Hid (Lies w1 (.slice aw i cw) i 4 (nc (fun i j => qw (X i) j))) := ⟨aw, cw, rfl, hw'⟩
        clear hown hw' hok HX1
        have Rz2 := Rz1.ext ((Ext.refl _).alloc (.cells #[.int .u64 0, .int .u64 0, .int .u64 0, .int .u64 0] 26))
        have Rv2 := RowF.new w1 0 0 0 0
        have HE2 : Hid (Ext w (w1.alloc (.cells #[.int .u64 0, .int .u64 0, .int .u64 0, .int .u64 0] 26))) := HE1.out.alloc _
        have HC2 : Hid (Ext w1 (w1.alloc (.cells #[.int .u64 0, .int .u64 0, .int .u64 0, .int .u64 0] 26))) := (Ext.refl _).alloc _
        have HBg : SizeLe w w1.heap.size := HE1.out.size
        have HBg1 : SizeLe w1 w1.heap.size := Nat.le_refl _
        have hzg : w.heap.size ≠ w1.heap.size := Nat.ne_of_lt Rz1.1.1
        clear HE1 Rz1
        go_wp2
        generalize w1.alloc (.cells #[.int .u64 0, .int .u64 0, .int .u64 0, .int .u64 0] 26) = W2 at *
        obtain ⟨g, hg⟩ : ∃ g, w1.heap.size = g := ⟨_, rfl⟩
        rw [hg] at Rv2 HBg HBg1 hzg ⊢
        clear hg
        obtain ⟨n, rfl⟩ : ∃ n, n = i := ⟨i, rfl⟩
        have HS0 : Hid (QMod (smN (fun i => X i * val (F i 0) (F i 1) (F i 2) (F i 3)) 0) 0 0 0 0) := zero_mod _ _
        go_loopw [9] (fun u9 wr => ∃ (i : Nat) (s0 s1 s2 s3 : Int), i ≤ n ∧ u9 = .int .i64 (i : Int) ∧ RowF wr w.heap.size 0 0 0 0 ∧ RowF wr g s0 s1 s2 s3 ∧ Hid (QMod (smN (fun i => X i * val (F i 0) (F i 1) (F i 2) (F i 3)) i) s0 s1 s2 s3) ∧ Hid (Ext w1 wr) ∧ Hid (Ext w wr)) (fun u9 _ => n - (intOf u9).toNat)
        case atStart => exact ⟨0, 0, 0, 0, 0, Nat.zero_le _, rfl, Rz2, Rv2, HS0, HC2, HE2⟩
        case round =>
          obtain ⟨i, s0, s1, s2, s3, hi, rfl, Rz, Rv, HS, HC, HE⟩ := hrel
          clear Rz2 Rv2 HS0 HC2 HE2
          by_cases hlt : i < n
          · have h1 : (i : Int) < (n : Int) := by omega
            have h0 : (0 : Int) ≤ (i : Int) := by omega
            have hw : IntKind.i64.wrap ((i : Int) + 1) = (i : Int) + 1 := by rw [IntKind.wrap_i64]; omega
            obtain ⟨b, o, rfl, hb, _, x0, x1, x2, x3⟩ := (HL.out.ext HE.out).share hlt
            obtain ⟨bw, ow, rfl, hbw, y0, y1, y2, y3⟩ := (HLw.out.ext HC.out).num hlt
            have D := Ext.drew (Ext.refl wr)
            have hS0 : JS w g s0 s1 s2 s3 bw (ow + i * 4) (qw (X i) 0) (qw (X i) 1) (qw (X i) 2) (qw (X i) 3) b (o + i * 5) (F i 0) (F i 1) (F i 2) (F i 3) wr.drew := ⟨Rv.1.ext D, later D y0, later D y1, later D y2, later D y3, later D x0, later D x1, later D x2, later D x3, HE.out.drew⟩
            clear D x0 x1 x2 x3 y0 y1 y2 y3 hb hbw
            go_wp2_with fail
            refine wp_region_noPanic ?_
            refine wp_region_until (X := 12) (S := JS w g s0 s1 s2 s3 bw (ow + i * 4) (qw (X i) 0) (qw (X i) 1) (qw (X i) 2) (qw (X i) 3) b (o + i * 5) (F i 0) (F i 1) (F i 2) (F i 3)) (by kernel_rfl) ?_
            refine until_take (i := 0) (v := ?vj0) rfl (by kernel_rfl) (by kernel_rfl) (by kernel_rfl) (by kernel_rfl) (by kernel_rfl) (fun _ _ _ h => h) rfl ?hyj0 hS0 ?restj0
            case hyj0 => (intro w hSw; obtain ⟨⟨_, y0, y1, y2, y3⟩, a0, a1, a2, a3, b0, b1, b2, b3, _⟩ := hSw; go_simp; try with_reducible rfl)
            try simp only [Act.put, List.setIfInBounds_toArray, List.set_cons_zero, List.set_cons_succ]
            refine until_take (i := 1) (v := ?vj1) rfl (by kernel_rfl) (by kernel_rfl) (by kernel_rfl) (by kernel_rfl) (by kernel_rfl) (fun _ _ _ h => h) rfl ?hyj1 hS0 ?restj1
            case hyj1 => (intro w hSw; obtain ⟨⟨_, y0, y1, y2, y3⟩, a0, a1, a2, a3, b0, b1, b2, b3, _⟩ := hSw; go_simp; try with_reducible rfl)
            try simp only [Act.put, List.setIfInBounds_toArray, List.set_cons_zero, List.set_cons_succ]
            refine until_take (i := 2) (v := ?vj2) rfl (by kernel_rfl) (by kernel_rfl) (by kernel_rfl) (by kernel_rfl) (by kernel_rfl) (fun _ _ _ h => h) rfl ?hyj2 hS0 ?restj2
            case hyj2 => (intro w hSw; obtain ⟨⟨_, y0, y1, y2, y3⟩, a0, a1, a2, a3, b0, b1, b2, b3, _⟩ := hSw; go_simp; try with_reducible rfl)
            try simp only [Act.put, List.setIfInBounds_toArray, List.set_cons_zero, List.set_cons_succ]
            refine until_take (i := 3) (v := ?vj3) rfl (by kernel_rfl) (by kernel_rfl) (by kernel_rfl) (by kernel_rfl) (by kernel_rfl) (fun _ _ _ h => h) rfl ?hyj3 hS0 ?restj3
            case hyj3 => (intro w hSw; obtain ⟨⟨_, y0, y1, y2, y3⟩, a0, a1, a2, a3, b0, b1, b2, b3, _⟩ := hSw; go_simp; try with_reducible rfl)
            try simp only [Act.put, List.setIfInBounds_toArray, List.set_cons_zero, List.set_cons_succ]
            refine until_take (i := 4) (v := ?vj4) rfl (by kernel_rfl) (by kernel_rfl) (by kernel_rfl) (by kernel_rfl) (by kernel_rfl) (fun _ _ _ h => h) rfl ?hyj4 hS0 ?restj4
            case hyj4 => (intro w hSw; obtain ⟨⟨_, y0, y1, y2, y3⟩, a0, a1, a2, a3, b0, b1, b2, b3, _⟩ := hSw; go_simp; try with_reducible rfl)
            try simp only [Act.put, List.setIfInBounds_toArray, List.set_cons_zero, List.set_cons_succ]
            refine until_take (i := 5) (v := ?vj5) rfl (by kernel_rfl) (by kernel_rfl) (by kernel_rfl) (by kernel_rfl) (by kernel_rfl) (fun _ _ _ h => h) rfl ?hyj5 hS0 ?restj5
            case hyj5 => (intro w hSw; obtain ⟨⟨_, y0, y1, y2, y3⟩, a0, a1, a2, a3, b0, b1, b2, b3, _⟩ := hSw; go_simp; try with_reducible rfl)
            try simp only [Act.put, List.setIfInBounds_toArray, List.set_cons_zero, List.set_cons_succ]
            refine until_take (i := 6) (v := ?vj6) rfl (by kernel_rfl) (by kernel_rfl) (by kernel_rfl) (by kernel_rfl) (by kernel_rfl) (fun _ _ _ h => h) rfl ?hyj6 hS0 ?restj6
            case hyj6 => (intro w hSw; obtain ⟨⟨_, y0, y1, y2, y3⟩, a0, a1, a2, a3, b0, b1, b2, b3, _⟩ := hSw; go_simp; try with_reducible rfl)
            try simp only [Act.put, List.setIfInBounds_toArray, List.set_cons_zero, List.set_cons_succ]
            refine until_take (i := 7) (v := ?vj7) rfl (by kernel_rfl) (by kernel_rfl) (by kernel_rfl) (by kernel_rfl) (by kernel_rfl) (fun _ _ _ h => h) rfl ?hyj7 hS0 ?restj7
            case hyj7 => (intro w hSw; obtain ⟨⟨_, y0, y1, y2, y3⟩, a0, a1, a2, a3, b0, b1, b2, b3, _⟩ := hSw; go_simp; try with_reducible rfl)
            try simp only [Act.put, List.setIfInBounds_toArray, List.set_cons_zero, List.set_cons_succ]
            refine until_take (i := 8) (v := ?vj8) rfl (by kernel_rfl) (by kernel_rfl) (by kernel_rfl) (by kernel_rfl) (by kernel_rfl) (fun _ _ _ h => h) rfl ?hyj8 hS0 ?restj8
            case hyj8 => (intro w hSw; obtain ⟨⟨_, y0, y1, y2, y3⟩, a0, a1, a2, a3, b0, b1, b2, b3, _⟩ := hSw; go_simp; try with_reducible rfl)
            try simp only [Act.put, List.setIfInBounds_toArray, List.set_cons_zero, List.set_cons_succ]
            refine until_take (i := 9) (v := ?vj9) rfl (by kernel_rfl) (by kernel_rfl) (by kernel_rfl) (by kernel_rfl) (by kernel_rfl) (fun _ _ _ h => h) rfl ?hyj9 hS0 ?restj9
            case hyj9 => (intro w hSw; obtain ⟨⟨_, y0, y1, y2, y3⟩, a0, a1, a2, a3, b0, b1, b2, b3, _⟩ := hSw; go_simp; try with_reducible rfl)
            try simp only [Act.put, List.setIfInBounds_toArray, List.set_cons_zero, List.set_cons_succ]
            refine until_one (i := 10) (by kernel_rfl) (by kernel_rfl) rfl rfl (fun K hK => ?_)
            go_simp
            refine (refSMul_any _ _ _ _ _ _ _ _ (qw_mod (X i)).1 (HLi.out i hlt) _).mono ?_
            rintro e w3 ⟨m0, m1, m2, m3, rfl, HM, HX3⟩
            have hS3 := hS0.ext HX3
            go_simp
            refine hK.out _ _ hS3 ?_
            clear hK K
            try simp only [Act.put, List.setIfInBounds_toArray, List.set_cons_zero, List.set_cons_succ]
            refine until_one (i := 11) (by kernel_rfl) (by kernel_rfl) rfl rfl (fun K hK => ?_)
            go_simp
            refine (refSAdd_any _ _ _ _ _ _ _ _ HS.out.1 HM.out.1 _).mono ?_
            rintro e w4 ⟨t0, t1, t2, t3, rfl, HA, HX4⟩
            have hS4 := hS3.ext HX4
            go_simp
            refine hK.out _ _ hS4 ?_
            clear hK K
            try simp only [Act.put, List.setIfInBounds_toArray, List.set_cons_zero, List.set_cons_succ]
            refine until_last (by kernel_rfl) (by kernel_rfl) rfl rfl (fun K hK => ?_)
            have HXX : Ext wr w4 := (Ext.refl _).drew.trans (HX3.trans HX4)
            have Rz4 := Rz.ext HXX
            have Rv4 := Rv.ext HXX
            have HE4 : Hid (Ext w w4) := hS4.2.2.2.2.2.2.2.2.2
            have HC4 : Hid (Ext w1 w4) := HC.out.trans HXX
            have Rv5 := Rv4
            clear hS0 hS3 hS4 HX3 HX4 HXX Rz Rv HE HC
            obtain ⟨⟨la, y0, y1, y2, y3⟩, f0, f1, f2, f3⟩ := Rv5
            go_simp
            refine hK.out _ _ (NoPanic.normal ?_)
            clear hK K
            try simp only [Act.put, List.setIfInBounds_toArray, List.set_cons_zero, List.set_cons_succ]
            have HS1 : Hid (QMod (smN (fun i => X i * val (F i 0) (F i 1) (F i 2) (F i 3)) (i + 1)) t0 t1 t2 t3) := join_step HS.out HM.out HA.out
            go_wp2
            go_roundw
            case rel => exact ⟨i + 1, t0, t1, t2, t3, hlt, by push_cast; rfl, Rz4.other hzg |>.other hzg |>.other hzg |>.other hzg, RowF.set Rv4, HS1, Ext.st HBg1 (Ext.st HBg1 (Ext.st HBg1 (Ext.st HBg1 HC4.out))), Ext.st HBg (Ext.st HBg (Ext.st HBg (Ext.st HBg HE4.out)))⟩
            case measure => simp [intOf]; omega
          · obtain rfl : i = n := by omega
            obtain ⟨⟨la, y0, y1, y2, y3⟩, f0, f1, f2, f3⟩ := Rv
            obtain ⟨⟨lz, z0, z1, z2, z3⟩, e0, e1, e2, e3⟩ := Rz
            go_wp2
            refine bodyPost_ret (v := .tuple #[.agg #[.int .u64 s0, .int .u64 s1, .int .u64 s2, .int .u64 s3], .int .i64 0]) (by simp [results, Tryd.results18, go_sem, z0, z1, z2, z3]) rfl ⟨?_, .inl ⟨HOk.out, _, _, _, _, rfl, HS⟩⟩
            exact Ext.st HB0 (Ext.st HB0 (Ext.st HB0 (Ext.st HB0 HE.out)))
      · have HB : Hid (¬ OkP P i) := hbad
        clear hbad HX1 HL
        have Rz2 := Rz1.ext ((Ext.refl _).alloc (.cells #[.int .u64 0, .int .u64 0, .int .u64 0, .int .u64 0] 26))
        have Rv2 := RowF.new w1 0 0 0 0
        have HE2 : Hid (Ext w (w1.alloc (.cells #[.int .u64 0, .int .u64 0, .int .u64 0, .int .u64 0] 26))) := HE1.out.alloc _
        clear HE1 Rz1
        go_wp2
        generalize w1.alloc (.cells #[.int .u64 0, .int .u64 0, .int .u64 0, .int .u64 0] 26) = W2 at *
        obtain ⟨g, hg⟩ : ∃ g, w1.heap.size = g := ⟨_, rfl⟩
        rw [hg] at Rv2 ⊢
        clear hg
        go_loopw [9] (fun u9 wr => u9 = .int .i64 0 ∧ wr = W2) (fun u9 _ => 0)
        case atStart => exact ⟨rfl, rfl⟩
        case round =>
          obtain ⟨rfl, rfl⟩ := hrel
          obtain ⟨⟨la, y0, y1, y2, y3⟩, f0, f1, f2, f3⟩ := Rv2
          obtain ⟨⟨lz, z0, z1, z2, z3⟩, e0, e1, e2, e3⟩ := Rz2
          go_wp2
          refine bodyPost_ret (v := .tuple #[.agg #[.int .u64 0, .int .u64 0, .int .u64 0, .int .u64 0], .int .i64 1]) (by simp [results, Tryd.results18, go_sem, z0, z1, z2, z3]) rfl ⟨?_, .inr ⟨HB.out, rfl⟩⟩
          exact Ext.st HB0 (Ext.st HB0 (Ext.st HB0 (Ext.st HB0 HE2.out)))
end Go.Proofs.YtnaiccfdbapdpaaDoor
