/-
  shamir.Eval and shamir.Shares, called: a polynomial at a place, and its shares, in new memory; nothing old is turned.
-/
import Derived.Test.YtnaiccfdbapdpaaDoorEv
import Derived.Test.YtnaiccfdbapdpaaDoorRefJoin
namespace Go.Proofs.YtnaiccfdbapdpaaDoor
open Go.RowKit
set_option maxHeartbeats 2000000 in
set_option maxRecDepth 10000 in
theorem seval_any (v : Value) (n : Nat) (f : Nat → Nat → Int) (x : Int) (hx : I64 x) (hn : n ≤ 100) (hl : LimN f n) (w : World) (hG : Gl w) (hL : Lies w v n 4 (nc f)) :
    Calls Tryd.prog 9 #[v, .int .i64 x] w fun e w' => ∃ r0 r1 r2 r3 : Int, e = .returned (.agg #[.int .u64 r0, .int .u64 r1, .int .u64 r2, .int .u64 r3]) ∧ Hid (QMod (evL (cfs f n) (plc x)) r0 r1 r2 r3) ∧ Ext w w' := by
  obtain ⟨a, cap, rfl, hL'⟩ := hL
  have HL : Hid (Lies w (.slice a n cap) n 4 (nc f)) := ⟨a, cap, rfl, hL'⟩
  clear hL'
  have HB : SizeLe w w.heap.size := Nat.le_refl _
  have RZ := RowF.new w 0 0 0 0
  have HE0 : Hid (Ext w (w.alloc (.cells #[.int .u64 0, .int .u64 0, .int .u64 0, .int .u64 0] 26))) := (Ext.refl _).alloc _
  go_enter Tryd.func9, Tryd.ntmps9
  have e : plc x = max x 0 := by unfold plc; split <;> omega
  obtain ⟨X, hX⟩ : ∃ X, max x 0 = X := ⟨_, rfl⟩
  have hX0 : 0 ≤ X ∧ X ≤ 9223372036854775807 := by unfold I64 at hx; omega
  rw [e, hX]
  clear e
  go_wp2_with fail
  refine (pnum_any X hX0.1 hX0.2 _).mono ?_
  rintro e w1 ⟨rfl, HX⟩
  have Rz1 := RZ.ext HX
  have HE1 : Hid (Ext w ((w1.alloc (.cells #[.int .u64 X, .int .u64 0, .int .u64 0, .int .u64 0] 26)).alloc (.cells #[.int .u64 1, .int .u64 0, .int .u64 0, .int .u64 0] 26))) := ((HE0.out.trans HX).alloc _).alloc _
  have Rq : Row ((w1.alloc (.cells #[.int .u64 X, .int .u64 0, .int .u64 0, .int .u64 0] 26)).alloc (.cells #[.int .u64 1, .int .u64 0, .int .u64 0, .int .u64 0] 26)) w1.heap.size X 0 0 0 := (Row.new w1 X 0 0 0).ext ((Ext.refl _).alloc _)
  have Rp : RowF ((w1.alloc (.cells #[.int .u64 X, .int .u64 0, .int .u64 0, .int .u64 0] 26)).alloc (.cells #[.int .u64 1, .int .u64 0, .int .u64 0, .int .u64 0] 26)) (w1.heap.size + 1) 1 0 0 0 := by
    have h := RowF.new (w1.alloc (.cells #[.int .u64 X, .int .u64 0, .int .u64 0, .int .u64 0] 26)) 1 0 0 0
    rwa [show (w1.alloc (.cells #[.int .u64 X, .int .u64 0, .int .u64 0, .int .u64 0] 26)).heap.size = w1.heap.size + 1 from by simp] at h
  have Rz2 : RowF ((w1.alloc (.cells #[.int .u64 X, .int .u64 0, .int .u64 0, .int .u64 0] 26)).alloc (.cells #[.int .u64 1, .int .u64 0, .int .u64 0, .int .u64 0] 26)) w.heap.size 0 0 0 0 := Rz1.ext (((Ext.refl _).alloc _).alloc _)
  have hs1 : SizeLe (w.alloc (.cells #[.int .u64 0, .int .u64 0, .int .u64 0, .int .u64 0] 26)) (w1.heap.size + 1) := Nat.le_succ_of_le HX.size
  have HGl : Hid (Gl (w.alloc (.cells #[.int .u64 0, .int .u64 0, .int .u64 0, .int .u64 0] 26))) := hG.ext ((Ext.refl _).alloc _)
  have HLl : Hid (Lies (w.alloc (.cells #[.int .u64 0, .int .u64 0, .int .u64 0, .int .u64 0] 26)) (.slice a n cap) n 4 (nc f)) := HL.out.ext ((Ext.refl _).alloc _)
  have HEl : Hid (Ext (w.alloc (.cells #[.int .u64 0, .int .u64 0, .int .u64 0, .int .u64 0] 26)) ((w1.alloc (.cells #[.int .u64 X, .int .u64 0, .int .u64 0, .int .u64 0] 26)).alloc (.cells #[.int .u64 1, .int .u64 0, .int .u64 0, .int .u64 0] 26))) := (HX.alloc _).alloc _
  clear HX RZ HE0 Rz1
  go_wp2_with fail
  refine (sumN_any (w.alloc (.cells #[.int .u64 0, .int .u64 0, .int .u64 0, .int .u64 0] 26)) (.slice a n cap) n f X (by omega) hl (lim_one (by unfold Lim; omega)) (w1.heap.size + 1) w1.heap.size (Nat.ne_of_lt (Nat.lt_succ_self _)) hs1 HGl.out HLl.out _ HEl.out Rp Rq).mono ?_
  rintro e w5 ⟨r0, r1, r2, r3, rfl, HQ, HX5⟩
  have HE5 : Hid (Ext w w5) := ((Ext.refl _).alloc _).trans HX5
  obtain ⟨⟨lz, z0, z1, z2, z3⟩, f0, f1, f2, f3⟩ := (RowF.new w 0 0 0 0).ext HX5
  clear HX5 HEl HLl HGl Rz2 Rp Rq HE1
  go_wp2
  refine bodyPost_ret (v := .agg #[.int .u64 r0, .int .u64 r1, .int .u64 r2, .int .u64 r3]) (by simp [results, Tryd.results9, go_sem, z0, z1, z2, z3]) rfl ⟨r0, r1, r2, r3, rfl, HQ, ?_⟩
  exact Ext.st HB (Ext.st HB (Ext.st HB (Ext.st HB HE5.out)))
theorem shs_at (P X : Nat → Int) : ∀ k j, j < k * 5 → (shs P X k)[j]? = some (sc P (fun i j => qw (X i) j) j)
  | 0, j, h => by omega
  | k + 1, j, h => by
    unfold shs
    by_cases e : j < k * 5
    · rw [List.getElem?_append_left (by rw [shs_len]; exact e)]; exact shs_at P X k j e
    · rw [List.getElem?_append_right (by rw [shs_len]; omega), shs_len]
      obtain ⟨d, rfl⟩ : ∃ d, j = k * 5 + d := ⟨j - k * 5, by omega⟩
      have hd : d < 5 := by omega
      rw [show k * 5 + d - k * 5 = d from by omega]
      have : d = 0 ∨ d = 0 + 1 ∨ d = 1 + 1 ∨ d = 2 + 1 ∨ d = 3 + 1 := by omega
      rcases this with rfl | rfl | rfl | rfl | rfl
      · rw [Nat.add_zero, sc_at0]; rfl
      · rw [sc_at _ _ _ _ (by omega)]; rfl
      · rw [sc_at _ _ _ _ (by omega)]; rfl
      · rw [sc_at _ _ _ _ (by omega)]; rfl
      · rw [sc_at _ _ _ _ (by omega)]; rfl
set_option maxHeartbeats 4000000 in
set_option maxRecDepth 10000 in
theorem sshares_any (v : Value) (n : Nat) (f : Nat → Nat → Int) (m : Int) (_hm : I64 m) (hn : n ≤ 100) (hl : LimN f n) (w : World) (hG : Gl w) (hL : Lies w v n 4 (nc f)) :
    Calls Tryd.prog 12 #[v, .int .i64 m] w fun e w' => ∃ u, e = .returned u ∧ Lies w' u (cnt m) 5 (sc (fun i => (i : Int) + 1) (fun i j => qw (evL (cfs f n) ((i : Int) + 1)) j)) ∧ Ext w w' := by
  obtain ⟨i0, hi, hz0, hz1, hz2⟩ := info_parts info47
  have HEv : Hid (∀ k : Nat, k < 7 → ∀ W, Ext w W → Calls Tryd.prog 9 #[v, .int .i64 ((k : Int) + 1)] W fun e w' => e = .returned (.agg #[.int .u64 (qw (evL (cfs f n) ((k : Int) + 1)) 0), .int .u64 (qw (evL (cfs f n) ((k : Int) + 1)) 1), .int .u64 (qw (evL (cfs f n) ((k : Int) + 1)) 2), .int .u64 (qw (evL (cfs f n) ((k : Int) + 1)) 3)]) ∧ Ext W w') := by
    intro k hk W hW
    refine (seval_any v n f ((k : Int) + 1) (by unfold I64; omega) hn hl W (hG.ext hW) (hL.ext hW)).mono ?_
    rintro e w' ⟨r0, r1, r2, r3, rfl, HQ, HX⟩
    have hp : plc ((k : Int) + 1) = (k : Int) + 1 := by unfold plc; rw [if_neg (by omega)]
    obtain ⟨rfl, rfl, rfl, rfl⟩ := qw_one HQ.out
    rw [hp]
    exact ⟨rfl, HX⟩
  have HC : Hid (∀ k : Nat, k < cnt m ↔ (k : Int) + 1 ≤ m ∧ k < 7) := fun k => cnt_lt
  have HC7 : Hid (cnt m ≤ 7) := cnt_le m
  obtain ⟨P, hP⟩ : ∃ P, Hid ((fun i => (i : Int) + 1 : Nat → Int) = P) := ⟨_, rfl⟩
  obtain ⟨X, hX⟩ : ∃ X, Hid ((fun i => evL (cfs f n) ((i : Int) + 1) : Nat → Int) = X) := ⟨_, rfl⟩
  have HEv : Hid (∀ k : Nat, k < 7 → ∀ W, Ext w W → Calls Tryd.prog 9 #[v, .int .i64 ((k : Int) + 1)] W fun e w' => e = .returned (.agg #[.int .u64 (qw (X k) 0), .int .u64 (qw (X k) 1), .int .u64 (qw (X k) 2), .int .u64 (qw (X k) 3)]) ∧ Ext W w') := by rw [← hX.out]; exact HEv
  have HPk : Hid (∀ k : Nat, P k = (k : Int) + 1) := by rw [← hP.out]; exact fun k => rfl
  have HFn : Hid (∀ W u, W.ownsRow w.heap.size 47 5 u (cnt m) (shs P X (cnt m)) → Lies W u (cnt m) 5 (sc (fun i => (i : Int) + 1) (fun i j => qw (evL (cfs f n) ((i : Int) + 1)) j))) := by
    intro W u ho
    rw [← hP.out, ← hX.out] at ho
    exact Lies.own ho (shs_at _ _ _)
  obtain ⟨R, hR⟩ : ∃ R, Hid ((fun W u => Lies W u (cnt m) 5 (sc (fun i => (i : Int) + 1) (fun i j => qw (evL (cfs f n) ((i : Int) + 1)) j))) = R) := ⟨_, rfl⟩
  have HFn : Hid (∀ W u, W.ownsRow w.heap.size 47 5 u (cnt m) (shs P X (cnt m)) → R W u) := by rw [← hR.out]; exact HFn
  suffices hgoal : Calls Tryd.prog 12 #[v, .int .i64 m] w fun e w' => ∃ u, e = .returned u ∧ R w' u ∧ Ext w w' by rw [← hR.out] at hgoal; exact hgoal
  clear hP hX hL hl hR hG
  generalize cnt m = c at *
  have HO : Hid (w.ownsRow w.heap.size 47 5 (.slice none 0 0) 0 (shs P X 0)) := World.ownsRow_nil _ _ _ _
  have HE0 : Hid (Ext w w) := Ext.refl w
  go_enter Tryd.func12, Tryd.ntmps12
  go_wp2
  go_loopw [5, 6] (fun u5 u6 wr => ∃ k : Nat, k ≤ c ∧ u6 = .int .i64 ((k : Int) + 1) ∧ Hid (wr.ownsRow w.heap.size 47 5 u5 k (shs P X k)) ∧ Hid (Ext w wr)) (fun _ u6 _ => 8 - (intOf u6).toNat)
  case atStart => exact ⟨0, Nat.zero_le _, rfl, HO, HE0⟩
  case round =>
    obtain ⟨k, hk, rfl, HOr, HE⟩ := hrel
    clear HO HE0
    have hk7 : k ≤ 7 := Nat.le_trans hk HC7.out
    by_cases hlt : k < c
    · obtain ⟨h1, h2⟩ := (HC.out k).1 hlt
      have h3 : (k : Int) + 1 ≤ 7 := by omega
      have hw : IntKind.i64.wrap ((k : Int) + 1 + 1) = (k : Int) + 1 + 1 := by rw [IntKind.wrap_i64]; omega
      by_cases hm7 : m < 7
      · have hm8 : ¬ 7 < m := by omega
        have hm9 : m ≤ 7 := by omega
        go_wp2_with fail
        refine (HEv.out k h2 _ HE.out).mono ?_
        rintro e w1 ⟨rfl, HX⟩
        have HO1 : Hid (w1.ownsRow w.heap.size 47 5 u5 k (shs P X k)) := own_ext HOr.out HX
        have HE1 : Hid (Ext w w1) := HE.out.trans HX
        clear HX HOr HE
        go_wp2_with (first | (at_builtin; refine wpList_append_lies _ rfl _ _ 29 rfl w.heap.size 47 i0 (.agg #[.int .i64 0, .int .u64 0, .int .u64 0, .int .u64 0, .int .u64 0]) 5 40 Tryd.underlying29 hi hz0 hz1 hz2 rfl (by decide) u5 k (shs P X k) rfl (HO1.out.alloc _) ⟨w1.heap.size, 0, none⟩ 1 1 (shc ((k : Int) + 1) (X k)) rfl rfl ?c1 (shc_one _ _) (by decide) (by unfold maxLen; omega) (by omega) ?c2 _ rfl ?_))
        case c1 => exact news5 w1
        case c2 => (have := HE1.out.size; simp; omega)
        intro g cap w2 hown hgrow _ hlt2
        have HO2 : Hid (w2.ownsRow w.heap.size 47 5 (.slice (some ⟨g, 0, none⟩) (k + 1) cap) (k + 1) (shs P X (k + 1))) := by
          show World.ownsRow _ _ _ _ _ _ _
          rw [show shs P X (k + 1) = shs P X k ++ shc (P k) (X k) from rfl, HPk.out k]
          exact hown
        have HE2 : Hid (Ext w w2) := Ext.grown (HE1.out.alloc _) (HO1.out.alloc _) (Nat.le_refl _) hgrow
        clear hown hgrow HO1 HE1
        go_wp2
        go_roundw
        case rel => exact ⟨k + 1, hlt, by push_cast; rfl, HO2, HE2⟩
        case measure => simp [intOf]; omega
      · by_cases hm8 : 7 < m
        · have hm9 : ¬ m ≤ 7 := by omega
          go_wp2_with fail
          refine (HEv.out k h2 _ HE.out).mono ?_
          rintro e w1 ⟨rfl, HX⟩
          have HO1 : Hid (w1.ownsRow w.heap.size 47 5 u5 k (shs P X k)) := own_ext HOr.out HX
          have HE1 : Hid (Ext w w1) := HE.out.trans HX
          clear HX HOr HE
          go_wp2_with (first | (at_builtin; refine wpList_append_lies _ rfl _ _ 29 rfl w.heap.size 47 i0 (.agg #[.int .i64 0, .int .u64 0, .int .u64 0, .int .u64 0, .int .u64 0]) 5 40 Tryd.underlying29 hi hz0 hz1 hz2 rfl (by decide) u5 k (shs P X k) rfl (HO1.out.alloc _) ⟨w1.heap.size, 0, none⟩ 1 1 (shc ((k : Int) + 1) (X k)) rfl rfl ?c1 (shc_one _ _) (by decide) (by unfold maxLen; omega) (by omega) ?c2 _ rfl ?_))
          case c1 => exact news5 w1
          case c2 => (have := HE1.out.size; simp; omega)
          intro g cap w2 hown hgrow _ hlt2
          have HO2 : Hid (w2.ownsRow w.heap.size 47 5 (.slice (some ⟨g, 0, none⟩) (k + 1) cap) (k + 1) (shs P X (k + 1))) := by
            show World.ownsRow _ _ _ _ _ _ _
            rw [show shs P X (k + 1) = shs P X k ++ shc (P k) (X k) from rfl, HPk.out k]
            exact hown
          have HE2 : Hid (Ext w w2) := Ext.grown (HE1.out.alloc _) (HO1.out.alloc _) (Nat.le_refl _) hgrow
          clear hown hgrow HO1 HE1
          go_wp2
          go_roundw
          case rel => exact ⟨k + 1, hlt, by push_cast; rfl, HO2, HE2⟩
          case measure => simp [intOf]; omega
        · obtain rfl : m = 7 := by omega
          go_wp2_with fail
          refine (HEv.out k h2 _ HE.out).mono ?_
          rintro e w1 ⟨rfl, HX⟩
          have HO1 : Hid (w1.ownsRow w.heap.size 47 5 u5 k (shs P X k)) := own_ext HOr.out HX
          have HE1 : Hid (Ext w w1) := HE.out.trans HX
          clear HX HOr HE
          go_wp2_with (first | (at_builtin; refine wpList_append_lies _ rfl _ _ 29 rfl w.heap.size 47 i0 (.agg #[.int .i64 0, .int .u64 0, .int .u64 0, .int .u64 0, .int .u64 0]) 5 40 Tryd.underlying29 hi hz0 hz1 hz2 rfl (by decide) u5 k (shs P X k) rfl (HO1.out.alloc _) ⟨w1.heap.size, 0, none⟩ 1 1 (shc ((k : Int) + 1) (X k)) rfl rfl ?c1 (shc_one _ _) (by decide) (by unfold maxLen; omega) (by omega) ?c2 _ rfl ?_))
          case c1 => exact news5 w1
          case c2 => (have := HE1.out.size; simp; omega)
          intro g cap w2 hown hgrow _ hlt2
          have HO2 : Hid (w2.ownsRow w.heap.size 47 5 (.slice (some ⟨g, 0, none⟩) (k + 1) cap) (k + 1) (shs P X (k + 1))) := by
            show World.ownsRow _ _ _ _ _ _ _
            rw [show shs P X (k + 1) = shs P X k ++ shc (P k) (X k) from rfl, HPk.out k]
            exact hown
          have HE2 : Hid (Ext w w2) := Ext.grown (HE1.out.alloc _) (HO1.out.alloc _) (Nat.le_refl _) hgrow
          clear hown hgrow HO1 HE1
          go_wp2
          go_roundw
          case rel => exact ⟨k + 1, hlt, by push_cast; rfl, HO2, HE2⟩
          case measure => simp [intOf]; omega
    · obtain rfl : k = c := by omega
      have h1 : ¬ ((k : Int) + 1 ≤ m ∧ (k : Int) + 1 ≤ 7) := fun h => hlt ((HC.out k).2 ⟨h.1, by omega⟩)
      by_cases hm7 : m < 7
      · have hm8 : ¬ 7 < m := by omega
        have hm9 : m ≤ 7 := by omega
        have h2 : ¬ (k : Int) + 1 ≤ m := by omega
        go_wp2
        go_ret
        exact ⟨_, rfl, HFn.out _ _ HOr.out, HE.out⟩
      · by_cases hm8 : 7 < m
        · have hm9 : ¬ m ≤ 7 := by omega
          have h2 : ¬ (k : Int) + 1 ≤ 7 := by omega
          go_wp2
          go_ret
          exact ⟨_, rfl, HFn.out _ _ HOr.out, HE.out⟩
        · obtain rfl : m = 7 := by omega
          have h2 : ¬ (k : Int) + 1 ≤ 7 := by omega
          go_wp2
          go_ret
          exact ⟨_, rfl, HFn.out _ _ HOr.out, HE.out⟩
end Go.Proofs.YtnaiccfdbapdpaaDoor
