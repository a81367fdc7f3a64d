/-
  ShamirEvals, ShamirWeights, ShamirJoins, walked: they answer true; nothing old is turned.
-/
import Derived.Test.YtnaiccfdbapdpaaDoorAwake
namespace Go.Proofs.YtnaiccfdbapdpaaDoor
open Go.RowKit
attribute [local go_sem] run_eq4
set_option maxHeartbeats 4000000 in
set_option maxRecDepth 10000 in
theorem evals_any (v : Value) (n : Nat) (f : Nat → Nat → Int) (x m : Int) (hx : I64 x) (hm : I64 m) (hl : LimN f n) (w : World) (hG : Gl w) (hL : Lies w v n 4 (nc f)) :
    Calls Tryd.prog 3 #[v, .int .i64 x, .int .i64 m] w fun e w' => e = .returned (.bool true) ∧ Ext w w' := by
  obtain ⟨a, cap, rfl, hL'⟩ := hL
  have HL : Hid (Lies w (.slice a n cap) n 4 (nc f)) := ⟨a, cap, rfl, hL'⟩
  have HG : Hid (Gl w) := hG
  clear hL' hG
  go_enter Tryd.func3, Tryd.ntmps3
  by_cases hn : 20 < n
  · have h20 : (20 : Int) < (n : Int) := by omega
    go_wp2_with fail
    refine (awake_any _ HG.out).mono ?_
    rintro e w1 ⟨rfl, HX1⟩
    have HE1 : Hid (Ext w w1) := HX1
    clear HX1
    go_wp2
    go_ret
    exact ⟨rfl, HE1.out⟩
  · have h20 : ¬ (20 : Int) < (n : Int) := by omega
    have HE0 : Hid (Ext w w) := Ext.refl w
    go_wp2_with fail
    refine (seval_any _ n f x hx (by omega) hl _ HG.out HL.out).mono ?_
    rintro e w1 ⟨r0, r1, r2, r3, rfl, HQ1, HX1⟩
    have HE1 : Hid (Ext w w1) := HX1
    clear HX1
    go_wp2_with fail
    refine (reval_any _ n f x hx (by omega) hl _ (HL.out.ext HE1.out)).mono ?_
    rintro e w2 ⟨s0, s1, s2, s3, rfl, HQ2, HX2⟩
    obtain ⟨rfl, rfl, rfl, rfl⟩ := HQ2.out.one HQ1.out rfl
    have HE2 : Hid (Ext w w2) := HE1.out.trans HX2
    clear HX2 HE1 HQ1 HQ2
    have h4 : eq4 s0 s1 s2 s3 s0 s1 s2 s3 = true := by simp [eq4]
    go_wp2_with fail
    refine (sshares_any _ n f m hm (by omega) hl _ (HG.out.ext HE2.out) (HL.out.ext HE2.out)).mono ?_
    rintro e w3 ⟨ua, rfl, hA, HX3⟩
    have HE3 : Hid (Ext w w3) := HE2.out.trans HX3
    have HA : Hid (Lies w3 ua (cnt m) 5 (sc (fun i => (i : Int) + 1) (fun i j => qw (evL (cfs f n) ((i : Int) + 1)) j))) := hA
    clear HX3 HE2 hA
    go_wp2_with fail
    refine (rshares_any _ n f m (by omega) hl _ (HL.out.ext HE3.out)).mono ?_
    rintro e w4 ⟨ub, rfl, hB, HX4⟩
    have HE4 : Hid (Ext w w4) := HE3.out.trans HX4
    have HAB : Hid (Lies w4 ua (cnt m) 5 (sc (fun i => (i : Int) + 1) (fun i j => qw (evL (cfs f n) ((i : Int) + 1)) j)) ∧ Lies w4 ub (cnt m) 5 (sc (fun i => (i : Int) + 1) (fun i j => qw (evL (cfs f n) ((i : Int) + 1)) j))) := ⟨HA.out.ext HX4, Lies.own hB (shs_at _ _ _)⟩
    clear HX4 HE3 hB HA
    go_wp2_with fail
    refine (rsame_any _ _ (cnt m) _ _ (Nat.le_trans (cnt_le m) (by decide)) _ HAB.out.1 HAB.out.2).mono ?_
    rintro e w5 ⟨rfl, HX5⟩
    have HE5 : Hid (Ext w w5) := HE4.out.trans HX5
    clear HX5 HE4 HAB
    go_wp2_with fail
    refine (awake_any _ (HG.out.ext HE5.out)).mono ?_
    rintro e w6 ⟨rfl, HX6⟩
    have HE6 : Hid (Ext w w6) := HE5.out.trans HX6
    clear HX6 HE5
    go_wp2
    go_ret
    exact ⟨rfl, HE6.out⟩
set_option maxHeartbeats 4000000 in
set_option maxRecDepth 10000 in
theorem weights_any (v : Value) (n : Nat) (P : Nat → Int) (hP : ∀ i, i < n → I64 (P i)) (w : World) (hG : Gl w) (hL : Lies w v n 1 (fun k => .int .i64 (P k))) :
    Calls Tryd.prog 4 #[v] w fun e w' => e = .returned (.bool true) ∧ Ext w w' := by
  obtain ⟨a, cap, rfl, hL'⟩ := hL
  have HL : Hid (Lies w (.slice a n cap) n 1 (fun k => .int .i64 (P k))) := ⟨a, cap, rfl, hL'⟩
  have HG : Hid (Gl w) := hG
  have HP : Hid (∀ i, i < n → I64 (P i)) := hP
  clear hL' hG hP
  go_enter Tryd.func4, Tryd.ntmps4
  by_cases hn : 12 < n
  · have h20 : (12 : Int) < (n : Int) := by omega
    go_wp2_with fail
    refine (awake_any _ HG.out).mono ?_
    rintro e w1 ⟨rfl, HX1⟩
    have HE1 : Hid (Ext w w1) := HX1
    clear HX1
    go_wp2
    go_ret
    exact ⟨rfl, HE1.out⟩
  · have h20 : ¬ (12 : Int) < (n : Int) := by omega
    go_wp2_with fail
    refine (sweights_any _ n P HP.out (by omega) _ HG.out HL.out).mono ?_
    rintro e w1 ⟨HX1, h1⟩
    have HE1 : Hid (Ext w w1) := HX1
    obtain ⟨ua, ea, k, hk, rfl, hA⟩ : ∃ (ua : Value) (ea : Int) (k : Nat), Hid ((OkP P n ∧ k = n ∧ ea = 0) ∨ (¬ OkP P n ∧ k = 0 ∧ ea = 1)) ∧ e = .returned (.tuple #[ua, .int .i64 ea]) ∧ Lies w1 ua k 4 (nc (fun i j => qw (wI P i n) j)) := by
      rcases h1 with ⟨ho, u, rfl, hu⟩ | ⟨ho, u, rfl, hu⟩
      · exact ⟨u, 0, n, .inl ⟨ho, rfl, rfl⟩, rfl, hu⟩
      · exact ⟨u, 1, 0, .inr ⟨ho, rfl, rfl⟩, rfl, hu⟩
    have HA : Hid (Lies w1 ua k 4 (nc (fun i j => qw (wI P i n) j))) := hA
    clear HX1 h1 hA
    go_wp2_with fail
    refine (rweights_any _ n P (by omega) _ (HL.out.ext HE1.out)).mono ?_
    rintro e w2 ⟨HX2, h2⟩
    have HE2 : Hid (Ext w w2) := HE1.out.trans HX2
    obtain ⟨ub, rfl, hB⟩ : ∃ ub : Value, e = .returned (.tuple #[ub, .int .i64 ea]) ∧ Lies w2 ub k 4 (nc (fun i j => qw (wI P i n) j)) := by
      rcases h2 with ⟨ho, u, rfl, hu⟩ | ⟨ho, rfl⟩
      · rcases hk.out with ⟨_, rfl, rfl⟩ | ⟨hb, _, _⟩
        · exact ⟨u, rfl, Lies.own hu (nml_at _ _)⟩
        · exact absurd ho hb
      · rcases hk.out with ⟨hb, _, _⟩ | ⟨_, rfl, rfl⟩
        · exact absurd hb ho
        · exact ⟨_, rfl, lies_nil _ _ _⟩
    have HAB : Hid (Lies w2 ua k 4 (nc (fun i j => qw (wI P i n) j)) ∧ Lies w2 ub k 4 (nc (fun i j => qw (wI P i n) j))) := ⟨HA.out.ext HX2, hB⟩
    have hk1 : k ≤ 1000 := by rcases hk.out with ⟨_, rfl, _⟩ | ⟨_, rfl, _⟩ <;> omega
    clear HX2 h2 hB HA HE1 hk
    go_wp2_with fail
    refine (rnums_any _ _ k _ hk1 _ HAB.out.1 HAB.out.2).mono ?_
    rintro e w3 ⟨rfl, HX3⟩
    have HE3 : Hid (Ext w w3) := HE2.out.trans HX3
    clear HX3 HE2 HAB
    go_wp2_with fail
    refine (awake_any _ (HG.out.ext HE3.out)).mono ?_
    rintro e w6 ⟨rfl, HX6⟩
    have HE6 : Hid (Ext w w6) := HE3.out.trans HX6
    clear HX6 HE3
    go_wp2
    go_ret
    exact ⟨rfl, HE6.out⟩
set_option maxHeartbeats 4000000 in
set_option maxRecDepth 10000 in
theorem joins_any (v : Value) (n : Nat) (P : Nat → Int) (F : Nat → Nat → Int) (hP : ∀ i, i < n → I64 (P i)) (hl : LimN F n) (w : World) (hG : Gl w) (hL : Lies w v n 5 (sc P F)) :
    Calls Tryd.prog 5 #[v] w fun e w' => e = .returned (.bool true) ∧ Ext w w' := by
  obtain ⟨a, cap, rfl, hL'⟩ := hL
  have HL : Hid (Lies w (.slice a n cap) n 5 (sc P F)) := ⟨a, cap, rfl, hL'⟩
  have HG : Hid (Gl w) := hG
  have HP : Hid (∀ i, i < n → I64 (P i)) := hP
  clear hL' hG hP
  go_enter Tryd.func5, Tryd.ntmps5
  by_cases hn : 12 < n
  · have h20 : (12 : Int) < (n : Int) := by omega
    go_wp2_with fail
    refine (awake_any _ HG.out).mono ?_
    rintro e w1 ⟨rfl, HX1⟩
    have HE1 : Hid (Ext w w1) := HX1
    clear HX1
    go_wp2
    go_ret
    exact ⟨rfl, HE1.out⟩
  · have h20 : ¬ (12 : Int) < (n : Int) := by omega
    go_wp2_with fail
    refine (sjoin_any _ n P F HP.out (by omega) hl _ HG.out HL.out).mono ?_
    rintro e w1 ⟨HX1, h1⟩
    have HE1 : Hid (Ext w w1) := HX1
    obtain ⟨r0, r1, r2, r3, ea, hk, rfl⟩ : ∃ (r0 r1 r2 r3 ea : Int), Hid ((OkP P n ∧ QMod (smN (fun i => wI P i n * val (F i 0) (F i 1) (F i 2) (F i 3)) n) r0 r1 r2 r3 ∧ ea = 0) ∨ (¬ OkP P n ∧ (r0 = 0 ∧ r1 = 0 ∧ r2 = 0 ∧ r3 = 0) ∧ ea = 1)) ∧ e = .returned (.tuple #[.agg #[.int .u64 r0, .int .u64 r1, .int .u64 r2, .int .u64 r3], .int .i64 ea]) := by
      rcases h1 with ⟨ho, r0, r1, r2, r3, rfl, hu⟩ | ⟨ho, rfl⟩
      · exact ⟨r0, r1, r2, r3, 0, .inl ⟨ho, hu.out, rfl⟩, rfl⟩
      · exact ⟨0, 0, 0, 0, 1, .inr ⟨ho, ⟨rfl, rfl, rfl, rfl⟩, rfl⟩, rfl⟩
    clear HX1 h1
    have Ra := Row.new w1 r0 r1 r2 r3
    have HE2 : Hid (Ext w (w1.alloc (.cells #[.int .u64 r0, .int .u64 r1, .int .u64 r2, .int .u64 r3] 26))) := HE1.out.alloc _
    clear HE1
    go_wp2_with fail
    generalize w1.alloc (.cells #[.int .u64 r0, .int .u64 r1, .int .u64 r2, .int .u64 r3] 26) = W2 at *
    generalize w1.heap.size = ba at *
    refine (rjoin_any _ n P F (by omega) hl _ (HL.out.ext HE2.out)).mono ?_
    rintro e w3 ⟨HX3, h2⟩
    obtain rfl : e = .returned (.tuple #[.agg #[.int .u64 r0, .int .u64 r1, .int .u64 r2, .int .u64 r3], .int .i64 ea]) := by
      rcases h2 with ⟨ho, s0, s1, s2, s3, rfl, hu⟩ | ⟨ho, rfl⟩
      · rcases hk.out with ⟨_, hq, rfl⟩ | ⟨hb, _, _⟩
        · obtain ⟨rfl, rfl, rfl, rfl⟩ := hu.out.one hq rfl; rfl
        · exact absurd ho hb
      · rcases hk.out with ⟨hb, _, _⟩ | ⟨_, ⟨rfl, rfl, rfl, rfl⟩, rfl⟩
        · exact absurd hb ho
        · rfl
    have Rb := Row.new w3 r0 r1 r2 r3
    have Ra2 := Ra.ext (HX3.alloc (.cells #[.int .u64 r0, .int .u64 r1, .int .u64 r2, .int .u64 r3] 26))
    have HE4 : Hid (Ext w (w3.alloc (.cells #[.int .u64 r0, .int .u64 r1, .int .u64 r2, .int .u64 r3] 26))) := (HE2.out.trans HX3).alloc _
    clear HX3 h2 hk Ra HE2
    have h4 : eq4 r0 r1 r2 r3 r0 r1 r2 r3 = true := by simp [eq4]
    obtain ⟨la, a0, a1, a2, a3⟩ := Ra2
    obtain ⟨lb, b0, b1, b2, b3⟩ := Rb
    go_wp2_with fail
    refine (awake_any _ (HG.out.ext HE4.out)).mono ?_
    rintro e w6 ⟨rfl, HX6⟩
    have HE6 : Hid (Ext w w6) := HE4.out.trans HX6
    clear HX6 HE4
    go_wp2
    go_ret
    exact ⟨rfl, HE6.out⟩
end Go.Proofs.YtnaiccfdbapdpaaDoor
