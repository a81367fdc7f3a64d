/-
  cast.Quorum, sandglassref20.Quorum, called: the quorum.
-/
import Derived.Test.YtmibekclhnkhnaaClo
import Derived.Test.YtmibekclhnkhnaaVo
import Derived.Test.YtmibekclhnkhnaaCNet
import Derived.Test.YtmibekclhnkhnaaHeld
import Derived.Deep.QuietTactic
import Derived.BigQuiet
namespace Go.Proofs.Ytmibekclhnkhnaa
open Go.RowKit
/-- There is a quorum of n nodes, t of which may be wrong. -/
abbrev hasQ (n t : Int) : Prop := 0 ≤ t ∧ t ≤ 2 ∧ 3 * t + 1 ≤ n ∧ n ≤ 7
/-- How many are one. -/
def qI (n t : Int) : Int := if hasQ n t then (n + t) / 2 + 1 else 0
theorem qI_nat {N T : Nat} (h : hasQ (N : Int) (T : Int)) : qI N T = (qm N T : Int) := by
  unfold qI qm; rw [if_pos h]; omega
set_option maxHeartbeats 1000000 in
theorem quorum_any (n t : Int) (w : World) : Calls Try.prog 8 #[.int .i64 n, .int .i64 t] w fun e w' => e = .returned (.int .i64 (qI n t)) ∧ w' = w := by
  by_cases h : hasQ n t
  · obtain ⟨h1, h2, h3, h4⟩ := h
    have HQ : Hid (qI n t = (n + t) / 2 + 1) := if_pos ⟨h1, h2, h3, h4⟩
    have e1 : IntKind.i64.wrap (3 * t) = 3 * t := by rw [IntKind.wrap_i64]; omega
    have e2 : IntKind.i64.wrap (3 * t + 1) = 3 * t + 1 := by rw [IntKind.wrap_i64]; omega
    have e3 : IntKind.i64.wrap (n + t) = n + t := by rw [IntKind.wrap_i64]; omega
    have a1 : ¬ t < 0 := by omega
    have a2 : ¬ 2 < t := by omega
    have a3 : ¬ n < 3 * t + 1 := by omega
    have a4 : ¬ 7 < n := by omega
    go_enter Try.func8, Try.ntmps8
    go_wp2
    go_ret
    exact ⟨by rw [HQ.out]; rfl, rfl⟩
  · have HQ : Hid (qI n t = 0) := if_neg h
    by_cases b1 : t < 0
    · clear h
      go_enter Try.func8, Try.ntmps8
      go_wp2
      go_ret
      exact ⟨by rw [HQ.out]; rfl, rfl⟩
    · by_cases b2 : 2 < t
      · clear h
        go_enter Try.func8, Try.ntmps8
        go_wp2
        go_ret
        exact ⟨by rw [HQ.out]; rfl, rfl⟩
      · have e1 : IntKind.i64.wrap (3 * t) = 3 * t := by rw [IntKind.wrap_i64]; omega
        have e2 : IntKind.i64.wrap (3 * t + 1) = 3 * t + 1 := by rw [IntKind.wrap_i64]; omega
        by_cases b3 : n < 3 * t + 1
        · clear h
          go_enter Try.func8, Try.ntmps8
          go_wp2
          go_ret
          exact ⟨by rw [HQ.out]; rfl, rfl⟩
        · have b4 : 7 < n := by unfold hasQ at h; omega
          clear h
          go_enter Try.func8, Try.ntmps8
          go_wp2
          go_ret
          exact ⟨by rw [HQ.out]; rfl, rfl⟩
set_option maxHeartbeats 1000000 in
theorem rquorum_any (n t : Int) (w : World) : Calls Try.prog 9 #[.int .i64 n, .int .i64 t] w fun e w' => e = .returned (.int .i64 (qI n t)) ∧ w' = w := by
  by_cases h : hasQ n t
  · obtain ⟨h1, h2, h3, h4⟩ := h
    have HQ : Hid (qI n t = (n + t) / 2 + 1) := if_pos ⟨h1, h2, h3, h4⟩
    have e1 : IntKind.i64.wrap (3 * t) = 3 * t := by rw [IntKind.wrap_i64]; omega
    have e2 : IntKind.i64.wrap (3 * t + 1) = 3 * t + 1 := by rw [IntKind.wrap_i64]; omega
    have e3 : IntKind.i64.wrap (n + t) = n + t := by rw [IntKind.wrap_i64]; omega
    have a1 : ¬ t < 0 := by omega
    have a2 : ¬ 2 < t := by omega
    have a3 : ¬ n < 3 * t + 1 := by omega
    have a4 : ¬ 7 < n := by omega
    go_enter Try.func9, Try.ntmps9
    go_wp2
    go_ret
    exact ⟨by rw [HQ.out]; rfl, rfl⟩
  · have HQ : Hid (qI n t = 0) := if_neg h
    by_cases b1 : t < 0
    · clear h
      go_enter Try.func9, Try.ntmps9
      go_wp2
      go_ret
      exact ⟨by rw [HQ.out]; rfl, rfl⟩
    · by_cases b2 : 2 < t
      · clear h
        go_enter Try.func9, Try.ntmps9
        go_wp2
        go_ret
        exact ⟨by rw [HQ.out]; rfl, rfl⟩
      · have e1 : IntKind.i64.wrap (3 * t) = 3 * t := by rw [IntKind.wrap_i64]; omega
        have e2 : IntKind.i64.wrap (3 * t + 1) = 3 * t + 1 := by rw [IntKind.wrap_i64]; omega
        by_cases b3 : n < 3 * t + 1
        · clear h
          go_enter Try.func9, Try.ntmps9
          go_wp2
          go_ret
          exact ⟨by rw [HQ.out]; rfl, rfl⟩
        · have b4 : 7 < n := by unfold hasQ at h; omega
          clear h
          go_enter Try.func9, Try.ntmps9
          go_wp2
          go_ret
          exact ⟨by rw [HQ.out]; rfl, rfl⟩
end Go.Proofs.Ytmibekclhnkhnaa
