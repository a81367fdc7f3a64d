/-
  limbs.From, called; nothing old is turned.
-/
import Derived.Test.YtdjdociecokilaaDoorFromMath
import Derived.Deep.RegionHeld3
namespace Go.Proofs.YtdjdociecokilaaDoor
open Go.RowKit
attribute [local go_sem] setCell_drewN alloc_drewN
set_option maxHeartbeats 400000 in
theorem from_bad (s : ByteArray) (_hs : s.size ≤ maxLen) (hn : s.size ≠ 32) (w : World) :
    Calls Tryd.prog 41 #[.string s] w fun e w' =>
      e = .returned (.tuple #[.agg #[.int .u64 0, .int .u64 0, .int .u64 0, .int .u64 0], .int .i64 2]) ∧ Ext w w' := by
  unfold maxLen at _hs
  have hne : ((s.size : Int) != 32) = true := by simp; omega
  go_enter Tryd.func41, Tryd.ntmps41
  go_wp2
  refine bodyPost_ret (v := .tuple #[.agg #[.int .u64 0, .int .u64 0, .int .u64 0, .int .u64 0], .int .i64 2]) (by simp [results, Tryd.results41, go_sem]) rfl ⟨rfl, ?_⟩
  exact (Ext.refl _).alloc _
set_option maxHeartbeats 400000 in
theorem from_any (s : ByteArray) (hn : s.size = 32) (w : World) :
    Calls Tryd.prog 41 #[.string s] w fun e w' =>
      e = .returned (.tuple #[.agg #[.int .u64 (frW (bt s) 0), .int .u64 (frW (bt s) 1), .int .u64 (frW (bt s) 2), .int .u64 (frW (bt s) 3)], .int .i64 0]) ∧ Ext w w' := by
  go_enter Tryd.func41, Tryd.ntmps41
  go_wp2
  go_loopw [11] (fun i wr => ∃ (k : Nat), k ≤ 32 ∧ i = .int .i64 k ∧ ∃ n, wr = ((w.alloc (.cells #[.int .u64 0, .int .u64 0, .int .u64 0, .int .u64 0] 24)).alloc (.cells (fa (fwd (bt s) k)) 24)).drewN n) (fun i _ => 32 - (intOf i).toNat)
  case atStart => exact ⟨0, Nat.zero_le _, rfl, 0, rfl⟩
  case round =>
    obtain ⟨k, hk, rfl, n, rfl⟩ := hrel
    by_cases hlt : k < 32
    · have hf := fa_get (fwd (bt s) k) (3 - k / 8) (by omega)
      have HS : Hid (∀ v, (fa (fwd (bt s) k)).setIfInBounds (3 - k / 8) (.int .u64 v) = fa (fun i => if i = 3 - k / 8 then v else fwd (bt s) k i)) := fun v => fa_set (fwd (bt s) k) (3 - k / 8) (by omega) v
      have HB : Hid (((s[k]'(by omega)).toNat : Int) = bt s k) := bt_get s k (by omega)
      have hk0 : (0 : Int) ≤ (k : Int) := by omega
      have hk1 : (k : Int) < 32 := by omega
      go_wp2
      go_region
      go_wp2
      exact ⟨⟨k + 1, hlt, by go_num, n + 1, by
        rw [HB.out]
        rw [HS.out]
        rfl⟩, by simp [intOf]; omega⟩
    · obtain rfl : k = 32 := by omega
      obtain ⟨e0, e1, e2, e3⟩ := fwd_32 (bt s) (bt_bd s)
      obtain ⟨a0, H0⟩ : ∃ a, Hid (frW (bt s) 0 = a) := ⟨_, rfl⟩
      obtain ⟨a1, H1⟩ : ∃ a, Hid (frW (bt s) 1 = a) := ⟨_, rfl⟩
      obtain ⟨a2, H2⟩ : ∃ a, Hid (frW (bt s) 2 = a) := ⟨_, rfl⟩
      obtain ⟨a3, H3⟩ : ∃ a, Hid (frW (bt s) 3 = a) := ⟨_, rfl⟩
      have hfa : fa (fwd (bt s) 32) = #[.int .u64 a0, .int .u64 a1, .int .u64 a2, .int .u64 a3] := by
        unfold fa; rw [e0, e1, e2, e3, H0.out, H1.out, H2.out, H3.out]
      rw [hfa]
      clear hfa e0 e1 e2 e3
      go_wp2
      refine bodyPost_ret (v := .tuple #[.agg #[.int .u64 a0, .int .u64 a1, .int .u64 a2, .int .u64 a3], .int .i64 0]) (by simp [results, Tryd.results41, go_sem]) rfl ⟨by rw [H0.out, H1.out, H2.out, H3.out], ?_⟩
      exact (((Ext.refl _).alloc _).alloc _).drewN _
end Go.Proofs.YtdjdociecokilaaDoor
