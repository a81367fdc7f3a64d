/-
  numberOf, called; nothing old is turned.
-/
import Derived.Test.YtpfeakdpckmcgaaDoorLows
import Derived.Deep.RegionHeld3
namespace Go.Proofs.YtpfeakdpckmcgaaDoor
open Go.RowKit
attribute [local go_sem] setCell_drewN alloc_drewN
set_option maxHeartbeats 800000 in
set_option maxRecDepth 10000 in
theorem number_of_any (s : ByteArray) (hn : s.size = 32) (w : World) :
    Calls Tryd.prog 38 #[.string s] w fun e w' =>
      e = .returned (.agg #[.int .u64 (frW (bt s) 0), .int .u64 (frW (bt s) 1), .int .u64 (frW (bt s) 2), .int .u64 (frW (bt s) 3)]) ∧ Ext w w' := by
  go_enter Tryd.func38, Tryd.ntmps38
  go_wp2
  go_loopw [6] (fun i wr => ∃ (k : Nat), k ≤ 32 ∧ i = .int .i64 k ∧ ∃ n, wr = ((w.alloc (.cells #[.int .u64 0, .int .u64 0, .int .u64 0, .int .u64 0] 39)).alloc (.cells (fa (fwd (bt s) k)) 39)).drewN n) (fun i _ => 32 - (intOf i).toNat)
  case atStart => exact ⟨0, Nat.zero_le _, rfl, 0, rfl⟩
  case round =>
    obtain ⟨k, hk, rfl, n, rfl⟩ := hrel
    by_cases hlt : k < 32
    · have hix : (31 - k) / 8 = 3 - k / 8 := by omega
      have hf := fa_get (fwd (bt s) k) ((31 - k) / 8) (by omega)
      have HS : Hid (∀ v, (fa (fwd (bt s) k)).setIfInBounds ((31 - k) / 8) (.int .u64 v) = fa (fun i => if i = (31 - k) / 8 then v else fwd (bt s) k i)) := fun v => fa_set (fwd (bt s) k) ((31 - k) / 8) (by omega) v
      have HF : Hid (fwd (bt s) (k + 1) = fun i => if i = (31 - k) / 8 then orV (fwd (bt s) k ((31 - k) / 8)) (bt s k) else fwd (bt s) k i) := by rw [hix]; rfl
      have HB : Hid (((s[k]'(by omega)).toNat : Int) = bt s k) := bt_get s k (by omega)
      have hk0 : (0 : Int) ≤ (k : Int) := by omega
      have hk1 : (k : Int) < 32 := by omega
      have hw1 : IntKind.i64.wrap (31 - (k : Int)) = ((31 - k : Nat) : Int) := by rw [IntKind.wrap_i64]; omega
      clear hix
      go_wp2
      go_region
      go_wp2
      exact ⟨⟨k + 1, hlt, by go_num, n + 1, by
        rw [HB.out, HS.out, HF.out]
        rfl⟩, by simp [intOf]; omega⟩
    · obtain rfl : k = 32 := by omega
      obtain ⟨e0, e1, e2, e3⟩ := fwd_32 (bt s) (bt_bd s)
      obtain ⟨a0, H0⟩ : ∃ a, Hid (frW (bt s) 0 = a) := ⟨_, rfl⟩
      obtain ⟨a1, H1⟩ : ∃ a, Hid (frW (bt s) 1 = a) := ⟨_, rfl⟩
      obtain ⟨a2, H2⟩ : ∃ a, Hid (frW (bt s) 2 = a) := ⟨_, rfl⟩
      obtain ⟨a3, H3⟩ : ∃ a, Hid (frW (bt s) 3 = a) := ⟨_, rfl⟩
      have hfa : fa (fwd (bt s) 32) = #[.int .u64 a0, .int .u64 a1, .int .u64 a2, .int .u64 a3] := by
        unfold fa; rw [e0, e1, e2, e3, H0.out, H1.out, H2.out, H3.out]
      rw [hfa]
      clear hfa e0 e1 e2 e3
      go_wp2
      refine bodyPost_ret (v := .agg #[.int .u64 a0, .int .u64 a1, .int .u64 a2, .int .u64 a3]) (by simp [results, Tryd.results38, go_sem]) rfl ⟨by rw [H0.out, H1.out, H2.out, H3.out], ?_⟩
      exact (((Ext.refl _).alloc _).alloc _).drewN _
end Go.Proofs.YtpfeakdpckmcgaaDoor
