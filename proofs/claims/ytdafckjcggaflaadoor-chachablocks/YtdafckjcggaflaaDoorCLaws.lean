/-
  The laws of layer 9, called: true for every input; nothing old is turned.
-/
import Derived.Test.YtdafckjcggaflaaDoorCAwake
namespace Go.Proofs.YtdafckjcggaflaaDoor
open Go.RowKit
set_option maxHeartbeats 1000000 in
theorem chachaBlocks_any (key nonce : ByteArray) (n : Nat) (hn : n < 4294967296) (w : World) (hG : Gl w) :
    Calls Tryd.prog 3 #[.string key, .string nonce, .int .u32 (n : Int)] w fun e w' => e = .returned (.bool true) ∧ Ext w w' := by
  have h2 := blkR_two key nonce n
  have C1 := cblock_any key nonce n hn w hG
  have C2 : Hid (∀ W, Calls Tryd.prog 8 #[.string key, .string nonce, .int .u32 (n : Int)] W fun e w' => e = .returned (.tuple #[.string (blkR key nonce n).1, .int .i64 (blkR key nonce n).2]) ∧ Ext W w') := fun W => rblock_r key nonce n hn W
  generalize blkR key nonce n = r at h2 C1 C2
  obtain ⟨r1, r2⟩ := r
  have hw : IntKind.i64.wrap r2 = r2 := by rw [IntKind.wrap_i64]; simp only at h2; omega
  clear h2
  go_enter Tryd.func3, Tryd.ntmps3
  go_wp2_with fail
  refine C1.mono ?_
  rintro e w1 ⟨rfl, HX⟩
  have HX1 : Hid (Ext w w1) := HX
  have hG1 := hG.ext HX
  clear HX
  go_wp2_with fail
  with_reducible refine (C2.out _).mono ?_
  rintro e w2 ⟨rfl, HX⟩
  have HX2 : Hid (Ext w w2) := HX1.out.trans HX
  have hG2 := hG1.ext HX
  clear HX
  go_wp2_with fail
  refine (awake_any _ hG2).mono ?_
  rintro e w3 ⟨rfl, HX⟩
  have HX3 : Hid (Ext w w3) := HX2.out.trans HX
  clear HX
  go_wp2
  go_ret
  exact ⟨rfl, HX3.out⟩
end Go.Proofs.YtdafckjcggaflaaDoor
