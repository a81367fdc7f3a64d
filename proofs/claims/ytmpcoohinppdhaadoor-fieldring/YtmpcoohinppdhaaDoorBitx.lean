/-
  limbs.Bit, called; nothing old is turned.
-/
import Derived.Test.YtmpcoohinppdhaaDoorBase
namespace Go.Proofs.YtmpcoohinppdhaaDoor
open Go.RowKit
/-- Bit number i, as the text reckons it. -/
def bitV (x : Int) (i : Nat) : Bool := bits BinOp.and IntKind.u64 (x / 2 ^ (i % 64)) 1 == 1
set_option maxHeartbeats 400000 in
theorem bit_in (a0 a1 a2 a3 : Int) (i : Nat) (hi : i < 256) (w : World) :
    Calls Tryd.prog 30 #[.agg #[.int .u64 a0, .int .u64 a1, .int .u64 a2, .int .u64 a3], .int .i64 i] w fun e w' =>
      e = .returned (.bool (bitV (wd a0 a1 a2 a3 (i / 64)) i)) ∧ Ext w w' := by
  have ga := wd_get a0 a1 a2 a3 (i / 64) (by omega)
  have ga2 := get_some ga
  have HB : Hid (bitV (wd a0 a1 a2 a3 (i / 64)) i = (bits BinOp.and IntKind.u64 (wd a0 a1 a2 a3 (i / 64) / 2 ^ (i % 64)) 1 == 1)) := rfl
  generalize wd a0 a1 a2 a3 (i / 64) = x at *
  go_enter Tryd.func30, Tryd.ntmps30
  go_wp2
  go_ret
  exact ⟨by rw [HB.out]; rfl, (Ext.refl _).alloc _⟩
set_option maxHeartbeats 400000 in
theorem bit_out (a0 a1 a2 a3 : Int) (i : Int) (hi : i < 0 ∨ 255 < i) (w : World) :
    Calls Tryd.prog 30 #[.agg #[.int .u64 a0, .int .u64 a1, .int .u64 a2, .int .u64 a3], .int .i64 i] w fun e w' =>
      e = .returned (.bool false) ∧ Ext w w' := by
  by_cases h0 : i < 0
  · have h2 : decide (i < 0) = true := by simpa using h0
    go_enter Tryd.func30, Tryd.ntmps30
    go_wp2
    go_ret
    exact ⟨rfl, (Ext.refl _).alloc _⟩
  · have h2 : decide (i < 0) = false := by simpa using h0
    have h3 : 255 < i := by omega
    have h4 : decide (255 < i) = true := by simpa using h3
    go_enter Tryd.func30, Tryd.ntmps30
    go_wp2
    go_ret
    exact ⟨rfl, (Ext.refl _).alloc _⟩
end Go.Proofs.YtmpcoohinppdhaaDoor
