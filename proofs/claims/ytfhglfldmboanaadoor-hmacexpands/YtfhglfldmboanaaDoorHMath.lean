/-
  HMAC over texts, by its definition; no function of the program is named here.
-/
import Derived.Test.YtfhglfldmboanaaDoorPad
namespace Go.Proofs.YtfhglfldmboanaaDoor
open Go.RowKit
/-- The key's own bytes: a longer one is its sum. -/
def keyS (key : ByteArray) : ByteArray := if 64 < key.size then shaS key else key
/-- 64 bytes of the key, each xored. -/
def padS (key : ByteArray) (x : Nat) : ByteArray := mkS (fun i => sb (keyS key) i ^^^ x) 64
def macS (key s : ByteArray) : ByteArray := shaS (padS key 92 ++ shaS (padS key 54 ++ s))
theorem mkS_size (T : Nat → Nat) (n : Nat) : (mkS T n).size = n := by
  show (((List.range n).map fun i => UInt8.ofNat (T i)).toArray).size = n
  simp
theorem shaS_size (s : ByteArray) : (shaS s).size = 32 := mkS_size _ _
theorem keyS_size (key : ByteArray) : (keyS key).size ≤ 64 := by
  unfold keyS
  split
  · rw [shaS_size]; decide
  · omega
theorem sb_past {s : ByteArray} {j : Nat} (h : s.size ≤ j) : sb s j = 0 := by
  unfold sb
  rw [List.getD_eq_getElem?_getD, List.getElem?_eq_none (by simpa using h)]
  rfl
end Go.Proofs.YtfhglfldmboanaaDoor
