/-
  A number as a text of 32 bytes. No function of the program is named here.
-/
import Derived.Test.YtdjdociecokilaaDoorBase
namespace Go.Proofs.YtdjdociecokilaaDoor
open Go.RowKit
/-- The cells of the text behind k rounds. -/
def tx (B : Nat → Int) : Nat → Array Value
  | 0 => #[.int .u8 0, .int .u8 0, .int .u8 0, .int .u8 0, .int .u8 0, .int .u8 0, .int .u8 0, .int .u8 0, .int .u8 0, .int .u8 0, .int .u8 0, .int .u8 0, .int .u8 0, .int .u8 0, .int .u8 0, .int .u8 0, .int .u8 0, .int .u8 0, .int .u8 0, .int .u8 0, .int .u8 0, .int .u8 0, .int .u8 0, .int .u8 0, .int .u8 0, .int .u8 0, .int .u8 0, .int .u8 0, .int .u8 0, .int .u8 0, .int .u8 0, .int .u8 0]
  | k + 1 => (tx B k).setIfInBounds (31 - k) (.int .u8 (B k))
theorem tx_size (B : Nat → Int) (k : Nat) : (tx B k).size = 32 := by
  induction k with
  | zero => rfl
  | succ k ih => simp [tx, ih]
def byteAt (a0 a1 a2 a3 : Int) (k : Nat) : Int := wd a0 a1 a2 a3 (k / 8) / 2 ^ (k % 8 * 8) % 256
/-- The numbers of the 32 bytes, the highest first; the text. -/
def nsOf (B : Nat → Int) : List Int := [B 31, B 30, B 29, B 28, B 27, B 26, B 25, B 24, B 23, B 22, B 21, B 20, B 19, B 18, B 17, B 16, B 15, B 14, B 13, B 12, B 11, B 10, B 9, B 8, B 7, B 6, B 5, B 4, B 3, B 2, B 1, B 0]
def bs (B : Nat → Int) : ByteArray := ⟨((nsOf B).map fun n => UInt8.ofNat n.toNat).toArray⟩
theorem tx_32 (B : Nat → Int) : tx B 32 = ((nsOf B).map (Value.int .u8)).toArray := by
  simp [tx, nsOf]
theorem foldl_push (ns : List Int) (l : List UInt8) : ns.foldl (fun r n => r.push (UInt8.ofNat n.toNat)) (⟨l.toArray⟩ : ByteArray) = ⟨(l ++ ns.map fun n => UInt8.ofNat n.toNat).toArray⟩ := by
  induction ns generalizing l with
  | nil => simp
  | cons n ns ih =>
    rw [List.foldl_cons]
    have : (⟨l.toArray⟩ : ByteArray).push (UInt8.ofNat n.toNat) = ⟨(l ++ [UInt8.ofNat n.toNat]).toArray⟩ := by
      show ByteArray.mk (l.toArray.push _) = _
      simp
    rw [this, ih]
    simp
end Go.Proofs.YtdjdociecokilaaDoor
