/-
  HKDF's Expand over texts, by its definition; no function of the program is named here.
-/
import Derived.Test.YtfhglfldmboanaaDoorHMath
namespace Go.Proofs.YtfhglfldmboanaaDoor
open Go.RowKit
def oneB (k : Nat) : ByteArray := mkS (fun _ => k) 1
def expT (key info : ByteArray) : Nat → ByteArray
  | 0 => ⟨#[]⟩
  | i + 1 => macS key (expT key info i ++ info ++ oneB (i + 1))
def expA (key info : ByteArray) : Nat → ByteArray
  | 0 => ⟨#[]⟩
  | i + 1 => expA key info i ++ expT key info (i + 1)
def expS (key info : ByteArray) (n : Nat) : ByteArray := (expA key info ((n + 31) / 32)).extract 0 n
theorem expT_size (key info : ByteArray) (i : Nat) : (expT key info i).size ≤ 32 := by
  cases i with
  | zero => exact Nat.zero_le _
  | succ i => exact Nat.le_of_eq (shaS_size _)
theorem expA_size (key info : ByteArray) (k : Nat) : (expA key info k).size = 32 * k := by
  induction k with
  | zero => rfl
  | succ k ih =>
    show (expA key info k ++ expT key info (k + 1)).size = _
    rw [ByteArray.size_append, ih]
    have : (expT key info (k + 1)).size = 32 := shaS_size _
    omega
theorem expS_size (key info : ByteArray) (n : Nat) : (expS key info n).size = n := by
  unfold expS
  rw [ByteArray.size_extract, expA_size]
  omega
theorem expA_pre (key info : ByteArray) (k d n : Nat) (h : n ≤ 32 * k) : (expA key info (k + d)).extract 0 n = (expA key info k).extract 0 n := by
  induction d with
  | zero => rfl
  | succ d ih =>
    show (expA key info (k + d) ++ expT key info (k + d + 1)).extract 0 n = _
    rw [← ih]
    apply ByteArray.ext
    simp only [ByteArray.data_extract, ByteArray.data_append]
    have hsz : n ≤ (expA key info (k + d)).data.size := by
      have := expA_size key info (k + d)
      have e : (expA key info (k + d)).data.size = (expA key info (k + d)).size := rfl
      rw [e, this]; omega
    rw [Array.extract_append, Nat.sub_eq_zero_of_le hsz, Nat.zero_sub]
    simp
theorem expS_pre (key info : ByteArray) {a b : Nat} (h : a ≤ b) : (expS key info b).extract 0 a = expS key info a := by
  unfold expS
  have h1 : (expA key info ((b + 31) / 32)).extract 0 a = (expA key info ((a + 31) / 32)).extract 0 a := by
    have e : (b + 31) / 32 = (a + 31) / 32 + ((b + 31) / 32 - (a + 31) / 32) := by omega
    rw [e]
    exact expA_pre key info _ _ _ (by omega)
  rw [← h1]
  apply ByteArray.ext
  simp only [ByteArray.data_extract]
  rw [Array.extract_extract]
  congr 1
  omega
end Go.Proofs.YtfhglfldmboanaaDoor
