/-
  A text of 32 bytes as four words: what a loop over the bytes comes to. No function of the program is named here.
-/
import Derived.Test.YtdjdociecokilaaDoorBase
namespace Go.Proofs.YtdjdociecokilaaDoor
open Go.RowKit
/-- Byte number k of a text, as a number. -/
def bt (s : ByteArray) (k : Nat) : Int := ((s.data.getD k 0).toNat : Int)
theorem bt_get (s : ByteArray) (k : Nat) (h : k < s.size) : ((s[k]'h).toNat : Int) = bt s k := by
  have h' : k < s.data.size := h
  unfold bt
  rw [Array.getD_eq_getD_getElem?, Array.getElem?_eq_getElem h']
  rfl
theorem bt_bd (s : ByteArray) (k : Nat) : 0 ≤ bt s k ∧ bt s k < 256 := by
  unfold bt
  have := (s.data.getD k 0).toNat_lt
  omega
/-- One step of the loop: the word moved up by a byte, and the byte put in. -/
def orV (x b : Int) : Int := bits BinOp.or IntKind.u64 (IntKind.u64.wrap (x * 256)) (IntKind.u64.wrap b)
theorem orV_eq (x b : Int) (h0 : 0 ≤ x) (h1 : x < 72057594037927936) (g0 : 0 ≤ b) (g1 : b < 256) : orV x b = x * 256 + b := by
  unfold orV
  rw [IntKind.wrap_u64, IntKind.wrap_u64, show x * 256 % 18446744073709551616 = x * 256 from by omega, show b % 18446744073709551616 = b from by omega]
  refine bits_join .u64 64 (by decide) (fun n p q => by rw [IntKind.wrap_u64]; have : (2 : Int) ^ 64 = 18446744073709551616 := by decide
                                                        omega) 8 _ _ (by omega) ?_ ?_ g0 ?_ ?_
  · rw [show (2 : Int) ^ 8 = 256 from by decide]; omega
  · rw [show (2 : Int) ^ 64 = 18446744073709551616 from by decide]; omega
  · rw [show (2 : Int) ^ 8 = 256 from by decide]; omega
  · rw [show (2 : Int) ^ 64 = 18446744073709551616 from by decide]; omega
/-- The words behind k rounds. -/
def fwd (b : Nat → Int) : Nat → Nat → Int
  | 0, _ => 0
  | k + 1, i => if i = 3 - k / 8 then orV (fwd b k (3 - k / 8)) (b k) else fwd b k i
/-- Eight bytes as a word, the highest first. -/
def w8 (c0 c1 c2 c3 c4 c5 c6 c7 : Int) : Int := ((((((c0 * 256 + c1) * 256 + c2) * 256 + c3) * 256 + c4) * 256 + c5) * 256 + c6) * 256 + c7
def By (b : Int) : Prop := 0 ≤ b ∧ b < 256
theorem or8 (c0 c1 c2 c3 c4 c5 c6 c7 : Int) (h0 : By c0) (h1 : By c1) (h2 : By c2) (h3 : By c3) (h4 : By c4) (h5 : By c5) (h6 : By c6) (h7 : By c7) :
    orV (orV (orV (orV (orV (orV (orV (orV 0 c0) c1) c2) c3) c4) c5) c6) c7 = w8 c0 c1 c2 c3 c4 c5 c6 c7 := by
  unfold By at *
  rw [orV_eq 0 c0 (by omega) (by omega) (by omega) (by omega)]
  rw [orV_eq _ c1 (by omega) (by omega) (by omega) (by omega)]
  rw [orV_eq _ c2 (by omega) (by omega) (by omega) (by omega)]
  rw [orV_eq _ c3 (by omega) (by omega) (by omega) (by omega)]
  rw [orV_eq _ c4 (by omega) (by omega) (by omega) (by omega)]
  rw [orV_eq _ c5 (by omega) (by omega) (by omega) (by omega)]
  rw [orV_eq _ c6 (by omega) (by omega) (by omega) (by omega)]
  rw [orV_eq _ c7 (by omega) (by omega) (by omega) (by omega)]
  unfold w8
  omega
/-- Word number j of the number of a text. -/
def frW (b : Nat → Int) (j : Nat) : Int := w8 (b (8 * (3 - j))) (b (8 * (3 - j) + 1)) (b (8 * (3 - j) + 2)) (b (8 * (3 - j) + 3)) (b (8 * (3 - j) + 4)) (b (8 * (3 - j) + 5)) (b (8 * (3 - j) + 6)) (b (8 * (3 - j) + 7))
theorem frW_lim (b : Nat → Int) (h : ∀ k, By (b k)) (j : Nat) : Lim (frW b j) := by
  unfold frW w8 Lim
  have h0 := h (8 * (3 - j)); have h1 := h (8 * (3 - j) + 1); have h2 := h (8 * (3 - j) + 2); have h3 := h (8 * (3 - j) + 3)
  have h4 := h (8 * (3 - j) + 4); have h5 := h (8 * (3 - j) + 5); have h6 := h (8 * (3 - j) + 6); have h7 := h (8 * (3 - j) + 7)
  unfold By at *
  omega
theorem fwd_32 (b : Nat → Int) (h : ∀ k, By (b k)) : fwd b 32 0 = frW b 0 ∧ fwd b 32 1 = frW b 1 ∧ fwd b 32 2 = frW b 2 ∧ fwd b 32 3 = frW b 3 := by
  unfold frW
  refine ⟨?_, ?_, ?_, ?_⟩
  · simp [fwd]; exact or8 _ _ _ _ _ _ _ _ (h _) (h _) (h _) (h _) (h _) (h _) (h _) (h _)
  · simp [fwd]; exact or8 _ _ _ _ _ _ _ _ (h _) (h _) (h _) (h _) (h _) (h _) (h _) (h _)
  · simp [fwd]; exact or8 _ _ _ _ _ _ _ _ (h _) (h _) (h _) (h _) (h _) (h _) (h _) (h _)
  · simp [fwd]; exact or8 _ _ _ _ _ _ _ _ (h _) (h _) (h _) (h _) (h _) (h _) (h _) (h _)
attribute [local go_sem] setCell_drewN alloc_drewN
end Go.Proofs.YtdjdociecokilaaDoor
