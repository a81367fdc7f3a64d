/-
  The eight quarter rounds of a round, as a table names their places; a quarter round as four numbers put into a row.
-/
import Derived.Test.YtdafckjcggaflaaDoorRefCBlock
import Derived.Test.YtdafckjcggaflaaDoorCq
namespace Go.Proofs.YtdafckjcggaflaaDoor
open Go.RowKit
def QQ : List Nat := [0, 4, 8, 12, 1, 5, 9, 13, 2, 6, 10, 14, 3, 7, 11, 15, 0, 5, 10, 15, 1, 6, 11, 12, 2, 7, 8, 13, 3, 4, 9, 14]
def qat (j k : Nat) : Nat := QQ.getD (4 * j + k) 0
def rows (x : List Nat) : Nat → List Nat
  | 0 => x
  | j + 1 => quart (rows x j) (qat j 0) (qat j 1) (qat j 2) (qat j 3)
theorem rows_eight (x : List Nat) (k : Nat) : rows (rnd x k) 8 = rnd x (k + 1) := rfl
theorem rows_ok {l : List Nat} (h : W16 l) (j : Nat) : W16 (rows l j) := by
  induction j with
  | zero => exact h
  | succ j ih => exact quart_ok ih _ _ _ _
/-- The places of row j: below 16, and no two alike. -/
theorem qat_ok (j : Nat) (h : j < 8) : (qat j 0 < 16 ∧ qat j 1 < 16 ∧ qat j 2 < 16 ∧ qat j 3 < 16) ∧ qat j 0 ≠ qat j 1 ∧ qat j 0 ≠ qat j 2 ∧ qat j 0 ≠ qat j 3 ∧ qat j 1 ≠ qat j 2 ∧ qat j 1 ≠ qat j 3 ∧ qat j 2 ≠ qat j 3 := by
  revert j
  decide
theorem gf_qAdd {l : List Nat} (h : W16 l) {i : Nat} (hi : i < 16) (j : Nat) : gf (qAdd l i j) = put (gf l) i ((gf l i + gf l j) % 4294967296) := (gf_set h hi _).symm
theorem gf_qXor {l : List Nat} (h : W16 l) {i : Nat} (hi : i < 16) (j n : Nat) : gf (qXor l i j n) = put (gf l) i (rotl (gf l i ^^^ gf l j) n) := (gf_set h hi _).symm
theorem quart_put {l : List Nat} (h : W16 l) {a b c d : Nat} (ha : a < 16) (hb : b < 16) (hc : c < 16) (hd : d < 16) (ab : a ≠ b) (ac : a ≠ c) (ad : a ≠ d) (bc : b ≠ c) (bd : b ≠ d) (cd : c ≠ d) :
    gf (quart l a b c d) = put (put (put (put (gf l) a (q4 (gf l a) (gf l b) (gf l c) (gf l d)).1) b (q4 (gf l a) (gf l b) (gf l c) (gf l d)).2.1) c (q4 (gf l a) (gf l b) (gf l c) (gf l d)).2.2.1) d (q4 (gf l a) (gf l b) (gf l c) (gf l d)).2.2.2 := by
  have h1 := h.add a b
  have h2 := h1.xor d a 16
  have h3 := h2.add c d
  have h4 := h3.xor b c 12
  have h5 := h4.add a b
  have h6 := h5.xor d a 8
  have h7 := h6.add c d
  unfold quart
  rw [gf_qXor h7 hb, gf_qAdd h6 hc, gf_qXor h5 hd, gf_qAdd h4 ha, gf_qXor h3 hb, gf_qAdd h2 hc, gf_qXor h1 hd, gf_qAdd h ha]
  generalize gf l = f
  unfold q4
  funext i
  simp only [put]
  have ba := ab.symm
  have ca := ac.symm
  have da := ad.symm
  have cb := bc.symm
  have db := bd.symm
  have dc := cd.symm
  simp only [ab, ac, ad, bc, bd, cd, ba, ca, da, cb, db, dc, if_true, if_false]
  by_cases e1 : i = a
  · subst e1; simp only [ab, ac, ad, if_true, if_false]
  by_cases e2 : i = b
  · subst e2; simp only [bc, bd, ba, if_true, if_false]
  by_cases e3 : i = c
  · subst e3; simp only [cd, ca, cb, if_true, if_false]
  by_cases e4 : i = d
  · subst e4; simp only [da, db, dc, if_true, if_false]
  simp only [e1, e2, e3, e4, if_false]
end Go.Proofs.YtdafckjcggaflaaDoor
