/-
  The document's product (sandglassref01.Mul), called: what limbs' own call gives; nothing old is turned.
-/
import Derived.Test.YtnaiccfdbapdpaaDoorWide
namespace Go.Proofs.YtnaiccfdbapdpaaDoor
open Go.RowKit
/-- Two halves as a word, as the text puts them together. -/
def orW (x y : Int) : Int := bits BinOp.or IntKind.u64 x (IntKind.u64.wrap (y * 4294967296))
theorem orW_eq {x y : Int} (hx : Half x) (hy : Half y) : orW x y = x + 4294967296 * y := by
  unfold Half at *
  unfold orW
  rw [IntKind.wrap_u64, show y * 4294967296 % 18446744073709551616 = y * 4294967296 from by omega]
  obtain ⟨a, rfl⟩ := Int.eq_ofNat_of_zero_le hx.1
  obtain ⟨b, rfl⟩ := Int.eq_ofNat_of_zero_le hy.1
  have two : (2 : Nat) ^ 32 = 4294967296 := by decide
  have e : ((b : Int) * 4294967296) = ((2 ^ 32 * b : Nat) : Int) := by rw [two]; omega
  have l1 : 2 ^ 32 * b < 18446744073709551616 := by rw [two]; omega
  have l2 : a < 2 ^ 32 := by rw [two]; omega
  rw [e, u64_or_nat a (2 ^ 32 * b) (by omega) l1, Nat.or_comm, ← Nat.two_pow_add_eq_or_of_lt l2 b, two]
  omega
/-- The words behind k rounds. -/
def JoinTo (P L M : Nat → Int) (k : Nat) : Prop := ∀ j, j < k → L j = orW (P (2 * j)) (P (2 * j + 1)) ∧ M j = orW (P (2 * j + 8)) (P (2 * j + 9))
theorem JoinTo.step {P L M : Nat → Int} {k : Nat} (h : JoinTo P L M k) : JoinTo P (fun i => if i = k then orW (P (2 * k)) (P (2 * k + 1)) else L i) (fun i => if i = k then orW (P (2 * k + 8)) (P (2 * k + 9)) else M i) (k + 1) := by
  intro j hj
  by_cases e : j = k
  · subst e
    simp
  · simp only [e, if_false]
    exact h j (by omega)
theorem ev_hx {x0 x1 x2 x3 : Int} : ev (hx x0 x1 x2 x3) 8 = val x0 x1 x2 x3 := by
  have h0 : lo32 x0 + 4294967296 * hi32 x0 = x0 := by unfold lo32 hi32; omega
  have h1 : lo32 x1 + 4294967296 * hi32 x1 = x1 := by unfold lo32 hi32; omega
  have h2 : lo32 x2 + 4294967296 * hi32 x2 = x2 := by unfold lo32 hi32; omega
  have h3 : lo32 x3 + 4294967296 * hi32 x3 = x3 := by unfold lo32 hi32; omega
  show 0 + lo32 x0 * 4294967296 ^ 0 + hi32 x0 * 4294967296 ^ 1 + lo32 x1 * 4294967296 ^ 2 + hi32 x1 * 4294967296 ^ 3 + lo32 x2 * 4294967296 ^ 4 + hi32 x2 * 4294967296 ^ 5 + lo32 x3 * 4294967296 ^ 6 + hi32 x3 * 4294967296 ^ 7 = _
  unfold val
  omega
theorem join_ok {a0 a1 a2 a3 b0 b1 b2 b3 : Int} {P L M : Nat → Int} (h : OutP (hx a0 a1 a2 a3) (hx b0 b1 b2 b3) 8 P) (k : JoinTo P L M 4) :
    Lim4 (L 0) (L 1) (L 2) (L 3) ∧ Lim4 (M 0) (M 1) (M 2) (M 3) ∧ MulP (val a0 a1 a2 a3) (val b0 b1 b2 b3) (val (L 0) (L 1) (L 2) (L 3)) (val (M 0) (M 1) (M 2) (M 3)) := by
  obtain ⟨hh, _, he⟩ := h
  have k0 := k 0 (by omega); have k1 := k 1 (by omega); have k2 := k 2 (by omega); have k3 := k 3 (by omega)
  simp only [orW_eq (hh _) (hh _)] at k0 k1 k2 k3
  rw [ev_hx, ev_hx] at he
  unfold MulP
  rw [← he]
  show _ ∧ _ ∧ _ = 0 + P 0 * 4294967296 ^ 0 + P 1 * 4294967296 ^ 1 + P 2 * 4294967296 ^ 2 + P 3 * 4294967296 ^ 3 + P 4 * 4294967296 ^ 4 + P 5 * 4294967296 ^ 5 + P 6 * 4294967296 ^ 6 + P 7 * 4294967296 ^ 7 + P 8 * 4294967296 ^ 8 + P 9 * 4294967296 ^ 9 + P 10 * 4294967296 ^ 10 + P 11 * 4294967296 ^ 11 + P 12 * 4294967296 ^ 12 + P 13 * 4294967296 ^ 13 + P 14 * 4294967296 ^ 14 + P 15 * 4294967296 ^ 15
  have p0 := hh 0; have p1 := hh 1; have p2 := hh 2; have p3 := hh 3; have p4 := hh 4; have p5 := hh 5; have p6 := hh 6; have p7 := hh 7; have p8 := hh 8; have p9 := hh 9; have p10 := hh 10; have p11 := hh 11; have p12 := hh 12; have p13 := hh 13; have p14 := hh 14; have p15 := hh 15
  unfold Half at *
  obtain ⟨k00, k01⟩ := k0
  obtain ⟨k10, k11⟩ := k1
  obtain ⟨k20, k21⟩ := k2
  obtain ⟨k30, k31⟩ := k3
  rw [k00, k01, k10, k11, k20, k21, k30, k31]
  simp only [Nat.mul_zero, Nat.zero_add, Nat.reduceMul, Nat.reduceAdd]
  unfold Lim4 Lim val B256
  generalize P 0 = q0 at *
  generalize P 1 = q1 at *
  generalize P 2 = q2 at *
  generalize P 3 = q3 at *
  generalize P 4 = q4 at *
  generalize P 5 = q5 at *
  generalize P 6 = q6 at *
  generalize P 7 = q7 at *
  generalize P 8 = q8 at *
  generalize P 9 = q9 at *
  generalize P 10 = q10 at *
  generalize P 11 = q11 at *
  generalize P 12 = q12 at *
  generalize P 13 = q13 at *
  generalize P 14 = q14 at *
  generalize P 15 = q15 at *
  clear k00 k01 k10 k11 k20 k21 k30 k31 he hh k
  refine ⟨by omega, by omega, ?_⟩
  omega
attribute [local go_sem] setCell_drewN alloc_drewN
set_option maxHeartbeats 2000000 in
theorem refMul_any (a0 a1 a2 a3 b0 b1 b2 b3 : Int) (ha : Lim4 a0 a1 a2 a3) (hb : Lim4 b0 b1 b2 b3) (w : World) :
    Calls Tryd.prog 44 #[.agg #[.int .u64 a0, .int .u64 a1, .int .u64 a2, .int .u64 a3], .agg #[.int .u64 b0, .int .u64 b1, .int .u64 b2, .int .u64 b3]] w fun e w' =>
      ∃ l0 l1 l2 l3 h0 h1 h2 h3 : Int, e = .returned (.tuple #[.agg #[.int .u64 l0, .int .u64 l1, .int .u64 l2, .int .u64 l3], .agg #[.int .u64 h0, .int .u64 h1, .int .u64 h2, .int .u64 h3]]) ∧
        Hid (Lim4 l0 l1 l2 l3 ∧ Lim4 h0 h1 h2 h3 ∧ MulP (val a0 a1 a2 a3) (val b0 b1 b2 b3) (val l0 l1 l2 l3) (val h0 h1 h2 h3)) ∧ Ext w w' := by
  have HE0 : Hid (Ext w ((((w.alloc (.cells #[.int .u64 a0, .int .u64 a1, .int .u64 a2, .int .u64 a3] 26)).alloc (.cells #[.int .u64 b0, .int .u64 b1, .int .u64 b2, .int .u64 b3] 26)).alloc (.cells #[.int .u64 0, .int .u64 0, .int .u64 0, .int .u64 0] 26)).alloc (.cells #[.int .u64 0, .int .u64 0, .int .u64 0, .int .u64 0] 26))) := ((((Ext.refl _).alloc _).alloc _).alloc _).alloc _
  have HZ : Hid (∀ i, i < 4 → (((((w.alloc (.cells #[.int .u64 a0, .int .u64 a1, .int .u64 a2, .int .u64 a3] 26)).alloc (.cells #[.int .u64 b0, .int .u64 b1, .int .u64 b2, .int .u64 b3] 26)).alloc (.cells #[.int .u64 0, .int .u64 0, .int .u64 0, .int .u64 0] 26)).alloc (.cells #[.int .u64 0, .int .u64 0, .int .u64 0, .int .u64 0] 26)).cell? ⟨w.heap.size + 1 + 1, i, none⟩ = some (.int .u64 0) ∧ ((((w.alloc (.cells #[.int .u64 a0, .int .u64 a1, .int .u64 a2, .int .u64 a3] 26)).alloc (.cells #[.int .u64 b0, .int .u64 b1, .int .u64 b2, .int .u64 b3] 26)).alloc (.cells #[.int .u64 0, .int .u64 0, .int .u64 0, .int .u64 0] 26)).alloc (.cells #[.int .u64 0, .int .u64 0, .int .u64 0, .int .u64 0] 26)).frozen? ⟨w.heap.size + 1 + 1, i, none⟩ = false) ∧ (((((w.alloc (.cells #[.int .u64 a0, .int .u64 a1, .int .u64 a2, .int .u64 a3] 26)).alloc (.cells #[.int .u64 b0, .int .u64 b1, .int .u64 b2, .int .u64 b3] 26)).alloc (.cells #[.int .u64 0, .int .u64 0, .int .u64 0, .int .u64 0] 26)).alloc (.cells #[.int .u64 0, .int .u64 0, .int .u64 0, .int .u64 0] 26)).cell? ⟨w.heap.size + 1 + 1 + 1, i, none⟩ = some (.int .u64 0) ∧ ((((w.alloc (.cells #[.int .u64 a0, .int .u64 a1, .int .u64 a2, .int .u64 a3] 26)).alloc (.cells #[.int .u64 b0, .int .u64 b1, .int .u64 b2, .int .u64 b3] 26)).alloc (.cells #[.int .u64 0, .int .u64 0, .int .u64 0, .int .u64 0] 26)).alloc (.cells #[.int .u64 0, .int .u64 0, .int .u64 0, .int .u64 0] 26)).frozen? ⟨w.heap.size + 1 + 1 + 1, i, none⟩ = false)) := by
    intro i hi
    rw [World.cell?_alloc_at _ _ (w.heap.size + 1 + 1 + 1) _ (by simp), World.frozen?_alloc_at _ _ (w.heap.size + 1 + 1 + 1) _ (by simp), World.cell?_alloc_past _ _ _ (by simp), World.frozen?_alloc_past _ _ _ (by simp), World.cell?_alloc_at _ _ _ _ (by simp), World.frozen?_alloc_at _ _ _ _ (by simp)]
    exact ⟨⟨fa_get (fun _ => 0) i hi, rfl⟩, fa_get (fun _ => 0) i hi, rfl⟩
  have HZl : Hid (w.heap.size + 1 + 1 < ((((w.alloc (.cells #[.int .u64 a0, .int .u64 a1, .int .u64 a2, .int .u64 a3] 26)).alloc (.cells #[.int .u64 b0, .int .u64 b1, .int .u64 b2, .int .u64 b3] 26)).alloc (.cells #[.int .u64 0, .int .u64 0, .int .u64 0, .int .u64 0] 26)).alloc (.cells #[.int .u64 0, .int .u64 0, .int .u64 0, .int .u64 0] 26)).heap.size ∧ w.heap.size + 1 + 1 + 1 < ((((w.alloc (.cells #[.int .u64 a0, .int .u64 a1, .int .u64 a2, .int .u64 a3] 26)).alloc (.cells #[.int .u64 b0, .int .u64 b1, .int .u64 b2, .int .u64 b3] 26)).alloc (.cells #[.int .u64 0, .int .u64 0, .int .u64 0, .int .u64 0] 26)).alloc (.cells #[.int .u64 0, .int .u64 0, .int .u64 0, .int .u64 0] 26)).heap.size) := by show _ ∧ _; simp
  have HB4 : SizeLe w (w.heap.size + 1 + 1) := by unfold SizeLe; omega
  have HB5 : SizeLe w (w.heap.size + 1 + 1 + 1) := by unfold SizeLe; omega
  go_enter Tryd.func44, Tryd.ntmps44
  go_wp2_with fail
  refine (wide_raw _ _ _ _ _ _ _ _ ha hb _).mono ?_
  rintro e w1 ⟨P, rfl, HP, HX⟩
  have l4 : w.heap.size + 1 + 1 < w1.heap.size := Nat.lt_of_lt_of_le HZl.out.1 HX.size
  have l5 : w.heap.size + 1 + 1 + 1 < w1.heap.size := Nat.lt_of_lt_of_le HZl.out.2 HX.size
  have c0 : w1.cell? ⟨w.heap.size + 1 + 1, 0, none⟩ = some (.int .u64 0) := (HX.cells.1 _ 0 HZl.out.1).trans (HZ.out 0 (by decide)).1.1
  have cf0 : w1.frozen? ⟨w.heap.size + 1 + 1, 0, none⟩ = false := (HX.cells.2 _ 0 HZl.out.1).trans (HZ.out 0 (by decide)).1.2
  have c1 : w1.cell? ⟨w.heap.size + 1 + 1, 1, none⟩ = some (.int .u64 0) := (HX.cells.1 _ 1 HZl.out.1).trans (HZ.out 1 (by decide)).1.1
  have cf1 : w1.frozen? ⟨w.heap.size + 1 + 1, 1, none⟩ = false := (HX.cells.2 _ 1 HZl.out.1).trans (HZ.out 1 (by decide)).1.2
  have c2 : w1.cell? ⟨w.heap.size + 1 + 1, 2, none⟩ = some (.int .u64 0) := (HX.cells.1 _ 2 HZl.out.1).trans (HZ.out 2 (by decide)).1.1
  have cf2 : w1.frozen? ⟨w.heap.size + 1 + 1, 2, none⟩ = false := (HX.cells.2 _ 2 HZl.out.1).trans (HZ.out 2 (by decide)).1.2
  have c3 : w1.cell? ⟨w.heap.size + 1 + 1, 3, none⟩ = some (.int .u64 0) := (HX.cells.1 _ 3 HZl.out.1).trans (HZ.out 3 (by decide)).1.1
  have cf3 : w1.frozen? ⟨w.heap.size + 1 + 1, 3, none⟩ = false := (HX.cells.2 _ 3 HZl.out.1).trans (HZ.out 3 (by decide)).1.2
  have d0 : w1.cell? ⟨w.heap.size + 1 + 1 + 1, 0, none⟩ = some (.int .u64 0) := (HX.cells.1 _ 0 HZl.out.2).trans (HZ.out 0 (by decide)).2.1
  have df0 : w1.frozen? ⟨w.heap.size + 1 + 1 + 1, 0, none⟩ = false := (HX.cells.2 _ 0 HZl.out.2).trans (HZ.out 0 (by decide)).2.2
  have d1 : w1.cell? ⟨w.heap.size + 1 + 1 + 1, 1, none⟩ = some (.int .u64 0) := (HX.cells.1 _ 1 HZl.out.2).trans (HZ.out 1 (by decide)).2.1
  have df1 : w1.frozen? ⟨w.heap.size + 1 + 1 + 1, 1, none⟩ = false := (HX.cells.2 _ 1 HZl.out.2).trans (HZ.out 1 (by decide)).2.2
  have d2 : w1.cell? ⟨w.heap.size + 1 + 1 + 1, 2, none⟩ = some (.int .u64 0) := (HX.cells.1 _ 2 HZl.out.2).trans (HZ.out 2 (by decide)).2.1
  have df2 : w1.frozen? ⟨w.heap.size + 1 + 1 + 1, 2, none⟩ = false := (HX.cells.2 _ 2 HZl.out.2).trans (HZ.out 2 (by decide)).2.2
  have d3 : w1.cell? ⟨w.heap.size + 1 + 1 + 1, 3, none⟩ = some (.int .u64 0) := (HX.cells.1 _ 3 HZl.out.2).trans (HZ.out 3 (by decide)).2.1
  have df3 : w1.frozen? ⟨w.heap.size + 1 + 1 + 1, 3, none⟩ = false := (HX.cells.2 _ 3 HZl.out.2).trans (HZ.out 3 (by decide)).2.2
  have HE1 : Hid (Ext w w1) := HE0.out.trans HX
  have hlt45 : w.heap.size + 1 + 1 < w.heap.size + 1 + 1 + 1 := by omega
  clear HX HZ HZl HE0
  generalize w.heap.size + 1 + 1 + 1 = b5 at *
  generalize w.heap.size + 1 + 1 = b4 at *
  have HPP : Hid (∀ i, i < 16 → (f16 P)[i]? = some (.int .u64 (P i))) := fun i hi => f16_get P i hi
  unfold f16
  go_wp2_with fail
  go_loopw [9] (fun i wr => ∃ (k : Nat) (L M : Nat → Int), k ≤ 4 ∧ i = .int .i64 k ∧ Hid (JoinTo P L M k) ∧ ∃ n, wr = (((w1.alloc (.cells (f16 P) 77)).alloc (.cells (fa L) 26)).alloc (.cells (fa M) 26)).drewN n) (fun i _ => 4 - (intOf i).toNat)
  case atStart => exact ⟨0, fun _ => 0, fun _ => 0, Nat.zero_le _, rfl, fun j hj => by omega, 0, rfl⟩
  case round =>
    obtain ⟨k, L, M, hk, rfl, HJ, n, rfl⟩ := hrel
    by_cases hlt : k < 4
    · have hk0 : (0 : Int) ≤ (k : Int) := by omega
      have hk1 : (k : Int) < 4 := by omega
      have g0 := HPP.out (2 * k) (by omega)
      have g1 := HPP.out (2 * k + 1) (by omega)
      have g8 := HPP.out (2 * k + 8) (by omega)
      have g9 := HPP.out (2 * k + 9) (by omega)
      have gl := fa_get L k hlt
      have gm := fa_get M k hlt
      have HSL : Hid (∀ v, (fa L).setIfInBounds k (.int .u64 v) = fa (fun i => if i = k then v else L i)) := fun v => fa_set L k hlt v
      have HSM : Hid (∀ v, (fa M).setIfInBounds k (.int .u64 v) = fa (fun i => if i = k then v else M i)) := fun v => fa_set M k hlt v
      have HN : Hid (JoinTo P (fun i => if i = k then orW (P (2 * k)) (P (2 * k + 1)) else L i) (fun i => if i = k then orW (P (2 * k + 8)) (P (2 * k + 9)) else M i) (k + 1)) := HJ.out.step
      have e0 : IntKind.i64.wrap (2 * (k : Int)) = 2 * (k : Int) := by rw [IntKind.wrap_i64]; omega
      have e1 : IntKind.i64.wrap (2 * (k : Int) + 1) = 2 * (k : Int) + 1 := by rw [IntKind.wrap_i64]; omega
      have e8 : IntKind.i64.wrap (2 * (k : Int) + 8) = 2 * (k : Int) + 8 := by rw [IntKind.wrap_i64]; omega
      have e9 : IntKind.i64.wrap (2 * (k : Int) + 9) = 2 * (k : Int) + 9 := by rw [IntKind.wrap_i64]; omega
      have n0 : (2 * (k : Int)).toNat = 2 * k := by omega
      have n1 : (2 * (k : Int) + 1).toNat = 2 * k + 1 := by omega
      have n8 : (2 * (k : Int) + 8).toNat = 2 * k + 8 := by omega
      have n9 : (2 * (k : Int) + 9).toNat = 2 * k + 9 := by omega
      have p0 : (0 : Int) ≤ 2 * (k : Int) := by omega
      have p1 : (0 : Int) ≤ 2 * (k : Int) + 1 := by omega
      have p8 : (0 : Int) ≤ 2 * (k : Int) + 8 := by omega
      have p9 : (0 : Int) ≤ 2 * (k : Int) + 9 := by omega
      have r0 : 2 * (k : Int) < 16 := by omega
      have r1 : 2 * (k : Int) + 1 < 16 := by omega
      have r8 : 2 * (k : Int) + 8 < 16 := by omega
      have r9 : 2 * (k : Int) + 9 < 16 := by omega
      unfold orW at HN
      generalize P (2 * k) = x0 at *
      generalize P (2 * k + 1) = x1 at *
      generalize P (2 * k + 8) = x8 at *
      generalize P (2 * k + 9) = x9 at *
      go_wp2
      go_region
      all_goals
        go_wp2
        go_region
      all_goals
        go_wp2
        exact ⟨⟨k + 1, _, _, hlt, by go_num, HN, n + 1 + 1, by rw [HSL.out, HSM.out]⟩, by simp [intOf]; omega⟩
    · obtain rfl : k = 4 := by omega
      have HM := join_ok HP.out HJ.out
      have HMM : Hid (Lim4 (L 0) (L 1) (L 2) (L 3) ∧ Lim4 (M 0) (M 1) (M 2) (M 3) ∧ MulP (val a0 a1 a2 a3) (val b0 b1 b2 b3) (val (L 0) (L 1) (L 2) (L 3)) (val (M 0) (M 1) (M 2) (M 3))) := HM
      clear HM
      obtain ⟨l0, H0⟩ : ∃ x, Hid (L 0 = x) := ⟨_, rfl⟩
      obtain ⟨l1, H1⟩ : ∃ x, Hid (L 1 = x) := ⟨_, rfl⟩
      obtain ⟨l2, H2⟩ : ∃ x, Hid (L 2 = x) := ⟨_, rfl⟩
      obtain ⟨l3, H3⟩ : ∃ x, Hid (L 3 = x) := ⟨_, rfl⟩
      obtain ⟨h0, H4⟩ : ∃ x, Hid (M 0 = x) := ⟨_, rfl⟩
      obtain ⟨h1, H5⟩ : ∃ x, Hid (M 1 = x) := ⟨_, rfl⟩
      obtain ⟨h2, H6⟩ : ∃ x, Hid (M 2 = x) := ⟨_, rfl⟩
      obtain ⟨h3, H7⟩ : ∃ x, Hid (M 3 = x) := ⟨_, rfl⟩
      rw [H0.out, H1.out, H2.out, H3.out, H4.out, H5.out, H6.out, H7.out] at HMM
      have hfl : fa L = #[.int .u64 l0, .int .u64 l1, .int .u64 l2, .int .u64 l3] := by
        unfold fa; rw [H0.out, H1.out, H2.out, H3.out]
      have hfm : fa M = #[.int .u64 h0, .int .u64 h1, .int .u64 h2, .int .u64 h3] := by
        unfold fa; rw [H4.out, H5.out, H6.out, H7.out]
      rw [hfl, hfm]
      clear hfl hfm
      have l4a : b4 < w1.heap.size + 1 := by omega
      have l4b : b4 < w1.heap.size + 1 + 1 := by omega
      have l5a : b5 < w1.heap.size + 1 := by omega
      have l5b : b5 < w1.heap.size + 1 + 1 := by omega
      go_wp2
      go_region_held3 (fun wx : World => wx.cell? ⟨w1.heap.size + 1, 0, none⟩ = some (.int .u64 l0) ∧ wx.cell? ⟨w1.heap.size + 1, 1, none⟩ = some (.int .u64 l1) ∧ wx.cell? ⟨w1.heap.size + 1, 2, none⟩ = some (.int .u64 l2) ∧ wx.cell? ⟨w1.heap.size + 1, 3, none⟩ = some (.int .u64 l3) ∧ wx.cell? ⟨w1.heap.size + 1 + 1, 0, none⟩ = some (.int .u64 h0) ∧ wx.cell? ⟨w1.heap.size + 1 + 1, 1, none⟩ = some (.int .u64 h1) ∧ wx.cell? ⟨w1.heap.size + 1 + 1, 2, none⟩ = some (.int .u64 h2) ∧ wx.cell? ⟨w1.heap.size + 1 + 1, 3, none⟩ = some (.int .u64 h3)) (go_simp) (fail)
      all_goals
        go_wp2
        refine bodyPost_ret (v := .tuple #[.agg #[.int .u64 l0, .int .u64 l1, .int .u64 l2, .int .u64 l3], .agg #[.int .u64 h0, .int .u64 h1, .int .u64 h2, .int .u64 h3]]) (by simp [results, Tryd.results44, go_sem, l4, l5, l4a, l4b, l5a, l5b, c0, c1, c2, c3, d0, d1, d2, d3]) rfl ⟨l0, l1, l2, l3, h0, h1, h2, h3, rfl, HMM, ?_⟩
        exact (((Ext.alloc (Ext.st HB5 (Ext.st HB5 (Ext.st HB5 (Ext.st HB5 (Ext.st HB4 (Ext.st HB4 (Ext.st HB4 (Ext.st HB4 HE1.out)))))))) _).alloc _).alloc _).drewN _
end Go.Proofs.YtnaiccfdbapdpaaDoor
