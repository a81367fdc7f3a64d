/-
  A block of sixteen numbers of four words each, what a power's table holds, and powers by four bits at a time; no function of the program is named here.
-/
import Derived.Test.YtnaiccfdbapdpaaDoorSe
import Derived.WalkMore
namespace Go.Proofs.YtnaiccfdbapdpaaDoor
open Go.RowKit
/-- Four bits of four words: those of the number. -/
theorem nibble {e0 e1 e2 e3 : Int} (he : Lim4 e0 e1 e2 e3) (q s : Nat) (hq : q < 4) (hs : s < 16) :
    (if q = 0 then e0 else if q = 1 then e1 else if q = 2 then e2 else e3) / 2 ^ (4 * s) % 16 = val e0 e1 e2 e3 / 16 ^ (16 * q + s) % 16 := by
  have key : ∀ (x t : Int), x = t % 18446744073709551616 → x / 2 ^ (4 * s) % 16 = t / 16 ^ s % 16 := by
    intro x t hx
    have : s = 0 ∨ s = 1 ∨ s = 2 ∨ s = 3 ∨ s = 4 ∨ s = 5 ∨ s = 6 ∨ s = 7 ∨ s = 8 ∨ s = 9 ∨ s = 10 ∨ s = 11 ∨ s = 12 ∨ s = 13 ∨ s = 14 ∨ s = 15 := by omega
    rcases this with rfl | rfl | rfl | rfl | rfl | rfl | rfl | rfl | rfl | rfl | rfl | rfl | rfl | rfl | rfl | rfl <;> simp only [Nat.reduceMul, Int.reducePow] <;> omega
  have hd : val e0 e1 e2 e3 / 16 ^ (16 * q + s) = val e0 e1 e2 e3 / 16 ^ (16 * q) / 16 ^ s := by
    rw [Int.pow_add, Int.ediv_ediv_of_nonneg (Int.le_of_lt (Int.pow_pos (by decide)))]
  rw [hd]
  apply key
  obtain ⟨⟨a0, b0⟩, ⟨a1, b1⟩, ⟨a2, b2⟩, ⟨a3, b3⟩⟩ := he
  have : q = 0 ∨ q = 1 ∨ q = 2 ∨ q = 3 := by omega
  unfold val
  rcases this with rfl | rfl | rfl | rfl <;> simp only [Nat.reduceMul, Int.reducePow, if_true, Nat.one_ne_zero, if_false, Nat.reduceEqDiff] <;> omega
/-- Sixty-four words in block b, which may be written. -/
def Tab (w : World) (b : Nat) (T : Nat → Int) : Prop := b < w.heap.size ∧ ∀ k, k < 64 → w.cell? ⟨b, k, none⟩ = some (.int .u64 (T k)) ∧ w.frozen? ⟨b, k, none⟩ = false
theorem Tab.ext {w w' : World} {b : Nat} {T : Nat → Int} (h : Tab w b T) (hx : Ext w w') : Tab w' b T :=
  ⟨Nat.lt_of_lt_of_le h.1 hx.size, fun k hk => ⟨later hx (h.2 k hk).1, (hx.cells.2 b k h.1).trans (h.2 k hk).2⟩⟩
theorem Tab.new (w : World) : Tab (w.alloc (.cells (Array.replicate 64 (.int .u64 0)) 89)) w.heap.size (fun _ => 0) :=
  ⟨by simp, fun k hk => ⟨by rw [World.cell?_alloc_at _ _ _ _ rfl]; simp [hk], World.frozen?_alloc_at _ _ _ _ rfl⟩⟩
def put1 (T : Nat → Int) (o : Nat) (v : Int) : Nat → Int := fun j => if j = o then v else T j
theorem Tab.set1 {w : World} {b : Nat} {T : Nat → Int} (h : Tab w b T) {o : Nat} (ho : o < 64) (v : Int) : Tab (w.setCell ⟨b, o, none⟩ (.int .u64 v)) b (put1 T o v) := by
  refine ⟨by simpa using h.1, fun k hk => ⟨?_, by simpa using (h.2 k hk).2⟩⟩
  unfold put1
  by_cases e : k = o
  · subst e
    rw [if_pos rfl]
    exact World.cell?_setCell_same' _ _ _ (by rw [(h.2 k hk).1]; rfl)
  · rw [if_neg e, World.cell?_setCell_other _ _ _ _ (fun q => e (by injection q with _ q _; exact q.symm))]
    exact (h.2 k hk).1
theorem Tab.other {w : World} {b c i : Nat} {T : Nat → Int} {v : Value} (hne : c ≠ b) (h : Tab w c T) : Tab (w.setCell ⟨b, i, none⟩ v) c T :=
  ⟨by simpa using h.1, fun k hk => ⟨by rw [World.cell?_setCell_far _ _ _ _ (fun q => hne q.symm)]; exact (h.2 k hk).1, by simpa using (h.2 k hk).2⟩⟩
def put4 (T : Nat → Int) (o : Nat) (v0 v1 v2 v3 : Int) : Nat → Int := put1 (put1 (put1 (put1 T o v0) (o + 1) v1) (o + 2) v2) (o + 3) v3
theorem Tab.set4 {w : World} {b : Nat} {T : Nat → Int} (h : Tab w b T) {o : Nat} (ho : o + 3 < 64) (v0 v1 v2 v3 : Int) :
    Tab ((((w.setCell ⟨b, o, none⟩ (.int .u64 v0)).setCell ⟨b, o + 1, none⟩ (.int .u64 v1)).setCell ⟨b, o + 2, none⟩ (.int .u64 v2)).setCell ⟨b, o + 3, none⟩ (.int .u64 v3)) b (put4 T o v0 v1 v2 v3) :=
  (((h.set1 (by omega) v0).set1 (by omega) v1).set1 (by omega) v2).set1 (by omega) v3
/-- The first m of sixteen numbers are the powers of X. -/
def TabP (X : Int) (T : Nat → Int) (m : Nat) : Prop := ∀ i, i < m → QMod (X ^ i) (T (4 * i)) (T (4 * i + 1)) (T (4 * i + 2)) (T (4 * i + 3))
theorem TabP.step {X : Int} {T : Nat → Int} {m : Nat} (h : TabP X T m) {v0 v1 v2 v3 : Int} (hv : QMod (X ^ m) v0 v1 v2 v3) : TabP X (put4 T (4 * m) v0 v1 v2 v3) (m + 1) := by
  intro i hi
  unfold put4 put1
  by_cases e : i = m
  · subst e
    simpa using hv
  · have := h i (by omega)
    have hlt : i < m := by omega
    rw [if_neg (by omega), if_neg (by omega), if_neg (by omega), if_neg (by omega), if_neg (by omega), if_neg (by omega), if_neg (by omega), if_neg (by omega), if_neg (by omega), if_neg (by omega), if_neg (by omega), if_neg (by omega), if_neg (by omega), if_neg (by omega), if_neg (by omega), if_neg (by omega)]
    exact this
/-- The state of a power's run. -/
def PW (w wr : World) (n b7 : Nat) (e0 e1 e2 e3 : Int) (T : Nat → Int) (s0 s1 s2 s3 : Int) : Prop :=
  Row wr (n + 1) e0 e1 e2 e3 ∧ RowF wr (n + 1 + 1) 0 0 0 0 ∧ Tab wr (n + 1 + 1 + 1) T ∧ RowF wr b7 s0 s1 s2 s3 ∧ Ext w wr
theorem PW.ext {w wr wy : World} {n b7 : Nat} {e0 e1 e2 e3 s0 s1 s2 s3 : Int} {T : Nat → Int} (h : PW w wr n b7 e0 e1 e2 e3 T s0 s1 s2 s3) (hx : Ext wr wy) : PW w wy n b7 e0 e1 e2 e3 T s0 s1 s2 s3 :=
  ⟨h.1.ext hx, h.2.1.ext hx, h.2.2.1.ext hx, h.2.2.2.1.ext hx, h.2.2.2.2.trans hx⟩
theorem PW.drewN {w wr : World} {n b7 : Nat} {e0 e1 e2 e3 s0 s1 s2 s3 : Int} {T : Nat → Int} (h : PW w wr n b7 e0 e1 e2 e3 T s0 s1 s2 s3) (k : Nat) : PW w (wr.drewN k) n b7 e0 e1 e2 e3 T s0 s1 s2 s3 := h.ext ((Ext.refl _).drewN k)
theorem PW.set {w wr : World} {n b7 : Nat} {e0 e1 e2 e3 s0 s1 s2 s3 v0 v1 v2 v3 : Int} {T : Nat → Int} (h : PW w wr n b7 e0 e1 e2 e3 T s0 s1 s2 s3) (hb : n + 1 + 1 + 1 < b7) (hn : w.heap.size ≤ b7) :
    PW w ((((wr.setCell ⟨b7, 0, none⟩ (.int .u64 v0)).setCell ⟨b7, 1, none⟩ (.int .u64 v1)).setCell ⟨b7, 2, none⟩ (.int .u64 v2)).setCell ⟨b7, 3, none⟩ (.int .u64 v3)) n b7 e0 e1 e2 e3 T v0 v1 v2 v3 :=
  ⟨(((h.1.other (by omega)).other (by omega)).other (by omega)).other (by omega), (((h.2.1.other (by omega)).other (by omega)).other (by omega)).other (by omega), (((h.2.2.1.other (by omega)).other (by omega)).other (by omega)).other (by omega), h.2.2.2.1.set, Ext.st hn (Ext.st hn (Ext.st hn (Ext.st hn h.2.2.2.2)))⟩
/-- The state of a power's run while its table is laid. -/
def PA (w wr : World) (n : Nat) (x0 x1 x2 x3 e0 e1 e2 e3 : Int) (T : Nat → Int) : Prop :=
  Row wr n x0 x1 x2 x3 ∧ Row wr (n + 1) e0 e1 e2 e3 ∧ RowF wr (n + 1 + 1) 0 0 0 0 ∧ Tab wr (n + 1 + 1 + 1) T ∧ Ext w wr
theorem PA.ext {w wr wy : World} {n : Nat} {x0 x1 x2 x3 e0 e1 e2 e3 : Int} {T : Nat → Int} (h : PA w wr n x0 x1 x2 x3 e0 e1 e2 e3 T) (hx : Ext wr wy) : PA w wy n x0 x1 x2 x3 e0 e1 e2 e3 T :=
  ⟨h.1.ext hx, h.2.1.ext hx, h.2.2.1.ext hx, h.2.2.2.1.ext hx, h.2.2.2.2.trans hx⟩
theorem PA.put {w wr : World} {n o : Nat} {x0 x1 x2 x3 e0 e1 e2 e3 : Int} {T : Nat → Int} (h : PA w wr n x0 x1 x2 x3 e0 e1 e2 e3 T) (ho : o + 3 < 64) (hn : SizeLe w (n + 1 + 1 + 1)) (v0 v1 v2 v3 : Int) :
    PA w ((((wr.setCell ⟨n + 1 + 1 + 1, o, none⟩ (.int .u64 v0)).setCell ⟨n + 1 + 1 + 1, o + 1, none⟩ (.int .u64 v1)).setCell ⟨n + 1 + 1 + 1, o + 2, none⟩ (.int .u64 v2)).setCell ⟨n + 1 + 1 + 1, o + 3, none⟩ (.int .u64 v3)) n x0 x1 x2 x3 e0 e1 e2 e3 (put4 T o v0 v1 v2 v3) :=
  ⟨(((h.1.other (by omega)).other (by omega)).other (by omega)).other (by omega), (((h.2.1.other (by omega)).other (by omega)).other (by omega)).other (by omega), (((h.2.2.1.other (by omega)).other (by omega)).other (by omega)).other (by omega), h.2.2.2.1.set4 ho v0 v1 v2 v3, Ext.st hn (Ext.st hn (Ext.st hn (Ext.st hn h.2.2.2.2)))⟩
theorem PA.new (w : World) (x0 x1 x2 x3 e0 e1 e2 e3 : Int) : PA w ((((w.alloc (.cells #[.int .u64 x0, .int .u64 x1, .int .u64 x2, .int .u64 x3] 26)).alloc (.cells #[.int .u64 e0, .int .u64 e1, .int .u64 e2, .int .u64 e3] 26)).alloc (.cells #[.int .u64 0, .int .u64 0, .int .u64 0, .int .u64 0] 26)).alloc (.cells (Array.replicate 64 (.int .u64 0)) 89)) w.heap.size x0 x1 x2 x3 e0 e1 e2 e3 (fun _ => 0) := by
  have h2 := Row.two w x0 x1 x2 x3 e0 e1 e2 e3
  have h3 := RowF.new ((w.alloc (.cells #[.int .u64 x0, .int .u64 x1, .int .u64 x2, .int .u64 x3] 26)).alloc (.cells #[.int .u64 e0, .int .u64 e1, .int .u64 e2, .int .u64 e3] 26)) 0 0 0 0
  rw [show ((w.alloc (.cells #[.int .u64 x0, .int .u64 x1, .int .u64 x2, .int .u64 x3] 26)).alloc (.cells #[.int .u64 e0, .int .u64 e1, .int .u64 e2, .int .u64 e3] 26)).heap.size = w.heap.size + 1 + 1 from by simp] at h3
  have h4 := Tab.new (((w.alloc (.cells #[.int .u64 x0, .int .u64 x1, .int .u64 x2, .int .u64 x3] 26)).alloc (.cells #[.int .u64 e0, .int .u64 e1, .int .u64 e2, .int .u64 e3] 26)).alloc (.cells #[.int .u64 0, .int .u64 0, .int .u64 0, .int .u64 0] 26))
  rw [show (((w.alloc (.cells #[.int .u64 x0, .int .u64 x1, .int .u64 x2, .int .u64 x3] 26)).alloc (.cells #[.int .u64 e0, .int .u64 e1, .int .u64 e2, .int .u64 e3] 26)).alloc (.cells #[.int .u64 0, .int .u64 0, .int .u64 0, .int .u64 0] 26)).heap.size = w.heap.size + 1 + 1 + 1 from by simp] at h4
  exact ⟨(h2.1.ext ((Ext.refl _).alloc _)).ext ((Ext.refl _).alloc _), (h2.2.ext ((Ext.refl _).alloc _)).ext ((Ext.refl _).alloc _), h3.ext ((Ext.refl _).alloc _), h4, ((((Ext.refl _).alloc _).alloc _).alloc _).alloc _⟩
theorem Tab.new1 (w : World) : Tab (w.alloc (.cells ((Array.replicate 64 (.int .u64 0)).setIfInBounds 0 (.int .u64 1)) 89)) w.heap.size (put4 (fun _ => 0) (4 * 0) 1 0 0 0) := by
  refine ⟨by simp, fun k hk => ⟨?_, World.frozen?_alloc_at _ _ _ _ rfl⟩⟩
  rw [World.cell?_alloc_at _ _ _ _ rfl]
  unfold put4 put1
  by_cases e : k = 0
  · subst e; simp
  · have e2 : 0 ≠ k := fun h => e h.symm
    rw [Array.getElem?_setIfInBounds_ne e2, Array.getElem?_replicate, if_pos hk]
    by_cases h1 : k = 1
    · subst h1; rfl
    · by_cases h2 : k = 2
      · subst h2; rfl
      · by_cases h3 : k = 3
        · subst h3; rfl
        · rw [if_neg (by omega), if_neg (by omega), if_neg (by omega), if_neg (by omega)]
theorem PA.new1 (w : World) (x0 x1 x2 x3 e0 e1 e2 e3 : Int) : PA w ((((w.alloc (.cells #[.int .u64 x0, .int .u64 x1, .int .u64 x2, .int .u64 x3] 26)).alloc (.cells #[.int .u64 e0, .int .u64 e1, .int .u64 e2, .int .u64 e3] 26)).alloc (.cells #[.int .u64 0, .int .u64 0, .int .u64 0, .int .u64 0] 26)).alloc (.cells ((Array.replicate 64 (.int .u64 0)).setIfInBounds 0 (.int .u64 1)) 89)) w.heap.size x0 x1 x2 x3 e0 e1 e2 e3 (put4 (fun _ => 0) (4 * 0) 1 0 0 0) := by
  have h2 := Row.two w x0 x1 x2 x3 e0 e1 e2 e3
  have h3 := RowF.new ((w.alloc (.cells #[.int .u64 x0, .int .u64 x1, .int .u64 x2, .int .u64 x3] 26)).alloc (.cells #[.int .u64 e0, .int .u64 e1, .int .u64 e2, .int .u64 e3] 26)) 0 0 0 0
  rw [show ((w.alloc (.cells #[.int .u64 x0, .int .u64 x1, .int .u64 x2, .int .u64 x3] 26)).alloc (.cells #[.int .u64 e0, .int .u64 e1, .int .u64 e2, .int .u64 e3] 26)).heap.size = w.heap.size + 1 + 1 from by simp] at h3
  have h4 := Tab.new1 (((w.alloc (.cells #[.int .u64 x0, .int .u64 x1, .int .u64 x2, .int .u64 x3] 26)).alloc (.cells #[.int .u64 e0, .int .u64 e1, .int .u64 e2, .int .u64 e3] 26)).alloc (.cells #[.int .u64 0, .int .u64 0, .int .u64 0, .int .u64 0] 26))
  rw [show (((w.alloc (.cells #[.int .u64 x0, .int .u64 x1, .int .u64 x2, .int .u64 x3] 26)).alloc (.cells #[.int .u64 e0, .int .u64 e1, .int .u64 e2, .int .u64 e3] 26)).alloc (.cells #[.int .u64 0, .int .u64 0, .int .u64 0, .int .u64 0] 26)).heap.size = w.heap.size + 1 + 1 + 1 from by simp] at h4
  exact ⟨(h2.1.ext ((Ext.refl _).alloc _)).ext ((Ext.refl _).alloc _), (h2.2.ext ((Ext.refl _).alloc _)).ext ((Ext.refl _).alloc _), h3.ext ((Ext.refl _).alloc _), h4, ((((Ext.refl _).alloc _).alloc _).alloc _).alloc _⟩
theorem and15 (x : Int) (h : Lim x) : bits BinOp.and IntKind.u64 x 15 = x % 16 := by
  have := bits_mask .u64 64 (by decide) (fun n p q => by rw [IntKind.wrap_u64]; have : (2 : Int) ^ 64 = 18446744073709551616 := by decide
                                                         omega) 4 (by decide) x h.1 (by rw [show (2 : Int) ^ 64 = 18446744073709551616 from by decide]; exact h.2)
  rw [show (2 : Int) ^ 4 - 1 = 15 from by decide, show (2 : Int) ^ 4 = 16 from by decide] at this
  exact this
theorem nib_ok {e0 e1 e2 e3 : Int} (he : Lim4 e0 e1 e2 e3) (j : Nat) (hj : j < 64) : bits BinOp.and IntKind.u64 (wd e0 e1 e2 e3 (4 * j / 64) / 2 ^ (4 * j % 64)) 15 = ((((val e0 e1 e2 e3).toNat / 16 ^ j % 16 : Nat)) : Int) := by
  have hl := wd_lim he (4 * j / 64)
  have hq : 4 * j / 64 = j / 16 := by omega
  have hr : 4 * j % 64 = 4 * (j % 16) := by omega
  have h2 : (0 : Int) < 2 ^ (4 * j % 64) := Int.pow_pos (by decide)
  rw [and15 _ (by
    unfold Lim at *
    refine ⟨Int.ediv_nonneg hl.1 (Int.le_of_lt h2), Int.lt_of_le_of_lt (Int.ediv_le_self _ hl.1) hl.2⟩)]
  have hn := nibble he (j / 16) (j % 16) (by omega) (by omega)
  rw [show 16 * (j / 16) + j % 16 = j from by omega] at hn
  rw [hq, hr]
  unfold wd
  rw [hn]
  have h0 := (val_bd he).1
  obtain ⟨E, hE⟩ := Int.eq_ofNat_of_zero_le h0
  rw [hE]
  simp
theorem sq_step {X : Int} {k : Nat} {s0 s1 s2 s3 r0 r1 r2 r3 : Int} (h : QMod (X ^ k) s0 s1 s2 s3) (hr : QMod (val s0 s1 s2 s3 * val s0 s1 s2 s3) r0 r1 r2 r3) : QMod (X ^ (k + k)) r0 r1 r2 r3 := by
  refine hr.cong ?_
  rw [h.2, modq_mul_mod, mul_modq_mod, ← Int.pow_add]
theorem mul_step {X : Int} {k d : Nat} {s0 s1 s2 s3 t0 t1 t2 t3 r0 r1 r2 r3 : Int} (h : QMod (X ^ k) s0 s1 s2 s3) (ht : QMod (X ^ d) t0 t1 t2 t3) (hr : QMod (val s0 s1 s2 s3 * val t0 t1 t2 t3) r0 r1 r2 r3) : QMod (X ^ (k + d)) r0 r1 r2 r3 := by
  refine hr.cong ?_
  rw [h.2, ht.2, modq_mul_mod, mul_modq_mod, ← Int.pow_add]
theorem mul_step1 {X : Int} {k : Nat} {s0 s1 s2 s3 x0 x1 x2 x3 r0 r1 r2 r3 : Int} (hX : val x0 x1 x2 x3 = X) (h : QMod (X ^ k) s0 s1 s2 s3) (hr : QMod (val s0 s1 s2 s3 * val x0 x1 x2 x3) r0 r1 r2 r3) : QMod (X ^ (k + 1)) r0 r1 r2 r3 := by
  refine hr.cong ?_
  rw [h.2, modq_mul_mod, hX, Int.pow_succ]
theorem pow_none (X : Int) : QMod (X ^ 0) 1 0 0 0 := ⟨by unfold Lim4 Lim; decide, by rw [Int.pow_zero]; decide⟩
theorem exp_step (E j : Nat) : E / 16 ^ j = 16 * (E / 16 ^ (j + 1)) + E / 16 ^ j % 16 := by
  rw [Nat.pow_succ, ← Nat.div_div_eq_div_mul]
  omega
theorem row_wd {w : World} {b : Nat} {e0 e1 e2 e3 : Int} (h : Row w b e0 e1 e2 e3) (i : Nat) (hi : i < 4) : w.cell? ⟨b, i, none⟩ = some (.int .u64 (wd e0 e1 e2 e3 i)) := by
  obtain ⟨_, c0, c1, c2, c3⟩ := h
  have : i = 0 ∨ i = 1 ∨ i = 2 ∨ i = 3 := by omega
  rcases this with rfl | rfl | rfl | rfl <;> assumption
end Go.Proofs.YtnaiccfdbapdpaaDoor
