/-
  A block of sixteen numbers of four words each, and what a power's table holds; no function of the program is named here.
-/
import Derived.Test.YtmpcoohinppdhaaDoorFc
namespace Go.Proofs.YtmpcoohinppdhaaDoor
open Go.RowKit
/-- Sixty-four words in block b, which may be written. -/
def Tab (w : World) (b : Nat) (T : Nat → Int) : Prop := b < w.heap.size ∧ ∀ k, k < 64 → w.cell? ⟨b, k, none⟩ = some (.int .u64 (T k)) ∧ w.frozen? ⟨b, k, none⟩ = false
theorem Tab.ext {w w' : World} {b : Nat} {T : Nat → Int} (h : Tab w b T) (hx : Ext w w') : Tab w' b T :=
  ⟨Nat.lt_of_lt_of_le h.1 hx.size, fun k hk => ⟨later hx (h.2 k hk).1, (hx.cells.2 b k h.1).trans (h.2 k hk).2⟩⟩
theorem Tab.new (w : World) : Tab (w.alloc (.cells (Array.replicate 64 (.int .u64 0)) 44)) w.heap.size (fun _ => 0) :=
  ⟨by simp, fun k hk => ⟨by rw [World.cell?_alloc_at _ _ _ _ rfl]; simp [hk], World.frozen?_alloc_at _ _ _ _ rfl⟩⟩
def put1 (T : Nat → Int) (o : Nat) (v : Int) : Nat → Int := fun j => if j = o then v else T j
theorem Tab.set1 {w : World} {b : Nat} {T : Nat → Int} (h : Tab w b T) {o : Nat} (ho : o < 64) (v : Int) : Tab (w.setCell ⟨b, o, none⟩ (.int .u64 v)) b (put1 T o v) := by
  refine ⟨by simpa using h.1, fun k hk => ⟨?_, by simpa using (h.2 k hk).2⟩⟩
  unfold put1
  by_cases e : k = o
  · subst e
    rw [if_pos rfl]
    exact World.cell?_setCell_same' _ _ _ (by rw [(h.2 k hk).1]; rfl)
  · rw [if_neg e, World.cell?_setCell_other _ _ _ _ (fun q => e (by injection q with _ q _; exact q.symm))]
    exact (h.2 k hk).1
theorem Tab.other {w : World} {b c i : Nat} {T : Nat → Int} {v : Value} (hne : c ≠ b) (h : Tab w c T) : Tab (w.setCell ⟨b, i, none⟩ v) c T :=
  ⟨by simpa using h.1, fun k hk => ⟨by rw [World.cell?_setCell_far _ _ _ _ (fun q => hne q.symm)]; exact (h.2 k hk).1, by simpa using (h.2 k hk).2⟩⟩
def put4 (T : Nat → Int) (o : Nat) (v0 v1 v2 v3 : Int) : Nat → Int := put1 (put1 (put1 (put1 T o v0) (o + 1) v1) (o + 2) v2) (o + 3) v3
theorem Tab.set4 {w : World} {b : Nat} {T : Nat → Int} (h : Tab w b T) {o : Nat} (ho : o + 3 < 64) (v0 v1 v2 v3 : Int) :
    Tab ((((w.setCell ⟨b, o, none⟩ (.int .u64 v0)).setCell ⟨b, o + 1, none⟩ (.int .u64 v1)).setCell ⟨b, o + 2, none⟩ (.int .u64 v2)).setCell ⟨b, o + 3, none⟩ (.int .u64 v3)) b (put4 T o v0 v1 v2 v3) :=
  (((h.set1 (by omega) v0).set1 (by omega) v1).set1 (by omega) v2).set1 (by omega) v3
/-- The first m of sixteen numbers are the powers of X, scaled. -/
def TabP (X : Int) (T : Nat → Int) (m : Nat) : Prop := ∀ i, i < m → FMod (X ^ i * B256) (T (4 * i)) (T (4 * i + 1)) (T (4 * i + 2)) (T (4 * i + 3))
theorem TabP.step {X : Int} {T : Nat → Int} {m : Nat} (h : TabP X T m) {v0 v1 v2 v3 : Int} (hv : FMod (X ^ m * B256) v0 v1 v2 v3) : TabP X (put4 T (4 * m) v0 v1 v2 v3) (m + 1) := by
  intro i hi
  unfold put4 put1
  by_cases e : i = m
  · subst e
    simpa using hv
  · have := h i (by omega)
    have hlt : i < m := by omega
    rw [if_neg (by omega), if_neg (by omega), if_neg (by omega), if_neg (by omega), if_neg (by omega), if_neg (by omega), if_neg (by omega), if_neg (by omega), if_neg (by omega), if_neg (by omega), if_neg (by omega), if_neg (by omega), if_neg (by omega), if_neg (by omega), if_neg (by omega), if_neg (by omega)]
    exact this
/-- The state of a power's run. -/
def PW (w wr : World) (n b7 : Nat) (e0 e1 e2 e3 : Int) (T : Nat → Int) (s0 s1 s2 s3 : Int) : Prop :=
  Row wr (n + 1) e0 e1 e2 e3 ∧ RowF wr (n + 1 + 1) 0 0 0 0 ∧ Tab wr (n + 1 + 1 + 1) T ∧ RowF wr b7 s0 s1 s2 s3 ∧ Ext w wr
theorem PW.ext {w wr wy : World} {n b7 : Nat} {e0 e1 e2 e3 s0 s1 s2 s3 : Int} {T : Nat → Int} (h : PW w wr n b7 e0 e1 e2 e3 T s0 s1 s2 s3) (hx : Ext wr wy) : PW w wy n b7 e0 e1 e2 e3 T s0 s1 s2 s3 :=
  ⟨h.1.ext hx, h.2.1.ext hx, h.2.2.1.ext hx, h.2.2.2.1.ext hx, h.2.2.2.2.trans hx⟩
theorem PW.drewN {w wr : World} {n b7 : Nat} {e0 e1 e2 e3 s0 s1 s2 s3 : Int} {T : Nat → Int} (h : PW w wr n b7 e0 e1 e2 e3 T s0 s1 s2 s3) (k : Nat) : PW w (wr.drewN k) n b7 e0 e1 e2 e3 T s0 s1 s2 s3 := h.ext ((Ext.refl _).drewN k)
theorem Row.other {w : World} {b c i : Nat} {x0 x1 x2 x3 : Int} {v : Value} (hne : c ≠ b) (h : Row w c x0 x1 x2 x3) : Row (w.setCell ⟨b, i, none⟩ v) c x0 x1 x2 x3 := by
  obtain ⟨l, c0, c1, c2, c3⟩ := h
  refine ⟨by simpa using l, ?_, ?_, ?_, ?_⟩ <;> (rw [World.cell?_setCell_far _ _ _ _ (fun q => hne q.symm)]; assumption)
theorem PW.set {w wr : World} {n b7 : Nat} {e0 e1 e2 e3 s0 s1 s2 s3 v0 v1 v2 v3 : Int} {T : Nat → Int} (h : PW w wr n b7 e0 e1 e2 e3 T s0 s1 s2 s3) (hb : n + 1 + 1 + 1 < b7) (hn : w.heap.size ≤ b7) :
    PW w ((((wr.setCell ⟨b7, 0, none⟩ (.int .u64 v0)).setCell ⟨b7, 1, none⟩ (.int .u64 v1)).setCell ⟨b7, 2, none⟩ (.int .u64 v2)).setCell ⟨b7, 3, none⟩ (.int .u64 v3)) n b7 e0 e1 e2 e3 T v0 v1 v2 v3 :=
  ⟨(((h.1.other (by omega)).other (by omega)).other (by omega)).other (by omega), (((h.2.1.other (by omega)).other (by omega)).other (by omega)).other (by omega), (((h.2.2.1.other (by omega)).other (by omega)).other (by omega)).other (by omega), h.2.2.2.1.set, Ext.st hn (Ext.st hn (Ext.st hn (Ext.st hn h.2.2.2.2)))⟩
/-- The state of a power's run while its table is laid. -/
def PA (w wr : World) (n : Nat) (x0 x1 x2 x3 e0 e1 e2 e3 : Int) (T : Nat → Int) : Prop :=
  Row wr n x0 x1 x2 x3 ∧ Row wr (n + 1) e0 e1 e2 e3 ∧ RowF wr (n + 1 + 1) 0 0 0 0 ∧ Tab wr (n + 1 + 1 + 1) T ∧ Ext w wr
theorem PA.ext {w wr wy : World} {n : Nat} {x0 x1 x2 x3 e0 e1 e2 e3 : Int} {T : Nat → Int} (h : PA w wr n x0 x1 x2 x3 e0 e1 e2 e3 T) (hx : Ext wr wy) : PA w wy n x0 x1 x2 x3 e0 e1 e2 e3 T :=
  ⟨h.1.ext hx, h.2.1.ext hx, h.2.2.1.ext hx, h.2.2.2.1.ext hx, h.2.2.2.2.trans hx⟩
theorem PA.put {w wr : World} {n o : Nat} {x0 x1 x2 x3 e0 e1 e2 e3 : Int} {T : Nat → Int} (h : PA w wr n x0 x1 x2 x3 e0 e1 e2 e3 T) (ho : o + 3 < 64) (hn : SizeLe w (n + 1 + 1 + 1)) (v0 v1 v2 v3 : Int) :
    PA w ((((wr.setCell ⟨n + 1 + 1 + 1, o, none⟩ (.int .u64 v0)).setCell ⟨n + 1 + 1 + 1, o + 1, none⟩ (.int .u64 v1)).setCell ⟨n + 1 + 1 + 1, o + 2, none⟩ (.int .u64 v2)).setCell ⟨n + 1 + 1 + 1, o + 3, none⟩ (.int .u64 v3)) n x0 x1 x2 x3 e0 e1 e2 e3 (put4 T o v0 v1 v2 v3) :=
  ⟨(((h.1.other (by omega)).other (by omega)).other (by omega)).other (by omega), (((h.2.1.other (by omega)).other (by omega)).other (by omega)).other (by omega), (((h.2.2.1.other (by omega)).other (by omega)).other (by omega)).other (by omega), h.2.2.2.1.set4 ho v0 v1 v2 v3, Ext.st hn (Ext.st hn (Ext.st hn (Ext.st hn h.2.2.2.2)))⟩
theorem PA.new (w : World) (x0 x1 x2 x3 e0 e1 e2 e3 : Int) : PA w ((((w.alloc (.cells #[.int .u64 x0, .int .u64 x1, .int .u64 x2, .int .u64 x3] 24)).alloc (.cells #[.int .u64 e0, .int .u64 e1, .int .u64 e2, .int .u64 e3] 24)).alloc (.cells #[.int .u64 0, .int .u64 0, .int .u64 0, .int .u64 0] 24)).alloc (.cells (Array.replicate 64 (.int .u64 0)) 44)) w.heap.size x0 x1 x2 x3 e0 e1 e2 e3 (fun _ => 0) := by
  have h2 := Row.two w x0 x1 x2 x3 e0 e1 e2 e3
  have h3 := RowF.new ((w.alloc (.cells #[.int .u64 x0, .int .u64 x1, .int .u64 x2, .int .u64 x3] 24)).alloc (.cells #[.int .u64 e0, .int .u64 e1, .int .u64 e2, .int .u64 e3] 24)) 0 0 0 0
  rw [show ((w.alloc (.cells #[.int .u64 x0, .int .u64 x1, .int .u64 x2, .int .u64 x3] 24)).alloc (.cells #[.int .u64 e0, .int .u64 e1, .int .u64 e2, .int .u64 e3] 24)).heap.size = w.heap.size + 1 + 1 from by simp] at h3
  have h4 := Tab.new (((w.alloc (.cells #[.int .u64 x0, .int .u64 x1, .int .u64 x2, .int .u64 x3] 24)).alloc (.cells #[.int .u64 e0, .int .u64 e1, .int .u64 e2, .int .u64 e3] 24)).alloc (.cells #[.int .u64 0, .int .u64 0, .int .u64 0, .int .u64 0] 24))
  rw [show (((w.alloc (.cells #[.int .u64 x0, .int .u64 x1, .int .u64 x2, .int .u64 x3] 24)).alloc (.cells #[.int .u64 e0, .int .u64 e1, .int .u64 e2, .int .u64 e3] 24)).alloc (.cells #[.int .u64 0, .int .u64 0, .int .u64 0, .int .u64 0] 24)).heap.size = w.heap.size + 1 + 1 + 1 from by simp] at h4
  exact ⟨(h2.1.ext ((Ext.refl _).alloc _)).ext ((Ext.refl _).alloc _), (h2.2.ext ((Ext.refl _).alloc _)).ext ((Ext.refl _).alloc _), h3.ext ((Ext.refl _).alloc _), h4, ((((Ext.refl _).alloc _).alloc _).alloc _).alloc _⟩
end Go.Proofs.YtmpcoohinppdhaaDoor
