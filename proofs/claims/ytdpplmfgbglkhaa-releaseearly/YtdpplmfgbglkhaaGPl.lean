/-
  A gate that a law made itself, and one beside a variable of the law: what each call leaves of them; slices of numbers.
-/
import Derived.Test.YtdpplmfgbglkhaaGFace
import Derived.Test.YtdpplmfgbglkhaaHeld
namespace Go.Proofs.Ytdpplmfgbglkhaa
open Go.RowKit
/-- The slice v of n numbers f 0, f 1 .. -/
def IntsIs (w : World) (v : Value) (n : Nat) (f : Nat → Int) : Prop :=
  ∃ (a : Option Addr) (cap : Nat), v = .slice a n cap ∧ ∀ j, j < n → ∃ b o, a = some ⟨b, o, none⟩ ∧ b < w.heap.size ∧ w.cell? ⟨b, o + j, none⟩ = some (.int .i64 (f j))
theorem IntsIs.ext {w w' : World} {v : Value} {n : Nat} {f : Nat → Int} (h : IntsIs w v n f) (hx : Ext w w') : IntsIs w' v n f := by
  obtain ⟨a, cap, hv, h⟩ := h
  refine ⟨a, cap, hv, fun j hj => ?_⟩
  obtain ⟨b, o, ha, hb, hc⟩ := h j hj
  exact ⟨b, o, ha, Nat.lt_of_lt_of_le hb hx.size, later hx hc⟩
theorem IntsIs.get {w : World} {a : Option Addr} {n cap : Nat} {f : Nat → Int} (h : IntsIs w (.slice a n cap) n f) {j : Nat} (hj : j < n) : ∃ b o, a = some ⟨b, o, none⟩ ∧ b < w.heap.size ∧ w.cell? ⟨b, o + j, none⟩ = some (.int .i64 (f j)) := by
  obtain ⟨a', cap', hv, h⟩ := h
  injection hv with e1 e2 e3
  subst e1
  exact h j hj
theorem lp_nums (k n : Nat) (h : k < n) (hn : n ≤ 100000) : ((k : Int) < (n : Int)) ∧ (0 : Int) ≤ (k : Int) ∧ IntKind.i64.wrap ((k : Int) + 1) = (k : Int) + 1 := by
  refine ⟨by omega, by omega, ?_⟩
  rw [IntKind.wrap_i64]; omega
theorem lp_meas {j n : Nat} (h : j < n) : n - (intOf (.int .i64 ((j : Int) + 1))).toNat < n - (intOf (.int .i64 (j : Int))).toNat := by
  simp only [intOf]
  omega
/-- A gate made since w; nothing of w has turned. -/
def PlG (w : World) (v : Value) (B E N M : Int) (wr : World) : Prop := ∃ F, GAt wr v B E N M F ∧ From F w.heap.size ∧ Ext w wr
section
variable {w W wy : World} {v : Value} {B E N M : Int}
theorem PlG.ext (h : PlG w v B E N M W) (hx : Ext W wy) : PlG w v B E N M wy := by
  obtain ⟨F, h1, h2, h3⟩ := h
  exact ⟨F, h1.ext hx, h2, h3.trans hx⟩
theorem PlG.old (h : PlG w v B E N M W) : Ext w W := by
  obtain ⟨F, h1, h2, h3⟩ := h
  exact h3
theorem PlG.ok (h : PlG w v B E N M W) : GOk B E N M := by
  obtain ⟨F, h1, h2, h3⟩ := h
  exact h1.ok
theorem pnew_any (b e : Int) (h : Ext w W) : Calls Try.prog 9 #[.int .i64 b, .int .i64 e] W fun r w' => ∃ a, r = .returned (.pointer (some a)) ∧ PlG w (.pointer (some a)) (rB b) (rE e) 0 (-1) w' := by
  refine (gnew_any b e W).mono ?_
  rintro r w' ⟨v, F, rfl, HD, HF, HX⟩
  obtain ⟨a, rfl⟩ := HD.form
  exact ⟨a, rfl, F, HD, fun k hk => Nat.le_trans h.size (HF k hk), h.trans HX⟩
theorem ptick_any (n : Int) (h : PlG w v B E N M W) : Calls Try.prog 13 #[v, .int .i64 n] W fun r w' => r = .returned (.tuple #[]) ∧ PlG w v B E (rN n) (rM M n) w' := by
  obtain ⟨F, h1, h2, h3⟩ := h
  refine (gtick_any n h1).mono ?_
  rintro r w' ⟨F', rfl, HD, HS, HC⟩
  exact ⟨rfl, F', HD, HS.from h2 h3.size, HC.ext h3 h2⟩
theorem pcrash_any (h : PlG w v B E N M W) : Calls Try.prog 11 #[v] W fun r w' => r = .returned (.tuple #[]) ∧ PlG w v B E 0 M w' := by
  obtain ⟨F, h1, h2, h3⟩ := h
  refine (gcrash_any h1).mono ?_
  rintro r w' ⟨F', rfl, HD, HS, HC⟩
  exact ⟨rfl, F', HD, HS.from h2 h3.size, HC.ext h3 h2⟩
theorem popen_any (e : Int) (h : PlG w v B E N M W) : Calls Try.prog 16 #[v, .int .i64 e] W fun r w' => r = .returned (.bool (rO B E M e)) ∧ PlG w v B E N M w' := by
  obtain ⟨F, h1, h2, h3⟩ := h
  refine (gopen_any e h1).mono ?_
  rintro r w' ⟨rfl, HX⟩
  exact ⟨rfl, F, h1.ext HX, h2, h3.trans HX⟩
theorem ptime_any (e : Int) (h : PlG w v B E N M W) : Calls Try.prog 18 #[v, .int .i64 e] W fun r w' => r = .returned (.int .i64 (rT B E e)) ∧ PlG w v B E N M w' := by
  obtain ⟨F, h1, h2, h3⟩ := h
  refine (gtime_any e h1).mono ?_
  rintro r w' ⟨rfl, HX⟩
  exact ⟨rfl, F, h1.ext HX, h2, h3.trans HX⟩
theorem pnow_any (h : PlG w v B E N M W) : Calls Try.prog 15 #[v] W fun r w' => r = .returned (.int .i64 N) ∧ PlG w v B E N M w' := by
  obtain ⟨F, h1, h2, h3⟩ := h
  refine (gnow_any h1).mono ?_
  rintro r w' ⟨rfl, HX⟩
  exact ⟨rfl, F, h1.ext HX, h2, h3.trans HX⟩
end
/-- What a block of four numbers holds. -/
def Four (w : World) (g : Nat) (B E N M : Int) : Prop := g < w.heap.size ∧ w.cell? ⟨g, 0, none⟩ = some (.int .i64 B) ∧ w.cell? ⟨g, 1, none⟩ = some (.int .i64 E) ∧ w.cell? ⟨g, 2, none⟩ = some (.int .i64 N) ∧ w.cell? ⟨g, 3, none⟩ = some (.int .i64 M) ∧
  w.frozen? ⟨g, 0, none⟩ = false ∧ w.frozen? ⟨g, 1, none⟩ = false ∧ w.frozen? ⟨g, 2, none⟩ = false ∧ w.frozen? ⟨g, 3, none⟩ = false
theorem Four.same {w w' : World} {g : Nat} {B E N M : Int} (h : Four w g B E N M) (hs : w.heap.size ≤ w'.heap.size) (hb : w'.heap[g]? = w.heap[g]?) : Four w' g B E N M := by
  obtain ⟨h0, h1, h2, h3, h4, h5, h6, h7, h8⟩ := h
  exact ⟨Nat.lt_of_lt_of_le h0 hs, (World.cell?_of_block (a := ⟨g, 0, none⟩) hb).trans h1, (World.cell?_of_block (a := ⟨g, 1, none⟩) hb).trans h2, (World.cell?_of_block (a := ⟨g, 2, none⟩) hb).trans h3, (World.cell?_of_block (a := ⟨g, 3, none⟩) hb).trans h4,
    (World.frozen?_of_block (a := ⟨g, 0, none⟩) hb).trans h5, (World.frozen?_of_block (a := ⟨g, 1, none⟩) hb).trans h6, (World.frozen?_of_block (a := ⟨g, 2, none⟩) hb).trans h7, (World.frozen?_of_block (a := ⟨g, 3, none⟩) hb).trans h8⟩
/-- A gate beside the document's in block g: their numbers are the same. -/
def PlX (w : World) (v : Value) (g : Nat) (B E N M B' E' N' M' : Int) (wr : World) : Prop := ∃ F, GAt wr v B E N M F ∧ From F w.heap.size ∧ Ext w wr ∧ ¬ F g ∧ w.heap.size ≤ g ∧ Four wr g B' E' N' M'
section
variable {w W wy : World} {v : Value} {g : Nat} {B E N M B' E' N' M' : Int}
theorem PlX.ext (h : PlX w v g B E N M B' E' N' M' W) (hx : Ext W wy) : PlX w v g B E N M B' E' N' M' wy := by
  obtain ⟨F, h1, h2, h3, h4, h5, h6⟩ := h
  exact ⟨F, h1.ext hx, h2, h3.trans hx, h4, h5, h6.same hx.size (Below.block hx g h6.1)⟩
theorem PlX.old (h : PlX w v g B E N M B' E' N' M' W) : Ext w W := by
  obtain ⟨F, h1, h2, h3, h4, h5, h6⟩ := h
  exact h3
theorem PlX.ok (h : PlX w v g B E N M B' E' N' M' W) : GOk B E N M := by
  obtain ⟨F, h1, h2, h3, h4, h5, h6⟩ := h
  exact h1.ok
theorem PlX.four (h : PlX w v g B E N M B' E' N' M' W) : Four W g B' E' N' M' := by
  obtain ⟨F, h1, h2, h3, h4, h5, h6⟩ := h
  exact h6
theorem PlX.one (h : PlX w v g B E N M B' E' N' M' W) : PlG w v B E N M W := by
  obtain ⟨F, h1, h2, h3, h4, h5, h6⟩ := h
  exact ⟨F, h1, h2, h3⟩
theorem PlX.put (h : PlX w v g B E N M B' E' N' M' W) (B2 E2 N2 M2 : Int) : PlX w v g B E N M B2 E2 N2 M2 ((((W.setCell ⟨g, 0, none⟩ (.int .i64 B2)).setCell ⟨g, 1, none⟩ (.int .i64 E2)).setCell ⟨g, 2, none⟩ (.int .i64 N2)).setCell ⟨g, 3, none⟩ (.int .i64 M2)) := by
  obtain ⟨F, h1, h2, h3, h4, h5, c0, c1, c2, c3, c4, c5, c6, c7, c8⟩ := h
  have k : Chg (fun k => k = g) W ((((W.setCell ⟨g, 0, none⟩ (.int .i64 B2)).setCell ⟨g, 1, none⟩ (.int .i64 E2)).setCell ⟨g, 2, none⟩ (.int .i64 N2)).setCell ⟨g, 3, none⟩ (.int .i64 M2)) :=
    Chg.st (.inl rfl) (Chg.st (.inl rfl) (Chg.st (.inl rfl) (Chg.st (.inl rfl) (Chg.refl _ W))))
  refine ⟨F, h1.far k (fun i a b => h4 (b ▸ a)), h2, k.ext h3 (fun i a => by have a : i = g := a; omega), h4, h5, Nat.lt_of_lt_of_le c0 k.size, ?_, ?_, ?_, ?_, ?_, ?_, ?_, ?_⟩
  · simp [World.cell?_setCell_other, World.cell?_setCell_same, c1]
  · simp [World.cell?_setCell_other, World.cell?_setCell_same, c2]
  · simp [World.cell?_setCell_other, World.cell?_setCell_same, c3]
  · simp [World.cell?_setCell_other, World.cell?_setCell_same, c4]
  · simp [c5]
  · simp [c6]
  · simp [c7]
  · simp [c8]
theorem xtick_any (n : Int) (h : PlX w v g B E N M B' E' N' M' W) : Calls Try.prog 13 #[v, .int .i64 n] W fun r w' => r = .returned (.tuple #[]) ∧ PlX w v g B E (rN n) (rM M n) B' E' N' M' w' := by
  obtain ⟨F, h1, h2, h3, h4, h5, h6⟩ := h
  refine (gtick_any n h1).mono ?_
  rintro r w' ⟨F', rfl, HD, HS, HC⟩
  exact ⟨rfl, F', HD, HS.from h2 h3.size, HC.ext h3 h2, fun q => by rcases HS g q with p | p; exact h4 p; have := h6.1; omega, h5, h6.same HC.size (HC.block g h6.1 h4)⟩
theorem xcrash_any (h : PlX w v g B E N M B' E' N' M' W) : Calls Try.prog 11 #[v] W fun r w' => r = .returned (.tuple #[]) ∧ PlX w v g B E 0 M B' E' N' M' w' := by
  obtain ⟨F, h1, h2, h3, h4, h5, h6⟩ := h
  refine (gcrash_any h1).mono ?_
  rintro r w' ⟨F', rfl, HD, HS, HC⟩
  exact ⟨rfl, F', HD, HS.from h2 h3.size, HC.ext h3 h2, fun q => by rcases HS g q with p | p; exact h4 p; have := h6.1; omega, h5, h6.same HC.size (HC.block g h6.1 h4)⟩
theorem xopen_any (e : Int) (h : PlX w v g B E N M B' E' N' M' W) : Calls Try.prog 16 #[v, .int .i64 e] W fun r w' => r = .returned (.bool (rO B E M e)) ∧ PlX w v g B E N M B' E' N' M' w' := by
  obtain ⟨F, h1, _⟩ := id h
  refine (gopen_any e h1).mono ?_
  rintro r w' ⟨rfl, HX⟩
  exact ⟨rfl, h.ext HX⟩
theorem xtime_any (e : Int) (h : PlX w v g B E N M B' E' N' M' W) : Calls Try.prog 18 #[v, .int .i64 e] W fun r w' => r = .returned (.int .i64 (rT B E e)) ∧ PlX w v g B E N M B' E' N' M' w' := by
  obtain ⟨F, h1, _⟩ := id h
  refine (gtime_any e h1).mono ?_
  rintro r w' ⟨rfl, HX⟩
  exact ⟨rfl, h.ext HX⟩
theorem xnow_any (h : PlX w v g B E N M B' E' N' M' W) : Calls Try.prog 15 #[v] W fun r w' => r = .returned (.int .i64 N) ∧ PlX w v g B E N M B' E' N' M' w' := by
  obtain ⟨F, h1, _⟩ := id h
  refine (gnow_any h1).mono ?_
  rintro r w' ⟨rfl, HX⟩
  exact ⟨rfl, h.ext HX⟩
end
end Go.Proofs.Ytdpplmfgbglkhaa
