/-
  A disk that a law made itself, two of them, and one beside a variable of the law: what each call leaves of them.
-/
import Derived.Test.YthcnoeddilhpbaaDAwake
namespace Go.Proofs.Ythcnoeddilhpbaa
open Go.RowKit
/-- A disk made since w; nothing of w has turned. -/
def PlD (w : World) (v : Value) (T : ByteArray) (y : Nat) (wr : World) : Prop := ∃ F, DAt wr v T y F ∧ From F w.heap.size ∧ Ext w wr
theorem PlD.ext {w wx wy : World} {v : Value} {T : ByteArray} {y : Nat} (h : PlD w v T y wx) (hx : Ext wx wy) : PlD w v T y wy := by
  obtain ⟨F, h1, h2, h3⟩ := h
  exact ⟨F, h1.ext hx, h2, h3.trans hx⟩
theorem PlD.old {w wx : World} {v : Value} {T : ByteArray} {y : Nat} (h : PlD w v T y wx) : Ext w wx := by
  obtain ⟨F, h1, h2, h3⟩ := h
  exact h3
theorem PlD.form {w wx : World} {v : Value} {T : ByteArray} {y : Nat} (h : PlD w v T y wx) : ∃ a, v = .pointer (some a) := by
  obtain ⟨F, h1, h2, h3⟩ := h
  exact h1.form
theorem pnew_any (w W : World) (h : Ext w W) : Calls Try.prog 10 #[] W fun e w' => ∃ a, e = .returned (.pointer (some a)) ∧ PlD w (.pointer (some a)) ⟨#[]⟩ 0 w' ∧ Ext W w' := by
  refine (dnew_any W).mono ?_
  rintro e w' ⟨v, F, rfl, HD, HF, HX⟩
  obtain ⟨a, rfl⟩ := HD.form
  exact ⟨a, rfl, ⟨F, HD, fun k hk => Nat.le_trans h.size (HF k hk), h.trans HX⟩, HX⟩
theorem pdo_any {w W : World} {v : Value} {T : ByteArray} {y : Nat} (k : Int) (x : ByteArray) (K : Nat) (hk : dOk T y) (hK : K < 18446744073709551616) (h : PlD w v T y W) :
    Calls Try.prog 12 #[v, .agg #[.int .i64 k, .string x, .int .u64 (K : Int)]] W fun e w' => e = .returned (.int .i64 (dDo T y k x K).2.2) ∧ PlD w v (dDo T y k x K).1 (dDo T y k x K).2.1 w' := by
  obtain ⟨F, h1, h2, h3⟩ := h
  refine (ddo_any k x K hk hK W h1).mono ?_
  rintro e w' ⟨F', rfl, HD, HS, HC⟩
  exact ⟨rfl, F', HD, HS.from h2 h3.size, HC.ext h3 h2⟩
theorem ptext_any {w W : World} {v : Value} {T : ByteArray} {y : Nat} (h : PlD w v T y W) : Calls Try.prog 13 #[v] W fun e w' => e = .returned (.string T) ∧ Ext W w' := by
  obtain ⟨F, h1, h2, h3⟩ := h
  exact dtext_any W h1
theorem psync_any {w W : World} {v : Value} {T : ByteArray} {y : Nat} (h : PlD w v T y W) : Calls Try.prog 14 #[v] W fun e w' => e = .returned (.int .i64 (y : Int)) ∧ Ext W w' := by
  obtain ⟨F, h1, h2, h3⟩ := h
  exact dsynced_any W h1
/-- Two disks made since w, that share nothing. -/
def Pl2 (w : World) (va vb : Value) (Ta : ByteArray) (ya : Nat) (Tb : ByteArray) (yb : Nat) (wr : World) : Prop := ∃ F G, DAt wr va Ta ya F ∧ DAt wr vb Tb yb G ∧ Asunder F G ∧ From F w.heap.size ∧ From G w.heap.size ∧ Ext w wr
section
variable {w W : World} {va vb : Value} {Ta Tb : ByteArray} {ya yb : Nat}
theorem Pl2.ext {wy : World} (h : Pl2 w va vb Ta ya Tb yb W) (hx : Ext W wy) : Pl2 w va vb Ta ya Tb yb wy := by
  obtain ⟨F, G, h1, h2, h3, h4, h5, h6⟩ := h
  exact ⟨F, G, h1.ext hx, h2.ext hx, h3, h4, h5, h6.trans hx⟩
theorem Pl2.old (h : Pl2 w va vb Ta ya Tb yb W) : Ext w W := by
  obtain ⟨F, G, h1, h2, h3, h4, h5, h6⟩ := h
  exact h6
theorem Pl2.swap (h : Pl2 w va vb Ta ya Tb yb W) : Pl2 w vb va Tb yb Ta ya W := by
  obtain ⟨F, G, h1, h2, h3, h4, h5, h6⟩ := h
  exact ⟨G, F, h2, h1, h3.symm, h5, h4, h6⟩
theorem Pl2.one (h : Pl2 w va vb Ta ya Tb yb W) : PlD w va Ta ya W := by
  obtain ⟨F, G, h1, h2, h3, h4, h5, h6⟩ := h
  exact ⟨F, h1, h4, h6⟩
theorem pnew2_any (h : PlD w va Ta ya W) : Calls Try.prog 10 #[] W fun e w' => ∃ a, e = .returned (.pointer (some a)) ∧ Pl2 w va (.pointer (some a)) Ta ya ⟨#[]⟩ 0 w' := by
  obtain ⟨F, h1, h2, h3⟩ := h
  refine (dnew_any W).mono ?_
  rintro e w' ⟨v, G, rfl, HD, HF, HX⟩
  obtain ⟨a, rfl⟩ := HD.form
  exact ⟨a, rfl, F, G, h1.ext HX, HD, Asunder.new h1.lt HF, h2, fun k hk => Nat.le_trans h3.size (HF k hk), h3.trans HX⟩
theorem pdoA_any (k : Int) (x : ByteArray) (K : Nat) (hk : dOk Ta ya) (hK : K < 18446744073709551616) (h : Pl2 w va vb Ta ya Tb yb W) :
    Calls Try.prog 12 #[va, .agg #[.int .i64 k, .string x, .int .u64 (K : Int)]] W fun e w' => e = .returned (.int .i64 (dDo Ta ya k x K).2.2) ∧ Pl2 w va vb (dDo Ta ya k x K).1 (dDo Ta ya k x K).2.1 Tb yb w' := by
  obtain ⟨F, G, h1, h2, h3, h4, h5, h6⟩ := h
  refine (ddo_any k x K hk hK W h1).mono ?_
  rintro e w' ⟨F', rfl, HD, HS, HC⟩
  exact ⟨rfl, F', G, HD, h2.far HC h3.symm, HS.apart h3 h2.lt, HS.from h4 h6.size, h5, HC.ext h6 h4⟩
theorem pdoB_any (k : Int) (x : ByteArray) (K : Nat) (hk : dOk Tb yb) (hK : K < 18446744073709551616) (h : Pl2 w va vb Ta ya Tb yb W) :
    Calls Try.prog 12 #[vb, .agg #[.int .i64 k, .string x, .int .u64 (K : Int)]] W fun e w' => e = .returned (.int .i64 (dDo Tb yb k x K).2.2) ∧ Pl2 w va vb Ta ya (dDo Tb yb k x K).1 (dDo Tb yb k x K).2.1 w' :=
  (pdoA_any k x K hk hK h.swap).mono fun _ _ q => ⟨q.1, q.2.swap⟩
end
/-- A disk made since w, beside a variable of the law's in block g: a text and a number. -/
def PlX (w : World) (v : Value) (g : Nat) (T : ByteArray) (y : Nat) (Tx : ByteArray) (yx : Nat) (wr : World) : Prop := ∃ F, DAt wr v T y F ∧ From F w.heap.size ∧ Ext w wr ∧ ¬ F g ∧ w.heap.size ≤ g ∧ g < wr.heap.size ∧
  wr.cell? ⟨g, 0, none⟩ = some (.string Tx) ∧ wr.cell? ⟨g, 1, none⟩ = some (.int .i64 (yx : Int)) ∧ wr.frozen? ⟨g, 0, none⟩ = false ∧ wr.frozen? ⟨g, 1, none⟩ = false
section
variable {w W : World} {v : Value} {g : Nat} {T Tx : ByteArray} {y yx : Nat}
theorem PlX.ext {wy : World} (h : PlX w v g T y Tx yx W) (hx : Ext W wy) : PlX w v g T y Tx yx wy := by
  obtain ⟨F, h1, h2, h3, h4, h5, h6, h7, h8, h9, h10⟩ := h
  have hb := Below.block hx g h6
  exact ⟨F, h1.ext hx, h2, h3.trans hx, h4, h5, Nat.lt_of_lt_of_le h6 hx.size, later hx h7, later hx h8, (World.frozen?_of_block (a := ⟨g, 0, none⟩) hb).trans h9, (World.frozen?_of_block (a := ⟨g, 1, none⟩) hb).trans h10⟩
theorem PlX.old (h : PlX w v g T y Tx yx W) : Ext w W := by
  obtain ⟨F, h1, h2, h3, h4⟩ := h
  exact h3
theorem PlX.one (h : PlX w v g T y Tx yx W) : PlD w v T y W := by
  obtain ⟨F, h1, h2, h3, h4⟩ := h
  exact ⟨F, h1, h2, h3⟩
theorem PlX.cells (h : PlX w v g T y Tx yx W) : g < W.heap.size ∧ W.cell? ⟨g, 0, none⟩ = some (.string Tx) ∧ W.cell? ⟨g, 1, none⟩ = some (.int .i64 (yx : Int)) ∧ W.frozen? ⟨g, 0, none⟩ = false ∧ W.frozen? ⟨g, 1, none⟩ = false := by
  obtain ⟨F, h1, h2, h3, h4, h5, h6, h7, h8, h9, h10⟩ := h
  exact ⟨h6, h7, h8, h9, h10⟩
theorem PlX.new (h : PlD w v T y W) (t : TypeId) (a : Value) (b : Value) (ha : a = .string Tx) (hb : b = .int .i64 (yx : Int)) : PlX w v W.heap.size T y Tx yx (W.alloc (.cells #[a, b] t)) := by
  subst ha hb
  obtain ⟨F, h1, h2, h3⟩ := h
  refine ⟨F, h1.ext ((Ext.refl W).alloc _), h2, h3.alloc _, fun q => by have := h1.lt _ q; omega, h3.size, by simp, ?_, ?_, World.frozen?_alloc_at _ _ _ _ rfl, World.frozen?_alloc_at _ _ _ _ rfl⟩
  · rw [World.cell?_alloc_at _ _ _ _ rfl]; rfl
  · rw [World.cell?_alloc_at _ _ _ _ rfl]; rfl
theorem PlX.put (h : PlX w v g T y Tx yx W) (Ty : ByteArray) (yy : Nat) : PlX w v g T y Ty yy ((W.setCell ⟨g, 0, none⟩ (.string Ty)).setCell ⟨g, 1, none⟩ (.int .i64 (yy : Int))) := by
  obtain ⟨F, h1, h2, h3, h4, h5, h6, h7, h8, h9, h10⟩ := h
  have c0 : Chg (fun k => k = g) W ((W.setCell ⟨g, 0, none⟩ (.string Ty)).setCell ⟨g, 1, none⟩ (.int .i64 (yy : Int))) := Chg.st (F := fun k => k = g) (.inl rfl) (Chg.st (F := fun k => k = g) (.inl rfl) (Chg.refl _ W))
  refine ⟨F, h1.far c0 (fun k a b => by have b : k = g := b; subst b; exact h4 a), h2, c0.ext h3 (fun k a => by have a : k = g := a; omega), h4, h5, Nat.lt_of_lt_of_le h6 c0.size, ?_, ?_, ?_, ?_⟩
  · simp [World.cell?_setCell_other, World.cell?_setCell_same, h7]
  · simp [World.cell?_setCell_other, World.cell?_setCell_same, h8]
  · simp [h9]
  · simp [h10]
theorem pdoX_any (k : Int) (x : ByteArray) (K : Nat) (hk : dOk T y) (hK : K < 18446744073709551616) (h : PlX w v g T y Tx yx W) :
    Calls Try.prog 12 #[v, .agg #[.int .i64 k, .string x, .int .u64 (K : Int)]] W fun e w' => e = .returned (.int .i64 (dDo T y k x K).2.2) ∧ PlX w v g (dDo T y k x K).1 (dDo T y k x K).2.1 Tx yx w' := by
  obtain ⟨F, h1, h2, h3, h4, h5, h6, h7, h8, h9, h10⟩ := h
  refine (ddo_any k x K hk hK W h1).mono ?_
  rintro e w' ⟨F', rfl, HD, HS, HC⟩
  exact ⟨rfl, F', HD, HS.from h2 h3.size, HC.ext h3 h2, fun q => by rcases HS g q with p | p; exact h4 p; omega, h5, Nat.lt_of_lt_of_le h6 HC.size, (HC.cell h6 h4).trans h7, (HC.cell h6 h4).trans h8, (HC.frozen h6 h4).trans h9, (HC.frozen h6 h4).trans h10⟩
end
end Go.Proofs.Ythcnoeddilhpbaa
