/-
  Generators that a law made itself: one, two, three, and one beside the document's in a block of the law's; what a call leaves of them.
-/
import Derived.Test.YtpfeakdpckmcgaaDoorGFace
namespace Go.Proofs.YtpfeakdpckmcgaaDoor
open Go.RowKit
/-- One, made since w; nothing of w has turned. -/
def PlD (w : World) (v : Value) (x : Gs) (wr : World) : Prop := ∃ F, DAt wr v x F ∧ From F w.heap.size ∧ Ext w wr
/-- Two, that share nothing. -/
def Pl2 (w : World) (va vb : Value) (xa xb : Gs) (wr : World) : Prop := ∃ F G, DAt wr va xa F ∧ DAt wr vb xb G ∧ Asunder F G ∧ From F w.heap.size ∧ From G w.heap.size ∧ Ext w wr
/-- Three. -/
def Pl3 (w : World) (va vb vc : Value) (xa xb xc : Gs) (wr : World) : Prop := ∃ F G H, DAt wr va xa F ∧ DAt wr vb xb G ∧ DAt wr vc xc H ∧ Asunder F G ∧ Asunder F H ∧ Asunder G H ∧ From F w.heap.size ∧ From G w.heap.size ∧ From H w.heap.size ∧ Ext w wr
/-- One beside a block of the law's: the document's. -/
def PlX (w : World) (v : Value) (g : Nat) (x y : Gs) (wr : World) : Prop := ∃ F, DAt wr v x F ∧ From F w.heap.size ∧ Ext w wr ∧ ¬ F g ∧ w.heap.size ≤ g ∧ GB3 wr g y.1 y.2.1 (y.2.2 : Nat)
section
variable {w W : World} {v va vb vc : Value} {x xa xb xc y : Gs} {g : Nat}
theorem PlD.ext {wy : World} (h : PlD w v x W) (hx : Ext W wy) : PlD w v x wy := by
  obtain ⟨F, h1, h2, h3⟩ := h
  exact ⟨F, h1.ext hx, h2, h3.trans hx⟩
theorem PlD.old (h : PlD w v x W) : Ext w W := by
  obtain ⟨F, h1, h2, h3⟩ := h
  exact h3
theorem PlD.step (h : PlD w v x W) : ∃ F, DAt W v x F ∧ From F w.heap.size ∧ (∀ k, F k → k < W.heap.size) ∧ ∀ x' w', Stp W v x' F w' → PlD w v x' w' := by
  obtain ⟨F, h1, h2, h3⟩ := h
  refine ⟨F, h1, h2, h1.lt, ?_⟩
  rintro x' w' ⟨F', HD, HS, HC⟩
  exact ⟨F', HD, HS.from h2 h3.size, HC.ext h3 h2⟩
theorem PlD.new (s : ByteArray) (hs : s.size ≤ 1000) (hG : Gl w) (h : Ext w W) : Calls Tryd.prog 10 #[.string s] W fun e w' => ∃ a, e = .returned (.pointer (some a)) ∧ PlD w (.pointer (some a)) (gNew s) w' := by
  refine (dnew_any s hs W (hG.ext h)).mono ?_
  rintro e w' ⟨v, F, rfl, HD, HF, HX⟩
  obtain ⟨a, rfl⟩ := HD.form
  exact ⟨a, rfl, F, HD, fun k hk => Nat.le_trans h.size (HF k hk), h.trans HX⟩
theorem Pl2.ext {wy : World} (h : Pl2 w va vb xa xb W) (hx : Ext W wy) : Pl2 w va vb xa xb wy := by
  obtain ⟨F, G, h1, h2, h3, h4, h5, h6⟩ := h
  exact ⟨F, G, h1.ext hx, h2.ext hx, h3, h4, h5, h6.trans hx⟩
theorem Pl2.old (h : Pl2 w va vb xa xb W) : Ext w W := by
  obtain ⟨F, G, h1, h2, h3, h4, h5, h6⟩ := h
  exact h6
theorem Pl2.swap (h : Pl2 w va vb xa xb W) : Pl2 w vb va xb xa W := by
  obtain ⟨F, G, h1, h2, h3, h4, h5, h6⟩ := h
  exact ⟨G, F, h2, h1, h3.symm, h5, h4, h6⟩
theorem Pl2.one (h : Pl2 w va vb xa xb W) : PlD w va xa W := by
  obtain ⟨F, G, h1, h2, h3, h4, h5, h6⟩ := h
  exact ⟨F, h1, h4, h6⟩
theorem Pl2.new (s : ByteArray) (hs : s.size ≤ 1000) (hG : Gl w) (h : PlD w va xa W) : Calls Tryd.prog 10 #[.string s] W fun e w' => ∃ a, e = .returned (.pointer (some a)) ∧ Pl2 w va (.pointer (some a)) xa (gNew s) w' := by
  obtain ⟨F, h1, h2, h3⟩ := h
  refine (dnew_any s hs W (hG.ext h3)).mono ?_
  rintro e w' ⟨v, G, rfl, HD, HF, HX⟩
  obtain ⟨a, rfl⟩ := HD.form
  exact ⟨a, rfl, F, G, h1.ext HX, HD, Asunder.new h1.lt HF, h2, fun k hk => Nat.le_trans h3.size (HF k hk), h3.trans HX⟩
theorem Pl2.stepA (h : Pl2 w va vb xa xb W) : ∃ F, DAt W va xa F ∧ (∀ k, F k → k < W.heap.size) ∧ ∀ x' w', Stp W va x' F w' → Pl2 w va vb x' xb w' := by
  obtain ⟨F, G, h1, h2, h3, h4, h5, h6⟩ := h
  refine ⟨F, h1, h1.lt, ?_⟩
  rintro x' w' ⟨F', HD, HS, HC⟩
  exact ⟨F', G, HD, h2.far HC h3.symm, HS.apart h3 h2.lt, HS.from h4 h6.size, h5, HC.ext h6 h4⟩
theorem Pl2.stepB (h : Pl2 w va vb xa xb W) : ∃ F, DAt W vb xb F ∧ (∀ k, F k → k < W.heap.size) ∧ ∀ x' w', Stp W vb x' F w' → Pl2 w va vb xa x' w' := by
  obtain ⟨F, h1, h2, h3⟩ := h.swap.stepA
  exact ⟨F, h1, h2, fun x' w' q => (h3 x' w' q).swap⟩
theorem Pl3.new (s : ByteArray) (hs : s.size ≤ 1000) (hG : Gl w) (h : Pl2 w va vb xa xb W) : Calls Tryd.prog 10 #[.string s] W fun e w' => ∃ a, e = .returned (.pointer (some a)) ∧ Pl3 w va vb (.pointer (some a)) xa xb (gNew s) w' := by
  obtain ⟨F, G, h1, h2, h3, h4, h5, h6⟩ := h
  refine (dnew_any s hs W (hG.ext h6)).mono ?_
  rintro e w' ⟨v, H, rfl, HD, HF, HX⟩
  obtain ⟨a, rfl⟩ := HD.form
  exact ⟨a, rfl, F, G, H, h1.ext HX, h2.ext HX, HD, h3, Asunder.new h1.lt HF, Asunder.new h2.lt HF, h4, h5, fun k hk => Nat.le_trans h6.size (HF k hk), h6.trans HX⟩
theorem Pl3.turn (h : Pl3 w va vb vc xa xb xc W) : Pl3 w vb vc va xb xc xa W := by
  obtain ⟨F, G, H, h1, h2, h3, h4, h5, h6, h7, h8, h9, h10⟩ := h
  exact ⟨G, H, F, h2, h3, h1, h6, h4.symm, h5.symm, h8, h9, h7, h10⟩
theorem Pl3.one (h : Pl3 w va vb vc xa xb xc W) : PlD w va xa W := by
  obtain ⟨F, G, H, h1, h2, h3, h4, h5, h6, h7, h8, h9, h10⟩ := h
  exact ⟨F, h1, h7, h10⟩
theorem Pl3.old (h : Pl3 w va vb vc xa xb xc W) : Ext w W := h.one.old
theorem Pl3.stepA (h : Pl3 w va vb vc xa xb xc W) : ∃ F, DAt W va xa F ∧ ∀ x' w', Stp W va x' F w' → Pl3 w va vb vc x' xb xc w' := by
  obtain ⟨F, G, H, h1, h2, h3, h4, h5, h6, h7, h8, h9, h10⟩ := h
  refine ⟨F, h1, ?_⟩
  rintro x' w' ⟨F', HD, HS, HC⟩
  exact ⟨F', G, H, HD, h2.far HC h4.symm, h3.far HC h5.symm, HS.apart h4 h2.lt, HS.apart h5 h3.lt, h6, HS.from h7 h10.size, h8, h9, HC.ext h10 h7⟩
theorem Pl3.stepB (h : Pl3 w va vb vc xa xb xc W) : ∃ F, DAt W vb xb F ∧ ∀ x' w', Stp W vb x' F w' → Pl3 w va vb vc xa x' xc w' := by
  obtain ⟨F, h1, h2⟩ := h.turn.stepA
  exact ⟨F, h1, fun x' w' q => (h2 x' w' q).turn.turn⟩
theorem Pl3.stepC (h : Pl3 w va vb vc xa xb xc W) : ∃ F, DAt W vc xc F ∧ ∀ x' w', Stp W vc x' F w' → Pl3 w va vb vc xa xb x' w' := by
  obtain ⟨F, h1, h2⟩ := h.turn.turn.stepA
  exact ⟨F, h1, fun x' w' q => (h2 x' w' q).turn⟩
theorem PlX.ext {wy : World} (h : PlX w v g x y W) (hx : Ext W wy) : PlX w v g x y wy := by
  obtain ⟨F, h1, h2, h3, h4, h5, h6⟩ := h
  exact ⟨F, h1.ext hx, h2, h3.trans hx, h4, h5, h6.ext hx⟩
theorem PlX.old (h : PlX w v g x y W) : Ext w W := by
  obtain ⟨F, h1, h2, h3, h4, h5, h6⟩ := h
  exact h3
theorem PlX.cells (h : PlX w v g x y W) : w.heap.size ≤ g ∧ GB3 W g y.1 y.2.1 (y.2.2 : Nat) := by
  obtain ⟨F, h1, h2, h3, h4, h5, h6⟩ := h
  exact ⟨h5, h6⟩
theorem PlX.new (h : PlD w v x W) (y : Gs) (t : TypeId) : PlX w v W.heap.size x y (W.alloc (.cells #[.string y.1, .string y.2.1, .int .i64 (y.2.2 : Nat)] t)) := by
  obtain ⟨F, h1, h2, h3⟩ := h
  exact ⟨F, h1.ext ((Ext.refl W).alloc _), h2, h3.alloc _, fun q => by have := h1.lt _ q; omega, h3.size, GB3.new W _ _ _ t⟩
theorem PlX.put (h : PlX w v g x y W) (z : Gs) : PlX w v g x z (((W.setCell ⟨g, 0, none⟩ (.string z.1)).setCell ⟨g, 1, none⟩ (.string z.2.1)).setCell ⟨g, 2, none⟩ (.int .i64 (z.2.2 : Nat))) := by
  obtain ⟨F, h1, h2, h3, h4, h5, h6⟩ := h
  have c0 : Chg (fun k => k = g) W (((W.setCell ⟨g, 0, none⟩ (.string z.1)).setCell ⟨g, 1, none⟩ (.string z.2.1)).setCell ⟨g, 2, none⟩ (.int .i64 (z.2.2 : Nat))) := Chg.st (F := fun k => k = g) (.inl rfl) (Chg.st (F := fun k => k = g) (.inl rfl) (Chg.st (F := fun k => k = g) (.inl rfl) (Chg.refl _ W)))
  exact ⟨F, h1.far c0 (fun k a b => by have b : k = g := b; subst b; exact h4 a), h2, c0.ext h3 (fun k a => by have a : k = g := a; omega), h4, h5, ((h6.setK _).setV _).setA _⟩
theorem PlX.step (h : PlX w v g x y W) : ∃ F, DAt W v x F ∧ (∀ k, F k → k < W.heap.size) ∧ ∀ x' w', Stp W v x' F w' → PlX w v g x' y w' := by
  obtain ⟨F, h1, h2, h3, h4, h5, h6⟩ := h
  refine ⟨F, h1, h1.lt, ?_⟩
  rintro x' w' ⟨F', HD, HS, HC⟩
  obtain ⟨h0, ⟨c0, c1, c2⟩, f0, f1, f2⟩ := h6
  refine ⟨F', HD, HS.from h2 h3.size, HC.ext h3 h2, fun q => ?_, h5, Nat.lt_of_lt_of_le h0 HC.size, ⟨(HC.cell h0 h4).trans c0, (HC.cell h0 h4).trans c1, (HC.cell h0 h4).trans c2⟩, (HC.frozen h0 h4).trans f0, (HC.frozen h0 h4).trans f1, (HC.frozen h0 h4).trans f2⟩
  rcases HS g q with p | p
  · exact h4 p
  · omega
end
end Go.Proofs.YtpfeakdpckmcgaaDoor
