/-
  A log that a law made itself, alone, beside a row of texts, and beside a variable of the law: what each call leaves of them.
-/
import Derived.Test.YtbkdjpialjbhnaaDeeds
import Derived.Test.YtbkdjpialjbhnaaRfW
namespace Go.Proofs.Ytbkdjpialjbhnaa
open Go.RowKit
/-- A log made since w, beside a row u of texts, if any; nothing of w has turned. -/
def PlU (w : World) (v : Value) (l : List ByteArray) (n : Nat) (u : Value) (L : List ByteArray) (wr : World) : Prop := ∃ F, WAt wr v l n F ∧ From F w.heap.size ∧ Ext w wr ∧ wr.ownsRow 0 9 1 u L.length (tcs L) ∧ ∀ b, u.ownBlock = some b → ¬ F b
section
variable {w W : World} {v u : Value} {l L : List ByteArray} {n : Nat}
theorem PlU.ext {wy : World} (h : PlU w v l n u L W) (hx : Ext W wy) : PlU w v l n u L wy := by
  obtain ⟨F, h1, h2, h3, h4, h5⟩ := h
  exact ⟨F, WAtT.ext h1 hx, h2, h3.trans hx, own_ext h4 hx, h5⟩
theorem PlU.old (h : PlU w v l n u L W) : Ext w W := by
  obtain ⟨F, h1, h2, h3, h4, h5⟩ := h
  exact h3
theorem PlU.row (h : PlU w v l n u L W) : W.ownsRow 0 9 1 u L.length (tcs L) := by
  obtain ⟨F, h1, h2, h3, h4, h5⟩ := h
  exact h4
theorem PlU.nil (h : PlU w v l n u L W) : PlU w v l n (.slice none 0 0) [] W := by
  obtain ⟨F, h1, h2, h3, h4, h5⟩ := h
  exact ⟨F, h1, h2, h3, World.ownsRow_nil _ _ _ _, fun b q => by cases q⟩
/-- The row that is set in its place. -/
theorem PlU.take {wy : World} {u2 : Value} {L2 : List ByteArray} {base : Nat} (h : PlU w v l n u L W) (hx : Ext W wy) (hu : wy.ownsRow base 9 1 u2 L2.length (tcs L2)) (hb : W.heap.size ≤ base) : PlU w v l n u2 L2 wy := by
  obtain ⟨F, h1, h2, h3, h4, h5⟩ := h
  exact ⟨F, WAtT.ext h1 hx, h2, h3.trans hx, own_base hu (Nat.zero_le _), fun b q p => by have := (hu.lt b q).1; have := WAtT.lt h1 b p; omega⟩
theorem unew_any (w W : World) (h : Ext w W) : Calls Try.prog 10 #[] W fun e w' => ∃ a, e = .returned (.pointer (some a)) ∧ PlU w (.pointer (some a)) [] 0 (.slice none 0 0) [] w' := by
  refine (wnew_any W).mono ?_
  rintro e w' ⟨v, F, rfl, HD, HF, HX⟩
  obtain ⟨a, rfl⟩ := WAtT.form HD
  exact ⟨a, rfl, F, HD, fun k hk => Nat.le_trans h.size (HF k hk), h.trans HX, World.ownsRow_nil _ _ _ _, fun b q => by cases q⟩
theorem WPo.toU {w' : World} {F : Nat → Prop} {l2 : List ByteArray} {n2 : Nat} (hp : WPo W v F (lg l2) (wy l2 n2) w') (h2 : From F w.heap.size) (h3 : Ext w W) (h4 : W.ownsRow 0 9 1 u L.length (tcs L)) (h5 : ∀ b, u.ownBlock = some b → ¬ F b) : PlU w v l2 n2 u L w' := by
  obtain ⟨F', a1, a2, a3⟩ := hp
  exact ⟨F', a1, a2.from h2 h3.size, a3.ext h3 h2, own_keep h4 (fun k q => a3.block k (h4.lt k q).2 (h5 k q)), fun b q p => by
    rcases a2 b p with r | r
    · exact h5 b q r
    · have := (h4.lt b q).2; omega⟩
theorem usync_any (hk : wOk l n) (h : PlU w v l n u L W) : Calls Try.prog 11 #[v] W fun e w' => e = .returned (.tuple #[]) ∧ PlU w v l l.length u L w' := by
  obtain ⟨F, h1, h2, h3, h4, h5⟩ := h
  refine (wsync_any hk.disk W h1).mono ?_
  rintro e w' ⟨rfl, hp⟩
  rw [← wy_all] at hp
  exact ⟨rfl, WPo.toU hp h2 h3 h4 h5⟩
theorem ucrash_any (K : Nat) (hk : wOk l n) (hK : K < 18446744073709551616) (h : PlU w v l n u L W) : Calls Try.prog 13 #[v, .int .u64 (K : Int)] W fun e w' => e = .returned (.tuple #[]) ∧ PlU w v (wCr l n K) (wCr l n K).length u L w' := by
  obtain ⟨F, h1, h2, h3, h4, h5⟩ := h
  refine (wcrash_any K hk hK W h1).mono ?_
  rintro e w' ⟨rfl, hp⟩
  exact ⟨rfl, WPo.toU hp h2 h3 h4 h5⟩
theorem uappend_any (s : ByteArray) (hk : wOk l n) (h : PlU w v l n u L W) : Calls Try.prog 16 #[v, .string s] W fun e w' => e = .returned (.int .i64 (wApp l s).2) ∧ PlU w v (wApp l s).1 n u L w' := by
  obtain ⟨F, h1, h2, h3, h4, h5⟩ := h
  refine (wappend_any s hk W h1).mono ?_
  rintro e w' ⟨rfl, hp⟩
  exact ⟨rfl, WPo.toU hp h2 h3 h4 h5⟩
theorem uall_any (hk : wOk l n) (h : PlU w v l n u L W) : Calls Try.prog 18 #[v] W fun e w' => ∃ a c, e = .returned (.slice a l.length c) ∧ w'.ownsRow W.heap.size 9 1 (.slice a l.length c) l.length (tcs l) ∧ Ext W w' := by
  obtain ⟨F, h1, h2, h3, h4, h5⟩ := h
  refine (wall_any hk W h1).mono ?_
  rintro e w' ⟨u2, rfl, q1, HX⟩
  obtain ⟨a, c, rfl⟩ := liesT_len (own_lies q1)
  exact ⟨a, c, rfl, q1, HX⟩
theorem usure_any (hk : wOk l n) (h : PlU w v l n u L W) : Calls Try.prog 19 #[v] W fun e w' => e = .returned (.int .i64 (n : Int)) ∧ Ext W w' := by
  obtain ⟨F, h1, h2, h3, h4, h5⟩ := h
  exact wsure_any hk W h1
end
/-- A log made since w, beside a variable of the law's in block g: a log of the definition, its records the row u. -/
def PlV (w : World) (v : Value) (g : Nat) (l : List ByteArray) (n : Nat) (u : Value) (lx : List ByteArray) (nx : Nat) (wr : World) : Prop := ∃ F, WAt wr v l n F ∧ From F w.heap.size ∧ Ext w wr ∧ ¬ F g ∧ w.heap.size ≤ g ∧ Blk4 wr g (.string (lg lx)) (.int .i64 (wy lx nx : Int)) u (.int .i64 (nx : Int)) ∧ wr.ownsRow 0 9 1 u lx.length (tcs lx) ∧ ∀ b, u.ownBlock = some b → ¬ F b ∧ b ≠ g
section
variable {w W : World} {v u : Value} {l lx : List ByteArray} {n nx g : Nat}
theorem PlV.ext {wy : World} (h : PlV w v g l n u lx nx W) (hx : Ext W wy) : PlV w v g l n u lx nx wy := by
  obtain ⟨F, h1, h2, h3, h4, h5, h6, h7, h8⟩ := h
  exact ⟨F, WAtT.ext h1 hx, h2, h3.trans hx, h4, h5, h6.ext hx, own_ext h7 hx, h8⟩
theorem PlV.old (h : PlV w v g l n u lx nx W) : Ext w W := by
  obtain ⟨F, h1, h2, h3, h4⟩ := h
  exact h3
theorem PlV.one (h : PlV w v g l n u lx nx W) : PlU w v l n u lx W := by
  obtain ⟨F, h1, h2, h3, h4, h5, h6, h7, h8⟩ := h
  exact ⟨F, h1, h2, h3, h7, fun b q => (h8 b q).1⟩
theorem PlV.blk (h : PlV w v g l n u lx nx W) : Blk4 W g (.string (lg lx)) (.int .i64 (wy lx nx : Int)) u (.int .i64 (nx : Int)) := by
  obtain ⟨F, h1, h2, h3, h4, h5, h6, h7, h8⟩ := h
  exact h6
theorem PlV.row (h : PlV w v g l n u lx nx W) : W.ownsRow 0 9 1 u lx.length (tcs lx) := by
  obtain ⟨F, h1, h2, h3, h4, h5, h6, h7, h8⟩ := h
  exact h7
theorem PlV.new (h : PlU w v l n u lx W) (t : TypeId) {a b d : Value} (ha : a = .string (lg lx)) (hb : b = .int .i64 (wy lx nx : Int)) (hd : d = .int .i64 (nx : Int)) : PlV w v W.heap.size l n u lx nx (W.alloc (.cells #[a, b, u, d] t)) := by
  subst ha hb hd
  obtain ⟨F, h1, h2, h3, h4, h5⟩ := h
  exact ⟨F, WAtT.ext h1 ((Ext.refl W).alloc _), h2, h3.alloc _, fun q => by have := WAtT.lt h1 _ q; omega, h3.size, Blk4.new W t _ _ _ _, h4.alloc _, fun b q => ⟨h5 b q, by have := (h4.lt b q).2; omega⟩⟩
theorem PlV.put {wy : World} {lz : List ByteArray} {nz : Nat} {u2 : Value} (h : PlV w v g l n u lx nx W) (hx : Ext W wy) (hu : wy.ownsRow 0 9 1 u2 lz.length (tcs lz)) (hb : ∀ b, u2.ownBlock = some b → u.ownBlock = some b ∨ W.heap.size ≤ b) {a b d : Value} (ha : a = .string (lg lz)) (hb' : b = .int .i64 (Go.Proofs.Ytbkdjpialjbhnaa.wy lz nz : Int)) (hd : d = .int .i64 (nz : Int)) :
    PlV w v g l n u2 lz nz ((((wy.setCell ⟨g, 0, none⟩ a).setCell ⟨g, 1, none⟩ b).setCell ⟨g, 2, none⟩ u2).setCell ⟨g, 3, none⟩ d) := by
  subst ha hb' hd
  obtain ⟨F, h1, h2, h3, h4, h5, h6, h7, h8⟩ := h
  have c0 : Chg (fun k => k = g) wy ((((wy.setCell ⟨g, 0, none⟩ (.string (lg lz))).setCell ⟨g, 1, none⟩ (.int .i64 (Go.Proofs.Ytbkdjpialjbhnaa.wy lz nz : Int))).setCell ⟨g, 2, none⟩ u2).setCell ⟨g, 3, none⟩ (.int .i64 (nz : Int))) := Chg.st (F := fun k => k = g) (.inl rfl) (Chg.st (F := fun k => k = g) (.inl rfl) (Chg.st (F := fun k => k = g) (.inl rfl) (Chg.st (F := fun k => k = g) (.inl rfl) (Chg.refl _ wy))))
  have hf : ∀ b, u2.ownBlock = some b → ¬ F b ∧ b ≠ g := fun b q => by
    rcases hb b q with r | r
    · exact h8 b r
    · exact ⟨fun p => by have := WAtT.lt h1 b p; omega, by have := h6.1; omega⟩
  refine ⟨F, WAtT.far (WAtT.ext h1 hx) c0 (fun k a b => by have b : k = g := b; subst b; exact h4 a), h2, c0.ext (h3.trans hx) (fun k a => by have a : k = g := a; omega), h4, h5, (h6.ext hx).put _ _ _ _, ?_, hf⟩
  have hne : u2.ownBlock ≠ some g := fun q => (hf g q).2 rfl
  exact own_setCell (own_setCell (own_setCell (own_setCell hu hne) hne) hne) hne
theorem WPo.toV {w' : World} {F : Nat → Prop} {l2 : List ByteArray} {n2 : Nat} (hp : WPo W v F (lg l2) (wy l2 n2) w') (h2 : From F w.heap.size) (h3 : Ext w W) (h4 : ¬ F g) (h5 : w.heap.size ≤ g) (h6 : Blk4 W g (.string (lg lx)) (.int .i64 (wy lx nx : Int)) u (.int .i64 (nx : Int))) (h7 : W.ownsRow 0 9 1 u lx.length (tcs lx)) (h8 : ∀ b, u.ownBlock = some b → ¬ F b ∧ b ≠ g) : PlV w v g l2 n2 u lx nx w' := by
  obtain ⟨F', a1, a2, a3⟩ := hp
  exact ⟨F', a1, a2.from h2 h3.size, a3.ext h3 h2, fun p => by
    rcases a2 g p with r | r
    · exact h4 r
    · have := h6.1; omega, h5, h6.keep a3.size (a3.block g h6.1 h4), own_keep h7 (fun k q => a3.block k (h7.lt k q).2 (h8 k q).1), fun b q => ⟨fun p => by
      rcases a2 b p with r | r
      · exact (h8 b q).1 r
      · have := (h7.lt b q).2; omega, (h8 b q).2⟩⟩
theorem vsync_any (hk : wOk l n) (h : PlV w v g l n u lx nx W) : Calls Try.prog 11 #[v] W fun e w' => e = .returned (.tuple #[]) ∧ PlV w v g l l.length u lx nx w' := by
  obtain ⟨F, h1, h2, h3, h4, h5, h6, h7, h8⟩ := h
  refine (wsync_any hk.disk W h1).mono ?_
  rintro e w' ⟨rfl, hp⟩
  rw [← wy_all] at hp
  exact ⟨rfl, WPo.toV hp h2 h3 h4 h5 h6 h7 h8⟩
theorem vcrash_any (K : Nat) (hk : wOk l n) (hK : K < 18446744073709551616) (h : PlV w v g l n u lx nx W) : Calls Try.prog 13 #[v, .int .u64 (K : Int)] W fun e w' => e = .returned (.tuple #[]) ∧ PlV w v g (wCr l n K) (wCr l n K).length u lx nx w' := by
  obtain ⟨F, h1, h2, h3, h4, h5, h6, h7, h8⟩ := h
  refine (wcrash_any K hk hK W h1).mono ?_
  rintro e w' ⟨rfl, hp⟩
  exact ⟨rfl, WPo.toV hp h2 h3 h4 h5 h6 h7 h8⟩
theorem vappend_any (s : ByteArray) (hk : wOk l n) (h : PlV w v g l n u lx nx W) : Calls Try.prog 16 #[v, .string s] W fun e w' => e = .returned (.int .i64 (wApp l s).2) ∧ PlV w v g (wApp l s).1 n u lx nx w' := by
  obtain ⟨F, h1, h2, h3, h4, h5, h6, h7, h8⟩ := h
  refine (wappend_any s hk W h1).mono ?_
  rintro e w' ⟨rfl, hp⟩
  exact ⟨rfl, WPo.toV hp h2 h3 h4 h5 h6 h7 h8⟩
end
/-- A slice that is cut: its first texts. -/
theorem own_cutT {w : World} {base : Nat} {a : Option Addr} {c : Nat} {l : List ByteArray} (h : w.ownsRow base 9 1 (.slice a l.length c) l.length (tcs l)) {j : Nat} (hj : j ≤ l.length) (c2 : Nat) : LiesT w (.slice a j c2) j (fun k => l.getD k ⟨#[]⟩) := by
  obtain ⟨a', c', e, q⟩ := own_lies h
  injection e with e1 e2 e3
  subst e1
  refine ⟨a, c2, rfl, fun hn => ?_⟩
  obtain ⟨b, o, ha, hb, hc⟩ := q (by omega)
  exact ⟨b, o, ha, hb, fun k hk => hc k (by omega)⟩
theorem own_cap {w : World} {base : Nat} {a : Option Addr} {c m : Nat} {xs : List Value} (h : w.ownsRow base 9 1 (.slice a m c) m xs) : m ≤ c := by
  rcases h.2 with ⟨q, rfl⟩ | ⟨g, cap, cur, q, _, _, hn, _⟩
  · exact Nat.zero_le _
  · injection q with q1 q2 q3
    omega
end Go.Proofs.Ytbkdjpialjbhnaa
