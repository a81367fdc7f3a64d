/-
  Words for all walks: what a call leaves ('Ext'), arrays' cells as functions, four words in a block. No function of the program is named here.
  Words for walks that write: rows of four words that may be written, kept over calls and other stores. No function of the program is named here.
  Two arrays of four words compared by '==': true just where the two numbers are one.
  A text of 32 bytes as four words: what a loop over the bytes comes to. No function of the program is named here.
  Numbers modulo q, the order: no Go in this text.
-/
import Derived.Test.YtpfeakdpckmcgaaDoorEx
import Derived.Test.YtpfeakdpckmcgaaDoorMaths
import Derived.WalkKit
import Derived.WalkSpells
import Derived.WalkLawsBesides
import Derived.Deep.RegionHeld3
import Derived.Deep.DeepCutAuto
namespace Go.Proofs.YtpfeakdpckmcgaaDoor
open Go.RowKit
/-- Word number i of four. -/
def wd (a0 a1 a2 a3 : Int) (i : Nat) : Int := if i = 0 then a0 else if i = 1 then a1 else if i = 2 then a2 else a3
theorem wd_get (a0 a1 a2 a3 : Int) (i : Nat) (h : i < 4) : [Value.int .u64 a0, .int .u64 a1, .int .u64 a2, .int .u64 a3][i]? = some (.int .u64 (wd a0 a1 a2 a3 i)) := by
  have : i = 0 ∨ i = 1 ∨ i = 2 ∨ i = 3 := by omega
  rcases this with rfl | rfl | rfl | rfl <;> rfl
theorem wd_lim {a0 a1 a2 a3 : Int} (h : Lim4 a0 a1 a2 a3) (i : Nat) : Lim (wd a0 a1 a2 a3 i) := by
  obtain ⟨h0, h1, h2, h3⟩ := h
  unfold wd
  split
  · exact h0
  · split
    · exact h1
    · split
      · exact h2
      · exact h3
/-- Four words as an array's cells. -/
def fa (W : Nat → Int) : Array Value := #[.int .u64 (W 0), .int .u64 (W 1), .int .u64 (W 2), .int .u64 (W 3)]
theorem fa_get (W : Nat → Int) (j : Nat) (h : j < 4) : (fa W)[j]? = some (.int .u64 (W j)) := by
  have : j = 0 ∨ j = 1 ∨ j = 2 ∨ j = 3 := by omega
  rcases this with rfl | rfl | rfl | rfl <;> rfl
theorem fa_set (W : Nat → Int) (j : Nat) (h : j < 4) (v : Int) : (fa W).setIfInBounds j (.int .u64 v) = fa (fun i => if i = j then v else W i) := by
  have : j = 0 ∨ j = 1 ∨ j = 2 ∨ j = 3 := by omega
  rcases this with rfl | rfl | rfl | rfl <;> simp [fa]
/-- Eight words as an array's cells. -/
def f8 (P : Nat → Int) : Array Value := #[.int .u64 (P 0), .int .u64 (P 1), .int .u64 (P 2), .int .u64 (P 3), .int .u64 (P 4), .int .u64 (P 5), .int .u64 (P 6), .int .u64 (P 7)]
theorem f8_get (P : Nat → Int) (j : Nat) (h : j < 8) : (f8 P)[j]? = some (.int .u64 (P j)) := by
  have : j = 0 ∨ j = 1 ∨ j = 2 ∨ j = 3 ∨ j = 4 ∨ j = 5 ∨ j = 6 ∨ j = 7 := by omega
  rcases this with rfl | rfl | rfl | rfl | rfl | rfl | rfl | rfl <;> rfl
theorem f8_set (P : Nat → Int) (j : Nat) (h : j < 8) (v : Int) : (f8 P).setIfInBounds j (.int .u64 v) = f8 (fun i => if i = j then v else P i) := by
  have : j = 0 ∨ j = 1 ∨ j = 2 ∨ j = 3 ∨ j = 4 ∨ j = 5 ∨ j = 6 ∨ j = 7 := by omega
  rcases this with rfl | rfl | rfl | rfl | rfl | rfl | rfl | rfl <;> simp [f8]
theorem lim_of (x : Int) (h : decide (0 ≤ x ∧ x < 18446744073709551616) = true) : Lim x := by
  unfold Lim
  exact of_decide_eq_true h
theorem row_new (w : World) (x0 x1 x2 x3 : Value) (t : TypeId) : (w.alloc (.cells #[x0, x1, x2, x3] t)).cell? ⟨w.heap.size, 0, none⟩ = some x0 ∧ (w.alloc (.cells #[x0, x1, x2, x3] t)).cell? ⟨w.heap.size, 1, none⟩ = some x1 ∧ (w.alloc (.cells #[x0, x1, x2, x3] t)).cell? ⟨w.heap.size, 2, none⟩ = some x2 ∧ (w.alloc (.cells #[x0, x1, x2, x3] t)).cell? ⟨w.heap.size, 3, none⟩ = some x3 := by
  refine ⟨?_, ?_, ?_, ?_⟩ <;> (rw [World.cell?_alloc_at _ _ _ _ rfl]; rfl)
/-- Four words in block b, from its first cell on. -/
def Row (w : World) (b : Nat) (x0 x1 x2 x3 : Int) : Prop := b < w.heap.size ∧ w.cell? ⟨b, 0, none⟩ = some (.int .u64 x0) ∧ w.cell? ⟨b, 1, none⟩ = some (.int .u64 x1) ∧ w.cell? ⟨b, 2, none⟩ = some (.int .u64 x2) ∧ w.cell? ⟨b, 3, none⟩ = some (.int .u64 x3)
theorem Row.new (w : World) (x0 x1 x2 x3 : Int) : Row (w.alloc (.cells #[.int .u64 x0, .int .u64 x1, .int .u64 x2, .int .u64 x3] 39)) w.heap.size x0 x1 x2 x3 :=
  ⟨by simp, row_new w _ _ _ _ 39⟩
theorem Row.ext {w w' : World} {b : Nat} {x0 x1 x2 x3 : Int} (h : Row w b x0 x1 x2 x3) (hx : Ext w w') : Row w' b x0 x1 x2 x3 :=
  ⟨Nat.lt_of_lt_of_le h.1 hx.size, later hx h.2.1, later hx h.2.2.1, later hx h.2.2.2.1, later hx h.2.2.2.2⟩
theorem Row.two (w : World) (x0 x1 x2 x3 y0 y1 y2 y3 : Int) :
    Row ((w.alloc (.cells #[.int .u64 x0, .int .u64 x1, .int .u64 x2, .int .u64 x3] 39)).alloc (.cells #[.int .u64 y0, .int .u64 y1, .int .u64 y2, .int .u64 y3] 39)) w.heap.size x0 x1 x2 x3 ∧
    Row ((w.alloc (.cells #[.int .u64 x0, .int .u64 x1, .int .u64 x2, .int .u64 x3] 39)).alloc (.cells #[.int .u64 y0, .int .u64 y1, .int .u64 y2, .int .u64 y3] 39)) (w.heap.size + 1) y0 y1 y2 y3 := by
  refine ⟨(Row.new w x0 x1 x2 x3).ext ((Ext.refl _).alloc _), ?_⟩
  have := Row.new (w.alloc (.cells #[.int .u64 x0, .int .u64 x1, .int .u64 x2, .int .u64 x3] 39)) y0 y1 y2 y3
  rwa [show (w.alloc (.cells #[.int .u64 x0, .int .u64 x1, .int .u64 x2, .int .u64 x3] 39)).heap.size = w.heap.size + 1 from by simp] at this
end Go.Proofs.YtpfeakdpckmcgaaDoor
namespace Go.Proofs.YtpfeakdpckmcgaaDoor
open Go.RowKit
theorem extAlloc {a w : World} {o : Obj} (h : Ext a w) : Ext a (w.alloc o) := h.alloc o
theorem extDrew {a w : World} (h : Ext a w) : Ext a w.drew := h.drew
theorem keep1 {W0 wx : World} {b : Nat} {x0 x1 x2 x3 : Int} (hb : Ext W0 wx) (h : Row W0 b x0 x1 x2 x3) : Ext W0 wx ∧ wx.cell? ⟨b, 0, none⟩ = some (.int .u64 x0) ∧ wx.cell? ⟨b, 1, none⟩ = some (.int .u64 x1) ∧ wx.cell? ⟨b, 2, none⟩ = some (.int .u64 x2) ∧ wx.cell? ⟨b, 3, none⟩ = some (.int .u64 x3) :=
  ⟨hb, later hb h.2.1, later hb h.2.2.1, later hb h.2.2.2.1, later hb h.2.2.2.2⟩
theorem keep2 {W0 wx : World} {b c : Nat} {x0 x1 x2 x3 y0 y1 y2 y3 : Int} (hb : Ext W0 wx) (h : Row W0 b x0 x1 x2 x3) (k : Row W0 c y0 y1 y2 y3) : Ext W0 wx ∧ wx.cell? ⟨b, 0, none⟩ = some (.int .u64 x0) ∧ wx.cell? ⟨b, 1, none⟩ = some (.int .u64 x1) ∧ wx.cell? ⟨b, 2, none⟩ = some (.int .u64 x2) ∧ wx.cell? ⟨b, 3, none⟩ = some (.int .u64 x3) ∧ wx.cell? ⟨c, 0, none⟩ = some (.int .u64 y0) ∧ wx.cell? ⟨c, 1, none⟩ = some (.int .u64 y1) ∧ wx.cell? ⟨c, 2, none⟩ = some (.int .u64 y2) ∧ wx.cell? ⟨c, 3, none⟩ = some (.int .u64 y3) :=
  ⟨hb, later hb h.2.1, later hb h.2.2.1, later hb h.2.2.2.1, later hb h.2.2.2.2, later hb k.2.1, later hb k.2.2.1, later hb k.2.2.2.1, later hb k.2.2.2.2⟩
/-- Four words in block b, which may be written. -/
def RowF (w : World) (b : Nat) (x0 x1 x2 x3 : Int) : Prop := Row w b x0 x1 x2 x3 ∧ w.frozen? ⟨b, 0, none⟩ = false ∧ w.frozen? ⟨b, 1, none⟩ = false ∧ w.frozen? ⟨b, 2, none⟩ = false ∧ w.frozen? ⟨b, 3, none⟩ = false
theorem RowF.new (w : World) (x0 x1 x2 x3 : Int) : RowF (w.alloc (.cells #[.int .u64 x0, .int .u64 x1, .int .u64 x2, .int .u64 x3] 39)) w.heap.size x0 x1 x2 x3 :=
  ⟨Row.new w x0 x1 x2 x3, World.frozen?_alloc_at _ _ _ _ rfl, World.frozen?_alloc_at _ _ _ _ rfl, World.frozen?_alloc_at _ _ _ _ rfl, World.frozen?_alloc_at _ _ _ _ rfl⟩
theorem RowF.ext {w w' : World} {b : Nat} {x0 x1 x2 x3 : Int} (h : RowF w b x0 x1 x2 x3) (hx : Ext w w') : RowF w' b x0 x1 x2 x3 :=
  ⟨h.1.ext hx, (hx.cells.2 b 0 h.1.1).trans h.2.1, (hx.cells.2 b 1 h.1.1).trans h.2.2.1, (hx.cells.2 b 2 h.1.1).trans h.2.2.2.1, (hx.cells.2 b 3 h.1.1).trans h.2.2.2.2⟩
theorem RowF.set {w : World} {b : Nat} {x0 x1 x2 x3 v0 v1 v2 v3 : Int} (h : RowF w b x0 x1 x2 x3) : RowF ((((w.setCell ⟨b, 0, none⟩ (.int .u64 v0)).setCell ⟨b, 1, none⟩ (.int .u64 v1)).setCell ⟨b, 2, none⟩ (.int .u64 v2)).setCell ⟨b, 3, none⟩ (.int .u64 v3)) b v0 v1 v2 v3 := by
  obtain ⟨⟨l, c0, c1, c2, c3⟩, f0, f1, f2, f3⟩ := h
  refine ⟨⟨by simpa using l, ?_, ?_, ?_, ?_⟩, ?_, ?_, ?_, ?_⟩ <;> go_simp
theorem RowF.other {w : World} {b c i : Nat} {x0 x1 x2 x3 : Int} {v : Value} (hne : c ≠ b) (h : RowF w c x0 x1 x2 x3) : RowF (w.setCell ⟨b, i, none⟩ v) c x0 x1 x2 x3 := by
  obtain ⟨⟨l, c0, c1, c2, c3⟩, f0, f1, f2, f3⟩ := h
  refine ⟨⟨by simpa using l, ?_, ?_, ?_, ?_⟩, ?_, ?_, ?_, ?_⟩ <;> go_simp
/-- The number in a cell. -/
def cv (w : World) (b i : Nat) : Int := match w.cell? ⟨b, i, none⟩ with
  | some (.int _ n) => n
  | _ => 0
theorem cv_row {w : World} {b : Nat} {x0 x1 x2 x3 : Int} (h : Row w b x0 x1 x2 x3) : val (cv w b 0) (cv w b 1) (cv w b 2) (cv w b 3) = val x0 x1 x2 x3 := by
  obtain ⟨_, c0, c1, c2, c3⟩ := h
  simp [cv, c0, c1, c2, c3]
theorem Row.other {w : World} {b c i : Nat} {x0 x1 x2 x3 : Int} {v : Value} (hne : c ≠ b) (h : Row w c x0 x1 x2 x3) : Row (w.setCell ⟨b, i, none⟩ v) c x0 x1 x2 x3 := by
  obtain ⟨l, c0, c1, c2, c3⟩ := h
  refine ⟨by simpa using l, ?_, ?_, ?_, ?_⟩ <;> (rw [World.cell?_setCell_far _ _ _ _ (fun q => hne q.symm)]; assumption)
end Go.Proofs.YtpfeakdpckmcgaaDoor
namespace Go.Proofs.YtpfeakdpckmcgaaDoor
open Go.RowKit
def eq4 (a0 a1 a2 a3 b0 b1 b2 b3 : Int) : Bool := a0 == b0 && (a1 == b1 && (a2 == b2 && a3 == b3))
theorem run_eq4 (a0 a1 a2 a3 b0 b1 b2 b3 : Int) (w : World) : (Op.equalIn 10000 39 (.agg #[.int .u64 a0, .int .u64 a1, .int .u64 a2, .int .u64 a3]) (.agg #[.int .u64 b0, .int .u64 b1, .int .u64 b2, .int .u64 b3])).run Tryd.prog w = .ok (eq4 a0 a1 a2 a3 b0 b1 b2 b3) w := by
  show (Op.equalIn (9998 + 1 + 1) 39 _ _).run Tryd.prog w = _
  rw [Op.equalIn]
  simp only [Sem.run_bind, run_underlying Tryd.underlying39, Result.andThen_ok]
  simp only [Std.Legacy.Range.forIn_eq_forIn_range', List.range', Std.Legacy.Range.size]
  simp [go_sem, run_equalIn_int, Tryd.underlying37]
  unfold eq4
  by_cases h0 : a0 = b0 <;> by_cases h1 : a1 = b1 <;> by_cases h2 : a2 = b2 <;> by_cases h3 : a3 = b3 <;> simp [h0, h1, h2, h3]
theorem eq4_iff {a0 a1 a2 a3 b0 b1 b2 b3 : Int} (ha : Lim4 a0 a1 a2 a3) (hb : Lim4 b0 b1 b2 b3) : (eq4 a0 a1 a2 a3 b0 b1 b2 b3 = true ↔ val a0 a1 a2 a3 = val b0 b1 b2 b3) := by
  constructor
  · intro h
    simp [eq4] at h
    obtain ⟨rfl, rfl, rfl, rfl⟩ := h
    rfl
  · intro h
    obtain ⟨rfl, rfl, rfl, rfl⟩ := val_inj ha hb h
    simp [eq4]
/-- -1, 0, 1, as the first is less than, is, is greater than the second. -/
def CmpP (a b n : Int) : Prop := (n = -1 ∧ a < b) ∨ (n = 0 ∧ a = b) ∨ (n = 1 ∧ b < a)
theorem cmp_of_sub {a0 a1 a2 a3 b0 b1 b2 b3 s0 s1 s2 s3 : Int} {c : Bool} (ha : Lim4 a0 a1 a2 a3) (hb : Lim4 b0 b1 b2 b3) (h : SubP a0 a1 a2 a3 b0 b1 b2 b3 s0 s1 s2 s3 c) : (c = true ↔ val a0 a1 a2 a3 < val b0 b1 b2 b3) := by
  obtain ⟨hs, he⟩ := h
  have h1 := val_bd ha
  have h2 := val_bd hb
  have h3 := val_bd hs
  cases c <;> simp at he ⊢ <;> omega
end Go.Proofs.YtpfeakdpckmcgaaDoor
namespace Go.Proofs.YtpfeakdpckmcgaaDoor
open Go.RowKit
/-- Byte number k of a text, as a number. -/
def bt (s : ByteArray) (k : Nat) : Int := ((s.data.getD k 0).toNat : Int)
theorem bt_get (s : ByteArray) (k : Nat) (h : k < s.size) : ((s[k]'h).toNat : Int) = bt s k := by
  have h' : k < s.data.size := h
  unfold bt
  rw [Array.getD_eq_getD_getElem?, Array.getElem?_eq_getElem h']
  rfl
theorem bt_bd (s : ByteArray) (k : Nat) : 0 ≤ bt s k ∧ bt s k < 256 := by
  unfold bt
  have := (s.data.getD k 0).toNat_lt
  omega
/-- One step of the loop: the word moved up by a byte, and the byte put in. -/
def orV (x b : Int) : Int := bits BinOp.or IntKind.u64 (IntKind.u64.wrap (x * 256)) (IntKind.u64.wrap b)
theorem orV_eq (x b : Int) (h0 : 0 ≤ x) (h1 : x < 72057594037927936) (g0 : 0 ≤ b) (g1 : b < 256) : orV x b = x * 256 + b := by
  unfold orV
  rw [IntKind.wrap_u64, IntKind.wrap_u64, show x * 256 % 18446744073709551616 = x * 256 from by omega, show b % 18446744073709551616 = b from by omega]
  refine bits_join .u64 64 (by decide) (fun n p q => by rw [IntKind.wrap_u64]; have : (2 : Int) ^ 64 = 18446744073709551616 := by decide
                                                        omega) 8 _ _ (by omega) ?_ ?_ g0 ?_ ?_
  · rw [show (2 : Int) ^ 8 = 256 from by decide]; omega
  · rw [show (2 : Int) ^ 64 = 18446744073709551616 from by decide]; omega
  · rw [show (2 : Int) ^ 8 = 256 from by decide]; omega
  · rw [show (2 : Int) ^ 64 = 18446744073709551616 from by decide]; omega
/-- The words behind k rounds. -/
def fwd (b : Nat → Int) : Nat → Nat → Int
  | 0, _ => 0
  | k + 1, i => if i = 3 - k / 8 then orV (fwd b k (3 - k / 8)) (b k) else fwd b k i
/-- Eight bytes as a word, the highest first. -/
def w8 (c0 c1 c2 c3 c4 c5 c6 c7 : Int) : Int := ((((((c0 * 256 + c1) * 256 + c2) * 256 + c3) * 256 + c4) * 256 + c5) * 256 + c6) * 256 + c7
def By (b : Int) : Prop := 0 ≤ b ∧ b < 256
theorem or8 (c0 c1 c2 c3 c4 c5 c6 c7 : Int) (h0 : By c0) (h1 : By c1) (h2 : By c2) (h3 : By c3) (h4 : By c4) (h5 : By c5) (h6 : By c6) (h7 : By c7) :
    orV (orV (orV (orV (orV (orV (orV (orV 0 c0) c1) c2) c3) c4) c5) c6) c7 = w8 c0 c1 c2 c3 c4 c5 c6 c7 := by
  unfold By at *
  rw [orV_eq 0 c0 (by omega) (by omega) (by omega) (by omega)]
  rw [orV_eq _ c1 (by omega) (by omega) (by omega) (by omega)]
  rw [orV_eq _ c2 (by omega) (by omega) (by omega) (by omega)]
  rw [orV_eq _ c3 (by omega) (by omega) (by omega) (by omega)]
  rw [orV_eq _ c4 (by omega) (by omega) (by omega) (by omega)]
  rw [orV_eq _ c5 (by omega) (by omega) (by omega) (by omega)]
  rw [orV_eq _ c6 (by omega) (by omega) (by omega) (by omega)]
  rw [orV_eq _ c7 (by omega) (by omega) (by omega) (by omega)]
  unfold w8
  omega
/-- Word number j of the number of a text. -/
def frW (b : Nat → Int) (j : Nat) : Int := w8 (b (8 * (3 - j))) (b (8 * (3 - j) + 1)) (b (8 * (3 - j) + 2)) (b (8 * (3 - j) + 3)) (b (8 * (3 - j) + 4)) (b (8 * (3 - j) + 5)) (b (8 * (3 - j) + 6)) (b (8 * (3 - j) + 7))
theorem frW_lim (b : Nat → Int) (h : ∀ k, By (b k)) (j : Nat) : Lim (frW b j) := by
  unfold frW w8 Lim
  have h0 := h (8 * (3 - j)); have h1 := h (8 * (3 - j) + 1); have h2 := h (8 * (3 - j) + 2); have h3 := h (8 * (3 - j) + 3)
  have h4 := h (8 * (3 - j) + 4); have h5 := h (8 * (3 - j) + 5); have h6 := h (8 * (3 - j) + 6); have h7 := h (8 * (3 - j) + 7)
  unfold By at *
  omega
theorem fwd_32 (b : Nat → Int) (h : ∀ k, By (b k)) : fwd b 32 0 = frW b 0 ∧ fwd b 32 1 = frW b 1 ∧ fwd b 32 2 = frW b 2 ∧ fwd b 32 3 = frW b 3 := by
  unfold frW
  refine ⟨?_, ?_, ?_, ?_⟩
  · simp [fwd]; exact or8 _ _ _ _ _ _ _ _ (h _) (h _) (h _) (h _) (h _) (h _) (h _) (h _)
  · simp [fwd]; exact or8 _ _ _ _ _ _ _ _ (h _) (h _) (h _) (h _) (h _) (h _) (h _) (h _)
  · simp [fwd]; exact or8 _ _ _ _ _ _ _ _ (h _) (h _) (h _) (h _) (h _) (h _) (h _) (h _)
  · simp [fwd]; exact or8 _ _ _ _ _ _ _ _ (h _) (h _) (h _) (h _) (h _) (h _) (h _) (h _)
attribute [local go_sem] setCell_drewN alloc_drewN
end Go.Proofs.YtpfeakdpckmcgaaDoor
namespace Go.Proofs.YtpfeakdpckmcgaaDoor
/-- The order. -/
def FQ : Int := 115792089210356248762697446949407573529996955224135760342422259061068512044369
theorem val_FQ : val 17562291160714782033 13611842547513532036 18446744073709551615 18446744069414584320 = FQ := by decide
theorem lim_FQ : Lim4 17562291160714782033 13611842547513532036 18446744073709551615 18446744069414584320 := by unfold Lim4 Lim; decide
theorem FQ_pos : (0 : Int) < FQ := by decide
/-- A number modulo q. -/
def QMod (x r0 r1 r2 r3 : Int) : Prop := Lim4 r0 r1 r2 r3 ∧ val r0 r1 r2 r3 = x % FQ
theorem QMod.less {x r0 r1 r2 r3 : Int} (h : QMod x r0 r1 r2 r3) : val r0 r1 r2 r3 < FQ := by
  rw [h.2]; exact Int.emod_lt_of_pos _ FQ_pos
theorem QMod.cong {x y r0 r1 r2 r3 : Int} (h : QMod x r0 r1 r2 r3) (e : x % FQ = y % FQ) : QMod y r0 r1 r2 r3 := ⟨h.1, h.2.trans e⟩
theorem QMod.one {x y a0 a1 a2 a3 b0 b1 b2 b3 : Int} (h : QMod x a0 a1 a2 a3) (k : QMod y b0 b1 b2 b3) (e : x % FQ = y % FQ) : a0 = b0 ∧ a1 = b1 ∧ a2 = b2 ∧ a3 = b3 :=
  val_inj h.1 k.1 (by rw [h.2, k.2, e])
theorem emodq_of {a b : Int} (c : Int) (h : a = b + FQ * c) : a % FQ = b % FQ := by rw [h, Int.add_mul_emod_self_left]
theorem qmod_less {x0 x1 x2 x3 : Int} (hx : Lim4 x0 x1 x2 x3) (h : val x0 x1 x2 x3 < FQ) : QMod (val x0 x1 x2 x3) x0 x1 x2 x3 :=
  ⟨hx, (Int.emod_eq_of_lt (val_bd hx).1 h).symm⟩
theorem modq_mul_mod (x y : Int) : (x % FQ * y) % FQ = (x * y) % FQ := by rw [Int.mul_emod, Int.emod_emod_of_dvd _ (Int.dvd_refl _), ← Int.mul_emod]
theorem mul_modq_mod (x y : Int) : (x * (y % FQ)) % FQ = (x * y) % FQ := by rw [Int.mul_emod, Int.emod_emod_of_dvd _ (Int.dvd_refl _), ← Int.mul_emod]
end Go.Proofs.YtpfeakdpckmcgaaDoor
