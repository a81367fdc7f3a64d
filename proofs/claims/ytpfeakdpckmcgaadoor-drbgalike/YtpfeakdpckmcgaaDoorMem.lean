/-
  Things behind pointers: what a call on one leaves. F: the blocks of the thing. No function of the program is named here.
-/
import Derived.Test.YtpfeakdpckmcgaaDoorEx
namespace Go.Proofs.YtpfeakdpckmcgaaDoor
open Go.RowKit
/-- Blocks of F may have turned; all else that was there is as it was. -/
structure Chg (F : Nat → Prop) (w w' : World) : Prop where
  os : w'.os = w.os
  tape : w'.tape = w.tape
  output : w'.output = w.output
  size : w.heap.size ≤ w'.heap.size
  block : ∀ k, k < w.heap.size → ¬ F k → w'.heap[k]? = w.heap[k]?
/-- F' lies in F, or is new since w. -/
def Sub (F' F : Nat → Prop) (w : World) : Prop := ∀ k, F' k → F k ∨ w.heap.size ≤ k
/-- F lies from n on. -/
def From (F : Nat → Prop) (n : Nat) : Prop := ∀ k, F k → n ≤ k
/-- F and G have nothing in common. -/
def Asunder (F G : Nat → Prop) : Prop := ∀ k, F k → G k → False
theorem Chg.refl (F : Nat → Prop) (w : World) : Chg F w w := ⟨rfl, rfl, rfl, Nat.le_refl _, fun _ _ _ => rfl⟩
theorem Chg.of_ext {w w' : World} (F : Nat → Prop) (h : Ext w w') : Chg F w w' := ⟨h.os, h.tape, h.output, h.size, fun k hk _ => Below.block h k hk⟩
theorem Chg.trans {F G : Nat → Prop} {a b c : World} (h : Chg F a b) (k : Chg G b c) (hs : Sub G F a) : Chg F a c :=
  ⟨k.os.trans h.os, k.tape.trans h.tape, k.output.trans h.output, Nat.le_trans h.size k.size, fun i hi hn =>
    (k.block i (Nat.lt_of_lt_of_le hi h.size) (fun hg => by rcases hs i hg with q | q; exact hn q; omega)).trans (h.block i hi hn)⟩
theorem Chg.ext {F : Nat → Prop} {a w w' : World} (h : Ext a w) (hf : From F a.heap.size) (hc : Chg F w w') : Ext a w' :=
  Below.trans h ⟨hc.os, hc.tape, hc.output, hc.size, fun k hk => hc.block k (Nat.lt_of_lt_of_le hk h.size) (fun q => by have := hf k q; omega)⟩
theorem Chg.thenExt {F : Nat → Prop} {a b c : World} (h : Chg F a b) (k : Ext b c) : Chg F a c := h.trans (Chg.of_ext F k) (fun _ q => .inl q)
theorem Chg.cell {F : Nat → Prop} {w w' : World} (h : Chg F w w') {b o : Nat} (hb : b < w.heap.size) (hn : ¬ F b) : w'.cell? ⟨b, o, none⟩ = w.cell? ⟨b, o, none⟩ := World.cell?_of_block (a := ⟨b, o, none⟩) (h.block b hb hn)
theorem Chg.frozen {F : Nat → Prop} {w w' : World} (h : Chg F w w') {b o : Nat} (hb : b < w.heap.size) (hn : ¬ F b) : w'.frozen? ⟨b, o, none⟩ = w.frozen? ⟨b, o, none⟩ := World.frozen?_of_block (a := ⟨b, o, none⟩) (h.block b hb hn)
theorem Sub.refl (F : Nat → Prop) (w : World) : Sub F F w := fun _ h => .inl h
theorem Sub.trans {F G H : Nat → Prop} {a b : World} (h : Sub G F a) (k : Sub H G b) (hs : a.heap.size ≤ b.heap.size) : Sub H F a := fun i hi => by
  rcases k i hi with q | q
  · exact h i q
  · exact .inr (Nat.le_trans hs q)
theorem Sub.from {F' F : Nat → Prop} {w : World} {n : Nat} (h : Sub F' F w) (hf : From F n) (hn : n ≤ w.heap.size) : From F' n := fun k hk => by
  rcases h k hk with q | q
  · exact hf k q
  · omega
theorem Sub.apart {F' F G : Nat → Prop} {w : World} (h : Sub F' F w) (ha : Asunder F G) (hg : ∀ k, G k → k < w.heap.size) : Asunder F' G := fun k h1 h2 => by
  rcases h k h1 with q | q
  · exact ha k q h2
  · have := hg k h2; omega
theorem Asunder.symm {F G : Nat → Prop} (h : Asunder F G) : Asunder G F := fun k a b => h k b a
theorem Asunder.new {F G : Nat → Prop} {w : World} (hf : ∀ k, F k → k < w.heap.size) (hg : From G w.heap.size) : Asunder F G := fun k a b => by have := hf k a; have := hg k b; omega
/-- A cell that is set in block b: blocks of F. -/
theorem Chg.st {F : Nat → Prop} {a w : World} {b i : Nat} {v : Value} (hb : F b ∨ a.heap.size ≤ b) (h : Chg F a w) : Chg F a (w.setCell ⟨b, i, none⟩ v) :=
  ⟨h.os, h.tape, h.output, by simpa using h.size, fun k hk hn => by
    rw [Below.heap_setCell w ⟨b, i, none⟩ v k (fun q => by rcases hb with p | p; exact hn (q ▸ p); have : k = b := q; omega)]
    exact h.block k hk hn⟩
theorem Chg.alloc {F : Nat → Prop} {a w : World} (h : Chg F a w) (o : Obj) : Chg F a (w.alloc o) := h.thenExt ((Ext.refl w).alloc o)
theorem Chg.drew {F : Nat → Prop} {a w : World} (h : Chg F a w) : Chg F a w.drew := ⟨h.os, h.tape, h.output, h.size, h.block⟩
theorem Chg.grown {F : Nat → Prop} {a w w' : World} {row : Option Nat} (h : Chg F a w) (hg : w.grownBy w' row) (hr : ∀ k, row = some k → F k ∨ a.heap.size ≤ k) : Chg F a w' :=
  ⟨hg.os.trans h.os, hg.tape.trans h.tape, hg.output.trans h.output, Nat.le_trans h.size hg.size, fun k hk hn => by
    rw [hg.block k (Nat.lt_of_lt_of_le hk h.size) (fun q => by rcases hr k q.symm with p | p; exact hn p; omega)]
    exact h.block k hk hn⟩
end Go.Proofs.YtpfeakdpckmcgaaDoor
