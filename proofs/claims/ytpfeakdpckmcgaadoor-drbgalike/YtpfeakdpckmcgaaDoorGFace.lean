/-
  THE FACE: a generator behind a pointer, and what each call on it does.
-/
import Derived.Test.YtpfeakdpckmcgaaDoorDp
import Derived.Test.YtpfeakdpckmcgaaDoorDf
import Derived.Test.YtpfeakdpckmcgaaDoorMem
namespace Go.Proofs.YtpfeakdpckmcgaaDoor
open Go.RowKit
/-- The package's variables are as they were laid. -/
def Gl (w : World) : Prop := SGl w ∧ OGl w
theorem Gl.ext {w w' : World} (h : Gl w) (hx : Ext w w') : Gl w' := ⟨h.1.ext hx, h.2.ext hx⟩
/-- v points to a generator x, whose blocks are F. -/
def DAt (w : World) (v : Value) (x : Gs) (F : Nat → Prop) : Prop := ∃ b, v = .pointer (some ⟨b, 0, none⟩) ∧ KB w b x.1 x.2.1 ((x.2.2 : Nat) : Int) ∧ F = fun k => k = b
theorem DAt.lt {w : World} {v : Value} {x : Gs} {F : Nat → Prop} (h : DAt w v x F) : ∀ k, F k → k < w.heap.size := by
  obtain ⟨b, rfl, hb, rfl⟩ := h
  exact fun k hk => by have hk : k = b := hk; rw [hk]; exact hb.lt
theorem DAt.form {w : World} {v : Value} {x : Gs} {F : Nat → Prop} (h : DAt w v x F) : ∃ a, v = .pointer (some a) := by
  obtain ⟨b, rfl, _⟩ := h
  exact ⟨_, rfl⟩
theorem DAt.ext {w w' : World} {v : Value} {x : Gs} {F : Nat → Prop} (h : DAt w v x F) (hx : Ext w w') : DAt w' v x F := by
  obtain ⟨b, rfl, hb, hF⟩ := h
  exact ⟨b, rfl, hb.ext hx, hF⟩
theorem DAt.far {w w' : World} {v : Value} {x : Gs} {F G : Nat → Prop} (h : DAt w v x F) (hc : Chg G w w') (ha : Asunder F G) : DAt w' v x F := by
  obtain ⟨b, rfl, hb, rfl⟩ := h
  exact ⟨b, rfl, hb.far hc (fun q => ha b rfl q), rfl⟩
/-- A call has made x' of the generator, whose blocks were F. -/
def Stp (w : World) (v : Value) (x' : Gs) (F : Nat → Prop) (w' : World) : Prop := ∃ F', DAt w' v x' F' ∧ Sub F' F w ∧ Chg F w w'
/-- A slice of n elements whose cells lie in block blk. -/
def SlB (w : World) (v : Value) (n sz : Nat) (g : Nat → Value) (blk : Nat) : Prop :=
  ∃ (a : Option Addr) (cap : Nat), v = .slice a n cap ∧ (0 < n → ∃ o, a = some ⟨blk, o, none⟩ ∧ blk < w.heap.size ∧ ∀ k, k < n * sz → w.cell? ⟨blk, o + k, none⟩ = some (g k))
theorem SlB.lies {w : World} {v : Value} {n sz : Nat} {g : Nat → Value} {blk : Nat} (h : SlB w v n sz g blk) : Lies w v n sz g := by
  obtain ⟨a, cap, rfl, h⟩ := h
  refine ⟨a, cap, rfl, fun hn => ?_⟩
  obtain ⟨o, ha, hb, hc⟩ := h hn
  exact ⟨blk, o, ha, hb, hc⟩
theorem SlB.chg {w w' : World} {v : Value} {n sz : Nat} {g : Nat → Value} {blk : Nat} {F : Nat → Prop} (h : SlB w v n sz g blk) (hc : Chg F w w') (hn : ¬ F blk) : SlB w' v n sz g blk := by
  obtain ⟨a, cap, rfl, h⟩ := h
  refine ⟨a, cap, rfl, fun h0 => ?_⟩
  obtain ⟨o, ha, hb, hcs⟩ := h h0
  exact ⟨o, ha, Nat.lt_of_lt_of_le hb hc.size, fun k hk => (hc.cell hb hn).trans (hcs k hk)⟩
theorem SlB.ext {w w' : World} {v : Value} {n sz : Nat} {g : Nat → Value} {blk : Nat} (h : SlB w v n sz g blk) (hx : Ext w w') : SlB w' v n sz g blk := h.chg (Chg.of_ext (fun _ => False) hx) (fun q => q)
section
variable {w : World} {v : Value} {x : Gs} {F : Nat → Prop}
theorem dnew_any (s : ByteArray) (hs : s.size ≤ 1000) (w : World) (hG : Gl w) : Calls Tryd.prog 10 #[.string s] w fun e w' => ∃ v F, e = .returned v ∧ DAt w' v (gNew s) F ∧ From F w.heap.size ∧ Ext w w' := by
  refine (new_any s hs w hG.1).mono ?_
  rintro e w' ⟨b, rfl, hB, hb, hX⟩
  exact ⟨_, _, rfl, ⟨b, rfl, hB, rfl⟩, fun k hk => by have hk : k = b := hk; omega, hX⟩
theorem dbytes_bad (n : Int) (hn : n < 0 ∨ 4096 < n) (_hG : Gl w) (h : DAt w v x F) : Calls Tryd.prog 13 #[v, .int .i64 n] w fun e w' => e = .returned (.tuple #[.string ⟨#[]⟩, .int .i64 1]) ∧ Stp w v x F w' := by
  obtain ⟨b, rfl, hB, rfl⟩ := h
  refine (kbytes_bad n hn b w).mono ?_
  rintro e w' ⟨rfl, hX⟩
  exact ⟨rfl, _, ⟨b, rfl, hB.ext hX, rfl⟩, Sub.refl _ _, Chg.of_ext _ hX⟩
theorem dbytes_any (n : Nat) (hn : n ≤ 4096) (hx : GOk x 1000000) (hG : Gl w) (h : DAt w v x F) : Calls Tryd.prog 13 #[v, .int .i64 (n : Int)] w fun e w' => e = .returned (.tuple #[.string (gT n x), .int .i64 0]) ∧ Stp w v (gB n x) F w' := by
  obtain ⟨b, rfl, hB, rfl⟩ := h
  obtain ⟨K, V, A⟩ := x
  refine (kbytes_any K V A n b hx.1 hx.2.1 hn (Nat.le_trans hx.2.2 (by decide)) w hG.1 hB).mono ?_
  rintro e w' ⟨rfl, hB2, hC⟩
  exact ⟨rfl, _, ⟨b, rfl, hB2, rfl⟩, Sub.refl _ _, hC⟩
theorem dscalar_any (hx : GOk x 1000000) (hG : Gl w) (h : DAt w v x F) : Calls Tryd.prog 15 #[v] w fun e w' => e = .returned (nmV (gR x)) ∧ Stp w v (gS x) F w' := by
  obtain ⟨b, rfl, hB, rfl⟩ := h
  refine (kscalar_any x b (hx.mono (by decide)) w hG.1 hG.2 hB).mono ?_
  rintro e w' ⟨rfl, hB2, hC⟩
  exact ⟨rfl, _, ⟨b, rfl, hB2, rfl⟩, Sub.refl _ _, hC⟩
theorem dpoly_any (m : Int) (hx : GOk x 1000000) (hG : Gl w) (h : DAt w v x F) : Calls Tryd.prog 18 #[v, .int .i64 m] w fun e w' => ∃ u blk, e = .returned u ∧ SlB w' u (pcn m) 4 (nc (psW x)) blk ∧ w.heap.size ≤ blk ∧ Stp w v (gSs (pcn m) x) F w' := by
  obtain ⟨b, rfl, hB, rfl⟩ := h
  refine (kpoly_any x b m hx w hG.1 hG.2 hB).mono ?_
  rintro e w' ⟨g, rfl, hR, hg, hB2, hC⟩
  exact ⟨_, g, rfl, ⟨_, _, rfl, fun _ => ⟨0, rfl, hR.lt, fun k hk => by rw [Nat.zero_add, hR.cell hk]; unfold Wts; rw [if_pos hk]⟩⟩, hg, _, ⟨b, rfl, hB2, rfl⟩, Sub.refl _ _, hC⟩
theorem dreseed_any (s : ByteArray) (hs : s.size ≤ 1000) (hx : GOk x 1000000) (hG : Gl w) (h : DAt w v x F) : Calls Tryd.prog 20 #[v, .string s] w fun e w' => e = .returned (.tuple #[]) ∧ Stp w v (gU s x) F w' := by
  obtain ⟨b, rfl, hB, rfl⟩ := h
  obtain ⟨K, V, A⟩ := x
  refine (kreseed_any K V s A b hx.1 hx.2.1 hs w hG.1 hB).mono ?_
  rintro e w' ⟨rfl, hB2, hC⟩
  exact ⟨rfl, _, ⟨b, rfl, hB2, rfl⟩, Sub.refl _ _, hC⟩
theorem dasked_any (h : DAt w v x F) : Calls Tryd.prog 21 #[v] w fun e w' => e = .returned (.int .i64 ((x.2.2 : Nat) : Int)) ∧ Ext w w' := by
  obtain ⟨b, rfl, hB, _⟩ := h
  exact kasked_any x.1 x.2.1 _ b w hB
end
end Go.Proofs.YtpfeakdpckmcgaaDoor
