/-
  How what comes in is read: a slice of texts, a command, a word.
-/
import Derived.Test.YthdmecoeghnifaaWLaws
import Derived.Test.YthdmecoeghnifaaRows
import Derived.WalkKit
import Derived.ProofKit
import Derived.OpenShut
import Derived.ShutString
import Derived.ChangeOld
import Derived.ChangeSame
import Derived.ChangeArms
import Derived.Below
import Derived.Deep.Slices
import Derived.DataReads
namespace Go.Proofs.Ythdmecoeghnifaa
open Go.ChangeShapes Go.WideShapes Go.ChangeAt Go.RowKit
theorem Try.own : ownKnob Try.prog.godebug = none := by kernel_rfl
theorem Try.laidOut : laidOutB Try.prog = true := by kernel_rfl
theorem Try.cells3o : Try.prog.cellsOf 3 = 1 := by kernel_rfl
theorem Try.cells9o : Try.prog.cellsOf 9 = 1 := by kernel_rfl
theorem Try.cells36o : Try.prog.cellsOf 36 = 4 := by kernel_rfl
theorem Try.cells47o : Try.prog.cellsOf 47 = 5 := by kernel_rfl
theorem slice_form {P : Program} {W : World} {base : Nat} {t e : TypeId} (ht : P.underlying t = some (.slice e)) {v u : Value} (hv : Value.okWide P W .any base t v) (hc : v.cells.toList = [u]) : v = u := by
  cases v <;> first | (simp [Value.cells] at hc; exact hc) | (simp [Value.okWide, Cell.okWide, Cell.ok, ht] at hv; done)
/-- A slice that comes in: its cells, element by element. -/
theorem open_sl {H : Type} {enc : TypeId × Value → H} {P : Program} {W : World} {base : Nat} {t e : TypeId} (ht : P.underlying t = some (.slice e)) {v : Value} {d : DataW H} {p : List MemPlace} (hv : Value.okWide P W .any base t v)
    (h : DataW.Trod enc P W 0 (fun _ => true) true t v d p) : ∃ (a : Option Addr) (n cap : Nat), v = .slice a n cap ∧ n ≤ maxLen ∧ (n = 0 ∨ ∃ (a' : Addr) (m : Nat) (D : Nat → DataW H) (Pl : Nat → List MemPlace), a = some a' ∧ ∀ i, i < n → ∃ cs', W.cells? 0 (a'.add (i * P.cellsOf e)) (P.cellsOf e) = some cs' ∧ DataW.trod enc P W 0 (fun _ => true) true m e cs' = some (D i, Pl i)) := by
  obtain ⟨fuel, hf⟩ := h
  rcases Go.Deep.open_slice ht hf with ⟨h1, _⟩ | ⟨a', len, cap, m, k, D, Pl, h1, _, hlc, hcm, hm, _, hel⟩
  · exact ⟨none, 0, 0, slice_form ht hv h1, Nat.zero_le _, .inl rfl⟩
  · refine ⟨some a', len, cap, slice_form ht hv h1, Nat.le_trans hlc hcm, .inr ⟨a', k, D, Pl, rfl, fun i hi => hel i (by rw [hm]; simp; omega)⟩⟩
theorem cell_nospot {W : World} {a : Addr} {v : Value} (h : W.cell? a = some v) : a.spot = none := by
  unfold World.cell? at h
  split at h
  · split at h
    · cases h
    · rename_i h2
      cases hs : a.spot with
      | none => rfl
      | some _ => rw [hs] at h2; simp at h2
  · cases h
theorem addr_add {a : Addr} (h : a.spot = none) (k : Nat) : a.add k = ⟨a.block, a.off + k, none⟩ := by
  unfold Addr.add
  by_cases e : k = 0
  · subst e; rw [if_pos rfl]; cases a; cases h; rfl
  · rw [if_neg e]
theorem lies_of {W : World} {a : Addr} {n cap sz : Nat} (hsz : 0 < sz) {G : Nat → Nat → Value} (h : ∀ i, i < n → ∀ j, j < sz → W.cell? ((a.add (i * sz)).add j) = some (G i j)) : Lies W (.slice (some a) n cap) n sz (fun k => G (k / sz) (k % sz)) := by
  refine ⟨_, _, rfl, fun hn => ?_⟩
  have h0 := h 0 hn 0 hsz
  rw [Nat.zero_mul] at h0
  have e0 : (a.add 0).add 0 = a := by unfold Addr.add; simp
  rw [e0] at h0
  have hs := cell_nospot h0
  refine ⟨a.block, a.off, by cases a; cases hs; rfl, World.block_lt_of_cell? W a h0, fun k hk => ?_⟩
  have hq : k / sz < n := Nat.div_lt_of_lt_mul (by rw [Nat.mul_comm]; exact hk)
  have := h (k / sz) hq (k % sz) (Nat.mod_lt _ hsz)
  rw [addr_add hs, addr_add rfl] at this
  rw [← this]
  congr 2
  show a.off + k = a.off + k / sz * sz + k % sz
  have := Nat.div_add_mod' k sz
  omega
theorem array4 {α : Type} {cs : Array α} (h : cs.size = 4) : ∃ c0 c1 c2 c3, cs = #[c0, c1, c2, c3] := by
  obtain ⟨l⟩ := cs
  match l, h with
  | [c0, c1, c2, c3], _ => exact ⟨c0, c1, c2, c3, rfl⟩
theorem array5 {α : Type} {cs : Array α} (h : cs.size = 5) : ∃ c0 c1 c2 c3 c4, cs = #[c0, c1, c2, c3, c4] := by
  obtain ⟨l⟩ := cs
  match l, h with
  | [c0, c1, c2, c3, c4], _ => exact ⟨c0, c1, c2, c3, c4, rfl⟩
section
variable {H : Type} {enc : TypeId × Value → H} {P : Program} {w : World} {base : Nat} {spare : Nat → Bool} {held : Bool}
theorem trod_four {t : TypeId} {f0 f1 f2 f3 : Field} {fuel : Nat} {cs : List Value} {x : DataW H × List MemPlace} (ht : P.underlying t = some (.struct #[f0, f1, f2, f3])) (h : DataW.trod enc P w base spare held fuel t cs = some x) :
    ∃ y0 y1 y2 y3 n, DataW.trod enc P w base spare held n f0.type ((cs.drop f0.offset).take (P.cellsOf f0.type)) = some y0 ∧ DataW.trod enc P w base spare held n f1.type ((cs.drop f1.offset).take (P.cellsOf f1.type)) = some y1 ∧
      DataW.trod enc P w base spare held n f2.type ((cs.drop f2.offset).take (P.cellsOf f2.type)) = some y2 ∧ DataW.trod enc P w base spare held n f3.type ((cs.drop f3.offset).take (P.cellsOf f3.type)) = some y3 := by
  obtain ⟨xs, n, _, rfl, hl, hlen, hf⟩ := DataW.trod_struct ht h
  match xs, hlen with
  | [y0, y1, y2, y3], _ => exact ⟨y0, y1, y2, y3, n, by simpa using hf 0 f0 rfl, by simpa using hf 1 f1 rfl, by simpa using hf 2 f2 rfl, by simpa using hf 3 f3 rfl⟩
theorem trod_five {t : TypeId} {f0 f1 f2 f3 f4 : Field} {fuel : Nat} {cs : List Value} {x : DataW H × List MemPlace} (ht : P.underlying t = some (.struct #[f0, f1, f2, f3, f4])) (h : DataW.trod enc P w base spare held fuel t cs = some x) :
    ∃ y0 y1 y2 y3 y4 n, DataW.trod enc P w base spare held n f0.type ((cs.drop f0.offset).take (P.cellsOf f0.type)) = some y0 ∧ DataW.trod enc P w base spare held n f1.type ((cs.drop f1.offset).take (P.cellsOf f1.type)) = some y1 ∧
      DataW.trod enc P w base spare held n f2.type ((cs.drop f2.offset).take (P.cellsOf f2.type)) = some y2 ∧ DataW.trod enc P w base spare held n f3.type ((cs.drop f3.offset).take (P.cellsOf f3.type)) = some y3 ∧
      DataW.trod enc P w base spare held n f4.type ((cs.drop f4.offset).take (P.cellsOf f4.type)) = some y4 := by
  obtain ⟨xs, n, _, rfl, hl, hlen, hf⟩ := DataW.trod_struct ht h
  match xs, hlen with
  | [y0, y1, y2, y3, y4], _ => exact ⟨y0, y1, y2, y3, y4, n, by simpa using hf 0 f0 rfl, by simpa using hf 1 f1 rfl, by simpa using hf 2 f2 rfl, by simpa using hf 3 f3 rfl, by simpa using hf 4 f4 rfl⟩
end
set_option maxRecDepth 10000 in
/-- A slice of texts. -/
theorem open_txts {H : Type} {enc : TypeId × Value → H} {W : World} {base : Nat} {v : Value} {d : DataW H} {p : List MemPlace} (hv : Value.okWide Try.prog W .any base 22 v)
    (h : DataW.Trod enc Try.prog W 0 (fun _ => true) true 22 v d p) : ∃ (n : Nat) (L : Nat → ByteArray), n ≤ maxLen ∧ LiesT W v n L := by
  obtain ⟨a, n, cap, rfl, hn, h0 | ⟨a', m, D, Pl, rfl, hel⟩⟩ := open_sl Try.underlying22 hv h
  · subst h0
    exact ⟨0, fun _ => ⟨#[]⟩, Nat.zero_le _, ⟨_, _, rfl, fun hh => absurd hh (Nat.lt_irrefl 0)⟩⟩
  · have key : ∀ i, i < n → ∃ x : ByteArray, W.cell? ((a'.add (i * 1)).add 0) = some (.string x) := by
      intro i hi
      obtain ⟨cs, hcs, htr⟩ := hel i hi
      rw [Try.cells9o] at hcs
      obtain ⟨_, hl, hc⟩ := World.cells?_some hcs
      match cs, hl with
      | [c0], _ =>
        obtain ⟨x0, e0, _, _⟩ := DataW.trod_string Try.underlying9 htr
        simp at e0
        subst e0
        exact ⟨x0, hc 0 (by omega)⟩
    obtain ⟨x, hx⟩ := Go.Deep.choose_lt key
    refine ⟨n, x, hn, ?_⟩
    have := lies_of (W := W) (a := a') (n := n) (cap := cap) (sz := 1) (by omega) (G := fun i _ => .string (x i)) fun i hi j hj => by
      obtain rfl : j = 0 := by omega
      exact hx i hi
    refine this.congr fun k _ => ?_
    rw [Nat.div_one]
set_option maxRecDepth 10000 in
/-- A command. -/
theorem open_cmd {H : Type} {enc : TypeId × Value → H} {W : World} {base : Nat} {v : Value} {d : DataW H} {p : List MemPlace} (hv : Value.okWide Try.prog W .any base 36 v)
    (h : DataW.Trod enc Try.prog W 0 (fun _ => true) true 36 v d p) : ∃ (k e : Int) (x y : ByteArray), v = .agg #[.int .i64 k, .int .i64 e, .string x, .string y] ∧ x.size ≤ maxLen ∧ y.size ≤ maxLen := by
  obtain ⟨cs, rfl, hsz, _⟩ : ∃ cs, v = .agg cs ∧ cs.size = Try.prog.cellsOf 36 ∧ Row.okWide Try.prog W .any base 36 cs := by
    simpa [Value.okWide, Try.underlying36] using hv
  rw [Try.cells36o] at hsz
  obtain ⟨c0, c1, c2, c3, rfl⟩ := array4 hsz
  obtain ⟨fuel, hf⟩ := h
  obtain ⟨y0, y1, y2, y3, m, t0, t1, t2, t3⟩ := trod_four Try.underlying36 hf
  obtain ⟨x0, e0, _, _⟩ := DataW.trod_int Try.underlying3 t0
  obtain ⟨x1, e1, _, _⟩ := DataW.trod_int Try.underlying3 t1
  obtain ⟨x2, e2, _, s2⟩ := DataW.trod_string Try.underlying9 t2
  obtain ⟨x3, e3, _, s3⟩ := DataW.trod_string Try.underlying9 t3
  simp [Try.cells9o, Try.cells3o, Value.cells] at e0 e1 e2 e3
  subst e0 e1 e2 e3
  exact ⟨x0, x1, x2, x3, rfl, s2, s3⟩
set_option maxRecDepth 10000 in
/-- A word. -/
theorem open_wrd {H : Type} {enc : TypeId × Value → H} {W : World} {base : Nat} {v : Value} {d : DataW H} {p : List MemPlace} (hv : Value.okWide Try.prog W .any base 47 v)
    (h : DataW.Trod enc Try.prog W 0 (fun _ => true) true 47 v d p) : ∃ (k f r e : Int) (x : ByteArray), v = .agg #[.int .i64 k, .int .i64 f, .int .i64 r, .int .i64 e, .string x] ∧ x.size ≤ maxLen := by
  obtain ⟨cs, rfl, hsz, _⟩ : ∃ cs, v = .agg cs ∧ cs.size = Try.prog.cellsOf 47 ∧ Row.okWide Try.prog W .any base 47 cs := by
    simpa [Value.okWide, Try.underlying47] using hv
  rw [Try.cells47o] at hsz
  obtain ⟨c0, c1, c2, c3, c4, rfl⟩ := array5 hsz
  obtain ⟨fuel, hf⟩ := h
  obtain ⟨y0, y1, y2, y3, y4, m, t0, t1, t2, t3, t4⟩ := trod_five Try.underlying47 hf
  obtain ⟨x0, e0, _, _⟩ := DataW.trod_int Try.underlying3 t0
  obtain ⟨x1, e1, _, _⟩ := DataW.trod_int Try.underlying3 t1
  obtain ⟨x2, e2, _, _⟩ := DataW.trod_int Try.underlying3 t2
  obtain ⟨x3, e3, _, _⟩ := DataW.trod_int Try.underlying3 t3
  obtain ⟨x4, e4, _, s4⟩ := DataW.trod_string Try.underlying9 t4
  simp [Try.cells9o, Try.cells3o, Value.cells] at e0 e1 e2 e3 e4
  subst e0 e1 e2 e3 e4
  exact ⟨x0, x1, x2, x3, x4, rfl, s4⟩
end Go.Proofs.Ythdmecoeghnifaa
