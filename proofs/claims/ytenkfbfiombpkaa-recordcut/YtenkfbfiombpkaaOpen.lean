/-
  How what comes in is read: a slice of texts, numbers.
-/
import Derived.Test.YtenkfbfiombpkaaRLow
import Derived.Test.YtenkfbfiombpkaaRows
import Derived.WalkKit
import Derived.ProofKit
import Derived.OpenShut
import Derived.ShutString
import Derived.ChangeOld
import Derived.ChangeSame
import Derived.ChangeArms
import Derived.Below
import Derived.Deep.Slices
import Derived.DataReads
namespace Go.Proofs.Ytenkfbfiombpkaa
open Go.ChangeShapes Go.WideShapes Go.ChangeAt Go.RowKit
theorem Try.own : ownKnob Try.prog.godebug = none := by kernel_rfl
theorem Try.laidOut : laidOutB Try.prog = true := by kernel_rfl
theorem Try.cells9o : Try.prog.cellsOf 9 = 1 := by kernel_rfl
theorem nat_u32 {n : Int} (h : (Lit.int .u32 n).wf = true) : ∃ m : Nat, n = (m : Int) ∧ m < 4294967296 := ⟨n.toNat, by have := bounds_u32 h; omega, by have := bounds_u32 h; omega⟩
theorem slice_form {P : Program} {W : World} {base : Nat} {t e : TypeId} (ht : P.underlying t = some (.slice e)) {v u : Value} (hv : Value.okWide P W .any base t v) (hc : v.cells.toList = [u]) : v = u := by
  cases v <;> first | (simp [Value.cells] at hc; exact hc) | (simp [Value.okWide, Cell.okWide, Cell.ok, ht] at hv; done)
/-- A slice that comes in: its cells, element by element. -/
theorem open_slc {H : Type} {enc : TypeId × Value → H} {P : Program} {W : World} {base : Nat} {t e : TypeId} (ht : P.underlying t = some (.slice e)) {v : Value} {d : DataW H} {p : List MemPlace} (hv : Value.okWide P W .any base t v)
    (h : DataW.Trod enc P W 0 (fun _ => true) true t v d p) : ∃ (a : Option Addr) (n cap : Nat), v = .slice a n cap ∧ n ≤ cap ∧ n ≤ maxLen ∧ (n = 0 ∨ ∃ (a' : Addr) (m : Nat) (D : Nat → DataW H) (Pl : Nat → List MemPlace), a = some a' ∧ ∀ i, i < n → ∃ cs', W.cells? 0 (a'.add (i * P.cellsOf e)) (P.cellsOf e) = some cs' ∧ DataW.trod enc P W 0 (fun _ => true) true m e cs' = some (D i, Pl i)) := by
  obtain ⟨fuel, hf⟩ := h
  rcases Go.Deep.open_slice ht hf with ⟨h1, _⟩ | ⟨a', len, cap, m, k, D, Pl, h1, _, hlc, hcm, hm, _, hel⟩
  · exact ⟨none, 0, 0, slice_form ht hv h1, Nat.le_refl _, Nat.zero_le _, .inl rfl⟩
  · refine ⟨some a', len, cap, slice_form ht hv h1, hlc, Nat.le_trans hlc hcm, .inr ⟨a', k, D, Pl, rfl, fun i hi => hel i (by rw [hm]; simp; omega)⟩⟩
theorem cell_nospot {W : World} {a : Addr} {v : Value} (h : W.cell? a = some v) : a.spot = none := by
  unfold World.cell? at h
  split at h
  · split at h
    · cases h
    · rename_i h2
      cases hs : a.spot with
      | none => rfl
      | some _ => rw [hs] at h2; simp at h2
  · cases h
theorem addr_add {a : Addr} (h : a.spot = none) (k : Nat) : a.add k = ⟨a.block, a.off + k, none⟩ := by
  unfold Addr.add
  by_cases e : k = 0
  · subst e; rw [if_pos rfl]; cases a; cases h; rfl
  · rw [if_neg e]
theorem lies_of {W : World} {a : Addr} {n cap sz : Nat} (hsz : 0 < sz) {G : Nat → Nat → Value} (h : ∀ i, i < n → ∀ j, j < sz → W.cell? ((a.add (i * sz)).add j) = some (G i j)) : Lies W (.slice (some a) n cap) n sz (fun k => G (k / sz) (k % sz)) := by
  refine ⟨_, _, rfl, fun hn => ?_⟩
  have h0 := h 0 hn 0 hsz
  rw [Nat.zero_mul] at h0
  have e0 : (a.add 0).add 0 = a := by unfold Addr.add; simp
  rw [e0] at h0
  have hs := cell_nospot h0
  refine ⟨a.block, a.off, by cases a; cases hs; rfl, World.block_lt_of_cell? W a h0, fun k hk => ?_⟩
  have hq : k / sz < n := Nat.div_lt_of_lt_mul (by rw [Nat.mul_comm]; exact hk)
  have := h (k / sz) hq (k % sz) (Nat.mod_lt _ hsz)
  rw [addr_add hs, addr_add rfl] at this
  rw [← this]
  congr 2
  show a.off + k = a.off + k / sz * sz + k % sz
  have := Nat.div_add_mod' k sz
  omega
set_option maxRecDepth 10000 in
/-- A slice of texts, and its room. -/
theorem open_txtsc {H : Type} {enc : TypeId × Value → H} {W : World} {base : Nat} {v : Value} {d : DataW H} {p : List MemPlace} (hv : Value.okWide Try.prog W .any base 35 v)
    (h : DataW.Trod enc Try.prog W 0 (fun _ => true) true 35 v d p) : ∃ (a : Option Addr) (n cap : Nat) (L : Nat → ByteArray), v = .slice a n cap ∧ n ≤ cap ∧ n ≤ maxLen ∧ LiesT W (.slice a n cap) n L := by
  obtain ⟨a, n, cap, rfl, hcap, hn, h0 | ⟨a', m, D, Pl, rfl, hel⟩⟩ := open_slc Try.underlying35 hv h
  · subst h0
    exact ⟨a, 0, cap, fun _ => ⟨#[]⟩, rfl, hcap, Nat.zero_le _, ⟨_, _, rfl, fun hh => absurd hh (Nat.lt_irrefl 0)⟩⟩
  · have key : ∀ i, i < n → ∃ x : ByteArray, W.cell? ((a'.add (i * 1)).add 0) = some (.string x) := by
      intro i hi
      obtain ⟨cs, hcs, htr⟩ := hel i hi
      rw [Try.cells9o] at hcs
      obtain ⟨_, hl, hc⟩ := World.cells?_some hcs
      match cs, hl with
      | [c0], _ =>
        obtain ⟨x0, e0, _, _⟩ := DataW.trod_string Try.underlying9 htr
        simp at e0
        subst e0
        exact ⟨x0, hc 0 (by omega)⟩
    obtain ⟨x, hx⟩ := Go.Deep.choose_lt key
    refine ⟨_, n, cap, x, rfl, hcap, hn, ?_⟩
    have := lies_of (W := W) (a := a') (n := n) (cap := cap) (sz := 1) (by omega) (G := fun i _ => .string (x i)) fun i hi j hj => by
      obtain rfl : j = 0 := by omega
      exact hx i hi
    refine this.congr fun k _ => ?_
    rw [Nat.div_one]
/-- A slice of texts. -/
theorem open_txts {H : Type} {enc : TypeId × Value → H} {W : World} {base : Nat} {v : Value} {d : DataW H} {p : List MemPlace} (hv : Value.okWide Try.prog W .any base 35 v)
    (h : DataW.Trod enc Try.prog W 0 (fun _ => true) true 35 v d p) : ∃ (n : Nat) (L : Nat → ByteArray), n ≤ maxLen ∧ LiesT W v n L := by
  obtain ⟨a, n, cap, L, rfl, _, hn, hL⟩ := open_txtsc hv h
  exact ⟨n, L, hn, hL⟩
end Go.Proofs.Ytenkfbfiombpkaa
