/-
  How what comes in is read: a number, slices of numbers, of places, of shares.
-/
import Derived.Test.YtnaiccfdbapdpaaDoorHFace
import Derived.WalkKit
import Derived.ProofKit
import Derived.OpenShut
import Derived.ShutString
import Derived.ChangeOld
import Derived.ChangeSame
import Derived.Below
import Derived.Laws.IdiomArrays
import Derived.Deep.Slices
import Derived.DataReads
namespace Go.Proofs.YtnaiccfdbapdpaaDoor
open Go.ChangeShapes Go.WideShapes Go.ChangeAt Go.RowKit
theorem Tryd.cells24' : Tryd.prog.cellsOf 24 = 1 := by kernel_rfl
theorem Tryd.cells3' : Tryd.prog.cellsOf 3 = 1 := by kernel_rfl
theorem Tryd.cells26' : Tryd.prog.cellsOf 26 = 4 := by kernel_rfl
theorem Tryd.cells47' : Tryd.prog.cellsOf 47 = 5 := by kernel_rfl
theorem lim_wf' {n : Int} (h : (Lit.int .u64 n).wf = true) : Lim n := by
  have := bounds_u64 h
  unfold Lim
  omega
theorem i64_wf {n : Int} (h : (Lit.int .i64 n).wf = true) : I64 n := by
  have := bounds_i64 h
  unfold I64
  omega
theorem slice_form {P : Program} {W : World} {base : Nat} {t e : TypeId} (ht : P.underlying t = some (.slice e)) {v u : Value} (hv : Value.okWide P W .any base t v) (hc : v.cells.toList = [u]) : v = u := by
  cases v <;> first | (simp [Value.cells] at hc; exact hc) | (simp [Value.okWide, Cell.okWide, Cell.ok, ht] at hv; done)
/-- A slice that comes in: its cells, element by element. -/
theorem open_sl {H : Type} {enc : TypeId × Value → H} {P : Program} {W : World} {base : Nat} {t e : TypeId} (ht : P.underlying t = some (.slice e)) {v : Value} {d : DataW H} {p : List MemPlace} (hv : Value.okWide P W .any base t v)
    (h : DataW.Trod enc P W 0 (fun _ => true) true t v d p) : ∃ (a : Option Addr) (n cap : Nat), v = .slice a n cap ∧ n ≤ maxLen ∧ (n = 0 ∨ ∃ (a' : Addr) (m : Nat) (D : Nat → DataW H) (Pl : Nat → List MemPlace), a = some a' ∧ ∀ i, i < n → ∃ cs', W.cells? 0 (a'.add (i * P.cellsOf e)) (P.cellsOf e) = some cs' ∧ DataW.trod enc P W 0 (fun _ => true) true m e cs' = some (D i, Pl i)) := by
  obtain ⟨fuel, hf⟩ := h
  rcases Go.Deep.open_slice ht hf with ⟨h1, _⟩ | ⟨a', len, cap, m, k, D, Pl, h1, _, hlc, hcm, hm, _, hel⟩
  · exact ⟨none, 0, 0, slice_form ht hv h1, Nat.zero_le _, .inl rfl⟩
  · refine ⟨some a', len, cap, slice_form ht hv h1, Nat.le_trans hlc hcm, .inr ⟨a', k, D, Pl, rfl, fun i hi => hel i (by rw [hm]; simp; omega)⟩⟩
theorem cell_nospot {W : World} {a : Addr} {v : Value} (h : W.cell? a = some v) : a.spot = none := by
  unfold World.cell? at h
  split at h
  · split at h
    · cases h
    · rename_i h2
      cases hs : a.spot with
      | none => rfl
      | some _ => rw [hs] at h2; simp at h2
  · cases h
theorem addr_add {a : Addr} (h : a.spot = none) (k : Nat) : a.add k = ⟨a.block, a.off + k, none⟩ := by
  unfold Addr.add
  by_cases e : k = 0
  · subst e; rw [if_pos rfl]; cases a; cases h; rfl
  · rw [if_neg e]
theorem list_4 {α : Type} (l : List α) (h : l.length = 4) : ∃ a b c d, l = [a, b, c, d] := by
  match l, h with
  | [a, b, c, d], _ => exact ⟨a, b, c, d, rfl⟩
theorem list_5 {α : Type} (l : List α) (h : l.length = 5) : ∃ a b c d e, l = [a, b, c, d, e] := by
  match l, h with
  | [a, b, c, d, e], _ => exact ⟨a, b, c, d, e, rfl⟩
theorem lies_of {W : World} {a : Addr} {n cap sz : Nat} (hsz : 0 < sz) {G : Nat → Nat → Value} (h : ∀ i, i < n → ∀ j, j < sz → W.cell? ((a.add (i * sz)).add j) = some (G i j)) : Lies W (.slice (some a) n cap) n sz (fun k => G (k / sz) (k % sz)) := by
  refine ⟨_, _, rfl, fun hn => ?_⟩
  have h0 := h 0 hn 0 hsz
  rw [Nat.zero_mul] at h0
  have e0 : (a.add 0).add 0 = a := by unfold Addr.add; simp
  rw [e0] at h0
  have hs := cell_nospot h0
  refine ⟨a.block, a.off, by cases a; cases hs; rfl, World.block_lt_of_cell? W a h0, fun k hk => ?_⟩
  have hq : k / sz < n := Nat.div_lt_of_lt_mul (by rw [Nat.mul_comm]; exact hk)
  have := h (k / sz) hq (k % sz) (Nat.mod_lt _ hsz)
  rw [addr_add hs, addr_add rfl] at this
  rw [← this]
  congr 2
  show a.off + k = a.off + k / sz * sz + k % sz
  have := Nat.div_add_mod' k sz
  omega
set_option maxRecDepth 10000 in
/-- A slice of numbers. -/
theorem open_nums {H : Type} {enc : TypeId × Value → H} {W : World} {base : Nat} {v : Value} {d : DataW H} {p : List MemPlace} (hv : Value.okWide Tryd.prog W .any base 22 v)
    (h : DataW.Trod enc Tryd.prog W 0 (fun _ => true) true 22 v d p) : ∃ (n : Nat) (f : Nat → Nat → Int), LimN f n ∧ Lies W v n 4 (nc f) := by
  obtain ⟨a, n, cap, rfl, _, h0 | ⟨a', m, D, Pl, rfl, hel⟩⟩ := open_sl Tryd.underlying22 hv h
  · subst h0
    exact ⟨0, fun _ _ => 0, fun i hi => absurd hi (Nat.not_lt_zero i), ⟨_, _, rfl, fun hh => absurd hh (Nat.lt_irrefl 0)⟩⟩
  · have key : ∀ i, i < n → ∃ x : Int × Int × Int × Int, Lim4 x.1 x.2.1 x.2.2.1 x.2.2.2 ∧ W.cell? ((a'.add (i * 4)).add 0) = some (.int .u64 x.1) ∧ W.cell? ((a'.add (i * 4)).add 1) = some (.int .u64 x.2.1) ∧ W.cell? ((a'.add (i * 4)).add 2) = some (.int .u64 x.2.2.1) ∧ W.cell? ((a'.add (i * 4)).add 3) = some (.int .u64 x.2.2.2) := by
      intro i hi
      obtain ⟨cs, hcs, htr⟩ := hel i hi
      rw [Tryd.cells26'] at hcs
      obtain ⟨_, hl, hc⟩ := World.cells?_some hcs
      obtain ⟨c0, c1, c2, c3, rfl⟩ := list_4 cs hl
      obtain ⟨y0, y1, y2, y3, k, _, t0, t1, t2, t3⟩ := trod_array4 Tryd.underlying26 Tryd.cells24' htr
      obtain ⟨x0, e0, _, w0⟩ := DataW.trod_int Tryd.underlying24 t0
      obtain ⟨x1, e1, _, w1⟩ := DataW.trod_int Tryd.underlying24 t1
      obtain ⟨x2, e2, _, w2⟩ := DataW.trod_int Tryd.underlying24 t2
      obtain ⟨x3, e3, _, w3⟩ := DataW.trod_int Tryd.underlying24 t3
      simp at e0 e1 e2 e3
      subst e0 e1 e2 e3
      exact ⟨(x0, x1, x2, x3), ⟨lim_wf' w0, lim_wf' w1, lim_wf' w2, lim_wf' w3⟩, hc 0 (by omega), hc 1 (by omega), hc 2 (by omega), hc 3 (by omega)⟩
    obtain ⟨x, hx⟩ := Go.Deep.choose_lt key
    let f : Nat → Nat → Int := fun i j => if j = 0 then (x i).1 else if j = 1 then (x i).2.1 else if j = 2 then (x i).2.2.1 else (x i).2.2.2
    refine ⟨n, f, fun i hi => (hx i hi).1, ?_⟩
    exact lies_of (by omega) (G := fun i j => .int .u64 (f i j)) fun i hi j hj => by
      have hh := (hx i hi).2
      have : j = 0 ∨ j = 1 ∨ j = 2 ∨ j = 3 := by omega
      rcases this with rfl | rfl | rfl | rfl
      · exact hh.1
      · exact hh.2.1
      · exact hh.2.2.1
      · exact hh.2.2.2
set_option maxRecDepth 10000 in
/-- A slice of places. -/
theorem open_plcs {H : Type} {enc : TypeId × Value → H} {W : World} {base : Nat} {v : Value} {d : DataW H} {p : List MemPlace} (hv : Value.okWide Tryd.prog W .any base 32 v)
    (h : DataW.Trod enc Tryd.prog W 0 (fun _ => true) true 32 v d p) : ∃ (n : Nat) (P : Nat → Int), (∀ i, i < n → I64 (P i)) ∧ Lies W v n 1 (fun k => .int .i64 (P k)) := by
  obtain ⟨a, n, cap, rfl, _, h0 | ⟨a', m, D, Pl, rfl, hel⟩⟩ := open_sl Tryd.underlying32 hv h
  · subst h0
    exact ⟨0, fun _ => 0, fun i hi => absurd hi (Nat.not_lt_zero i), ⟨_, _, rfl, fun hh => absurd hh (Nat.lt_irrefl 0)⟩⟩
  · have key : ∀ i, i < n → ∃ x : Int, I64 x ∧ W.cell? ((a'.add (i * 1)).add 0) = some (.int .i64 x) := by
      intro i hi
      obtain ⟨cs, hcs, htr⟩ := hel i hi
      rw [Tryd.cells3'] at hcs
      obtain ⟨_, hl, hc⟩ := World.cells?_some hcs
      match cs, hl with
      | [c0], _ =>
        obtain ⟨x0, e0, _, w0⟩ := DataW.trod_int Tryd.underlying3 htr
        simp at e0
        subst e0
        exact ⟨x0, i64_wf w0, hc 0 (by omega)⟩
    obtain ⟨x, hx⟩ := Go.Deep.choose_lt key
    refine ⟨n, x, fun i hi => (hx i hi).1, ?_⟩
    have := lies_of (W := W) (a := a') (n := n) (cap := cap) (sz := 1) (by omega) (G := fun i _ => .int .i64 (x i)) fun i hi j hj => by
      obtain rfl : j = 0 := by omega
      exact (hx i hi).2
    refine this.congr fun k _ => ?_
    rw [Nat.div_one]
set_option maxRecDepth 10000 in
/-- A slice of shares. -/
theorem open_shares {H : Type} {enc : TypeId × Value → H} {W : World} {base : Nat} {v : Value} {d : DataW H} {p : List MemPlace} (hv : Value.okWide Tryd.prog W .any base 29 v)
    (h : DataW.Trod enc Tryd.prog W 0 (fun _ => true) true 29 v d p) : ∃ (n : Nat) (P : Nat → Int) (F : Nat → Nat → Int), (∀ i, i < n → I64 (P i)) ∧ LimN F n ∧ Lies W v n 5 (sc P F) := by
  obtain ⟨a, n, cap, rfl, _, h0 | ⟨a', m, D, Pl, rfl, hel⟩⟩ := open_sl Tryd.underlying29 hv h
  · subst h0
    exact ⟨0, fun _ => 0, fun _ _ => 0, fun i hi => absurd hi (Nat.not_lt_zero i), fun i hi => absurd hi (Nat.not_lt_zero i), ⟨_, _, rfl, fun hh => absurd hh (Nat.lt_irrefl 0)⟩⟩
  · have key : ∀ i, i < n → ∃ x : Int × Int × Int × Int × Int, (I64 x.1 ∧ Lim4 x.2.1 x.2.2.1 x.2.2.2.1 x.2.2.2.2) ∧ W.cell? ((a'.add (i * 5)).add 0) = some (.int .i64 x.1) ∧ W.cell? ((a'.add (i * 5)).add 1) = some (.int .u64 x.2.1) ∧ W.cell? ((a'.add (i * 5)).add 2) = some (.int .u64 x.2.2.1) ∧ W.cell? ((a'.add (i * 5)).add 3) = some (.int .u64 x.2.2.2.1) ∧ W.cell? ((a'.add (i * 5)).add 4) = some (.int .u64 x.2.2.2.2) := by
      intro i hi
      obtain ⟨cs, hcs, htr⟩ := hel i hi
      rw [Tryd.cells47'] at hcs
      obtain ⟨_, hl, hc⟩ := World.cells?_some hcs
      obtain ⟨c, c0, c1, c2, c3, rfl⟩ := list_5 cs hl
      obtain ⟨y, z, k, _, _, t, tn⟩ := trod_struct2 Tryd.underlying47 htr
      rw [Tryd.cells3'] at t
      rw [Tryd.cells26'] at tn
      obtain ⟨x, e, _, w⟩ := DataW.trod_int Tryd.underlying3 t
      obtain ⟨y0, y1, y2, y3, k, _, t0, t1, t2, t3⟩ := trod_array4 (c0 := c0) (c1 := c1) (c2 := c2) (c3 := c3) Tryd.underlying26 Tryd.cells24' tn
      obtain ⟨x0, e0, _, w0⟩ := DataW.trod_int Tryd.underlying24 t0
      obtain ⟨x1, e1, _, w1⟩ := DataW.trod_int Tryd.underlying24 t1
      obtain ⟨x2, e2, _, w2⟩ := DataW.trod_int Tryd.underlying24 t2
      obtain ⟨x3, e3, _, w3⟩ := DataW.trod_int Tryd.underlying24 t3
      simp at e e0 e1 e2 e3
      subst e e0 e1 e2 e3
      exact ⟨(x, x0, x1, x2, x3), ⟨i64_wf w, lim_wf' w0, lim_wf' w1, lim_wf' w2, lim_wf' w3⟩, hc 0 (by omega), hc 1 (by omega), hc 2 (by omega), hc 3 (by omega), hc 4 (by omega)⟩
    obtain ⟨x, hx⟩ := Go.Deep.choose_lt key
    let f : Nat → Nat → Int := fun i j => if j = 0 then (x i).2.1 else if j = 1 then (x i).2.2.1 else if j = 2 then (x i).2.2.2.1 else (x i).2.2.2.2
    refine ⟨n, fun i => (x i).1, f, fun i hi => (hx i hi).1.1, fun i hi => (hx i hi).1.2, ?_⟩
    have := lies_of (W := W) (a := a') (n := n) (cap := cap) (sz := 5) (by omega) (G := fun i j => if j = 0 then .int .i64 (x i).1 else .int .u64 (f i (j - 1))) fun i hi j hj => by
      have hh := (hx i hi).2
      have : j = 0 ∨ j = 1 ∨ j = 2 ∨ j = 3 ∨ j = 4 := by omega
      rcases this with rfl | rfl | rfl | rfl | rfl
      · exact hh.1
      · exact hh.2.1
      · exact hh.2.2.1
      · exact hh.2.2.2.1
      · exact hh.2.2.2.2
    exact this
theorem Tryd.own : ownKnob Tryd.prog.godebug = none := by kernel_rfl
theorem Tryd.laidOut : laidOutB Tryd.prog = true := by kernel_rfl
theorem Tryd.cells24 : Tryd.prog.cellsOf 24 = 1 := by kernel_rfl
theorem Tryd.cells26 : Tryd.prog.cellsOf 26 = 4 := by kernel_rfl
theorem list4 {α : Type} (l : List α) (h : (⟨l⟩ : Array α).size = 4) : ∃ a b c d, l = [a, b, c, d] := by
  match l, h with
  | [a, b, c, d], _ => exact ⟨a, b, c, d, rfl⟩
theorem lim_wf {n : Int} (h : (Lit.int .u64 n).wf = true) : Lim n := by
  have := bounds_u64 h
  unfold Lim
  omega
set_option maxRecDepth 10000 in
theorem open_num {H : Type} {enc : TypeId × Value → H} {W : World} {base : Nat} {v : Value} {d : DataW H} {p : List MemPlace} (hv : Value.okWide Tryd.prog W .any base 26 v)
    (h : DataW.Trod enc Tryd.prog W 0 (fun _ => true) true 26 v d p) : ∃ x0 x1 x2 x3 : Int, v = .agg #[.int .u64 x0, .int .u64 x1, .int .u64 x2, .int .u64 x3] ∧ Lim4 x0 x1 x2 x3 := by
  obtain ⟨cs, rfl, hsz, _⟩ : ∃ cs, v = .agg cs ∧ cs.size = Tryd.prog.cellsOf 26 ∧ Row.okWide Tryd.prog W .any base 26 cs := by
    simpa [Value.okWide, Tryd.underlying26] using hv
  rw [Tryd.cells26] at hsz
  obtain ⟨l⟩ := cs
  obtain ⟨c0, c1, c2, c3, rfl⟩ := list4 l hsz
  obtain ⟨fuel, hf⟩ := h
  obtain ⟨y0, y1, y2, y3, m, hx, hy0, hy1, hy2, hy3⟩ := trod_array4 Tryd.underlying26 Tryd.cells24 hf
  obtain ⟨x0, e0, rfl, w0⟩ := DataW.trod_int Tryd.underlying24 hy0
  obtain ⟨x1, e1, rfl, w1⟩ := DataW.trod_int Tryd.underlying24 hy1
  obtain ⟨x2, e2, rfl, w2⟩ := DataW.trod_int Tryd.underlying24 hy2
  obtain ⟨x3, e3, rfl, w3⟩ := DataW.trod_int Tryd.underlying24 hy3
  simp at e0 e1 e2 e3
  subst e0 e1 e2 e3
  exact ⟨x0, x1, x2, x3, rfl, lim_wf w0, lim_wf w1, lim_wf w2, lim_wf w3⟩
end Go.Proofs.YtnaiccfdbapdpaaDoor
