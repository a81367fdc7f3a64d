/-
  The map of voices: how many of each kind and body; looked up, and counted up. 
-/
import Derived.Test.YtmibekclhnkhnaaMem
import Derived.Maps.OwnOps
import Derived.Maps.Views
import Derived.WideKeyEntry
import Derived.DeepKeys4
namespace Go.Proofs.Ytmibekclhnkhnaa
open Go.RowKit Go.Maps Go.ChangeMaps Go.MapKept
open Go.WideElems (Fit rd rg pl rd_val elemAt entry_then_store)
theorem Try.laidOutV : laidOutB Try.prog = true := by kernel_rfl
theorem Try.row69 : (69 : TypeId) < Try.prog.types.size := of_decide_eq_true (by kernel_rfl)
theorem Try.wide69 : (match Try.prog.underlying 69 with | some (.array _ _) | some (.struct _) => true | _ => false) = true := by kernel_rfl
theorem Try.law69 : WideMaps.KeyLaw Try.prog 69 := deep_law_laid Try.laidOutV (m := 2) (by omega) Try.row69 (by kernel_rfl) Try.wide69
theorem Try.cells69 : Try.prog.cellsOf 69 = 2 := by kernel_rfl
theorem Try.cells3v : Try.prog.cellsOf 3 = 1 := by kernel_rfl
theorem Try.cells9v : Try.prog.cellsOf 9 = 1 := by kernel_rfl
theorem Try.keyType69 : Try.prog.keyType 69 = true := by kernel_rfl
theorem Try.size69 : Try.prog.types.size + 1 = 87 + 2 := by kernel_rfl
/-- A voice. -/
abbrev vk (k : Int) (B : ByteArray) : Value := .agg #[.int .i64 k, .string B]
/-- What it reads as. -/
def vl (k : Int) (B : ByteArray) : Lit := .string (keyBytes [.int .i64 k, .string B.data.toList])
theorem vk_formed (k : Int) (B : ByteArray) : (vk k B).formed Try.prog 69 = true := by simp [Value.formed, Try.underlying69, Try.cells69]
theorem vk_lits (d : Nat) {k : Int} {B : ByteArray} (hk : (Lit.int .i64 k).wf = true) (hB : B.size ≤ maxLen) : Try.prog.keyLits (d + 2) 69 [.int .i64 k, .string B] = some [.int .i64 k, .string B.data.toList] := by
  simp [Program.keyLits, Try.underlying69, Try.underlying3, Try.underlying9, Try.cells69, Try.cells3v, Try.cells9v, hk, hB]
theorem vk_key {k : Int} {B : ByteArray} (hk : (Lit.int .i64 k).wf = true) (hB : B.size ≤ maxLen) : keyOf Try.prog 69 (vk k B) = some (vl k B) := by
  unfold keyOf
  rw [Try.underlying69, Try.size69]
  have := vk_lits 87 hk hB
  generalize 87 + 2 = q at *
  simp [Try.keyType69, vk_formed, this, Value.cells, vl]
theorem vl_inj {k k' : Int} {B B' : ByteArray} (hk : (Lit.int .i64 k).wf = true) (hB : B.size ≤ maxLen) (hk' : (Lit.int .i64 k').wf = true) (hB' : B'.size ≤ maxLen) (h : vl k B = vl k' B') : k = k' ∧ B = B' := by
  have := Try.law69.inj (vk_key hk hB) (by rw [h]; exact vk_key hk' hB')
  simpa using this
theorem zero3 (w : World) : (zeroValue 3).run Try.prog w = .ok (.int .i64 0) w := by kernel_rfl
/-- Block b is a map of at most n voices; of a kind and a body there are f. -/
def Vo (w : World) (b n : Nat) (f : Int → ByteArray → Nat) : Prop :=
  ∃ D : DataW Unit, w.ownsMap Try.prog 69 (plainElem Try.prog 3) b n D ∧ ∀ k B, (Lit.int .i64 k).wf = true → B.size ≤ maxLen → D.atKey (vl k B) (.lit (.int .i64 0)) = .lit (.int .i64 (f k B : Int))
theorem Vo.lt {w : World} {b n : Nat} {f : Int → ByteArray → Nat} (h : Vo w b n f) : b < w.heap.size := by
  obtain ⟨D, h, _⟩ := h
  exact h.lt
theorem Vo.keep {w w' : World} {b n : Nat} {f : Int → ByteArray → Nat} (h : Vo w b n f) (hb : w'.heap[b]? = w.heap[b]?) : Vo w' b n f := by
  obtain ⟨D, ⟨es, clock, h1, h2⟩, h3⟩ := h
  exact ⟨D, ⟨es, clock, hb.trans h1, h2⟩, h3⟩
theorem Vo.ext {w w' : World} {b n : Nat} {f : Int → ByteArray → Nat} (h : Vo w b n f) (hx : Ext w w') : Vo w' b n f := h.keep (Below.block hx b h.lt)
theorem vo_new (w : World) : Vo (w.alloc (.map #[] 0)) w.heap.size 0 (fun _ _ => 0) := ⟨.map [], World.ownsMap_made w Try.prog 69 _, fun _k _B _ _ => rfl⟩
theorem Vo.look {w : World} {b n : Nat} {f : Int → ByteArray → Nat} (h : Vo w b n f) {k : Int} {B : ByteArray} (hk : (Lit.int .i64 k).wf = true) (hB : B.size ≤ maxLen) :
    (Instr.lookup 56 (.map (some b)) (vk k B) false).run Try.prog w = .ok (.int .i64 (f k B : Int)) w := by
  obtain ⟨D, h1, h2⟩ := h
  obtain ⟨c, hr, hc, _⟩ := h1.lookup_int (Keyed.of_law Try.law69) Try.underlying56 Try.underlying3 (zero3 w) (vk_key hk hB)
  rw [h2 k B hk hB] at hc
  injection hc with hc
  injection hc with hc1 hc2
  rw [hr, hc2]
/-- 'm[k]++' asks for the entry first: it is there then, with what it had, or 0. -/
theorem entry_is_update {w : World} {b : Nat} {es : Array MapEntry} {clock : Nat} (hb : w.heap[b]? = some (.map es clock)) (hF : Fit Try.prog 69 (plainElem (H := Unit) Try.prog 3) es clock) {key : Value} {kl : Lit} (hkey : keyOf Try.prog 69 key = some kl) :
    ∃ v0 st W1, (Instr.mapEntry 56 (.map (some b)) key).run Try.prog w = .ok (.tuple #[v0, goInt st]) W1 ∧ (Instr.mapUpdate 56 (.map (some b)) key v0).run Try.prog w = .ok () W1 ∧ (Instr.lookup 56 (.map (some b)) key false).run Try.prog w = .ok v0 w := by
  have K := Try.law69
  rcases K.find w hkey es.toList hF.keys with ⟨h1, h2⟩ | ⟨j, e0, h1, h2, h3⟩
  · refine ⟨.int .i64 0, clock, setBlock w b (.map (es.push ⟨key, .int .i64 0, clock⟩) (clock + 1)), ?_, ?_, ?_⟩
    · simp [Instr.mapEntry, run_underlying Try.underlying56, MapKept.run_getObj_map hb, K.check w false hkey, h1, MapKept.run_setObj_map _ hb, Result.andThen, setBlock]
    · simp [Instr.mapUpdate, run_underlying Try.underlying56, MapKept.run_getObj_map hb, K.check w false hkey, h1, MapKept.run_setObj_map _ hb, Result.andThen, setBlock]
    · simp [Instr.lookup, run_underlying Try.underlying56, MapKept.run_getObj_map hb, K.check w _ hkey, h1, Result.andThen]
  · have hj : es[j]? = some e0 := by simpa using h2
    have hsame : es.modify j (fun e => { e with key := key }) = es := by
      apply Array.ext'
      rw [Array.toList_modify, modify_eq_set _ _ _ _ h2]
      have : ({ e0 with key := key } : MapEntry) = e0 := by rw [← h3]
      rw [this]
      exact WideElems.set_self _ _ _ h2
    have hsame2 : es.modify j (fun e => { e with key := key, val := e0.val }) = es := by
      apply Array.ext'
      rw [Array.toList_modify, modify_eq_set _ _ _ _ h2]
      have : ({ e0 with key := key, val := e0.val } : MapEntry) = e0 := by rw [← h3]
      rw [this]
      exact WideElems.set_self _ _ _ h2
    refine ⟨e0.val, e0.born, setBlock w b (.map es clock), ?_, ?_, ?_⟩
    · simp [Instr.mapEntry, run_underlying Try.underlying56, MapKept.run_getObj_map hb, K.check w false hkey, h1, hj, h3, K.stays w hkey, hsame, MapKept.run_setObj_map _ hb, Result.andThen, setBlock]
    · simp [Instr.mapUpdate, run_underlying Try.underlying56, MapKept.run_getObj_map hb, K.check w false hkey, h1, hj, h3, K.stays w hkey, hsame2, MapKept.run_setObj_map _ hb, Result.andThen, setBlock]
    · simp [Instr.lookup, run_underlying Try.underlying56, MapKept.run_getObj_map hb, K.check w _ hkey, h1, Result.andThen]
/-- 'm[k] = n' in two steps, as 'm[k]++' takes them. -/
theorem Vo.store {w : World} {b n : Nat} {f : Int → ByteArray → Nat} (h : Vo w b n f) (hn : n < maxLen) {k : Int} {B : ByteArray} (hk : (Lit.int .i64 k).wf = true) (hB : B.size ≤ maxLen) {c : Nat} (hc : (Lit.int .i64 (c : Int)).wf = true) (hf : (Lit.int .i64 (f k B : Int)).wf = true) :
    ∃ v0 st W1, (Instr.mapEntry 56 (.map (some b)) (vk k B)).run Try.prog w = .ok (.tuple #[v0, goInt st]) W1 ∧ w.grownBy W1 (some b) ∧ Vo W1 b (n + 1) f ∧
      ∃ W2, (Instr.entryStore 56 (.map (some b)) (goInt st) (.int .i64 (c : Int))).run Try.prog W1 = .ok () W2 ∧ w.grownBy W2 (some b) ∧ W2.heap.size = w.heap.size ∧ Vo W2 b (n + 1) (fun j C => if j = k ∧ C = B then c else f j C) := by
  have hlk := h.look hk hB
  obtain ⟨D, h1, h2⟩ := h
  have h1' := h1
  obtain ⟨w1, hrun1, hown1, hgr1⟩ := h1'.update (Keyed.of_law Try.law69) Try.underlying56 hn (vk_key hk hB) (plainElem_int (H := Unit) Try.underlying3 hf)
  obtain ⟨w', hrun, hown, hgr⟩ := h1'.update (Keyed.of_law Try.law69) Try.underlying56 hn (vk_key hk hB) (plainElem_int (H := Unit) Try.underlying3 hc)
  obtain ⟨es, clock, hb, hF, hs, hD⟩ := h1
  obtain ⟨v0, st, es1, clock1, hme, _, hst⟩ := entry_then_store Try.law69 Try.underlying56 zero3 hb hF (vk_key hk hB)
  obtain ⟨es2, clock2, he, hup⟩ := hst (setBlock w b (.map es1 clock1)) (.int .i64 (c : Int)) (heap_setBlock_same hb _)
  rw [hup] at hrun
  have ew : w' = setBlock w b (.map es2 clock2) := by injection hrun with _ e; exact e.symm
  have e2 : setBlock (setBlock w b (.map es1 clock1)) b (.map es2 clock2) = setBlock w b (.map es2 clock2) := by
    unfold setBlock
    simp
  obtain ⟨v1, st1, W1, q1, q2, q3⟩ := entry_is_update hb hF (vk_key hk hB)
  rw [hlk] at q3
  injection q3 with q3 _
  subst q3
  rw [hme] at q1
  injection q1 with _ q1
  rw [hrun1] at q2
  injection q2 with _ q2
  refine ⟨v0, st, _, hme, ⟨rfl, rfl, rfl, by simp [setBlock], fun i _ hi => heap_setBlock_other hb _ (fun e => hi (by rw [e]))⟩, ?_, _, he, ?_, ?_, ?_⟩
  · rw [q1, ← q2]
    refine ⟨_, hown1, fun j C hj hC => ?_⟩
    by_cases e : j = k ∧ C = B
    · obtain ⟨rfl, rfl⟩ := e
      rw [atKey_put_same ⟨_, hD⟩ (Try.law69.str (vk_key hk hB) |>.elim fun s e => by rw [e]; trivial)]
    · rw [atKey_put_other (fun q => e (vl_inj hj hC hk hB q))]
      exact h2 j C hj hC
  · rw [e2, ← ew]; exact hgr
  · simp [setBlock]
  · rw [e2, ← ew]
    refine ⟨_, hown, fun j C hj hC => ?_⟩
    by_cases e : j = k ∧ C = B
    · obtain ⟨rfl, rfl⟩ := e
      rw [atKey_put_same ⟨_, hD⟩ (Try.law69.str (vk_key hk hB) |>.elim fun s e => by rw [e]; trivial)]
      show _ = DataW.lit (Lit.int .i64 ((if j = j ∧ C = C then c else f j C : Nat) : Int))
      rw [if_pos ⟨rfl, rfl⟩]
    · rw [atKey_put_other (fun q => e (vl_inj hj hC hk hB q))]
      show _ = DataW.lit (Lit.int .i64 ((if j = k ∧ C = B then c else f j C : Nat) : Int))
      rw [if_neg e]
      exact h2 j C hj hC
end Go.Proofs.Ytmibekclhnkhnaa
