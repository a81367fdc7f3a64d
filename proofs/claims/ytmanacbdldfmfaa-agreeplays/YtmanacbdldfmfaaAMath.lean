/-
 An agreement, by definition: a node's part, its rules, what it says; what holds of it whatever is taken. No Go here.
-/
import Derived.Test.YtmanacbdldfmfaaVa
namespace Go.Proofs.Ytmanacbdldfmfaa
/-- What a part is made of. -/
structure Pm where
 n : Nat
 t : Nat
 me : Int
 ht : Int
 own : ByteArray
/-- A part: round, step, lock, valid value, proposals, votes, decision. -/
structure Ag where
 rd : Int
 st : Int
 lk : ByteArray
 lr : Int
 vv : ByteArray
 vr : Int
 ps : List Vt
 vs : List Vt
 dn : Bool
 dc : ByteArray
abbrev emp : ByteArray := ⟨#[]⟩
def leadA (n h r : Int) : Int := if 1 ≤ n ∧ n ≤ 7 ∧ 0 ≤ h ∧ h ≤ 64 ∧ 0 ≤ r ∧ r ≤ 64 then Int.tmod (h + r) n + 1 else 0
def newA : Ag := ⟨-1, 0, emp, -1, emp, -1, [], [], false, emp⟩
def okPm (n t me ht : Int) (own : ByteArray) : Prop := hasQ n t ∧ 1 ≤ me ∧ me ≤ n ∧ 0 ≤ ht ∧ ht ≤ 64 ∧ own.size ≠ 0 ∧ own.size ≤ 4096
def okP (p : Pm) : Prop := okPm p.n p.t p.me p.ht p.own
def propA (ps : List Vt) (r : Int) : Option Vt := ps.find? fun m => decide (m.rd = r)
def isA (p : Pm) (vs : List Vt) (k r : Int) (B : ByteArray) : Bool := decide (qmV p.n p.t ≤ cntV vs k r B)
def hitA (p : Pm) (s : Ag) (r : Nat) : Option ByteArray := match propA s.ps (r : Int) with
 | some m => if isA p s.vs 3 (r : Int) m.vl = true then some m.vl else none
 | none => none
def seekA (f : Nat → Option ByteArray) : Nat → Nat → Option ByteArray
 | _, 0 => none
 | i, n + 1 => match f i with
  | some b => some b
  | none => seekA f (i + 1) n
def beginA (p : Pm) (s : Ag) (r : Int) : Ag × List Vt := if 64 ≤ r then (s, []) else
 ({ s with rd := r, st := 1 }, if leadA p.n p.ht r = p.me then [⟨1, p.me, r, s.vr, if s.vr < 0 then p.own else s.vv⟩] else [])
def voteA (p : Pm) (s : Ag) (k : Int) (B : ByteArray) : Ag × List Vt := ({ s with st := if k = 3 then 3 else 2 }, [⟨k, p.me, s.rd, 0, B⟩])
def r1 (p : Pm) (s : Ag) : Option (Ag × List Vt) := (seekA (hitA p s) 0 64).map fun B => ({ s with dn := true, dc := B }, [])
def r2 (p : Pm) (s : Ag) : Option (Ag × List Vt) := if s.rd < aheadV p.n p.t s.vs s.rd then some (beginA p s (aheadV p.n p.t s.vs s.rd)) else none
def r3 (p : Pm) (s : Ag) : Option (Ag × List Vt) := match propA s.ps s.rd with
 | some m => if s.st = 1 ∧ (m.va < 0 ∨ isA p s.vs 2 m.va m.vl = true) then some (voteA p s 2 (if s.lr < 0 ∨ s.lk = m.vl ∨ (0 ≤ m.va ∧ s.lr ≤ m.va) then m.vl else emp)) else none
 | none => none
def lockA (s : Ag) (B : ByteArray) : Ag := { s with vv := B, vr := s.rd, lk := B, lr := s.rd }
def validA (s : Ag) (B : ByteArray) : Ag := { s with vv := B, vr := s.rd }
def r5 (p : Pm) (s : Ag) : Option (Ag × List Vt) := match propA s.ps s.rd with
 | some m => if ¬ s.vr = s.rd ∧ ¬ s.st = 1 ∧ isA p s.vs 2 s.rd m.vl = true then some (if s.st = 2 then voteA p (lockA s m.vl) 3 m.vl else (validA s m.vl, [])) else none
 | none => none
def r6 (p : Pm) (s : Ag) : Option (Ag × List Vt) := if s.st = 2 ∧ isA p s.vs 2 s.rd emp = true then some (voteA p s 3 emp) else none
def ruleA (p : Pm) (s : Ag) : Option (Ag × List Vt) := (r1 p s).or ((r2 p s).or ((r3 p s).or ((r5 p s).or (r6 p s))))
def stlA (p : Pm) : Nat → Ag → Ag × List Vt
 | 0, s => (s, [])
 | n + 1, s => if s.dn = true then (s, []) else match ruleA p s with
  | none => (s, [])
  | some (s', o) => ((stlA p n s').1, o ++ (stlA p n s').2)
def timeA (p : Pm) (s : Ag) (v : Int) : Ag × List Vt := if v = 1 ∧ s.st = 1 then voteA p s 2 emp else if v = 2 ∧ s.st = 2 then voteA p s 3 emp else if v = 3 then beginA p s (s.rd + 1) else (s, [])
def wOk (m : Vt) : Bool := wrdOk m.kd m.fr m.rd m.va m.vl
def countA (p : Pm) (s : Ag) (m : Vt) : Option (Ag × List Vt) :=
 if m.kd = 4 then (if 1 ≤ m.va ∧ m.va ≤ 3 ∧ m.rd = s.rd then some (timeA p s m.va) else none)
 else if wOk m = false then none
 else if m.kd = 1 then (if propA s.ps m.rd = none ∧ m.fr = leadA p.n p.ht m.rd then some ({ s with ps := s.ps ++ [m] }, []) else none)
 else if okV p.n s.vs m = true then some ({ s with vs := s.vs ++ [m] }, []) else none
def takeA (p : Pm) (s : Ag) (m : Vt) : Ag × List Vt := if s.rd < 0 ∨ s.dn = true then (s, []) else match countA p s m with
 | none => (s, [])
 | some (s', o) => ((stlA p 1000 s').1, o ++ (stlA p 1000 s').2)
def startA (p : Pm) (s : Ag) : Ag × List Vt := if 0 ≤ s.rd then (s, []) else beginA p s 0
/-- What holds of a part, whatever it took. -/
structure InvA (p : Pm) (s : Ag) : Prop where
 rd : -1 ≤ s.rd ∧ s.rd < 64
 st : (s.rd = -1 → s.st = 0) ∧ (0 ≤ s.rd → 1 ≤ s.st ∧ s.st ≤ 3)
 lr : -1 ≤ s.lr ∧ s.lr ≤ s.rd
 vr : -1 ≤ s.vr ∧ s.vr ≤ s.rd
 vv : 0 ≤ s.vr → s.vv.size ≠ 0 ∧ s.vv.size ≤ 4096
 lk : s.lk.size ≤ 4096
 ps : ∀ m ∈ s.ps, m.kd = 1 ∧ wOk m = true
 vs : InvV p.n s.vs
 dc : s.dc.size ≤ 4096 ∧ (s.dn = true ↔ s.dc.size ≠ 0)
 nw : s.rd = -1 → s.ps = [] ∧ s.vs = [] ∧ s.dn = false
def mu (s : Ag) : Nat := (63 - s.rd).toNat * 4 + (3 - s.st).toNat + (if s.vr = s.rd then 0 else 1) + (if s.dn = true then 0 else 1)
theorem mu_le {p : Pm} {s : Ag} (h : InvA p s) (h0 : 0 ≤ s.rd) : mu s ≤ 256 := by
 have := h.rd; have := h.st.2 h0
 unfold mu
 split <;> split <;> omega
theorem wOk_iff {m : Vt} : wOk m = true ↔ 1 ≤ m.fr ∧ m.fr ≤ 7 ∧ 0 ≤ m.rd ∧ m.rd < 64 ∧ m.vl.size ≤ 4096 ∧ ((m.kd = 1 ∧ -1 ≤ m.va ∧ m.va < m.rd ∧ m.vl.size ≠ 0) ∨ ((m.kd = 2 ∨ m.kd = 3) ∧ m.va = 0)) := by
 unfold wOk wrdOk; exact decide_eq_true_iff
theorem prop_mem {ps : List Vt} {r : Int} {m : Vt} (h : propA ps r = some m) : m ∈ ps ∧ m.rd = r := by
 unfold propA at h
 exact ⟨List.mem_of_find?_eq_some h, by have := List.find?_some h; simpa using this⟩
theorem prop_wf {p : Pm} {s : Ag} (h : InvA p s) {r : Int} {m : Vt} (e : propA s.ps r = some m) : m.rd = r ∧ -1 ≤ m.va ∧ m.va < r ∧ m.vl.size ≠ 0 ∧ m.vl.size ≤ 4096 := by
 obtain ⟨h1, h2⟩ := prop_mem e
 obtain ⟨k, q⟩ := h.ps m h1
 have := wOk_iff.1 q
 subst h2
 refine ⟨rfl, ?_, ?_, ?_, this.2.2.2.2.1⟩ <;> omega
theorem ahd_range (f : Nat → Nat) (T : Nat) (q : Int) : ∀ n, ahd f T q n = -1 ∨ (q < ahd f T q n ∧ 0 ≤ ahd f T q n ∧ ahd f T q n < (n : Int))
 | 0 => .inl rfl
 | n + 1 => by
  unfold ahd
  split
  ·split
   ·right; push_cast; omega
   ·rcases ahd_range f T q n with e | e
    ·exact .inl e
    ·right; push_cast; omega
  ·exact .inl rfl
theorem ahead_range (N T : Nat) (L : List Vt) (q : Int) : aheadV N T L q = -1 ∨ (q < aheadV N T L q ∧ 0 ≤ aheadV N T L q ∧ aheadV N T L q < 64) := ahd_range _ T q 64
theorem seek_some {f : Nat → Option ByteArray} {B : ByteArray} : ∀ (n i : Nat), seekA f i n = some B → ∃ r, f r = some B
 | 0, i, h => by cases h
 | n + 1, i, h => by
  unfold seekA at h
  cases e : f i with
  | some b => rw [e] at h; exact ⟨i, by rw [e]; exact h⟩
  | none => rw [e] at h; exact seek_some n (i + 1) h
theorem inv_new (p : Pm) : InvA p newA := by
 refine ⟨by simp [newA], ⟨fun _ => rfl, fun h => by simp [newA] at h⟩, by simp [newA], by simp [newA], fun h => by simp [newA] at h, by simp [newA, ByteArray.size], fun m hm => by simp [newA] at hm, inv_nil _, by simp [newA, ByteArray.size], fun _ => ⟨rfl, rfl, rfl⟩⟩
theorem begin_eq {p : Pm} {s : Ag} {r : Int} (h : r < 64) : beginA p s r = ({ s with rd := r, st := 1 }, if leadA p.n p.ht r = p.me then [⟨1, p.me, r, s.vr, if s.vr < 0 then p.own else s.vv⟩] else []) := if_neg (by omega)
theorem inv_begin {p : Pm} {s : Ag} (h : InvA p s) {r : Int} (hr : s.rd < r) : InvA p (beginA p s r).1 := by
 by_cases h6 : 64 ≤ r
 ·unfold beginA; rw [if_pos h6]; exact h
 ·rw [begin_eq (by omega)]
  have := h.rd; have := h.lr; have := h.vr
  refine ⟨?_, ⟨fun q => ?_, fun _ => ⟨Int.le_refl 1, (by decide : (1 : Int) ≤ 3)⟩⟩, ?_, ?_, h.vv, h.lk, h.ps, h.vs, h.dc, fun q => ?_⟩
  ·show -1 ≤ r ∧ r < 64; omega
  ·have : r = -1 := q; omega
  ·show -1 ≤ s.lr ∧ s.lr ≤ r; omega
  ·show -1 ≤ s.vr ∧ s.vr ≤ r; omega
  ·have : r = -1 := q; omega
theorem inv_vote {p : Pm} {s : Ag} (h : InvA p s) (h0 : 0 ≤ s.rd) (k : Int) (B : ByteArray) : InvA p (voteA p s k B).1 := by
 refine ⟨h.rd, ⟨fun q => ?_, fun _ => ?_⟩, h.lr, h.vr, h.vv, h.lk, h.ps, h.vs, h.dc, h.nw⟩
 ·have : s.rd = -1 := q; omega
 ·show 1 ≤ (if k = 3 then (3 : Int) else 2) ∧ (if k = 3 then (3 : Int) else 2) ≤ 3
  split <;> omega
theorem inv_lock {p : Pm} {s : Ag} (h : InvA p s) {B : ByteArray} (h1 : B.size ≠ 0) (h2 : B.size ≤ 4096) : InvA p (lockA s B) := by
 have := h.rd
 exact ⟨h.rd, h.st, ⟨by show -1 ≤ s.rd; omega, Int.le_refl _⟩, ⟨by show -1 ≤ s.rd; omega, Int.le_refl _⟩, fun _ => ⟨h1, h2⟩, h2, h.ps, h.vs, h.dc, h.nw⟩
theorem inv_valid {p : Pm} {s : Ag} (h : InvA p s) {B : ByteArray} (h1 : B.size ≠ 0) (h2 : B.size ≤ 4096) : InvA p (validA s B) := by
 have := h.rd
 exact ⟨h.rd, h.st, h.lr, ⟨by show -1 ≤ s.rd; omega, Int.le_refl _⟩, fun _ => ⟨h1, h2⟩, h.lk, h.ps, h.vs, h.dc, h.nw⟩
theorem hit_wf {p : Pm} {s : Ag} (h : InvA p s) {r : Nat} {B : ByteArray} (e : hitA p s r = some B) : B.size ≠ 0 ∧ B.size ≤ 4096 := by
 unfold hitA at e
 cases q : propA s.ps (r : Int) with
 | none => rw [q] at e; cases e
 | some m =>
  rw [q] at e
  have := prop_wf h q
  dsimp only at e
  split at e
  ·injection e with e; subst e; exact this.2.2.2
  ·cases e
/-- What a rule does to a part. -/
structure StepA (p : Pm) (s s' : Ag) : Prop where
 inv : InvA p s'
 rd : 0 ≤ s'.rd
 mu : mu s' < mu s
 ps : s'.ps = s.ps
 vs : s'.vs = s.vs
theorem step1 {p : Pm} {s : Ag} (h : InvA p s) (h0 : 0 ≤ s.rd) (hd : s.dn = false) {x : Ag × List Vt} (e : r1 p s = some x) : StepA p s x.1 := by
 unfold r1 at e
 cases q : seekA (hitA p s) 0 64 with
 | none => rw [q] at e; cases e
 | some B =>
  rw [q] at e
  simp only [Option.map_some, Option.some.injEq] at e
  subst e
  obtain ⟨r, hr⟩ := seek_some _ _ q
  have hw := hit_wf h hr
  refine ⟨⟨h.rd, h.st, h.lr, h.vr, h.vv, h.lk, h.ps, h.vs, ⟨hw.2, fun _ => hw.1, fun _ => rfl⟩, fun q => ?_⟩, h0, ?_, rfl, rfl⟩
  ·have : s.rd = -1 := q; omega
  ·unfold mu; simp [hd]
theorem step2 {p : Pm} {s : Ag} (h : InvA p s) (h0 : 0 ≤ s.rd) (hd : s.dn = false) {x : Ag × List Vt} (e : r2 p s = some x) : StepA p s x.1 := by
 unfold r2 at e
 split at e
 ·rename_i hlt
  injection e with e
  subst e
  have hb := inv_begin h hlt
  have hr := ahead_range p.n p.t s.vs s.rd
  generalize aheadV p.n p.t s.vs s.rd = a at *
  have h6 : a < 64 := by omega
  rw [begin_eq h6] at hb ⊢
  refine ⟨hb, by show 0 ≤ a; omega, ?_, rfl, rfl⟩
  have := h.vr
  have := h.st.2 h0
  unfold mu
  simp only [hd]
  split <;> split <;> simp <;> omega
 ·cases e
theorem step3 {p : Pm} {s : Ag} (h : InvA p s) (h0 : 0 ≤ s.rd) (_hd : s.dn = false) {x : Ag × List Vt} (e : r3 p s = some x) : StepA p s x.1 := by
 unfold r3 at e
 split at e
 ·split at e
  ·rename_i hc
   injection e with e
   subst e
   refine ⟨inv_vote h h0 _ _, h0, ?_, rfl, rfl⟩
   unfold voteA mu
   simp [hc.1]
  ·cases e
 ·cases e
theorem step5 {p : Pm} {s : Ag} (h : InvA p s) (h0 : 0 ≤ s.rd) (_hd : s.dn = false) {x : Ag × List Vt} (e : r5 p s = some x) : StepA p s x.1 := by
 unfold r5 at e
 split at e
 ·rename_i m hm
  have hw := prop_wf h hm
  split at e
  ·rename_i hc
   injection e with e
   subst e
   have := h.st.2 h0
   split
   ·rename_i h2
    refine ⟨inv_vote (inv_lock h hw.2.2.2.1 hw.2.2.2.2) h0 _ _, h0, ?_, rfl, rfl⟩
    unfold voteA lockA mu
    simp [hc.1, h2]
    omega
   ·refine ⟨inv_valid h hw.2.2.2.1 hw.2.2.2.2, h0, ?_, rfl, rfl⟩
    unfold validA mu
    simp [hc.1]
  ·cases e
 ·cases e
theorem step6 {p : Pm} {s : Ag} (h : InvA p s) (h0 : 0 ≤ s.rd) (_hd : s.dn = false) {x : Ag × List Vt} (e : r6 p s = some x) : StepA p s x.1 := by
 unfold r6 at e
 split at e
 ·rename_i hc
  injection e with e
  subst e
  refine ⟨inv_vote h h0 _ _, h0, ?_, rfl, rfl⟩
  unfold voteA mu
  simp [hc.1]
 ·cases e
/-- Which rule applied. -/
theorem rule_case {p : Pm} {s : Ag} {x : Ag × List Vt} (e : ruleA p s = some x) : r1 p s = some x ∨ (r1 p s = none ∧ r2 p s = some x) ∨ (r2 p s = none ∧ r3 p s = some x) ∨ (r2 p s = none ∧ r5 p s = some x) ∨ (r2 p s = none ∧ r6 p s = some x) := by
 unfold ruleA at e
 cases h1 : r1 p s with
 | some y => rw [h1] at e; exact .inl e
 | none =>
  rw [h1, Option.none_or] at e
  cases h2 : r2 p s with
  | some y => rw [h2] at e; exact .inr (.inl ⟨rfl, e⟩)
  | none =>
   rw [h2, Option.none_or] at e
   cases h3 : r3 p s with
   | some y => rw [h3] at e; exact .inr (.inr (.inl ⟨rfl, e⟩))
   | none =>
    rw [h3, Option.none_or] at e
    cases h5 : r5 p s with
    | some y => rw [h5] at e; exact .inr (.inr (.inr (.inl ⟨rfl, e⟩)))
    | none => rw [h5, Option.none_or] at e; exact .inr (.inr (.inr (.inr ⟨rfl, e⟩)))
theorem step_rule {p : Pm} {s : Ag} (h : InvA p s) (h0 : 0 ≤ s.rd) (hd : s.dn = false) {x : Ag × List Vt} (e : ruleA p s = some x) : StepA p s x.1 := by
 rcases rule_case e with q | q | q | q | q
 ·exact step1 h h0 hd q
 ·exact step2 h h0 hd q.2
 ·exact step3 h h0 hd q.2
 ·exact step5 h h0 hd q.2
 ·exact step6 h h0 hd q.2
/-- Enough rounds are as good as more. -/
theorem stl_fuel {p : Pm} : ∀ (n k : Nat) {s : Ag}, InvA p s → 0 ≤ s.rd → mu s ≤ n → mu s ≤ k → stlA p n s = stlA p k s
 | 0, k, s, h, h0, hn, _ => by
  have : s.dn = true := Classical.byContradiction fun q => by unfold mu at hn; rw [if_neg q] at hn; omega
  cases k with
  | zero => rfl
  | succ k => unfold stlA; rw [if_pos this]
 | n + 1, 0, s, h, h0, _, hk => by
  have : s.dn = true := Classical.byContradiction fun q => by unfold mu at hk; rw [if_neg q] at hk; omega
  unfold stlA; rw [if_pos this]
 | n + 1, k + 1, s, h, h0, hn, hk => by
  unfold stlA
  by_cases hd : s.dn = true
  ·rw [if_pos hd, if_pos hd]
  ·rw [if_neg hd, if_neg hd]
   cases e : ruleA p s with
   | none => rfl
   | some x =>
    have q := step_rule h h0 (by simpa using hd) e
    obtain ⟨s', o⟩ := x
    have := stl_fuel n k q.inv q.rd (by have := q.mu; omega) (by have := q.mu; omega)
    dsimp only at this ⊢
    rw [this]
def stl (p : Pm) (s : Ag) : Ag × List Vt := stlA p 1000 s
theorem stl_done {p : Pm} {s : Ag} (h : s.dn = true) : stl p s = (s, []) := by unfold stl stlA; rw [if_pos h]
theorem stl_none {p : Pm} {s : Ag} (h : ruleA p s = none) : stl p s = (s, []) := by
 unfold stl stlA
 rw [h]
 split <;> rfl
theorem stl_some {p : Pm} {s : Ag} (h : InvA p s) (h0 : 0 ≤ s.rd) (hd : s.dn = false) {s' : Ag} {o : List Vt} (e : ruleA p s = some (s', o)) : stl p s = ((stl p s').1, o ++ (stl p s').2) := by
 have q := step_rule h h0 hd e
 have h2 : mu s' ≤ 256 := mu_le q.inv q.rd
 have : stlA p 999 s' = stlA p 1000 s' := stl_fuel 999 1000 q.inv q.rd (by omega) (by omega)
 show stlA p (999 + 1) s = _
 unfold stlA
 rw [hd, if_neg (by decide), e]
 dsimp only
 rw [this]
 rfl
/-- Nothing applies. -/
def Quiet (p : Pm) (s : Ag) : Prop := s.dn = true ∨ ruleA p s = none
theorem stl_quiet_of {p : Pm} : ∀ (n : Nat) {s : Ag}, InvA p s → 0 ≤ s.rd → mu s ≤ n → InvA p (stl p s).1 ∧ 0 ≤ (stl p s).1.rd ∧ Quiet p (stl p s).1 ∧ (stl p s).1.ps = s.ps ∧ (stl p s).1.vs = s.vs
 | n, s, h, h0, hn => by
  by_cases hd : s.dn = true
  ·rw [stl_done hd]; exact ⟨h, h0, .inl hd, rfl, rfl⟩
  ·have hd2 : s.dn = false := by simpa using hd
   cases e : ruleA p s with
   | none => rw [stl_none e]; exact ⟨h, h0, .inr e, rfl, rfl⟩
   | some x =>
    obtain ⟨s', o⟩ := x
    have q := step_rule h h0 hd2 e
    rw [stl_some h h0 hd2 e]
    cases n with
    | zero => have := q.mu; omega
    | succ n =>
     have := stl_quiet_of n q.inv q.rd (by have := q.mu; omega)
     exact ⟨this.1, this.2.1, this.2.2.1, this.2.2.2.1.trans q.ps, this.2.2.2.2.trans q.vs⟩
theorem stl_quiet {p : Pm} {s : Ag} (h : InvA p s) (h0 : 0 ≤ s.rd) : InvA p (stl p s).1 ∧ 0 ≤ (stl p s).1.rd ∧ Quiet p (stl p s).1 ∧ (stl p s).1.ps = s.ps ∧ (stl p s).1.vs = s.vs := stl_quiet_of _ h h0 (Nat.le_refl _)
/-- Something that holds from rule to rule holds at the end. -/
theorem stl_ind {p : Pm} {P : Ag → List Vt → Prop} (hs : ∀ s L s' o, InvA p s → 0 ≤ s.rd → s.dn = false → ruleA p s = some (s', o) → P s L → P s' (L ++ o)) : ∀ (n : Nat) {s : Ag} {L : List Vt}, InvA p s → 0 ≤ s.rd → mu s ≤ n → P s L → P (stl p s).1 (L ++ (stl p s).2)
 | n, s, L, h, h0, hn, hp => by
  by_cases hd : s.dn = true
  ·rw [stl_done hd]; simpa using hp
  ·have hd2 : s.dn = false := by simpa using hd
   cases e : ruleA p s with
   | none => rw [stl_none e]; simpa using hp
   | some x =>
    obtain ⟨s', o⟩ := x
    have q := step_rule h h0 hd2 e
    rw [stl_some h h0 hd2 e]
    cases n with
    | zero => have := q.mu; omega
    | succ n =>
     have := stl_ind hs n q.inv q.rd (by have := q.mu; omega) (hs s L s' o h h0 hd2 e hp)
     rw [List.append_assoc] at this
     exact this
theorem inv_time {p : Pm} {s : Ag} (h : InvA p s) (h0 : 0 ≤ s.rd) (v : Int) : InvA p (timeA p s v).1 ∧ 0 ≤ (timeA p s v).1.rd ∧ (timeA p s v).1.ps = s.ps ∧ (timeA p s v).1.vs = s.vs ∧ (timeA p s v).1.dn = s.dn := by
 unfold timeA
 split
 ·exact ⟨inv_vote h h0 _ _, h0, rfl, rfl, rfl⟩
 ·split
  ·exact ⟨inv_vote h h0 _ _, h0, rfl, rfl, rfl⟩
  ·split
   ·refine ⟨inv_begin h (by omega), ?_, ?_, ?_, ?_⟩ <;> (unfold beginA; split)
    ·exact h0
    ·show 0 ≤ s.rd + 1; omega
    all_goals rfl
   ·exact ⟨h, h0, rfl, rfl, rfl⟩
theorem inv_count {p : Pm} {s : Ag} (h : InvA p s) (h0 : 0 ≤ s.rd) {m : Vt} {x : Ag × List Vt} (e : countA p s m = some x) : InvA p x.1 ∧ 0 ≤ x.1.rd ∧ x.1.ps.length + x.1.vs.length ≤ s.ps.length + s.vs.length + 1 ∧ x.1.dn = s.dn := by
 unfold countA at e
 split at e
 ·split at e
  ·injection e with e; subst e
   obtain ⟨q1, q2, q3, q4, q5⟩ := inv_time h h0 m.va
   exact ⟨q1, q2, by rw [q3, q4]; omega, q5⟩
  ·cases e
 ·split at e
  ·cases e
  ·rename_i hw
   split at e
   ·rename_i hk
    split at e
    ·injection e with e; subst e
     refine ⟨⟨h.rd, h.st, h.lr, h.vr, h.vv, h.lk, fun a ha => ?_, h.vs, h.dc, fun q => ?_⟩, h0, by simp; omega, rfl⟩
     ·rcases List.mem_append.1 ha with q | q
      ·exact h.ps a q
      ·obtain rfl := List.mem_singleton.1 q
       exact ⟨hk, by simpa using hw⟩
     ·have : s.rd = -1 := q; omega
    ·cases e
   ·split at e
    ·rename_i ho
     injection e with e; subst e
     refine ⟨⟨h.rd, h.st, h.lr, h.vr, h.vv, h.lk, h.ps, by rw [← put_ok ho]; exact inv_put h.vs m, h.dc, fun q => ?_⟩, h0, by simp; omega, rfl⟩
     have : s.rd = -1 := q; omega
    ·cases e
theorem take_eq {p : Pm} {s : Ag} (h0 : 0 ≤ s.rd) (hd : s.dn = false) (m : Vt) : takeA p s m = match countA p s m with
 | none => (s, [])
 | some (s', o) => ((stl p s').1, o ++ (stl p s').2) := by
 unfold takeA
 rw [if_neg (by rw [hd]; simp; omega)]
 rfl
theorem inv_take {p : Pm} {s : Ag} (h : InvA p s) (m : Vt) : InvA p (takeA p s m).1 ∧ (takeA p s m).1.ps.length + (takeA p s m).1.vs.length ≤ s.ps.length + s.vs.length + 1 ∧ (0 ≤ s.rd → Quiet p s → 0 ≤ (takeA p s m).1.rd ∧ Quiet p (takeA p s m).1) := by
 by_cases hc : s.rd < 0 ∨ s.dn = true
 ·unfold takeA
  rw [if_pos hc]
  exact ⟨h, by dsimp only; omega, fun a b => ⟨a, b⟩⟩
 ·have h0 : 0 ≤ s.rd := by omega
  have hd : s.dn = false := by simpa using fun q => hc (.inr q)
  rw [take_eq h0 hd]
  cases e : countA p s m with
  | none => exact ⟨h, by dsimp only; omega, fun a b => ⟨a, b⟩⟩
  | some x =>
   obtain ⟨q1, q2, q3, q4⟩ := inv_count h h0 e
   obtain ⟨s', o⟩ := x
   obtain ⟨t1, t2, t3, t4, t5⟩ := stl_quiet q1 q2
   exact ⟨t1, by dsimp only; rw [t4, t5]; exact q3, fun _ _ => ⟨t2, t3⟩⟩
theorem start_eq {p : Pm} : startA p newA = ({ newA with rd := 0, st := 1 }, if leadA p.n p.ht 0 = p.me then [⟨1, p.me, 0, -1, p.own⟩] else []) := by
 unfold startA
 rw [if_neg (by show ¬ (0 : Int) ≤ -1; decide), begin_eq (by decide)]
 rfl
theorem hit_nil {p : Pm} {s : Ag} (h : s.ps = []) (r : Nat) : hitA p s r = none := by unfold hitA propA; rw [h]; rfl
theorem seek_none {f : Nat → Option ByteArray} (h : ∀ r, f r = none) : ∀ n i, seekA f i n = none
 | 0, _ => rfl
 | n + 1, i => by unfold seekA; rw [h]; exact seek_none h n (i + 1)
theorem hasR_nil (r q : Int) : hasR [] r q = false := rfl
theorem nds_nil (r : Int) : ∀ n, nds [] r n = 0
 | 0 => rfl
 | n + 1 => by unfold nds; rw [nds_nil r n, hasR_nil]; rfl
theorem ahd_none {f : Nat → Nat} (T : Nat) (q : Int) (h : ∀ r, f r = 0) : ∀ n, ahd f T q n = -1
 | 0 => rfl
 | n + 1 => by
  unfold ahd
  rw [h]
  split
  ·rw [if_neg (by omega)]; exact ahd_none T q h n
  ·rfl
theorem start_quiet (p : Pm) : InvA p (startA p newA).1 ∧ (startA p newA).1.rd = 0 ∧ ruleA p (startA p newA).1 = none := by
 refine ⟨?_, by rw [start_eq], ?_⟩
 ·unfold startA
  rw [if_neg (by show ¬ (0 : Int) ≤ -1; decide)]
  exact inv_begin (inv_new p) (by show (-1 : Int) < 0; decide)
 ·rw [start_eq]
  have h1 : r1 p { newA with rd := 0, st := 1 } = none := by
   unfold r1
   rw [seek_none (fun r => hit_nil rfl r)]
   rfl
  have h2 : r2 p { newA with rd := 0, st := 1 } = none := by
   unfold r2
   rw [if_neg]
   show ¬ (0 : Int) < aheadV p.n p.t [] 0
   unfold aheadV
   rw [ahd_none _ _ (fun r => nds_nil _ _)]
   decide
  unfold ruleA
  rw [h1, h2]
  rfl
/-- What was said so far: its own words, each kind once in a round, in rounds that do not fall; what is still to be said in this round is behind its step. -/
structure SaidA (p : Pm) (s : Ag) (L : List Vt) : Prop where
 wf : ∀ m ∈ L, m.fr = p.me ∧ wOk m = true
 le : ∀ m ∈ L, m.rd ≤ s.rd ∧ (m.rd = s.rd → (m.kd = 2 → 2 ≤ s.st) ∧ (m.kd = 3 → 3 ≤ s.st))
 up : L.Pairwise fun a b => a.rd ≤ b.rd
 df : L.Pairwise fun a b => ¬ (a.kd = b.kd ∧ a.rd = b.rd)
theorem SaidA.add {p : Pm} {s s' : Ag} {L : List Vt} {m : Vt} (h : SaidA p s L) (hf : m.fr = p.me) (hw : wOk m = true) (hr : m.rd = s'.rd) (h2 : m.kd = 2 → 2 ≤ s'.st) (h3 : m.kd = 3 → 3 ≤ s'.st) (hle : ∀ a ∈ L, a.rd ≤ s'.rd ∧ (a.rd = s'.rd → (a.kd = 2 → 2 ≤ s'.st) ∧ (a.kd = 3 → 3 ≤ s'.st))) (hd : ∀ a ∈ L, ¬ (a.kd = m.kd ∧ a.rd = m.rd)) : SaidA p s' (L ++ [m]) := by
 refine ⟨fun a ha => ?_, fun a ha => ?_, ?_, ?_⟩
 ·rcases List.mem_append.1 ha with q | q
  ·exact h.wf a q
  ·obtain rfl := List.mem_singleton.1 q; exact ⟨hf, hw⟩
 ·rcases List.mem_append.1 ha with q | q
  ·exact hle a q
  ·obtain rfl := List.mem_singleton.1 q; exact ⟨by omega, fun _ => ⟨h2, h3⟩⟩
 ·rw [List.pairwise_append]
  refine ⟨h.up, List.pairwise_singleton _ _, fun a ha b hb => ?_⟩
  obtain rfl := List.mem_singleton.1 hb
  have := (hle a ha).1
  omega
 ·rw [List.pairwise_append]
  refine ⟨h.df, List.pairwise_singleton _ _, fun a ha b hb => ?_⟩
  obtain rfl := List.mem_singleton.1 hb
  exact hd a ha
theorem SaidA.same {p : Pm} {s s' : Ag} {L : List Vt} (h : SaidA p s L) (hr : s'.rd = s.rd) (hs : s'.st = s.st) : SaidA p s' L := ⟨h.wf, by rw [hr, hs]; exact h.le, h.up, h.df⟩
theorem said_begin {p : Pm} (hp : okP p) {s : Ag} {L : List Vt} (hi : InvA p s) (h : SaidA p s L) {r : Int} (hr : s.rd < r) (h0 : 0 ≤ r) : SaidA p (beginA p s r).1 (L ++ (beginA p s r).2) := by
 by_cases h6 : 64 ≤ r
 ·unfold beginA; rw [if_pos h6]; simpa using h
 ·rw [begin_eq (by omega)]
  have hle : ∀ a ∈ L, a.rd ≤ r ∧ (a.rd = r → (a.kd = 2 → 2 ≤ (1 : Int)) ∧ (a.kd = 3 → 3 ≤ (1 : Int))) := fun a ha => by
   have := (h.le a ha).1
   exact ⟨by omega, fun q => by omega⟩
  dsimp only
  split
  ·refine h.add (m := ⟨1, p.me, r, s.vr, if s.vr < 0 then p.own else s.vv⟩) rfl ?_ rfl (fun q => by cases q) (fun q => by cases q) hle fun a ha q => ?_
   ·obtain ⟨_, m1, m2, _, _, o1, o2⟩ := hp
    have hn : (p.n : Int) ≤ 7 := (by assumption : hasQ p.n p.t).2.2.2
    have := hi.vr
    rw [wOk_iff]
    refine ⟨m1, by show p.me ≤ 7; omega, h0, by show r < 64; omega, ?_, .inl ⟨rfl, by show -1 ≤ s.vr; omega, by show s.vr < r; omega, ?_⟩⟩
    ·show (if s.vr < 0 then p.own else s.vv).size ≤ 4096
     split
     ·exact o2
     ·exact (hi.vv (by omega)).2
    ·show (if s.vr < 0 then p.own else s.vv).size ≠ 0
     split
     ·exact o1
     ·exact (hi.vv (by omega)).1
   ·have := (h.le a ha).1
    have : a.rd = r := q.2
    omega
  ·rw [List.append_nil]
   exact ⟨h.wf, hle, h.up, h.df⟩
theorem said_vote {p : Pm} (hp : okP p) {s : Ag} {L : List Vt} (hi : InvA p s) (h0 : 0 ≤ s.rd) (h : SaidA p s L) {k : Int} {B : ByteArray} (hk : (k = 2 ∧ s.st = 1) ∨ (k = 3 ∧ s.st = 2)) (hB : B.size ≤ 4096) : SaidA p (voteA p s k B).1 (L ++ (voteA p s k B).2) := by
 have hw : wOk ⟨k, p.me, s.rd, 0, B⟩ = true := by
  obtain ⟨q, m1, m2, _⟩ := hp
  have hn : (p.n : Int) ≤ 7 := q.2.2.2
  have := hi.rd
  rw [wOk_iff]
  exact ⟨m1, by show p.me ≤ 7; omega, h0, this.2, hB, .inr ⟨by show k = 2 ∨ k = 3; omega, rfl⟩⟩
 unfold voteA
 refine h.add rfl hw rfl (fun q => ?_) (fun q => ?_) (fun a ha => ⟨(h.le a ha).1, fun q => ?_⟩) fun a ha q => ?_
 ·have q2 : k = 2 := q
  show 2 ≤ if k = 3 then (3 : Int) else 2
  split <;> omega
 ·have q2 : k = 3 := q
  show 3 ≤ if k = 3 then (3 : Int) else 2
  rw [if_pos q2]; omega
 ·have := (h.le a ha).2 q
  show (a.kd = 2 → 2 ≤ if k = 3 then (3 : Int) else 2) ∧ (a.kd = 3 → 3 ≤ if k = 3 then (3 : Int) else 2)
  split <;> omega
 ·have := (h.le a ha).2 q.2
  have : a.kd = k := q.1
  omega
theorem said_rule {p : Pm} (hp : okP p) (s : Ag) (L : List Vt) (s' : Ag) (o : List Vt) (hi : InvA p s) (h0 : 0 ≤ s.rd) (_hd : s.dn = false) (e : ruleA p s = some (s', o)) (h : SaidA p s L) : SaidA p s' (L ++ o) := by
 rcases rule_case e with q | q | q | q | q
 ·unfold r1 at q
  cases q2 : seekA (hitA p s) 0 64 with
  | none => rw [q2] at q; cases q
  | some B =>
   rw [q2] at q
   simp only [Option.map_some, Option.some.injEq, Prod.mk.injEq] at q
   obtain ⟨rfl, rfl⟩ := q
   rw [List.append_nil]
   exact h.same rfl rfl
 ·obtain ⟨_, q⟩ := q
  unfold r2 at q
  split at q
  ·rename_i hlt
   injection q with q
   have := said_begin hp hi h hlt (by omega)
   rw [q] at this
   exact this
  ·cases q
 ·obtain ⟨_, q⟩ := q
  unfold r3 at q
  split at q
  ·rename_i m hm
   have hw := prop_wf hi hm
   split at q
   ·rename_i hc
    injection q with q
    have := said_vote hp hi h0 h (k := 2) (B := if s.lr < 0 ∨ s.lk = m.vl ∨ (0 ≤ m.va ∧ s.lr ≤ m.va) then m.vl else emp) (.inl ⟨rfl, hc.1⟩) (by split; exact hw.2.2.2.2; decide)
    rw [q] at this
    exact this
   ·cases q
  ·cases q
 ·obtain ⟨_, q⟩ := q
  unfold r5 at q
  split at q
  ·rename_i m hm
   have hw := prop_wf hi hm
   split at q
   ·rename_i hc
    injection q with q
    split at q
    ·rename_i h2
     have := said_vote hp (inv_lock hi hw.2.2.2.1 hw.2.2.2.2) h0 (h.same (s' := lockA s m.vl) rfl rfl) (k := 3) (B := m.vl) (.inr ⟨rfl, h2⟩) hw.2.2.2.2
     rw [q] at this
     exact this
    ·simp only [Prod.mk.injEq] at q
     obtain ⟨rfl, rfl⟩ := q
     rw [List.append_nil]
     exact h.same rfl rfl
   ·cases q
  ·cases q
 ·obtain ⟨_, q⟩ := q
  unfold r6 at q
  split at q
  ·rename_i hc
   injection q with q
   have := said_vote hp hi h0 h (k := 3) (B := emp) (.inr ⟨rfl, hc.1⟩) (by decide)
   rw [q] at this
   exact this
  ·cases q
theorem said_count {p : Pm} (hp : okP p) {s : Ag} {L : List Vt} (hi : InvA p s) (h0 : 0 ≤ s.rd) {m : Vt} {x : Ag × List Vt} (e : countA p s m = some x) (h : SaidA p s L) : SaidA p x.1 (L ++ x.2) := by
 unfold countA at e
 split at e
 ·split at e
  ·injection e with e; subst e
   unfold timeA
   split
   ·rename_i q; exact said_vote hp hi h0 h (.inl ⟨rfl, q.2⟩) (by decide)
   ·split
    ·rename_i q; exact said_vote hp hi h0 h (.inr ⟨rfl, q.2⟩) (by decide)
    ·split
     ·exact said_begin hp hi h (by omega) (by omega)
     ·simpa using h
  ·cases e
 ·split at e
  ·cases e
  ·split at e
   ·split at e
    ·injection e with e; subst e; rw [List.append_nil]; exact h.same rfl rfl
    ·cases e
   ·split at e
    ·injection e with e; subst e; rw [List.append_nil]; exact h.same rfl rfl
    ·cases e
theorem said_take {p : Pm} (hp : okP p) {s : Ag} {L : List Vt} (hi : InvA p s) (h : SaidA p s L) (m : Vt) : SaidA p (takeA p s m).1 (L ++ (takeA p s m).2) := by
 by_cases hc : s.rd < 0 ∨ s.dn = true
 ·unfold takeA; rw [if_pos hc]; simpa using h
 ·have h0 : 0 ≤ s.rd := by omega
  have hd : s.dn = false := by simpa using fun q => hc (.inr q)
  rw [take_eq h0 hd]
  cases e : countA p s m with
  | none => simpa using h
  | some x =>
   obtain ⟨q1, q2, _, _⟩ := inv_count hi h0 e
   have := said_count hp hi h0 e h
   obtain ⟨s', o⟩ := x
   have := stl_ind (P := SaidA p) (said_rule hp) _ q1 q2 (Nat.le_refl _) this
   rw [List.append_assoc] at this
   exact this
theorem said_start {p : Pm} (hp : okP p) : SaidA p (startA p newA).1 (startA p newA).2 := by
 unfold startA
 rw [if_neg (by show ¬ (0 : Int) ≤ -1; decide)]
 have := said_begin hp (inv_new p) (L := []) ⟨fun m hm => (by cases hm), fun m hm => (by cases hm), List.Pairwise.nil, List.Pairwise.nil⟩ (r := 0) (by show (-1 : Int) < 0; decide) (Int.le_refl 0)
 simpa using this
/-- What precommits of a value say, while one word is taken: the lock is there. -/
def LockA (p : Pm) (l0 : Int) (s : Ag) (o : List Vt) : Prop := l0 ≤ s.lr ∧ ∀ m ∈ o, m.kd = 3 → m.vl ≠ emp → m.vl = s.lk ∧ m.rd = s.lr ∧ s.lr = s.rd ∧ s.st = 3 ∧ aheadV p.n p.t s.vs s.rd ≤ s.rd
theorem lock_begin {p : Pm} {l0 : Int} {s : Ag} {o : List Vt} (h : l0 ≤ s.lr) (hn : ∀ m ∈ o, m.kd = 3 → m.vl ≠ emp → False) (r : Int) : LockA p l0 (beginA p s r).1 (o ++ (beginA p s r).2) := by
 refine ⟨by unfold beginA; split <;> exact h, fun m hm h3 hv => ?_⟩
 rcases List.mem_append.1 hm with q | q
 ·exact (hn m q h3 hv).elim
 ·unfold beginA at q
  split at q
  ·cases q
  ·dsimp only at q
   split at q
   ·obtain rfl := List.mem_singleton.1 q; cases h3
   ·cases q
theorem lock_vote {p : Pm} {l0 : Int} {s : Ag} {o : List Vt} (h : l0 ≤ s.lr) (hn : ∀ m ∈ o, m.kd = 3 → m.vl ≠ emp → False) {k : Int} {B : ByteArray} (hk : k = 2 ∨ B = emp) : LockA p l0 (voteA p s k B).1 (o ++ (voteA p s k B).2) := by
 refine ⟨h, fun m hm h3 hv => ?_⟩
 rcases List.mem_append.1 hm with q | q
 ·exact (hn m q h3 hv).elim
 ·obtain rfl := List.mem_singleton.1 q
  rcases hk with e | e
  ·have : k = 3 := h3; omega
  ·exact (hv e).elim
theorem lock_rule {p : Pm} {l0 : Int} (s : Ag) (L : List Vt) (s' : Ag) (o : List Vt) (hi : InvA p s) (_h0 : 0 ≤ s.rd) (_hd : s.dn = false) (e : ruleA p s = some (s', o)) (h : LockA p l0 s L) : LockA p l0 s' (L ++ o) := by
 have no : ¬ s.st = 3 → ∀ m ∈ L, m.kd = 3 → m.vl ≠ emp → False := fun q m hm a b => q (h.2 m hm a b).2.2.2.1
 rcases rule_case e with q | q | q | q | q
 ·unfold r1 at q
  cases q2 : seekA (hitA p s) 0 64 with
  | none => rw [q2] at q; cases q
  | some B =>
   rw [q2] at q
   simp only [Option.map_some, Option.some.injEq, Prod.mk.injEq] at q
   obtain ⟨rfl, rfl⟩ := q
   rw [List.append_nil]
   exact h
 ·obtain ⟨_, q⟩ := q
  unfold r2 at q
  split at q
  ·rename_i hlt
   injection q with q
   have := lock_begin (p := p) h.1 (fun m hm a b => by have := (h.2 m hm a b).2.2.2.2; omega) (aheadV p.n p.t s.vs s.rd)
   rw [q] at this
   exact this
  ·cases q
 ·obtain ⟨_, q⟩ := q
  unfold r3 at q
  split at q
  ·split at q
   ·rename_i m hm hc
    injection q with q
    have := lock_vote (p := p) h.1 (no (by omega)) (k := 2) (B := if s.lr < 0 ∨ s.lk = m.vl ∨ (0 ≤ m.va ∧ s.lr ≤ m.va) then m.vl else emp) (.inl rfl)
    rw [q] at this
    exact this
   ·cases q
  ·cases q
 ·obtain ⟨hn2, q⟩ := q
  have hah : aheadV p.n p.t s.vs s.rd ≤ s.rd := by
   unfold r2 at hn2
   split at hn2
   ·cases hn2
   ·omega
  unfold r5 at q
  split at q
  ·rename_i m hm
   split at q
   ·rename_i hc
    injection q with q
    split at q
    ·rename_i h2
     unfold voteA at q
     simp only [Prod.mk.injEq] at q
     obtain ⟨rfl, rfl⟩ := q
     refine ⟨?_, fun a ha a3 av => ?_⟩
     ·show l0 ≤ s.rd
      have := h.1; have := hi.lr; omega
     ·rcases List.mem_append.1 ha with u | u
      ·exact (no (by omega) a u a3 av).elim
      ·obtain rfl := List.mem_singleton.1 u
       exact ⟨rfl, rfl, rfl, rfl, hah⟩
    ·simp only [Prod.mk.injEq] at q
     obtain ⟨rfl, rfl⟩ := q
     rw [List.append_nil]
     exact h
   ·cases q
  ·cases q
 ·obtain ⟨_, q⟩ := q
  unfold r6 at q
  split at q
  ·rename_i hc
   injection q with q
   have := lock_vote (p := p) h.1 (no (by omega)) (k := 3) (B := emp) (.inr rfl)
   rw [q] at this
   exact this
  ·cases q
theorem lock_take {p : Pm} {s : Ag} (hi : InvA p s) (m : Vt) : LockA p s.lr (takeA p s m).1 (takeA p s m).2 := by
 have nil : LockA p s.lr s [] := ⟨Int.le_refl _, fun m hm => by cases hm⟩
 by_cases hc : s.rd < 0 ∨ s.dn = true
 ·unfold takeA; rw [if_pos hc]; exact nil
 ·have h0 : 0 ≤ s.rd := by omega
  have hd : s.dn = false := by simpa using fun q => hc (.inr q)
  rw [take_eq h0 hd]
  cases e : countA p s m with
  | none => exact nil
  | some x =>
   obtain ⟨q1, q2, _, _⟩ := inv_count hi h0 e
   have hl : LockA p s.lr x.1 x.2 := by
    unfold countA at e
    split at e
    ·split at e
     ·injection e with e; subst e
      unfold timeA
      split
      ·have := lock_vote (p := p) (o := []) (Int.le_refl s.lr) (fun m hm => by cases hm) (k := 2) (B := emp) (.inr rfl); simpa using this
      ·split
       ·have := lock_vote (p := p) (o := []) (Int.le_refl s.lr) (fun m hm => by cases hm) (k := 3) (B := emp) (.inr rfl); simpa using this
       ·split
        ·have := lock_begin (p := p) (o := []) (Int.le_refl s.lr) (fun m hm => by cases hm) (s.rd + 1); simpa using this
        ·exact nil
     ·cases e
    ·split at e
     ·cases e
     ·split at e
      ·split at e
       ·injection e with e; subst e; exact ⟨Int.le_refl _, fun m hm => by cases hm⟩
       ·cases e
      ·split at e
       ·injection e with e; subst e; exact ⟨Int.le_refl _, fun m hm => by cases hm⟩
       ·cases e
   obtain ⟨s', o⟩ := x
   exact stl_ind (P := LockA p s.lr) lock_rule _ q1 q2 (Nat.le_refl _) hl
end Go.Proofs.Ytmanacbdldfmfaa
