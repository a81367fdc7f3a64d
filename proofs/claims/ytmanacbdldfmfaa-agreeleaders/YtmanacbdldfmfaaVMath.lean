/-
 Votes, by definition: which count, how many of a value and of any, the value of a quorum, the rounds ahead. No Go here.
-/
namespace Go.Proofs.Ytmanacbdldfmfaa
/-- A word: kind, sender, round, the round of its valid value, value. -/
structure Vt where
 kd : Int
 fr : Int
 rd : Int
 va : Int
 vl : ByteArray
/-- How many of a kind, a round and a value. -/
def cntV (L : List Vt) (k r : Int) (B : ByteArray) : Nat := L.countP fun m => decide (m.kd = k ∧ m.rd = r ∧ m.vl = B)
/-- How many of a kind and a round. -/
def anyV (L : List Vt) (k r : Int) : Nat := L.countP fun m => decide (m.kd = k ∧ m.rd = r)
/-- Is there one of a kind and a round from a node? -/
def hasV (L : List Vt) (k r p : Int) : Bool := L.any fun m => decide (m.kd = k ∧ m.rd = r ∧ m.fr = p)
/-- Is there one of a round from a node? -/
def hasR (L : List Vt) (r p : Int) : Bool := L.any fun m => decide (m.rd = r ∧ m.fr = p)
def mayV (N : Nat) (m : Vt) : Bool := decide ((m.kd = 2 ∨ m.kd = 3) ∧ 1 ≤ m.fr ∧ m.fr ≤ (N : Int) ∧ 0 ≤ m.rd ∧ m.rd < 64 ∧ m.vl.size ≤ 4096)
def okV (N : Nat) (L : List Vt) (m : Vt) : Bool := mayV N m && !hasV L m.kd m.rd m.fr
def putV (N : Nat) (L : List Vt) (m : Vt) : List Vt := if okV N L m then L ++ [m] else L
abbrev memV (v : ByteArray) (a : List ByteArray) : Decidable (v ∈ a) := @List.instDecidableMemOfLawfulBEq ByteArray instBEqOfDecidableEq inferInstance v a
/-- The values of a kind and a round, each once, as they came. -/
def dV (L : List Vt) (k r : Int) : List ByteArray := L.foldl (fun a m => if m.kd = k ∧ m.rd = r then (@ite _ (m.vl ∈ a) (memV m.vl a) a (a ++ [m.vl])) else a) []
/-- How many of the nodes 1 to n have a vote in a round. -/
def nds (L : List Vt) (r : Int) : Nat → Nat
 | 0 => 0
 | n + 1 => nds L r n + if hasR L r ((n : Int) + 1) then 1 else 0
/-- The greatest round below n, and beyond one, in which f is more than t. -/
def ahd (f : Nat → Nat) (T : Nat) (q : Int) : Nat → Int
 | 0 => -1
 | r + 1 => if q < (r : Int) then (if T < f r then (r : Int) else ahd f T q r) else -1
def aheadV (N T : Nat) (L : List Vt) (q : Int) : Int := ahd (fun r => nds L (r : Int) N) T q 64
def qmV (N T : Nat) : Nat := (N + T) / 2 + 1
/-- The value of a quorum, or none. -/
def MostP (q : Nat) (L : List Vt) (k r : Int) (s : ByteArray) (b : Bool) : Prop := (b = true ∧ q ≤ cntV L k r s) ∨ (b = false ∧ s = ⟨#[]⟩ ∧ ∀ v, cntV L k r v < q)
/-- What holds of votes, whatever was put. -/
structure InvV (N : Nat) (L : List Vt) : Prop where
 may : ∀ m ∈ L, mayV N m = true
 dis : L.Pairwise fun a b => ¬ (a.kd = b.kd ∧ a.rd = b.rd ∧ a.fr = b.fr)
theorem inv_nil (N : Nat) : InvV N [] := ⟨fun m hm => (by cases hm), List.Pairwise.nil⟩
theorem may_iffV {N : Nat} {m : Vt} : mayV N m = true ↔ (m.kd = 2 ∨ m.kd = 3) ∧ 1 ≤ m.fr ∧ m.fr ≤ (N : Int) ∧ 0 ≤ m.rd ∧ m.rd < 64 ∧ m.vl.size ≤ 4096 := by unfold mayV; exact decide_eq_true_iff
theorem has_iff {L : List Vt} {k r p : Int} : hasV L k r p = true ↔ ∃ m ∈ L, m.kd = k ∧ m.rd = r ∧ m.fr = p := by unfold hasV; simp [List.any_eq_true]
theorem hasR_iff {L : List Vt} {r p : Int} : hasR L r p = true ↔ ∃ m ∈ L, m.rd = r ∧ m.fr = p := by unfold hasR; simp [List.any_eq_true]
theorem inv_put {N : Nat} {L : List Vt} (h : InvV N L) (m : Vt) : InvV N (putV N L m) := by
 unfold putV
 by_cases q : okV N L m = true
 ·rw [if_pos q]
  unfold okV at q
  rw [Bool.and_eq_true] at q
  obtain ⟨q1, q2⟩ := q
  refine ⟨fun x hx => ?_, ?_⟩
  ·rcases List.mem_append.1 hx with hx | hx
   ·exact h.may x hx
   ·rw [List.mem_singleton.1 hx]; exact q1
  ·rw [List.pairwise_append]
   refine ⟨h.dis, by simp, fun a ha b hb e => ?_⟩
   rw [List.mem_singleton.1 hb] at e
   have : hasV L m.kd m.rd m.fr = true := has_iff.2 ⟨a, ha, e⟩
   rw [this] at q2
   cases q2
 ·rw [if_neg q]; exact h
theorem put_ok {N : Nat} {L : List Vt} {m : Vt} (h : okV N L m = true) : putV N L m = L ++ [m] := if_pos h
theorem put_no {N : Nat} {L : List Vt} {m : Vt} (h : okV N L m = false) : putV N L m = L := if_neg (by rw [h]; decide)
theorem cntV_snoc (L : List Vt) (m : Vt) (k r : Int) (B : ByteArray) : cntV (L ++ [m]) k r B = cntV L k r B + if m.kd = k ∧ m.rd = r ∧ m.vl = B then 1 else 0 := by
 unfold cntV
 rw [List.countP_append]
 congr 1
 by_cases h : m.kd = k ∧ m.rd = r ∧ m.vl = B
 ·rw [if_pos h]; simp [h]
 ·rw [if_neg h]; simp only [List.countP_cons, List.countP_nil, decide_eq_true_eq, if_neg h]
theorem anyV_snoc (L : List Vt) (m : Vt) (k r : Int) : anyV (L ++ [m]) k r = anyV L k r + if m.kd = k ∧ m.rd = r then 1 else 0 := by
 unfold anyV
 rw [List.countP_append]
 congr 1
 by_cases h : m.kd = k ∧ m.rd = r
 ·rw [if_pos h]; simp [h]
 ·rw [if_neg h]; simp only [List.countP_cons, List.countP_nil, decide_eq_true_eq, if_neg h]
theorem hasV_snoc (L : List Vt) (m : Vt) (k r p : Int) : hasV (L ++ [m]) k r p = (hasV L k r p || decide (m.kd = k ∧ m.rd = r ∧ m.fr = p)) := by unfold hasV; simp
theorem dV_snoc (L : List Vt) (m : Vt) (k r : Int) : dV (L ++ [m]) k r = if m.kd = k ∧ m.rd = r then (@ite _ (m.vl ∈ dV L k r) (memV m.vl (dV L k r)) (dV L k r) (dV L k r ++ [m.vl])) else dV L k r := by
 unfold dV
 rw [List.foldl_append]
 rfl
theorem snoc_ind {P : List Vt → Prop} (h0 : P []) (h1 : ∀ L m, P L → P (L ++ [m])) : ∀ L, P L := by
 intro L
 have : ∀ M : List Vt, P M.reverse := by
  intro M
  induction M with
  | nil => exact h0
  | cons m r ih => rw [List.reverse_cons]; exact h1 _ _ ih
 have := this L.reverse
 rwa [List.reverse_reverse] at this
theorem dV_mem (k r : Int) (v : ByteArray) (L : List Vt) : v ∈ dV L k r ↔ 0 < cntV L k r v := by
 induction L using snoc_ind with
 | h0 => unfold dV cntV; simp
 | h1 L m ih =>
  rw [dV_snoc, cntV_snoc]
  by_cases h : m.kd = k ∧ m.rd = r
  ·rw [if_pos h]
   by_cases e : m.vl = v
   ·subst e
    rw [if_pos (show m.kd = k ∧ m.rd = r ∧ m.vl = m.vl from ⟨h.1, h.2, rfl⟩)]
    refine ⟨fun _ => Nat.succ_pos _, fun _ => ?_⟩
    by_cases q : m.vl ∈ dV L k r
    ·rw [if_pos q]; exact q
    ·rw [if_neg q]; simp
   ·rw [if_neg (show ¬ (m.kd = k ∧ m.rd = r ∧ m.vl = v) from fun q => e q.2.2)]
    by_cases q : m.vl ∈ dV L k r
    ·rw [if_pos q, ih]; exact Iff.rfl
    ·rw [if_neg q, Nat.add_zero, ← ih, List.mem_append, List.mem_singleton]
     exact ⟨fun z => z.elim id (fun z => absurd z.symm e), .inl⟩
  ·rw [if_neg h, if_neg (fun q => h ⟨q.1, q.2.1⟩), Nat.add_zero]
   exact ih
theorem dV_nodup (k r : Int) (L : List Vt) : (dV L k r).Nodup := by
 induction L using snoc_ind with
 | h0 => exact List.nodup_nil
 | h1 L m ih =>
  rw [dV_snoc]
  by_cases h : m.kd = k ∧ m.rd = r
  ·rw [if_pos h]
   by_cases q : m.vl ∈ dV L k r
   ·rw [if_pos q]; exact ih
   ·rw [if_neg q, List.nodup_append]
    refine ⟨ih, by simp, fun a ha b hb e => ?_⟩
    rw [List.mem_singleton.1 hb] at e
    exact q (e ▸ ha)
  ·rw [if_neg h]; exact ih
theorem cnt_any (L : List Vt) (k r : Int) (B : ByteArray) : cntV L k r B ≤ anyV L k r := by
 induction L using snoc_ind with
 | h0 => exact Nat.le_refl _
 | h1 L m ih =>
  rw [cntV_snoc, anyV_snoc]
  by_cases h : m.kd = k ∧ m.rd = r ∧ m.vl = B
  ·rw [if_pos h, if_pos ⟨h.1, h.2.1⟩]; omega
  ·rw [if_neg h]; omega
theorem cnt_two (L : List Vt) (k r : Int) {B C : ByteArray} (hne : B ≠ C) : cntV L k r B + cntV L k r C ≤ anyV L k r := by
 induction L using snoc_ind with
 | h0 => exact Nat.le_refl _
 | h1 L m ih =>
  rw [cntV_snoc, cntV_snoc, anyV_snoc]
  by_cases h : m.kd = k ∧ m.rd = r ∧ m.vl = B
  ·rw [if_pos h, if_neg (show ¬ (m.kd = k ∧ m.rd = r ∧ m.vl = C) from fun q => hne (h.2.2.symm.trans q.2.2)), if_pos ⟨h.1, h.2.1⟩]; omega
  ·by_cases h2 : m.kd = k ∧ m.rd = r ∧ m.vl = C
   ·rw [if_neg h, if_pos h2, if_pos ⟨h2.1, h2.2.1⟩]; omega
   ·rw [if_neg h, if_neg h2]; omega
theorem any_zero {L : List Vt} {k r : Int} (h : dV L k r = []) : anyV L k r = 0 := by
 have h2 : ∀ m ∈ L, ¬ (m.kd = k ∧ m.rd = r) := fun m hm q => by
  have : m.vl ∈ dV L k r := (dV_mem k r m.vl L).2 (List.countP_pos_iff.2 ⟨m, hm, by simp [q]⟩)
  rw [h] at this
  cases this
 unfold anyV
 rw [List.countP_eq_zero]
 intro m hm
 simpa using fun q => fun z => h2 m hm ⟨q, z⟩
theorem pigeon : ∀ (N : Nat) (l : List Int), l.Nodup → (∀ x ∈ l, 1 ≤ x ∧ x ≤ (N : Int)) → l.length ≤ N
 | 0, l, _, h => by
  cases l with
  | nil => exact Nat.le_refl _
  | cons x r => have := h x (by simp); omega
 | N + 1, l, hn, h => by
  have h1 := pigeon N (l.erase ((N : Int) + 1)) (hn.erase _) (fun x hx => by
   obtain ⟨h1, h2⟩ := hn.mem_erase_iff.1 hx
   have := h x h2
   refine ⟨this.1, ?_⟩
   have : x ≤ (N : Int) + 1 := by have := this.2; push_cast at this; exact this
   omega)
  have h2 := List.length_erase (a := (N : Int) + 1) (l := l)
  by_cases q : ((N : Int) + 1) ∈ l
  ·rw [if_pos q] at h2; omega
  ·rw [if_neg q] at h2; omega
theorem any_le {N : Nat} {L : List Vt} (h : InvV N L) (k r : Int) : anyV L k r ≤ N := by
 have := pigeon N ((L.filter fun m => decide (m.kd = k ∧ m.rd = r)).map Vt.fr) (by
  unfold List.Nodup
  rw [List.pairwise_map, List.pairwise_filter]
  refine h.dis.imp ?_
  intro a b hab ha hb e
  simp at ha hb
  exact hab ⟨ha.1.trans hb.1.symm, ha.2.trans hb.2.symm, e⟩) (fun x hx => by
  obtain ⟨m, hm, rfl⟩ := List.mem_map.1 hx
  have := may_iffV.1 (h.may m (List.mem_filter.1 hm).1)
  exact ⟨this.2.1, this.2.2.1⟩)
 rw [List.length_map, ← List.countP_eq_length_filter] at this
 exact this
/-- Only right votes have been counted. -/
theorem any_off {N : Nat} {L : List Vt} (h : InvV N L) {k r : Int} (hk : ¬ ((k = 2 ∨ k = 3) ∧ 0 ≤ r ∧ r < 64)) : anyV L k r = 0 := by
 unfold anyV
 rw [List.countP_eq_zero]
 intro m hm
 have := may_iffV.1 (h.may m hm)
 simp only [decide_eq_true_eq]
 rintro ⟨rfl, rfl⟩
 exact hk ⟨this.1, this.2.2.2.1, this.2.2.2.2.1⟩
theorem has_two {N : Nat} {L : List Vt} (h : InvV N L) (r p : Int) : (hasV L 2 r p || hasV L 3 r p) = hasR L r p := by
 rw [Bool.eq_iff_iff, Bool.or_eq_true, has_iff, has_iff, hasR_iff]
 constructor
 ·rintro (⟨m, hm, _, q⟩ | ⟨m, hm, _, q⟩) <;> exact ⟨m, hm, q⟩
 ·rintro ⟨m, hm, q⟩
  rcases (may_iffV.1 (h.may m hm)).1 with e | e
  ·exact .inl ⟨m, hm, e, q⟩
  ·exact .inr ⟨m, hm, e, q⟩
theorem has_any {L : List Vt} {k r p : Int} (h : hasV L k r p = true) : 0 < anyV L k r := by
 obtain ⟨m, hm, q⟩ := has_iff.1 h
 exact List.countP_pos_iff.2 ⟨m, hm, by simp [q.1, q.2.1]⟩
/-- There is one such value at most. -/
theorem most_one {N T : Nat} {L : List Vt} (h : InvV N L) {k r : Int} {s s' : ByteArray} (h1 : qmV N T ≤ cntV L k r s) (h2 : qmV N T ≤ cntV L k r s') : s = s' := Classical.byContradiction fun hne => by
 have := cnt_two L k r hne
 have := any_le h k r
 unfold qmV at h1 h2
 omega
theorem most_same {N T : Nat} {L : List Vt} (h : InvV N L) {k r : Int} {s s' : ByteArray} {b b' : Bool} (h1 : MostP (qmV N T) L k r s b) (h2 : MostP (qmV N T) L k r s' b') : s = s' ∧ b = b' := by
 rcases h1 with ⟨rfl, h1⟩ | ⟨rfl, rfl, h1⟩ <;> rcases h2 with ⟨rfl, h2⟩ | ⟨rfl, rfl, h2⟩
 ·exact ⟨most_one h h1 h2, rfl⟩
 ·have := h2 s; omega
 ·have := h1 s'; omega
 ·exact ⟨rfl, rfl⟩
theorem cnt_put (N : Nat) (L : List Vt) (m : Vt) (k r : Int) (B : ByteArray) : cntV L k r B ≤ cntV (putV N L m) k r B := by
 unfold putV
 split
 ·rw [cntV_snoc]; omega
 ·exact Nat.le_refl _
theorem any_put (N : Nat) (L : List Vt) (m : Vt) : anyV (putV N L m) m.kd m.rd = anyV L m.kd m.rd + if okV N L m then 1 else 0 := by
 by_cases h : okV N L m = true
 ·rw [put_ok h, if_pos h, anyV_snoc, if_pos ⟨rfl, rfl⟩]
 ·rw [put_no (by simpa using h), if_neg h]; rfl
theorem ok_twice (N : Nat) (L : List Vt) (m : Vt) : okV N (putV N L m) m = false := by
 by_cases h : okV N L m = true
 ·rw [put_ok h]
  unfold okV
  rw [hasV_snoc]
  simp
 ·have h : okV N L m = false := by simpa using h
  rw [put_no h]; exact h
theorem put_len (N : Nat) (L : List Vt) (m : Vt) : (putV N L m).length ≤ L.length + 1 := by
 unfold putV
 split
 ·simp
 ·omega
theorem nds_le (L : List Vt) (r : Int) : ∀ n, nds L r n ≤ n
 | 0 => Nat.le_refl _
 | n + 1 => by
  have := nds_le L r n
  show nds L r n + _ ≤ _
  split <;> omega
/-- A value that a quorum has stays. -/
theorem most_stays {N T : Nat} {L : List Vt} (h : InvV N L) (m : Vt) {s s' : ByteArray} {b b' : Bool} (h1 : MostP (qmV N T) L m.kd m.rd s b) (h2 : MostP (qmV N T) (putV N L m) m.kd m.rd s' b') : (b = true → b' = true ∧ s' = s) ∧ (b' = true → qmV N T ≤ cntV (putV N L m) m.kd m.rd s') ∧ (b' = false → cntV (putV N L m) m.kd m.rd m.vl < qmV N T) := by
 refine ⟨fun e => ?_, fun e => ?_, fun e => ?_⟩
 ·rcases h1 with ⟨_, h1⟩ | ⟨e2, _⟩
  ·have h3 : qmV N T ≤ cntV (putV N L m) m.kd m.rd s := Nat.le_trans h1 (cnt_put N L m _ _ _)
   obtain ⟨q1, q2⟩ := most_same (inv_put h m) h2 (.inl ⟨rfl, h3⟩)
   exact ⟨q2, q1⟩
  ·rw [e] at e2; cases e2
 ·rcases h2 with ⟨_, h2⟩ | ⟨e2, _⟩
  ·exact h2
  ·rw [e] at e2; cases e2
 ·rcases h2 with ⟨e2, _⟩ | ⟨_, _, h2⟩
  ·rw [e] at e2; cases e2
  ·exact h2 _
end Go.Proofs.Ytmanacbdldfmfaa
