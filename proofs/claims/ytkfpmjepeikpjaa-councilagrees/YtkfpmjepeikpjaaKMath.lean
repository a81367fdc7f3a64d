/-
  A council whose first leader is honest, and whose words all arrive in order: all decide the leader's value. No Go here.
-/
import Derived.Test.YtkfpmjepeikpjaaCMath
namespace Go.Proofs.Ytkfpmjepeikpjaa
set_option maxRecDepth 10000
/-- The votes of the nodes 1 to a, of round 0. -/
def vtC (k : Int) (v : ByteArray) (a : Nat) : List Vt := (List.range a).map fun (j : Nat) => ⟨k, (j : Int) + 1, 0, 0, v⟩
theorem vtC_succ (k : Int) (v : ByteArray) (a : Nat) : vtC k v (a + 1) = vtC k v a ++ [⟨k, (a : Int) + 1, 0, 0, v⟩] := by unfold vtC; rw [List.range_succ, List.map_append]; rfl
theorem cnt_vt (k : Int) (v : ByteArray) (k' r : Int) (B : ByteArray) : ∀ a, cntV (vtC k v a) k' r B = if k = k' ∧ 0 = r ∧ v = B then a else 0
 | 0 => by unfold vtC cntV; simp
 | a + 1 => by
  rw [vtC_succ, cntV_snoc, cnt_vt k v k' r B a]
  by_cases h : k = k' ∧ 0 = r ∧ v = B
  · rw [if_pos h, if_pos h, if_pos h]
  · rw [if_neg h, if_neg h, if_neg h]
theorem cnt_app (A B : List Vt) (k r : Int) (v : ByteArray) : cntV (A ++ B) k r v = cntV A k r v + cntV B k r v := List.countP_append
theorem vt_mem {k : Int} {v : ByteArray} {a : Nat} {m : Vt} (h : m ∈ vtC k v a) : m.kd = k ∧ m.rd = 0 ∧ 1 ≤ m.fr ∧ m.fr ≤ (a : Int) := by
 obtain ⟨j, hj, rfl⟩ := List.mem_map.1 h
 have := List.mem_range.1 hj
 exact ⟨rfl, rfl, by dsimp only; omega, by dsimp only; omega⟩
/-- A node's votes. -/
def vsC (v : ByteArray) (a b : Nat) : List Vt := vtC 2 v a ++ vtC 3 v b
theorem vs_two {v : ByteArray} (a b : Nat) (B : ByteArray) : cntV (vsC v a b) 2 0 B = if v = B then a else 0 := by
 unfold vsC; rw [cnt_app, cnt_vt, cnt_vt]; simp
theorem vs_three {v : ByteArray} (a b : Nat) (B : ByteArray) : cntV (vsC v a b) 3 0 B = if v = B then b else 0 := by
 unfold vsC; rw [cnt_app, cnt_vt, cnt_vt]; simp
theorem vs_mem {v : ByteArray} {a b : Nat} {m : Vt} (h : m ∈ vsC v a b) : m.rd = 0 ∧ (m.kd = 2 ∧ m.fr ≤ (a : Int) ∨ m.kd = 3 ∧ m.fr ≤ (b : Int)) := by
 rcases List.mem_append.1 h with u | u
 · exact ⟨(vt_mem u).2.1, .inl ⟨(vt_mem u).1, (vt_mem u).2.2.2⟩⟩
 · exact ⟨(vt_mem u).2.1, .inr ⟨(vt_mem u).1, (vt_mem u).2.2.2⟩⟩
theorem ahd_low {f : Nat → Nat} (T : Nat) (h : ∀ r, 0 < r → f r = 0) : ∀ n, ahd f T 0 n = -1
 | 0 => rfl
 | n + 1 => by
  unfold ahd
  by_cases c : (0 : Int) < (n : Int)
  · rw [if_pos c, h n (by omega), if_neg (Nat.not_lt_zero _)]; exact ahd_low T h n
  · rw [if_neg c]
theorem nds_none {L : List Vt} {r : Int} (h : ∀ m ∈ L, m.rd ≠ r) : ∀ n, nds L r n = 0
 | 0 => rfl
 | n + 1 => by
  unfold nds
  rw [nds_none h n, if_neg]
  intro q
  obtain ⟨m, hm, e, _⟩ := hasR_iff.1 q
  exact h m hm e
theorem ahead_low {N T : Nat} {L : List Vt} (h : ∀ m ∈ L, m.rd = 0) : aheadV N T L 0 = -1 := ahd_low T (fun r hr => nds_none (fun m hm e => by have := h m hm; omega) N) 64
/-- No rule applies in round 0. -/
theorem rule_no {p : Pm} {s : Ag} (hr : s.rd = 0) (hv : ∀ m ∈ s.vs, m.rd = 0) (h1 : ∀ r, hitA p s r = none) (h3 : r3 p s = none) (h5 : r5 p s = none) (h6 : r6 p s = none) : ruleA p s = none := by
 unfold ruleA r1 r2
 rw [seek_none h1, hr, ahead_low hv, if_neg (by decide), h3, h5, h6]
 rfl
/-- A node in round 0: a prevotes, b precommits came. -/
def nsC (Q : Nat) (m0 : Vt) (a b : Nat) : Ag := ⟨0, if a < Q then 2 else 3, if a < Q then emp else m0.vl, if a < Q then -1 else 0, if a < Q then emp else m0.vl, if a < Q then -1 else 0, [m0], vsC m0.vl a (min b Q), decide (Q ≤ b), if Q ≤ b then m0.vl else emp⟩
section
variable {p : Pm} {m0 : Vt}
theorem hit_low {s : Ag} (hp : s.ps = [m0]) (hr : m0.rd = 0) {a b : Nat} (hv : s.vs = vsC m0.vl a b) (hb : b < qmV p.n p.t) (r : Nat) : hitA p s r = none := by
 unfold hitA
 rw [hp]
 unfold propA
 by_cases e : m0.rd = (r : Int)
 · rw [List.find?_cons_of_pos (by simpa using e)]
   dsimp only
   have : isA p s.vs 3 (r : Int) m0.vl = false := by
    unfold isA
    rw [hv, ← e, hr, vs_three, if_pos rfl]
    exact decide_eq_false (by omega)
   rw [this]
   rfl
 · rw [List.find?_cons_of_neg (by simpa using e)]
   rfl
theorem prop_low (hr : m0.rd = 0) : propA [m0] 0 = some m0 := by
 unfold propA
 rw [List.find?_cons_of_pos (by simpa using hr)]
theorem is_two (a b : Nat) (B : ByteArray) : isA p (vsC m0.vl a b) 2 0 B = decide (qmV p.n p.t ≤ if m0.vl = B then a else 0) := by unfold isA; rw [vs_two]
/-- The same node with other votes. -/
abbrev upC (m0 : Vt) (p : Pm) (a b : Nat) (V : List Vt) : Ag := ⟨0, if a < qmV p.n p.t then 2 else 3, if a < qmV p.n p.t then emp else m0.vl, if a < qmV p.n p.t then -1 else 0, if a < qmV p.n p.t then emp else m0.vl, if a < qmV p.n p.t then -1 else 0, [m0], V, decide (qmV p.n p.t ≤ b), if qmV p.n p.t ≤ b then m0.vl else emp⟩
/-- What is asked of the first proposal. -/
structure P0 (p : Pm) (m0 : Vt) : Prop where
 ok : okP p
 wf : wOk m0 = true
 kd : m0.kd = 1
 rd : m0.rd = 0
 va : m0.va = -1
 le : m0.fr = leadA p.n p.ht 0
theorem P0.ne (h : P0 p m0) : ¬ m0.vl = emp := fun e => by
 have := wOk_iff.1 h.wf
 have k := h.kd
 have : m0.vl.size ≠ 0 := by omega
 exact this (by rw [e]; rfl)
theorem P0.big (h : P0 p m0) : m0.vl.size ≤ 4096 := (wOk_iff.1 h.wf).2.2.2.2.1
theorem qm_pos (N T : Nat) : 0 < qmV N T := Nat.succ_pos _
/-- Behind its votes a node is quiet, if it did what is to be done. -/
theorem ns_quiet (h : P0 p m0) (a b : Nat) (hb : b < qmV p.n p.t) {s : Ag} (e1 : s.rd = 0) (e2 : s.ps = [m0]) (e3 : s.vs = vsC m0.vl a b) (e4 : (s.st = 2 ∧ a < qmV p.n p.t) ∨ (s.st = 3 ∧ (s.vr = 0 ∨ a < qmV p.n p.t))) : ruleA p s = none := by
 have pr : propA s.ps s.rd = some m0 := by rw [e1, e2]; exact prop_low h.rd
 refine rule_no e1 (fun m hm => by rw [e3] at hm; exact (vs_mem hm).1) (hit_low e2 h.rd e3 hb) ?_ ?_ ?_
 · unfold r3
   rw [pr]
   dsimp only
   rw [if_neg (by omega)]
 · unfold r5
   rw [pr]
   dsimp only
   rw [if_neg]
   rintro ⟨c1, c2, c3⟩
   rw [e1, e3, is_two, if_pos rfl] at c3
   have := of_decide_eq_true c3
   omega
 · unfold r6
   rw [if_neg]
   rintro ⟨c1, c2⟩
   rw [e1, e3, is_two, if_neg h.ne] at c2
   have := of_decide_eq_true c2
   have := qm_pos p.n p.t
   omega
/-- The proposal is taken. -/
theorem take_m0 (h : P0 p m0) : takeA p (startA p newA).1 m0 = (nsC (qmV p.n p.t) m0 0 0, [⟨2, p.me, 0, 0, m0.vl⟩]) := by
 have Q := qm_pos p.n p.t
 have hs : (startA p newA).1 = (⟨0, 1, emp, -1, emp, -1, [], [], false, emp⟩ : Ag) := by rw [start_eq]; rfl
 have hi : InvA p (startA p newA).1 := (start_quiet p).1
 rw [hs] at hi ⊢
 have hc : countA p (⟨0, 1, emp, -1, emp, -1, [], [], false, emp⟩ : Ag) m0 = some ((⟨0, 1, emp, -1, emp, -1, [m0], [], false, emp⟩ : Ag), []) := by
  unfold countA
  rw [if_neg (by have := h.kd; omega), if_neg (by rw [h.wf]; decide), if_pos h.kd, if_pos ⟨rfl, by rw [h.rd]; exact h.le⟩]
  rfl
 obtain ⟨i1, i2, _, _⟩ := inv_count hi (Int.le_refl 0) hc
 rw [take_eq (Int.le_refl 0) rfl, hc]
 dsimp only
 have e1 : ruleA p (⟨0, 1, emp, -1, emp, -1, [m0], [], false, emp⟩ : Ag) = some ((⟨0, 2, emp, -1, emp, -1, [m0], [], false, emp⟩ : Ag), [⟨2, p.me, 0, 0, m0.vl⟩]) := by
  unfold ruleA r1 r2
  rw [seek_none (hit_low (p := p) (s := (⟨0, 1, emp, -1, emp, -1, [m0], [], false, emp⟩ : Ag)) (m0 := m0) rfl h.rd (a := 0) (b := 0) rfl Q)]
  rw [show aheadV p.n p.t (⟨0, 1, emp, -1, emp, -1, [m0], [], false, emp⟩ : Ag).vs (⟨0, 1, emp, -1, emp, -1, [m0], [], false, emp⟩ : Ag).rd = -1 from ahead_low (fun m hm => by cases hm), if_neg (show ¬ (0 : Int) < -1 by decide)]
  unfold r3
  rw [show propA (⟨0, 1, emp, -1, emp, -1, [m0], [], false, emp⟩ : Ag).ps (⟨0, 1, emp, -1, emp, -1, [m0], [], false, emp⟩ : Ag).rd = some m0 from prop_low h.rd]
  dsimp only
  rw [if_pos ⟨rfl, .inl (by rw [h.va]; decide)⟩, if_pos (.inl (by decide))]
  rfl
 have e2 : ruleA p (⟨0, 2, emp, -1, emp, -1, [m0], [], false, emp⟩ : Ag) = none := ns_quiet h 0 0 Q rfl rfl rfl (.inl ⟨rfl, Q⟩)
 have e3 : stl p (⟨0, 1, emp, -1, emp, -1, [m0], [], false, emp⟩ : Ag) = ((⟨0, 2, emp, -1, emp, -1, [m0], [], false, emp⟩ : Ag), [⟨2, p.me, 0, 0, m0.vl⟩]) := by rw [stl_some i1 i2 rfl e1, stl_none e2]; rfl
 rw [e3]
 simp only [nsC, if_pos Q, if_neg (show ¬ qmV p.n p.t ≤ 0 by omega), decide_eq_false (show ¬ qmV p.n p.t ≤ 0 by omega), Nat.zero_min]
 rfl
theorem ok_next {N : Nat} {v : ByteArray} {a b : Nat} {k : Int} {i : Nat} (hk : (k = 2 ∧ i = a) ∨ (k = 3 ∧ i = b)) (hi : i < N) (hv : v.size ≤ 4096) : okV N (vsC v a b) ⟨k, (i : Int) + 1, 0, 0, v⟩ = true := by
 unfold okV
 rw [may_iffV.2 ⟨by rcases hk with e | e; exact .inl e.1; exact .inr e.1, by dsimp only; omega, by dsimp only; omega, Int.le_refl 0, (by decide : (0 : Int) < 64), hv⟩, Bool.true_and, Bool.not_eq_true', Bool.eq_false_iff]
 intro q
 obtain ⟨m, hm, c1, _, c3⟩ := has_iff.1 q
 have := (vs_mem hm).2
 dsimp only at c1 c3
 omega
/-- A prevote is taken. -/
theorem take_pv (h : P0 p m0) {a : Nat} (ha : a < p.n) (hi : InvA p (nsC (qmV p.n p.t) m0 a 0)) : takeA p (nsC (qmV p.n p.t) m0 a 0) ⟨2, (a : Int) + 1, 0, 0, m0.vl⟩ = (nsC (qmV p.n p.t) m0 (a + 1) 0, if a + 1 = qmV p.n p.t then [⟨3, p.me, 0, 0, m0.vl⟩] else []) := by
 have Q := qm_pos p.n p.t
 have n7 := h.ok.1.2.2.2
 have hc : countA p (nsC (qmV p.n p.t) m0 a 0) ⟨2, (a : Int) + 1, 0, 0, m0.vl⟩ = some ((upC m0 p a 0 (vsC m0.vl (a + 1) 0)), []) := by
  unfold countA
  rw [if_neg (show ¬ (2 : Int) = 4 by decide), if_neg (by rw [(wOk_iff (m := ⟨2, (a : Int) + 1, 0, 0, m0.vl⟩)).2 ⟨by dsimp only; omega, by dsimp only; omega, Int.le_refl 0, (by decide : (0 : Int) < 64), h.big, .inr ⟨.inl rfl, rfl⟩⟩]; decide), if_neg (show ¬ (2 : Int) = 1 by decide), if_pos (by show okV p.n (vsC m0.vl a (min 0 _)) _ = true; rw [Nat.zero_min]; exact ok_next (.inl ⟨rfl, rfl⟩) ha h.big)]
  unfold nsC vsC
  rw [Nat.zero_min, vtC_succ]
  simp [vtC]
 have dn0 : (nsC (qmV p.n p.t) m0 a 0).dn = false := (decide_eq_false (by omega) : decide (qmV p.n p.t ≤ 0) = false)
 obtain ⟨i1, i2, _, _⟩ := inv_count hi (Int.le_refl 0) hc
 rw [take_eq (Int.le_refl 0) dn0, hc]
 dsimp only
 rw [List.nil_append]
 have dnx : decide (qmV p.n p.t ≤ 0) = false := decide_eq_false (by omega)
 by_cases hq : a + 1 = qmV p.n p.t
 · rw [if_pos hq]
   have lt : a < qmV p.n p.t := by omega
   have hS : upC m0 p a 0 (vsC m0.vl (a + 1) 0) = (⟨0, 2, emp, -1, emp, -1, [m0], vsC m0.vl (a + 1) 0, false, emp⟩ : Ag) := by simp only [upC, if_pos lt, if_neg (show ¬ qmV p.n p.t ≤ 0 by omega), dnx]
   have e1 : ruleA p (upC m0 p a 0 (vsC m0.vl (a + 1) 0)) = some (nsC (qmV p.n p.t) m0 (a + 1) 0, [⟨3, p.me, 0, 0, m0.vl⟩]) := by
    rw [hS]
    unfold ruleA r1 r2
    rw [seek_none (hit_low (p := p) (s := (⟨0, 2, emp, -1, emp, -1, [m0], vsC m0.vl (a + 1) 0, false, emp⟩ : Ag)) (m0 := m0) rfl h.rd (a := a + 1) (b := 0) rfl Q)]
    rw [show aheadV p.n p.t (⟨0, 2, emp, -1, emp, -1, [m0], vsC m0.vl (a + 1) 0, false, emp⟩ : Ag).vs (⟨0, 2, emp, -1, emp, -1, [m0], vsC m0.vl (a + 1) 0, false, emp⟩ : Ag).rd = -1 from ahead_low (fun m hm => (vs_mem hm).1), if_neg (show ¬ (0 : Int) < -1 by decide)]
    unfold r3 r5
    rw [show propA (⟨0, 2, emp, -1, emp, -1, [m0], vsC m0.vl (a + 1) 0, false, emp⟩ : Ag).ps (⟨0, 2, emp, -1, emp, -1, [m0], vsC m0.vl (a + 1) 0, false, emp⟩ : Ag).rd = some m0 from prop_low h.rd]
    dsimp only
    rw [if_neg (fun q => absurd q.1 (by decide)), if_pos ⟨by decide, by decide, by rw [is_two, if_pos rfl]; exact decide_eq_true (by omega)⟩, if_pos rfl]
    simp only [voteA, lockA, nsC, if_neg (show ¬ a + 1 < qmV p.n p.t by omega), if_neg (show ¬ qmV p.n p.t ≤ 0 by omega), dnx, Nat.zero_min]
    rfl
   have e2 : ruleA p (nsC (qmV p.n p.t) m0 (a + 1) 0) = none := ns_quiet h (a + 1) 0 Q rfl rfl (by show vsC m0.vl (a + 1) (min 0 _) = _; rw [Nat.zero_min]) (.inr ⟨if_neg (by omega), .inl (if_neg (by omega))⟩)
   rw [stl_some i1 i2 dn0 e1, stl_none e2]
   rfl
 · rw [if_neg hq]
   have e0 : (upC m0 p a 0 (vsC m0.vl (a + 1) 0)) = nsC (qmV p.n p.t) m0 (a + 1) 0 := by
    by_cases c : a < qmV p.n p.t
    · simp only [upC, nsC, Nat.zero_min, if_pos c, if_pos (show a + 1 < qmV p.n p.t by omega)]
    · simp only [upC, nsC, Nat.zero_min, if_neg c, if_neg (show ¬ a + 1 < qmV p.n p.t by omega)]
   rw [e0]
   have e2 : ruleA p (nsC (qmV p.n p.t) m0 (a + 1) 0) = none := by
    refine ns_quiet h (a + 1) 0 Q rfl rfl (by show vsC m0.vl (a + 1) (min 0 _) = _; rw [Nat.zero_min]) ?_
    by_cases c : a + 1 < qmV p.n p.t
    · exact .inl ⟨if_pos c, c⟩
    · exact .inr ⟨if_neg c, .inl (if_neg c)⟩
   rw [stl_none e2]
/-- A precommit is taken. -/
theorem take_pc (h : P0 p m0) {a b : Nat} (ha : qmV p.n p.t ≤ a) (hb : b < p.n) (hi : InvA p (nsC (qmV p.n p.t) m0 a b)) : takeA p (nsC (qmV p.n p.t) m0 a b) ⟨3, (b : Int) + 1, 0, 0, m0.vl⟩ = (nsC (qmV p.n p.t) m0 a (b + 1), []) := by
 have Q := qm_pos p.n p.t
 have n7 := h.ok.1.2.2.2
 by_cases hd : qmV p.n p.t ≤ b
 · have dn1 : (nsC (qmV p.n p.t) m0 a b).dn = true := (decide_eq_true hd : decide (qmV p.n p.t ≤ b) = true)
   rw [take_done dn1]
   simp only [nsC, Nat.min_eq_right hd, Nat.min_eq_right (Nat.le_succ_of_le hd), if_pos hd, if_pos (Nat.le_succ_of_le hd), decide_eq_true hd, decide_eq_true (Nat.le_succ_of_le hd)]
 · have hb' : b < qmV p.n p.t := by omega
   have dn0 : (nsC (qmV p.n p.t) m0 a b).dn = false := (decide_eq_false hd : decide (qmV p.n p.t ≤ b) = false)
   have hm1 : min b (qmV p.n p.t) = b := Nat.min_eq_left (by omega)
   have hm2 : min (b + 1) (qmV p.n p.t) = b + 1 := Nat.min_eq_left (by omega)
   have hc : countA p (nsC (qmV p.n p.t) m0 a b) ⟨3, (b : Int) + 1, 0, 0, m0.vl⟩ = some ((upC m0 p a b (vsC m0.vl a (b + 1))), []) := by
    unfold countA
    rw [if_neg (show ¬ (3 : Int) = 4 by decide), if_neg (by rw [(wOk_iff (m := ⟨3, (b : Int) + 1, 0, 0, m0.vl⟩)).2 ⟨by dsimp only; omega, by dsimp only; omega, Int.le_refl 0, (by decide : (0 : Int) < 64), h.big, .inr ⟨.inr rfl, rfl⟩⟩]; decide), if_neg (show ¬ (3 : Int) = 1 by decide), if_pos (by show okV p.n (vsC m0.vl a (min b _)) _ = true; rw [hm1]; exact ok_next (.inr ⟨rfl, rfl⟩) hb h.big)]
    unfold nsC vsC
    rw [hm1, vtC_succ]
    simp
   obtain ⟨i1, i2, _, _⟩ := inv_count hi (Int.le_refl 0) hc
   rw [take_eq (Int.le_refl 0) dn0, hc]
   dsimp only
   rw [List.nil_append]
   by_cases hq : b + 1 = qmV p.n p.t
   · have e1 : ruleA p (upC m0 p a b (vsC m0.vl a (b + 1))) = some (nsC (qmV p.n p.t) m0 a (b + 1), []) := by
      have hs : seekA (hitA p (upC m0 p a b (vsC m0.vl a (b + 1)))) 0 64 = some m0.vl := by
       unfold seekA
       have : hitA p (upC m0 p a b (vsC m0.vl a (b + 1))) 0 = some m0.vl := by
        unfold hitA
        rw [show propA (upC m0 p a b (vsC m0.vl a (b + 1))).ps ((0 : Nat) : Int) = some m0 from prop_low h.rd]
        dsimp only
        rw [if_pos (by show isA p (vsC m0.vl a (b + 1)) 3 0 m0.vl = true; unfold isA; rw [vs_three, if_pos rfl]; exact decide_eq_true (by omega))]
       rw [this]
      unfold ruleA r1
      rw [hs]
      simp only [nsC, hm2, if_pos (show qmV p.n p.t ≤ b + 1 by omega), decide_eq_true (show qmV p.n p.t ≤ b + 1 by omega)]
      rfl
     rw [stl_some i1 i2 dn0 e1, stl_done (decide_eq_true (show qmV p.n p.t ≤ b + 1 by omega))]
     rfl
   · have e0 : (upC m0 p a b (vsC m0.vl a (b + 1))) = nsC (qmV p.n p.t) m0 a (b + 1) := by
      simp only [upC, nsC, hm2, if_neg hd, if_neg (show ¬ qmV p.n p.t ≤ b + 1 by omega), decide_eq_false hd, decide_eq_false (show ¬ qmV p.n p.t ≤ b + 1 by omega)]
     rw [e0]
     have e2 : ruleA p (nsC (qmV p.n p.t) m0 a (b + 1)) = none := ns_quiet h a (b + 1) (by omega) rfl rfl (by show vsC m0.vl a (min (b + 1) _) = _; rw [hm2]) (.inr ⟨if_neg (by omega), .inl (if_neg (by omega))⟩)
     rw [stl_none e2]
end
end Go.Proofs.Ytkfpmjepeikpjaa
