/-
  A council, by definition: honest nodes, and what is under way; what holds of it whatever is done. No Go here.
-/
import Derived.Test.YtkfpmjepeikpjaaTMath
namespace Go.Proofs.Ytkfpmjepeikpjaa
set_option maxRecDepth 10000
/-- What a council is made of. -/
structure Cp where
 n : Nat
 t : Nat
 ht : Int
 vals : List ByteArray
/-- A council: the parts of the nodes 1, 2 .., and what is under way: to whom, and the word. -/
structure Cn where
 nd : List Ag
 wy : List (Nat × Vt)
/-- The part of the node i + 1. -/
def pmC (q : Cp) (i : Nat) : Pm := ⟨q.n, q.t, (i : Int) + 1, q.ht, q.vals[i]?.getD emp⟩
def okC (q : Cp) : Prop := q.vals.length + q.t = q.n ∧ ∀ i, i < q.vals.length → okP (pmC q i)
def allC (H : Nat) (l : List Vt) : List (Nat × Vt) := l.flatMap fun m => (List.range H).map fun k => (k + 1, m)
def sayC (H : Nat) (w : List (Nat × Vt)) (l : List Vt) : List (Nat × Vt) := (w ++ allC H l).take 4096
def takeC (q : Cp) (c : Cn) (i : Nat) (m : Vt) : Cn := match c.nd[i]? with
 | some s => ⟨c.nd.set i (takeA (pmC q i) s m).1, sayC c.nd.length c.wy (takeA (pmC q i) s m).2⟩
 | none => c
def atC (c : Cn) (i : Int) : Nat := (i % (c.wy.length : Int)).toNat
def delC (q : Cp) (c : Cn) (i : Int) : Cn × Bool := match c.wy[atC c i]? with
 | some x => (takeC q ⟨c.nd, c.wy.eraseIdx (atC c i)⟩ (x.1 - 1) x.2, true)
 | none => (c, false)
def losC (c : Cn) (i : Int) : Cn × Bool := match c.wy[atC c i]? with
 | some _ => (⟨c.nd, c.wy.eraseIdx (atC c i)⟩, true)
 | none => (c, false)
abbrev honC (c : Cn) (k : Int) : Prop := 1 ≤ k ∧ k ≤ (c.nd.length : Int)
def forC (c : Cn) (tn : Int) (m : Vt) : Cn × Bool := if honC c tn ∧ ¬ honC c m.fr ∧ m.kd ≠ 4 ∧ c.wy.length < 4096 then (⟨c.nd, c.wy ++ [(tn.toNat, m)]⟩, true) else (c, false)
def timC (q : Cp) (c : Cn) (node step : Int) : Cn × Bool := match (if honC c node then c.nd[(node - 1).toNat]? else none) with
 | some s => (takeC q c (node - 1).toNat ⟨4, 0, s.rd, step, emp⟩, true)
 | none => (c, false)
/-- The first i nodes have begun. -/
def startC (q : Cp) : Nat → Cn
 | 0 => ⟨List.replicate q.vals.length newA, []⟩
 | i + 1 => ⟨(startC q i).nd.set i (startA (pmC q i) newA).1, sayC q.vals.length (startC q i).wy (startA (pmC q i) newA).2⟩
/-- What a node is, behind at most n words. -/
structure NdC (p : Pm) (s : Ag) (L : List Vt) (n : Nat) : Prop where
 ok : okP p
 inv : InvA p s
 rd : 0 ≤ s.rd
 qt : Quiet p s
 len : s.ps.length + s.vs.length ≤ n
 his : HistA p s L
theorem NdC.take {p : Pm} {s : Ag} {L : List Vt} {n : Nat} (h : NdC p s L n) (m : Vt) : NdC p (takeA p s m).1 (L ++ (takeA p s m).2) (n + 1) := by
 obtain ⟨q1, q2, q3⟩ := inv_take h.inv m
 obtain ⟨q4, q5⟩ := q3 h.rd h.qt
 exact ⟨h.ok, q1, q4, q5, by have := h.len; omega, hist_take h.ok h.inv h.his m⟩
theorem NdC.start {p : Pm} (h : okP p) (n : Nat) : NdC p (startA p newA).1 (startA p newA).2 n := by
 obtain ⟨q1, q2, q3⟩ := start_quiet p
 exact ⟨h, q1, by rw [q2]; exact Int.le_refl 0, .inr q3, by rw [start_eq]; exact Nat.zero_le _, hist_start h⟩
/-- What holds of a council behind at most n deeds; L: what each node said. -/
structure CnI (q : Cp) (c : Cn) (L : Nat → List Vt) (n : Nat) : Prop where
 ok : okC q
 len : c.nd.length = q.vals.length
 nod : ∀ (i : Nat) (s : Ag), c.nd[i]? = some s → NdC (pmC q i) s (L i) n
 tru : ∀ (i : Nat) (s : Ag), c.nd[i]? = some s → ∀ m ∈ s.vs, ∀ j, j < q.vals.length → m.fr = (j : Int) + 1 → m ∈ L j
 way : ∀ x ∈ c.wy, (1 ≤ x.1 ∧ x.1 ≤ q.vals.length) ∧ ∀ j, j < q.vals.length → x.2.fr = (j : Int) + 1 → x.2 ∈ L j
 cap : c.wy.length ≤ 4096
theorem all_mem {H : Nat} {l : List Vt} {x : Nat × Vt} (h : x ∈ allC H l) : (1 ≤ x.1 ∧ x.1 ≤ H) ∧ x.2 ∈ l := by
 unfold allC at h
 obtain ⟨m, hm, hx⟩ := List.mem_flatMap.1 h
 obtain ⟨k, hk, rfl⟩ := List.mem_map.1 hx
 have := List.mem_range.1 hk
 exact ⟨⟨by dsimp only; omega, by dsimp only; omega⟩, hm⟩
theorem say_mem {H : Nat} {w : List (Nat × Vt)} {l : List Vt} {x : Nat × Vt} (h : x ∈ sayC H w l) : x ∈ w ∨ ((1 ≤ x.1 ∧ x.1 ≤ H) ∧ x.2 ∈ l) := by
 rcases List.mem_append.1 (List.mem_of_mem_take h) with u | u
 · exact .inl u
 · exact .inr (all_mem u)
theorem say_len (H : Nat) (w : List (Nat × Vt)) (l : List Vt) : (sayC H w l).length ≤ 4096 := by unfold sayC; rw [List.length_take]; omega
section
variable {q : Cp} {c : Cn} {L : Nat → List Vt} {n : Nat}
theorem CnI.more (h : CnI q c L n) {k : Nat} (hk : n ≤ k) : CnI q c L k := ⟨h.ok, h.len, fun i s hs => by
 obtain ⟨a1, a2, a3, a4, a5, a6⟩ := h.nod i s hs
 exact ⟨a1, a2, a3, a4, Nat.le_trans a5 hk, a6⟩, h.tru, h.way, h.cap⟩
/-- What a node said, in its place. -/
def addL (L : Nat → List Vt) (i : Nat) (o : List Vt) : Nat → List Vt := fun j => if j = i then L j ++ o else L j
theorem addL_mem {i j : Nat} {o : List Vt} {m : Vt} (h : m ∈ L j) : m ∈ addL L i o j := by
 unfold addL
 split
 · exact List.mem_append_left _ h
 · exact h
theorem addL_same (L : Nat → List Vt) (i : Nat) (o : List Vt) : addL L i o i = L i ++ o := if_pos rfl
theorem addL_other (L : Nat → List Vt) {i j : Nat} (h : j ≠ i) (o : List Vt) : addL L i o j = L j := if_neg h
/-- A node takes a word that is no other honest one's, or that one said. -/
theorem CnI.take (h : CnI q c L n) {i : Nat} {s : Ag} (hs : c.nd[i]? = some s) {m : Vt} (hm : ∀ j, j < q.vals.length → m.fr = (j : Int) + 1 → m ∈ L j) : CnI q (takeC q c i m) (addL L i (takeA (pmC q i) s m).2) (n + 1) := by
 have hi : i < c.nd.length := (List.getElem?_eq_some_iff.1 hs).1
 have hN := h.nod i s hs
 unfold takeC
 rw [hs]
 dsimp only
 have said : ∀ x ∈ (takeA (pmC q i) s m).2, x.fr = (i : Int) + 1 := fun x hx => ((hN.take m).his.said.wf x (List.mem_append_right _ hx)).1
 refine ⟨h.ok, by rw [List.length_set]; exact h.len, fun j u hu => ?_, fun j u hu x hx k hk hf => ?_, fun x hx => ?_, say_len _ _ _⟩
 · rw [List.getElem?_set] at hu
   split at hu
   · rename_i e
     subst e
     injection hu with hu
     subst hu
     rw [addL_same]
     exact hN.take m
   · rename_i e
     rw [addL_other L (fun z => e z.symm)]
     obtain ⟨a1, a2, a3, a4, a5, a6⟩ := h.nod j u hu
     exact ⟨a1, a2, a3, a4, Nat.le_succ_of_le a5, a6⟩
 · rw [List.getElem?_set] at hu
   split at hu
   · rename_i e
     injection hu with hu
     subst hu
     rcases take_vs hN.inv m x hx with u | u
     · exact addL_mem (h.tru i s hs x u k hk hf)
     · subst u; exact addL_mem (hm k hk hf)
   · exact addL_mem (h.tru j u hu x hx k hk hf)
 · rcases say_mem hx with u | ⟨u, v⟩
   · exact ⟨(h.way x u).1, fun j hj hf => addL_mem ((h.way x u).2 j hj hf)⟩
   · rw [h.len] at u
     refine ⟨u, fun j hj hf => ?_⟩
     have := said x.2 v
     obtain rfl : j = i := by omega
     rw [addL_same]
     exact List.mem_append_right _ v
theorem CnI.gone (h : CnI q c L n) (k : Nat) : CnI q ⟨c.nd, c.wy.eraseIdx k⟩ L n :=
 ⟨h.ok, h.len, h.nod, h.tru, fun x hx => h.way x (List.mem_of_mem_eraseIdx hx), Nat.le_trans (List.length_eraseIdx_le _ _) h.cap⟩
theorem CnI.at (h : CnI q c L n) {k : Nat} (h1 : k < q.vals.length) : ∃ s, c.nd[k]? = some s := ⟨c.nd[k]'(by rw [h.len]; exact h1), List.getElem?_eq_getElem _⟩
theorem CnI.del (h : CnI q c L n) (i : Int) : ∃ L', CnI q (delC q c i).1 L' (n + 1) := by
 unfold delC
 cases e : c.wy[atC c i]? with
 | none => exact ⟨L, h.more (Nat.le_succ n)⟩
 | some x =>
  obtain ⟨⟨w1, w2⟩, w3⟩ := h.way x (List.mem_of_getElem? e)
  obtain ⟨s, hs⟩ := h.at (k := x.1 - 1) (by omega)
  exact ⟨_, (h.gone (atC c i)).take hs w3⟩
theorem CnI.los (h : CnI q c L n) (i : Int) : CnI q (losC c i).1 L n := by
 unfold losC
 cases c.wy[atC c i]? with
 | none => exact h
 | some x => exact h.gone _
theorem CnI.forg (h : CnI q c L n) (tn : Int) (m : Vt) : CnI q (forC c tn m).1 L n := by
 unfold forC
 split
 · rename_i hc
   obtain ⟨h1, h2, _, h4⟩ := hc
   unfold honC at h1 h2
   rw [h.len] at h1 h2
   refine ⟨h.ok, h.len, h.nod, h.tru, fun x hx => ?_, by rw [List.length_append]; exact h4⟩
   rcases List.mem_append.1 hx with u | u
   · exact h.way x u
   · obtain rfl := List.mem_singleton.1 u
     exact ⟨⟨by dsimp only; omega, by dsimp only; omega⟩, fun j hj hf => absurd (show m.fr = (j : Int) + 1 from hf) (by omega)⟩
 · exact h
theorem CnI.tim (h : CnI q c L n) (node step : Int) : ∃ L', CnI q (timC q c node step).1 L' (n + 1) := by
 unfold timC
 split
 · rename_i s e
   split at e
   · exact ⟨_, h.take e fun j hj hf => absurd (show (0 : Int) = (j : Int) + 1 from hf) (by omega)⟩
   · cases e
 · exact ⟨L, h.more (Nat.le_succ n)⟩
/-- No two decide otherwise. -/
theorem CnI.agree (h : CnI q c L n) {i j : Nat} {s u : Ag} (hs : c.nd[i]? = some s) (hu : c.nd[j]? = some u) (ds : s.dn = true) (du : u.dn = true) : s.dc = u.dc := by
 have hN : NetH q.n q.t (fun k => pmC q (k - 1).toNat) (fun k => c.nd[(k - 1).toNat]?.getD newA) (fun k => L (k - 1).toNat) := by
  have get : ∀ k : Int, 1 ≤ k → k ≤ (q.n : Int) - (q.t : Int) → ∃ s, c.nd[(k - 1).toNat]? = some s := fun k h1 h2 => h.at (by have := h.ok.1; omega)
  refine ⟨fun k _ _ => ⟨rfl, rfl⟩, fun k h1 h2 => ?_, fun k h1 h2 => ?_, fun k h1 h2 m hm g1 g2 => ?_⟩
  · obtain ⟨s, e⟩ := get k h1 h2
    rw [e]
    exact (h.nod _ s e).inv
  · obtain ⟨s, e⟩ := get k h1 h2
    rw [e]
    exact (h.nod _ s e).his
  · obtain ⟨s, e⟩ := get k h1 h2
    rw [e] at hm
    exact h.tru _ s e m hm _ (by have := h.ok.1; omega) (by omega)
 have li : i < q.vals.length := by rw [← h.len]; exact (List.getElem?_eq_some_iff.1 hs).1
 have lj : j < q.vals.length := by rw [← h.len]; exact (List.getElem?_eq_some_iff.1 hu).1
 have ei : (((i : Int) + 1) - 1).toNat = i := by omega
 have ej : (((j : Int) + 1) - 1).toNat = j := by omega
 have l0 := h.ok.1
 have := hN.agree (i := (i : Int) + 1) (by omega) (by omega) (j := (j : Int) + 1) (by omega) (by omega)
 rw [ei, ej, hs, hu] at this
 exact this ds du
theorem start_len (q : Cp) : ∀ i, (startC q i).nd.length = q.vals.length
 | 0 => by unfold startC; exact List.length_replicate
 | i + 1 => by unfold startC; rw [List.length_set]; exact start_len q i
/-- The nodes that have begun, and those that have not. -/
theorem start_nd (q : Cp) : ∀ i k, k < q.vals.length → (startC q i).nd[k]? = some (if k < i then (startA (pmC q k) newA).1 else newA)
 | 0, k, hk => by
  unfold startC
  rw [List.getElem?_replicate, if_pos hk, if_neg (Nat.not_lt_zero k)]
 | i + 1, k, hk => by
  unfold startC
  rw [List.getElem?_set]
  split
  · rename_i e
    subst e
    rw [if_pos (by rw [start_len]; exact hk), if_pos (Nat.lt_succ_self i)]
  · rename_i e
    rw [start_nd q i k hk]
    by_cases z : k < i
    · rw [if_pos z, if_pos (by omega)]
    · rw [if_neg z, if_neg (by omega)]
theorem start_wy (q : Cp) (hq : okC q) : ∀ i, i ≤ q.vals.length → (startC q i).wy.length ≤ 4096 ∧ ∀ x ∈ (startC q i).wy, (1 ≤ x.1 ∧ x.1 ≤ q.vals.length) ∧ ∃ k, k < i ∧ x.2.fr = (k : Int) + 1 ∧ x.2 ∈ (startA (pmC q k) newA).2
 | 0, _ => by unfold startC; exact ⟨Nat.zero_le _, fun x hx => by cases hx⟩
 | i + 1, hi => by
  unfold startC
  obtain ⟨_, h2⟩ := start_wy q hq i (by omega)
  refine ⟨say_len _ _ _, fun x hx => ?_⟩
  rcases say_mem hx with u | ⟨u, v⟩
  · obtain ⟨a, k, b, c⟩ := h2 x u
    exact ⟨a, k, by omega, c⟩
  · exact ⟨u, i, Nat.lt_succ_self i, ((said_start (hq.2 i (by omega))).wf x.2 v).1, v⟩
/-- All have begun. -/
theorem CnI.start (hq : okC q) : CnI q (startC q q.vals.length) (fun i => (startA (pmC q i) newA).2) 0 := by
 have get : ∀ i s, (startC q q.vals.length).nd[i]? = some s → i < q.vals.length ∧ s = (startA (pmC q i) newA).1 := fun i s e => by
  have hi : i < q.vals.length := by have := (List.getElem?_eq_some_iff.1 e).1; rw [start_len] at this; exact this
  rw [start_nd q _ i hi, if_pos hi] at e
  injection e with e
  exact ⟨hi, e.symm⟩
 obtain ⟨w1, w2⟩ := start_wy q hq _ (Nat.le_refl _)
 refine ⟨hq, start_len q _, fun i s e => ?_, fun i s e m hm => ?_, fun x hx => ?_, w1⟩
 · obtain ⟨hi, rfl⟩ := get i s e
   exact NdC.start (hq.2 i hi) 0
 · obtain ⟨hi, rfl⟩ := get i s e
   rw [start_eq] at hm
   cases hm
 · obtain ⟨a, k, b, e, v⟩ := w2 x hx
   refine ⟨a, fun j hj hf => ?_⟩
   obtain rfl : j = k := by omega
   exact v
end
/-- Without forged words: what is proposed, held and decided is some node's value. -/
def ValA (vals : List ByteArray) (s : Ag) (o : List Vt) : Prop := (∀ m ∈ s.ps, m.vl ∈ vals) ∧ (0 ≤ s.vr → s.vv ∈ vals) ∧ (s.dn = true → s.dc ∈ vals) ∧ ∀ m ∈ o, m.kd = 1 → m.vl ∈ vals
section
variable {p : Pm} {s s' : Ag} {o : List Vt} {vals : List ByteArray}
theorem val_begin (ho : p.own ∈ vals) (h : ValA vals s o) (r : Int) : ValA vals (beginA p s r).1 (o ++ (beginA p s r).2) := by
 unfold beginA
 split
 · simpa using h
 · dsimp only
   refine ⟨h.1, h.2.1, h.2.2.1, fun m hm hk => ?_⟩
   rcases List.mem_append.1 hm with u | u
   · exact h.2.2.2 m u hk
   · split at u
     · obtain rfl := List.mem_singleton.1 u
       show (if s.vr < 0 then p.own else s.vv) ∈ vals
       split
       · exact ho
       · exact h.2.1 (by omega)
     · cases u
theorem val_vote (h : ValA vals s o) {k : Int} (hk : k = 2 ∨ k = 3) (B : ByteArray) : ValA vals (voteA p s k B).1 (o ++ (voteA p s k B).2) := by
 refine ⟨h.1, h.2.1, h.2.2.1, fun m hm hk1 => ?_⟩
 rcases List.mem_append.1 hm with u | u
 · exact h.2.2.2 m u hk1
 · obtain rfl := List.mem_singleton.1 u
   have : k = 1 := hk1
   omega
theorem val_rule (ho : p.own ∈ vals) (s : Ag) (L : List Vt) (s' : Ag) (o : List Vt) (_hi : InvA p s) (_h0 : 0 ≤ s.rd) (_hd : s.dn = false) (e : ruleA p s = some (s', o)) (h : ValA vals s L) : ValA vals s' (L ++ o) := by
 rcases rule_case e with q | q | q | q | q
 · unfold r1 at q
   cases q2 : seekA (hitA p s) 0 64 with
   | none => rw [q2] at q; cases q
   | some B =>
    rw [q2] at q
    simp only [Option.map_some, Option.some.injEq, Prod.mk.injEq] at q
    obtain ⟨rfl, rfl⟩ := q
    obtain ⟨r, hr⟩ := seek_some _ _ q2
    rw [List.append_nil]
    refine ⟨h.1, h.2.1, fun _ => ?_, h.2.2.2⟩
    unfold hitA at hr
    split at hr
    · rename_i m hm
      split at hr
      · injection hr with hr
        rw [← hr]
        exact h.1 m (prop_mem hm).1
      · cases hr
    · cases hr
 · obtain ⟨_, q⟩ := q
   unfold r2 at q
   split at q
   · injection q with q
     have := val_begin ho h (aheadV p.n p.t s.vs s.rd)
     rw [q] at this
     exact this
   · cases q
 · obtain ⟨_, q⟩ := q
   unfold r3 at q
   split at q
   · rename_i x hm
     split at q
     · injection q with q
       have := val_vote (p := p) h (k := 2) (.inl rfl) (if s.lr < 0 ∨ s.lk = x.vl ∨ (0 ≤ x.va ∧ s.lr ≤ x.va) then x.vl else emp)
       rw [q] at this
       exact this
     · cases q
   · cases q
 · obtain ⟨_, q⟩ := q
   unfold r5 at q
   split at q
   · rename_i x hm
     have hx := h.1 x (prop_mem hm).1
     split at q
     · injection q with q
       split at q
       · have := val_vote (p := p) (s := lockA s x.vl) (o := L) ⟨h.1, fun _ => hx, h.2.2⟩ (k := 3) (.inr rfl) x.vl
         rw [q] at this
         exact this
       · simp only [Prod.mk.injEq] at q
         obtain ⟨rfl, rfl⟩ := q
         rw [List.append_nil]
         exact ⟨h.1, fun _ => hx, h.2.2⟩
     · cases q
   · cases q
 · obtain ⟨_, q⟩ := q
   unfold r6 at q
   split at q
   · injection q with q
     have := val_vote (p := p) h (k := 3) (.inr rfl) emp
     rw [q] at this
     exact this
   · cases q
theorem val_take (ho : p.own ∈ vals) (hi : InvA p s) (h : ValA vals s []) {m : Vt} (hm : m.kd = 1 → m.vl ∈ vals) : ValA vals (takeA p s m).1 (takeA p s m).2 := by
 by_cases hc : s.rd < 0 ∨ s.dn = true
 · unfold takeA; rw [if_pos hc]; exact h
 · have h0 : 0 ≤ s.rd := by omega
   have hd : s.dn = false := by simpa using fun q => hc (.inr q)
   rw [take_eq h0 hd]
   cases e : countA p s m with
   | none => exact h
   | some x =>
    obtain ⟨q1, q2, _, _⟩ := inv_count hi h0 e
    have hx : ValA vals x.1 x.2 := by
     unfold countA at e
     split at e
     · split at e
       · injection e with e; subst e
         unfold timeA
         split
         · have := val_vote (p := p) h (k := 2) (.inl rfl) emp; simpa using this
         · split
           · have := val_vote (p := p) h (k := 3) (.inr rfl) emp; simpa using this
           · split
             · have := val_begin ho h (s.rd + 1); simpa using this
             · exact h
       · cases e
     · split at e
       · cases e
       · split at e
         · rename_i hk
           split at e
           · injection e with e; subst e
             refine ⟨fun y hy => ?_, h.2⟩
             rcases List.mem_append.1 hy with u | u
             · exact h.1 y u
             · obtain rfl := List.mem_singleton.1 u; exact hm hk
           · cases e
         · split at e
           · injection e with e; subst e; exact h
           · cases e
    obtain ⟨s', o⟩ := x
    exact stl_ind (P := ValA vals) (val_rule ho) _ q1 q2 (Nat.le_refl _) hx
end
end Go.Proofs.Ytkfpmjepeikpjaa
