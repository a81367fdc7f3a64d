/-
  Nodes that agree: what each said so far, and why no two honest ones decide otherwise. No Go here.
-/
import Derived.Test.YtkfpmjepeikpjaaAMath
namespace Go.Proofs.Ytkfpmjepeikpjaa
set_option maxRecDepth 10000
/-- What a part said so far, its lock and its decision, against the votes that it has. -/
structure HistA (p : Pm) (s : Ag) (L : List Vt) : Prop where
  said : SaidA p s L
  pre : ∀ m ∈ L, m.kd = 3 → m.vl ≠ emp → isA p s.vs 2 m.rd m.vl = true ∧ m.rd ≤ s.lr ∧ (m.rd = s.lr → s.lk = m.vl)
  lk : 0 ≤ s.lr → isA p s.vs 2 s.lr s.lk = true
  st : s.st = 1 → s.lr < s.rd
  vot : ∀ x ∈ L, x.kd = 2 → x.vl ≠ emp → ∀ m ∈ L, m.kd = 3 → m.vl ≠ emp → m.rd < x.rd → m.vl = x.vl ∨ ∃ r, m.rd ≤ r ∧ r < x.rd ∧ isA p s.vs 2 r x.vl = true
  dec : s.dn = true → ∃ r : Nat, isA p s.vs 3 r s.dc = true
section
variable {p : Pm} {s s' : Ag} {L : List Vt}
/-- A word is said that is no vote of a value; the state's votes, lock and decision are as they were. -/
theorem HistA.plain (h : HistA p s L) {o : List Vt} (hs : SaidA p s' (L ++ o)) (ho : ∀ m ∈ o, (m.kd = 2 → m.vl = emp) ∧ (m.kd = 3 → m.vl = emp)) (ev : s'.vs = s.vs) (el : s'.lr = s.lr) (ek : s'.lk = s.lk) (ed : s'.dn = true → ∃ r : Nat, isA p s.vs 3 r s'.dc = true) (hst : s'.st = 1 → s'.lr < s'.rd) : HistA p s' (L ++ o) := by
  have old : ∀ m ∈ L ++ o, (m.kd = 2 ∨ m.kd = 3) → m.vl ≠ emp → m ∈ L := fun m hm hk hv => by
    rcases List.mem_append.1 hm with q | q
    · exact q
    · rcases hk with e | e
      · exact (hv ((ho m q).1 e)).elim
      · exact (hv ((ho m q).2 e)).elim
  refine ⟨hs, fun m hm h3 hv => ?_, fun h0 => ?_, hst, fun x hx h2 hv m hm h3 hw hr => ?_, fun hd => ?_⟩
  · rw [ev, el, ek]; exact h.pre m (old m hm (.inr h3) hv) h3 hv
  · rw [ev, el, ek]; exact h.lk (by rw [← el]; exact h0)
  · rw [ev]; exact h.vot x (old x hx (.inl h2) hv) h2 hv m (old m hm (.inr h3) hw) h3 hw hr
  · rw [ev]; exact ed hd
theorem begin_words {r : Int} : ∀ m ∈ (beginA p s r).2, (m.kd = 2 → m.vl = emp) ∧ (m.kd = 3 → m.vl = emp) := fun m hm => by
  unfold beginA at hm
  split at hm
  · cases hm
  · dsimp only at hm
    split at hm
    · obtain rfl := List.mem_singleton.1 hm
      exact ⟨fun q => (by cases q), fun q => by cases q⟩
    · cases hm
theorem begin_keeps (r : Int) : (beginA p s r).1.vs = s.vs ∧ (beginA p s r).1.ps = s.ps ∧ (beginA p s r).1.lr = s.lr ∧ (beginA p s r).1.lk = s.lk ∧ (beginA p s r).1.dn = s.dn ∧ (beginA p s r).1.dc = s.dc ∧ ((beginA p s r).1.rd = s.rd ∧ (beginA p s r).1.st = s.st ∨ (beginA p s r).1.rd = r) := by
  unfold beginA
  split <;> simp
theorem hist_begin (hp : okP p) (hi : InvA p s) (h : HistA p s L) {r : Int} (hr : s.rd < r) (h0 : 0 ≤ r) : HistA p (beginA p s r).1 (L ++ (beginA p s r).2) := by
  obtain ⟨e1, _, e2, e3, e4, e5, e6⟩ := begin_keeps (p := p) (s := s) r
  refine h.plain (said_begin hp hi h.said hr h0) begin_words e1 e2 e3 (fun q => by rw [e5]; exact h.dec (by rw [← e4]; exact q)) fun q => ?_
  rw [e2]
  rcases e6 with ⟨e6, e7⟩ | e6
  · rw [e6]; exact h.st (by rw [← e7]; exact q)
  · rw [e6]; have := hi.lr; omega
theorem hist_emp (hp : okP p) (hi : InvA p s) (h0 : 0 ≤ s.rd) (h : HistA p s L) {k : Int} (hk : (k = 2 ∧ s.st = 1) ∨ (k = 3 ∧ s.st = 2)) : HistA p (voteA p s k emp).1 (L ++ (voteA p s k emp).2) := by
  refine h.plain (said_vote hp hi h0 h.said hk (by decide)) (fun m hm => ?_) rfl rfl rfl h.dec fun q => ?_
  · obtain rfl := List.mem_singleton.1 hm
    exact ⟨fun _ => rfl, fun _ => rfl⟩
  · have : (if k = 3 then (3 : Int) else 2) = 1 := q
    split at this <;> omega
theorem isA_more {V : List Vt} {k r : Int} {B : ByteArray} (m : Vt) (h : isA p V k r B = true) : isA p (V ++ [m]) k r B = true := by
  unfold isA at *
  have := of_decide_eq_true h
  exact decide_eq_true (by rw [cntV_snoc]; omega)
theorem hist_rule (hp : okP p) (s : Ag) (L : List Vt) (s' : Ag) (o : List Vt) (hi : InvA p s) (h0 : 0 ≤ s.rd) (hd : s.dn = false) (e : ruleA p s = some (s', o)) (h : HistA p s L) : HistA p s' (L ++ o) := by
  have hsd := said_rule hp s L s' o hi h0 hd e h.said
  rcases rule_case e with q | q | q | q | q
  · unfold r1 at q
    cases q2 : seekA (hitA p s) 0 64 with
    | none => rw [q2] at q; cases q
    | some B =>
      rw [q2] at q
      simp only [Option.map_some, Option.some.injEq, Prod.mk.injEq] at q
      obtain ⟨rfl, rfl⟩ := q
      refine h.plain hsd (fun m hm => by cases hm) rfl rfl rfl (fun _ => ?_) h.st
      obtain ⟨r, hr⟩ := seek_some _ _ q2
      unfold hitA at hr
      split at hr
      · split at hr
        · rename_i hq
          injection hr with hr
          exact ⟨r, by rw [← hr]; exact hq⟩
        · cases hr
      · cases hr
  · obtain ⟨_, q⟩ := q
    unfold r2 at q
    split at q
    · rename_i hlt
      injection q with q
      have := hist_begin hp hi h hlt (by omega)
      rw [q] at this
      exact this
    · cases q
  · obtain ⟨_, q⟩ := q
    unfold r3 at q
    split at q
    · rename_i x hm
      have hw := prop_wf hi hm
      split at q
      · rename_i hc
        injection q with q
        by_cases hv : s.lr < 0 ∨ s.lk = x.vl ∨ (0 ≤ x.va ∧ s.lr ≤ x.va)
        · rw [if_pos hv] at q
          unfold voteA at q
          simp only [Prod.mk.injEq] at q
          obtain ⟨rfl, rfl⟩ := q
          refine ⟨hsd, fun m hm3 h3 hvv => ?_, h.lk, fun q => ?_, fun y hy h2 hvv m hm3 h3 hw3 hr => ?_, h.dec⟩
          · rcases List.mem_append.1 hm3 with u | u
            · exact h.pre m u h3 hvv
            · obtain rfl := List.mem_singleton.1 u; cases h3
          · have q3 : (2 : Int) = 1 := q
            omega
          · have hm4 : m ∈ L := by
              rcases List.mem_append.1 hm3 with u | u
              · exact u
              · obtain rfl := List.mem_singleton.1 u; cases h3
            rcases List.mem_append.1 hy with u | u
            · exact h.vot y u h2 hvv m hm4 h3 hw3 hr
            · obtain rfl := List.mem_singleton.1 u
              obtain ⟨p1, p2, p3⟩ := h.pre m hm4 h3 hw3
              have m0 : 0 ≤ m.rd := (wOk_iff.1 (h.said.wf m hm4).2).2.2.1
              have hl := h.st hc.1
              rcases hv with v1 | v1 | v1
              · omega
              · by_cases e1 : m.rd = s.lr
                · left; rw [← p3 e1]; exact v1
                · right
                  refine ⟨s.lr, p2, hl, ?_⟩
                  show isA p s.vs 2 s.lr x.vl = true
                  rw [← v1]; exact h.lk (by omega)
              · right
                refine ⟨x.va, by omega, ?_, ?_⟩
                · show x.va < s.rd; exact hw.2.2.1
                · show isA p s.vs 2 x.va x.vl = true
                  rcases hc.2 with c | c
                  · omega
                  · exact c
        · rw [if_neg hv] at q
          have := hist_emp hp hi h0 h (k := 2) (.inl ⟨rfl, hc.1⟩)
          rw [q] at this
          exact this
      · cases q
    · cases q
  · obtain ⟨_, q⟩ := q
    unfold r5 at q
    split at q
    · rename_i x hm
      have hw := prop_wf hi hm
      split at q
      · rename_i hc
        injection q with q
        split at q
        · rename_i h2
          unfold voteA at q
          simp only [Prod.mk.injEq] at q
          obtain ⟨rfl, rfl⟩ := q
          refine ⟨hsd, fun m hm3 h3 hvv => ?_, fun _ => hc.2.2, fun q => ?_, fun y hy k2 hvv m hm3 h3 hw3 hr => ?_, h.dec⟩
          · show isA p s.vs 2 m.rd m.vl = true ∧ m.rd ≤ s.rd ∧ (m.rd = s.rd → x.vl = m.vl)
            rcases List.mem_append.1 hm3 with u | u
            · obtain ⟨p1, p2, _⟩ := h.pre m u h3 hvv
              refine ⟨p1, by have := hi.lr; omega, fun er => ?_⟩
              have := ((h.said.le m u).2 er).2 h3
              omega
            · obtain rfl := List.mem_singleton.1 u
              exact ⟨hc.2.2, Int.le_refl _, fun _ => rfl⟩
          · simp at q
          · have hy4 : y ∈ L := by
              rcases List.mem_append.1 hy with u | u
              · exact u
              · obtain rfl := List.mem_singleton.1 u; cases k2
            rcases List.mem_append.1 hm3 with u | u
            · exact h.vot y hy4 k2 hvv m u h3 hw3 hr
            · obtain rfl := List.mem_singleton.1 u
              have := (h.said.le y hy4).1
              have : s.rd < y.rd := hr
              omega
        · simp only [Prod.mk.injEq] at q
          obtain ⟨rfl, rfl⟩ := q
          exact h.plain hsd (fun m hm => by cases hm) rfl rfl rfl h.dec h.st
      · cases q
    · cases q
  · obtain ⟨_, q⟩ := q
    unfold r6 at q
    split at q
    · rename_i hc
      injection q with q
      have := hist_emp hp hi h0 h (k := 3) (.inr ⟨rfl, hc.1⟩)
      rw [q] at this
      exact this
    · cases q
theorem hist_count (hp : okP p) (hi : InvA p s) (h0 : 0 ≤ s.rd) (h : HistA p s L) {m : Vt} {x : Ag × List Vt} (e : countA p s m = some x) : HistA p x.1 (L ++ x.2) := by
  have hsd := said_count hp hi h0 e h.said
  unfold countA at e
  split at e
  · split at e
    · injection e with e; subst e
      unfold timeA
      split
      · rename_i q; exact hist_emp hp hi h0 h (.inl ⟨rfl, q.2⟩)
      · split
        · rename_i q; exact hist_emp hp hi h0 h (.inr ⟨rfl, q.2⟩)
        · split
          · exact hist_begin hp hi h (by omega) (by omega)
          · simpa using h
    · cases e
  · split at e
    · cases e
    · split at e
      · split at e
        · injection e with e; subst e
          exact h.plain hsd (fun m hm => by cases hm) rfl rfl rfl h.dec h.st
        · cases e
      · split at e
        · injection e with e; subst e
          rw [List.append_nil] at hsd ⊢
          exact ⟨hsd, fun y hy h3 hv => ⟨isA_more m (h.pre y hy h3 hv).1, (h.pre y hy h3 hv).2⟩, fun q => isA_more m (h.lk q), h.st, fun y hy h2 hv z hz h3 hw hr => by
            rcases h.vot y hy h2 hv z hz h3 hw hr with c | ⟨r, c1, c2, c3⟩
            · exact .inl c
            · exact .inr ⟨r, c1, c2, isA_more m c3⟩, fun q => by
            obtain ⟨r, c⟩ := h.dec q
            exact ⟨r, isA_more m c⟩⟩
        · cases e
theorem hist_take (hp : okP p) (hi : InvA p s) (h : HistA p s L) (m : Vt) : HistA p (takeA p s m).1 (L ++ (takeA p s m).2) := by
  by_cases hc : s.rd < 0 ∨ s.dn = true
  · unfold takeA; rw [if_pos hc]; simpa using h
  · have h0 : 0 ≤ s.rd := by omega
    have hd : s.dn = false := by simpa using fun q => hc (.inr q)
    rw [take_eq h0 hd]
    cases e : countA p s m with
    | none => simpa using h
    | some x =>
      obtain ⟨q1, q2, _, _⟩ := inv_count hi h0 e
      have := hist_count hp hi h0 h e
      obtain ⟨s', o⟩ := x
      have := stl_ind (P := HistA p) (hist_rule hp) _ q1 q2 (Nat.le_refl _) this
      rw [List.append_assoc] at this
      exact this
theorem hist_start (hp : okP p) : HistA p (startA p newA).1 (startA p newA).2 := by
  unfold startA
  rw [if_neg (by show ¬ (0 : Int) ≤ -1; decide)]
  have h0 : HistA p newA [] := ⟨⟨fun m hm => (by cases hm), fun m hm => (by cases hm), List.Pairwise.nil, List.Pairwise.nil⟩, fun m hm => (by cases hm), fun q => absurd q (by decide), fun q => absurd q (by decide), fun x hx => (by cases hx), fun q => absurd q (by decide)⟩
  have := hist_begin hp (inv_new p) h0 (r := 0) (by show (-1 : Int) < 0; decide) (Int.le_refl 0)
  simpa using this
/-- A decision stays. -/
theorem take_done (hd : s.dn = true) (m : Vt) : takeA p s m = (s, []) := by unfold takeA; rw [if_pos (.inr hd)]
/-- The votes behind a word: those that were there, and that word. -/
theorem take_vs (hi : InvA p s) (m : Vt) : ∀ x ∈ (takeA p s m).1.vs, x ∈ s.vs ∨ x = m := by
  by_cases hc : s.rd < 0 ∨ s.dn = true
  · unfold takeA; rw [if_pos hc]; exact fun x hx => .inl hx
  · have h0 : 0 ≤ s.rd := by omega
    have hd : s.dn = false := by simpa using fun q => hc (.inr q)
    rw [take_eq h0 hd]
    cases e : countA p s m with
    | none => exact fun x hx => .inl hx
    | some y =>
      obtain ⟨q1, q2, _, _⟩ := inv_count hi h0 e
      obtain ⟨s', o⟩ := y
      have ev := (stl_quiet q1 q2).2.2.2.2
      intro x hx
      have hx2 : x ∈ s'.vs := by rw [← ev]; exact hx
      unfold countA at e
      split at e
      · split at e
        · injection e with e
          have := (inv_time hi h0 m.va).2.2.2.1
          rw [e] at this
          rw [this] at hx2
          exact .inl hx2
        · cases e
      · split at e
        · cases e
        · split at e
          · split at e
            · injection e with e
              injection e with e _
              rw [← e] at hx2
              exact .inl hx2
            · cases e
          · split at e
            · injection e with e
              injection e with e _
              rw [← e] at hx2
              rcases List.mem_append.1 hx2 with u | u
              · exact .inl u
              · exact .inr (List.mem_singleton.1 u)
            · cases e
end
/-- Two quorums have an honest node in common. -/
theorem quorum_meet {N T : Nat} {V W : List Vt} (h : InvV N V) (h' : InvV N W) {k r : Int} {B : ByteArray} {k' r' : Int} {B' : ByteArray} (q : qmV N T ≤ cntV V k r B) (q' : qmV N T ≤ cntV W k' r' B') :
    ∃ m ∈ V, ∃ m' ∈ W, (m.kd = k ∧ m.rd = r ∧ m.vl = B) ∧ (m'.kd = k' ∧ m'.rd = r' ∧ m'.vl = B') ∧ m'.fr = m.fr ∧ 1 ≤ m.fr ∧ m.fr ≤ (N : Int) - (T : Int) := Classical.byContradiction fun no => by
  have lst : ∀ {V : List Vt} (_ : InvV N V) (k r : Int) (B : ByteArray), ((V.filter fun m => decide (m.kd = k ∧ m.rd = r ∧ m.vl = B)).map Vt.fr).Nodup ∧ ∀ x ∈ (V.filter fun m => decide (m.kd = k ∧ m.rd = r ∧ m.vl = B)).map Vt.fr, (1 ≤ x ∧ x ≤ (N : Int)) ∧ ∃ m ∈ V, (m.kd = k ∧ m.rd = r ∧ m.vl = B) ∧ m.fr = x := fun {V} h k r B => by
    constructor
    · unfold List.Nodup
      rw [List.pairwise_map]
      refine (List.Pairwise.filter _ h.dis).imp_of_mem fun {a b} ha hb hd e => ?_
      have ha2 := of_decide_eq_true (List.mem_filter.1 ha).2
      have hb2 := of_decide_eq_true (List.mem_filter.1 hb).2
      exact hd ⟨ha2.1.trans hb2.1.symm, ha2.2.1.trans hb2.2.1.symm, e⟩
    · intro x hx
      obtain ⟨m, hm, rfl⟩ := List.mem_map.1 hx
      obtain ⟨hm1, hm2⟩ := List.mem_filter.1 hm
      have := may_iffV.1 (h.may m hm1)
      exact ⟨⟨this.2.1, this.2.2.1⟩, m, hm1, of_decide_eq_true hm2, rfl⟩
  obtain ⟨n1, f1⟩ := lst h k r B
  obtain ⟨n2, f2⟩ := lst h' k' r' B'
  have l1 : ((V.filter fun m => decide (m.kd = k ∧ m.rd = r ∧ m.vl = B)).map Vt.fr).length = cntV V k r B := by unfold cntV; rw [List.length_map, List.countP_eq_length_filter]
  have l2 : ((W.filter fun m => decide (m.kd = k' ∧ m.rd = r' ∧ m.vl = B')).map Vt.fr).length = cntV W k' r' B' := by unfold cntV; rw [List.length_map, List.countP_eq_length_filter]
  generalize (V.filter fun m => decide (m.kd = k ∧ m.rd = r ∧ m.vl = B)).map Vt.fr = A at *
  generalize (W.filter fun m => decide (m.kd = k' ∧ m.rd = r' ∧ m.vl = B')).map Vt.fr = C at *
  have c1 := pigeon N (A ++ C.filter fun x => decide (x ∉ A)) (by
    rw [List.nodup_append]
    refine ⟨n1, List.Pairwise.filter _ n2, fun a ha b hb e => ?_⟩
    have := of_decide_eq_true (List.mem_filter.1 hb).2
    exact this (e ▸ ha)) (fun x hx => by
    rcases List.mem_append.1 hx with u | u
    · exact (f1 x u).1
    · exact (f2 x (List.mem_filter.1 u).1).1)
  have c2 := pigeon T ((C.filter fun x => decide (x ∈ A)).map fun x => x - ((N : Int) - (T : Int))) (by
    unfold List.Nodup
    rw [List.pairwise_map]
    exact (List.Pairwise.filter _ n2).imp fun {a b} hab e => hab (by omega)) (fun x hx => by
    obtain ⟨y, hy, rfl⟩ := List.mem_map.1 hx
    obtain ⟨hy1, hy2⟩ := List.mem_filter.1 hy
    have hyA := of_decide_eq_true hy2
    obtain ⟨⟨g1, g2⟩, m', hm', e1, e2⟩ := f2 y hy1
    obtain ⟨_, m, hm, e3, e4⟩ := f1 y hyA
    have : ¬ y ≤ (N : Int) - (T : Int) := fun z => no ⟨m, hm, m', hm', e3, e1, by rw [e2, e4], by omega, by omega⟩
    omega)
  rw [List.length_append] at c1
  rw [List.length_map] at c2
  have c3 : (C.filter fun x => decide (x ∈ A)).length + (C.filter fun x => decide (x ∉ A)).length = C.length := by
    rw [← List.countP_eq_length_filter, ← List.countP_eq_length_filter]
    have := List.length_eq_countP_add_countP (fun x => decide (x ∈ A)) (l := C)
    rw [this]
    congr 1
    exact List.countP_congr fun x _ => by simp
  unfold qmV at q q'
  omega
/-- Honest nodes, what each said, and what each was told. -/
structure NetH (N T : Nat) (P : Int → Pm) (f : Int → Ag) (L : Int → List Vt) : Prop where
  par : ∀ j, 1 ≤ j → j ≤ (N : Int) - (T : Int) → (P j).n = N ∧ (P j).t = T
  inv : ∀ j, 1 ≤ j → j ≤ (N : Int) - (T : Int) → InvA (P j) (f j)
  his : ∀ j, 1 ≤ j → j ≤ (N : Int) - (T : Int) → HistA (P j) (f j) (L j)
  tru : ∀ j, 1 ≤ j → j ≤ (N : Int) - (T : Int) → ∀ m ∈ (f j).vs, 1 ≤ m.fr → m.fr ≤ (N : Int) - (T : Int) → m ∈ L m.fr
theorem pw_same {L : List Vt} (h : L.Pairwise fun a b => ¬ (a.kd = b.kd ∧ a.rd = b.rd)) {a b : Vt} (ha : a ∈ L) (hb : b ∈ L) (e1 : a.kd = b.kd) (e2 : a.rd = b.rd) : a = b := by
  induction L with
  | nil => cases ha
  | cons x L ih =>
    obtain ⟨h1, h2⟩ := List.pairwise_cons.1 h
    rcases List.mem_cons.1 ha with ea | ha2
    · rcases List.mem_cons.1 hb with eb | hb2
      · rw [ea, eb]
      · exact (h1 b hb2 (by rw [← ea]; exact ⟨e1, e2⟩)).elim
    · rcases List.mem_cons.1 hb with eb | hb2
      · exact (h1 a ha2 (by rw [← eb]; exact ⟨e1.symm, e2.symm⟩)).elim
      · exact ih h2 ha2 hb2
section
variable {N T : Nat} {P : Int → Pm} {f : Int → Ag} {L : Int → List Vt}
theorem NetH.quo (h : NetH N T P f L) {j : Int} (h1 : 1 ≤ j) (h2 : j ≤ (N : Int) - (T : Int)) {k r : Int} {B : ByteArray} (q : isA (P j) (f j).vs k r B = true) : InvV N (f j).vs ∧ qmV N T ≤ cntV (f j).vs k r B := by
  obtain ⟨e1, e2⟩ := h.par j h1 h2
  have h3 := (h.inv j h1 h2).vs
  have h4 := of_decide_eq_true q
  rw [e1] at h3
  rw [e1, e2] at h4
  exact ⟨h3, h4⟩
/-- Two quorums: an honest node said both. -/
theorem NetH.both (h : NetH N T P f L) {i : Int} (i1 : 1 ≤ i) (i2 : i ≤ (N : Int) - (T : Int)) {j : Int} (j1 : 1 ≤ j) (j2 : j ≤ (N : Int) - (T : Int)) {k r : Int} {B : ByteArray} {k' r' : Int} {B' : ByteArray} (q : isA (P i) (f i).vs k r B = true) (q' : isA (P j) (f j).vs k' r' B' = true) :
    ∃ x, 1 ≤ x ∧ x ≤ (N : Int) - (T : Int) ∧ ∃ m ∈ L x, ∃ m' ∈ L x, (m.kd = k ∧ m.rd = r ∧ m.vl = B) ∧ (m'.kd = k' ∧ m'.rd = r' ∧ m'.vl = B') := by
  obtain ⟨a1, a2⟩ := h.quo i1 i2 q
  obtain ⟨b1, b2⟩ := h.quo j1 j2 q'
  obtain ⟨m, hm, m', hm', e1, e2, e3, g1, g2⟩ := quorum_meet a1 b1 a2 b2
  exact ⟨m.fr, g1, g2, m, h.tru i i1 i2 m hm g1 g2, m', by have := h.tru j j1 j2 m' hm' (by rw [e3]; exact g1) (by rw [e3]; exact g2); rw [e3] at this; exact this, e1, e2⟩
/-- Behind a quorum of precommits of a value no other value has a quorum of prevotes, in that round and all later ones. -/
theorem NetH.stays (h : NetH N T P f L) {d : Int} (d1 : 1 ≤ d) (d2 : d ≤ (N : Int) - (T : Int)) {r : Int} {B : ByteArray} (hB : B ≠ emp) (q : isA (P d) (f d).vs 3 r B = true) : ∀ (n k : Nat), k ≤ n → ∀ i, 1 ≤ i → i ≤ (N : Int) - (T : Int) → ∀ v, v ≠ emp → isA (P i) (f i).vs 2 (r + (k : Int)) v = true → v = B
  | n, k, hk, i, i1, i2, v, hv, q2 => by
    obtain ⟨x, x1, x2, m, hm, m', hm', e1, e2⟩ := h.both d1 d2 i1 i2 q q2
    have hx := h.his x x1 x2
    have hp := (hx.pre m hm e1.1 (by rw [e1.2.2]; exact hB)).1
    rw [e1.2.1, e1.2.2] at hp
    have zero : ∀ {j : Int}, 1 ≤ j → j ≤ (N : Int) - (T : Int) → isA (P j) (f j).vs 2 r v = true → v = B := fun {j} j1 j2 qj => by
      obtain ⟨y, y1, y2, a, ha, b, hb, g1, g2⟩ := h.both x1 x2 j1 j2 hp qj
      have := pw_same (h.his y y1 y2).said.df ha hb (g1.1.trans g2.1.symm) (g1.2.1.trans g2.2.1.symm)
      rw [← g1.2.2, this, g2.2.2]
    by_cases k0 : k = 0
    · subst k0
      exact zero i1 i2 (by simpa using q2)
    · rcases hx.vot m' hm' e2.1 (by rw [e2.2.2]; exact hv) m hm e1.1 (by rw [e1.2.2]; exact hB) (by rw [e1.2.1, e2.2.1]; omega) with c | ⟨u, c1, c2, c3⟩
      · rw [← e2.2.2, ← c, e1.2.2]
      · rw [e1.2.1] at c1
        rw [e2.2.1] at c2
        rw [e2.2.2] at c3
        cases n with
        | zero => omega
        | succ n =>
          refine h.stays d1 d2 hB q n (u - r).toNat (by omega) x x1 x2 v hv ?_
          rw [show r + (((u - r).toNat : Nat) : Int) = u by omega]
          exact c3
/-- No two honest nodes decide otherwise. -/
theorem NetH.agree (h : NetH N T P f L) {i : Int} (i1 : 1 ≤ i) (i2 : i ≤ (N : Int) - (T : Int)) {j : Int} (j1 : 1 ≤ j) (j2 : j ≤ (N : Int) - (T : Int)) (di : (f i).dn = true) (dj : (f j).dn = true) : (f i).dc = (f j).dc := by
  obtain ⟨r, hr⟩ := (h.his i i1 i2).dec di
  obtain ⟨u, hu⟩ := (h.his j j1 j2).dec dj
  have ni : (f i).dc ≠ emp := fun e => ((h.inv i i1 i2).dc.2.1 di) (by rw [e]; rfl)
  have nj : (f j).dc ≠ emp := fun e => ((h.inv j j1 j2).dc.2.1 dj) (by rw [e]; rfl)
  have one : ∀ {a b : Int} (_ : 1 ≤ a) (_ : a ≤ (N : Int) - (T : Int)) (_ : 1 ≤ b) (_ : b ≤ (N : Int) - (T : Int)) {r u : Nat} (_ : isA (P a) (f a).vs 3 r (f a).dc = true) (_ : isA (P b) (f b).vs 3 u (f b).dc = true) (_ : (f a).dc ≠ emp) (_ : (f b).dc ≠ emp) (_ : r ≤ u), (f b).dc = (f a).dc := fun {a b} a1 a2 b1 b2 {r u} qa qb na nb hle => by
    obtain ⟨x, x1, x2, m, hm, _, _, e1, _⟩ := h.both b1 b2 b1 b2 qb qb
    have hp := ((h.his x x1 x2).pre m hm e1.1 (by rw [e1.2.2]; exact nb)).1
    rw [e1.2.1, e1.2.2] at hp
    refine h.stays a1 a2 na qa (u - r) (u - r) (Nat.le_refl _) x x1 x2 _ nb ?_
    rw [show (r : Int) + ((u - r : Nat) : Int) = (u : Int) by omega]
    exact hp
  by_cases hle : r ≤ u
  · exact (one i1 i2 j1 j2 hr hu ni nj hle).symm
  · exact one j1 j2 i1 i2 hu hr nj ni (by omega)
end
end Go.Proofs.Ytkfpmjepeikpjaa
