/-
  A drawn region whose last operation waits for all others: a load may be taken first where nobody BUT THAT LAST ONE writes its cell. No function of the program is named here.
  A drawn region by hand, with a predicate S that every operation leaves true: what reads memory is taken first where S tells what it reads; guarded operations too. No function of the program is named here.
-/
import Derived.Deep.RegionHeld3
namespace Go.Proofs.YtpfeakdpckmcgaaDoor
/-- Operation X waits for every other one. -/
def waitsAll (md : Region.Mode) (ops : Array Oper) (X : Nat) : Bool :=
  match ops[X]? with
  | none => false
  | some o => (List.range ops.size).all fun j => j == X || o.after.any fun e => Region.binds md e && e.on == j
section
variable {P : Program} {ops : Array Oper} {Q : Exit → Act → World → Prop} {md : Region.Mode} {S : World → Prop} {X : Nat}
theorem waitsAll_spec (h : waitsAll md ops X = true) {L : Array Bool} (hX : X ∈ Region.ready md ops L) {j : Nat} {oj : Oper} (hj : ops[j]? = some oj) (hne : j ≠ X) : L.getD j false = true := by
  obtain ⟨_, o, ho, hall⟩ := mem_ready.1 hX
  unfold waitsAll at h
  rw [ho] at h
  have h1 := List.all_eq_true.1 h j (List.mem_range.2 (Array.getElem?_eq_some_iff.1 hj).1)
  simp only [Bool.or_eq_true, beq_iff_eq, hne, false_or] at h1
  obtain ⟨e, he, hb⟩ := Array.any_eq_true'.1 h1
  simp only [Bool.and_eq_true, beq_iff_eq] at hb
  have := hall e he hb.1
  rw [hb.2] at this
  exact this
theorem ready_unlisted {L : Array Bool} {j : Nat} (h : j ∈ Region.ready md ops L) : L.getD j false = false := by
  obtain ⟨h0, o, ho, _⟩ := mem_ready.1 h
  rcases Nat.lt_or_ge j L.size with h' | h'
  · simp [h'] at h0 ⊢; exact h0
  · simp [Array.getElem?_eq_none h'] at h0
/-- Whatever order is picked, till X may come up: behind every operation S holds. -/
def wpUntil (P : Program) (md : Region.Mode) (ops : Array Oper) (Q : Exit → Act → World → Prop) (S : World → Prop) (X : Nat) : Nat → Array Bool → Act → World → Prop
  | 0, L, a, w => wpAny P md ops Q 0 L a w
  | f + 1, L, a, w => (X ∈ Region.ready md ops L → wpAny P md ops Q (f + 1) L a w) ∧
    (X ∉ Region.ready md ops L → (Region.ready md ops L = [] → Q .normal a w) ∧ ∀ i ∈ Region.ready md ops L, wpOp P ops Q i (fun a' w' => S w' ∧ wpUntil P md ops Q S X f (L.setIfInBounds i true) a' w') a w)
theorem wpAny_of_until : ∀ (f : Nat) (L : Array Bool) (a : Act) (w : World), wpUntil P md ops Q S X f L a w → wpAny P md ops Q f L a w
  | 0, _, _, _, h => h
  | f + 1, L, a, w, h => by
    by_cases hX : X ∈ Region.ready md ops L
    · exact h.1 hX
    · exact ⟨(h.2 hX).1, fun i hi => wpOp_mono (fun a' w' h' => wpAny_of_until f _ a' w' h'.2) ((h.2 hX).2 i hi)⟩
/-- Nothing that is still to come, and does not wait for number i, touches what oi touches. -/
def Apart (md : Region.Mode) (ops : Array Oper) (i : Nat) (oi : Oper) (L : Array Bool) : Prop :=
  ∀ j oj, ops[j]? = some oj → j ≠ i → L.getD j true = false → (∀ e ∈ oj.after, Region.binds md e = true → e.on ≠ i) → oi.apart ops oj = true
theorem Apart.step {i j : Nat} {oi : Oper} {L : Array Bool} (h : Apart md ops i oi L) (hj : L.getD j true = false) : Apart md ops i oi (L.setIfInBounds j true) := by
  intro k ok hk hki hun
  by_cases e : j = k
  · exact h k ok hk hki (e ▸ hj)
  · rw [getD_set_ne true e] at hun
    exact h k ok hk hki hun
theorem until_first {i : Nat} {oi : Oper} {v : Value} (hi : ops[i]? = some oi) (hiX : i ≠ X) (hW : waitsAll md ops X = true) (hs : Region.noSelect ops = true)
    (hQ : ∀ c a w, Q (.panic c) (a.put oi.dst v) w → Q (.panic c) a w) :
    ∀ (f : Nat) (L : Array Bool) (a : Act) (w : World), Apart md ops i oi L → i ∈ Region.ready md ops L → YieldsIf P ops S oi v a → S w →
      wpUntil P md ops Q S X f (L.setIfInBounds i true) (a.put oi.dst v) w → wpUntil P md ops Q S X (f + 1) L a w
  | f, L, a, w, hA, hr, hy, hS, H => by
    have hun := ready_unlisted hr
    have hXn : X ∉ Region.ready md ops L := fun hX => by simp [waitsAll_spec hW hX hi hiX] at hun
    refine ⟨fun h => absurd h hXn, fun _ => ⟨fun h => (by simp [h] at hr), fun j hj => ?_⟩⟩
    by_cases hji : j = i
    · exact hji ▸ hy.wpOp hi hS ⟨hS, H⟩
    have hj2 := ready_mono hj hji
    obtain ⟨hj0, oj, hoj, hall⟩ := mem_ready.1 hj
    cases f with
    | zero => simp [show Region.ready md ops (L.setIfInBounds i true) = [] from H.1] at hj2
    | succ f =>
      have hXm : X ∉ Region.ready md ops (L.setIfInBounds i true) := fun hX => by
        have h1 := waitsAll_spec hW hX hoj (fun h => hXn (h ▸ hj))
        simp [ready_unlisted hj2] at h1
      have hno : ∀ e ∈ oj.after, Region.binds md e = true → e.on ≠ i := fun e he hb h => by
        have h1 := hall e he hb
        simp [h, hun] at h1
      refine wpOp_mono (fun a' w' h => ?_) (wpOp_putIf hoj (hA j oj hoj hji hj0 hno) (fun cs b => Region.noSelect_spec hs i oi cs b hi) (fun cs b => Region.noSelect_spec hs j oj cs b hoj) hQ hy ((H.2 hXm).2 j hj2))
      obtain ⟨hy', hS', H'⟩ := h
      rw [Array.setIfInBounds_comm _ _ (Ne.symm hji)] at H'
      exact ⟨hS', until_first hi hiX hW hs hQ f _ a' w' (hA.step hj0) (ready_mono hr (Ne.symm hji)) hy' hS' H'⟩
theorem toList_at {i : Nat} {o : Oper} (h : ops.toList[i]? = some o) : ops[i]? = some o := by simpa using h
/-- Take number i first. -/
theorem until_take {i : Nat} {oi : Oper} {v : Value} {f : Nat} {L : Array Bool} {a : Act} {w : World} (hi : ops.toList[i]? = some oi) (hiX : (i == X) = false) (hW : waitsAll md ops X = true)
    (hs : Region.noSelect ops = true) (hf : Region.free md ops L i = true) (hr : (Region.ready md ops L).contains i = true)
    (hQ : ∀ c a w, Q (.panic c) (a.put oi.dst v) w → Q (.panic c) a w) (hg : oi.guard = none) (hy : ∀ w, S w → (execOp a.eval oi).run P w = .ok (.value v) w) (hS : S w)
    (h : wpUntil P md ops Q S X f (L.setIfInBounds i true) (a.put oi.dst v) w) : wpUntil P md ops Q S X (f + 1) L a w :=
  until_first (toList_at hi) (by simpa using hiX) hW hs hQ f L a w (Region.free_spec (toList_at hi) hf) (by simpa using hr) (Or.inl ⟨by simp [Region.wanted, hg], hy⟩) hS h
/-- One alone may come up, and it is not X. -/
theorem until_one {i : Nat} {oi : Oper} {f : Nat} {L : Array Bool} {a : Act} {w : World} (hr : Region.ready md ops L = [i]) (hiX : (i == X) = false) (hi : ops.toList[i]? = some oi) (hg : oi.guard = none)
    (h : ∀ K' : Act → World → Prop, Shut (∀ a w, S w → wpUntil P md ops Q S X f (L.setIfInBounds i true) a w → K' a w) → Oper.wp P oi a w K' Q) : wpUntil P md ops Q S X (f + 1) L a w := by
  refine ⟨fun hX => ?_, fun _ => ⟨fun h0 => (by rw [hr] at h0; cases h0), fun j hj => ?_⟩⟩
  · rw [hr] at hX
    simp at hX
    subst hX
    simp at hiX
  · rw [hr] at hj
    simp at hj
    subst hj
    exact wpOp_step (toList_at hi) (fun K' hK => by
      have hw : Region.wanted oi (yielded ops a.tmps) = true := by simp [Region.wanted, hg]
      rw [if_pos hw]
      exact h K' (fun a w hS hU => hK a w ⟨hS, hU⟩))
/-- X comes up, the last one. -/
theorem until_last {oX : Oper} {f : Nat} {L : Array Bool} {a : Act} {w : World} (hr : Region.ready md ops L = [X]) (hd : Region.ready md ops (L.setIfInBounds X true) = []) (hi : ops.toList[X]? = some oX) (hg : oX.guard = none)
    (h : ∀ K' : Act → World → Prop, Shut (∀ a w, Q .normal a w → K' a w) → Oper.wp P oX a w K' Q) : wpUntil P md ops Q S X (f + 1) L a w := by
  refine ⟨fun _ => ⟨fun h0 => (by rw [hr] at h0; cases h0), fun j hj => ?_⟩, fun hX => absurd (by rw [hr]; simp) hX⟩
  rw [hr] at hj
  simp at hj
  subst hj
  refine wpOp_step (toList_at hi) (fun K' hK => ?_)
  have hw : Region.wanted oX (yielded ops a.tmps) = true := by simp [Region.wanted, hg]
  rw [if_pos hw]
  refine h K' (fun a w hN => hK a w ?_)
  cases f with
  | zero => exact ⟨hd, hN⟩
  | succ f => exact ⟨fun _ => hN, by rw [hd]; simp⟩
/-- The beginning. -/
theorem wp_region_until {id : Nat} {a : Act} {w : World} (hm : P.follows .mixedOrders = true) (h : wpUntil P .any ops Q S X ops.size (Array.replicate ops.size false) a w.drew) : (Code.region id ops true).wp P Q a w :=
  wp_region_any hm (wpAny_of_until _ _ _ _ h)
end
end Go.Proofs.YtpfeakdpckmcgaaDoor
namespace Go.Proofs.YtpfeakdpckmcgaaDoor
section
variable {P : Program} {ops : Array Oper} {Q : Exit → Act → World → Prop} {md : Region.Mode} {S : World → Prop}
/-- Take number i first: it is wanted, and S tells what it yields. -/
theorem held_take {i : Nat} {oi : Oper} {v : Value} {f : Nat} {L : Array Bool} {a : Act} {w : World} (hi : ops.toList[i]? = some oi)
    (hs : Region.noSelect ops = true) (hf : Region.free md ops L i = true) (hr : (Region.ready md ops L).contains i = true)
    (hQ : ∀ c a w, Q (.panic c) (a.put oi.dst v) w → Q (.panic c) a w) (hw : Region.wanted oi (yielded ops a.tmps) = true) (hy : ∀ w, S w → (execOp a.eval oi).run P w = .ok (.value v) w) (hS : S w)
    (h : wpAnyH P md ops Q S f (L.setIfInBounds i true) (a.put oi.dst v) w) : wpAnyH P md ops Q S (f + 1) L a w :=
  wpAnyH_take (toList_at hi) hs hf hr hQ (Or.inl ⟨hw, hy⟩) hS h
/-- Pass number i by: its guard is false. -/
theorem held_skip {i : Nat} {oi : Oper} {f : Nat} {L : Array Bool} {a : Act} {w : World} (hi : ops.toList[i]? = some oi)
    (hs : Region.noSelect ops = true) (hf : Region.free md ops L i = true) (hr : (Region.ready md ops L).contains i = true)
    (hQ : ∀ c a w, Q (.panic c) (a.put oi.dst undef) w → Q (.panic c) a w) (hw : Region.wanted oi (yielded ops a.tmps) = false) (hS : S w)
    (h : wpAnyH P md ops Q S f (L.setIfInBounds i true) (a.put oi.dst undef) w) : wpAnyH P md ops Q S (f + 1) L a w :=
  wpAnyH_take (toList_at hi) hs hf hr hQ (Or.inr ⟨hw, rfl⟩) hS h
theorem held_op {i : Nat} {oi : Oper} {K : Act → World → Prop} {a : Act} {w : World} (hi : ops.toList[i]? = some oi) (hw : Region.wanted oi (yielded ops a.tmps) = true)
    (h : ∀ K' : Act → World → Prop, Shut (∀ a w, K a w → K' a w) → Oper.wp P oi a w K' Q) : wpOp P ops Q i K a w :=
  wpOp_step (toList_at hi) (fun K' hK => by rw [if_pos hw]; exact h K' hK)
/-- One alone may come up. -/
theorem held_one {i : Nat} {oi : Oper} {f : Nat} {L : Array Bool} {a : Act} {w : World} (hr : Region.ready md ops L = [i]) (hi : ops.toList[i]? = some oi) (hw : Region.wanted oi (yielded ops a.tmps) = true)
    (h : ∀ K' : Act → World → Prop, Shut (∀ a w, S w ∧ wpAnyH P md ops Q S f (L.setIfInBounds i true) a w → K' a w) → Oper.wp P oi a w K' Q) : wpAnyH P md ops Q S (f + 1) L a w :=
  wpAnyH_all hr (by simp) fun j hj => by
    obtain rfl : j = i := by simpa using hj
    exact held_op hi hw h
/-- Two may come up. -/
theorem held_two {i k : Nat} {oi ok : Oper} {f : Nat} {L : Array Bool} {a : Act} {w : World} (hr : Region.ready md ops L = [i, k]) (hi : ops.toList[i]? = some oi) (hk : ops.toList[k]? = some ok)
    (hwi : Region.wanted oi (yielded ops a.tmps) = true) (hwk : Region.wanted ok (yielded ops a.tmps) = true)
    (h1 : ∀ K' : Act → World → Prop, Shut (∀ a w, S w ∧ wpAnyH P md ops Q S f (L.setIfInBounds i true) a w → K' a w) → Oper.wp P oi a w K' Q)
    (h2 : ∀ K' : Act → World → Prop, Shut (∀ a w, S w ∧ wpAnyH P md ops Q S f (L.setIfInBounds k true) a w → K' a w) → Oper.wp P ok a w K' Q) : wpAnyH P md ops Q S (f + 1) L a w :=
  wpAnyH_all hr (by simp) fun j hj => by
    have : j = i ∨ j = k := by simpa using hj
    rcases this with rfl | rfl
    · exact held_op hi hwi h1
    · exact held_op hk hwk h2
end
end Go.Proofs.YtpfeakdpckmcgaaDoor
