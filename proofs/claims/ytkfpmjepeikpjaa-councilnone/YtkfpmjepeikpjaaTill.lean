/-
  A drawn region up to one operation X behind which all that follows waits: loads may be taken first till X comes up; and the moves for regions whose next operation is one alone. No function of the program is named here.
-/
import Derived.Test.YtkfpmjepeikpjaaUntil
namespace Go.Proofs.Ytkfpmjepeikpjaa
set_option maxRecDepth 10000
/-- X waits for j. -/
def waitsOn (md : Region.Mode) (ops : Array Oper) (X j : Nat) : Bool :=
  match ops[X]? with
  | none => false
  | some o => o.after.any fun e => Region.binds md e && e.on == j
/-- Each of D but X waits for one of D. -/
def fenced (md : Region.Mode) (ops : Array Oper) (X : Nat) (D : List Nat) : Bool :=
  D.all fun j => j == X || match ops[j]? with
    | none => true
    | some o => o.after.any fun e => Region.binds md e && D.contains e.on
/-- None of D is listed; X waits for all others that are not listed. -/
def fenB (md : Region.Mode) (ops : Array Oper) (X : Nat) (D : List Nat) (L : Array Bool) : Bool :=
  (D.all fun j => !(L.getD j false)) && (List.range ops.size).all fun j => D.contains j || L.getD j true || waitsOn md ops X j
section
variable {P : Program} {ops : Array Oper} {Q : Exit → Act → World → Prop} {md : Region.Mode} {S : World → Prop} {X : Nat} {D : List Nat}
def Fen (md : Region.Mode) (ops : Array Oper) (X : Nat) (D : List Nat) (L : Array Bool) : Prop :=
  (∀ j ∈ D, L.getD j false = false) ∧ ∀ j oj, ops[j]? = some oj → j ∉ D → L.getD j true = false → waitsOn md ops X j = true
theorem fen_of {L : Array Bool} (h : fenB md ops X D L = true) : Fen md ops X D L := by
  unfold fenB at h
  simp only [Bool.and_eq_true] at h
  refine ⟨fun j hj => ?_, fun j oj hj hD hL => ?_⟩
  · have := List.all_eq_true.1 h.1 j hj
    simpa using this
  · have := List.all_eq_true.1 h.2 j (List.mem_range.2 (Array.getElem?_eq_some_iff.1 hj).1)
    simp only [Bool.or_eq_true, List.contains_iff_mem, hD, false_or, hL, Bool.false_eq_true] at this
    exact this
theorem Fen.step {L : Array Bool} {j : Nat} (h : Fen md ops X D L) (hj : j ∉ D) : Fen md ops X D (L.setIfInBounds j true) := by
  refine ⟨fun k hk => ?_, fun k ok hk hD hL => ?_⟩
  · have hne : j ≠ k := fun e => hj (e ▸ hk)
    rw [getD_set_ne false hne]
    exact h.1 k hk
  · by_cases e : j = k
    · subst e
      rcases Nat.lt_or_ge j L.size with h' | h'
      · simp [h'] at hL
      · simp [h'] at hL
    · rw [getD_set_ne true e] at hL
      exact h.2 k ok hk hD hL
theorem waits_spec {L : Array Bool} {j : Nat} (hX : X ∈ Region.ready md ops L) (hw : waitsOn md ops X j = true) : L.getD j false = true := by
  obtain ⟨_, o, ho, hall⟩ := mem_ready.1 hX
  unfold waitsOn at hw
  rw [ho] at hw
  obtain ⟨e, he, hb⟩ := Array.any_eq_true'.1 hw
  simp only [Bool.and_eq_true, beq_iff_eq] at hb
  have := hall e he hb.1
  rw [hb.2] at this
  exact this
theorem Fen.out {L : Array Bool} {j : Nat} (h : Fen md ops X D L) (hF : fenced md ops X D = true) (hX : X ∉ Region.ready md ops L) (hj : j ∈ Region.ready md ops L) : j ∉ D := fun hD => by
  have h1 := List.all_eq_true.1 hF j hD
  obtain ⟨_, o, ho, hall⟩ := mem_ready.1 hj
  simp only [ho, Bool.or_eq_true, beq_iff_eq] at h1
  rcases h1 with rfl | h1
  · exact hX hj
  · obtain ⟨e, he, hb⟩ := Array.any_eq_true'.1 h1
    simp only [Bool.and_eq_true, List.contains_iff_mem] at hb
    have h2 := hall e he hb.1
    have h3 := h.1 e.on hb.2
    rw [h3] at h2
    cases h2
theorem till_first {i : Nat} {oi : Oper} {v : Value} (hi : ops[i]? = some oi) (hiD : i ∉ D) (hF : fenced md ops X D = true) (hs : Region.noSelect ops = true)
    (hQ : ∀ c a w, Q (.panic c) (a.put oi.dst v) w → Q (.panic c) a w) :
    ∀ (f : Nat) (L : Array Bool) (a : Act) (w : World), Fen md ops X D L → Apart md ops i oi L → i ∈ Region.ready md ops L → YieldsIf P ops S oi v a → S w →
      wpUntil P md ops Q S X f (L.setIfInBounds i true) (a.put oi.dst v) w → wpUntil P md ops Q S X (f + 1) L a w
  | f, L, a, w, hL, hA, hr, hy, hS, H => by
    have hun := ready_unlisted hr
    have hXn : X ∉ Region.ready md ops L := fun hX => by
      have := waits_spec hX (hL.2 i oi hi hiD (mem_ready.1 hr).1)
      rw [hun] at this
      cases this
    refine ⟨fun h => absurd h hXn, fun _ => ⟨fun h => (by simp [h] at hr), fun j hj => ?_⟩⟩
    by_cases hji : j = i
    · exact hji ▸ hy.wpOp hi hS ⟨hS, H⟩
    have hj2 := ready_mono hj hji
    obtain ⟨hj0, oj, hoj, hall⟩ := mem_ready.1 hj
    have hjD : j ∉ D := hL.out hF hXn hj
    cases f with
    | zero => simp [show Region.ready md ops (L.setIfInBounds i true) = [] from H.1] at hj2
    | succ f =>
      have hXm : X ∉ Region.ready md ops (L.setIfInBounds i true) := fun hX => by
        have h1 := waits_spec hX (hL.2 j oj hoj hjD hj0)
        simp [ready_unlisted hj2] at h1
      have hno : ∀ e ∈ oj.after, Region.binds md e = true → e.on ≠ i := fun e he hb h => by
        have h1 := hall e he hb
        simp [h, hun] at h1
      refine wpOp_mono (fun a' w' h => ?_) (wpOp_putIf hoj (hA j oj hoj hji hj0 hno) (fun cs b => Region.noSelect_spec hs i oi cs b hi) (fun cs b => Region.noSelect_spec hs j oj cs b hoj) hQ hy ((H.2 hXm).2 j hj2))
      obtain ⟨hy', hS', H'⟩ := h
      rw [Array.setIfInBounds_comm _ _ (Ne.symm hji)] at H'
      exact ⟨hS', till_first hi hiD hF hs hQ f _ a' w' (hL.step hjD) (hA.step hj0) (ready_mono hr (Ne.symm hji)) hy' hS' H'⟩
/-- Take number i, a load, first: X has not come up. -/
theorem till_take (D : List Nat) {i : Nat} {oi : Oper} {v : Value} {f : Nat} {L : Array Bool} {a : Act} {w : World} (hi : ops.toList[i]? = some oi) (hiD : D.contains i = false) (hF : fenced md ops X D = true) (hL : fenB md ops X D L = true)
    (hs : Region.noSelect ops = true) (hf : Region.free md ops L i = true) (hr : (Region.ready md ops L).contains i = true)
    (hQ : ∀ c a w, Q (.panic c) (a.put oi.dst v) w → Q (.panic c) a w) (hg : oi.guard = none) (hy : ∀ w, S w → (execOp a.eval oi).run P w = .ok (.value v) w) (hS : S w)
    (h : wpUntil P md ops Q S X f (L.setIfInBounds i true) (a.put oi.dst v) w) : wpUntil P md ops Q S X (f + 1) L a w :=
  till_first (toList_at hi) (fun h => by rw [List.contains_iff_mem.2 h] at hiD; cases hiD) hF hs hQ f L a w (fen_of hL) (Region.free_spec (toList_at hi) hf) (by simpa using hr) (Or.inl ⟨by simp [Region.wanted, hg], hy⟩) hS h
/-- X alone may come up. -/
theorem till_stop {f : Nat} {L : Array Bool} {a : Act} {w : World} (hr : Region.ready md ops L = [X]) (h : wpAny P md ops Q (f + 1) L a w) : wpUntil P md ops Q S X (f + 1) L a w :=
  ⟨fun _ => h, fun hX => absurd (by rw [hr]; simp) hX⟩
/-- Take number i first: it yields its value in whatever world. -/
theorem any_take {i : Nat} {oi : Oper} {v : Value} {f : Nat} {L : Array Bool} {a : Act} {w : World} (hi : ops.toList[i]? = some oi)
    (hs : Region.noSelect ops = true) (hf : Region.free md ops L i = true) (hr : (Region.ready md ops L).contains i = true)
    (hQ : ∀ c a w, Q (.panic c) (a.put oi.dst v) w → Q (.panic c) a w) (hg : oi.guard = none) (hy : ∀ w, (execOp a.eval oi).run P w = .ok (.value v) w)
    (h : wpAny P md ops Q f (L.setIfInBounds i true) (a.put oi.dst v) w) : wpAny P md ops Q (f + 1) L a w :=
  wpAny_take (toList_at hi) hs hf hr hQ (Or.inl ⟨by simp [Region.wanted, hg], hy⟩) h
/-- One alone may come up. -/
theorem any_one {i : Nat} {oi : Oper} {f : Nat} {L : Array Bool} {a : Act} {w : World} (hr : Region.ready md ops L = [i]) (hi : ops.toList[i]? = some oi) (hg : oi.guard = none)
    (h : ∀ K' : Act → World → Prop, Shut (∀ a w, wpAny P md ops Q f (L.setIfInBounds i true) a w → K' a w) → Oper.wp P oi a w K' Q) : wpAny P md ops Q (f + 1) L a w := by
  refine ⟨fun h0 => (by rw [hr] at h0; cases h0), fun j hj => ?_⟩
  rw [hr] at hj
  simp at hj
  subst hj
  exact wpOp_step (toList_at hi) (fun K' hK => by
    have hw : Region.wanted oi (yielded ops a.tmps) = true := by simp [Region.wanted, hg]
    rw [if_pos hw]
    exact h K' hK)
/-- till_take, its plain parts left to the kernel. -/
theorem takeT (D : List Nat) {i : Nat} {oi : Oper} {v : Value} {f : Nat} {L : Array Bool} {a : Act} {w : World} (hy : ∀ w, S w → (execOp a.eval oi).run P w = .ok (.value v) w) (hS : S w) (h : wpUntil P md ops Q S X f (L.setIfInBounds i true) (a.put oi.dst v) w) (hi : ops.toList[i]? = some oi := by exact rfl) (hiD : D.contains i = false := by kernel_rfl) (hF : fenced md ops X D = true := by kernel_rfl) (hL : fenB md ops X D L = true := by kernel_rfl)
    (hs : Region.noSelect ops = true := by kernel_rfl) (hf : Region.free md ops L i = true := by kernel_rfl) (hr : (Region.ready md ops L).contains i = true := by kernel_rfl)
    (hQ : ∀ c a w, Q (.panic c) (a.put oi.dst v) w → Q (.panic c) a w := by exact fun _ _ _ h => h) (hg : oi.guard = none := by exact rfl) : wpUntil P md ops Q S X (f + 1) L a w :=
  till_take D hi hiD hF hL hs hf hr hQ hg hy hS h
/-- any_take, its plain parts left to the kernel. -/
theorem takeN {i : Nat} {oi : Oper} {v : Value} {f : Nat} {L : Array Bool} {a : Act} {w : World} (hy : ∀ w, (execOp a.eval oi).run P w = .ok (.value v) w) (h : wpAny P md ops Q f (L.setIfInBounds i true) (a.put oi.dst v) w) (hi : ops.toList[i]? = some oi := by exact rfl)
    (hs : Region.noSelect ops = true := by kernel_rfl) (hf : Region.free md ops L i = true := by kernel_rfl) (hr : (Region.ready md ops L).contains i = true := by kernel_rfl)
    (hQ : ∀ c a w, Q (.panic c) (a.put oi.dst v) w → Q (.panic c) a w := by exact fun _ _ _ h => h) (hg : oi.guard = none := by exact rfl) : wpAny P md ops Q (f + 1) L a w :=
  any_take hi hs hf hr hQ hg hy h
end
end Go.Proofs.Ytkfpmjepeikpjaa
