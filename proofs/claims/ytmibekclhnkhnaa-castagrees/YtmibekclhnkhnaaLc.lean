/-
  A part behind the first messages of a list; what it has said, counted; CastOnce, called: true; nothing old is turned.
-/
import Derived.Test.YtmibekclhnkhnaaLb
namespace Go.Proofs.Ytmibekclhnkhnaa
open Go.RowKit
/-- Behind the first j messages. -/
def plS (N T F : Nat) (M : List Msg) : Nat → St
  | 0 => st0
  | j + 1 => match M[j]? with
    | some m => (stp N T F (plS N T F M j) m).1
    | none => plS N T F M j
section
variable {N T F : Nat} {M : List Msg} {s : St} {m : Msg}
theorem plS_step {j : Nat} (h : M[j]? = some m) : plS N T F M (j + 1) = (stp N T F (plS N T F M j) m).1 := by
  show (match M[j]? with | some m => (stp N T F (plS N T F M j) m).1 | none => plS N T F M j) = _
  rw [h]
theorem plS_len (N T F : Nat) (M : List Msg) : ∀ j, (plS N T F M j).L.length ≤ j
  | 0 => Nat.le_refl 0
  | j + 1 => by
    have := plS_len N T F M j
    cases h : M[j]? with
    | none => show (match M[j]? with | some m => (stp N T F (plS N T F M j) m).1 | none => plS N T F M j).L.length ≤ _; rw [h]; exact Nat.le_succ_of_le this
    | some m => rw [plS_step h]; have := stp_len N T F (plS N T F M j) m; omega
/-- What is told stays. -/
theorem stp_tb {B : ByteArray} (h : s.tb = some B) : (stp N T F s m).1.tb = some B := by
  by_cases hc : ctsB N F s.L m = true
  · by_cases hk : m.kd = 1
    · rw [stp_send hc hk]; exact h
    · rw [stp_voice hc hk]
      show (if tldB T s m then some m.bd else s.tb) = some B
      rw [if_neg (by unfold tldB; rw [h]; simp)]
      exact h
  · rw [stp_bad (by cases q : ctsB N F s.L m; rfl; exact absurd q hc)]; exact h
/-- How many of a kind were said. -/
def tt (s : St) (k : Nat) : Nat := if k = 2 then s.L.countP (fun m => decide (m.kd = 1)) else if k = 3 then (if s.rb.isSome then 1 else 0) else 0
def ck (O : List Msg) (k : Nat) : Nat := O.countP fun x => decide (x.kd = (k : Int))
/-- What is said is an echo or a ready. -/
theorem stp_out {x : Msg} (h : x ∈ (stp N T F s m).2) : (x.kd = 2 ∨ x.kd = 3) ∧ x.fr = 0 := by
  by_cases hc : ctsB N F s.L m = true
  · by_cases hk : m.kd = 1
    · rw [stp_send hc hk] at h
      rw [List.mem_singleton.1 h]
      exact ⟨.inl rfl, rfl⟩
    · rw [stp_voice hc hk] at h
      by_cases hr : rdyB N T s m = true
      · have h : x ∈ (if rdyB N T s m then [(⟨3, 0, m.bd⟩ : Msg)] else []) := h
        rw [if_pos hr] at h
        rw [List.mem_singleton.1 h]
        exact ⟨.inr rfl, rfl⟩
      · have h : x ∈ (if rdyB N T s m then [(⟨3, 0, m.bd⟩ : Msg)] else []) := h
        rw [if_neg hr] at h
        cases h
  · rw [stp_bad (by cases q : ctsB N F s.L m; rfl; exact absurd q hc)] at h
    cases h
theorem stp_few (N T F : Nat) (s : St) (m : Msg) : (stp N T F s m).2.length ≤ 1 := by
  by_cases hc : ctsB N F s.L m = true
  · by_cases hk : m.kd = 1
    · rw [stp_send hc hk]; exact Nat.le_refl _
    · rw [stp_voice hc hk]
      show (if rdyB N T s m then [(⟨3, 0, m.bd⟩ : Msg)] else []).length ≤ 1
      split <;> simp
  · rw [stp_bad (by cases q : ctsB N F s.L m; rfl; exact absurd q hc)]; simp
theorem tt_step (k : Nat) : tt (stp N T F s m).1 k = tt s k + ck (stp N T F s m).2 k := by
  by_cases hc : ctsB N F s.L m = true
  · by_cases hk : m.kd = 1
    · rw [stp_send hc hk]
      unfold tt ck
      by_cases h2 : k = 2
      · subst h2; simp [hk]
      · by_cases h3 : k = 3
        · subst h3; simp
        · simp [h2, h3]; omega
    · rw [stp_voice hc hk]
      unfold tt ck
      by_cases h2 : k = 2
      · subst h2
        simp [hk]
      · by_cases h3 : k = 3
        · subst h3
          by_cases hr : rdyB N T s m = true
          · have h0 : s.rb.isSome = false := by
              unfold rdyB at hr
              cases q : s.rb.isSome with
              | false => rfl
              | true => rw [q] at hr; simp at hr
            simp [hr, h0]
          · simp [hr]
        · cases rdyB N T s m <;> simp [h2, h3]
          omega
  · rw [stp_bad (by cases q : ctsB N F s.L m; rfl; exact absurd q hc)]
    show tt s k = tt s k + 0
    rfl
/-- One echo, one ready at most; no send. -/
theorem tt_most (h : Ok N T F s) : tt s 1 = 0 ∧ tt s 2 ≤ 1 ∧ tt s 3 ≤ 1 := by
  refine ⟨rfl, ?_, ?_⟩
  · show s.L.countP (fun m => decide (m.kd = 1)) ≤ 1
    have h1 := h.may
    have h2 := h.dis
    generalize s.L = L at h1 h2
    induction L with
    | nil => exact Nat.zero_le _
    | cons a r ih =>
      obtain ⟨p1, p2⟩ := List.pairwise_cons.1 h2
      rw [List.countP_cons]
      by_cases hk : a.kd = 1
      · have : r.countP (fun m => decide (m.kd = 1)) = 0 := by
          rw [List.countP_eq_zero]
          intro x hx q
          have q := of_decide_eq_true q
          have ea := (may_iff.1 (h1 a (by simp))).2.2.2.2.2 hk
          have ex := (may_iff.1 (h1 x (by simp [hx]))).2.2.2.2.2 q
          exact p1 x hx ⟨hk.trans q.symm, ea.trans ex.symm⟩
        rw [this]
        split <;> omega
      · rw [if_neg (by simpa using hk)]
        exact ih (fun x hx => h1 x (by simp [hx])) p2
  · show (if s.rb.isSome then 1 else 0) ≤ 1
    split <;> omega
theorem ck_step {O : List Msg} {i : Nat} {x : Msg} (h : O[i]? = some x) (k : Nat) : ck (O.take (i + 1)) k = ck (O.take i) k + if x.kd = (k : Int) then 1 else 0 := by
  unfold ck
  rw [List.take_add_one, h, List.countP_append]
  congr 1
  by_cases q : x.kd = (k : Int)
  · simp [q]
  · simp [q]
end
end Go.Proofs.Ytmibekclhnkhnaa
