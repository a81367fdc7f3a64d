/-
  One node's part of a broadcast, by definition: what counts, what is said, what is told. No Go here.
-/
namespace Go.Proofs.Ytmibekclhnkhnaa
/-- A message: kind, sender, body. -/
structure Msg where
  kd : Int
  fr : Int
  bd : ByteArray
/-- A part: what counted, in order; the body of its ready; what it is told. -/
structure St where
  L : List Msg
  rb : Option ByteArray
  tb : Option ByteArray
/-- How many of a kind and a body. -/
def cnt (L : List Msg) (k : Int) (B : ByteArray) : Nat := L.countP fun m => decide (m.kd = k ∧ m.bd = B)
/-- Is there one of a kind from a node? -/
def hrd (L : List Msg) (k p : Int) : Bool := L.any fun m => decide (m.kd = k ∧ m.fr = p)
def qm (N T : Nat) : Nat := (N + T) / 2 + 1
def mayB (N F : Nat) (m : Msg) : Bool := decide (1 ≤ m.fr ∧ m.fr ≤ (N : Int) ∧ 1 ≤ m.kd ∧ m.kd ≤ 3 ∧ m.bd.size ≤ 4096 ∧ (m.kd = 1 → m.fr = (F : Int)))
def ctsB (N F : Nat) (L : List Msg) (m : Msg) : Bool := mayB N F m && !hrd L m.kd m.fr
/-- Does it say a ready now? -/
def rdyB (N T : Nat) (s : St) (m : Msg) : Bool := !s.rb.isSome && (decide (qm N T ≤ cnt (s.L ++ [m]) 2 m.bd) || decide (T < cnt (s.L ++ [m]) 3 m.bd))
def tldB (T : Nat) (s : St) (m : Msg) : Bool := !s.tb.isSome && decide (2 * T < cnt (s.L ++ [m]) 3 m.bd)
/-- A part that took a message, and what it says. -/
def stp (N T F : Nat) (s : St) (m : Msg) : St × List Msg :=
  if ctsB N F s.L m = false then (s, [])
  else if m.kd = 1 then (⟨s.L ++ [m], s.rb, s.tb⟩, [⟨2, 0, m.bd⟩])
  else (⟨s.L ++ [m], if rdyB N T s m then some m.bd else s.rb, if tldB T s m then some m.bd else s.tb⟩, if rdyB N T s m then [⟨3, 0, m.bd⟩] else [])
def st0 : St := ⟨[], none, none⟩
section
variable {N T F : Nat} {s : St} {m : Msg}
theorem stp_bad (h : ctsB N F s.L m = false) : stp N T F s m = (s, []) := if_pos h
theorem stp_send (h : ctsB N F s.L m = true) (h1 : m.kd = 1) : stp N T F s m = (⟨s.L ++ [m], s.rb, s.tb⟩, [⟨2, 0, m.bd⟩]) := (if_neg (by rw [h]; decide)).trans (if_pos h1)
theorem stp_voice (h : ctsB N F s.L m = true) (h1 : m.kd ≠ 1) : stp N T F s m = (⟨s.L ++ [m], if rdyB N T s m then some m.bd else s.rb, if tldB T s m then some m.bd else s.tb⟩, if rdyB N T s m then [⟨3, 0, m.bd⟩] else []) := (if_neg (by rw [h]; decide)).trans (if_neg h1)
end
/-- What holds of a part, whatever it took. -/
structure Ok (N T F : Nat) (s : St) : Prop where
  may : ∀ m ∈ s.L, mayB N F m = true
  dis : s.L.Pairwise fun a b => ¬ (a.kd = b.kd ∧ a.fr = b.fr)
  rdy : ∀ B, qm N T ≤ cnt s.L 2 B ∨ T < cnt s.L 3 B → s.rb.isSome = true
  tld : ∀ B, 2 * T < cnt s.L 3 B → s.tb.isSome = true
  tr : s.tb.isSome = true → s.rb.isSome = true
  tb3 : ∀ B, s.tb = some B → 2 * T < cnt s.L 3 B
theorem ok_nil (N T F : Nat) : Ok N T F st0 := by
  refine ⟨fun m hm => (by cases hm), List.Pairwise.nil, ?_, ?_, ?_, ?_⟩
  · rintro B (h | h)
    · have : qm N T ≤ 0 := h
      unfold qm at this; omega
    · exact absurd h (Nat.not_lt_zero _)
  · intro B h; exact absurd h (Nat.not_lt_zero _)
  · intro h; cases h
  · intro B h; cases h
theorem cnt_snoc (L : List Msg) (m : Msg) (k : Int) (B : ByteArray) : cnt (L ++ [m]) k B = cnt L k B + if m.kd = k ∧ m.bd = B then 1 else 0 := by
  unfold cnt
  rw [List.countP_append]
  congr 1
  by_cases h : m.kd = k ∧ m.bd = B
  · simp [h]
  · rw [if_neg h]; simp only [List.countP_cons, List.countP_nil, decide_eq_true_eq, if_neg h]
theorem cnt_other {L : List Msg} {m : Msg} {k : Int} {B : ByteArray} (h : ¬ (m.kd = k ∧ m.bd = B)) : cnt (L ++ [m]) k B = cnt L k B := by rw [cnt_snoc, if_neg h]; rfl
theorem cnt_mono (L : List Msg) (m : Msg) (k : Int) (B : ByteArray) : cnt L k B ≤ cnt (L ++ [m]) k B := by rw [cnt_snoc]; omega
theorem cnt_le (L : List Msg) (k : Int) (B : ByteArray) : cnt L k B ≤ L.length := List.countP_le_length
theorem hrd_snoc (L : List Msg) (m : Msg) (k p : Int) : hrd (L ++ [m]) k p = (hrd L k p || decide (m.kd = k ∧ m.fr = p)) := by unfold hrd; simp [List.any_append]
theorem hrd_mem {L : List Msg} {k p : Int} : hrd L k p = true ↔ ∃ m ∈ L, m.kd = k ∧ m.fr = p := by unfold hrd; simp [List.any_eq_true]
section
variable {N T F : Nat} {s : St} {m : Msg}
theorem cts_may (h : ctsB N F s.L m = true) : mayB N F m = true := by unfold ctsB at h; simp at h; exact h.1
theorem cts_new (h : ctsB N F s.L m = true) : hrd s.L m.kd m.fr = false := by unfold ctsB at h; simp at h; exact h.2
theorem may_iff : mayB N F m = true ↔ (1 ≤ m.fr ∧ m.fr ≤ (N : Int) ∧ 1 ≤ m.kd ∧ m.kd ≤ 3 ∧ m.bd.size ≤ 4096 ∧ (m.kd = 1 → m.fr = (F : Int))) := by unfold mayB; exact decide_eq_true_iff
theorem Ok.snoc (h : Ok N T F s) (hc : ctsB N F s.L m = true) : (∀ x ∈ s.L ++ [m], mayB N F x = true) ∧ (s.L ++ [m]).Pairwise fun a b => ¬ (a.kd = b.kd ∧ a.fr = b.fr) := by
  refine ⟨fun x hx => ?_, ?_⟩
  · rcases List.mem_append.1 hx with q | q
    · exact h.may x q
    · rw [List.mem_singleton.1 q]; exact cts_may hc
  · rw [List.pairwise_append]
    refine ⟨h.dis, List.pairwise_singleton _ _, fun a ha b hb q => ?_⟩
    rw [List.mem_singleton.1 hb] at q
    have := cts_new hc
    rw [hrd_mem.2 ⟨a, ha, q⟩] at this
    cases this
theorem Ok.stp (h : Ok N T F s) (m : Msg) : Ok N T F (stp N T F s m).1 := by
  by_cases hc : ctsB N F s.L m = true
  · obtain ⟨h1, h2⟩ := h.snoc hc
    by_cases hk : m.kd = 1
    · rw [stp_send hc hk]
      refine ⟨h1, h2, fun B q => ?_, fun B q => ?_, h.tr, fun B q => ?_⟩
      · refine h.rdy B ?_
        simp only [cnt_snoc] at q
        rw [if_neg (by rw [hk]; rintro ⟨q, -⟩; cases q), if_neg (by rw [hk]; rintro ⟨q, -⟩; cases q)] at q
        exact q
      · refine h.tld B ?_
        simp only [cnt_snoc] at q
        rw [if_neg (by rw [hk]; rintro ⟨q, -⟩; cases q)] at q
        exact q
      · exact Nat.lt_of_lt_of_le (h.tb3 B q) (cnt_mono _ _ _ _)
    · rw [stp_voice hc hk]
      have R : ∀ B, qm N T ≤ cnt (s.L ++ [m]) 2 B ∨ T < cnt (s.L ++ [m]) 3 B → (if rdyB N T s m then some m.bd else s.rb).isSome = true := fun B q => by
        by_cases hr : rdyB N T s m = true
        · rw [if_pos hr]; rfl
        · rw [if_neg hr]
          by_cases hB : m.bd = B
          · subst hB
            unfold rdyB at hr
            cases hb : s.rb.isSome
            · rw [hb] at hr
              simp at hr
              omega
            · rfl
          · refine h.rdy B ?_
            rw [cnt_other (fun q => hB q.2), cnt_other (fun q => hB q.2)] at q
            exact q
      refine ⟨h1, h2, R, fun B q => ?_, fun q => ?_, fun B q => ?_⟩
      · by_cases hr : tldB T s m = true
        · rw [if_pos hr]; rfl
        · rw [if_neg hr]
          by_cases hB : m.bd = B
          · subst hB
            unfold tldB at hr
            cases hb : s.tb.isSome
            · rw [hb] at hr
              simp at hr
              have q : 2 * T < cnt (s.L ++ [m]) 3 m.bd := q
              omega
            · rfl
          · refine h.tld B ?_
            have q : 2 * T < cnt (s.L ++ [m]) 3 B := q
            rw [cnt_other (fun q => hB q.2)] at q
            exact q
      · by_cases hr : tldB T s m = true
        · refine R m.bd (.inr ?_)
          unfold tldB at hr
          simp at hr
          omega
        · have q : (if tldB T s m then some m.bd else s.tb).isSome = true := q
          rw [if_neg hr] at q
          have := h.tr q
          show (if rdyB N T s m then some m.bd else s.rb).isSome = true
          split
          · rfl
          · exact this
      · have q : (if tldB T s m then some m.bd else s.tb) = some B := q
        by_cases hr : tldB T s m = true
        · rw [if_pos hr] at q
          cases q
          unfold tldB at hr
          simp at hr
          exact hr.2
        · rw [if_neg hr] at q
          exact Nat.lt_of_lt_of_le (h.tb3 B q) (cnt_mono _ _ _ _)
  · rw [stp_bad (by cases q : ctsB N F s.L m; rfl; exact absurd q hc)]
    exact h
end
end Go.Proofs.Ytmibekclhnkhnaa
