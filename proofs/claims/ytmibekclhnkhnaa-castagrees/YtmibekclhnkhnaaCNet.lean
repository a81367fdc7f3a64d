/-
  A broadcast of honest nodes, by definition: whatever the others say to each, and in whatever order words arrive, no two are told otherwise. No Go here.
-/
import Derived.Test.YtmibekclhnkhnaaCMath
namespace Go.Proofs.Ytmibekclhnkhnaa
/-- The sum of f 0 .. f (n - 1). -/
def sumN (f : Nat → Nat) : Nat → Nat
  | 0 => 0
  | n + 1 => sumN f n + f n
theorem sumN_add (f g : Nat → Nat) : ∀ n, sumN (fun p => f p + g p) n = sumN f n + sumN g n
  | 0 => rfl
  | n + 1 => by show sumN (fun p => f p + g p) n + (f n + g n) = (sumN f n + f n) + (sumN g n + g n); rw [sumN_add f g n]; omega
theorem sumN_zero : ∀ n, sumN (fun _ => 0) n = 0
  | 0 => rfl
  | n + 1 => by show sumN _ n + 0 = 0; rw [sumN_zero n]
theorem sumN_congr {f g : Nat → Nat} : ∀ n, (∀ p, p < n → f p = g p) → sumN f n = sumN g n
  | 0, _ => rfl
  | n + 1, h => by show sumN f n + f n = sumN g n + g n; rw [sumN_congr n (fun p hp => h p (by omega)), h n (by omega)]
theorem sumN_one (q : Nat) : ∀ n, sumN (fun p => if p = q then 1 else 0) n = if q < n then 1 else 0
  | 0 => rfl
  | n + 1 => by
    show sumN _ n + (if n = q then 1 else 0) = _
    rw [sumN_one q n]
    split <;> split <;> split <;> omega
theorem sumN_two {f : Nat → Nat} {h a b : Nat} (ha : ∀ p, p < h → f p ≤ a) (hb : ∀ p, f p ≤ b) : ∀ t, sumN f (h + t) ≤ h * a + t * b
  | 0 => by
    have : ∀ k, k ≤ h → sumN f k ≤ k * a := by
      intro k
      induction k with
      | zero => intro _; exact Nat.zero_le _
      | succ k ih => intro hk; show sumN f k + f k ≤ _; have := ih (by omega); have := ha k (by omega); rw [Nat.succ_mul]; omega
    have := this h (Nat.le_refl _)
    show sumN f h ≤ h * a + 0 * b
    omega
  | t + 1 => by
    show sumN f (h + t) + f (h + t) ≤ _
    have := sumN_two ha hb t
    have := hb (h + t)
    rw [Nat.succ_mul]
    omega
/-- How many of a kind and a body from node p + 1. -/
def cat (L : List Msg) (k : Int) (B : ByteArray) (p : Nat) : Nat := L.countP fun m => decide ((m.kd = k ∧ m.bd = B) ∧ m.fr = (p : Int) + 1)
theorem cnt_sum {N F : Nat} (k : Int) (B : ByteArray) : ∀ L : List Msg, (∀ m ∈ L, mayB N F m = true) → cnt L k B = sumN (cat L k B) N
  | [], _ => (sumN_zero N).symm
  | m :: r, h => by
    have ih := cnt_sum k B r (fun x hx => h x (by simp [hx]))
    obtain ⟨h1, h2, _⟩ := may_iff.1 (h m (by simp))
    have e : ∀ p, p < N → cat (m :: r) k B p = cat r k B p + (if (m.kd = k ∧ m.bd = B) then (if p = (m.fr - 1).toNat then 1 else 0) else 0) := fun p _ => by
      unfold cat
      rw [List.countP_cons]
      congr 1
      by_cases hk : m.kd = k ∧ m.bd = B
      · rw [if_pos hk]
        by_cases hp : m.fr = (p : Int) + 1
        · rw [if_pos (by simp [hk, hp]), if_pos (by omega)]
        · rw [if_neg (by simp [hp]), if_neg (by omega)]
      · rw [if_neg hk, if_neg (by simp [hk])]
    rw [sumN_congr N e, sumN_add, ← ih]
    unfold cnt
    rw [List.countP_cons]
    congr 1
    by_cases hk : m.kd = k ∧ m.bd = B
    · rw [if_pos (by simp [hk]), sumN_congr N (g := fun p => if p = (m.fr - 1).toNat then 1 else 0) (fun p _ => if_pos hk), sumN_one, if_pos (by omega)]
    · rw [if_neg (by simp [hk]), sumN_congr N (g := fun _ => 0) (fun p _ => if_neg hk), sumN_zero]
theorem cat_le {L : List Msg} (h : L.Pairwise fun a b => ¬ (a.kd = b.kd ∧ a.fr = b.fr)) (k : Int) (B : ByteArray) (p : Nat) : cat L k B p ≤ 1 := by
  induction L with
  | nil => exact Nat.zero_le _
  | cons m r ih =>
    obtain ⟨h1, h2⟩ := List.pairwise_cons.1 h
    unfold cat
    rw [List.countP_cons]
    by_cases hk : ((m.kd = k ∧ m.bd = B) ∧ m.fr = (p : Int) + 1)
    · have : r.countP (fun m => decide ((m.kd = k ∧ m.bd = B) ∧ m.fr = (p : Int) + 1)) = 0 := by
        rw [List.countP_eq_zero]
        intro x hx q
        have q := of_decide_eq_true q
        exact h1 x hx ⟨hk.1.1.trans q.1.1.symm, hk.2.trans q.2.symm⟩
      rw [this]
      split <;> omega
    · rw [if_neg (by simpa using hk)]
      exact ih h2
theorem cat_pos {L : List Msg} {k : Int} {B : ByteArray} {p : Nat} (h : cat L k B p ≠ 0) : ∃ m ∈ L, m.kd = k ∧ m.bd = B ∧ m.fr = (p : Int) + 1 := by
  obtain ⟨m, hm, q⟩ := List.countP_pos_iff.1 (Nat.pos_of_ne_zero h)
  have q := of_decide_eq_true q
  exact ⟨m, hm, q.1.1, q.1.2, q.2⟩
section
variable {N T F : Nat}
/-- More than T of a kind and a body: one of them from an honest node. -/
theorem one_honest {s : St} (h : Ok N T F s) (hT : T ≤ N) {k : Int} {B : ByteArray} (hc : T < cnt s.L k B) : ∃ p, p < N - T ∧ ∃ m ∈ s.L, m.kd = k ∧ m.bd = B ∧ m.fr = (p : Int) + 1 := by
  rcases Classical.em (∃ p, p < N - T ∧ cat s.L k B p ≠ 0) with ⟨p, hp, q⟩ | hn
  · exact ⟨p, hp, cat_pos q⟩
  · have h0 : ∀ p, p < N - T → cat s.L k B p ≤ 0 := fun p hp => by
      rcases Nat.eq_zero_or_pos (cat s.L k B p) with q | q
      · omega
      · exact absurd ⟨p, hp, by omega⟩ hn
    have := sumN_two h0 (cat_le h.dis k B) T
    rw [show N - T + T = N from by omega, ← cnt_sum (F := F) k B s.L h.may] at this
    omega
/-- Two quorums: an honest node in both. -/
theorem two_quorums {s u : St} (h : Ok N T F s) (g : Ok N T F u) (hT : T ≤ N) {k : Int} {B C : ByteArray} (hb : qm N T ≤ cnt s.L k B) (hc : qm N T ≤ cnt u.L k C) :
    ∃ p, p < N - T ∧ (∃ m ∈ s.L, m.kd = k ∧ m.bd = B ∧ m.fr = (p : Int) + 1) ∧ ∃ m ∈ u.L, m.kd = k ∧ m.bd = C ∧ m.fr = (p : Int) + 1 := by
  rcases Classical.em (∃ p, p < N - T ∧ cat s.L k B p ≠ 0 ∧ cat u.L k C p ≠ 0) with ⟨p, hp, q1, q2⟩ | hn
  · exact ⟨p, hp, cat_pos q1, cat_pos q2⟩
  · have h0 : ∀ p, p < N - T → cat s.L k B p + cat u.L k C p ≤ 1 := fun p hp => by
      have a := cat_le h.dis k B p
      have b := cat_le g.dis k C p
      rcases Nat.eq_zero_or_pos (cat s.L k B p) with q | q
      · omega
      · rcases Nat.eq_zero_or_pos (cat u.L k C p) with r | r
        · omega
        · exact absurd ⟨p, hp, by omega, by omega⟩ hn
    have h1 : ∀ p, cat s.L k B p + cat u.L k C p ≤ 2 := fun p => by
      have a := cat_le h.dis k B p
      have b := cat_le g.dis k C p
      omega
    have := sumN_two h0 h1 T
    rw [show N - T + T = N from by omega, sumN_add, ← cnt_sum (F := F) k B s.L h.may, ← cnt_sum (F := F) k C u.L g.may] at this
    unfold qm at hb hc
    omega
/-- What an honest node has said. -/
def Said (X : ByteArray) (s : St) (m : Msg) : Prop := (m.kd = 1 → m.bd = X) ∧ (m.kd = 2 → ∃ x ∈ s.L, x.kd = 1 ∧ x.bd = m.bd) ∧ (m.kd = 3 → s.rb = some m.bd)
/-- What holds of the honest nodes' parts, and of what is under way to them. -/
structure Net (N T F : Nat) (X : ByteArray) (ss : Nat → St) (way : List (Nat × Msg)) : Prop where
  ok : ∀ i, i < N - T → Ok N T F (ss i)
  had : ∀ j, j < N - T → ∀ m ∈ (ss j).L, ∀ i : Nat, i < N - T → m.fr = (i : Int) + 1 → Said X (ss i) m
  und : ∀ x ∈ way, x.1 < N - T ∧ ∃ i : Nat, i < N - T ∧ x.2.fr = (i : Int) + 1 ∧ Said X (ss i) x.2
  just : ∀ i, i < N - T → ∀ B, (ss i).rb = some B → ∃ j, j < N - T ∧ qm N T ≤ cnt (ss j).L 2 B
/-- What is said, to all honest nodes. -/
def ont (h : Nat) (f : Int) (out : List Msg) : List (Nat × Msg) := out.flatMap fun m => (List.range h).map fun k => (k, ⟨m.kd, f, m.bd⟩)
def upd (ss : Nat → St) (j : Nat) (s : St) : Nat → St := fun i => if i = j then s else ss i
theorem upd_same (ss : Nat → St) (j : Nat) (s : St) : upd ss j s j = s := if_pos rfl
theorem upd_other {ss : Nat → St} {j i : Nat} {s : St} (h : i ≠ j) : upd ss j s i = ss i := if_neg h
theorem ont_mem {h : Nat} {f : Int} {out : List Msg} {x : Nat × Msg} (hx : x ∈ ont h f out) : x.1 < h ∧ ∃ m ∈ out, x.2 = ⟨m.kd, f, m.bd⟩ := by
  obtain ⟨m, hm, hk⟩ := List.mem_flatMap.1 hx
  obtain ⟨k, hr, rfl⟩ := List.mem_map.1 hk
  exact ⟨List.mem_range.1 hr, m, hm, rfl⟩
/-- A part only grows. -/
structure Grows (s s' : St) : Prop where
  L : ∀ m ∈ s.L, m ∈ s'.L
  cnt : ∀ k B, cnt s.L k B ≤ cnt s'.L k B
  rb : ∀ B, s.rb = some B → s'.rb = some B
theorem Grows.refl (s : St) : Grows s s := ⟨fun _ h => h, fun _ _ => Nat.le_refl _, fun _ h => h⟩
theorem stp_grows (s : St) (m : Msg) : Grows s (stp N T F s m).1 := by
  by_cases hc : ctsB N F s.L m = true
  · by_cases hk : m.kd = 1
    · rw [stp_send hc hk]
      exact ⟨fun _ h => List.mem_append_left _ h, fun k B => cnt_mono _ _ _ _, fun _ h => h⟩
    · rw [stp_voice hc hk]
      refine ⟨fun _ h => List.mem_append_left _ h, fun k B => cnt_mono _ _ _ _, fun B h => ?_⟩
      show (if rdyB N T s m then some m.bd else s.rb) = some B
      rw [if_neg (by unfold rdyB; rw [h]; simp)]
      exact h
  · rw [stp_bad (by cases q : ctsB N F s.L m; rfl; exact absurd q hc)]
    exact Grows.refl s
theorem Said.grows {X : ByteArray} {s s' : St} {m : Msg} (h : Said X s m) (g : Grows s s') : Said X s' m :=
  ⟨h.1, fun q => by obtain ⟨x, hx, e⟩ := h.2.1 q; exact ⟨x, g.L x hx, e⟩, fun q => g.rb _ (h.2.2 q)⟩
theorem upd_grows {ss : Nat → St} {j : Nat} {s' : St} (g : Grows (ss j) s') (i : Nat) : Grows (ss i) (upd ss j s' i) := by
  by_cases e : i = j
  · subst e; rw [upd_same]; exact g
  · rw [upd_other e]; exact Grows.refl _
theorem stp_mem {s : St} {m x : Msg} (h : x ∈ (stp N T F s m).1.L) : x ∈ s.L ∨ x = m := by
  by_cases hc : ctsB N F s.L m = true
  · by_cases hk : m.kd = 1
    · rw [stp_send hc hk] at h
      rcases List.mem_append.1 h with q | q
      · exact .inl q
      · exact .inr (List.mem_singleton.1 q)
    · rw [stp_voice hc hk] at h
      rcases List.mem_append.1 h with q | q
      · exact .inl q
      · exact .inr (List.mem_singleton.1 q)
  · rw [stp_bad (by cases q : ctsB N F s.L m; rfl; exact absurd q hc)] at h
    exact .inl h
/-- What it says: it has said it. -/
theorem stp_said (X : ByteArray) {s : St} {m x : Msg} (f : Int) (h : x ∈ (stp N T F s m).2) : Said X (stp N T F s m).1 ⟨x.kd, f, x.bd⟩ := by
  by_cases hc : ctsB N F s.L m = true
  · by_cases hk : m.kd = 1
    · rw [stp_send hc hk] at h ⊢
      rw [List.mem_singleton.1 h]
      refine ⟨fun q => (by cases q), fun _ => ⟨m, by simp, hk, rfl⟩, fun q => (by cases q)⟩
    · rw [stp_voice hc hk] at h ⊢
      by_cases hr : rdyB N T s m = true
      · have h : x ∈ (if rdyB N T s m then [(⟨3, 0, m.bd⟩ : Msg)] else []) := h
        rw [if_pos hr] at h
        rw [List.mem_singleton.1 h]
        refine ⟨fun q => (by cases q), fun q => (by cases q), fun _ => ?_⟩
        show (if rdyB N T s m then some m.bd else s.rb) = some m.bd
        rw [if_pos hr]
      · have h : x ∈ (if rdyB N T s m then [(⟨3, 0, m.bd⟩ : Msg)] else []) := h
        rw [if_neg hr] at h
        cases h
  · rw [stp_bad (by cases q : ctsB N F s.L m; rfl; exact absurd q hc)] at h
    cases h
/-- Who becomes ready had a quorum of echoes, or more than T readies, of the body. -/
theorem stp_rb {s : St} {m : Msg} {B : ByteArray} (h : (stp N T F s m).1.rb = some B) : s.rb = some B ∨ (qm N T ≤ cnt (stp N T F s m).1.L 2 B ∨ T < cnt (stp N T F s m).1.L 3 B) := by
  by_cases hc : ctsB N F s.L m = true
  · by_cases hk : m.kd = 1
    · rw [stp_send hc hk] at h
      exact .inl h
    · rw [stp_voice hc hk] at h ⊢
      by_cases hr : rdyB N T s m = true
      · have h : (if rdyB N T s m then some m.bd else s.rb) = some B := h
        rw [if_pos hr] at h
        cases h
        unfold rdyB at hr
        simp at hr
        exact .inr hr.2
      · have h : (if rdyB N T s m then some m.bd else s.rb) = some B := h
        rw [if_neg hr] at h
        exact .inl h
  · rw [stp_bad (by cases q : ctsB N F s.L m; rfl; exact absurd q hc)] at h
    exact .inl h
theorem Net.less {X : ByteArray} {ss : Nat → St} {way way2 : List (Nat × Msg)} (h : Net N T F X ss way) (hs : ∀ x ∈ way2, x ∈ way) : Net N T F X ss way2 := ⟨h.ok, h.had, fun x hx => h.und x (hs x hx), h.just⟩
theorem Net.take {X : ByteArray} {ss : Nat → St} {way : List (Nat × Msg)} (h : Net N T F X ss way) (hT : T ≤ N) {j : Nat} (hj : j < N - T) {m : Msg} (hm : ∀ i : Nat, i < N - T → m.fr = (i : Int) + 1 → Said X (ss i) m) :
    Net N T F X (upd ss j (stp N T F (ss j) m).1) (way ++ ont (N - T) ((j : Int) + 1) (stp N T F (ss j) m).2) := by
  have G := fun i => upd_grows (stp_grows (N := N) (T := T) (F := F) (ss j) m) i
  have HM : ∀ x ∈ (stp N T F (ss j) m).1.L, ∀ i : Nat, i < N - T → x.fr = (i : Int) + 1 → Said X (ss i) x := fun x hx i hi e => by
    rcases stp_mem hx with q | rfl
    · exact h.had j hj x q i hi e
    · exact hm i hi e
  refine ⟨fun i hi => ?_, fun k hk x hx i hi e => ?_, fun x hx => ?_, fun i hi B hB => ?_⟩
  · by_cases e : i = j
    · subst e; rw [upd_same]; exact (h.ok i hi).stp m
    · rw [upd_other e]; exact h.ok i hi
  · by_cases e2 : k = j
    · subst e2
      rw [upd_same] at hx
      exact (HM x hx i hi e).grows (G i)
    · rw [upd_other e2] at hx
      exact (h.had k hk x hx i hi e).grows (G i)
  · rcases List.mem_append.1 hx with q | q
    · obtain ⟨h1, i, hi, e, hs⟩ := h.und x q
      exact ⟨h1, i, hi, e, hs.grows (G i)⟩
    · obtain ⟨h1, y, hy, e⟩ := ont_mem q
      refine ⟨h1, j, hj, by rw [e], ?_⟩
      rw [upd_same, e]
      exact stp_said X _ hy
  · by_cases e : i = j
    · subst e
      rw [upd_same] at hB
      rcases stp_rb hB with q | q | q
      · obtain ⟨k, hk, hc⟩ := h.just i hi B q
        exact ⟨k, hk, Nat.le_trans hc ((G k).cnt _ _)⟩
      · exact ⟨i, hi, by rw [upd_same]; exact q⟩
      · obtain ⟨p, hp, x, hx, e1, e2, e3⟩ := one_honest ((h.ok i hi).stp m) hT q
        have := (HM x hx p hp e3).2.2 e1
        rw [e2] at this
        obtain ⟨k, hk, hc⟩ := h.just p hp B this
        exact ⟨k, hk, Nat.le_trans hc ((G k).cnt _ _)⟩
    · rw [upd_other e] at hB
      obtain ⟨k, hk, hc⟩ := h.just i hi B hB
      exact ⟨k, hk, Nat.le_trans hc ((G k).cnt _ _)⟩
theorem net_start (X : ByteArray) : Net N T F X (fun _ => st0) [] := ⟨fun _ _ => ok_nil N T F, fun j hj m hm => (by cases hm), fun x hx => (by cases hx), fun i hi B hB => (by cases hB)⟩
theorem net_sends (X : ByteArray) (hF : 1 ≤ F) (hh : F ≤ N - T) : Net N T F X (fun _ => st0) (ont (N - T) (F : Int) [⟨1, 0, X⟩]) := by
  refine ⟨fun _ _ => ok_nil N T F, fun j hj m hm => (by cases hm), fun x hx => ?_, fun i hi B hB => (by cases hB)⟩
  obtain ⟨h1, y, hy, e⟩ := ont_mem hx
  rw [List.mem_singleton.1 hy] at e
  refine ⟨h1, F - 1, by omega, by rw [e]; show (F : Int) = _; omega, ?_⟩
  rw [e]
  exact ⟨fun _ => rfl, fun q => (by cases q), fun q => (by cases q)⟩
theorem dis_eq {L : List Msg} (h : L.Pairwise fun a b => ¬ (a.kd = b.kd ∧ a.fr = b.fr)) {x y : Msg} (hx : x ∈ L) (hy : y ∈ L) (h1 : x.kd = y.kd) (h2 : x.fr = y.fr) : x = y := by
  induction L with
  | nil => cases hx
  | cons a r ih =>
    obtain ⟨p1, p2⟩ := List.pairwise_cons.1 h
    rcases List.mem_cons.1 hx with rfl | qx
    · rcases List.mem_cons.1 hy with rfl | qy
      · rfl
      · exact absurd ⟨h1, h2⟩ (p1 y qy)
    · rcases List.mem_cons.1 hy with rfl | qy
      · exact absurd ⟨h1.symm, h2.symm⟩ (p1 x qx)
      · exact ih p2 qx qy
/-- Who is told of B: a quorum of echoes of B somewhere. -/
theorem Net.told {X : ByteArray} {ss : Nat → St} {way : List (Nat × Msg)} (h : Net N T F X ss way) (hT : T ≤ N) {i : Nat} (hi : i < N - T) {B : ByteArray} (hB : (ss i).tb = some B) : ∃ j, j < N - T ∧ qm N T ≤ cnt (ss j).L 2 B := by
  have h3 := (h.ok i hi).tb3 B hB
  obtain ⟨p, hp, x, hx, e1, e2, e3⟩ := one_honest (h.ok i hi) hT (k := 3) (B := B) (by omega)
  have := (h.had i hi x hx p hp e3).2.2 e1
  rw [e2] at this
  exact h.just p hp B this
/-- No two are told otherwise. -/
theorem Net.agree {X : ByteArray} {ss : Nat → St} {way : List (Nat × Msg)} (h : Net N T F X ss way) (hT : T ≤ N) {i j : Nat} (hi : i < N - T) (hj : j < N - T) {B C : ByteArray} (hB : (ss i).tb = some B) (hC : (ss j).tb = some C) : B = C := by
  obtain ⟨a, ha, qa⟩ := h.told hT hi hB
  obtain ⟨b, hb, qb⟩ := h.told hT hj hC
  obtain ⟨p, hp, ⟨x, hx, x1, x2, x3⟩, y, hy, y1, y2, y3⟩ := two_quorums (h.ok a ha) (h.ok b hb) hT qa qb
  obtain ⟨u, hu, u1, u2⟩ := (h.had a ha x hx p hp x3).2.1 x1
  obtain ⟨v, hv, v1, v2⟩ := (h.had b hb y hy p hp y3).2.1 y1
  have eu := (may_iff.1 ((h.ok p hp).may u hu)).2.2.2.2.2 u1
  have ev := (may_iff.1 ((h.ok p hp).may v hv)).2.2.2.2.2 v1
  have := dis_eq (h.ok p hp).dis hu hv (u1.trans v1.symm) (eu.trans ev.symm)
  rw [← x2, ← y2, ← u2, ← v2, this]
/-- Of an honest sender: what it sent. -/
theorem Net.sent {X : ByteArray} {ss : Nat → St} {way : List (Nat × Msg)} (h : Net N T F X ss way) (hT : 3 * T + 1 ≤ N) (hF : 1 ≤ F) (hh : F ≤ N - T) {i : Nat} (hi : i < N - T) {B : ByteArray} (hB : (ss i).tb = some B) : B = X := by
  obtain ⟨a, ha, qa⟩ := h.told (by omega) hi hB
  obtain ⟨p, hp, x, hx, x1, x2, x3⟩ := one_honest (h.ok a ha) (by omega) (k := 2) (B := B) (by unfold qm at qa; omega)
  obtain ⟨u, hu, u1, u2⟩ := (h.had a ha x hx p hp x3).2.1 x1
  have eu := (may_iff.1 ((h.ok p hp).may u hu)).2.2.2.2.2 u1
  have := (h.had p hp u hu (F - 1) (by omega) (by rw [eu]; omega)).1 u1
  rw [← x2, ← u2, this]
end
end Go.Proofs.Ytmibekclhnkhnaa
