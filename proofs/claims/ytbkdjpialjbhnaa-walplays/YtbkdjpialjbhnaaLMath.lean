/-
  A log on a disk, by the document's definition: records, of which some are sure; what a crash leaves of them. No function of the program is named here.
-/
import Derived.Test.YtbkdjpialjbhnaaRMath
import Derived.Test.YtbkdjpialjbhnaaDMath
namespace Go.Proofs.Ytbkdjpialjbhnaa
theorem ext_all (s : ByteArray) : s.extract 0 s.size = s := by
  apply ba_eq
  rw [ba_ext, List.drop_zero, Nat.sub_zero, List.take_of_length_le (by rw [ba_len]; exact Nat.le_refl _)]
theorem ext_left (a b : ByteArray) : (a ++ b).extract 0 a.size = a := by
  apply ba_eq
  rw [ba_ext, ba_app, List.drop_zero, Nat.sub_zero, ← ba_len a, List.take_left]
theorem fit_all : ∀ l : List ByteArray, fit l (lg l).size = l.length
  | [] => rfl
  | x :: l => by
    have e : (lg (x :: l)).size = (frm x).size + (lg l).size := ByteArray.size_append
    show (if (frm x).size ≤ (lg (x :: l)).size then fit l ((lg (x :: l)).size - (frm x).size) + 1 else 0) = l.length + 1
    rw [if_pos (by omega), e, Nat.add_sub_cancel_left, fit_all l]
/-- Frames are read back. -/
theorem pf_lg (l : List ByteArray) (h : ∀ x ∈ l, x.size ≤ 4096) : pf (lg l) 0 = (l, (lg l).size) := by
  have e := pf_cut l ⟨#[]⟩ (lg l).size h (Nat.le_refl _)
  have e0 : (⟨#[]⟩ : ByteArray).size = 0 := rfl
  rw [nil_app, e0, Nat.zero_add, ext_all, fit_all, List.take_length, Nat.zero_add] at e
  exact e
theorem lg_len : ∀ l : List ByteArray, l.length * 8 ≤ (lg l).size
  | [] => Nat.le_refl _
  | x :: l => by
    have e : (lg (x :: l)).size = (frm x).size + (lg l).size := ByteArray.size_append
    have := lg_len l
    have := frm_size x
    rw [e, List.length_cons]
    omega
theorem lg_cut (l : List ByteArray) (n : Nat) : lg l = lg (l.take n) ++ lg (l.drop n) := by rw [← lg_app, List.take_append_drop]
theorem lg_take (l : List ByteArray) (n : Nat) : (lg l).extract 0 (lg (l.take n)).size = lg (l.take n) := by
  conv => lhs; arg 1; rw [lg_cut l n]
  exact ext_left _ _
theorem lg_take_le (l : List ByteArray) (n : Nat) : (lg (l.take n)).size ≤ (lg l).size := by
  rw [lg_cut l n, ByteArray.size_append]
  exact Nat.le_add_right _ _
/-- What is read are frames, from the front on. -/
theorem pf_is (s : ByteArray) : ∀ (f p : Nat), s.size - p < f → p ≤ s.size → p ≤ (pf s p).2 ∧ (pf s p).2 ≤ s.size ∧ s.extract p (pf s p).2 = lg (pf s p).1 ∧ ∀ x ∈ (pf s p).1, x.size ≤ 4096
  | 0, _, h, _ => absurd h (Nat.not_lt_zero _)
  | f + 1, p, h, hp => by
    by_cases h0 : (nxt (s.extract p s.size)).2.2 = 0
    · obtain ⟨t, n, ht⟩ : ∃ t n, nxt (s.extract p s.size) = (t, n, 0) := ⟨_, _, by rw [← h0]⟩
      obtain ⟨k1, k2, k3, k4, k5⟩ := nxt_ok ht
      rw [ByteArray.size_extract] at k2
      obtain ⟨i1, i2, i3, i4⟩ := pf_is s f (p + n) (by omega) (by omega)
      rw [pf_go ht]
      refine ⟨by show p ≤ (pf s (p + n)).2; omega, i2, ?_, ?_⟩
      · show s.extract p (pf s (p + n)).2 = frm t ++ lg (pf s (p + n)).1
        rw [← i3, k5]
        apply ba_eq
        simp only [ba_app, ba_ext]
        rw [List.drop_zero, Nat.sub_zero, List.take_take, Nat.min_eq_left (by omega)]
        rw [show (pf s (p + n)).2 - p = n + ((pf s (p + n)).2 - (p + n)) from by omega, List.take_add, List.drop_drop]
      · intro x hx
        rcases List.mem_cons.1 hx with rfl | hx
        · exact k4
        · exact i4 x hx
    · rw [pf_stop h0]
      refine ⟨Nat.le_refl _, hp, ?_, fun x hx => absurd hx (by simp)⟩
      apply ba_eq
      show (s.extract p p).data.toList = []
      rw [ba_ext, Nat.sub_self, List.take_zero]
/-- What begins with frames. -/
theorem pf_pre : ∀ (m : List ByteArray) (a r : ByteArray), (∀ x ∈ m, x.size ≤ 4096) → ∃ l, (pf (a ++ (lg m ++ r)) a.size).1 = m ++ l
  | [], _, _, _ => ⟨_, rfl⟩
  | x :: m, a, r, h => by
    have e3 : a ++ (lg (x :: m) ++ r) = (a ++ frm x) ++ (lg m ++ r) := by
      show a ++ ((frm x ++ lg m) ++ r) = _
      rw [app_assoc, app_assoc]
    have e1 : (a ++ (lg (x :: m) ++ r)).extract a.size (a ++ (lg (x :: m) ++ r)).size = frm x ++ (lg m ++ r) := by
      rw [ByteArray.size_append]
      apply ba_eq
      rw [ba_ext, ba_app, ← ba_len a, List.drop_left, Nat.add_sub_cancel_left, List.take_of_length_le (by rw [ba_len]; exact Nat.le_refl _)]
      show ((frm x ++ lg m) ++ r).data.toList = _
      rw [app_assoc]
    have e2 := pf_go (s := a ++ (lg (x :: m) ++ r)) (p := a.size) (t := x) (n := 8 + x.size) (by rw [e1]; exact nxt_frm x _ (h x (List.mem_cons_self ..)))
    obtain ⟨l, hl⟩ := pf_pre m (a ++ frm x) r (fun y hy => h y (List.mem_cons_of_mem _ hy))
    have e4 : (a ++ frm x).size = a.size + (8 + x.size) := by rw [ByteArray.size_append, frm_size]; omega
    rw [e2, e3]
    rw [e4] at hl
    exact ⟨l, by show x :: _ = _; rw [hl]; rfl⟩
/-- How many bytes are synced, where n records are sure. -/
def wy (l : List ByteArray) (n : Nat) : Nat := (lg (l.take n)).size
/-- What holds of every log. -/
def wOk (l : List ByteArray) (n : Nat) : Prop := (∀ x ∈ l, x.size ≤ 4096) ∧ (lg l).size ≤ 65536 ∧ n ≤ l.length
theorem wOk.disk {l : List ByteArray} {n : Nat} (h : wOk l n) : dOk (lg l) (wy l n) := ⟨lg_take_le l n, h.2.1⟩
theorem wOk.few {l : List ByteArray} {n : Nat} (h : wOk l n) : l.length ≤ 8192 := by have := lg_len l; have := h.2.1; omega
theorem wOk_nil : wOk [] 0 := ⟨fun x hx => absurd hx (by simp), Nat.zero_le _, Nat.zero_le _⟩
/-- A record more: the records, the error's number. -/
def wApp (l : List ByteArray) (s : ByteArray) : List ByteArray × Int :=
  if 4096 < s.size then (l, 2) else if 65536 < (lg l).size + (s.size + 8) then (l, 7) else (l ++ [s], 0)
theorem wApp_long {l : List ByteArray} {s : ByteArray} (h : 4096 < s.size) : wApp l s = (l, 2) := if_pos h
theorem wApp_full {l : List ByteArray} {s : ByteArray} (h : ¬ 4096 < s.size) (h2 : 65536 < (lg l).size + (s.size + 8)) : wApp l s = (l, 7) := by unfold wApp; rw [if_neg h, if_pos h2]
theorem wApp_good {l : List ByteArray} {s : ByteArray} (h : ¬ 4096 < s.size) (h2 : ¬ 65536 < (lg l).size + (s.size + 8)) : wApp l s = (l ++ [s], 0) := by unfold wApp; rw [if_neg h, if_neg h2]
theorem wApp_cases (l : List ByteArray) (s : ByteArray) : wApp l s = (l, 2) ∨ wApp l s = (l, 7) ∨ wApp l s = (l ++ [s], 0) := by
  by_cases h : 4096 < s.size
  · exact .inl (wApp_long h)
  · by_cases h2 : 65536 < (lg l).size + (s.size + 8)
    · exact .inr (.inl (wApp_full h h2))
    · exact .inr (.inr (wApp_good h h2))
theorem wApp_ok {l : List ByteArray} {n : Nat} (h : wOk l n) (s : ByteArray) : wOk (wApp l s).1 n := by
  by_cases h1 : 4096 < s.size
  · rw [wApp_long h1]; exact h
  · by_cases h2 : 65536 < (lg l).size + (s.size + 8)
    · rw [wApp_full h1 h2]; exact h
    · rw [wApp_good h1 h2]
      refine ⟨fun x hx => ?_, ?_, ?_⟩
      · rcases List.mem_append.1 hx with hx | hx
        · exact h.1 x hx
        · rw [List.mem_singleton.1 hx]; omega
      · show (lg (l ++ [s])).size ≤ 65536
        rw [lg_snoc, ByteArray.size_append, frm_size]; omega
      · show n ≤ (l ++ [s]).length
        have := h.2.2
        rw [List.length_append]; omega
theorem wy_app {l : List ByteArray} {n : Nat} (h : n ≤ l.length) (s : ByteArray) : wy (l ++ [s]) n = wy l n := by unfold wy; rw [List.take_append_of_le_length h]
theorem wy_all (l : List ByteArray) : wy l l.length = (lg l).size := by unfold wy; rw [List.take_length]
theorem wy_nil : wy [] 0 = 0 := rfl
theorem wOk.all {l : List ByteArray} {n : Nat} (h : wOk l n) : wOk l l.length := ⟨h.1, h.2.1, Nat.le_refl _⟩
/-- The bytes that a crash leaves. -/
def wR (l : List ByteArray) (n K : Nat) : ByteArray := dcrash (lg l) K (wy l n)
/-- The records that a crash leaves. -/
def wCr (l : List ByteArray) (n K : Nat) : List ByteArray := (pf (wR l n K) 0).1
theorem wR_size {l : List ByteArray} {n : Nat} (h : wOk l n) (K : Nat) : (wR l n K).size ≤ 65536 := by
  have h1 := dendF_le K (wy l n) ((lg l).size - wy l n)
  have h2 := h.disk
  unfold dOk at h2
  unfold wR
  rw [dcrash_size]
  omega
theorem wCr_text (l : List ByteArray) (n K : Nat) : (wR l n K).extract 0 (pf (wR l n K) 0).2 = lg (wCr l n K) ∧ (pf (wR l n K) 0).2 = (lg (wCr l n K)).size ∧ (pf (wR l n K) 0).2 ≤ (wR l n K).size := by
  obtain ⟨_, h2, h3, _⟩ := pf_is (wR l n K) ((wR l n K).size + 1) 0 (by omega) (Nat.zero_le _)
  refine ⟨h3, ?_, h2⟩
  have := congrArg ByteArray.size h3
  rw [ByteArray.size_extract] at this
  unfold wCr
  omega
theorem wCr_ok {l : List ByteArray} {n : Nat} (h : wOk l n) (K : Nat) : wOk (wCr l n K) (wCr l n K).length := by
  obtain ⟨_, h2, h3, h4⟩ := pf_is (wR l n K) ((wR l n K).size + 1) 0 (by omega) (Nat.zero_le _)
  obtain ⟨_, k2, k3⟩ := wCr_text l n K
  have := wR_size h K
  exact ⟨h4, by omega, Nat.le_refl _⟩
/-- The records that are sure stay. -/
theorem wCr_sure {l : List ByteArray} {n : Nat} (h : wOk l n) (K : Nat) : ∃ m, wCr l n K = l.take n ++ m := by
  obtain ⟨h1, h2⟩ := dcrash_sure h.disk K
  have e : wR l n K = ⟨#[]⟩ ++ (lg (l.take n) ++ (wR l n K).extract (wy l n) (wR l n K).size) := by
    rw [nil_app]
    have h3 : (wR l n K).extract 0 (wy l n) = lg (l.take n) := h2.trans (lg_take l n)
    rw [← h3]
    apply ba_eq
    simp only [ba_app, ba_ext]
    rw [List.drop_zero, Nat.sub_zero]
    have hz : (wR l n K).size - wy l n = ((wR l n K).data.toList.drop (wy l n)).length := by rw [List.length_drop, ba_len]
    rw [hz, List.take_length, List.take_append_drop]
  have hm : ∀ x ∈ l.take n, x.size ≤ 4096 := fun x hx => h.1 x (List.mem_of_mem_take hx)
  obtain ⟨m, hm⟩ := pf_pre (l.take n) ⟨#[]⟩ ((wR l n K).extract (wy l n) (wR l n K).size) hm
  refine ⟨m, ?_⟩
  unfold wCr
  conv => lhs; arg 1; arg 1; rw [e]
  exact hm
/-- Sectors from the first on, without a gap: those that were sure, and a beginning of the others. -/
theorem wCr_begins {l : List ByteArray} {n : Nat} (h : wOk l n) (k : Nat) (hk : k ≤ 64) : ∃ j, n ≤ j ∧ j ≤ l.length ∧ wCr l n (2 ^ k - 1) = l.take j := by
  have e := dcrash_begins h.disk k hk
  obtain ⟨m, hm⟩ := wCr_sure h (2 ^ k - 1)
  have hz : (wR l n (2 ^ k - 1)).size ≤ (lg l).size := by
    have h1 := dendF_le (2 ^ k - 1) (wy l n) ((lg l).size - wy l n)
    have h2 := h.disk.1
    unfold wR
    rw [dcrash_size]
    omega
  have e2 := pf_cut l ⟨#[]⟩ (wR l n (2 ^ k - 1)).size h.1 hz
  have e0 : (⟨#[]⟩ : ByteArray).size = 0 := rfl
  rw [nil_app, e0, Nat.zero_add] at e2
  have e3 : wCr l n (2 ^ k - 1) = l.take (fit l (wR l n (2 ^ k - 1)).size) := by
    unfold wCr
    conv => lhs; arg 1; arg 1; rw [show wR l n (2 ^ k - 1) = (lg l).extract 0 (wR l n (2 ^ k - 1)).size from e]
    rw [e2]
  refine ⟨_, ?_, fit_le l _, e3⟩
  have := congrArg List.length (hm.symm.trans e3)
  rw [List.length_append, List.length_take, List.length_take] at this
  have := h.2.2
  have := fit_le l (wR l n (2 ^ k - 1)).size
  omega
/-- Where all are sure, all stay. -/
theorem wCr_all {l : List ByteArray} (h : wOk l l.length) (K : Nat) : wCr l l.length K = l := by
  have e : wR l l.length K = lg l := dcrash_all h.disk K (fun i h1 h2 => by rw [wy_all] at h1; omega)
  unfold wCr
  rw [e, pf_lg l h.1]
end Go.Proofs.Ytbkdjpialjbhnaa
