/-
  Records of a log, by the document's definition: a frame, the first frame of bytes, all frames from the front on; what a cut and what turned bits do. No function of the program is named here.
-/
import Derived.Test.YtbkdjpialjbhnaaRLow
import Derived.Test.YtbkdjpialjbhnaaCrc
namespace Go.Proofs.Ytbkdjpialjbhnaa
open Go.RowKit
/-- The sum of a text. -/
def crcN (s : ByteArray) : Nat := cfold (sb s) 4294967295 s.size ^^^ 4294967295
theorem crcN_lt (s : ByteArray) : crcN s < 4294967296 := by
  unfold crcN
  have h1 : cfold (sb s) 4294967295 s.size < 2 ^ 32 := Nat.lt_of_lt_of_eq (cfold_lt (sb_lt s) (by omega) _) (by rfl)
  exact Nat.lt_of_lt_of_eq (Nat.xor_lt_two_pow h1 (Nat.lt_of_lt_of_eq (m := 4294967296) (by omega) (by rfl))) (by rfl)
/-- A record's bytes. -/
def frm (s : ByteArray) : ByteArray := (be4 s.size ++ be4 (crcN (be4 s.size ++ s))) ++ s
theorem frm_size (s : ByteArray) : (frm s).size = s.size + 8 := by
  unfold frm
  rw [ByteArray.size_append, ByteArray.size_append, be4_size, be4_size]
  omega
/-- The first record of bytes, how many bytes it has, the error's number. -/
def nxt (s : ByteArray) : ByteArray × Nat × Int :=
  if s.size < 4 then (⟨#[]⟩, 0, 2)
  else if 4096 < num4 s 0 then (⟨#[]⟩, 0, 3)
  else if s.size < 8 + num4 s 0 then (⟨#[]⟩, 0, 2)
  else if frm (s.extract 8 (8 + num4 s 0)) = s.extract 0 (8 + num4 s 0) then (s.extract 8 (8 + num4 s 0), 8 + num4 s 0, 0)
  else (⟨#[]⟩, 0, 4)
theorem nxt_1 {s : ByteArray} (h : s.size < 4) : nxt s = (⟨#[]⟩, 0, 2) := by unfold nxt; rw [if_pos h]
theorem nxt_2 {s : ByteArray} (h : ¬ s.size < 4) (h2 : 4096 < num4 s 0) : nxt s = (⟨#[]⟩, 0, 3) := by unfold nxt; rw [if_neg h, if_pos h2]
theorem nxt_3 {s : ByteArray} (h : ¬ s.size < 4) (h2 : ¬ 4096 < num4 s 0) (h3 : s.size < 8 + num4 s 0) : nxt s = (⟨#[]⟩, 0, 2) := by unfold nxt; rw [if_neg h, if_neg h2, if_pos h3]
theorem nxt_4 {s : ByteArray} (h : ¬ s.size < 4) (h2 : ¬ 4096 < num4 s 0) (h3 : ¬ s.size < 8 + num4 s 0) (h4 : ¬ frm (s.extract 8 (8 + num4 s 0)) = s.extract 0 (8 + num4 s 0)) : nxt s = (⟨#[]⟩, 0, 4) := by unfold nxt; rw [if_neg h, if_neg h2, if_neg h3, if_neg h4]
theorem nxt_5 {s : ByteArray} (h : ¬ s.size < 4) (h2 : ¬ 4096 < num4 s 0) (h3 : ¬ s.size < 8 + num4 s 0) (h4 : frm (s.extract 8 (8 + num4 s 0)) = s.extract 0 (8 + num4 s 0)) : nxt s = (s.extract 8 (8 + num4 s 0), 8 + num4 s 0, 0) := by unfold nxt; rw [if_neg h, if_neg h2, if_neg h3, if_pos h4]
/-- What is read has at least 8 bytes, and lies within. -/
theorem nxt_ok {s t : ByteArray} {n : Nat} (h : nxt s = (t, n, 0)) : 8 ≤ n ∧ n ≤ s.size ∧ n = t.size + 8 ∧ t.size ≤ 4096 ∧ frm t = s.extract 0 n := by
  unfold nxt at h
  split at h
  · cases h
  · split at h
    · cases h
    · split at h
      · cases h
      · split at h
        · rename_i h1 h2 h3 h4
          injection h with ht hn
          injection hn with hn _
          subst ht hn
          have hz : (s.extract 8 (8 + num4 s 0)).size = num4 s 0 := by rw [ByteArray.size_extract]; omega
          exact ⟨by omega, by omega, by rw [hz]; omega, by rw [hz]; omega, h4⟩
        · cases h
theorem num4_be4 {n : Nat} (hn : n < 4294967296) (r : ByteArray) : num4 (be4 n ++ r) 0 = n := by
  have hb : ∀ i, i < 4 → sb (be4 n ++ r) i = n / 256 ^ (3 - i) % 256 := fun i hi => by rw [sb_left _ _ (by rw [be4_size]; exact hi), be4_sb _ hi]
  unfold num4
  rw [hb 0 (by omega), hb (0 + 1) (by omega), hb (0 + 2) (by omega), hb (0 + 3) (by omega)]
  show n / 16777216 % 256 * 16777216 + n / 65536 % 256 * 65536 + n / 256 % 256 * 256 + n / 1 % 256 = n
  omega
theorem frm_app (x r : ByteArray) : frm x ++ r = be4 x.size ++ (be4 (crcN (be4 x.size ++ x)) ++ (x ++ r)) := by unfold frm; simp only [app_assoc]
theorem frm_app2 (x r : ByteArray) : frm x ++ r = ((be4 x.size ++ be4 (crcN (be4 x.size ++ x))) ++ x) ++ r := rfl
theorem nxt_frm (x r : ByteArray) (hx : x.size ≤ 4096) : nxt (frm x ++ r) = (x, 8 + x.size, 0) := by
  have hn : num4 (frm x ++ r) 0 = x.size := by rw [frm_app]; exact num4_be4 (by omega) _
  have hz : (frm x ++ r).size = x.size + 8 + r.size := by rw [ByteArray.size_append, frm_size]
  have e1 : (frm x ++ r).extract 8 (8 + x.size) = x := by
    have h8 : (be4 x.size ++ be4 (crcN (be4 x.size ++ x))).size = 8 := by rw [ByteArray.size_append, be4_size, be4_size]
    have := ext_mid (be4 x.size ++ be4 (crcN (be4 x.size ++ x))) x r
    rw [h8] at this
    exact this
  have e2 : (frm x ++ r).extract 0 (8 + x.size) = frm x := by
    apply ba_eq
    rw [ba_ext, ba_app, List.drop_zero, Nat.sub_zero, show 8 + x.size = (frm x).data.toList.length from by rw [ba_len, frm_size]; omega, List.take_left]
  rw [nxt_5 (by omega) (by omega) (by omega) (by rw [hn, e1, e2]), hn, e1]
theorem nxt_short (x : ByteArray) (k : Nat) (hx : x.size ≤ 4096) (hk : k < (frm x).size) : (nxt ((frm x).extract 0 k)).2.2 = 2 := by
  have hz : ((frm x).extract 0 k).size = k := by rw [ByteArray.size_extract]; omega
  rw [frm_size] at hk
  by_cases h4 : k < 4
  · rw [nxt_1 (by omega)]
  · have hn : num4 ((frm x).extract 0 k) 0 = x.size := by
      have e : num4 (frm x ++ ⟨#[]⟩) 0 = x.size := by rw [frm_app]; exact num4_be4 (by omega) _
      rw [app_nil] at e
      rw [← e]
      unfold num4
      rw [sb_extract _ _ _ _ (by omega), sb_extract _ _ _ _ (by omega), sb_extract _ _ _ _ (by omega), sb_extract _ _ _ _ (by omega)]
    rw [nxt_3 (by omega) (by omega) (by omega)]
/-- Records' bytes, one behind the other. -/
def lg : List ByteArray → ByteArray
  | [] => ⟨#[]⟩
  | x :: l => frm x ++ lg l
theorem lg_app (l m : List ByteArray) : lg (l ++ m) = lg l ++ lg m := by
  induction l with
  | nil => exact (nil_app _).symm
  | cons x l ih =>
    show frm x ++ lg (l ++ m) = (frm x ++ lg l) ++ lg m
    rw [ih, app_assoc]
theorem lg_snoc (l : List ByteArray) (x : ByteArray) : lg (l ++ [x]) = lg l ++ frm x := by
  rw [lg_app]
  show _ ++ (frm x ++ ⟨#[]⟩) = _
  rw [app_nil]
/-- The first n of L, as a log. -/
def lgN (L : Nat → ByteArray) (n : Nat) : ByteArray := lg (lsT L n)
theorem lgN_succ (L : Nat → ByteArray) (n : Nat) : lgN L (n + 1) = lgN L n ++ frm (L n) := by unfold lgN; rw [lsT_succ, lg_snoc]
theorem lgN_size (L : Nat → ByteArray) (n : Nat) : (lgN L (n + 1)).size = (lgN L n).size + ((L n).size + 8) := by rw [lgN_succ, ByteArray.size_append, frm_size]
theorem lgN_mono (L : Nat → ByteArray) {k n : Nat} (h : k ≤ n) : (lgN L k).size ≤ (lgN L n).size := by
  induction n with
  | zero => obtain rfl : k = 0 := by omega
            exact Nat.le_refl _
  | succ n ih =>
    by_cases e : k = n + 1
    · subst e; exact Nat.le_refl _
    · have := ih (by omega); rw [lgN_size]; omega
/-- May records be a log? -/
def lgOk (L : Nat → ByteArray) (n : Nat) : Prop := (∀ i, i < n → (L i).size ≤ 4096) ∧ (lgN L n).size ≤ 65536
/-- The records of bytes from p on, f at most, and where they end. -/
def pfF (s : ByteArray) : Nat → Nat → List ByteArray × Nat
  | 0, p => ([], p)
  | f + 1, p => if (nxt (s.extract p s.size)).2.2 = 0 then ((nxt (s.extract p s.size)).1 :: (pfF s f (p + (nxt (s.extract p s.size)).2.1)).1, (pfF s f (p + (nxt (s.extract p s.size)).2.1)).2) else ([], p)
theorem nxt_ok' {s : ByteArray} (h : (nxt s).2.2 = 0) : 8 ≤ (nxt s).2.1 ∧ (nxt s).2.1 ≤ s.size := by
  have : nxt s = ((nxt s).1, (nxt s).2.1, 0) := by rw [← h]
  have := nxt_ok this
  exact ⟨this.1, this.2.1⟩
theorem pfF_more (s : ByteArray) : ∀ (f g p : Nat), s.size - p < f → s.size - p < g → pfF s f p = pfF s g p
  | 0, _, _, h, _ => absurd h (Nat.not_lt_zero _)
  | f + 1, 0, _, _, h => absurd h (Nat.not_lt_zero _)
  | f + 1, g + 1, p, h, k => by
    unfold pfF
    by_cases h0 : (nxt (s.extract p s.size)).2.2 = 0
    · have h1 := nxt_ok' h0
      have hz : (s.extract p s.size).size ≤ s.size - p := by rw [ByteArray.size_extract]; omega
      rw [if_pos h0, if_pos h0, pfF_more s f g (p + (nxt (s.extract p s.size)).2.1) (by omega) (by omega)]
    · rw [if_neg h0, if_neg h0]
/-- The records of bytes from p on. -/
def pf (s : ByteArray) (p : Nat) : List ByteArray × Nat := pfF s (s.size - p + 1) p
theorem pf_stop {s : ByteArray} {p : Nat} (h : (nxt (s.extract p s.size)).2.2 ≠ 0) : pf s p = ([], p) := by
  unfold pf pfF
  rw [if_neg h]
theorem pf_go {s t : ByteArray} {p n : Nat} (h : nxt (s.extract p s.size) = (t, n, 0)) : pf s p = (t :: (pf s (p + n)).1, (pf s (p + n)).2) := by
  have h1 := nxt_ok h
  have hz : (s.extract p s.size).size ≤ s.size - p := by rw [ByteArray.size_extract]; omega
  unfold pf
  rw [show pfF s (s.size - p + 1) p = if (nxt (s.extract p s.size)).2.2 = 0 then ((nxt (s.extract p s.size)).1 :: (pfF s (s.size - p) (p + (nxt (s.extract p s.size)).2.1)).1, (pfF s (s.size - p) (p + (nxt (s.extract p s.size)).2.1)).2) else ([], p) from rfl, h]
  show (if (0 : Int) = 0 then (t :: (pfF s (s.size - p) (p + n)).1, (pfF s (s.size - p) (p + n)).2) else ([], p)) = _
  rw [if_pos rfl, pfF_more s (s.size - p) (s.size - (p + n) + 1) (p + n) (by omega) (by omega)]
/-- How many records fit into k bytes. -/
def fit : List ByteArray → Nat → Nat
  | [], _ => 0
  | x :: l, k => if (frm x).size ≤ k then fit l (k - (frm x).size) + 1 else 0
theorem fit_le : ∀ (l : List ByteArray) (k : Nat), fit l k ≤ l.length
  | [], _ => Nat.le_refl _
  | x :: l, k => by
    unfold fit
    split
    · have := fit_le l (k - (frm x).size); simp; omega
    · exact Nat.zero_le _
theorem fit_size : ∀ (l : List ByteArray) (k : Nat), (lg (l.take (fit l k))).size ≤ k
  | [], _ => Nat.zero_le _
  | x :: l, k => by
    unfold fit
    split
    · have := fit_size l (k - (frm x).size)
      rw [List.take_succ_cons]
      show (frm x ++ lg _).size ≤ k
      rw [ByteArray.size_append]
      omega
    · exact Nat.zero_le _
theorem fit_next : ∀ (l : List ByteArray) (k : Nat), fit l k < l.length → k < (lg (l.take (fit l k + 1))).size
  | [], _, h => absurd h (Nat.not_lt_zero _)
  | x :: l, k, h => by
    unfold fit at h ⊢
    split at h
    · rename_i hle
      rw [if_pos hle, List.take_succ_cons]
      have := fit_next l (k - (frm x).size) (by simp at h; omega)
      show k < (frm x ++ lg _).size
      rw [ByteArray.size_append]
      omega
    · rename_i hle
      rw [if_neg hle]
      show k < (frm x ++ lg (List.take 0 l)).size
      rw [ByteArray.size_append]
      omega
/-- A log that is cut has the records that are whole. -/
theorem pf_cut : ∀ (l : List ByteArray) (a : ByteArray) (k : Nat), (∀ x ∈ l, x.size ≤ 4096) → k ≤ (lg l).size → pf ((a ++ lg l).extract 0 (a.size + k)) a.size = (l.take (fit l k), a.size + (lg (l.take (fit l k))).size)
  | [], a, k, _, hk => by
    obtain rfl : k = 0 := by have : (lg []).size = 0 := rfl; omega
    refine (pf_stop ?_).trans rfl
    have hz : ((a ++ lg []).extract 0 (a.size + 0)).size = a.size := by rw [ByteArray.size_extract, ByteArray.size_append]; show min (a.size + 0) (a.size + 0) - 0 = _; omega
    rw [nxt_1 (by rw [ByteArray.size_extract, hz]; omega)]
    show (2 : Int) ≠ 0
    decide
  | x :: l, a, k, h, hk => by
    have hx := h x (List.mem_cons_self ..)
    have hz0 : (lg (x :: l)).size = (frm x).size + (lg l).size := ByteArray.size_append
    have hz : ((a ++ lg (x :: l)).extract 0 (a.size + k)).size = a.size + k := by rw [ByteArray.size_extract, ByteArray.size_append]; omega
    have hd : ((a ++ lg (x :: l)).extract 0 (a.size + k)).extract a.size (a.size + k) = (frm x ++ lg l).extract 0 k := by
      apply ba_eq
      simp only [ba_ext]
      rw [ba_app, Nat.add_sub_cancel_left, Nat.sub_zero, Nat.sub_zero, List.drop_zero, List.drop_zero, ← ba_len a, List.take_length_add_append, List.drop_left, List.take_take, Nat.min_self]
      rfl
    by_cases hf : (frm x).size ≤ k
    · have e1 : (frm x ++ lg l).extract 0 k = frm x ++ (lg l).extract 0 (k - (frm x).size) := by
        apply ba_eq
        simp only [ba_ext, ba_app]
        rw [List.drop_zero, List.drop_zero, Nat.sub_zero, Nat.sub_zero, show k = (frm x).data.toList.length + (k - (frm x).size) from by rw [ba_len]; omega, List.take_length_add_append, ba_len]
        congr 2
        omega
      have e2 : nxt (((a ++ lg (x :: l)).extract 0 (a.size + k)).extract a.size ((a ++ lg (x :: l)).extract 0 (a.size + k)).size) = (x, 8 + x.size, 0) := by
        rw [hz, hd, e1]
        exact nxt_frm x _ hx
      rw [pf_go e2]
      have ih := pf_cut l (a ++ frm x) (k - (frm x).size) (fun y hy => h y (List.mem_cons_of_mem _ hy)) (by omega)
      have e3 : (a ++ frm x) ++ lg l = a ++ lg (x :: l) := app_assoc _ _ _
      have e4 : (a ++ frm x).size = a.size + (8 + x.size) := by rw [ByteArray.size_append, frm_size]; omega
      have e5 : a.size + (8 + x.size) + (k - (frm x).size) = a.size + k := by rw [frm_size] at hf ⊢; omega
      rw [e3, e4, e5] at ih
      rw [ih]
      have e6 : fit (x :: l) k = fit l (k - (frm x).size) + 1 := by show (if _ then _ else _) = _; rw [if_pos hf]
      rw [e6, List.take_succ_cons]
      have e7 : (lg (x :: List.take (fit l (k - (frm x).size)) l)).size = (frm x).size + (lg (List.take (fit l (k - (frm x).size)) l)).size := ByteArray.size_append
      rw [e7, frm_size]
      congr 1
      omega
    · have e1 : (frm x ++ lg l).extract 0 k = (frm x).extract 0 k := by
        apply ba_eq
        simp only [ba_ext, ba_app]
        rw [List.drop_zero, List.drop_zero, Nat.sub_zero, List.take_append_of_le_length (by rw [ba_len]; omega)]
      have e6 : fit (x :: l) k = 0 := by show (if _ then _ else _) = _; rw [if_neg hf]
      rw [e6]
      refine (pf_stop ?_).trans rfl
      rw [hz, hd, e1, nxt_short x k hx (by omega)]
      decide
theorem frm_num (s : ByteArray) {i : Nat} (h : i < 4) : sb (frm s) i = sb (be4 s.size) i := by
  have e : frm s = be4 s.size ++ (be4 (crcN (be4 s.size ++ s)) ++ s) := by unfold frm; rw [app_assoc]
  rw [e, sb_left _ _ (by rw [be4_size]; exact h)]
theorem frm_sum (s : ByteArray) {i : Nat} (h : i < 4) : sb (frm s) (4 + i) = sb (be4 (crcN (be4 s.size ++ s))) i := by
  have e : frm s = be4 s.size ++ (be4 (crcN (be4 s.size ++ s)) ++ s) := by unfold frm; rw [app_assoc]
  rw [e]
  have := sb_right (be4 s.size) (be4 (crcN (be4 s.size ++ s)) ++ s) i
  rw [be4_size] at this
  rw [this, sb_left _ _ (by rw [be4_size]; exact h)]
theorem frm_text (s : ByteArray) (i : Nat) : sb (frm s) (8 + i) = sb s i := by
  have := sb_right (be4 s.size ++ be4 (crcN (be4 s.size ++ s))) s i
  rw [show (be4 s.size ++ be4 (crcN (be4 s.size ++ s))).size = 8 from by rw [ByteArray.size_append, be4_size, be4_size]] at this
  exact this
theorem be4_inj {m n : Nat} (hm : m < 4294967296) (hn : n < 4294967296) (h : be4 m = be4 n) : m = n := by
  have h1 := num4_be4 hm ⟨#[]⟩
  have h2 := num4_be4 hn ⟨#[]⟩
  rw [h] at h1
  exact h1.symm.trans h2
theorem digits0 {d : Nat} (hd : d < 4294967296) (h : ∀ i, i < 4 → d / 256 ^ i % 256 = 0) : d = 0 := by
  have h0 := h 0 (by omega); have h1 := h 1 (by omega); have h2 := h 2 (by omega); have h3 := h 3 (by omega)
  have e0 : d / 1 % 256 = 0 := h0
  have e1 : d / 256 % 256 = 0 := h1
  have e2 : d / 65536 % 256 = 0 := h2
  have e3 : d / 16777216 % 256 = 0 := h3
  omega
theorem xor_same {a b : Nat} (h : a = a ^^^ b) : b = 0 := by
  have : a ^^^ a = a ^^^ (a ^^^ b) := by rw [← h]
  rw [Nat.xor_self, ← Nat.xor_assoc, Nat.xor_self, Nat.zero_xor] at this
  exact this.symm
/-- A frame in which up to 32 bits side by side are others, in its sum or in its text, is refused for its sum. -/
theorem nxt_flip (s g : ByteArray) (d k : Nat) (hs : s.size ≤ 4096) (hd : d < 4294967296) (h0 : d ≠ 0) (hk : k = 4 ∨ (8 ≤ k ∧ k + 4 ≤ s.size + 8)) (hz : g.size = s.size + 8)
    (hg : ∀ i, i < s.size + 8 → sb g i = sb (frm s) i ^^^ (if k ≤ i ∧ i < k + 4 then d / 256 ^ (i - k) % 256 else 0)) : nxt g = (⟨#[]⟩, 0, 4) := by
  have hg0 : ∀ i, i < 4 → sb g i = sb (frm s) i := fun i hi => by rw [hg i (by omega), if_neg (by omega), Nat.xor_zero]
  have hn : num4 g 0 = s.size := by
    have e : num4 (frm s ++ ⟨#[]⟩) 0 = s.size := by rw [frm_app]; exact num4_be4 (by omega) _
    rw [app_nil] at e
    rw [← e]
    unfold num4
    rw [hg0 0 (by omega), hg0 (0 + 1) (by omega), hg0 (0 + 2) (by omega), hg0 (0 + 3) (by omega)]
  refine nxt_4 (by omega) (by omega) (by omega) ?_
  rw [hn]
  have eg : g.extract 0 (8 + s.size) = g := by
    apply ba_eq
    rw [ba_ext, List.drop_zero, Nat.sub_zero, List.take_of_length_le (by rw [ba_len]; omega)]
  rw [eg]
  obtain ⟨t, ht⟩ : ∃ t, g.extract 8 (8 + s.size) = t := ⟨_, rfl⟩
  have htz : t.size = s.size := by rw [← ht, ByteArray.size_extract]; omega
  have htb : ∀ i, i < s.size → sb t i = sb g (8 + i) := fun i hi => by rw [← ht, sb_extract _ _ _ _ (by omega)]
  rw [ht]
  intro he
  rcases hk with rfl | ⟨hk1, hk2⟩
  · have hts : t = s := sb_eq htz fun i hi => by
      rw [htb i (by omega), hg _ (by omega), if_neg (by omega), Nat.xor_zero, frm_text]
    rw [hts] at he
    refine h0 (digits0 hd fun i hi => ?_)
    have := hg (4 + i) (by omega)
    rw [← he, if_pos (by omega), Nat.add_sub_cancel_left] at this
    exact xor_same this
  · have hc : crcN (be4 t.size ++ t) = crcN (be4 s.size ++ s) := by
      refine be4_inj (crcN_lt _) (crcN_lt _) (sb_eq (by rw [be4_size, be4_size]) fun i hi => ?_)
      rw [be4_size] at hi
      rw [← frm_sum t hi, ← frm_sum s hi, he, hg _ (by omega), if_neg (by omega), Nat.xor_zero]
    have hc2 : cfold (sb (be4 t.size ++ t)) 4294967295 (be4 t.size ++ t).size = cfold (sb (be4 s.size ++ s)) 4294967295 (be4 s.size ++ s).size := by
      unfold crcN at hc
      have := congrArg (· ^^^ 4294967295) hc
      simpa only [Nat.xor_assoc, Nat.xor_self, Nat.xor_zero] using this
    have hsz : (be4 t.size ++ t).size = 4 + s.size := by rw [ByteArray.size_append, be4_size, htz]
    have hsz2 : (be4 s.size ++ s).size = 4 + s.size := by rw [ByteArray.size_append, be4_size]
    rw [hsz, hsz2] at hc2
    refine cfold_flip (B := sb (be4 s.size ++ s)) (E := sb (be4 t.size ++ t)) (d := d) (j := k - 4) hd h0 (by omega) (fun i hi => ?_) hc2
    by_cases hi4 : i < 4
    · rw [sb_left _ _ (by rw [be4_size]; exact hi4), sb_left _ _ (by rw [be4_size]; exact hi4), htz, if_neg (by omega), Nat.xor_zero]
    · obtain ⟨j, rfl⟩ : ∃ j, i = 4 + j := ⟨i - 4, by omega⟩
      have r1 := sb_right (be4 t.size) t j
      have r2 := sb_right (be4 s.size) s j
      rw [be4_size] at r1 r2
      rw [r1, r2, htb j (by omega), hg _ (by omega), frm_text]
      congr 1
      by_cases hin : k ≤ 8 + j ∧ 8 + j < k + 4
      · rw [if_pos hin, if_pos (by omega), show 8 + j - k = 4 + j - (k - 4) from by omega]
      · rw [if_neg hin, if_neg (by omega)]
end Go.Proofs.Ytbkdjpialjbhnaa
