/-
  A disk that tears, by the document's definition: a text of which some bytes are synced; what is done to it. No function of the program is named here.
-/
import Derived.Test.YtbkdjpialjbhnaaSl
import Derived.Test.YtbkdjpialjbhnaaWMath
namespace Go.Proofs.Ytbkdjpialjbhnaa
/-- Does byte i stay, of which y are synced? -/
def kept (K y i : Nat) : Bool := decide (i / 64 - y / 64 < 64) && decide (K / 2 ^ (i / 64 - y / 64) % 2 = 1)
/-- Where what is there ends, of j bytes that are not synced. -/
def dendF (K y : Nat) : Nat → Nat
  | 0 => y
  | j + 1 => if kept K y (y + j) then y + j + 1 else dendF K y j
/-- Byte i behind a crash. -/
def dbyte (B : Nat → Nat) (K y m : Nat) (i : Nat) : Nat := if y ≤ i ∧ i < m ∧ kept K y i = false then 0 else B i
theorem dendF_le (K y : Nat) : ∀ j, y ≤ dendF K y j ∧ dendF K y j ≤ y + j
  | 0 => ⟨Nat.le_refl _, Nat.le_refl _⟩
  | j + 1 => by
    have := dendF_le K y j
    unfold dendF
    split
    · omega
    · omega
/-- What is there behind a crash. -/
def dcrash (T : ByteArray) (K y : Nat) : ByteArray := mkS (dbyte (sb T) K y T.size) (dendF K y (T.size - y))
theorem dcrash_size (T : ByteArray) (K y : Nat) : (dcrash T K y).size = dendF K y (T.size - y) := mkS_len _ _
theorem dbyte_lt {B : Nat → Nat} (hB : ∀ i, B i < 256) (K y m i : Nat) : dbyte B K y m i < 256 := by
  unfold dbyte
  split
  · decide
  · exact hB i
theorem dcrash_sb (T : ByteArray) (K y i : Nat) (h : i < dendF K y (T.size - y)) : sb (dcrash T K y) i = dbyte (sb T) K y T.size i := mkS_sb h (dbyte_lt (sb_lt T) _ _ _ _)
/-- A disk behind something done: the text, how much is synced, the error's number. -/
def dDo (T : ByteArray) (y : Nat) (k : Int) (x : ByteArray) (K : Nat) : ByteArray × Nat × Int :=
  if k = 1 then (if 65536 < T.size + x.size then (T, y, 2) else (T ++ x, y, 0))
  else if k = 2 then (T, T.size, 0)
  else if k = 3 then (dcrash T K y, (dcrash T K y).size, 0)
  else (T, y, 1)
/-- What holds of every disk. -/
def dOk (T : ByteArray) (y : Nat) : Prop := y ≤ T.size ∧ T.size ≤ 65536
theorem dDo_ok {T : ByteArray} {y : Nat} (h : dOk T y) (k : Int) (x : ByteArray) (K : Nat) : dOk (dDo T y k x K).1 (dDo T y k x K).2.1 := by
  unfold dDo
  unfold dOk at *
  by_cases k1 : k = 1
  · rw [if_pos k1]
    by_cases hz : 65536 < T.size + x.size
    · rw [if_pos hz]; exact h
    · rw [if_neg hz]
      show y ≤ (T ++ x).size ∧ (T ++ x).size ≤ 65536
      rw [ByteArray.size_append]
      omega
  · rw [if_neg k1]
    by_cases k2 : k = 2
    · rw [if_pos k2]; exact ⟨Nat.le_refl _, h.2⟩
    · rw [if_neg k2]
      by_cases k3 : k = 3
      · rw [if_pos k3]
        have := dendF_le K y (T.size - y)
        show (dcrash T K y).size ≤ (dcrash T K y).size ∧ (dcrash T K y).size ≤ 65536
        rw [dcrash_size]
        omega
      · rw [if_neg k3]; exact h
/-- What is synced stays. -/
theorem dcrash_sure {T : ByteArray} {y : Nat} (h : dOk T y) (K : Nat) : y ≤ (dcrash T K y).size ∧ (dcrash T K y).extract 0 y = T.extract 0 y := by
  have h1 := dendF_le K y (T.size - y)
  refine ⟨by rw [dcrash_size]; exact h1.1, ?_⟩
  have hz : (dcrash T K y).size = dendF K y (T.size - y) := dcrash_size _ _ _
  have z1 : ((dcrash T K y).extract 0 y).size = y := by rw [ByteArray.size_extract]; omega
  have z2 : (T.extract 0 y).size = y := by have := h.1; rw [ByteArray.size_extract]; omega
  refine sb_eq (by rw [z1, z2]) fun i hi => ?_
  rw [z1] at hi
  rw [sb_extract _ _ _ _ (by omega), sb_extract _ _ _ _ (by omega), Nat.zero_add, dcrash_sb _ _ _ _ (by omega)]
  exact if_neg (by omega)
/-- Where all bytes ahead of the end stay, the text is a beginning of what was there. -/
theorem dcrash_prefix {T : ByteArray} {y : Nat} (h : dOk T y) (K : Nat) (hk : ∀ i, y ≤ i → i < dendF K y (T.size - y) → kept K y i = true) : dcrash T K y = T.extract 0 (dcrash T K y).size := by
  have h1 := dendF_le K y (T.size - y)
  have hz : (dcrash T K y).size = dendF K y (T.size - y) := dcrash_size _ _ _
  have := h.1
  refine sb_eq (by rw [ByteArray.size_extract]; omega) fun i hi => ?_
  rw [sb_extract _ _ _ _ (by omega), Nat.zero_add, dcrash_sb _ _ _ _ (by omega)]
  unfold dbyte
  rw [if_neg]
  rintro ⟨q1, q2, q3⟩
  rw [hk i q1 (by omega)] at q3
  cases q3
/-- Nothing is kept: what is synced. -/
theorem dendF_none (y : Nat) : ∀ j, dendF 0 y j = y
  | 0 => rfl
  | j + 1 => by
    unfold dendF
    rw [show kept 0 y (y + j) = false from by unfold kept; simp, dendF_none y j]
    rfl
theorem dcrash_none {T : ByteArray} {y : Nat} (h : dOk T y) : dcrash T 0 y = T.extract 0 y := by
  have e := dcrash_prefix h 0 (fun i h1 h2 => by rw [dendF_none] at h2; omega)
  rw [dcrash_size, dendF_none] at e
  exact e
/-- The last byte that stays. -/
theorem dendF_last (K y : Nat) : ∀ j, y < dendF K y j → kept K y (dendF K y j - 1) = true
  | 0, h => absurd h (Nat.lt_irrefl _)
  | j + 1, h => by
    unfold dendF at h ⊢
    by_cases hk : kept K y (y + j) = true
    · rw [if_pos hk]; exact hk
    · rw [if_neg hk] at h ⊢; exact dendF_last K y j h
theorem dendF_all (K y : Nat) : ∀ j, (∀ i, i < j → kept K y (y + i) = true) → dendF K y j = y + j
  | 0, _ => rfl
  | j + 1, h => by unfold dendF; rw [if_pos (h j (by omega))]; rfl
/-- All is kept. -/
theorem dcrash_all {T : ByteArray} {y : Nat} (h : dOk T y) (K : Nat) (hk : ∀ i, y ≤ i → i < T.size → kept K y i = true) : dcrash T K y = T := by
  have h1 := h.1
  have e1 : dendF K y (T.size - y) = T.size := by rw [dendF_all K y _ (fun i hi => hk _ (by omega) (by omega))]; omega
  have e := dcrash_prefix h K (fun i a b => hk i a (by omega))
  rw [dcrash_size, e1] at e
  rw [e]
  apply ba_eq
  rw [ba_ext, List.drop_zero, Nat.sub_zero, List.take_of_length_le (by rw [ba_len]; exact Nat.le_refl _)]
/-- Sectors from the first on, without a gap. -/
theorem kept_ones (y i n : Nat) (hn : n ≤ 64) (_hi : y ≤ i) : kept (2 ^ n - 1) y i = decide (i / 64 - y / 64 < n) := by
  unfold kept
  have hb : (2 ^ n - 1) / 2 ^ (i / 64 - y / 64) % 2 = if i / 64 - y / 64 < n then 1 else 0 := by
    have := Nat.testBit_two_pow_sub_one n (i / 64 - y / 64)
    rw [Nat.testBit_eq_decide_div_mod_eq] at this
    split
    · rename_i hlt; simpa [hlt] using this
    · rename_i hlt
      have h2 : ¬ (2 ^ n - 1) / 2 ^ (i / 64 - y / 64) % 2 = 1 := by simpa [hlt] using this
      have : (2 ^ n - 1) / 2 ^ (i / 64 - y / 64) % 2 < 2 := Nat.mod_lt _ (by decide)
      omega
  rw [hb]
  by_cases h : i / 64 - y / 64 < n
  · have h64 : i / 64 - y / 64 < 64 := by omega
    simp [h, h64]
  · simp [h]
theorem dcrash_begins {T : ByteArray} {y : Nat} (h : dOk T y) (n : Nat) (hn : n ≤ 64) : dcrash T (2 ^ n - 1) y = T.extract 0 (dcrash T (2 ^ n - 1) y).size := by
  refine dcrash_prefix h _ fun i h1 h2 => ?_
  have hl := dendF_last (2 ^ n - 1) y (T.size - y) (by omega)
  rw [kept_ones _ _ _ hn (by omega)] at hl
  rw [kept_ones _ _ _ hn h1]
  have := of_decide_eq_true hl
  refine decide_eq_true ?_
  have : i / 64 ≤ (dendF (2 ^ n - 1) y (T.size - y) - 1) / 64 := Nat.div_le_div_right (by omega)
  omega
end Go.Proofs.Ytbkdjpialjbhnaa
