/-
 Texts as bytes, by the document's definition: a text's length and it, texts one behind the other, what bytes are read as; commands and words. No function of the program is named here.
-/
import Derived.Test.YtmanacbdldfmfaaStr
namespace Go.Proofs.Ytmanacbdldfmfaa
theorem ba_eq {a b : ByteArray} (h : a.data.toList = b.data.toList) : a = b := by
 cases a; cases b; congr; exact Array.toList_inj.1 h
theorem ba_app (a b : ByteArray) : (a ++ b).data.toList = a.data.toList ++ b.data.toList := by simp
theorem ba_ext (s : ByteArray) (a b : Nat) : (s.extract a b).data.toList = (s.data.toList.drop a).take (b - a) := by
 simp [ByteArray.data_extract]
theorem ba_len (s : ByteArray) : s.data.toList.length = s.size := by simp
theorem sb_lst (s : ByteArray) (i : Nat) : sb s i = (s.data.toList.getD i 0).toNat := rfl
theorem sb_left (a b : ByteArray) {i : Nat} (h : i < a.size) : sb (a ++ b) i = sb a i := by
 unfold sb
 rw [ba_app, List.getD_eq_getElem?_getD, List.getD_eq_getElem?_getD, List.getElem?_append_left (by rw [ba_len]; exact h)]
theorem sb_right (a b : ByteArray) (i : Nat) : sb (a ++ b) (a.size + i) = sb b i := by
 unfold sb
 rw [ba_app, List.getD_eq_getElem?_getD, List.getD_eq_getElem?_getD, List.getElem?_append_right (by rw [ba_len]; omega), ba_len, Nat.add_sub_cancel_left]
theorem sb_extract (s : ByteArray) (p q i : Nat) (h : i < q - p) : sb (s.extract p q) i = sb s (p + i) := by
 unfold sb
 rw [ba_ext, List.getD_eq_getElem?_getD, List.getD_eq_getElem?_getD, List.getElem?_take_of_lt h, List.getElem?_drop]
theorem mkS_list (T : Nat → Nat) (n : Nat) : (mkS T n).data.toList = (List.range n).map fun i => UInt8.ofNat (T i) := by simp [mkS]
theorem mkS_len (T : Nat → Nat) (n : Nat) : (mkS T n).size = n := by rw [← ba_len, mkS_list]; simp
theorem mkS_sb {T : Nat → Nat} {n i : Nat} (h : i < n) (ht : T i < 256) : sb (mkS T n) i = T i := by
 unfold sb
 rw [mkS_list, List.getD_eq_getElem?_getD, List.getElem?_map, List.getElem?_range h]
 simp
 omega
theorem sb_eq {a b : ByteArray} (hs : a.size = b.size) (h : ∀ i, i < a.size → sb a i = sb b i) : a = b := by
 apply ba_eq
 apply List.ext_getElem?
 intro i
 by_cases hi : i < a.size
 ·have := h i hi
  unfold sb at this
  rw [List.getD_eq_getElem?_getD, List.getD_eq_getElem?_getD] at this
  have h1 : i < a.data.toList.length := by rw [ba_len]; exact hi
  have h2 : i < b.data.toList.length := by rw [ba_len, ← hs]; exact hi
  rw [List.getElem?_eq_getElem h1, List.getElem?_eq_getElem h2] at this ⊢
  simp only [Option.getD_some] at this
  rw [UInt8.toNat_inj.1 this]
 ·rw [List.getElem?_eq_none (by rw [ba_len]; omega), List.getElem?_eq_none (by rw [ba_len]; omega)]
/-- Four bytes of a number, the highest first. -/
def be4 (n : Nat) : ByteArray := mkS (fun i => n / 256 ^ (3 - i) % 256) 4
theorem be4_size (n : Nat) : (be4 n).size = 4 := mkS_len _ _
theorem be4_sb (n : Nat) {i : Nat} (h : i < 4) : sb (be4 n) i = n / 256 ^ (3 - i) % 256 := mkS_sb h (Nat.mod_lt _ (by decide))
/-- A text: its length, and it. -/
def txt (s : ByteArray) : ByteArray := be4 s.size ++ s
theorem txt_size (s : ByteArray) : (txt s).size = s.size + 4 := by unfold txt; rw [ByteArray.size_append, be4_size]; omega
/-- Texts, one behind the other. -/
def txs : List ByteArray → ByteArray
 | [] => ⟨#[]⟩
 | x :: l => txt x ++ txs l
theorem nil_app (s : ByteArray) : (⟨#[]⟩ : ByteArray) ++ s = s := ba_eq (by rw [ba_app]; rfl)
theorem app_nil (s : ByteArray) : s ++ (⟨#[]⟩ : ByteArray) = s := ba_eq (by rw [ba_app]; exact List.append_nil _)
theorem app_assoc (a b c : ByteArray) : (a ++ b) ++ c = a ++ (b ++ c) := ba_eq (by simp only [ba_app, List.append_assoc])
theorem txs_app (l m : List ByteArray) : txs (l ++ m) = txs l ++ txs m := by
 induction l with
 | nil => exact (nil_app _).symm
 | cons x l ih =>
  show txt x ++ txs (l ++ m) = (txt x ++ txs l) ++ txs m
  rw [ih, app_assoc]
theorem txs_snoc (l : List ByteArray) (x : ByteArray) : txs (l ++ [x]) = txs l ++ txt x := by
 rw [txs_app]
 show _ ++ (txt x ++ ⟨#[]⟩) = _
 rw [app_nil]
/-- The number in four bytes, the highest first. -/
def num4 (s : ByteArray) (p : Nat) : Nat := sb s p * 16777216 + sb s (p + 1) * 65536 + sb s (p + 2) * 256 + sb s (p + 3)
theorem num4_lt (s : ByteArray) (p : Nat) : num4 s p < 4294967296 := by
 have h0 := sb_lt s p; have h1 := sb_lt s (p + 1); have h2 := sb_lt s (p + 2); have h3 := sb_lt s (p + 3)
 unfold num4; omega
/-- The texts of bytes from p on, f at most. -/
def rdF (s : ByteArray) : Nat → Nat → Option (List ByteArray)
 | 0, _ => some []
 | f + 1, p => if s.size ≤ p then some [] else if s.size - p < 4 then none else if s.size - (p + 4) < num4 s p then none else (rdF s f (p + 4 + num4 s p)).map (s.extract (p + 4) (p + 4 + num4 s p) :: ·)
theorem rdF_more (s : ByteArray) : ∀ (f g p : Nat), s.size - p ≤ f → s.size - p ≤ g → rdF s f p = rdF s g p
 | 0, 0, _, _, _ => rfl
 | 0, g + 1, p, h, _ => by unfold rdF; rw [if_pos (by omega)]
 | f + 1, 0, p, _, h => by unfold rdF; rw [if_pos (by omega)]
 | f + 1, g + 1, p, h, k => by
  unfold rdF
  by_cases h0 : s.size ≤ p
  ·rw [if_pos h0, if_pos h0]
  ·rw [if_neg h0, if_neg h0, rdF_more s f g (p + 4 + num4 s p) (by omega) (by omega)]
/-- The texts of bytes from p on. -/
def rd (s : ByteArray) (p : Nat) : Option (List ByteArray) := rdF s (s.size - p) p
theorem rd_end {s : ByteArray} {p : Nat} (h : s.size ≤ p) : rd s p = some [] := by unfold rd; rw [show s.size - p = 0 from by omega]; rfl
theorem rd_step {s : ByteArray} {p : Nat} (h : p < s.size) : rd s p = if s.size - p < 4 then none else if s.size - (p + 4) < num4 s p then none else (rd s (p + 4 + num4 s p)).map (s.extract (p + 4) (p + 4 + num4 s p) :: ·) := by
 unfold rd
 rw [show s.size - p = (s.size - p - 1) + 1 from by omega]
 show (if s.size ≤ p then _ else _) = _
 rw [if_neg (by omega), rdF_more s (s.size - p - 1) (s.size - (p + 4 + num4 s p)) (p + 4 + num4 s p) (by omega) (by omega)]
 rw [show s.size - p - 1 + 1 = s.size - p from by omega]
theorem rd_short {s : ByteArray} {p : Nat} (h : p < s.size) (h2 : s.size - p < 4) : rd s p = none := by rw [rd_step h, if_pos h2]
theorem rd_long {s : ByteArray} {p : Nat} (h : p < s.size) (h2 : ¬ s.size - p < 4) (h3 : s.size - (p + 4) < num4 s p) : rd s p = none := by rw [rd_step h, if_neg h2, if_pos h3]
theorem rd_one {s : ByteArray} {p : Nat} (h : p < s.size) (h2 : ¬ s.size - p < 4) (h3 : ¬ s.size - (p + 4) < num4 s p) : rd s p = (rd s (p + 4 + num4 s p)).map (s.extract (p + 4) (p + 4 + num4 s p) :: ·) := by
 rw [rd_step h, if_neg h2, if_neg h3]
theorem ext_mid (a b c : ByteArray) : ((a ++ b) ++ c).extract a.size (a.size + b.size) = b := by
 apply ba_eq
 rw [ba_ext, ba_app, ba_app, Nat.add_sub_cancel_left, List.append_assoc, ← ba_len a, List.drop_left, ← ba_len b, List.take_left]
theorem rd_txs : ∀ (l : List ByteArray) (a : ByteArray), (∀ x ∈ l, x.size < 4294967296) → rd (a ++ txs l) a.size = some l
 | [], a, _ => rd_end (by show (a ++ (⟨#[]⟩ : ByteArray)).size ≤ _; rw [app_nil]; exact Nat.le_refl _)
 | x :: l, a, h => by
  have hx := h x (List.mem_cons_self ..)
  obtain ⟨s, hs⟩ : ∃ s, a ++ txs (x :: l) = s := ⟨_, rfl⟩
  have e0 : s = a ++ (be4 x.size ++ (x ++ txs l)) := by rw [← hs]; show a ++ ((be4 x.size ++ x) ++ txs l) = _; rw [app_assoc]
  have hz : s.size = a.size + (4 + (x.size + (txs l).size)) := by rw [e0]; simp only [ByteArray.size_append, be4_size]
  have hb : ∀ i, i < 4 → sb s (a.size + i) = x.size / 256 ^ (3 - i) % 256 := fun i hi => by
   rw [e0, sb_right, sb_left _ _ (by rw [be4_size]; exact hi), be4_sb _ hi]
  have hn : num4 s a.size = x.size := by
   have b0 := hb 0 (by omega); have b1 := hb 1 (by omega); have b2 := hb 2 (by omega); have b3 := hb 3 (by omega)
   rw [Nat.add_zero] at b0
   unfold num4
   rw [b0, b1, b2, b3]
   show x.size / 16777216 % 256 * 16777216 + x.size / 65536 % 256 * 65536 + x.size / 256 % 256 * 256 + x.size / 1 % 256 = x.size
   omega
  rw [hs, rd_one (by omega) (by omega) (by rw [hn]; omega), hn]
  have e1 : s = ((a ++ be4 x.size) ++ x) ++ txs l := by rw [e0]; simp only [app_assoc]
  have z1 : a.size + 4 = (a ++ be4 x.size).size := by rw [ByteArray.size_append, be4_size]
  have z2 : (a ++ be4 x.size).size + x.size = ((a ++ be4 x.size) ++ x).size := (ByteArray.size_append (a := a ++ be4 x.size) (b := x)).symm
  rw [z1]
  have e2 : s.extract (a ++ be4 x.size).size ((a ++ be4 x.size).size + x.size) = x := by rw [e1]; exact ext_mid _ _ _
  rw [e2, z2, e1, rd_txs l _ (fun y hy => h y (List.mem_cons_of_mem _ hy))]
  rfl
theorem rd_back (l : List ByteArray) (h : ∀ x ∈ l, x.size < 4294967296) : rd (txs l) 0 = some l := by
 have := rd_txs l ⟨#[]⟩ h
 rw [nil_app] at this
 exact this
theorem be4_num4 (s : ByteArray) (p : Nat) (h : p + 4 ≤ s.size) : be4 (num4 s p) = s.extract p (p + 4) := by
 have hz : (s.extract p (p + 4)).size = 4 := by rw [ByteArray.size_extract]; omega
 refine sb_eq (by rw [be4_size, hz]) fun i hi => ?_
 rw [be4_size] at hi
 rw [be4_sb _ hi, sb_extract _ _ _ _ (by omega)]
 have h0 := sb_lt s p; have h1 := sb_lt s (p + 1); have h2 := sb_lt s (p + 2); have h3 := sb_lt s (p + 3)
 unfold num4
 generalize hb0 : sb s p = b0 at *
 have : i = 0 ∨ i = 1 ∨ i = 2 ∨ i = 3 := by omega
 rcases this with rfl | rfl | rfl | rfl
 ·show _ / 16777216 % 256 = sb s p
  rw [hb0]; omega
 ·show _ / 65536 % 256 = _; omega
 ·show _ / 256 % 256 = _; omega
 ·show _ / 1 % 256 = _; omega
/-- What is read are the texts whose bytes these are. -/
theorem txs_rd (s : ByteArray) : ∀ (k p : Nat) (l : List ByteArray), s.size - p ≤ k → p ≤ s.size → rd s p = some l → txs l = s.extract p s.size ∧ ∀ x ∈ l, x.size < 4294967296 := by
 intro k
 induction k with
 | zero =>
  intro p l hk hp h
  rw [rd_end (by omega)] at h
  cases h
  refine ⟨?_, by simp⟩
  apply ba_eq
  rw [ba_ext, show s.size - p = 0 from by omega]
  rfl
 | succ k ih =>
  intro p l hk hp h
  by_cases h0 : s.size ≤ p
  ·rw [rd_end h0] at h
   cases h
   refine ⟨?_, by simp⟩
   apply ba_eq
   rw [ba_ext, show s.size - p = 0 from by omega]
   rfl
  ·by_cases h1 : s.size - p < 4
   ·rw [rd_short (by omega) h1] at h; cases h
   ·by_cases h2 : s.size - (p + 4) < num4 s p
    ·rw [rd_long (by omega) h1 h2] at h; cases h
    ·rw [rd_one (by omega) h1 h2] at h
     cases hr : rd s (p + 4 + num4 s p) with
     | none => rw [hr] at h; cases h
     | some m =>
      rw [hr] at h
      cases h
      obtain ⟨i1, i2⟩ := ih (p + 4 + num4 s p) m (by omega) (by omega) hr
      have hz : (s.extract (p + 4) (p + 4 + num4 s p)).size = num4 s p := by rw [ByteArray.size_extract]; omega
      refine ⟨?_, fun x hx => ?_⟩
      ·show (be4 _ ++ _) ++ txs m = _
       rw [hz, be4_num4 s p (by omega), i1]
       apply ba_eq
       simp only [ba_app, ba_ext]
       have e1 : (p + 4 - p) = 4 := by omega
       have e2 : p + 4 + num4 s p - (p + 4) = num4 s p := by omega
       have hN : num4 s p ≤ s.size - (p + 4) := by omega
       rw [e1, e2]
       clear e1 e2 h2 hz hr i1 i2 ih
       generalize num4 s p = m' at *
       rw [show s.data.toList.drop (p + 4) = (s.data.toList.drop p).drop 4 from by rw [List.drop_drop], show s.data.toList.drop (p + 4 + m') = ((s.data.toList.drop p).drop 4).drop m' from by rw [List.drop_drop, List.drop_drop]; congr 1; omega]
       generalize hL : s.data.toList.drop p = L
       have hlen : L.length = s.size - p := by rw [← hL, List.length_drop, ba_len]
       have t1 : List.take (s.size - p) L = L := List.take_of_length_le (by omega)
       have t2 : List.take (s.size - (p + 4 + m')) ((L.drop 4).drop m') = (L.drop 4).drop m' := List.take_of_length_le (by simp; omega)
       rw [t1, t2, List.append_assoc, List.take_append_drop, List.take_append_drop]
      ·rcases List.mem_cons.1 hx with rfl | hx
       ·rw [hz]; exact num4_lt _ _
       ·exact i2 x hx
theorem rd_only {s : ByteArray} {l : List ByteArray} (h : rd s 0 = some l) : txs l = s := by
 rw [(txs_rd s _ 0 l (Nat.le_refl _) (Nat.zero_le _) h).1]
 apply ba_eq
 rw [ba_ext, Nat.sub_zero, List.drop_zero, List.take_of_length_le (by rw [ba_len]; exact Nat.le_refl _)]
theorem rd_sizes {s : ByteArray} {l : List ByteArray} (h : rd s 0 = some l) : ∀ x ∈ l, x.size < 4294967296 := (txs_rd s _ 0 l (Nat.le_refl _) (Nat.zero_le _) h).2
/-- A byte. -/
def oneB (n : Int) : ByteArray := mkS (fun _ => (n % 256).toNat) 1
theorem oneB_size (n : Int) : (oneB n).size = 1 := mkS_len _ _
theorem oneB_sb {n : Int} (h0 : 0 ≤ n) (h1 : n < 256) : (sb (oneB n) 0 : Int) = n := by
 unfold oneB
 rw [mkS_sb (by decide) (by omega)]
 omega
theorem oneB_back {a : ByteArray} (h : a.size = 1) : oneB (sb a 0) = a := by
 refine sb_eq (by rw [oneB_size, h]) fun i hi => ?_
 rw [oneB_size] at hi
 obtain rfl : i = 0 := by omega
 have := sb_lt a 0
 have := oneB_sb (n := (sb a 0 : Int)) (by omega) (by omega)
 omega
/-- May a command be? -/
def cmdOk (k e : Int) (nm bd : ByteArray) : Bool := decide (0 ≤ e ∧ e ≤ 63 ∧ ((k = 1 ∧ nm.size = 0 ∧ bd.size = 33) ∨ (k = 2 ∧ nm.size ≠ 0 ∧ nm.size ≤ 16 ∧ bd.size ≤ 4096) ∨ (k = 3 ∧ nm.size = 0 ∧ bd.size = 0)))
/-- A command's bytes. -/
def cmdB (k e : Int) (nm bd : ByteArray) : ByteArray := txs [oneB k, oneB e, nm, bd]
/-- The command of bytes. -/
def rdC (s : ByteArray) : Option (Int × Int × ByteArray × ByteArray) :=
 match rd s 0 with
 | some [a, b, c, d] => if a.size = 1 ∧ b.size = 1 ∧ cmdOk (sb a 0) (sb b 0) c d = true then some ((sb a 0 : Int), (sb b 0 : Int), c, d) else none
 | _ => none
theorem rdC_of {s a b c d : ByteArray} (h : rd s 0 = some [a, b, c, d]) (ha : a.size = 1) (hb : b.size = 1) (hc : cmdOk (sb a 0) (sb b 0) c d = true) : rdC s = some ((sb a 0 : Int), (sb b 0 : Int), c, d) := by
 unfold rdC
 rw [h]
 exact if_pos ⟨ha, hb, hc⟩
theorem cmd_back {k e : Int} {nm bd : ByteArray} (h : cmdOk k e nm bd = true) : rdC (cmdB k e nm bd) = some (k, e, nm, bd) := by
 have h' := of_decide_eq_true h
 have hk : 0 ≤ k ∧ k < 256 := by omega
 have hsz : ∀ x ∈ [oneB k, oneB e, nm, bd], x.size < 4294967296 := by
  intro x hx
  simp at hx
  rcases hx with rfl | rfl | rfl | rfl
  ·rw [oneB_size]; decide
  ·rw [oneB_size]; decide
  ·omega
  ·omega
 have e1 := oneB_sb hk.1 hk.2
 have e2 := oneB_sb (n := e) (by omega) (by omega)
 have h3 := rd_back _ hsz
 have := rdC_of h3 (oneB_size k) (oneB_size e) (by rw [e1, e2]; exact h)
 rw [e1, e2] at this
 exact this
theorem cmd_only {s : ByteArray} {k e : Int} {nm bd : ByteArray} (h : rdC s = some (k, e, nm, bd)) : cmdOk k e nm bd = true ∧ cmdB k e nm bd = s := by
 unfold rdC at h
 split at h
 ·rename_i a b c d hr
  split at h
  ·rename_i hc
   cases h
   refine ⟨hc.2.2, ?_⟩
   unfold cmdB
   rw [oneB_back hc.1, oneB_back hc.2.1]
   exact rd_only hr
  ·cases h
 ·cases h
/-- May a word be? -/
def wrdOk (k f r v : Int) (x : ByteArray) : Bool := decide (1 ≤ f ∧ f ≤ 7 ∧ 0 ≤ r ∧ r < 64 ∧ x.size ≤ 4096 ∧ ((k = 1 ∧ -1 ≤ v ∧ v < r ∧ x.size ≠ 0) ∨ ((k = 2 ∨ k = 3) ∧ v = 0)))
/-- A word's bytes. -/
def wrdB (k f r v : Int) (x : ByteArray) : ByteArray := txs [oneB k, oneB f, oneB r, oneB (v + 1), x]
/-- The word of bytes. -/
def rdW (s : ByteArray) : Option (Int × Int × Int × Int × ByteArray) :=
 match rd s 0 with
 | some [a, b, c, d, x] => if a.size = 1 ∧ b.size = 1 ∧ c.size = 1 ∧ d.size = 1 ∧ wrdOk (sb a 0) (sb b 0) (sb c 0) ((sb d 0 : Int) - 1) x = true then some ((sb a 0 : Int), (sb b 0 : Int), (sb c 0 : Int), (sb d 0 : Int) - 1, x) else none
 | _ => none
theorem rdW_of {s a b c d x : ByteArray} (h : rd s 0 = some [a, b, c, d, x]) (ha : a.size = 1) (hb : b.size = 1) (hc : c.size = 1) (hd : d.size = 1) (ho : wrdOk (sb a 0) (sb b 0) (sb c 0) ((sb d 0 : Int) - 1) x = true) : rdW s = some ((sb a 0 : Int), (sb b 0 : Int), (sb c 0 : Int), (sb d 0 : Int) - 1, x) := by
 unfold rdW
 rw [h]
 exact if_pos ⟨ha, hb, hc, hd, ho⟩
theorem wrd_back {k f r v : Int} {x : ByteArray} (h : wrdOk k f r v x = true) : rdW (wrdB k f r v x) = some (k, f, r, v, x) := by
 have h' := of_decide_eq_true h
 have hsz : ∀ y ∈ [oneB k, oneB f, oneB r, oneB (v + 1), x], y.size < 4294967296 := by
  intro y hy
  simp at hy
  rcases hy with rfl | rfl | rfl | rfl | rfl
  ·rw [oneB_size]; decide
  ·rw [oneB_size]; decide
  ·rw [oneB_size]; decide
  ·rw [oneB_size]; decide
  ·omega
 have e1 := oneB_sb (n := k) (by omega) (by omega)
 have e2 := oneB_sb (n := f) (by omega) (by omega)
 have e3 := oneB_sb (n := r) (by omega) (by omega)
 have e4 := oneB_sb (n := v + 1) (by omega) (by omega)
 have h3 := rd_back _ hsz
 have := rdW_of h3 (oneB_size k) (oneB_size f) (oneB_size r) (oneB_size (v + 1)) (by rw [e1, e2, e3, e4, Int.add_sub_cancel]; exact h)
 rw [e1, e2, e3, e4, Int.add_sub_cancel] at this
 exact this
theorem wrd_only {s : ByteArray} {k f r v : Int} {x : ByteArray} (h : rdW s = some (k, f, r, v, x)) : wrdOk k f r v x = true ∧ wrdB k f r v x = s := by
 unfold rdW at h
 split at h
 ·rename_i a b c d y hr
  split at h
  ·rename_i hc
   cases h
   refine ⟨hc.2.2.2.2, ?_⟩
   unfold wrdB
   rw [Int.sub_add_cancel, oneB_back hc.1, oneB_back hc.2.1, oneB_back hc.2.2.1, oneB_back hc.2.2.2.1]
   exact rd_only hr
  ·cases h
 ·cases h
end Go.Proofs.Ytmanacbdldfmfaa
