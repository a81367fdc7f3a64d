/-
  sha.block, called: the i-th block of a text and of what follows it; nothing old is turned.
-/
import Derived.Test.YtpfeakdpckmcgaaDoorShaF
namespace Go.Proofs.YtpfeakdpckmcgaaDoor
set_option maxRecDepth 10000
open Go.RowKit
/-- The state of block's run: the answer in block n, the bytes in n + 1. -/
def BS (w wr : World) (n : Nat) (T : Nat → Nat) : Prop := RowH wr n 89 .u8 64 (fun _ => 0) ∧ RowH wr (n + 1) 89 .u8 64 T ∧ Ext w wr ∧ w.heap.size ≤ n
theorem BS.ext {w wr wy : World} {n : Nat} {T : Nat → Nat} (h : BS w wr n T) (hx : Ext wr wy) : BS w wy n T := ⟨h.1.ext hx, h.2.1.ext hx, h.2.2.1.trans hx, h.2.2.2⟩
theorem BS.put {w wr : World} {n : Nat} {T : Nat → Nat} (h : BS w wr n T) (o v : Nat) : BS w (wr.setCell ⟨n + 1, o, none⟩ (.int .u8 (v : Int))) n (put T o v) :=
  ⟨h.1.other (by omega) ⟨_, _, _, h.2.1⟩, h.2.1.set o v, Ext.st (by have := h.2.2.2; omega) h.2.2.1, h.2.2.2⟩
theorem BS.row {w wr : World} {n : Nat} {T : Nat → Nat} (h : BS w wr n T) (S : Nat → Nat) : BS w (wr.setRow (n + 1) (lst .u8 S 64).toArray) n S :=
  ⟨(setRow_other wr (n + 1) n _ (by omega)).trans h.1, h.2.1.row S, h.2.2.1.row (by have := h.2.2.2; omega) _, h.2.2.2⟩
theorem BS.new (w : World) : BS w ((w.alloc (.cells (Array.replicate 64 (.int .u8 0)) 89)).alloc (.cells (Array.replicate 64 (.int .u8 0)) 89)) w.heap.size (fun _ => 0) := by
  have h1 := RowH.new w .u8 64 89
  have h2 := RowH.new (w.alloc (.cells (Array.replicate 64 (.int .u8 0)) 89)) .u8 64 89
  have s1 : (w.alloc (.cells (Array.replicate 64 (.int .u8 0)) 89)).heap.size = w.heap.size + 1 := by simp
  rw [s1] at h2
  exact ⟨h1.ext ((Ext.refl _).alloc _), h2, (((Ext.refl _).alloc _).alloc _), Nat.le_refl _⟩
theorem Tryd.size5 : (Tryd.prog.info? 5).map (·.size) = some 1 := by kernel_rfl
theorem sb_extract (s : ByteArray) {m j : Nat} (h : m + j < s.size) : sb (s.extract m s.size) j = sb s (m + j) := by
  unfold sb
  congr 1
  rw [List.getD_eq_getElem?_getD, List.getD_eq_getElem?_getD]
  congr 1
  rw [ByteArray.data_extract, Array.getElem?_toList, Array.getElem?_toList, Array.getElem?_extract, if_pos (by rw [ByteArray.size_data]; omega)]
/-- The bytes of a block as copied: the text's, then 0s. -/
def cpB (s : ByteArray) (f : Nat) : Nat → Nat := fun j => if f + j < s.size then sb s (f + j) else 0
theorem cp_text (s : ByteArray) {m f : Nat} (h : m = f) : (fun j => if j < (s.extract m s.size).size then sb (s.extract m s.size) j else (fun _ => 0) j) = cpB s f := by
  funext j
  unfold cpB
  rw [ByteArray.size_extract]
  subst h
  by_cases hj : m + j < s.size
  · rw [if_pos (by omega), if_pos hj, sb_extract s hj]
  · rw [if_neg (by omega), if_neg hj]
theorem cp_none (s : ByteArray) {f : Nat} (h : s.size < f) : (fun j => if j < ByteArray.empty.size then sb ByteArray.empty j else (fun _ => 0) j) = cpB s f := by
  funext j
  unfold cpB
  rw [if_neg (by simp), if_neg (by omega)]
/-- Byte j of the length, in the last block. -/
def lenB (s : ByteArray) (j : Nat) : Nat := s.size * 8 / 256 ^ (63 - j) % 256
def lenT (s : ByteArray) (T : Nat → Nat) (k : Nat) : Nat → Nat := fun j => if 64 ≤ j + k then lenB s j else T j
theorem lenT_zero (s : ByteArray) (T : Nat → Nat) {j : Nat} (h : j < 64) : lenT s T 0 j = T j := if_neg (by omega)
theorem lenT_step (s : ByteArray) (T : Nat → Nat) {k p : Nat} (hk : k < 8) (hp : 63 - k = p) {v : Nat} (hv : lenB s p = v) {j : Nat} (_hj : j < 64) : put (lenT s T k) p v j = lenT s T (k + 1) j := by
  unfold put lenT
  by_cases e : j = p
  · rw [if_pos e, if_pos (by omega), e, hv]
  · rw [if_neg e]
    by_cases h : 64 ≤ j + k
    · rw [if_pos h, if_pos (by omega)]
    · rw [if_neg h, if_neg (by omega)]
theorem RowH.congr {w : World} {b n : Nat} {ty : TypeId} {kd : IntKind} {T S : Nat → Nat} (h : RowH w b ty kd n T) (e : ∀ j, j < n → T j = S j) : RowH w b ty kd n S := by
  unfold RowH
  rw [← lst_congr e]
  exact h
theorem BS.congr {w wr : World} {n : Nat} {T S : Nat → Nat} (h : BS w wr n T) (e : ∀ j, j < 64 → T j = S j) : BS w wr n S := ⟨h.1, h.2.1.congr e, h.2.2.1, h.2.2.2⟩
theorem pb_at (s : ByteArray) (x : Nat) : pb s x = if x < s.size then sb s x else if x = s.size then 128 else if x < 64 * nblk s.size - 8 then 0 else s.size * 8 / 256 ^ (64 * nblk s.size - 1 - x) % 256 := rfl
/-- The last block, its text having ended ahead of it. -/
theorem end_a (s : ByteArray) {i : Nat} (h1 : s.size < 64 * i) (h2 : i + 1 = nblk s.size) {j : Nat} (hj : j < 64) : lenT s (cpB s (64 * i)) 8 j = pb s (64 * i + j) := by
  rw [pb_at, if_neg (by omega), if_neg (by omega), ← h2]
  unfold lenT cpB lenB
  by_cases h : 56 ≤ j
  · rw [if_pos (by omega), if_neg (by omega), show 64 * (i + 1) - 1 - (64 * i + j) = 63 - j from by omega]
  · rw [if_neg (by omega), if_neg (by omega), if_pos (by omega)]
/-- The last block, with the text's end in it. -/
theorem end_b (s : ByteArray) {i e : Nat} (h1 : 64 * i + e = s.size) (h2 : i + 1 = nblk s.size) {j : Nat} (hj : j < 64) : lenT s (put (cpB s (64 * i)) e 128) 8 j = pb s (64 * i + j) := by
  have h3 : e < 56 := by unfold nblk at h2; omega
  rw [pb_at, ← h2]
  unfold lenT put cpB lenB
  by_cases h : 56 ≤ j
  · rw [if_pos (by omega), if_neg (by omega), if_neg (by omega), if_neg (by omega), show 64 * (i + 1) - 1 - (64 * i + j) = 63 - j from by omega]
  · rw [if_neg (by omega)]
    by_cases h4 : j = e
    · rw [if_pos h4, if_neg (by omega), if_pos (by omega)]
    · rw [if_neg h4]
      by_cases h5 : 64 * i + j < s.size
      · rw [if_pos h5, if_pos h5]
      · rw [if_neg h5, if_neg h5, if_neg (by omega), if_pos (by omega)]
/-- A block with the text's end in it, not the last. -/
theorem end_c (s : ByteArray) {i e : Nat} (h1 : 64 * i + e = s.size) (h2 : i + 1 < nblk s.size) {j : Nat} (hj : j < 64) : put (cpB s (64 * i)) e 128 j = pb s (64 * i + j) := by
  rw [pb_at]
  unfold put cpB
  by_cases h4 : j = e
  · rw [if_pos h4, if_neg (by omega), if_pos (by omega)]
  · rw [if_neg h4]
    by_cases h5 : 64 * i + j < s.size
    · rw [if_pos h5, if_pos h5]
    · rw [if_neg h5, if_neg h5, if_neg (by omega), if_pos (by omega)]
/-- A block full of text. -/
theorem end_d (s : ByteArray) {i : Nat} (h1 : 64 * i + 64 ≤ s.size) {j : Nat} (hj : j < 64) : cpB s (64 * i) j = pb s (64 * i + j) := by
  rw [pb_at, if_pos (by omega)]
  unfold cpB
  rw [if_pos (by omega)]
theorem byte_sh (M e : Nat) : (M : Int) / 2 ^ e % 256 = ((M / 2 ^ e % 256 : Nat) : Int) := by
  rw [show (2 : Int) ^ e = ((2 ^ e : Nat) : Int) from (Int.natCast_pow 2 e).symm]
  generalize (2 : Nat) ^ e = p
  rw [← Int.natCast_ediv]
  omega
theorem pow_256b (k : Nat) : 256 ^ k = 2 ^ (8 * k) := by rw [Nat.pow_mul]
set_option maxRecDepth 100000 in
set_option maxHeartbeats 2000000 in
theorem block_a (s : ByteArray) (i : Nat) (hs : s.size ≤ 5000) (h1 : s.size < 64 * i) (h2 : i + 1 = nblk s.size) (w : World) :
    Calls Tryd.prog 60 #[.string s, .int .i64 i] w fun e w' => e = .returned (.agg (lst .u8 (fun j => pb s (64 * i + j)) 64).toArray) ∧ Ext w w' := by
  obtain ⟨FT, HFT⟩ : ∃ FT : Nat → Nat, Hid (FT = fun j => pb s (64 * i + j)) := ⟨_, rfl⟩
  rw [← HFT.out]
  have HS0 : Hid (BS w ((w.alloc (.cells #[.int .u8 0, .int .u8 0, .int .u8 0, .int .u8 0, .int .u8 0, .int .u8 0, .int .u8 0, .int .u8 0, .int .u8 0, .int .u8 0, .int .u8 0, .int .u8 0, .int .u8 0, .int .u8 0, .int .u8 0, .int .u8 0, .int .u8 0, .int .u8 0, .int .u8 0, .int .u8 0, .int .u8 0, .int .u8 0, .int .u8 0, .int .u8 0, .int .u8 0, .int .u8 0, .int .u8 0, .int .u8 0, .int .u8 0, .int .u8 0, .int .u8 0, .int .u8 0, .int .u8 0, .int .u8 0, .int .u8 0, .int .u8 0, .int .u8 0, .int .u8 0, .int .u8 0, .int .u8 0, .int .u8 0, .int .u8 0, .int .u8 0, .int .u8 0, .int .u8 0, .int .u8 0, .int .u8 0, .int .u8 0, .int .u8 0, .int .u8 0, .int .u8 0, .int .u8 0, .int .u8 0, .int .u8 0, .int .u8 0, .int .u8 0, .int .u8 0, .int .u8 0, .int .u8 0, .int .u8 0, .int .u8 0, .int .u8 0, .int .u8 0, .int .u8 0] 89)).alloc (.cells #[.int .u8 0, .int .u8 0, .int .u8 0, .int .u8 0, .int .u8 0, .int .u8 0, .int .u8 0, .int .u8 0, .int .u8 0, .int .u8 0, .int .u8 0, .int .u8 0, .int .u8 0, .int .u8 0, .int .u8 0, .int .u8 0, .int .u8 0, .int .u8 0, .int .u8 0, .int .u8 0, .int .u8 0, .int .u8 0, .int .u8 0, .int .u8 0, .int .u8 0, .int .u8 0, .int .u8 0, .int .u8 0, .int .u8 0, .int .u8 0, .int .u8 0, .int .u8 0, .int .u8 0, .int .u8 0, .int .u8 0, .int .u8 0, .int .u8 0, .int .u8 0, .int .u8 0, .int .u8 0, .int .u8 0, .int .u8 0, .int .u8 0, .int .u8 0, .int .u8 0, .int .u8 0, .int .u8 0, .int .u8 0, .int .u8 0, .int .u8 0, .int .u8 0, .int .u8 0, .int .u8 0, .int .u8 0, .int .u8 0, .int .u8 0, .int .u8 0, .int .u8 0, .int .u8 0, .int .u8 0, .int .u8 0, .int .u8 0, .int .u8 0, .int .u8 0] 89)) w.heap.size (fun _ => 0)) := BS.new w
  have hi : i < nblk s.size := by omega
  have hi80 : i < 80 := by unfold nblk at hi; omega
  obtain ⟨f, hf⟩ : ∃ f, 64 * i = f := ⟨_, rfl⟩
  have hm : IntKind.i64.wrap ((i : Int) * 64) = (f : Int) := by rw [IntKind.wrap_i64]; omega
  have hmin : s.size < f := by omega
  have hmin2 : (s.size : Int) < (f : Int) := by omega
  obtain ⟨ev, hev⟩ : ∃ ev : Int, (s.size : Int) - (f : Int) = ev := ⟨_, rfl⟩
  have hev1 : IntKind.i64.wrap ((s.size : Int) - (f : Int)) = ev := by rw [IntKind.wrap_i64]; omega
  have hev2 : ¬ (0 : Int) ≤ ev := by omega
  clear hev
  obtain ⟨nb, HNB⟩ : ∃ nb, Hid (nblk s.size = nb) := ⟨_, rfl⟩
  have hnb : blkI (s.size : Int) = (nb : Int) := by rw [← HNB.out]; unfold blkI nblk; rw [if_neg (by omega)]; omega
  have hl : IntKind.i64.wrap ((nb : Int) - 1) = (i : Int) := by rw [← HNB.out, IntKind.wrap_i64]; omega
  obtain ⟨M, HM⟩ : ∃ M, Hid (s.size * 8 = M) := ⟨_, rfl⟩
  have hM0 : IntKind.u64.wrap (s.size : Int) = (s.size : Int) := by rw [IntKind.wrap_u64]; omega
  have hM : IntKind.u64.wrap ((s.size : Int) * 8) = (M : Int) := by have := HM.out; rw [IntKind.wrap_u64]; omega
  have HHf : Hid (64 * i = f) := hf
  clear hf hi
  go_enter Tryd.func60, Tryd.ntmps60
  go_wp2_with fail
  generalize ((w.alloc (.cells #[.int .u8 0, .int .u8 0, .int .u8 0, .int .u8 0, .int .u8 0, .int .u8 0, .int .u8 0, .int .u8 0, .int .u8 0, .int .u8 0, .int .u8 0, .int .u8 0, .int .u8 0, .int .u8 0, .int .u8 0, .int .u8 0, .int .u8 0, .int .u8 0, .int .u8 0, .int .u8 0, .int .u8 0, .int .u8 0, .int .u8 0, .int .u8 0, .int .u8 0, .int .u8 0, .int .u8 0, .int .u8 0, .int .u8 0, .int .u8 0, .int .u8 0, .int .u8 0, .int .u8 0, .int .u8 0, .int .u8 0, .int .u8 0, .int .u8 0, .int .u8 0, .int .u8 0, .int .u8 0, .int .u8 0, .int .u8 0, .int .u8 0, .int .u8 0, .int .u8 0, .int .u8 0, .int .u8 0, .int .u8 0, .int .u8 0, .int .u8 0, .int .u8 0, .int .u8 0, .int .u8 0, .int .u8 0, .int .u8 0, .int .u8 0, .int .u8 0, .int .u8 0, .int .u8 0, .int .u8 0, .int .u8 0, .int .u8 0, .int .u8 0, .int .u8 0] 89)).alloc (.cells #[.int .u8 0, .int .u8 0, .int .u8 0, .int .u8 0, .int .u8 0, .int .u8 0, .int .u8 0, .int .u8 0, .int .u8 0, .int .u8 0, .int .u8 0, .int .u8 0, .int .u8 0, .int .u8 0, .int .u8 0, .int .u8 0, .int .u8 0, .int .u8 0, .int .u8 0, .int .u8 0, .int .u8 0, .int .u8 0, .int .u8 0, .int .u8 0, .int .u8 0, .int .u8 0, .int .u8 0, .int .u8 0, .int .u8 0, .int .u8 0, .int .u8 0, .int .u8 0, .int .u8 0, .int .u8 0, .int .u8 0, .int .u8 0, .int .u8 0, .int .u8 0, .int .u8 0, .int .u8 0, .int .u8 0, .int .u8 0, .int .u8 0, .int .u8 0, .int .u8 0, .int .u8 0, .int .u8 0, .int .u8 0, .int .u8 0, .int .u8 0, .int .u8 0, .int .u8 0, .int .u8 0, .int .u8 0, .int .u8 0, .int .u8 0, .int .u8 0, .int .u8 0, .int .u8 0, .int .u8 0, .int .u8 0, .int .u8 0, .int .u8 0, .int .u8 0] 89)) = W0 at *
  generalize w.heap.size = n at *
  have hcp := run_copy_text (P := Tryd.prog) W0.drew 62 9 3 5 89 (n + 1) 64 64 ByteArray.empty (fun _ => 0) Tryd.underlying62 Tryd.size5 (HS0.out.2.1.ext (Ext.drew (Ext.refl _)))
  rw [cp_none s hmin] at hcp
  have HS1 : Hid (BS w (W0.drew.setRow (n + 1) (lst .u8 (cpB s f) 64).toArray) n (cpB s f)) := (HS0.out.ext (Ext.drew (Ext.refl _))).row (cpB s f)
  generalize W0.drew.setRow (n + 1) (lst .u8 (cpB s f) 64).toArray = W1 at *
  clear HS0
  go_region
  clear hcp
  have HS2 : Hid (BS w W1 n (cpB s f)) := HS1
  clear HS1
  go_wp2_with fail
  refine (blocks_eq _ (by omega) (by omega) _).mono ?_
  rintro er wx ⟨rfl, hwx⟩
  rw [hwx, hnb]
  clear hwx wx
  generalize W1 = W2 at *
  go_wp2
  go_loopw [42] (fun u42 wr => ∃ (k : Nat), k ≤ 8 ∧ u42 = .int .i64 k ∧ Hid (BS w wr n (lenT s (cpB s f) k))) (fun u42 _ => 8 - (intOf u42).toNat)
  case atStart => exact ⟨0, by omega, rfl, HS2.out.congr fun j hj => (lenT_zero s _ hj).symm⟩
  case round =>
    clear HS2
    obtain ⟨k, hk, rfl, HS⟩ := hrel
    by_cases hlt : k < 8
    · have h1 : (k : Int) < 8 := by omega
      have h0 : (0 : Int) ≤ (k : Int) := by omega
      obtain ⟨q, hq⟩ : ∃ q, 63 - k = q := ⟨_, rfl⟩
      have a1 : IntKind.i64.wrap (63 - (k : Int)) = (q : Int) := by rw [IntKind.wrap_i64]; omega
      have a2 : (0 : Int) ≤ (q : Int) := by omega
      have a3 : (q : Int) < 64 := by omega
      obtain ⟨e8, he8⟩ : ∃ e8, 8 * k = e8 := ⟨_, rfl⟩
      have a4 : IntKind.i64.wrap (8 * (k : Int)) = (e8 : Int) := by rw [IntKind.wrap_i64]; omega
      have a5 : (0 : Int) ≤ (e8 : Int) := by omega
      have a6 : e8 < 64 := by omega
      obtain ⟨bv, HBV⟩ : ∃ bv, Hid (lenB s q = bv) := ⟨_, rfl⟩
      have hval : (M : Int) / 2 ^ e8 % 256 = (bv : Int) := by
        rw [byte_sh, ← HBV.out]
        unfold lenB
        rw [HM.out, show 63 - q = k from by omega, pow_256b, he8]
      have hvalw : IntKind.u8.wrap ((M : Int) / 2 ^ e8) = (bv : Int) := by rw [IntKind.wrap_u8']; exact hval
      obtain ⟨gc, gf⟩ := HS.out.2.1.tab.2 q (by omega)
      have HS3 : Hid (BS w (wr.setCell ⟨n + 1, q, none⟩ (.int .u8 (bv : Int))) n (lenT s (cpB s f) (k + 1))) := (HS.out.put q bv).congr fun j hj => lenT_step s _ hlt hq HBV.out hj
      clear HS hq he8
      go_wp2
      go_roundw
      case rel => exact ⟨k + 1, hlt, by go_num, HS3⟩
      case measure => simp [intOf]; omega
    · have HT : Hid (k = 8) := (by omega : k = 8)
      have hnl : ¬ (k : Int) < 8 := by omega
      have HSX : Hid (BS w wr n FT) := HS.out.congr fun j hj => by
        rw [HT.out, HFT.out, ← HHf.out]
        exact end_a s h1 h2 hj
      have HR0 : RowH wr n 89 .u8 64 (fun _ => 0) := HSX.out.1
      have HR1 : RowH wr (n + 1) 89 .u8 64 FT := HSX.out.2.1
      have HE2 : Hid (Ext w (wr.setRow n (lst .u8 FT 64).toArray)) := HSX.out.2.2.1.row HSX.out.2.2.2 _
      go_wp2_with (first | (refine wpList_load_row rfl 89 _ rfl (n + 1) rfl 89 (lst .u8 FT 64).toArray (0, 0) _ HR1 Tryd.underlying89 rfl (by rw [Tryd.size89]; simp [lst_len]) ?_) | (refine wpList_store_row rfl 89 _ _ rfl n (lst .u8 FT 64).toArray rfl rfl 89 _ HR0 (by rw [Tryd.size89]; simp [lst_len]) (by simp [lst_len]) (lst_one _ _ _) ?_))
      refine bodyPost_ret (v := .agg (lst .u8 FT 64).toArray) ?_ rfl ⟨rfl, HE2.out⟩
      exact results_cell_row Tryd.results60 _ _ n 89 _ (0, 0) _ rfl (HR0.row FT) Tryd.underlying89 rfl (by rw [Tryd.size89]; simp [lst_len])
set_option maxRecDepth 100000 in
set_option maxHeartbeats 2000000 in
theorem block_b (s : ByteArray) (i : Nat) (hs : s.size ≤ 5000) (e : Nat) (h1 : 64 * i + e = s.size) (he : e < 64) (h2 : i + 1 = nblk s.size) (w : World) :
    Calls Tryd.prog 60 #[.string s, .int .i64 i] w fun e w' => e = .returned (.agg (lst .u8 (fun j => pb s (64 * i + j)) 64).toArray) ∧ Ext w w' := by
  obtain ⟨FT, HFT⟩ : ∃ FT : Nat → Nat, Hid (FT = fun j => pb s (64 * i + j)) := ⟨_, rfl⟩
  rw [← HFT.out]
  have HS0 : Hid (BS w ((w.alloc (.cells #[.int .u8 0, .int .u8 0, .int .u8 0, .int .u8 0, .int .u8 0, .int .u8 0, .int .u8 0, .int .u8 0, .int .u8 0, .int .u8 0, .int .u8 0, .int .u8 0, .int .u8 0, .int .u8 0, .int .u8 0, .int .u8 0, .int .u8 0, .int .u8 0, .int .u8 0, .int .u8 0, .int .u8 0, .int .u8 0, .int .u8 0, .int .u8 0, .int .u8 0, .int .u8 0, .int .u8 0, .int .u8 0, .int .u8 0, .int .u8 0, .int .u8 0, .int .u8 0, .int .u8 0, .int .u8 0, .int .u8 0, .int .u8 0, .int .u8 0, .int .u8 0, .int .u8 0, .int .u8 0, .int .u8 0, .int .u8 0, .int .u8 0, .int .u8 0, .int .u8 0, .int .u8 0, .int .u8 0, .int .u8 0, .int .u8 0, .int .u8 0, .int .u8 0, .int .u8 0, .int .u8 0, .int .u8 0, .int .u8 0, .int .u8 0, .int .u8 0, .int .u8 0, .int .u8 0, .int .u8 0, .int .u8 0, .int .u8 0, .int .u8 0, .int .u8 0] 89)).alloc (.cells #[.int .u8 0, .int .u8 0, .int .u8 0, .int .u8 0, .int .u8 0, .int .u8 0, .int .u8 0, .int .u8 0, .int .u8 0, .int .u8 0, .int .u8 0, .int .u8 0, .int .u8 0, .int .u8 0, .int .u8 0, .int .u8 0, .int .u8 0, .int .u8 0, .int .u8 0, .int .u8 0, .int .u8 0, .int .u8 0, .int .u8 0, .int .u8 0, .int .u8 0, .int .u8 0, .int .u8 0, .int .u8 0, .int .u8 0, .int .u8 0, .int .u8 0, .int .u8 0, .int .u8 0, .int .u8 0, .int .u8 0, .int .u8 0, .int .u8 0, .int .u8 0, .int .u8 0, .int .u8 0, .int .u8 0, .int .u8 0, .int .u8 0, .int .u8 0, .int .u8 0, .int .u8 0, .int .u8 0, .int .u8 0, .int .u8 0, .int .u8 0, .int .u8 0, .int .u8 0, .int .u8 0, .int .u8 0, .int .u8 0, .int .u8 0, .int .u8 0, .int .u8 0, .int .u8 0, .int .u8 0, .int .u8 0, .int .u8 0, .int .u8 0, .int .u8 0] 89)) w.heap.size (fun _ => 0)) := BS.new w
  have hi : i < nblk s.size := by omega
  have hi80 : i < 80 := by unfold nblk at hi; omega
  obtain ⟨f, hf⟩ : ∃ f, 64 * i = f := ⟨_, rfl⟩
  have hm : IntKind.i64.wrap ((i : Int) * 64) = (f : Int) := by rw [IntKind.wrap_i64]; omega
  have hmin : ¬ s.size < f := by omega
  have hmin2 : ¬ (s.size : Int) < (f : Int) := by omega
  have hmin3 : (f : Int) ≤ (s.size : Int) := by omega
  have hfe : f + e = s.size := by omega
  have he1 : IntKind.i64.wrap ((s.size : Int) - (f : Int)) = (e : Int) := by rw [IntKind.wrap_i64]; omega
  have he2 : (0 : Int) ≤ (e : Int) := by omega
  have he3 : (e : Int) < 64 := by omega
  obtain ⟨nb, HNB⟩ : ∃ nb, Hid (nblk s.size = nb) := ⟨_, rfl⟩
  have hnb : blkI (s.size : Int) = (nb : Int) := by rw [← HNB.out]; unfold blkI nblk; rw [if_neg (by omega)]; omega
  have hl : IntKind.i64.wrap ((nb : Int) - 1) = (i : Int) := by rw [← HNB.out, IntKind.wrap_i64]; omega
  obtain ⟨M, HM⟩ : ∃ M, Hid (s.size * 8 = M) := ⟨_, rfl⟩
  have hM0 : IntKind.u64.wrap (s.size : Int) = (s.size : Int) := by rw [IntKind.wrap_u64]; omega
  have hM : IntKind.u64.wrap ((s.size : Int) * 8) = (M : Int) := by have := HM.out; rw [IntKind.wrap_u64]; omega
  have HHf : Hid (64 * i = f) := hf
  clear hf hi
  go_enter Tryd.func60, Tryd.ntmps60
  go_wp2_with fail
  generalize ((w.alloc (.cells #[.int .u8 0, .int .u8 0, .int .u8 0, .int .u8 0, .int .u8 0, .int .u8 0, .int .u8 0, .int .u8 0, .int .u8 0, .int .u8 0, .int .u8 0, .int .u8 0, .int .u8 0, .int .u8 0, .int .u8 0, .int .u8 0, .int .u8 0, .int .u8 0, .int .u8 0, .int .u8 0, .int .u8 0, .int .u8 0, .int .u8 0, .int .u8 0, .int .u8 0, .int .u8 0, .int .u8 0, .int .u8 0, .int .u8 0, .int .u8 0, .int .u8 0, .int .u8 0, .int .u8 0, .int .u8 0, .int .u8 0, .int .u8 0, .int .u8 0, .int .u8 0, .int .u8 0, .int .u8 0, .int .u8 0, .int .u8 0, .int .u8 0, .int .u8 0, .int .u8 0, .int .u8 0, .int .u8 0, .int .u8 0, .int .u8 0, .int .u8 0, .int .u8 0, .int .u8 0, .int .u8 0, .int .u8 0, .int .u8 0, .int .u8 0, .int .u8 0, .int .u8 0, .int .u8 0, .int .u8 0, .int .u8 0, .int .u8 0, .int .u8 0, .int .u8 0] 89)).alloc (.cells #[.int .u8 0, .int .u8 0, .int .u8 0, .int .u8 0, .int .u8 0, .int .u8 0, .int .u8 0, .int .u8 0, .int .u8 0, .int .u8 0, .int .u8 0, .int .u8 0, .int .u8 0, .int .u8 0, .int .u8 0, .int .u8 0, .int .u8 0, .int .u8 0, .int .u8 0, .int .u8 0, .int .u8 0, .int .u8 0, .int .u8 0, .int .u8 0, .int .u8 0, .int .u8 0, .int .u8 0, .int .u8 0, .int .u8 0, .int .u8 0, .int .u8 0, .int .u8 0, .int .u8 0, .int .u8 0, .int .u8 0, .int .u8 0, .int .u8 0, .int .u8 0, .int .u8 0, .int .u8 0, .int .u8 0, .int .u8 0, .int .u8 0, .int .u8 0, .int .u8 0, .int .u8 0, .int .u8 0, .int .u8 0, .int .u8 0, .int .u8 0, .int .u8 0, .int .u8 0, .int .u8 0, .int .u8 0, .int .u8 0, .int .u8 0, .int .u8 0, .int .u8 0, .int .u8 0, .int .u8 0, .int .u8 0, .int .u8 0, .int .u8 0, .int .u8 0] 89)) = W0 at *
  generalize w.heap.size = n at *
  have hcp := run_copy_text (P := Tryd.prog) W0.drew 62 9 3 5 89 (n + 1) 64 64 (s.extract f s.size) (fun _ => 0) Tryd.underlying62 Tryd.size5 (HS0.out.2.1.ext (Ext.drew (Ext.refl _)))
  rw [cp_text s (m := f) (f := f) rfl] at hcp
  have HS1 : Hid (BS w (W0.drew.setRow (n + 1) (lst .u8 (cpB s f) 64).toArray) n (cpB s f)) := (HS0.out.ext (Ext.drew (Ext.refl _))).row (cpB s f)
  generalize W0.drew.setRow (n + 1) (lst .u8 (cpB s f) 64).toArray = W1 at *
  clear HS0
  go_region
  clear hcp
  obtain ⟨gc, gf⟩ := HS1.out.2.1.tab.2 e (by omega)
  have HS2 : Hid (BS w (W1.setCell ⟨n + 1, e, none⟩ (.int .u8 128)) n (put (cpB s f) e 128)) := HS1.out.put e 128
  clear HS1
  go_wp2_with fail
  refine (blocks_eq _ (by omega) (by omega) _).mono ?_
  rintro er wx ⟨rfl, hwx⟩
  rw [hwx, hnb]
  clear hwx wx
  generalize W1.setCell ⟨n + 1, e, none⟩ (.int .u8 128) = W2 at *
  clear gc gf
  go_wp2
  go_loopw [42] (fun u42 wr => ∃ (k : Nat), k ≤ 8 ∧ u42 = .int .i64 k ∧ Hid (BS w wr n (lenT s (put (cpB s f) e 128) k))) (fun u42 _ => 8 - (intOf u42).toNat)
  case atStart => exact ⟨0, by omega, rfl, HS2.out.congr fun j hj => (lenT_zero s _ hj).symm⟩
  case round =>
    clear HS2
    obtain ⟨k, hk, rfl, HS⟩ := hrel
    by_cases hlt : k < 8
    · have h1 : (k : Int) < 8 := by omega
      have h0 : (0 : Int) ≤ (k : Int) := by omega
      obtain ⟨q, hq⟩ : ∃ q, 63 - k = q := ⟨_, rfl⟩
      have a1 : IntKind.i64.wrap (63 - (k : Int)) = (q : Int) := by rw [IntKind.wrap_i64]; omega
      have a2 : (0 : Int) ≤ (q : Int) := by omega
      have a3 : (q : Int) < 64 := by omega
      obtain ⟨e8, he8⟩ : ∃ e8, 8 * k = e8 := ⟨_, rfl⟩
      have a4 : IntKind.i64.wrap (8 * (k : Int)) = (e8 : Int) := by rw [IntKind.wrap_i64]; omega
      have a5 : (0 : Int) ≤ (e8 : Int) := by omega
      have a6 : e8 < 64 := by omega
      obtain ⟨bv, HBV⟩ : ∃ bv, Hid (lenB s q = bv) := ⟨_, rfl⟩
      have hval : (M : Int) / 2 ^ e8 % 256 = (bv : Int) := by
        rw [byte_sh, ← HBV.out]
        unfold lenB
        rw [HM.out, show 63 - q = k from by omega, pow_256b, he8]
      have hvalw : IntKind.u8.wrap ((M : Int) / 2 ^ e8) = (bv : Int) := by rw [IntKind.wrap_u8']; exact hval
      obtain ⟨gc, gf⟩ := HS.out.2.1.tab.2 q (by omega)
      have HS3 : Hid (BS w (wr.setCell ⟨n + 1, q, none⟩ (.int .u8 (bv : Int))) n (lenT s (put (cpB s f) e 128) (k + 1))) := (HS.out.put q bv).congr fun j hj => lenT_step s _ hlt hq HBV.out hj
      clear HS hq he8
      go_wp2
      go_roundw
      case rel => exact ⟨k + 1, hlt, by go_num, HS3⟩
      case measure => simp [intOf]; omega
    · have HT : Hid (k = 8) := (by omega : k = 8)
      have hnl : ¬ (k : Int) < 8 := by omega
      have HSX : Hid (BS w wr n FT) := HS.out.congr fun j hj => by
        rw [HT.out, HFT.out, ← HHf.out]
        exact end_b s h1 h2 hj
      have HR0 : RowH wr n 89 .u8 64 (fun _ => 0) := HSX.out.1
      have HR1 : RowH wr (n + 1) 89 .u8 64 FT := HSX.out.2.1
      have HE2 : Hid (Ext w (wr.setRow n (lst .u8 FT 64).toArray)) := HSX.out.2.2.1.row HSX.out.2.2.2 _
      go_wp2_with (first | (refine wpList_load_row rfl 89 _ rfl (n + 1) rfl 89 (lst .u8 FT 64).toArray (0, 0) _ HR1 Tryd.underlying89 rfl (by rw [Tryd.size89]; simp [lst_len]) ?_) | (refine wpList_store_row rfl 89 _ _ rfl n (lst .u8 FT 64).toArray rfl rfl 89 _ HR0 (by rw [Tryd.size89]; simp [lst_len]) (by simp [lst_len]) (lst_one _ _ _) ?_))
      refine bodyPost_ret (v := .agg (lst .u8 FT 64).toArray) ?_ rfl ⟨rfl, HE2.out⟩
      exact results_cell_row Tryd.results60 _ _ n 89 _ (0, 0) _ rfl (HR0.row FT) Tryd.underlying89 rfl (by rw [Tryd.size89]; simp [lst_len])
set_option maxRecDepth 100000 in
set_option maxHeartbeats 2000000 in
theorem block_c (s : ByteArray) (i : Nat) (hs : s.size ≤ 5000) (e : Nat) (h1 : 64 * i + e = s.size) (he : e < 64) (h2 : i + 1 < nblk s.size) (w : World) :
    Calls Tryd.prog 60 #[.string s, .int .i64 i] w fun e w' => e = .returned (.agg (lst .u8 (fun j => pb s (64 * i + j)) 64).toArray) ∧ Ext w w' := by
  obtain ⟨FT, HFT⟩ : ∃ FT : Nat → Nat, Hid (FT = fun j => pb s (64 * i + j)) := ⟨_, rfl⟩
  rw [← HFT.out]
  have HS0 : Hid (BS w ((w.alloc (.cells #[.int .u8 0, .int .u8 0, .int .u8 0, .int .u8 0, .int .u8 0, .int .u8 0, .int .u8 0, .int .u8 0, .int .u8 0, .int .u8 0, .int .u8 0, .int .u8 0, .int .u8 0, .int .u8 0, .int .u8 0, .int .u8 0, .int .u8 0, .int .u8 0, .int .u8 0, .int .u8 0, .int .u8 0, .int .u8 0, .int .u8 0, .int .u8 0, .int .u8 0, .int .u8 0, .int .u8 0, .int .u8 0, .int .u8 0, .int .u8 0, .int .u8 0, .int .u8 0, .int .u8 0, .int .u8 0, .int .u8 0, .int .u8 0, .int .u8 0, .int .u8 0, .int .u8 0, .int .u8 0, .int .u8 0, .int .u8 0, .int .u8 0, .int .u8 0, .int .u8 0, .int .u8 0, .int .u8 0, .int .u8 0, .int .u8 0, .int .u8 0, .int .u8 0, .int .u8 0, .int .u8 0, .int .u8 0, .int .u8 0, .int .u8 0, .int .u8 0, .int .u8 0, .int .u8 0, .int .u8 0, .int .u8 0, .int .u8 0, .int .u8 0, .int .u8 0] 89)).alloc (.cells #[.int .u8 0, .int .u8 0, .int .u8 0, .int .u8 0, .int .u8 0, .int .u8 0, .int .u8 0, .int .u8 0, .int .u8 0, .int .u8 0, .int .u8 0, .int .u8 0, .int .u8 0, .int .u8 0, .int .u8 0, .int .u8 0, .int .u8 0, .int .u8 0, .int .u8 0, .int .u8 0, .int .u8 0, .int .u8 0, .int .u8 0, .int .u8 0, .int .u8 0, .int .u8 0, .int .u8 0, .int .u8 0, .int .u8 0, .int .u8 0, .int .u8 0, .int .u8 0, .int .u8 0, .int .u8 0, .int .u8 0, .int .u8 0, .int .u8 0, .int .u8 0, .int .u8 0, .int .u8 0, .int .u8 0, .int .u8 0, .int .u8 0, .int .u8 0, .int .u8 0, .int .u8 0, .int .u8 0, .int .u8 0, .int .u8 0, .int .u8 0, .int .u8 0, .int .u8 0, .int .u8 0, .int .u8 0, .int .u8 0, .int .u8 0, .int .u8 0, .int .u8 0, .int .u8 0, .int .u8 0, .int .u8 0, .int .u8 0, .int .u8 0, .int .u8 0] 89)) w.heap.size (fun _ => 0)) := BS.new w
  have hi : i < nblk s.size := by omega
  have hi80 : i < 80 := by unfold nblk at hi; omega
  obtain ⟨f, hf⟩ : ∃ f, 64 * i = f := ⟨_, rfl⟩
  have hm : IntKind.i64.wrap ((i : Int) * 64) = (f : Int) := by rw [IntKind.wrap_i64]; omega
  have hmin : ¬ s.size < f := by omega
  have hmin2 : ¬ (s.size : Int) < (f : Int) := by omega
  have hmin3 : (f : Int) ≤ (s.size : Int) := by omega
  have hfe : f + e = s.size := by omega
  have he1 : IntKind.i64.wrap ((s.size : Int) - (f : Int)) = (e : Int) := by rw [IntKind.wrap_i64]; omega
  have he2 : (0 : Int) ≤ (e : Int) := by omega
  have he3 : (e : Int) < 64 := by omega
  obtain ⟨nb, HNB⟩ : ∃ nb, Hid (nblk s.size = nb) := ⟨_, rfl⟩
  have hnb : blkI (s.size : Int) = (nb : Int) := by rw [← HNB.out]; unfold blkI nblk; rw [if_neg (by omega)]; omega
  obtain ⟨l, hl0⟩ : ∃ l : Nat, nb - 1 = l := ⟨_, rfl⟩
  have hl : IntKind.i64.wrap ((nb : Int) - 1) = (l : Int) := by have := HNB.out; rw [IntKind.wrap_i64]; unfold nblk at *; omega
  have hne : i ≠ l := by have := HNB.out; unfold nblk at *; omega
  have hne2 : ¬ (i : Int) = (l : Int) := by omega
  have hbeq : ((i : Int) == (l : Int)) = false := by simpa using hne2
  clear hl0
  have HHf : Hid (64 * i = f) := hf
  clear hf hi
  go_enter Tryd.func60, Tryd.ntmps60
  go_wp2_with fail
  generalize ((w.alloc (.cells #[.int .u8 0, .int .u8 0, .int .u8 0, .int .u8 0, .int .u8 0, .int .u8 0, .int .u8 0, .int .u8 0, .int .u8 0, .int .u8 0, .int .u8 0, .int .u8 0, .int .u8 0, .int .u8 0, .int .u8 0, .int .u8 0, .int .u8 0, .int .u8 0, .int .u8 0, .int .u8 0, .int .u8 0, .int .u8 0, .int .u8 0, .int .u8 0, .int .u8 0, .int .u8 0, .int .u8 0, .int .u8 0, .int .u8 0, .int .u8 0, .int .u8 0, .int .u8 0, .int .u8 0, .int .u8 0, .int .u8 0, .int .u8 0, .int .u8 0, .int .u8 0, .int .u8 0, .int .u8 0, .int .u8 0, .int .u8 0, .int .u8 0, .int .u8 0, .int .u8 0, .int .u8 0, .int .u8 0, .int .u8 0, .int .u8 0, .int .u8 0, .int .u8 0, .int .u8 0, .int .u8 0, .int .u8 0, .int .u8 0, .int .u8 0, .int .u8 0, .int .u8 0, .int .u8 0, .int .u8 0, .int .u8 0, .int .u8 0, .int .u8 0, .int .u8 0] 89)).alloc (.cells #[.int .u8 0, .int .u8 0, .int .u8 0, .int .u8 0, .int .u8 0, .int .u8 0, .int .u8 0, .int .u8 0, .int .u8 0, .int .u8 0, .int .u8 0, .int .u8 0, .int .u8 0, .int .u8 0, .int .u8 0, .int .u8 0, .int .u8 0, .int .u8 0, .int .u8 0, .int .u8 0, .int .u8 0, .int .u8 0, .int .u8 0, .int .u8 0, .int .u8 0, .int .u8 0, .int .u8 0, .int .u8 0, .int .u8 0, .int .u8 0, .int .u8 0, .int .u8 0, .int .u8 0, .int .u8 0, .int .u8 0, .int .u8 0, .int .u8 0, .int .u8 0, .int .u8 0, .int .u8 0, .int .u8 0, .int .u8 0, .int .u8 0, .int .u8 0, .int .u8 0, .int .u8 0, .int .u8 0, .int .u8 0, .int .u8 0, .int .u8 0, .int .u8 0, .int .u8 0, .int .u8 0, .int .u8 0, .int .u8 0, .int .u8 0, .int .u8 0, .int .u8 0, .int .u8 0, .int .u8 0, .int .u8 0, .int .u8 0, .int .u8 0, .int .u8 0] 89)) = W0 at *
  generalize w.heap.size = n at *
  have hcp := run_copy_text (P := Tryd.prog) W0.drew 62 9 3 5 89 (n + 1) 64 64 (s.extract f s.size) (fun _ => 0) Tryd.underlying62 Tryd.size5 (HS0.out.2.1.ext (Ext.drew (Ext.refl _)))
  rw [cp_text s (m := f) (f := f) rfl] at hcp
  have HS1 : Hid (BS w (W0.drew.setRow (n + 1) (lst .u8 (cpB s f) 64).toArray) n (cpB s f)) := (HS0.out.ext (Ext.drew (Ext.refl _))).row (cpB s f)
  generalize W0.drew.setRow (n + 1) (lst .u8 (cpB s f) 64).toArray = W1 at *
  clear HS0
  go_region
  clear hcp
  obtain ⟨gc, gf⟩ := HS1.out.2.1.tab.2 e (by omega)
  have HS2 : Hid (BS w (W1.setCell ⟨n + 1, e, none⟩ (.int .u8 128)) n (put (cpB s f) e 128)) := HS1.out.put e 128
  clear HS1
  go_wp2_with fail
  refine (blocks_eq _ (by omega) (by omega) _).mono ?_
  rintro er wx ⟨rfl, hwx⟩
  rw [hwx, hnb]
  clear hwx wx
  generalize W1.setCell ⟨n + 1, e, none⟩ (.int .u8 128) = W2 at *
  clear gc gf
  have HSX : Hid (BS w W2 n FT) := HS2.out.congr fun j hj => by
    rw [HFT.out, ← HHf.out]
    exact end_c s h1 h2 hj
  have HR0 : RowH W2 n 89 .u8 64 (fun _ => 0) := HSX.out.1
  have HR1 : RowH W2 (n + 1) 89 .u8 64 FT := HSX.out.2.1
  have HE2 : Hid (Ext w (W2.setRow n (lst .u8 FT 64).toArray)) := HSX.out.2.2.1.row HSX.out.2.2.2 _
  go_wp2_with (first | (refine wpList_load_row rfl 89 _ rfl (n + 1) rfl 89 (lst .u8 FT 64).toArray (0, 0) _ HR1 Tryd.underlying89 rfl (by rw [Tryd.size89]; simp [lst_len]) ?_) | (refine wpList_store_row rfl 89 _ _ rfl n (lst .u8 FT 64).toArray rfl rfl 89 _ HR0 (by rw [Tryd.size89]; simp [lst_len]) (by simp [lst_len]) (lst_one _ _ _) ?_))
  refine bodyPost_ret (v := .agg (lst .u8 FT 64).toArray) ?_ rfl ⟨rfl, HE2.out⟩
  exact results_cell_row Tryd.results60 _ _ n 89 _ (0, 0) _ rfl (HR0.row FT) Tryd.underlying89 rfl (by rw [Tryd.size89]; simp [lst_len])
set_option maxRecDepth 100000 in
set_option maxHeartbeats 2000000 in
theorem block_d (s : ByteArray) (i : Nat) (hs : s.size ≤ 5000) (h1 : 64 * i + 64 ≤ s.size) (w : World) :
    Calls Tryd.prog 60 #[.string s, .int .i64 i] w fun e w' => e = .returned (.agg (lst .u8 (fun j => pb s (64 * i + j)) 64).toArray) ∧ Ext w w' := by
  obtain ⟨FT, HFT⟩ : ∃ FT : Nat → Nat, Hid (FT = fun j => pb s (64 * i + j)) := ⟨_, rfl⟩
  rw [← HFT.out]
  have HS0 : Hid (BS w ((w.alloc (.cells #[.int .u8 0, .int .u8 0, .int .u8 0, .int .u8 0, .int .u8 0, .int .u8 0, .int .u8 0, .int .u8 0, .int .u8 0, .int .u8 0, .int .u8 0, .int .u8 0, .int .u8 0, .int .u8 0, .int .u8 0, .int .u8 0, .int .u8 0, .int .u8 0, .int .u8 0, .int .u8 0, .int .u8 0, .int .u8 0, .int .u8 0, .int .u8 0, .int .u8 0, .int .u8 0, .int .u8 0, .int .u8 0, .int .u8 0, .int .u8 0, .int .u8 0, .int .u8 0, .int .u8 0, .int .u8 0, .int .u8 0, .int .u8 0, .int .u8 0, .int .u8 0, .int .u8 0, .int .u8 0, .int .u8 0, .int .u8 0, .int .u8 0, .int .u8 0, .int .u8 0, .int .u8 0, .int .u8 0, .int .u8 0, .int .u8 0, .int .u8 0, .int .u8 0, .int .u8 0, .int .u8 0, .int .u8 0, .int .u8 0, .int .u8 0, .int .u8 0, .int .u8 0, .int .u8 0, .int .u8 0, .int .u8 0, .int .u8 0, .int .u8 0, .int .u8 0] 89)).alloc (.cells #[.int .u8 0, .int .u8 0, .int .u8 0, .int .u8 0, .int .u8 0, .int .u8 0, .int .u8 0, .int .u8 0, .int .u8 0, .int .u8 0, .int .u8 0, .int .u8 0, .int .u8 0, .int .u8 0, .int .u8 0, .int .u8 0, .int .u8 0, .int .u8 0, .int .u8 0, .int .u8 0, .int .u8 0, .int .u8 0, .int .u8 0, .int .u8 0, .int .u8 0, .int .u8 0, .int .u8 0, .int .u8 0, .int .u8 0, .int .u8 0, .int .u8 0, .int .u8 0, .int .u8 0, .int .u8 0, .int .u8 0, .int .u8 0, .int .u8 0, .int .u8 0, .int .u8 0, .int .u8 0, .int .u8 0, .int .u8 0, .int .u8 0, .int .u8 0, .int .u8 0, .int .u8 0, .int .u8 0, .int .u8 0, .int .u8 0, .int .u8 0, .int .u8 0, .int .u8 0, .int .u8 0, .int .u8 0, .int .u8 0, .int .u8 0, .int .u8 0, .int .u8 0, .int .u8 0, .int .u8 0, .int .u8 0, .int .u8 0, .int .u8 0, .int .u8 0] 89)) w.heap.size (fun _ => 0)) := BS.new w
  have hi : i < nblk s.size := by unfold nblk; omega
  have hi80 : i < 80 := by unfold nblk at hi; omega
  obtain ⟨f, hf⟩ : ∃ f, 64 * i = f := ⟨_, rfl⟩
  have hm : IntKind.i64.wrap ((i : Int) * 64) = (f : Int) := by rw [IntKind.wrap_i64]; omega
  have hmin : ¬ s.size < f := by omega
  have hmin2 : ¬ (s.size : Int) < (f : Int) := by omega
  have hmin3 : (f : Int) ≤ (s.size : Int) := by omega
  obtain ⟨ev, hev⟩ : ∃ ev : Int, (s.size : Int) - (f : Int) = ev := ⟨_, rfl⟩
  have hev1 : IntKind.i64.wrap ((s.size : Int) - (f : Int)) = ev := by rw [IntKind.wrap_i64]; omega
  have hev2 : (0 : Int) ≤ ev := by omega
  have hev3 : ¬ ev < 64 := by omega
  clear hev
  obtain ⟨nb, HNB⟩ : ∃ nb, Hid (nblk s.size = nb) := ⟨_, rfl⟩
  have hnb : blkI (s.size : Int) = (nb : Int) := by rw [← HNB.out]; unfold blkI nblk; rw [if_neg (by omega)]; omega
  obtain ⟨l, hl0⟩ : ∃ l : Nat, nb - 1 = l := ⟨_, rfl⟩
  have hl : IntKind.i64.wrap ((nb : Int) - 1) = (l : Int) := by have := HNB.out; rw [IntKind.wrap_i64]; unfold nblk at *; omega
  have hne : i ≠ l := by have := HNB.out; unfold nblk at *; omega
  have hne2 : ¬ (i : Int) = (l : Int) := by omega
  have hbeq : ((i : Int) == (l : Int)) = false := by simpa using hne2
  clear hl0
  have HHf : Hid (64 * i = f) := hf
  clear hf hi
  go_enter Tryd.func60, Tryd.ntmps60
  go_wp2_with fail
  generalize ((w.alloc (.cells #[.int .u8 0, .int .u8 0, .int .u8 0, .int .u8 0, .int .u8 0, .int .u8 0, .int .u8 0, .int .u8 0, .int .u8 0, .int .u8 0, .int .u8 0, .int .u8 0, .int .u8 0, .int .u8 0, .int .u8 0, .int .u8 0, .int .u8 0, .int .u8 0, .int .u8 0, .int .u8 0, .int .u8 0, .int .u8 0, .int .u8 0, .int .u8 0, .int .u8 0, .int .u8 0, .int .u8 0, .int .u8 0, .int .u8 0, .int .u8 0, .int .u8 0, .int .u8 0, .int .u8 0, .int .u8 0, .int .u8 0, .int .u8 0, .int .u8 0, .int .u8 0, .int .u8 0, .int .u8 0, .int .u8 0, .int .u8 0, .int .u8 0, .int .u8 0, .int .u8 0, .int .u8 0, .int .u8 0, .int .u8 0, .int .u8 0, .int .u8 0, .int .u8 0, .int .u8 0, .int .u8 0, .int .u8 0, .int .u8 0, .int .u8 0, .int .u8 0, .int .u8 0, .int .u8 0, .int .u8 0, .int .u8 0, .int .u8 0, .int .u8 0, .int .u8 0] 89)).alloc (.cells #[.int .u8 0, .int .u8 0, .int .u8 0, .int .u8 0, .int .u8 0, .int .u8 0, .int .u8 0, .int .u8 0, .int .u8 0, .int .u8 0, .int .u8 0, .int .u8 0, .int .u8 0, .int .u8 0, .int .u8 0, .int .u8 0, .int .u8 0, .int .u8 0, .int .u8 0, .int .u8 0, .int .u8 0, .int .u8 0, .int .u8 0, .int .u8 0, .int .u8 0, .int .u8 0, .int .u8 0, .int .u8 0, .int .u8 0, .int .u8 0, .int .u8 0, .int .u8 0, .int .u8 0, .int .u8 0, .int .u8 0, .int .u8 0, .int .u8 0, .int .u8 0, .int .u8 0, .int .u8 0, .int .u8 0, .int .u8 0, .int .u8 0, .int .u8 0, .int .u8 0, .int .u8 0, .int .u8 0, .int .u8 0, .int .u8 0, .int .u8 0, .int .u8 0, .int .u8 0, .int .u8 0, .int .u8 0, .int .u8 0, .int .u8 0, .int .u8 0, .int .u8 0, .int .u8 0, .int .u8 0, .int .u8 0, .int .u8 0, .int .u8 0, .int .u8 0] 89)) = W0 at *
  generalize w.heap.size = n at *
  have hcp := run_copy_text (P := Tryd.prog) W0.drew 62 9 3 5 89 (n + 1) 64 64 (s.extract f s.size) (fun _ => 0) Tryd.underlying62 Tryd.size5 (HS0.out.2.1.ext (Ext.drew (Ext.refl _)))
  rw [cp_text s (m := f) (f := f) rfl] at hcp
  have HS1 : Hid (BS w (W0.drew.setRow (n + 1) (lst .u8 (cpB s f) 64).toArray) n (cpB s f)) := (HS0.out.ext (Ext.drew (Ext.refl _))).row (cpB s f)
  generalize W0.drew.setRow (n + 1) (lst .u8 (cpB s f) 64).toArray = W1 at *
  clear HS0
  go_region
  clear hcp
  have HS2 : Hid (BS w W1 n (cpB s f)) := HS1
  clear HS1
  go_wp2_with fail
  refine (blocks_eq _ (by omega) (by omega) _).mono ?_
  rintro er wx ⟨rfl, hwx⟩
  rw [hwx, hnb]
  clear hwx wx
  generalize W1 = W2 at *
  have HSX : Hid (BS w W2 n FT) := HS2.out.congr fun j hj => by
    rw [HFT.out, ← HHf.out]
    exact end_d s h1 hj
  have HR0 : RowH W2 n 89 .u8 64 (fun _ => 0) := HSX.out.1
  have HR1 : RowH W2 (n + 1) 89 .u8 64 FT := HSX.out.2.1
  have HE2 : Hid (Ext w (W2.setRow n (lst .u8 FT 64).toArray)) := HSX.out.2.2.1.row HSX.out.2.2.2 _
  go_wp2_with (first | (refine wpList_load_row rfl 89 _ rfl (n + 1) rfl 89 (lst .u8 FT 64).toArray (0, 0) _ HR1 Tryd.underlying89 rfl (by rw [Tryd.size89]; simp [lst_len]) ?_) | (refine wpList_store_row rfl 89 _ _ rfl n (lst .u8 FT 64).toArray rfl rfl 89 _ HR0 (by rw [Tryd.size89]; simp [lst_len]) (by simp [lst_len]) (lst_one _ _ _) ?_))
  refine bodyPost_ret (v := .agg (lst .u8 FT 64).toArray) ?_ rfl ⟨rfl, HE2.out⟩
  exact results_cell_row Tryd.results60 _ _ n 89 _ (0, 0) _ rfl (HR0.row FT) Tryd.underlying89 rfl (by rw [Tryd.size89]; simp [lst_len])
theorem sblock_any (s : ByteArray) (i : Nat) (hs : s.size ≤ 5000) (hi : i < nblk s.size) (w : World) :
    Calls Tryd.prog 60 #[.string s, .int .i64 i] w fun e w' => e = .returned (.agg (lst .u8 (fun j => pb s (64 * i + j)) 64).toArray) ∧ Ext w w' := by
  by_cases h1 : s.size < 64 * i
  · exact block_a s i hs h1 (by unfold nblk at *; omega) w
  · by_cases h2 : 64 * i + 64 ≤ s.size
    · exact block_d s i hs h2 w
    · by_cases h3 : i + 1 = nblk s.size
      · exact block_b s i hs (s.size - 64 * i) (by omega) (by omega) h3 w
      · exact block_c s i hs (s.size - 64 * i) (by omega) (by omega) (by omega) w
end Go.Proofs.YtpfeakdpckmcgaaDoor
