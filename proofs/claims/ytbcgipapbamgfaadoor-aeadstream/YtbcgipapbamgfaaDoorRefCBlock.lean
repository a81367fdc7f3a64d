/-
  sandglassref09.Block, called; nothing old is turned.
-/
import Derived.Test.YtbcgipapbamgfaaDoorRefQuart
namespace Go.Proofs.YtbcgipapbamgfaaDoor
open Go.RowKit
def fillK (key : Nat → Nat) : Nat → List Nat
  | 0 => [0x61707865, 0x3320646E, 0x79622D32, 0x6B206574, 0, 0, 0, 0, 0, 0, 0, 0, 0, 0, 0, 0]
  | i + 1 => (fillK key i).set (4 + i) (word key (4 * i))
def fillN (key nonce : Nat → Nat) (n : Nat) : Nat → List Nat
  | 0 => (fillK key 8).set 12 n
  | i + 1 => (fillN key nonce n i).set (13 + i) (word nonce (4 * i))
theorem fill_state (key nonce : Nat → Nat) (n : Nat) : fillN key nonce n 3 = state key nonce n := rfl
theorem word_lt {b : Nat → Nat} (h : ∀ i, b i < 256) (i : Nat) : word b i < 4294967296 := by
  unfold word
  have := h i
  have := h (i + 1)
  have := h (i + 2)
  have := h (i + 3)
  omega
theorem fillK_ok {key : Nat → Nat} (h : ∀ i, key i < 256) (i : Nat) : W16 (fillK key i) := by
  induction i with
  | zero => exact ⟨rfl, by show ∀ x ∈ [_, _, _, _, _, _, _, _, _, _, _, _, _, _, _, _], _; decide⟩
  | succ i ih => exact ih.set _ (word_lt h _)
theorem fillN_ok {key nonce : Nat → Nat} (h : ∀ i, key i < 256) (h2 : ∀ i, nonce i < 256) {n : Nat} (hn : n < 4294967296) (i : Nat) : W16 (fillN key nonce n i) := by
  induction i with
  | zero => exact (fillK_ok h 8).set _ hn
  | succ i ih => exact ih.set _ (word_lt h2 _)
theorem quart_ok {l : List Nat} (h : W16 l) (a b c d : Nat) : W16 (quart l a b c d) := by
  unfold quart
  exact (((((((h.add _ _).xor _ _ _).add _ _).xor _ _ _).add _ _).xor _ _ _).add _ _).xor _ _ _
theorem colN_ok {l : List Nat} (h : W16 l) (i : Nat) : W16 (colN l i) := by
  induction i with
  | zero => exact h
  | succ i ih => exact quart_ok ih _ _ _ _
theorem diaN_ok {l : List Nat} (h : W16 l) (i : Nat) : W16 (diaN l i) := by
  induction i with
  | zero => exact h
  | succ i ih => exact quart_ok ih _ _ _ _
theorem rnd_ok {l : List Nat} (h : W16 l) (k : Nat) : W16 (rnd l k) := by
  induction k with
  | zero => exact h
  | succ k ih => exact diaN_ok (colN_ok ih 4) 4
theorem sb_extract {s : ByteArray} {o : Nat} (i : Nat) : sb (s.extract o s.size) i = sb s (o + i) := by
  unfold sb
  congr 1
  rw [List.getD_eq_getElem?_getD, List.getD_eq_getElem?_getD]
  congr 1
  rw [ByteArray.data_extract]
  have e : s.data.toList[o + i]? = s.data[o + i]? := by simp
  rw [e]
  simp only [Array.toList_extract, List.extract_eq_take_drop]
  rw [List.getElem?_take]
  split
  · simp
  · rename_i h
    rw [Array.getElem?_eq_none]
    have : s.data.size = s.size := rfl
    omega
theorem word_extract (s : ByteArray) (o : Nat) : word (sb (s.extract o s.size)) 0 = word (sb s) o := by
  unfold word
  rw [sb_extract, sb_extract, sb_extract, sb_extract]
  rfl
theorem col_nums (i : Nat) (h : i < 4) : ∃ pb pc pd : Nat, IntKind.i64.wrap (4 + (i : Int)) = (pb : Int) ∧ IntKind.i64.wrap (8 + (i : Int)) = (pc : Int) ∧ IntKind.i64.wrap (12 + (i : Int)) = (pd : Int) ∧ pb < 16 ∧ pc < 16 ∧ pd < 16 ∧ ∀ l, quart l i pb pc pd = col l i := by
  refine ⟨4 + i, 8 + i, 12 + i, ?_, ?_, ?_, by omega, by omega, by omega, fun _ => rfl⟩ <;> (rw [IntKind.wrap_i64]; omega)
theorem dia_nums (i : Nat) (h : i < 4) : ∃ d1 d2 d3 pb pc pd : Nat, IntKind.i64.wrap ((i : Int) + 1) = (i : Int) + 1 ∧ IntKind.i64.wrap ((i : Int) + 2) = (i : Int) + 2 ∧ IntKind.i64.wrap ((i : Int) + 3) = (i : Int) + 3 ∧ ((i : Int) + 1).tmod 4 = (d1 : Int) ∧ ((i : Int) + 2).tmod 4 = (d2 : Int) ∧ ((i : Int) + 3).tmod 4 = (d3 : Int) ∧ IntKind.i64.wrap (d1 : Int) = (d1 : Int) ∧ IntKind.i64.wrap (d2 : Int) = (d2 : Int) ∧ IntKind.i64.wrap (d3 : Int) = (d3 : Int) ∧ IntKind.i64.wrap (4 + (d1 : Int)) = (pb : Int) ∧ IntKind.i64.wrap (8 + (d2 : Int)) = (pc : Int) ∧ IntKind.i64.wrap (12 + (d3 : Int)) = (pd : Int) ∧ pb < 16 ∧ pc < 16 ∧ pd < 16 ∧ ∀ l, quart l i pb pc pd = dia l i := by
  refine ⟨(i + 1) % 4, (i + 2) % 4, (i + 3) % 4, 4 + (i + 1) % 4, 8 + (i + 2) % 4, 12 + (i + 3) % 4, ?_, ?_, ?_, ?_, ?_, ?_, ?_, ?_, ?_, ?_, ?_, ?_, by omega, by omega, by omega, fun _ => rfl⟩
  · rw [IntKind.wrap_i64]; omega
  · rw [IntKind.wrap_i64]; omega
  · rw [IntKind.wrap_i64]; omega
  · rw [Int.tmod_eq_emod_of_nonneg (by omega)]; omega
  · rw [Int.tmod_eq_emod_of_nonneg (by omega)]; omega
  · rw [Int.tmod_eq_emod_of_nonneg (by omega)]; omega
  · rw [IntKind.wrap_i64]; omega
  · rw [IntKind.wrap_i64]; omega
  · rw [IntKind.wrap_i64]; omega
  · rw [IntKind.wrap_i64]; omega
  · rw [IntKind.wrap_i64]; omega
  · rw [IntKind.wrap_i64]; omega
theorem blkB_at (st : List Nat) (i j : Nat) (hj : j < 4) : blkB st (4 * i + j) = outW st i / 256 ^ j % 256 := by
  unfold blkB
  rw [show (4 * i + j) / 4 = i by omega, show (4 * i + j) % 4 = j by omega]
theorem out_nums (st : List Nat) (i : Nat) : ∃ s b0 b1 b2 b3 : Nat, IntKind.u32.wrap ((gf st i : Int) + (gf (rnd st 10) i : Int)) = (s : Int) ∧ IntKind.u8.wrap (s : Int) = (b0 : Int) ∧ IntKind.u8.wrap ((s : Int) / 256) = (b1 : Int) ∧ IntKind.u8.wrap ((s : Int) / 65536) = (b2 : Int) ∧ IntKind.u8.wrap ((s : Int) / 16777216) = (b3 : Int) ∧ Hid ([.int .u8 (b0 : Int), .int .u8 (b1 : Int), .int .u8 (b2 : Int), .int .u8 (b3 : Int)] = newsL .u8 (blkB st) (4 * i) 4) := by
  obtain ⟨s, hs⟩ : ∃ s, outW st i = s := ⟨_, rfl⟩
  have h0 := blkB_at st i 0 (by decide)
  have h1 := blkB_at st i 1 (by decide)
  have h2 := blkB_at st i 2 (by decide)
  have h3 := blkB_at st i 3 (by decide)
  rw [hs] at h0 h1 h2 h3
  rw [show (256 : Nat) ^ 0 = 1 from rfl] at h0
  rw [show (256 : Nat) ^ 1 = 256 from rfl] at h1
  rw [show (256 : Nat) ^ 2 = 65536 from rfl] at h2
  rw [show (256 : Nat) ^ 3 = 16777216 from rfl] at h3
  refine ⟨s, s % 256, s / 256 % 256, s / 65536 % 256, s / 16777216 % 256, ?_, ?_, ?_, ?_, ?_, ?_⟩
  · rw [IntKind.wrap_u32', ← hs]; unfold outW gf; omega
  · rw [IntKind.wrap_u8']; omega
  · rw [IntKind.wrap_u8']; omega
  · rw [IntKind.wrap_u8']; omega
  · rw [IntKind.wrap_u8']; omega
  · show _ = _
    rw [Nat.div_one, Nat.add_zero] at h0
    unfold newsL lst
    simp [List.range, List.range.loop, h0, h1, h2, h3]
theorem Tryd.info5 : (Tryd.prog.info? 5).map (fun i => (i.zero, i.size, i.bytes)) = some (some (.int .u8 0), 1, 1) := by kernel_rfl
theorem news4 (w : World) (v0 v1 v2 v3 : Value) {t : TypeId} : ∀ j u, [v0, v1, v2, v3][j]? = some u → (w.alloc (.cells #[v0, v1, v2, v3] t)).cell? ((⟨w.heap.size, 0, none⟩ : Addr).add j) = some u := by
  intro j u hj
  have hadd : (⟨w.heap.size, 0, none⟩ : Addr).add j = ⟨w.heap.size, j, none⟩ := by unfold Addr.add; split <;> simp_all
  rw [hadd]
  rw [World.cell?_alloc_at _ _ _ _ rfl]
  simpa using hj
theorem news_one4 (a b c d : Int) {kd : IntKind} : ∀ u ∈ [Value.int kd a, .int kd b, .int kd c, .int kd d], u.oneCell' = true := by
  intro u hu; simp at hu; rcases hu with rfl | rfl | rfl | rfl <;> rfl
theorem out_end {wr : World} {st : List Nat} {v : Value} {i B : Nat} (h : wr.ownsRow B 5 1 v (4 * i) (lst .u8 (blkB st) (4 * i))) (hi : i = 16) : SlIs wr v (lst .u8 (blkB st) 64) := by
  subst hi
  exact own_read h
theorem len_ok {i : Nat} (h : i < 16) : 4 * i + 4 ≤ maxLen ∧ (4 * i + 4) * 1 ≤ 140737488355328 := by unfold maxLen; omega
theorem lt_int {i n : Nat} (h : i < n) : (i : Int) < (n : Int) := by omega
/-- The state as it was lies in block m, the one that is turned in block b. -/
def CB (w wr : World) (m b : Nat) (st l : List Nat) : Prop := RowH wr m 53 .u32 16 (gf st) ∧ RowH wr b 53 .u32 16 (gf l) ∧ Ext w wr ∧ m < b ∧ w.heap.size ≤ m
theorem CB.step {w wr w2 : World} {m b : Nat} {st l : List Nat} (h : CB w wr m b st l) (hx : Ext wr w2) (l2 : List Nat) : CB w (w2.setRow b (lst .u32 (gf l2) 16).toArray) m b st l2 := by
  obtain ⟨h1, h2, h3, h4, h5⟩ := h
  refine ⟨?_, (h2.ext hx).row _, (h3.trans hx).row (by omega) _, h4, h5⟩
  have := h1.ext hx
  unfold RowH at this ⊢
  rw [setRow_other w2 b m _ (by omega)]
  exact this
theorem CB.ext {w wr w2 : World} {m b : Nat} {st l : List Nat} (h : CB w wr m b st l) (hx : Ext wr w2) : CB w w2 m b st l := ⟨h.1.ext hx, h.2.1.ext hx, h.2.2.1.trans hx, h.2.2.2⟩
set_option maxHeartbeats 400000 in
theorem rblock_bad (key nonce : ByteArray) (n : Nat) (h : key.size ≠ 32 ∨ nonce.size ≠ 12) (w : World) :
    Calls Tryd.prog 25 #[.string key, .string nonce, .int .u32 (n : Int)] w fun e w' => e = .returned (.tuple #[.string ⟨#[]⟩, .int .i64 2]) ∧ Ext w w' := by
  by_cases hk : key.size = 32
  · have hn : nonce.size ≠ 12 := by omega
    have h1 : (key.size : Int) = 32 := by omega
    have h2 : ¬ (nonce.size : Int) = 12 := by omega
    go_enter Tryd.func25, Tryd.ntmps25
    go_wp2
    refine bodyPost_ret (v := .tuple #[.string ⟨#[]⟩, .int .i64 2]) (by simp [results, Tryd.results25, go_sem]) rfl ⟨rfl, Ext.refl _⟩
  · have h1 : ¬ (key.size : Int) = 32 := by omega
    go_enter Tryd.func25, Tryd.ntmps25
    go_wp2
    refine bodyPost_ret (v := .tuple #[.string ⟨#[]⟩, .int .i64 2]) (by simp [results, Tryd.results25, go_sem]) rfl ⟨rfl, Ext.refl _⟩
set_option maxHeartbeats 8000000 in
theorem rblock_any (key nonce : ByteArray) (n : Nat) (hk : key.size = 32) (ho : nonce.size = 12) (hn : n < 4294967296) (w : World) :
    Calls Tryd.prog 25 #[.string key, .string nonce, .int .u32 (n : Int)] w fun e w' => e = .returned (.tuple #[.string (blkS key nonce n), .int .i64 0]) ∧ Ext w w' := by
  have h1 : (key.size : Int) = 32 := by omega
  have h2 : (nonce.size : Int) = 12 := by omega
  have HN : SizeLe w w.heap.size := Nat.le_refl _
  have HR0 : Hid (RowH (w.alloc (Obj.cells #[.int .u32 1634760805, .int .u32 857760878, .int .u32 2036477234, .int .u32 1797285236, .int .u32 0, .int .u32 0, .int .u32 0, .int .u32 0, .int .u32 0, .int .u32 0, .int .u32 0, .int .u32 0, .int .u32 0, .int .u32 0, .int .u32 0, .int .u32 0] 53)) w.heap.size 53 .u32 16 (gf (fillK (sb key) 0))) := by
    show RowH _ _ _ _ _ _
    unfold RowH
    rw [heap_alloc_new]
    rfl
  have HE0 : Hid (Ext w (w.alloc (Obj.cells #[.int .u32 1634760805, .int .u32 857760878, .int .u32 2036477234, .int .u32 1797285236, .int .u32 0, .int .u32 0, .int .u32 0, .int .u32 0, .int .u32 0, .int .u32 0, .int .u32 0, .int .u32 0, .int .u32 0, .int .u32 0, .int .u32 0, .int .u32 0] 53))) := (Ext.refl _).alloc _
  go_enter Tryd.func25, Tryd.ntmps25
  go_wp2
  generalize w.alloc (Obj.cells #[.int .u32 1634760805, .int .u32 857760878, .int .u32 2036477234, .int .u32 1797285236, .int .u32 0, .int .u32 0, .int .u32 0, .int .u32 0, .int .u32 0, .int .u32 0, .int .u32 0, .int .u32 0, .int .u32 0, .int .u32 0, .int .u32 0, .int .u32 0] 53) = W0 at *
  generalize hm : w.heap.size = m at *
  clear hm
  go_loopw [9] (fun u9 wr => ∃ (i : Nat), i ≤ 8 ∧ u9 = .int .i64 i ∧ RowH wr m 53 .u32 16 (gf (fillK (sb key) i)) ∧ Hid (Ext w wr)) (fun u9 _ => 8 - (intOf u9).toNat)
  case atStart => exact ⟨0, by omega, rfl, HR0.out, HE0⟩
  case round =>
    obtain ⟨i, hi, rfl, HR, HE⟩ := hrel
    by_cases hlt : i < 8
    · have i1 : (i : Int) < 8 := by omega
      obtain ⟨p, hp⟩ : ∃ p, 4 * i = p := ⟨_, rfl⟩
      obtain ⟨q, hq⟩ : ∃ q, 4 + i = q := ⟨_, rfl⟩
      have m1 : IntKind.i64.wrap (4 * (i : Int)) = (p : Int) := by rw [IntKind.wrap_i64]; omega
      have m2 : IntKind.i64.wrap (4 + (i : Int)) = (q : Int) := by rw [IntKind.wrap_i64]; omega
      have p0 : (0 : Int) ≤ (p : Int) := by omega
      have p1 : (p : Int) ≤ 32 := by omega
      have q0 : (0 : Int) ≤ (q : Int) := by omega
      have q1 : (q : Int) < 16 := by omega
      obtain ⟨v, hv⟩ : ∃ v, word (sb key) p = v := ⟨_, rfl⟩
      have C : Hid (∀ W, Calls Tryd.prog 47 #[.string (key.extract p 32)] W fun e w' => e = .returned (.int .u32 (v : Int)) ∧ Ext W w') := fun W => by
        have := word_any (key.extract p 32) (by rw [ByteArray.size_extract]; omega) W
        rw [show (32 : Nat) = key.size by omega, word_extract, hv] at this
        rw [show (32 : Nat) = key.size by omega]
        exact this
      have HS : Hid (∀ W, RowH W m 53 .u32 16 (gf (fillK (sb key) i)) → RowH (W.setCell ⟨m, q, none⟩ (.int .u32 (v : Int))) m 53 .u32 16 (gf (fillK (sb key) (i + 1)))) := fun W h => by
        have h2 := h.set q v
        rw [gf_set (fillK_ok (sb_lt key) i) (by omega), ← hv, ← hq, ← hp] at h2
        rw [← hv, ← hq, ← hp]
        exact h2
      have HR : Hid (RowH wr m 53 .u32 16 (gf (fillK (sb key) i))) := HR
      clear hv hp hq
      go_wp2_with fail
      refine (C.out _).mono ?_
      rintro e w2 ⟨rfl, HX⟩
      have HR2 := HR.out.ext HX
      have HE2 : Hid (Ext w w2) := HE.out.trans HX
      obtain ⟨gc, gfz⟩ := HR2.tab.2 q (by omega)
      have HS2 : Hid (RowH (w2.setCell ⟨m, q, none⟩ (.int .u32 (v : Int))) m 53 .u32 16 (gf (fillK (sb key) (i + 1)))) := HS.out _ HR2
      clear HX HR2 HE HR HS C
      go_wp2
      go_roundw
      case rel => exact ⟨i + 1, hlt, by go_num, HS2.out, Ext.st HN HE2.out⟩
      case measure => simp [intOf]; omega
    · have HI8 : Hid (i = 8) := (by omega : i = 8)
      have hnl : ¬ (i : Int) < 8 := by omega
      rw [HI8.out] at HR
      have HR1 : Hid (RowH (wr.setCell ⟨m, 12, none⟩ (.int .u32 (n : Int))) m 53 .u32 16 (gf (fillN (sb key) (sb nonce) n 0))) := by
        have h2 := HR.set 12 n
        rw [gf_set (fillK_ok (sb_lt key) 8) (by decide)] at h2
        exact h2
      have HE1 : Hid (Ext w (wr.setCell ⟨m, 12, none⟩ (.int .u32 (n : Int)))) := Ext.st HN HE.out
      obtain ⟨gc, gfz⟩ := HR.tab.2 12 (by decide)
      clear HR HE
      go_wp2
      generalize wr.setCell ⟨m, 12, none⟩ (.int .u32 (n : Int)) = W1 at *
      clear gc gfz
      go_loopw [10] (fun u10 wr => ∃ (i : Nat), i ≤ 3 ∧ u10 = .int .i64 i ∧ RowH wr m 53 .u32 16 (gf (fillN (sb key) (sb nonce) n i)) ∧ Hid (Ext w wr)) (fun u10 _ => 3 - (intOf u10).toNat)
      case atStart => exact ⟨0, by omega, rfl, HR1.out, HE1⟩
      case round =>
        obtain ⟨i, hi, rfl, HR, HE⟩ := hrel
        by_cases hlt : i < 3
        · have i1 : (i : Int) < 3 := by omega
          obtain ⟨p, hp⟩ : ∃ p, 4 * i = p := ⟨_, rfl⟩
          obtain ⟨q, hq⟩ : ∃ q, 13 + i = q := ⟨_, rfl⟩
          have m1 : IntKind.i64.wrap (4 * (i : Int)) = (p : Int) := by rw [IntKind.wrap_i64]; omega
          have m2 : IntKind.i64.wrap (13 + (i : Int)) = (q : Int) := by rw [IntKind.wrap_i64]; omega
          have p0 : (0 : Int) ≤ (p : Int) := by omega
          have p1 : (p : Int) ≤ 12 := by omega
          have q0 : (0 : Int) ≤ (q : Int) := by omega
          have q1 : (q : Int) < 16 := by omega
          obtain ⟨v, hv⟩ : ∃ v, word (sb nonce) p = v := ⟨_, rfl⟩
          have C : Hid (∀ W, Calls Tryd.prog 47 #[.string (nonce.extract p 12)] W fun e w' => e = .returned (.int .u32 (v : Int)) ∧ Ext W w') := fun W => by
            have := word_any (nonce.extract p 12) (by rw [ByteArray.size_extract]; omega) W
            rw [show (12 : Nat) = nonce.size by omega, word_extract, hv] at this
            rw [show (12 : Nat) = nonce.size by omega]
            exact this
          have HS : Hid (∀ W, RowH W m 53 .u32 16 (gf (fillN (sb key) (sb nonce) n i)) → RowH (W.setCell ⟨m, q, none⟩ (.int .u32 (v : Int))) m 53 .u32 16 (gf (fillN (sb key) (sb nonce) n (i + 1)))) := fun W h => by
            have h2 := h.set q v
            rw [gf_set (fillN_ok (sb_lt key) (sb_lt nonce) hn i) (by omega), ← hv, ← hq, ← hp] at h2
            rw [← hv, ← hq, ← hp]
            exact h2
          have HR : Hid (RowH wr m 53 .u32 16 (gf (fillN (sb key) (sb nonce) n i))) := HR
          clear hv hp hq
          go_wp2_with fail
          refine (C.out _).mono ?_
          rintro e w2 ⟨rfl, HX⟩
          have HR2 := HR.out.ext HX
          have HE2 : Hid (Ext w w2) := HE.out.trans HX
          obtain ⟨gc, gfz⟩ := HR2.tab.2 q (by omega)
          have HS2 : Hid (RowH (w2.setCell ⟨m, q, none⟩ (.int .u32 (v : Int))) m 53 .u32 16 (gf (fillN (sb key) (sb nonce) n (i + 1)))) := HS.out _ HR2
          clear HX HR2 HE HR HS C
          go_wp2
          go_roundw
          case rel => exact ⟨i + 1, hlt, by go_num, HS2.out, Ext.st HN HE2.out⟩
          case measure => simp [intOf]; omega
        · have HI3 : Hid (i = 3) := (by omega : i = 3)
          have hnl2 : ¬ (i : Int) < 3 := by omega
          rw [HI3.out, fill_state] at HR
          obtain ⟨st, HSt⟩ : ∃ st, Hid (state (sb key) (sb nonce) n = st) := ⟨_, rfl⟩
          have hst : W16 st := by rw [← HSt.out, ← fill_state]; exact fillN_ok (sb_lt key) (sb_lt nonce) hn 3
          rw [HSt.out] at HR
          have HZ : RowH (wr.alloc (Obj.cells #[.int .u32 0, .int .u32 0, .int .u32 0, .int .u32 0, .int .u32 0, .int .u32 0, .int .u32 0, .int .u32 0, .int .u32 0, .int .u32 0, .int .u32 0, .int .u32 0, .int .u32 0, .int .u32 0, .int .u32 0, .int .u32 0] 53)) wr.heap.size 53 .u32 16 (fun _ => 0) := RowH.new wr .u32 16 53
          have HC0 : Hid (CB w ((wr.alloc (Obj.cells #[.int .u32 0, .int .u32 0, .int .u32 0, .int .u32 0, .int .u32 0, .int .u32 0, .int .u32 0, .int .u32 0, .int .u32 0, .int .u32 0, .int .u32 0, .int .u32 0, .int .u32 0, .int .u32 0, .int .u32 0, .int .u32 0] 53)).setRow wr.heap.size (lst .u32 (gf st) 16).toArray) m wr.heap.size st st) := by
            have hmb : m < wr.heap.size := HR.lt
            have h1 := HR.ext ((Ext.refl wr).alloc (Obj.cells #[.int .u32 0, .int .u32 0, .int .u32 0, .int .u32 0, .int .u32 0, .int .u32 0, .int .u32 0, .int .u32 0, .int .u32 0, .int .u32 0, .int .u32 0, .int .u32 0, .int .u32 0, .int .u32 0, .int .u32 0, .int .u32 0] 53))
            refine ⟨?_, HZ.row _, (HE.out.alloc _).row HE.out.size _, hmb, HN⟩
            unfold RowH at h1 ⊢
            rw [setRow_other _ _ m _ (by omega)]
            exact h1
          go_wp2_with (first | (refine wpList_load_row rfl 53 _ rfl m rfl 53 (lst .u32 (gf st) 16).toArray (0, 0) _ HR Tryd.underlying53 rfl (by rw [Tryd.size53]; simp [lst_len]) ?_) | (refine wpList_store_row rfl 53 _ _ rfl wr.heap.size (lst .u32 (gf st) 16).toArray rfl rfl 53 _ HZ (by rw [Tryd.size53]; simp [lst_len]) (by simp [lst_len]) (lst_one _ _ _) ?_))
          generalize (wr.alloc (Obj.cells #[.int .u32 0, .int .u32 0, .int .u32 0, .int .u32 0, .int .u32 0, .int .u32 0, .int .u32 0, .int .u32 0, .int .u32 0, .int .u32 0, .int .u32 0, .int .u32 0, .int .u32 0, .int .u32 0, .int .u32 0, .int .u32 0] 53)).setRow wr.heap.size (lst .u32 (gf st) 16).toArray = W2 at *
          generalize wr.heap.size = b at *
          clear HZ HR HE HI3 HI8
          go_loopw [12] (fun u12 wr => ∃ (k : Nat), k ≤ 10 ∧ u12 = .int .i64 k ∧ Hid (CB w wr m b st (rnd st k))) (fun u12 _ => 10 - (intOf u12).toNat)
          case atStart => exact ⟨0, by omega, rfl, HC0⟩
          case round =>
            clear HC0
            obtain ⟨k, hk10, rfl, HC⟩ := hrel
            by_cases hkl : k < 10
            · have hk1 : (k : Int) < 10 := by omega
              go_wp2_with fail
              go_loopw [13] (fun u13 wr => ∃ (i : Nat), i ≤ 4 ∧ u13 = .int .i64 i ∧ Hid (CB w wr m b st (colN (rnd st k) i))) (fun u13 _ => 4 - (intOf u13).toNat)
              case atStart => exact ⟨0, by omega, rfl, HC⟩
              case round =>
                clear HC
                obtain ⟨i, hi4, rfl, HC⟩ := hrel
                by_cases hil : i < 4
                · have hi1 : (i : Int) < 4 := by omega
                  obtain ⟨pb, pc, pd, mb, mc, md, lb, lc, ld, hq⟩ := col_nums i hil
                  obtain ⟨l, HL⟩ : ∃ l, Hid (colN (rnd st k) i = l) := ⟨_, rfl⟩
                  have hlk : W16 l := by rw [← HL.out]; exact colN_ok (rnd_ok hst k) i
                  obtain ⟨l2, HL2⟩ : ∃ l2, Hid (colN (rnd st k) (i + 1) = l2) := ⟨_, rfl⟩
                  have HQ : Hid (quart l i pb pc pd = l2) := by
                    show _ = _
                    rw [← HL.out, ← HL2.out]
                    exact hq _
                  have C : Hid (∀ W, Calls Tryd.prog 48 #[.agg (lst .u32 (gf l) 16).toArray, .int .i64 (i : Int), .int .i64 (pb : Int), .int .i64 (pc : Int), .int .i64 (pd : Int)] W fun e w' => e = .returned (.agg (lst .u32 (gf l2) 16).toArray) ∧ Ext W w') := fun W => by
                    have := quarter_any l hlk i pb pc pd (Nat.lt_trans hil (by decide)) lb lc ld W
                    rw [HQ.out] at this
                    exact this
                  rw [HL.out] at HC
                  have HRb := HC.out.2.1
                  clear lb lc ld hq HQ hlk
                  go_wp2_with (first | (refine wpList_load_row rfl 53 _ rfl b rfl 53 (lst .u32 (gf l) 16).toArray (0, 0) _ HRb Tryd.underlying53 rfl (by rw [Tryd.size53]; simp [lst_len]) ?_))
                  refine (C.out _).mono ?_
                  rintro e w2 ⟨rfl, HX⟩
                  have HRc := (HC.out.ext HX).2.1
                  have HC2 : Hid (CB w (w2.setRow b (lst .u32 (gf l2) 16).toArray) m b st l2) := HC.out.step HX l2
                  clear HX HRb C HC
                  go_wp2_with (first | (refine wpList_store_row rfl 53 _ _ rfl b (lst .u32 (gf l2) 16).toArray rfl rfl 53 _ HRc (by rw [Tryd.size53]; simp [lst_len]) (by simp [lst_len]) (lst_one _ _ _) ?_))
                  go_roundw
                  case rel => exact ⟨i + 1, hil, by go_num, by rw [HL2.out]; exact HC2⟩
                  case measure => simp [intOf]; omega
                · have HI4 : Hid (i = 4) := (by omega : i = 4)
                  have hnl4 : ¬ (i : Int) < 4 := by omega
                  rw [HI4.out] at HC
                  go_wp2_with fail
                  go_loopw [14] (fun u14 wr => ∃ (i : Nat), i ≤ 4 ∧ u14 = .int .i64 i ∧ Hid (CB w wr m b st (diaN (colN (rnd st k) 4) i))) (fun u14 _ => 4 - (intOf u14).toNat)
                  case atStart => exact ⟨0, by omega, rfl, HC⟩
                  case round =>
                    clear HC
                    obtain ⟨i, hi4, rfl, HC⟩ := hrel
                    by_cases hil : i < 4
                    · have hi1 : (i : Int) < 4 := by omega
                      obtain ⟨d1, d2, d3, pb, pc, pd, w1, w2, w3, t1, t2, t3, v1, v2, v3, mb, mc, md, lb, lc, ld, hq⟩ := dia_nums i hil
                      obtain ⟨l, HL⟩ : ∃ l, Hid (diaN (colN (rnd st k) 4) i = l) := ⟨_, rfl⟩
                      have hlk : W16 l := by rw [← HL.out]; exact diaN_ok (colN_ok (rnd_ok hst k) 4) i
                      obtain ⟨l2, HL2⟩ : ∃ l2, Hid (diaN (colN (rnd st k) 4) (i + 1) = l2) := ⟨_, rfl⟩
                      have HQ : Hid (quart l i pb pc pd = l2) := by
                        show _ = _
                        rw [← HL.out, ← HL2.out]
                        exact hq _
                      have C : Hid (∀ W, Calls Tryd.prog 48 #[.agg (lst .u32 (gf l) 16).toArray, .int .i64 (i : Int), .int .i64 (pb : Int), .int .i64 (pc : Int), .int .i64 (pd : Int)] W fun e w' => e = .returned (.agg (lst .u32 (gf l2) 16).toArray) ∧ Ext W w') := fun W => by
                        have := quarter_any l hlk i pb pc pd (Nat.lt_trans hil (by decide)) lb lc ld W
                        rw [HQ.out] at this
                        exact this
                      rw [HL.out] at HC
                      have HRb := HC.out.2.1
                      clear lb lc ld hq HQ hlk
                      go_wp2_with (first | (refine wpList_load_row rfl 53 _ rfl b rfl 53 (lst .u32 (gf l) 16).toArray (0, 0) _ HRb Tryd.underlying53 rfl (by rw [Tryd.size53]; simp [lst_len]) ?_))
                      refine (C.out _).mono ?_
                      rintro e w2 ⟨rfl, HX⟩
                      have HRc := (HC.out.ext HX).2.1
                      have HC2 : Hid (CB w (w2.setRow b (lst .u32 (gf l2) 16).toArray) m b st l2) := HC.out.step HX l2
                      clear HX HRb C HC
                      go_wp2_with (first | (refine wpList_store_row rfl 53 _ _ rfl b (lst .u32 (gf l2) 16).toArray rfl rfl 53 _ HRc (by rw [Tryd.size53]; simp [lst_len]) (by simp [lst_len]) (lst_one _ _ _) ?_))
                      go_roundw
                      case rel => exact ⟨i + 1, hil, by go_num, by rw [HL2.out]; exact HC2⟩
                      case measure => simp [intOf]; omega
                    · have HI5 : Hid (i = 4) := (by omega : i = 4)
                      have hnl5 : ¬ (i : Int) < 4 := by omega
                      rw [HI5.out] at HC
                      go_wp2
                      go_roundw
                      case rel => exact ⟨k + 1, hkl, by go_num, HC⟩
                      case measure => simp [intOf]; omega
            · have HK10 : Hid (k = 10) := (by omega : k = 10)
              have hnl6 : ¬ (k : Int) < 10 := by omega
              rw [HK10.out] at HC
              have HRm : Hid (RowH wr m 53 .u32 16 (gf st)) := HC.out.1
              have HRb : Hid (RowH wr b 53 .u32 16 (gf (rnd st 10))) := HC.out.2.1
              have HE2 : Hid (Ext w wr) := HC.out.2.2.1
              obtain ⟨i0, hi, hz0, hz1, hz2⟩ := info_parts Tryd.info5
              clear HC HK10
              generalize wr = W3 at *
              go_wp2_with fail
              go_loopw [15, 16] (fun u15 u16 wq => ∃ (i : Nat), i ≤ 16 ∧ u16 = .int .i64 i ∧ Hid (wq.ownsRow W3.heap.size 5 1 u15 (4 * i) (lst .u8 (blkB st) (4 * i))) ∧ Hid (Ext W3 wq)) (fun _ u16 _ => 16 - (intOf u16).toNat)
              case atStart => exact ⟨0, by omega, rfl, World.ownsRow_nil _ _ _ _, Ext.refl _⟩
              case round =>
                obtain ⟨i, hi16, rfl, HW, HX2⟩ := hrel
                by_cases hlt6 : i < 16
                · have hi1 : (i : Int) < 16 := lt_int hlt6
                  have hi0 : (0 : Int) ≤ (i : Int) := by omega
                  have cx := later HX2.out (HRm.out.tab.2 i hlt6).1
                  have cy := later HX2.out (HRb.out.tab.2 i hlt6).1
                  obtain ⟨s, b0, b1, b2, b3, f, f0, f1, f2, f3, HNl⟩ := out_nums st i
                  generalize gf st i = vx at cx f
                  generalize gf (rnd st 10) i = vy at cy f
                  go_wp2_with fail
                  go_region
                  have HW2 : Hid ((wr.alloc (.cells #[.int .u8 (b0 : Int), .int .u8 (b1 : Int), .int .u8 (b2 : Int), .int .u8 (b3 : Int)] 5)).drew.ownsRow W3.heap.size 5 1 u15 (4 * i) (lst .u8 (blkB st) (4 * i))) := own_ext HW.out (((Ext.refl _).alloc _).drew)
                  have HB4 : Hid (W3.heap.size ≤ (wr.alloc (.cells #[.int .u8 (b0 : Int), .int .u8 (b1 : Int), .int .u8 (b2 : Int), .int .u8 (b3 : Int)] 5)).drew.heap.size) := (((HX2.out).alloc _).drew).size
                  have HXa : Hid (Ext W3 (wr.alloc (.cells #[.int .u8 (b0 : Int), .int .u8 (b1 : Int), .int .u8 (b2 : Int), .int .u8 (b3 : Int)] 5)).drew) := (((HX2.out).alloc _).drew)
                  go_wp2_with (first | (at_builtin; refine wpList_append_own _ rfl _ _ 31 rfl W3.heap.size 5 i0 (.int .u8 0) 1 1 Tryd.underlying31 hi hz0 hz1 hz2 rfl (by decide) u15 (4 * i) _ rfl HW2.out ⟨_, 0, none⟩ 4 4 [.int .u8 (b0 : Int), .int .u8 (b1 : Int), .int .u8 (b2 : Int), .int .u8 (b3 : Int)] rfl rfl (news4 _ _ _ _ _) (news_one4 _ _ _ _) (len_ok hlt6).1 (len_ok hlt6).2 HB4.out ?_))
                  intro v5 w5 hown5 hgrow5 _
                  have HW5 : Hid (w5.ownsRow W3.heap.size 5 1 v5 (4 * (i + 1)) (lst .u8 (blkB st) (4 * (i + 1)))) := by
                    have h := hown5
                    rw [HNl.out, lst_app] at h
                    exact h
                  have HX5 : Hid (Ext W3 w5) := ext_grown HXa.out hgrow5 (own_at HW2.out)
                  clear hown5 hgrow5 HXa HB4 HW2 HW HX2 cx cy
                  go_wp2
                  go_roundw
                  case rel => exact ⟨i + 1, hlt6, by go_num, HW5, HX5⟩
                  case measure => simp [intOf]; omega
                · have HI6 : i = 16 := by omega
                  have hni : ¬ (i : Int) < 16 := by omega
                  have HSl : SlIs wr u15 (lst .u8 (blkB st) 64) := out_end HW.out HI6
                  have hcv := run_lst_string Tryd.prog 5 31 9 Tryd.underlying31 Tryd.underlying5 Tryd.underlying9 wr (blkB st) 64 u15 HSl (by decide)
                  obtain ⟨SS, HSS⟩ : ∃ SS, Hid (mkS (blkB st) 64 = SS) := ⟨_, rfl⟩
                  rw [HSS.out] at hcv
                  have HXe : Hid (Ext w wr) := HE2.out.trans HX2.out
                  clear HSl HI6 HW
                  go_wp2
                  refine bodyPost_ret (v := .tuple #[.string SS, .int .i64 0]) (by simp [results, Tryd.results25, go_sem]) rfl ⟨by unfold blkS; rw [HSt.out, HSS.out], HXe.out⟩
end Go.Proofs.YtbcgipapbamgfaaDoor
