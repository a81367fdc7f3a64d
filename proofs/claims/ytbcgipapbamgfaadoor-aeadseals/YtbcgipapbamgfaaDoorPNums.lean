/-
  Numbers of bytes, the lowest first: no Go in this text.
  The document's number of bytes (sandglassref10.number), called; nothing old is turned.
  The document's Clamp (sandglassref10.Clamp), called; nothing old is turned.
  The tag, by its definition: no Go in this text but texts as bytes.
  What the walk of the document's Mac stands on: its calls of number, one round's numbers, one byte's.
-/
import Derived.Test.YtbcgipapbamgfaaDoorPMaths
import Derived.Laws.BitsAllLaws
import Derived.Test.YtbcgipapbamgfaaDoorPads
import Derived.Deep.QuietTactic
import Derived.BigQuiet
import Derived.Test.YtbcgipapbamgfaaDoorPRefs
namespace Go.Proofs.YtbcgipapbamgfaaDoor
open Go.RowKit
/-- The number of the first n bytes. -/
def leN (T : Nat → Nat) : Nat → Nat
  | 0 => 0
  | n + 1 => leN T n + T n * 2 ^ (8 * n)
/-- Its words. -/
def nw (T : Nat → Nat) : Nat → Nat → Nat
  | 0, _ => 0
  | i + 1, q => if q = i / 8 then nw T i q + T i * 2 ^ (8 * (i % 8)) else nw T i q
theorem leN_lt {T : Nat → Nat} (h : ∀ i, T i < 256) (n : Nat) : leN T n < 2 ^ (8 * n) := by
  induction n with
  | zero => exact Nat.one_pos
  | succ n ih =>
    have h1 := h n
    unfold leN
    rw [show 8 * (n + 1) = 8 * n + 8 from by omega, Nat.pow_add]
    have h2 : T n * 2 ^ (8 * n) ≤ 255 * 2 ^ (8 * n) := Nat.mul_le_mul_right _ (by omega)
    generalize 2 ^ (8 * n) = P at *
    generalize T n * P = z at *
    omega
theorem nw_bd {T : Nat → Nat} (h : ∀ i, T i < 256) (i q : Nat) : nw T i q < 2 ^ (8 * min (i - 8 * q) 8) := by
  induction i with
  | zero => unfold nw; exact Nat.pow_pos (by decide)
  | succ i ih =>
    unfold nw
    split
    · rename_i e
      have e1 : min (i - 8 * q) 8 = i % 8 := by omega
      have e2 : min (i + 1 - 8 * q) 8 = i % 8 + 1 := by omega
      rw [e1] at ih
      rw [e2, show 8 * (i % 8 + 1) = 8 * (i % 8) + 8 from by omega, Nat.pow_add]
      have h1 := h i
      have h2 : T i * 2 ^ (8 * (i % 8)) ≤ 255 * 2 ^ (8 * (i % 8)) := Nat.mul_le_mul_right _ (by omega)
      generalize 2 ^ (8 * (i % 8)) = P at *
      generalize T i * P = z at *
      omega
    · rename_i e
      have : min (i + 1 - 8 * q) 8 = min (i - 8 * q) 8 := by omega
      rw [this]
      exact ih
theorem nw_lt {T : Nat → Nat} (h : ∀ i, T i < 256) (i q : Nat) : nw T i q < 18446744073709551616 := by
  refine Nat.lt_of_lt_of_le (nw_bd h i q) ?_
  rw [show (18446744073709551616 : Nat) = 2 ^ 64 from by decide]
  exact Nat.pow_le_pow_right (by decide) (by omega)
theorem nw_at {T : Nat → Nat} (h : ∀ i, T i < 256) (i : Nat) : nw T i (i / 8) < 2 ^ (8 * (i % 8)) := by
  have := nw_bd h i (i / 8)
  rwa [show min (i - 8 * (i / 8)) 8 = i % 8 from by omega] at this
theorem nw_val {T : Nat → Nat} (n : Nat) (hn : n ≤ 32) : nw T n 0 + 18446744073709551616 * nw T n 1 + 340282366920938463463374607431768211456 * nw T n 2 + 6277101735386680763835789423207666416102355444464034512896 * nw T n 3 = leN T n := by
  induction n with
  | zero => rfl
  | succ n ih =>
    have ih := ih (by omega)
    unfold leN nw
    have e : 2 ^ (8 * n) = 2 ^ (8 * (n % 8)) * 2 ^ (64 * (n / 8)) := by rw [← Nat.pow_add]; congr 1; omega
    rw [e]
    have hq : n / 8 = 0 ∨ n / 8 = 1 ∨ n / 8 = 2 ∨ n / 8 = 3 := by omega
    rw [← ih]
    rcases hq with hq | hq | hq | hq <;> rw [hq] <;> simp only [if_true, Nat.reduceEqDiff, if_false, Nat.mul_zero, Nat.mul_one, Nat.reduceMul, Nat.reducePow, Nat.zero_ne_one, Nat.one_ne_zero]
    all_goals
      try rw [← Nat.mul_assoc (T n)]
      generalize T n * 2 ^ (8 * (n % 8)) = z
      omega
/-- Words as they lie in the array. -/
def nwI (T : Nat → Nat) (i : Nat) (q : Nat) : Int := ((nw T i q : Nat) : Int)
theorem nwI_lim {T : Nat → Nat} (h : ∀ i, T i < 256) (i : Nat) : Lim4 (nwI T i 0) (nwI T i 1) (nwI T i 2) (nwI T i 3) := by
  unfold Lim4 Lim nwI
  have h0 := nw_lt h i 0
  have h1 := nw_lt h i 1
  have h2 := nw_lt h i 2
  have h3 := nw_lt h i 3
  omega
theorem nwI_val {T : Nat → Nat} (n : Nat) (hn : n ≤ 32) : val (nwI T n 0) (nwI T n 1) (nwI T n 2) (nwI T n 3) = ((leN T n : Nat) : Int) := by
  have := nw_val (T := T) n hn
  unfold val nwI
  omega
theorem nwI_step (T : Nat → Nat) (i : Nat) : (fun j => if j = i / 8 then ((nw T i (i / 8) + T i * 2 ^ (8 * (i % 8)) : Nat) : Int) else nwI T i j) = nwI T (i + 1) := by
  funext j
  unfold nwI
  by_cases e : j = i / 8
  · subst e
    rw [if_pos rfl]
    congr 1
    rw [nw]
    rw [if_pos rfl]
  · rw [if_neg e]
    congr 1
    rw [nw]
    rw [if_neg e]
/-- The numbers of one byte: its place, its shift, the word behind. -/
theorem num_step {T : Nat → Nat} (h : ∀ i, T i < 256) (i : Nat) (hi : i < 32) : ∃ q k z x b : Nat, q = i / 8 ∧ q < 4 ∧ k < 64 ∧ b = T i ∧ nwI T i q = (x : Int) ∧ (i : Int).tdiv 8 = (q : Int) ∧ ∃ r : Nat, (i : Int).tmod 8 = (r : Int) ∧ IntKind.i64.wrap (8 * (r : Int)) = (k : Int) ∧ IntKind.u64.wrap (k : Int) = (k : Int) ∧ IntKind.u64.wrap (b : Int) = (b : Int) ∧ IntKind.u64.wrap ((b : Int) * 2 ^ k) = (z : Int) ∧ bits BinOp.or IntKind.u64 (x : Int) (z : Int) = ((nw T i (i / 8) + T i * 2 ^ (8 * (i % 8)) : Nat) : Int) := by
  have hb := h i
  have hx := nw_at h i
  have hk : 8 * (i % 8) ≤ 56 := by omega
  have hz : T i * 2 ^ (8 * (i % 8)) < 2 ^ 64 := by
    refine Nat.lt_of_lt_of_le (Nat.mul_lt_mul_of_pos_right hb (Nat.pow_pos (by decide))) ?_
    rw [show (256 : Nat) = 2 ^ 8 from rfl, ← Nat.pow_add]
    exact Nat.pow_le_pow_right (by decide) (by omega)
  refine ⟨i / 8, 8 * (i % 8), T i * 2 ^ (8 * (i % 8)), nw T i (i / 8), T i, rfl, by omega, by omega, rfl, rfl, ?_, i % 8, ?_, ?_, ?_, ?_, ?_, ?_⟩
  · rw [Int.tdiv_eq_ediv_of_nonneg (by omega)]; omega
  · rw [Int.tmod_eq_emod_of_nonneg (by omega)]; omega
  · rw [IntKind.wrap_i64]; omega
  · rw [IntKind.wrap_u64]; omega
  · rw [IntKind.wrap_u64]; omega
  · have e : (T i : Int) * 2 ^ (8 * (i % 8)) = ((T i * 2 ^ (8 * (i % 8)) : Nat) : Int) := by
      rw [Int.natCast_mul, Int.natCast_pow]; rfl
    rw [e, IntKind.wrap_u64]
    generalize T i * 2 ^ (8 * (i % 8)) = z at *
    omega
  · have e := u64_or_nat (nw T i (i / 8)) (T i * 2 ^ (8 * (i % 8))) (nw_lt h _ _) hz
    rw [e]
    congr 1
    rw [Nat.or_comm, Nat.mul_comm, Nat.add_comm]
    exact (Nat.two_pow_add_eq_or_of_lt hx (T i)).symm
end Go.Proofs.YtbcgipapbamgfaaDoor
namespace Go.Proofs.YtbcgipapbamgfaaDoor
open Go.RowKit
theorem sb_atP (s : ByteArray) {i : Nat} (h : i < s.size) : (s[i]'h).toNat = sb s i := by
  unfold sb
  rw [List.getD_eq_getElem?_getD]
  have h2 : i < s.data.toList.length := h
  rw [List.getElem?_eq_getElem h2]
  rfl
attribute [local go_sem] setCell_drewN alloc_drewN
set_option maxHeartbeats 1000000 in
theorem refnumber_any (s : ByteArray) (hs : s.size ≤ 32) (w : World) :
    Calls Tryd.prog 50 #[.string s] w fun e w' => e = .returned (.agg #[.int .u64 (nwI (sb s) s.size 0), .int .u64 (nwI (sb s) s.size 1), .int .u64 (nwI (sb s) s.size 2), .int .u64 (nwI (sb s) s.size 3)]) ∧ Ext w w' := by
  obtain ⟨L, hL⟩ : ∃ L, s.size = L := ⟨_, rfl⟩
  rw [hL] at hs ⊢
  have HL : Hid (s.size = L) := hL
  go_enter Tryd.func50, Tryd.ntmps50
  go_wp2
  go_loopw [4] (fun u4 wr => ∃ i : Nat, i ≤ L ∧ u4 = .int .i64 i ∧ ∃ n, wr = ((w.alloc (.cells #[.int .u64 0, .int .u64 0, .int .u64 0, .int .u64 0] 89)).alloc (.cells (fa (nwI (sb s) i)) 89)).drewN n) (fun u4 _ => L - (intOf u4).toNat)
  case atStart => exact ⟨0, Nat.zero_le _, rfl, 0, rfl⟩
  case round =>
    obtain ⟨i, hiL, rfl, n, rfl⟩ := hrel
    by_cases hlt : i < L
    · have hl1 : (i : Int) < (L : Int) := by omega
      have hi0 : (0 : Int) ≤ (i : Int) := by omega
      have his : i < s.size := by omega
      have eb := sb_atP s his
      obtain ⟨q, k, z, x, b, eq, hq, hk, hb, hx, d1, r, d2, d3, d4, d5, d6, d7⟩ := num_step (sb_lt s) i (by omega)
      have gf := fa_get (nwI (sb s) i) q hq
      rw [hx] at gf
      have gf2 := (Array.getElem?_eq_some_iff.1 gf).2
      have hfs : (fa (nwI (sb s) i)).size = 4 := rfl
      have HS : Hid (∀ v, (fa (nwI (sb s) i)).setIfInBounds q (.int .u64 v) = fa (fun j => if j = q then v else nwI (sb s) i j)) := fun v => fa_set _ q hq v
      have HN : Hid ((fun j => if j = q then ((nw (sb s) i (i / 8) + sb s i * 2 ^ (8 * (i % 8)) : Nat) : Int) else nwI (sb s) i j) = nwI (sb s) (i + 1)) := by
        show _ = _
        rw [eq]
        exact nwI_step _ _
      rw [← hb] at eb
      have hq4 : (q : Int) < 4 := by omega
      have hqw : IntKind.i64.wrap (q : Int) = (q : Int) := by rw [IntKind.wrap_i64]; omega
      have hrw : IntKind.i64.wrap (r : Int) = (r : Int) := by rw [← d2, Int.tmod_eq_emod_of_nonneg (by omega), IntKind.wrap_i64]; omega
      have hq0 : (0 : Int) ≤ (q : Int) := by omega
      have hk0 : (0 : Int) ≤ (k : Int) := by omega
      generalize ((nw (sb s) i (i / 8) + sb s i * 2 ^ (8 * (i % 8)) : Nat) : Int) = v at *
      clear eq hb hx
      go_wp2
      go_region
      go_wp2
      exact ⟨⟨i + 1, hlt, by go_num, n + 1, by rw [HS.out v, HN.out]⟩, by simp [intOf]; omega⟩
    · obtain rfl : i = L := by omega
      have hnl : ¬ (i : Int) < (i : Int) := by omega
      obtain ⟨s0, H0⟩ : ∃ x, Hid (nwI (sb s) i 0 = x) := ⟨_, rfl⟩
      obtain ⟨s1, H1⟩ : ∃ x, Hid (nwI (sb s) i 1 = x) := ⟨_, rfl⟩
      obtain ⟨s2, H2⟩ : ∃ x, Hid (nwI (sb s) i 2 = x) := ⟨_, rfl⟩
      obtain ⟨s3, H3⟩ : ∃ x, Hid (nwI (sb s) i 3 = x) := ⟨_, rfl⟩
      have hf : fa (nwI (sb s) i) = #[.int .u64 s0, .int .u64 s1, .int .u64 s2, .int .u64 s3] := by
        unfold fa; rw [H0.out, H1.out, H2.out, H3.out]
      rw [hf]
      clear hf
      go_wp2
      refine bodyPost_ret (v := .agg #[.int .u64 s0, .int .u64 s1, .int .u64 s2, .int .u64 s3]) (by simp [results, Tryd.results50, go_sem]) rfl ⟨by rw [H0.out, H1.out, H2.out, H3.out], ?_⟩
      exact (((Ext.refl _).alloc _).alloc _).drewN _
end Go.Proofs.YtbcgipapbamgfaaDoor
namespace Go.Proofs.YtbcgipapbamgfaaDoor
open Go.RowKit
/-- Byte j with some bits 0. -/
def clB (j v : Nat) : Nat := if j = 3 ∨ j = 7 ∨ j = 11 ∨ j = 15 then v % 16 else if j = 4 ∨ j = 8 ∨ j = 12 then v / 4 * 4 else v
/-- The first t bytes are clamped. -/
def clP (T : Nat → Nat) (t j : Nat) : Nat := if j < t then clB j (T j) else T j
theorem clP_at (T : Nat → Nat) (t : Nat) : clP T t t = T t := if_neg (by omega)
theorem clP_step (T : Nat → Nat) (t : Nat) : put (clP T t) t (clB t (T t)) = clP T (t + 1) := by
  funext j
  unfold put clP
  by_cases e : j = t
  · subst e; simp
  · rw [if_neg e]
    by_cases h : j < t
    · rw [if_pos h, if_pos (by omega)]
    · rw [if_neg h, if_neg (by omega)]
theorem clP_same {T : Nat → Nat} {t : Nat} (h : clB t (T t) = T t) : clP T t = clP T (t + 1) := by
  rw [← clP_step, h]
  funext j
  unfold put
  split
  · rename_i e; subst e; rw [clP_at]
  · rfl
theorem and15n : ∀ v, v < 256 → v &&& 15 = v % 16 := fun v _ => Nat.and_two_pow_sub_one_eq_mod v 4
set_option maxRecDepth 20000 in
theorem and252n : ∀ v, v < 256 → v &&& 252 = v / 4 * 4 := by decide
theorem clB_four {i : Nat} (h : i = 3 ∨ i = 7 ∨ i = 11 ∨ i = 15) (v : Nat) (hv : v < 256) : bits BinOp.and IntKind.u8 (v : Int) 15 = ((clB i v : Nat) : Int) := by
  have e := u8_and_nat v 15 hv (by decide)
  rw [and15n v hv] at e
  unfold clB
  rw [if_pos h]
  exact e
theorem clB_three {i : Nat} (h : i = 4 ∨ i = 8 ∨ i = 12) (v : Nat) (hv : v < 256) : bits BinOp.and IntKind.u8 (v : Int) 252 = ((clB i v : Nat) : Int) := by
  have e := u8_and_nat v 252 hv (by decide)
  rw [and252n v hv] at e
  unfold clB
  rw [if_neg (by omega), if_pos h]
  exact e
theorem clB_else {i : Nat} (h : ¬ (i = 3 ∨ i = 7 ∨ i = 11 ∨ i = 15)) (k : ¬ (i = 4 ∨ i = 8 ∨ i = 12)) (v : Nat) : clB i v = v := by
  unfold clB
  rw [if_neg h, if_neg k]
/-- The text that is clamped. -/
def clS (s : ByteArray) : ByteArray := mkS (clP (sb s) 16) 16
set_option maxHeartbeats 400000 in
theorem rclamp_bad (s : ByteArray) (h : s.size ≠ 16) (w : World) :
    Calls Tryd.prog 49 #[.string s] w fun e w' => e = .returned (.tuple #[.string ⟨#[]⟩, .int .i64 2]) ∧ Ext w w' := by
  have h1 : ¬ (s.size : Int) = 16 := by omega
  go_enter Tryd.func49, Tryd.ntmps49
  go_wp2
  refine bodyPost_ret (v := .tuple #[.string ⟨#[]⟩, .int .i64 2]) (by simp [results, Tryd.results49, go_sem]) rfl ⟨rfl, Ext.refl _⟩
set_option maxHeartbeats 4000000 in
theorem rclamp_any (s : ByteArray) (hs : s.size = 16) (w : World) :
    Calls Tryd.prog 49 #[.string s] w fun e w' => e = .returned (.tuple #[.string (clS s), .int .i64 0]) ∧ Ext w w' := by
  have h1 : (s.size : Int) = 16 := by omega
  have hsm : s.size ≤ maxLen := by unfold maxLen; omega
  have hcv := Lib.run_convert_string_bytes w 9 31 5 s Tryd.underlying9 Tryd.underlying31 Tryd.underlying5
  have HX0 : Hid (Ext w (Lib.bytesWorld w 5 s)) := bytes_ext _ _ _
  have HO0 := bytes_own w 5 s hsm
  obtain ⟨X, hX⟩ : ∃ X, Lib.bytesWorld w 5 s = X := ⟨_, rfl⟩
  obtain ⟨c0, hc0⟩ : ∃ c0, grownCap w s.size 0 5 = c0 := ⟨_, rfl⟩
  rw [hX] at hcv HX0 HO0
  rw [hc0] at hcv HO0
  rw [hs] at hcv HO0
  obtain ⟨g', cap', e, hb, hg, hcn, hm, hc, hf⟩ := HO0
  injection e with e0 _ e2
  injection e0 with e0
  injection e0 with e0 _ _
  have HT0 : Hid (TabN X w.heap.size .u8 16 (clP (sb s) 0)) := by
    show TabN _ _ _ _ _
    rw [← e0] at hg hc hf
    refine ⟨hg, fun k hk2 => ⟨?_, (hf k (by omega)).2⟩⟩
    rw [show clP (sb s) 0 k = sb s k from if_neg (by omega)]
    exact hc k hk2
  have HG : SizeLe w w.heap.size := Nat.le_refl _
  clear hX hc0 e0 e2 hb hg hcn hm hc hf
  generalize hgg : w.heap.size = g at *
  clear hgg
  go_enter Tryd.func49, Tryd.ntmps49
  go_wp2
  go_loopw [5] (fun u5 wr => ∃ i : Nat, i ≤ 16 ∧ u5 = .int .i64 i ∧ TabN wr g .u8 16 (clP (sb s) i) ∧ Hid (Ext w wr)) (fun u5 _ => 16 - (intOf u5).toNat)
  case atStart => exact ⟨0, by omega, rfl, HT0.out, HX0⟩
  case round =>
    obtain ⟨i, hi16, rfl, HT, HE⟩ := hrel
    clear HT0 HX0 hcv
    by_cases hlt : i < 16
    · have hl1 : (i : Int) < 16 := by omega
      have hi0 : (0 : Int) ≤ (i : Int) := by omega
      obtain ⟨gp, gfz⟩ := HT.2 i hlt
      rw [clP_at] at gp
      have hb := sb_lt s i
      by_cases h4 : i = 3 ∨ i = 7 ∨ i = 11 ∨ i = 15
      · have hbit := clB_four h4 (sb s i) hb
        have HST : Hid (TabN (wr.setCell ⟨g, i, none⟩ (.int .u8 ((clB i (sb s i) : Nat) : Int))) g .u8 16 (clP (sb s) (i + 1))) := by
          have h := HT.set i (clB i (sb s i))
          rw [clP_step] at h
          exact h
        clear HT
        generalize clB i (sb s i) = r at HST hbit
        generalize sb s i = bv at gp hbit
        rcases h4 with rfl | rfl | rfl | rfl
        all_goals
          go_wp2
          go_roundw
          case rel => exact ⟨_, by decide, rfl, HST.out, Ext.st HG HE.out⟩
          case measure => simp [intOf]
      · by_cases h3 : i = 4 ∨ i = 8 ∨ i = 12
        · have hbit := clB_three h3 (sb s i) hb
          have HST : Hid (TabN (wr.setCell ⟨g, i, none⟩ (.int .u8 ((clB i (sb s i) : Nat) : Int))) g .u8 16 (clP (sb s) (i + 1))) := by
            have h := HT.set i (clB i (sb s i))
            rw [clP_step] at h
            exact h
          clear HT
          generalize clB i (sb s i) = r at HST hbit
          generalize sb s i = bv at gp hbit
          clear h4
          rcases h3 with rfl | rfl | rfl
          all_goals
            go_wp2
            go_roundw
            case rel => exact ⟨_, by decide, rfl, HST.out, Ext.st HG HE.out⟩
            case measure => simp [intOf]
        · have HT2 : Hid (TabN wr g .u8 16 (clP (sb s) (i + 1))) := by
            show TabN _ _ _ _ _
            rw [← clP_same (clB_else h4 h3 (sb s i))]
            exact HT
          have q1 : ¬ (i : Int) = 3 := by omega
          have q2 : ¬ (i : Int) = 7 := by omega
          have q3 : ¬ (i : Int) = 11 := by omega
          have q4 : ¬ (i : Int) = 15 := by omega
          have q5 : ¬ (i : Int) = 4 := by omega
          have q6 : ¬ (i : Int) = 8 := by omega
          have q7 : ¬ (i : Int) = 12 := by omega
          clear HT h4 h3 gp gfz
          go_wp2
          go_roundw
          case rel => exact ⟨i + 1, hlt, by go_num, HT2.out, HE⟩
          case measure => simp [intOf]; omega
    · have hiE : Hid (i = 16) := (by omega : i = 16)
      have hnl : ¬ (i : Int) < 16 := by omega
      have hcs := run_lst_string Tryd.prog 5 31 9 Tryd.underlying31 Tryd.underlying5 Tryd.underlying9 wr (clP (sb s) i) 16 (.slice (some ⟨g, 0, none⟩) 16 c0) (HT.slice (by unfold maxLen; omega)) (by decide)
      have HQ : Hid (mkS (clP (sb s) i) 16 = clS s) := by
        show _ = _
        rw [hiE.out]
        rfl
      rw [HQ.out] at hcs
      obtain ⟨SS, HSS⟩ : ∃ SS, Hid (clS s = SS) := ⟨_, rfl⟩
      rw [HSS.out] at hcs
      clear HT HQ
      go_wp2
      refine bodyPost_ret (v := .tuple #[.string SS, .int .i64 0]) (by simp [results, Tryd.results49, go_sem]) rfl ⟨by rw [HSS.out], HE.out⟩
end Go.Proofs.YtbcgipapbamgfaaDoor
namespace Go.Proofs.YtbcgipapbamgfaaDoor
open Go.RowKit
theorem leN_congr {T S : Nat → Nat} (n : Nat) (h : ∀ j, j < n → T j = S j) : leN T n = leN S n := by
  induction n with
  | zero => rfl
  | succ n ih =>
    unfold leN
    rw [ih (fun j hj => h j (by omega)), h n (by omega)]
theorem sb_ext {s : ByteArray} {a b : Nat} (i : Nat) (h : a + i < b) (_hb : b ≤ s.size) : sb (s.extract a b) i = sb s (a + i) := by
  unfold sb
  congr 1
  rw [List.getD_eq_getElem?_getD, List.getD_eq_getElem?_getD]
  congr 1
  rw [ByteArray.data_extract]
  simp only [Array.toList_extract, List.extract_eq_take_drop]
  rw [List.getElem?_take]
  rw [if_pos (by omega)]
  simp
theorem sb_append {x y : ByteArray} (i : Nat) : sb (x ++ y) i = if i < x.size then sb x i else sb y (i - x.size) := by
  unfold sb
  have e : (x ++ y).data.toList = x.data.toList ++ y.data.toList := by simp [ByteArray.data_append]
  rw [e, List.getD_eq_getElem?_getD]
  have hx : x.data.toList.length = x.size := by simp
  split
  · rename_i h
    rw [List.getElem?_append_left (by omega), List.getD_eq_getElem?_getD]
  · rename_i h
    rw [List.getElem?_append_right (by omega), List.getD_eq_getElem?_getD, hx]
theorem size_ext {s : ByteArray} {a b : Nat} (hb : b ≤ s.size) : (s.extract a b).size = b - a := by
  simp [ByteArray.size_extract]; omega
/-- How many bytes block k has, of L. -/
def blkM (L k : Nat) : Nat := min 16 (L - 16 * k)
/-- The number of block k. -/
def blkN (T : Nat → Nat) (L k : Nat) : Nat := leN (fun j => T (16 * k + j)) (blkM L k) + 2 ^ (8 * blkM L k)
def P13n : Nat := 1361129467683753853853498429727072845819
/-- What is gathered behind k blocks. -/
def pacc (T : Nat → Nat) (L r : Nat) : Nat → Nat
  | 0 => 0
  | k + 1 => (pacc T L r k + blkN T L k) * r % P13n
theorem pacc_lt (T : Nat → Nat) (L r k : Nat) : pacc T L r k < P13n := by
  cases k with
  | zero => exact (by decide : 0 < P13n)
  | succ k => exact Nat.mod_lt _ (by decide)
theorem blkN_lt {T : Nat → Nat} (h : ∀ i, T i < 256) (L k : Nat) : blkN T L k < P13n := by
  unfold blkN
  have h1 := leN_lt (T := fun j => T (16 * k + j)) (fun j => h _) (blkM L k)
  have h2 : 2 ^ (8 * blkM L k) ≤ 2 ^ 128 := Nat.pow_le_pow_right (by decide) (by unfold blkM; omega)
  have h3 : (2 : Nat) ^ 128 = 340282366920938463463374607431768211456 := by decide
  rw [h3] at h2
  unfold P13n
  generalize 2 ^ (8 * blkM L k) = x at *
  omega
/-- The clamped number of a key. -/
def keyR (key : ByteArray) : Nat := leN (clP (sb key) 16) 16
/-- The number that is added. -/
def keyA (key : ByteArray) : Nat := leN (fun j => sb key (16 + j)) 16
/-- The number whose bytes the tag is. -/
def macV (key s : ByteArray) : Nat := pacc (sb s) s.size (keyR key) ((s.size + 15) / 16) + keyA key
def macB (key s : ByteArray) (i : Nat) : Nat := macV key s / 2 ^ (8 * i) % 256
/-- The tag. -/
def macS (key s : ByteArray) : ByteArray := mkS (macB key s) 16
theorem macB_lt (key s : ByteArray) (i : Nat) : macB key s i < 256 := Nat.mod_lt _ (by decide)
theorem clP_lt {T : Nat → Nat} (h : ∀ i, T i < 256) (t j : Nat) : clP T t j < 256 := by
  unfold clP clB
  have := h j
  split
  · split
    · omega
    · split <;> omega
  · exact this
theorem keyR_lt (key : ByteArray) : keyR key < 340282366920938463463374607431768211456 := by
  have := leN_lt (clP_lt (sb_lt key) 16) 16
  exact this
theorem keyA_lt (key : ByteArray) : keyA key < 340282366920938463463374607431768211456 := by
  have := leN_lt (T := fun j => sb key (16 + j)) (fun j => sb_lt _ _) 16
  exact this
theorem sb_mkSP {T : Nat → Nat} (hT : ∀ i, T i < 256) {n j : Nat} (h : j < n) : sb (mkS T n) j = T j := by
  unfold sb mkS
  rw [List.getD_eq_getElem?_getD]
  simp only [List.getElem?_map, List.getElem?_range h, Option.map_some, Option.getD_some]
  rw [UInt8.toNat_ofNat_of_lt' (hT j)]
theorem mkS_sizeP (T : Nat → Nat) (n : Nat) : (mkS T n).size = n := by
  show ((List.range n).map _).toArray.size = n
  simp
theorem clS_size (s : ByteArray) : (clS s).size = 16 := mkS_sizeP _ _
/-- The clamped number of a key's first half. -/
theorem clS_num (key : ByteArray) (hk : key.size = 32) : leN (sb (clS (key.extract 0 16))) 16 = keyR key := by
  unfold keyR
  refine leN_congr 16 fun j hj => ?_
  unfold clS
  rw [sb_mkSP (clP_lt (sb_lt _) 16) hj]
  unfold clP
  rw [if_pos hj, if_pos hj, sb_ext j (by omega) (by omega), Nat.zero_add]
/-- The number of block k's text with a byte 1 behind. -/
theorem blk_num (s : ByteArray) (k : Nat) (hk : 16 * k < s.size) (one : ByteArray) (h2 : sb one 0 = 1) :
    leN (sb (s.extract (16 * k) (16 * k + blkM s.size k) ++ one)) (blkM s.size k + 1) = blkN (sb s) s.size k := by
  have hm : 16 * k + blkM s.size k ≤ s.size := by unfold blkM; omega
  have hz : (s.extract (16 * k) (16 * k + blkM s.size k)).size = blkM s.size k := by rw [size_ext hm]; omega
  unfold leN blkN
  rw [sb_append, if_neg (by omega), hz, Nat.sub_self, h2, Nat.one_mul]
  congr 1
  refine leN_congr _ fun j hj => ?_
  rw [sb_append, if_pos (by omega), sb_ext j (by omega) hm]
end Go.Proofs.YtbcgipapbamgfaaDoor
namespace Go.Proofs.YtbcgipapbamgfaaDoor
open Go.RowKit
/-- A call that hands out four words of the number N. -/
abbrev NumCall (f : Nat) (args : Array Value) (N : Nat) (W : World) : Prop :=
  Calls Tryd.prog f args W fun e w' => ∃ b0 b1 b2 b3 : Int, e = .returned (.agg #[.int .u64 b0, .int .u64 b1, .int .u64 b2, .int .u64 b3]) ∧ Hid (Lim4 b0 b1 b2 b3 ∧ val b0 b1 b2 b3 = ((N : Nat) : Int)) ∧ Ext W w'
theorem num_call (t : ByteArray) (n N : Nat) (hz : t.size = n) (hn : n ≤ 32) (hN : leN (sb t) n = N) (W : World) : NumCall 50 #[.string t] N W := by
  unfold NumCall
  refine (refnumber_any t (by omega) W).mono ?_
  rintro e w' ⟨rfl, hx⟩
  refine ⟨_, _, _, _, rfl, ⟨nwI_lim (sb_lt _) _, ?_⟩, hx⟩
  rw [nwI_val _ (by omega), hz, hN]
theorem blk_call (s : ByteArray) (q L P E : Nat) (HL : s.size = L) (hq : 16 * q < L) (eP : P = 16 * q) (eE : E = P + blkM L q) (W : World) : NumCall 50 #[.string (s.extract P E ++ ⟨#[1]⟩)] (blkN (sb s) L q) W := by
  subst HL eP eE
  have hm : blkM s.size q ≤ 16 := Nat.min_le_left _ _
  have hm2 : 16 * q + blkM s.size q ≤ s.size := by unfold blkM; omega
  refine num_call _ (blkM s.size q + 1) _ ?_ (by omega) ?_ W
  · rw [ByteArray.size_append, size_ext hm2]
    show 16 * q + blkM s.size q - 16 * q + 1 = _
    omega
  · exact blk_num s q hq ⟨#[1]⟩ (by decide)
theorem key_call (key : ByteArray) (hk : key.size = 32) (W : World) : NumCall 50 #[.string (clS (key.extract 0 16))] (keyR key) W :=
  num_call _ 16 _ (clS_size _) (by decide) (clS_num key hk) W
theorem end_call (key : ByteArray) (hk : key.size = 32) (W : World) : NumCall 50 #[.string (key.extract 16 key.size)] (keyA key) W := by
  refine num_call _ 16 _ (by rw [size_ext (Nat.le_refl _)]; omega) (by decide) ?_ W
  unfold keyA
  refine leN_congr 16 fun j hj => ?_
  exact sb_ext j (by omega) (Nat.le_refl _)
theorem P13_nat : P13 = ((P13n : Nat) : Int) := rfl
theorem mac_step {a0 a1 a2 a3 b0 b1 b2 b3 d0 d1 d2 d3 r0 r1 r2 r3 m0 m1 m2 m3 : Int} {A B R : Nat} (ha : val a0 a1 a2 a3 = ((A : Nat) : Int)) (hb : val b0 b1 b2 b3 = ((B : Nat) : Int)) (hr : val r0 r1 r2 r3 = ((R : Nat) : Int)) (h1 : PMod (val a0 a1 a2 a3 + val b0 b1 b2 b3) d0 d1 d2 d3) (h2 : PMod (val d0 d1 d2 d3 * val r0 r1 r2 r3) m0 m1 m2 m3) :
    Lim4 m0 m1 m2 m3 ∧ val m0 m1 m2 m3 = (((A + B) * R % P13n : Nat) : Int) := by
  refine ⟨h2.1, ?_⟩
  rw [h2.2, h1.2, ha, hb, hr, Int.natCast_emod, Int.natCast_mul, Int.natCast_add, ← P13_nat]
  rw [Int.mul_emod, Int.emod_emod_of_dvd _ (Int.dvd_refl _), ← Int.mul_emod]
theorem add_call {a0 a1 a2 a3 b0 b1 b2 b3 : Int} {A B : Nat} (ha : Lim4 a0 a1 a2 a3 ∧ val a0 a1 a2 a3 = ((A : Nat) : Int)) (hb : Lim4 b0 b1 b2 b3 ∧ val b0 b1 b2 b3 = ((B : Nat) : Int)) (hA : A < P13n) (hB : B < P13n) (W : World) :
    Calls Tryd.prog 52 #[.agg #[.int .u64 a0, .int .u64 a1, .int .u64 a2, .int .u64 a3], .agg #[.int .u64 b0, .int .u64 b1, .int .u64 b2, .int .u64 b3]] W fun e w' => ∃ r0 r1 r2 r3 : Int, e = .returned (.agg #[.int .u64 r0, .int .u64 r1, .int .u64 r2, .int .u64 r3]) ∧ Hid (PMod (val a0 a1 a2 a3 + val b0 b1 b2 b3) r0 r1 r2 r3) ∧ Ext W w' := by
  refine refPAdd_any _ _ _ _ _ _ _ _ ha.1 hb.1 ?_ ?_ W
  · rw [ha.2, P13_nat]; omega
  · rw [hb.2, P13_nat]; omega
theorem mul_call {X d0 d1 d2 d3 r0 r1 r2 r3 : Int} {R : Nat} (hd : PMod X d0 d1 d2 d3) (hr : Lim4 r0 r1 r2 r3 ∧ val r0 r1 r2 r3 = ((R : Nat) : Int)) (hR : R < 340282366920938463463374607431768211456) (W : World) :
    Calls Tryd.prog 51 #[.agg #[.int .u64 d0, .int .u64 d1, .int .u64 d2, .int .u64 d3], .agg #[.int .u64 r0, .int .u64 r1, .int .u64 r2, .int .u64 r3]] W fun e w' => ∃ m0 m1 m2 m3 : Int, e = .returned (.agg #[.int .u64 m0, .int .u64 m1, .int .u64 m2, .int .u64 m3]) ∧ Hid (PMod (val d0 d1 d2 d3 * val r0 r1 r2 r3) m0 m1 m2 m3) ∧ Ext W w' := by
  refine refPMul_any _ _ _ _ _ _ _ _ hd.1 hr.1 hd.less ?_ W
  rw [hr.2]; omega
/-- The numbers of block q. -/
theorem pblk_nums (q L : Nat) (hq : 16 * q < L) (hL : L ≤ 100000) : ∃ P P2 E : Nat, P = 16 * q ∧ P2 = 16 * (q + 1) ∧ E = P + blkM L q ∧ P < L ∧ IntKind.i64.wrap ((P : Int) + 16) = (P2 : Int) ∧ (if (L : Int) < (P2 : Int) then (L : Int) else (P2 : Int)) = (E : Int) ∧ (0 : Int) ≤ (P : Int) ∧ (P : Int) ≤ (E : Int) ∧ (E : Int) ≤ (L : Int) ∧ P ≤ E ∧ E ≤ L ∧ P2 ≤ L + 15 ∧ P2 = P + 16 := by
  refine ⟨16 * q, 16 * (q + 1), 16 * q + blkM L q, rfl, rfl, rfl, hq, ?_, ?_, ?_, ?_, ?_, ?_, ?_, ?_, ?_⟩
  · rw [IntKind.wrap_i64]; omega
  · unfold blkM; split <;> omega
  all_goals (try unfold blkM); omega
/-- The sum is no more than 256 bits. -/
theorem mac_sum {a0 a1 a2 a3 b0 b1 b2 b3 s0 s1 s2 s3 : Int} {c : Bool} {A B : Nat} (ha : val a0 a1 a2 a3 = ((A : Nat) : Int)) (hb : val b0 b1 b2 b3 = ((B : Nat) : Int)) (hA : A < P13n) (hB : B < 340282366920938463463374607431768211456) (h : AddP a0 a1 a2 a3 b0 b1 b2 b3 s0 s1 s2 s3 c) :
    Lim4 s0 s1 s2 s3 ∧ val s0 s1 s2 s3 = ((A + B : Nat) : Int) := by
  refine ⟨h.1, ?_⟩
  have h0 := val_bd h.1
  have h2 := h.2
  unfold B256 at *
  unfold P13n at hA
  rw [ha, hb] at h2
  cases c <;> simp at h2 <;> omega
theorem byte_of (r s V R : Nat) (h0 : s + 18446744073709551616 * R = V) (hr : r < 8) : s / 2 ^ (8 * r) % 256 = V / 2 ^ (8 * r) % 256 := by
  obtain rfl | rfl | rfl | rfl | rfl | rfl | rfl | rfl : r = 0 ∨ r = 1 ∨ r = 2 ∨ r = 3 ∨ r = 4 ∨ r = 5 ∨ r = 6 ∨ r = 7 := by omega
  all_goals
    simp only [Nat.reduceMul, Nat.reducePow]
    omega
/-- The numbers of byte i of the tag. -/
theorem mac_byte {s0 s1 s2 s3 : Int} {V : Nat} (hs : Lim4 s0 s1 s2 s3) (hv : val s0 s1 s2 s3 = ((V : Nat) : Int)) (i : Nat) (hi : i < 16) : ∃ q r k x b : Nat, q < 2 ∧ ((q = 0 ∧ s0 = (x : Int)) ∨ (q = 1 ∧ s1 = (x : Int))) ∧ k < 64 ∧ (i : Int).tdiv 8 = (q : Int) ∧ (i : Int).tmod 8 = (r : Int) ∧ IntKind.i64.wrap (8 * (r : Int)) = (k : Int) ∧ IntKind.u64.wrap (k : Int) = (k : Int) ∧ IntKind.i64.wrap (q : Int) = (q : Int) ∧ IntKind.i64.wrap (r : Int) = (r : Int) ∧ IntKind.u8.wrap ((x : Int) / 2 ^ k) = (b : Int) ∧ b = V / 2 ^ (8 * i) % 256 ∧ x < 18446744073709551616 := by
  obtain ⟨l0, l1, l2, l3⟩ := hs
  unfold Lim at l0 l1 l2 l3
  unfold val at hv
  obtain ⟨x0, rfl⟩ : ∃ x : Nat, s0 = (x : Int) := ⟨s0.toNat, by omega⟩
  obtain ⟨x1, rfl⟩ : ∃ x : Nat, s1 = (x : Int) := ⟨s1.toNat, by omega⟩
  obtain ⟨x2, rfl⟩ : ∃ x : Nat, s2 = (x : Int) := ⟨s2.toNat, by omega⟩
  obtain ⟨x3, rfl⟩ : ∃ x : Nat, s3 = (x : Int) := ⟨s3.toNat, by omega⟩
  have hV : x0 + 18446744073709551616 * (x1 + 18446744073709551616 * (x2 + 18446744073709551616 * x3)) = V := by omega
  have hd : (i : Int).tdiv 8 = ((i / 8 : Nat) : Int) := by rw [Int.tdiv_eq_ediv_of_nonneg (by omega)]; omega
  have hm : (i : Int).tmod 8 = ((i % 8 : Nat) : Int) := by rw [Int.tmod_eq_emod_of_nonneg (by omega)]; omega
  have h8 : IntKind.i64.wrap (8 * ((i % 8 : Nat) : Int)) = ((8 * (i % 8) : Nat) : Int) := by rw [IntKind.wrap_i64]; omega
  have h9 : IntKind.u64.wrap ((8 * (i % 8) : Nat) : Int) = ((8 * (i % 8) : Nat) : Int) := by rw [IntKind.wrap_u64]; omega
  have e1 : IntKind.i64.wrap ((i / 8 : Nat) : Int) = ((i / 8 : Nat) : Int) := by rw [IntKind.wrap_i64]; omega
  have e2 : IntKind.i64.wrap ((i % 8 : Nat) : Int) = ((i % 8 : Nat) : Int) := by rw [IntKind.wrap_i64]; omega
  have hw : ∀ x : Nat, IntKind.u8.wrap ((x : Int) / 2 ^ (8 * (i % 8))) = ((x / 2 ^ (8 * (i % 8)) % 256 : Nat) : Int) := fun x => by
    rw [IntKind.wrap_u8']
    have e : (2 : Int) ^ (8 * (i % 8)) = ((2 ^ (8 * (i % 8)) : Nat) : Int) := by rw [Int.natCast_pow]; rfl
    rw [e, Int.natCast_emod, Int.natCast_ediv]
    rfl
  by_cases h : i < 8
  · refine ⟨i / 8, i % 8, 8 * (i % 8), x0, _, by omega, Or.inl ⟨by omega, rfl⟩, by omega, hd, hm, h8, h9, e1, e2, hw x0, ?_, by omega⟩
    rw [byte_of (i % 8) x0 V _ hV (by omega), show i % 8 = i by omega]
  · refine ⟨i / 8, i % 8, 8 * (i % 8), x1, _, by omega, Or.inr ⟨by omega, rfl⟩, by omega, hd, hm, h8, h9, e1, e2, hw x1, ?_, by omega⟩
    have hV1 : x1 + 18446744073709551616 * (x2 + 18446744073709551616 * x3) = V / 18446744073709551616 := by omega
    rw [byte_of (i % 8) x1 _ _ hV1 (by omega), Nat.div_div_eq_div_mul]
    congr 2
    rw [show (18446744073709551616 : Nat) = 2 ^ 64 from by decide, ← Nat.pow_add]
    congr 1
    omega
end Go.Proofs.YtbcgipapbamgfaaDoor
