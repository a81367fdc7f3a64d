/-
  chacha.setWords, called: the words of a slice that held 0.
  chacha.begin, called.
-/
import Derived.Test.YtbcgipapbamgfaaDoorCParts
import Derived.Deep.QuietTactic
import Derived.BigQuiet
namespace Go.Proofs.YtbcgipapbamgfaaDoor
open Go.RowKit
/-- The lowest k bytes of a word. -/
def wpart (b : Nat → Nat) (p : Nat) : Nat → Nat
  | 0 => 0
  | k + 1 => wpart b p k + b (p + k) * 2 ^ (8 * k)
theorem wpart_lt {b : Nat → Nat} (h : ∀ i, b i < 256) (p k : Nat) : wpart b p k < 2 ^ (8 * k) := by
  induction k with
  | zero => exact Nat.one_pos
  | succ k ih =>
    have h1 := h (p + k)
    have e : (2 : Nat) ^ (8 * (k + 1)) = 256 * 2 ^ (8 * k) := by rw [show 8 * (k + 1) = 8 + 8 * k by omega, Nat.pow_add]
    unfold wpart
    rw [e]
    generalize 2 ^ (8 * k) = z at *
    have : b (p + k) * z ≤ 255 * z := Nat.mul_le_mul_right _ (by omega)
    omega
theorem wpart_four (b : Nat → Nat) (p : Nat) : wpart b p 4 = word b p := by
  simp only [wpart, word, Nat.add_zero]
  omega
/-- The words made: i whole ones and k bytes of the next. -/
def sw (T : Nat → Nat) (b : Nat → Nat) (o i k : Nat) (j : Nat) : Nat := if j < o then T j else if j < o + i then word b (4 * (j - o)) else if j = o + i then wpart b (4 * i) k else T j
theorem sw_step (T b : Nat → Nat) (o i k : Nat) : put (sw T b o i k) (o + i) (wpart b (4 * i) (k + 1)) = sw T b o i (k + 1) := by
  funext j
  unfold put sw
  by_cases h1 : j < o
  · rw [if_neg (by omega), if_pos h1, if_pos h1]
  by_cases h2 : j < o + i
  · rw [if_neg (by omega), if_neg h1, if_pos h2, if_neg h1, if_pos h2]
  by_cases h3 : j = o + i
  · rw [if_pos h3, if_neg h1, if_neg h2, if_pos h3]
  · rw [if_neg h3, if_neg h1, if_neg h2, if_neg h3, if_neg h1, if_neg h2, if_neg h3]
theorem sw_next (T b : Nat → Nat) (o i : Nat) (hz : T (o + (i + 1)) = 0) : sw T b o i 4 = sw T b o (i + 1) 0 := by
  funext j
  unfold sw
  by_cases h1 : j < o
  · rw [if_pos h1, if_pos h1]
  by_cases h2 : j < o + i
  · rw [if_neg h1, if_pos h2, if_neg h1, if_pos (by omega)]
  by_cases h3 : j = o + i
  · rw [if_neg h1, if_neg h2, if_pos h3, if_neg h1, if_pos (by omega), wpart_four, h3, show o + i - o = i by omega]
  by_cases h4 : j = o + (i + 1)
  · rw [if_neg h1, if_neg h2, if_neg h3, if_neg h1, if_neg (by omega), if_pos h4, h4, hz]; rfl
  · rw [if_neg h1, if_neg h2, if_neg h3, if_neg h1, if_neg (by omega), if_neg h4]
theorem sw_zero (T b : Nat → Nat) (o : Nat) (hz : T o = 0) : sw T b o 0 0 = T := by
  funext j
  unfold sw
  by_cases h1 : j < o
  · rw [if_pos h1]
  by_cases h3 : j = o
  · rw [if_neg h1, if_neg (by omega), if_pos (by omega), h3, hz]; rfl
  · rw [if_neg h1, if_neg (by omega), if_neg (by omega)]
theorem sw_at (T b : Nat → Nat) (o i k : Nat) : sw T b o i k (o + i) = wpart b (4 * i) k := by
  unfold sw
  rw [if_neg (by omega), if_neg (by omega), if_pos rfl]
theorem or_num (b : Nat → Nat) (hb : ∀ i, b i < 256) (p k : Nat) (hk : k < 4) : ∃ v0 v1 e y : Nat, wpart b p k = v0 ∧ wpart b p (k + 1) = v1 ∧ e = 8 * k ∧ (b (p + k) : Int) % 4294967296 * 2 ^ (min e 32) % 4294967296 = (y : Int) ∧ bits BinOp.or IntKind.u32 (v0 : Int) (y : Int) = (v1 : Int) := by
  have h1 := wpart_lt hb p k
  have h2 := wpart_lt hb p (k + 1)
  have h3 : (2 : Nat) ^ (8 * (k + 1)) ≤ 2 ^ 32 := Nat.pow_le_pow_right (by decide) (by omega)
  have h5 : wpart b p (k + 1) = wpart b p k + b (p + k) * 2 ^ (8 * k) := rfl
  have h4 : b (p + k) * 2 ^ (8 * k) < 2 ^ 32 := by omega
  refine ⟨_, _, _, b (p + k) * 2 ^ (8 * k), rfl, rfl, rfl, ?_, ?_⟩
  · have h6 := hb (p + k)
    rw [Nat.min_eq_left (by omega : 8 * k ≤ 32), show ((b (p + k) : Int) % 4294967296) = (b (p + k) : Int) by omega, show (2 : Int) ^ (8 * k) = ((2 ^ (8 * k) : Nat) : Int) from (Int.natCast_pow 2 (8 * k)).symm, ← Int.natCast_mul]
    omega
  · rw [u32_or_nat _ _ (by omega) (by omega), join_low _ _ _ h1]
    rfl
set_option maxHeartbeats 1000000 in
theorem setw_any (T : Nat → Nat) (m o n c : Nat) (s : ByteArray) (hs : 4 * n ≤ s.size) (ho : o + n ≤ 16) (hz : ∀ i, i ≤ n → T (o + i) = 0) (w : World) (hR : RowH w m 54 .u32 16 T) :
    Calls Tryd.prog 54 #[.slice (some ⟨m, o, none⟩) n c, .string s] w fun e w' => e = .returned (.tuple #[]) ∧ RowH w' m 54 .u32 16 (sw T (sb s) o n 0) ∧ Below m w w' := by
  have HZ : Hid (∀ i, i ≤ n → T (o + i) = 0) := hz
  have H0 : Hid (RowH w m 54 .u32 16 (sw T (sb s) o 0 0) ∧ Below m w w) := ⟨by rw [sw_zero T _ _ (by have := hz 0 (Nat.zero_le _); rwa [Nat.add_zero] at this)]; exact hR, Below.refl _ _⟩
  clear hR hz
  go_enter Tryd.func54, Tryd.ntmps54
  go_wp2_with fail
  go_loopw [8] (fun u8 wr => ∃ (i : Nat), i ≤ n ∧ u8 = .int .i64 i ∧ Hid (RowH wr m 54 .u32 16 (sw T (sb s) o i 0) ∧ Below m w wr)) (fun u8 _ => n - (intOf u8).toNat)
  case atStart => exact ⟨0, by omega, rfl, H0⟩
  case round =>
    clear H0
    obtain ⟨i, hin, rfl, HR⟩ := hrel
    by_cases hil : i < n
    · have hi1 : (i : Int) < (n : Int) := by omega
      have hi0 : (0 : Int) ≤ (i : Int) := by omega
      go_wp2_with fail
      go_loopw [11] (fun u11 wr => ∃ (k : Nat), k ≤ 4 ∧ u11 = .int .i64 k ∧ Hid (RowH wr m 54 .u32 16 (sw T (sb s) o i k) ∧ Below m w wr)) (fun u11 _ => 4 - (intOf u11).toNat)
      case atStart => exact ⟨0, by omega, rfl, HR⟩
      case round =>
        clear HR
        obtain ⟨k, hk4, rfl, HR⟩ := hrel
        by_cases hkl : k < 4
        · have hk1 : (k : Int) < 4 := by omega
          obtain ⟨v0, v1, e, y, e0, e1, ee, ey, eo⟩ := or_num (sb s) (sb_lt s) (4 * i) k hkl
          obtain ⟨t, ht⟩ : ∃ t, 4 * i + k = t := ⟨_, rfl⟩
          rw [ht] at ey
          have htl : t < s.size := by omega
          have m1 : IntKind.i64.wrap (8 * (k : Int)) = (e : Int) := by rw [IntKind.wrap_i64]; omega
          have m2 : IntKind.i64.wrap (4 * (i : Int)) = 4 * (i : Int) := by rw [IntKind.wrap_i64]; omega
          have m3 : 4 * (i : Int) + (k : Int) = (t : Int) := by omega
          have m4 : IntKind.i64.wrap (t : Int) = (t : Int) := by rw [IntKind.wrap_i64]; omega
          have t0 : (0 : Int) ≤ (t : Int) := by omega
          have t1 : (t : Int) < (s.size : Int) := by omega
          have e0' : (0 : Int) ≤ (e : Int) := by omega
          obtain ⟨g, f⟩ := HR.out.1.tab.2 (o + i) (by omega)
          rw [sw_at, e0] at g
          rw [← sb_at s htl] at ey
          have HS : Hid (∀ W, RowH W m 54 .u32 16 (sw T (sb s) o i k) → RowH (W.setCell ⟨m, o + i, none⟩ (.int .u32 (v1 : Int))) m 54 .u32 16 (sw T (sb s) o i (k + 1))) := fun W h => by
            have h2 := h.set (o + i) v1
            rw [← e1, sw_step] at h2
            rw [← e1]
            exact h2
          clear e0 e1 ee ht
          go_wp2_with fail
          go_region
          have HR2 : Hid (RowH (wr.setCell ⟨m, o + i, none⟩ (.int .u32 (v1 : Int))).drew m 54 .u32 16 (sw T (sb s) o i (k + 1)) ∧ Below m w (wr.setCell ⟨m, o + i, none⟩ (.int .u32 (v1 : Int))).drew) := ⟨(HS.out _ HR.out.1).ext (Ext.drew (Ext.refl _)), (Below.setCell HR.out.2 (p := ⟨m, o + i, none⟩) (Nat.le_refl _) _).drew⟩
          clear HR HS ey eo
          go_wp2
          go_roundw
          case rel => exact ⟨k + 1, hkl, by go_num, HR2⟩
          case measure => simp [intOf]; omega
        · have HK4 : Hid (k = 4) := (by omega : k = 4)
          have hnk : ¬ (k : Int) < 4 := by omega
          rw [HK4.out, sw_next T _ _ _ (HZ.out (i + 1) hil)] at HR
          go_wp2
          go_roundw
          case rel => exact ⟨i + 1, hil, by go_num, HR⟩
          case measure => simp [intOf]; omega
    · have HIn : Hid (i = n) := (by omega : i = n)
      have hni : ¬ (i : Int) < (n : Int) := by omega
      rw [HIn.out] at HR
      go_wp2
      go_end0
      exact ⟨rfl, HR.out⟩
end Go.Proofs.YtbcgipapbamgfaaDoor
namespace Go.Proofs.YtbcgipapbamgfaaDoor
open Go.RowKit
def st0 : List Nat := [1634760805, 857760878, 2036477234, 1797285236, 0, 0, 0, 0, 0, 0, 0, 0, 0, 0, 0, 0]
theorem begin_state (key nonce : Nat → Nat) (n j : Nat) (hj : j < 16) : sw (put (sw (gf st0) key 4 8 0) 12 n) nonce 13 3 0 j = gf (state key nonce n) j := by
  obtain rfl | rfl | rfl | rfl | rfl | rfl | rfl | rfl | rfl | rfl | rfl | rfl | rfl | rfl | rfl | rfl : j = 0 ∨ j = 1 ∨ j = 2 ∨ j = 3 ∨ j = 4 ∨ j = 5 ∨ j = 6 ∨ j = 7 ∨ j = 8 ∨ j = 9 ∨ j = 10 ∨ j = 11 ∨ j = 12 ∨ j = 13 ∨ j = 14 ∨ j = 15 := by omega
  all_goals rfl
theorem zero_one (i : Nat) (h : i ≤ 8) : gf st0 (4 + i) = 0 := by
  revert i
  decide
theorem zero_two (key : Nat → Nat) (n i : Nat) (h : i ≤ 3) : put (sw (gf st0) key 4 8 0) 12 n (13 + i) = 0 := by
  obtain rfl | rfl | rfl | rfl : i = 0 ∨ i = 1 ∨ i = 2 ∨ i = 3 := by omega
  all_goals rfl
theorem results12 (tmps : Array Value) (w : World) (g : Nat) (T : Nat → Nat) (z : Int) (hp : tmps.getD 6 undef = .pointer (some ⟨g, 0, none⟩)) (h7 : tmps.getD 7 undef = .int .i64 z) (h : RowH w g 54 .u32 16 T) :
    (results Tryd.f29 tmps).run Tryd.prog w = .ok (.tuple #[.agg (lst .u32 T 16).toArray, .int .i64 z]) w := by
  have hp' : tmps[6]?.getD undef = .pointer (some ⟨g, 0, none⟩) := by simpa using hp
  have h7' : tmps[7]?.getD undef = .int .i64 z := by simpa using h7
  simp [results, Tryd.results29, hp', h7', asAddr, run_loadVar_row w g 54 54 _ (0, 0) _ h Tryd.underlying54 rfl (by rw [Tryd.size54]; simp [lst_len])]
set_option maxHeartbeats 1000000 in
theorem begin_bad (key nonce : ByteArray) (n : Nat) (h : key.size ≠ 32 ∨ nonce.size ≠ 12) (w : World) :
    Calls Tryd.prog 29 #[.string key, .string nonce, .int .u32 (n : Int)] w fun e w' => e = .returned (.tuple #[.agg (lst .u32 (fun _ => 0) 16).toArray, .int .i64 2]) ∧ Ext w w' := by
  have HZ : RowH (w.alloc (Obj.cells #[.int .u32 0, .int .u32 0, .int .u32 0, .int .u32 0, .int .u32 0, .int .u32 0, .int .u32 0, .int .u32 0, .int .u32 0, .int .u32 0, .int .u32 0, .int .u32 0, .int .u32 0, .int .u32 0, .int .u32 0, .int .u32 0] 54)) w.heap.size 54 .u32 16 (fun _ => 0) := RowH.new w .u32 16 54
  have HX := Ext.row ((Ext.refl w).alloc (Obj.cells #[.int .u32 0, .int .u32 0, .int .u32 0, .int .u32 0, .int .u32 0, .int .u32 0, .int .u32 0, .int .u32 0, .int .u32 0, .int .u32 0, .int .u32 0, .int .u32 0, .int .u32 0, .int .u32 0, .int .u32 0, .int .u32 0] 54)) (Nat.le_refl _) (lst .u32 (fun _ => 0) 16).toArray
  have HR := HZ.row (fun _ => 0)
  by_cases h1 : (key.size : Int) = 32
  · have h2 : ¬ (nonce.size : Int) = 12 := by omega
    go_enter Tryd.func29, Tryd.ntmps29
    go_wp2_with (first | (refine wpList_store_row rfl 54 _ _ rfl w.heap.size (lst .u32 (fun _ => 0) 16).toArray rfl rfl 54 _ HZ (by rw [Tryd.size54]; simp [lst_len]) (by simp [lst_len]) (lst_one _ _ _) ?_))
    exact bodyPost_ret (results12 _ _ w.heap.size _ 2 rfl rfl HR) rfl ⟨rfl, HX⟩
  · go_enter Tryd.func29, Tryd.ntmps29
    go_wp2_with (first | (refine wpList_store_row rfl 54 _ _ rfl w.heap.size (lst .u32 (fun _ => 0) 16).toArray rfl rfl 54 _ HZ (by rw [Tryd.size54]; simp [lst_len]) (by simp [lst_len]) (lst_one _ _ _) ?_))
    exact bodyPost_ret (results12 _ _ w.heap.size _ 2 rfl rfl HR) rfl ⟨rfl, HX⟩
set_option maxHeartbeats 1000000 in
theorem begin_any (key nonce : ByteArray) (n : Nat) (hk : key.size = 32) (ho : nonce.size = 12) (w : World) :
    Calls Tryd.prog 29 #[.string key, .string nonce, .int .u32 (n : Int)] w fun e w' => e = .returned (.tuple #[.agg (lst .u32 (gf (state (sb key) (sb nonce) n)) 16).toArray, .int .i64 0]) ∧ Ext w w' := by
  have h1 : (key.size : Int) = 32 := by omega
  have h2 : (nonce.size : Int) = 12 := by omega
  have HN : SizeLe w w.heap.size := Nat.le_refl _
  have HZ : RowH (w.alloc (Obj.cells #[.int .u32 0, .int .u32 0, .int .u32 0, .int .u32 0, .int .u32 0, .int .u32 0, .int .u32 0, .int .u32 0, .int .u32 0, .int .u32 0, .int .u32 0, .int .u32 0, .int .u32 0, .int .u32 0, .int .u32 0, .int .u32 0] 54)) w.heap.size 54 .u32 16 (fun _ => 0) := RowH.new w .u32 16 54
  have HE : Ext w (w.alloc (Obj.cells #[.int .u32 0, .int .u32 0, .int .u32 0, .int .u32 0, .int .u32 0, .int .u32 0, .int .u32 0, .int .u32 0, .int .u32 0, .int .u32 0, .int .u32 0, .int .u32 0, .int .u32 0, .int .u32 0, .int .u32 0, .int .u32 0] 54)) := (Ext.refl w).alloc _
  go_enter Tryd.func29, Tryd.ntmps29
  go_wp2_with fail
  have HR1 : RowH ((w.alloc (Obj.cells #[.int .u32 0, .int .u32 0, .int .u32 0, .int .u32 0, .int .u32 0, .int .u32 0, .int .u32 0, .int .u32 0, .int .u32 0, .int .u32 0, .int .u32 0, .int .u32 0, .int .u32 0, .int .u32 0, .int .u32 0, .int .u32 0] 54)).alloc (Obj.cells #[.int .u32 1634760805, .int .u32 857760878, .int .u32 2036477234, .int .u32 1797285236, .int .u32 0, .int .u32 0, .int .u32 0, .int .u32 0, .int .u32 0, .int .u32 0, .int .u32 0, .int .u32 0, .int .u32 0, .int .u32 0, .int .u32 0, .int .u32 0] 54)) (w.heap.size + 1) 54 .u32 16 (gf st0) := by
    unfold RowH
    rw [show w.heap.size + 1 = (w.alloc (Obj.cells #[.int .u32 0, .int .u32 0, .int .u32 0, .int .u32 0, .int .u32 0, .int .u32 0, .int .u32 0, .int .u32 0, .int .u32 0, .int .u32 0, .int .u32 0, .int .u32 0, .int .u32 0, .int .u32 0, .int .u32 0, .int .u32 0] 54)).heap.size by simp, heap_alloc_new]
    rfl
  have HZ1 := HZ.ext ((Ext.refl _).alloc (Obj.cells #[.int .u32 1634760805, .int .u32 857760878, .int .u32 2036477234, .int .u32 1797285236, .int .u32 0, .int .u32 0, .int .u32 0, .int .u32 0, .int .u32 0, .int .u32 0, .int .u32 0, .int .u32 0, .int .u32 0, .int .u32 0, .int .u32 0, .int .u32 0] 54))
  have HE1 := HE.alloc (Obj.cells #[.int .u32 1634760805, .int .u32 857760878, .int .u32 2036477234, .int .u32 1797285236, .int .u32 0, .int .u32 0, .int .u32 0, .int .u32 0, .int .u32 0, .int .u32 0, .int .u32 0, .int .u32 0, .int .u32 0, .int .u32 0, .int .u32 0, .int .u32 0] 54)
  generalize (w.alloc (Obj.cells #[.int .u32 0, .int .u32 0, .int .u32 0, .int .u32 0, .int .u32 0, .int .u32 0, .int .u32 0, .int .u32 0, .int .u32 0, .int .u32 0, .int .u32 0, .int .u32 0, .int .u32 0, .int .u32 0, .int .u32 0, .int .u32 0] 54)).alloc (Obj.cells #[.int .u32 1634760805, .int .u32 857760878, .int .u32 2036477234, .int .u32 1797285236, .int .u32 0, .int .u32 0, .int .u32 0, .int .u32 0, .int .u32 0, .int .u32 0, .int .u32 0, .int .u32 0, .int .u32 0, .int .u32 0, .int .u32 0, .int .u32 0] 54) = W1 at *
  generalize hg : w.heap.size = g at *
  have hgw : w.heap.size ≤ g + 1 := by omega
  clear HZ HE
  refine (setw_any (gf st0) (g + 1) 4 8 12 key (by omega) (by omega) zero_one W1 HR1).mono ?_
  rintro e w2 ⟨rfl, HR2, HB2⟩
  have HZ2 : RowH w2 g 54 .u32 16 (fun _ => 0) := (HB2.block g (by omega)).trans HZ1
  have HE2 : Ext w w2 := Below.trans HE1 (Below.mono HB2 hgw)
  have HR3 := HR2.set 12 n
  have HZ3 := RowH.other (v := .int .u32 (n : Int)) (i := 12) (by omega : g ≠ g + 1) HZ2 ⟨_, _, _, HR2⟩
  have HE3 := Ext.st (i := 12) (v := .int .u32 (n : Int)) hgw HE2
  obtain ⟨g12, f12⟩ := HR2.tab.2 12 (by decide)
  clear HR1 HZ1 HE1 HB2 HZ2 HE2 HR2 hg hgw
  go_wp2_with fail
  generalize w2.setCell ⟨g + 1, 12, none⟩ (.int .u32 (n : Int)) = W3 at *
  clear g12 f12
  refine (setw_any (put (sw (gf st0) (sb key) 4 8 0) 12 n) (g + 1) 13 3 3 nonce (by omega) (by omega) (zero_two _ _) W3 HR3).mono ?_
  rintro e w4 ⟨rfl, HR4, HB4⟩
  have HZ4 : RowH w4 g 54 .u32 16 (fun _ => 0) := (HB4.block g (by omega)).trans HZ3
  have HE4 : Ext w w4 := Below.trans HE3 (Below.mono HB4 (Nat.le_succ_of_le HN))
  unfold RowH at HR4
  rw [lst_congr (begin_state (sb key) (sb nonce) n)] at HR4
  clear HR3 HZ3 HE3 HB4
  have HE5 := Ext.row HE4 HN (lst .u32 (gf (state (sb key) (sb nonce) n)) 16).toArray
  have HR5 := HZ4.row (gf (state (sb key) (sb nonce) n))
  obtain ⟨F, HF⟩ : ∃ F, Hid (gf (state (sb key) (sb nonce) n) = F) := ⟨_, rfl⟩
  rw [HF.out] at HR4 HE5 HR5
  go_wp2_with (first | (refine wpList_load_row rfl 54 _ rfl (g + 1) rfl 54 (lst .u32 F 16).toArray (0, 0) _ HR4 Tryd.underlying54 rfl (by rw [Tryd.size54]; simp [lst_len]) ?_) | (refine wpList_store_row rfl 54 _ _ rfl g (lst .u32 F 16).toArray rfl rfl 54 _ HZ4 (by rw [Tryd.size54]; simp [lst_len]) (by simp [lst_len]) (lst_one _ _ _) ?_))
  exact bodyPost_ret (results12 _ _ g _ 0 rfl rfl HR5) rfl ⟨by rw [HF.out], HE5⟩
end Go.Proofs.YtbcgipapbamgfaaDoor
