/-
  poly.times, called.
-/
import Derived.Test.YtbcgipapbamgfaaDoorPParts
namespace Go.Proofs.YtbcgipapbamgfaaDoor
open Go.RowKit
/-- What times holds: the factors in blocks n and n + 1, the answer's block, and what is made. -/
def TS (w wr : World) (n : Nat) (a b F : Nat → Nat) : Prop := RowH wr n 77 .u64 5 a ∧ RowH wr (n + 1) 77 .u64 5 b ∧ RowH wr (n + 2) 77 .u64 5 (fun _ => 0) ∧ RowH wr (n + 3) 77 .u64 5 F ∧ Ext w wr ∧ w.heap.size ≤ n
theorem TS.ext {w wr w2 : World} {n : Nat} {a b F : Nat → Nat} (h : TS w wr n a b F) (hx : Ext wr w2) : TS w w2 n a b F :=
  ⟨h.1.ext hx, h.2.1.ext hx, h.2.2.1.ext hx, h.2.2.2.1.ext hx, h.2.2.2.2.1.trans hx, h.2.2.2.2.2⟩
theorem TS.set {w wr : World} {n : Nat} {a b F : Nat → Nat} (h : TS w wr n a b F) (t v : Nat) : TS w (wr.setCell ⟨n + 3, t, none⟩ (.int .u64 (v : Int))) n a b (put F t v) := by
  obtain ⟨h1, h2, h3, h4, h5, h6⟩ := h
  exact ⟨RowH.other (by omega) h1 ⟨_, _, _, h4⟩, RowH.other (by omega) h2 ⟨_, _, _, h4⟩, RowH.other (by omega) h3 ⟨_, _, _, h4⟩, h4.set t v, Ext.st (by omega) h5, h6⟩
theorem TS.row {w wr : World} {n : Nat} {a b F : Nat → Nat} (h : TS w wr n a b F) (S : Nat → Nat) : TS w (wr.setRow (n + 3) (lst .u64 S 5).toArray) n a b S := by
  obtain ⟨h1, h2, h3, h4, h5, h6⟩ := h
  exact ⟨(setRow_other wr (n + 3) n _ (by omega)).trans h1, (setRow_other wr (n + 3) (n + 1) _ (by omega)).trans h2, (setRow_other wr (n + 3) (n + 2) _ (by omega)).trans h3, h4.row S, Ext.row h5 (by omega) _, h6⟩
theorem TS.new (w : World) (a b : Nat → Nat) : TS w ((((w.alloc (.cells (lst .u64 a 5).toArray 77)).alloc (.cells (lst .u64 b 5).toArray 77)).alloc (.cells #[.int .u64 0, .int .u64 0, .int .u64 0, .int .u64 0, .int .u64 0] 77)).alloc (.cells #[.int .u64 0, .int .u64 0, .int .u64 0, .int .u64 0, .int .u64 0] 77)) w.heap.size a b (fun _ => 0) := by
  obtain ⟨h1, h2, h3, h4, h5⟩ := Row5.new3 w a b
  have h := RowH.new (((w.alloc (.cells (lst .u64 a 5).toArray 77)).alloc (.cells (lst .u64 b 5).toArray 77)).alloc (.cells #[.int .u64 0, .int .u64 0, .int .u64 0, .int .u64 0, .int .u64 0] 77)) .u64 5 77
  rw [show (((w.alloc (.cells (lst .u64 a 5).toArray 77)).alloc (.cells (lst .u64 b 5).toArray 77)).alloc (.cells #[.int .u64 0, .int .u64 0, .int .u64 0, .int .u64 0, .int .u64 0] 77)).heap.size = w.heap.size + 3 by simp] at h
  have hx := (Ext.refl (((w.alloc (.cells (lst .u64 a 5).toArray 77)).alloc (.cells (lst .u64 b 5).toArray 77)).alloc (.cells #[.int .u64 0, .int .u64 0, .int .u64 0, .int .u64 0, .int .u64 0] 77))).alloc (.cells #[.int .u64 0, .int .u64 0, .int .u64 0, .int .u64 0, .int .u64 0] 77)
  exact ⟨h1.ext hx, h2.ext hx, h3.ext hx, h, h4.alloc _, h5⟩
/-- The numbers of a round. -/
theorem times_num {a b : Nat → Nat} (ha : ∀ j, j < 5 → a j ≤ 268435456) (hb : ∀ j, j < 5 → b j ≤ 67108864) (i k : Nat) (hi : i < 5) (hk : k < 5) :
    ∃ x y p z q s : Nat, a i = x ∧ b k = y ∧ IntKind.u64.wrap ((x : Int) * (y : Int)) = (p : Int) ∧ IntKind.i64.wrap ((i : Int) + (k : Int)) = (i : Int) + (k : Int) ∧ q < 5 ∧ tm a b (5 * i + k) q = z ∧ tm a b (5 * i + k + 1) = put (tm a b (5 * i + k)) q s ∧
      ((i : Int) + (k : Int) < 5 ∧ (i : Int) + (k : Int) = (q : Int) ∧ IntKind.u64.wrap ((z : Int) + (p : Int)) = (s : Int) ∨
       ¬ (i : Int) + (k : Int) < 5 ∧ IntKind.i64.wrap ((i : Int) + (k : Int) - 5) = (q : Int) ∧ ∃ p5 : Nat, IntKind.u64.wrap ((p : Int) * 5) = (p5 : Int) ∧ IntKind.u64.wrap ((z : Int) + (p5 : Int)) = (s : Int)) := by
  have h1 := Nat.mul_le_mul (ha i hi) (hb k hk)
  have h2 := tm_step a b i k hi hk
  have h3 : ∀ q, tm a b (5 * i + k) q ≤ 25 * (268435456 * 67108864 * 5) := fun q => Nat.le_trans (tm_le ha hb (5 * i + k) q (by omega)) (Nat.mul_le_mul_right _ (by omega))
  by_cases h : i + k < 5
  · rw [if_pos h] at h2
    have h4 := h3 (i + k)
    refine ⟨_, _, a i * b k, _, i + k, _, rfl, rfl, ?_, ?_, h, rfl, h2, Or.inl ⟨by omega, by omega, ?_⟩⟩
    · rw [IntKind.wrap_u64, ← Int.natCast_mul]; omega
    · rw [IntKind.wrap_i64]; omega
    · rw [IntKind.wrap_u64]; omega
  · rw [if_neg h] at h2
    have h4 := h3 (i + k - 5)
    refine ⟨_, _, a i * b k, _, i + k - 5, _, rfl, rfl, ?_, ?_, by omega, rfl, h2, Or.inr ⟨by omega, ?_, a i * b k * 5, ?_, ?_⟩⟩
    · rw [IntKind.wrap_u64, ← Int.natCast_mul]; omega
    · rw [IntKind.wrap_i64]; omega
    · rw [IntKind.wrap_i64]; omega
    · rw [IntKind.wrap_u64]; omega
    · rw [IntKind.wrap_u64]; omega
/-- The rounds of what goes out. -/
def rnds (n : Nat → Nat) : Nat → Nat → Nat
  | 0 => n
  | c + 1 => rndP (rnds n c)
theorem rnds_num {n : Nat → Nat} (h : ∀ j, j < 5 → n j < 4611686018427387904) : ∀ c, c ≤ 2 → ∀ j, j < 5 → rnds n c j < 4611686018427387904
  | 0, _ => h
  | c + 1, hc => fun j hj => by
    have h1 := rnds_num h c (by omega)
    have h2 := rnd_le (n := rnds n c) (M := 68719478784) (fun j hj => by have := h1 j hj; omega) j hj
    show rndP (rnds n c) j < _
    split at h2 <;> omega
theorem out_num {n : Nat → Nat} (h : ∀ j, j < 5 → n j < 4611686018427387904) : ∃ o c o5 s : Nat, cr n 5 = o ∧ cl n 5 0 = c ∧ IntKind.u64.wrap ((o : Int) * 5) = (o5 : Int) ∧ IntKind.u64.wrap ((c : Int) + (o5 : Int)) = (s : Int) ∧ rndP n = put (cl n 5) 0 s := by
  have h1 := cr_le (n := n) (M := 68719478784) (fun j hj => by have := h j hj; omega) 5 (Nat.le_refl _)
  have h2 := cl_lt n 0 (by decide)
  refine ⟨_, _, cr n 5 * 5, cl n 5 0 + cr n 5 * 5, rfl, rfl, ?_, ?_, rfl⟩
  · rw [IntKind.wrap_u64]; omega
  · rw [IntKind.wrap_u64]; omega
set_option maxHeartbeats 2000000 in
theorem times_any (a b : Nat → Nat) (ha : ∀ j, j < 5 → a j ≤ 268435456) (hb : ∀ j, j < 5 → b j ≤ 67108864) (w : World) :
    Calls Tryd.prog 41 #[L5 a, L5 b] w fun e w' => e = .returned (L5 (tmR a b)) ∧ Ext w w' := by
  have HNum : Hid (∀ i k, i < 5 → k < 5 → ∃ x y p z q s : Nat, a i = x ∧ b k = y ∧ IntKind.u64.wrap ((x : Int) * (y : Int)) = (p : Int) ∧ IntKind.i64.wrap ((i : Int) + (k : Int)) = (i : Int) + (k : Int) ∧ q < 5 ∧ tm a b (5 * i + k) q = z ∧ tm a b (5 * i + k + 1) = put (tm a b (5 * i + k)) q s ∧
      ((i : Int) + (k : Int) < 5 ∧ (i : Int) + (k : Int) = (q : Int) ∧ IntKind.u64.wrap ((z : Int) + (p : Int)) = (s : Int) ∨
       ¬ (i : Int) + (k : Int) < 5 ∧ IntKind.i64.wrap ((i : Int) + (k : Int) - 5) = (q : Int) ∧ ∃ p5 : Nat, IntKind.u64.wrap ((p : Int) * 5) = (p5 : Int) ∧ IntKind.u64.wrap ((z : Int) + (p5 : Int)) = (s : Int))) := fun i k hi hk => times_num ha hb i k hi hk
  have HB : Hid (∀ c, c ≤ 2 → ∀ j, j < 5 → rnds (tm a b 25) c j < 4611686018427387904) := rnds_num (fun j _ => by have := tm_le ha hb 25 j (Nat.le_refl _); omega)
  have HT : Hid (rnds (tm a b 25) 2 = tmR a b) := rfl
  obtain ⟨G, hG⟩ : ∃ G, Hid (tm a b = G) := ⟨_, rfl⟩
  have H0 : Hid (TS w ((((w.alloc (.cells (lst .u64 a 5).toArray 77)).alloc (.cells (lst .u64 b 5).toArray 77)).alloc (.cells #[.int .u64 0, .int .u64 0, .int .u64 0, .int .u64 0, .int .u64 0] 77)).alloc (.cells #[.int .u64 0, .int .u64 0, .int .u64 0, .int .u64 0, .int .u64 0] 77)) w.heap.size a b (G 0)) := by rw [← hG.out]; exact TS.new w a b
  rw [hG.out] at HNum HB HT
  generalize tmR a b = R at *
  clear hG ha hb
  go_enter Tryd.func41, Tryd.ntmps41
  go_wp2_with fail
  generalize ((((w.alloc (.cells (lst .u64 a 5).toArray 77)).alloc (.cells (lst .u64 b 5).toArray 77)).alloc (.cells #[.int .u64 0, .int .u64 0, .int .u64 0, .int .u64 0, .int .u64 0] 77)).alloc (.cells #[.int .u64 0, .int .u64 0, .int .u64 0, .int .u64 0, .int .u64 0] 77)) = W0 at *
  generalize w.heap.size = m at *
  go_loopw [10] (fun u10 wr => ∃ (i t : Nat), i ≤ 5 ∧ t = 5 * i ∧ u10 = .int .i64 i ∧ Hid (TS w wr m a b (G t))) (fun u10 _ => 5 - (intOf u10).toNat)
  case atStart => exact ⟨0, 0, by omega, rfl, rfl, H0⟩
  case round =>
    clear H0
    obtain ⟨i, t0, hi5, ht0, rfl, HC⟩ := hrel
    have HT0 : Hid (t0 = 5 * i) := ht0
    clear ht0
    by_cases hil : i < 5
    · have hi1 : (i : Int) < 5 := by omega
      have hi0 : (0 : Int) ≤ (i : Int) := by omega
      go_wp2_with fail
      go_loopw [13] (fun u13 wr => ∃ (k t : Nat), k ≤ 5 ∧ t = t0 + k ∧ u13 = .int .i64 k ∧ Hid (TS w wr m a b (G t))) (fun u13 _ => 5 - (intOf u13).toNat)
      case atStart => exact ⟨0, t0, by omega, rfl, rfl, HC⟩
      case round =>
        clear HC
        obtain ⟨k, t, hk5, ht, rfl, HC⟩ := hrel
        have HTt : Hid (t = t0 + k) := ht
        clear ht
        by_cases hkl : k < 5
        · have hk1 : (k : Int) < 5 := by omega
          have hk0 : (0 : Int) ≤ (k : Int) := by omega
          obtain ⟨x, y, p, z, q, s, ex, ey, mp, mik, hq, ez, es, hcase⟩ := HNum.out i k hil hkl
          rw [← HT0.out, ← HTt.out] at ez es
          have c1 := (HC.out.1.tab.2 i hil).1
          have c2 := (HC.out.2.1.tab.2 k hkl).1
          rw [ex] at c1
          rw [ey] at c2
          go_wp2_with fail
          go_quiet (fail)
          have HC1 : Hid (TS w (wr.drewN nq) m a b (G t)) := HC.out.ext ((Ext.refl _).drewN nq)
          clear HC c1 c2 ex ey mp
          generalize wr.drewN nq = W3 at *
          have c3 := HC1.out.2.2.2.1.tab.2 q hq
          rw [ez] at c3
          obtain ⟨c3, f3⟩ := c3
          have HC2 : Hid (TS w (W3.setCell ⟨m + 3, q, none⟩ (.int .u64 (s : Int))) m a b (G (t + 1))) := by
            rw [es]
            exact HC1.out.set q s
          have q0 : (0 : Int) ≤ (q : Int) := by omega
          have q1 : (q : Int) < 5 := by omega
          clear HC1 ez es
          rcases hcase with ⟨h1, h2, h3⟩ | ⟨h1, h2, p5, h3, h4⟩
          · rw [h2] at mik h1
            go_wp2_with fail
            go_roundw
            case rel => exact ⟨k + 1, t + 1, hkl, by have := HTt.out; omega, by go_num, HC2⟩
            case measure => simp [intOf]; omega
          · go_wp2_with fail
            go_roundw
            case rel => exact ⟨k + 1, t + 1, hkl, by have := HTt.out; omega, by go_num, HC2⟩
            case measure => simp [intOf]; omega
        · have HK : Hid (t = 5 * (i + 1)) := (by have := HTt.out; have := HT0.out; omega : t = 5 * (i + 1))
          have hnk : ¬ (k : Int) < 5 := by omega
          go_wp2
          go_roundw
          case rel => exact ⟨i + 1, t, hil, HK.out, by go_num, HC⟩
          case measure => simp [intOf]; omega
    · have HI : Hid (t0 = 25) := (by have := HT0.out; omega : t0 = 25)
      have hni : ¬ (i : Int) < 5 := by omega
      rw [HI.out] at HC
      clear HI HT0 HNum
      generalize G 25 = G at *
      go_wp2_with fail
      go_loopw [47] (fun u47 wr => ∃ (c : Nat), c ≤ 2 ∧ u47 = .int .i64 c ∧ Hid (TS w wr m a b (rnds G c))) (fun u47 _ => 2 - (intOf u47).toNat)
      case atStart => exact ⟨0, by omega, rfl, HC⟩
      case round =>
        clear HC
        obtain ⟨c, hc2, rfl, HC⟩ := hrel
        by_cases hcl : c < 2
        · have hc1 : (c : Int) < 2 := by omega
          have HBc := HB.out c hc2
          obtain ⟨o, d, o5, s, eo, ed, mo, ms, er⟩ := out_num HBc
          have HCar : Hid (∀ W, Calls Tryd.prog 61 #[L5 (rnds G c)] W fun e w' => e = .returned (.tuple #[L5 (cl (rnds G c) 5), .int .u64 (o : Int)]) ∧ Ext W w') := fun W => by
            have := carry_any (rnds G c) (fun j hj => by have := HBc j hj; omega) W
            rw [eo] at this
            exact this
          have HEr : Hid (rnds G (c + 1) = put (cl (rnds G c) 5) 0 s) := er
          clear HBc er eo
          have HRl := HC.out.2.2.2.1
          generalize rnds G c = A at *
          generalize cl A 5 = C at *
          go_wp2_with (first | (refine wpList_load_row rfl 77 _ rfl (m + 3) rfl 77 (lst .u64 (A) 5).toArray (0, 0) _ HRl Tryd.underlying77 rfl (by rw [Tryd.size77]; simp [lst_len]) ?_))
          refine (HCar.out _).mono ?_
          rintro e w1 ⟨rfl, HX1⟩
          have HC1 : Hid (TS w w1 m a b A) := HC.out.ext HX1
          clear HC HX1 HCar HRl
          have HRs := HC1.out.2.2.2.1
          have HC2 : Hid (TS w (w1.setRow (m + 3) (lst .u64 C 5).toArray) m a b C) := HC1.out.row C
          have HC3 : Hid (TS w ((w1.setRow (m + 3) (lst .u64 C 5).toArray).setCell ⟨m + 3, 0, none⟩ (.int .u64 (s : Int))) m a b (rnds G (c + 1))) := by
            rw [HEr.out]
            exact HC2.out.set 0 s
          obtain ⟨c4, f4⟩ := HC2.out.2.2.2.1.tab.2 0 (by decide)
          rw [ed] at c4
          clear HC1 HC2 ed HEr
          go_wp2_with (first | (refine wpList_store_row rfl 77 _ _ rfl (m + 3) (lst .u64 (C) 5).toArray rfl rfl 77 _ HRs (by rw [Tryd.size77]; simp [lst_len]) (by simp [lst_len]) (lst_one _ _ _) ?_))
          go_roundw
          case rel => exact ⟨c + 1, hcl, by go_num, HC3⟩
          case measure => simp [intOf]; omega
        · have HI : Hid (c = 2) := (by omega : c = 2)
          have hni : ¬ (c : Int) < 2 := by omega
          rw [HI.out, HT.out] at HC
          have HRa := HC.out.2.2.2.1
          have HRz := HC.out.2.2.1
          have HE := Ext.row HC.out.2.2.2.2.1 (b := m + 2) (Nat.le_trans HC.out.2.2.2.2.2 (Nat.le_add_right _ _)) (lst .u64 R 5).toArray
          have HRr := HRz.row R
          go_wp2_with (first | (refine wpList_load_row rfl 77 _ rfl (m + 3) rfl 77 (lst .u64 (R) 5).toArray (0, 0) _ HRa Tryd.underlying77 rfl (by rw [Tryd.size77]; simp [lst_len]) ?_) | (refine wpList_store_row rfl 77 _ _ rfl (m + 2) (lst .u64 (R) 5).toArray rfl rfl 77 _ HRz (by rw [Tryd.size77]; simp [lst_len]) (by simp [lst_len]) (lst_one _ _ _) ?_))
          refine bodyPost_ret (v := L5 R) (results_cell_row Tryd.results41 _ _ (m + 2) 77 _ (0, 0) _ rfl HRr Tryd.underlying77 rfl (by rw [Tryd.size77]; simp [lst_len])) rfl ⟨rfl, HE⟩
end Go.Proofs.YtbcgipapbamgfaaDoor
