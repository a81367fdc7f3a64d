/-
  math/bits.Mul64, limbs.mulAdd and limbs.Mul, called; nothing old is turned.
-/
import Derived.Test.YtnaiccfdbapdpaaDoorAddx
import Derived.Test.YtnaiccfdbapdpaaDoorMaths
import Derived.Deep.RegionHeld3
import Derived.BigRegion
namespace Go.Proofs.YtnaiccfdbapdpaaDoor
open Go.RowKit
set_option maxHeartbeats 400000 in
theorem mul64_raw (x y : Int) (w : World) :
    Calls Tryd.prog 64 #[.int .u64 x, .int .u64 y] w fun e w' =>
      e = .returned (.tuple #[.int .u64 (mhi x y), .int .u64 (IntKind.u64.wrap (x * y))]) ∧ w' = w := by
  go_enter Tryd.func64, Tryd.ntmps64
  go_wp2
  go_ret2
  exact ⟨rfl, rfl⟩
theorem mul64_any (x y : Int) (hx : Lim x) (hy : Lim y) (w : World) :
    Calls Tryd.prog 64 #[.int .u64 x, .int .u64 y] w fun e w' =>
      ∃ hi lo : Int, e = .returned (.tuple #[.int .u64 hi, .int .u64 lo]) ∧ Hid (Prod1 x y hi lo) ∧ w' = w :=
  (mul64_raw x y w).mono fun _ _ h => ⟨_, _, h.1, mhi_ok x y hx hy, h.2⟩
set_option maxHeartbeats 400000 in
theorem mulAdd_any (x y c d : Int) (hx : Lim x) (hy : Lim y) (hc : Lim c) (hd : Lim d) (w : World) :
    Calls Tryd.prog 55 #[.int .u64 x, .int .u64 y, .int .u64 c, .int .u64 d] w fun e w' =>
      ∃ hi lo : Int, e = .returned (.tuple #[.int .u64 hi, .int .u64 lo]) ∧ Hid (MulAdd1 x y c d hi lo) ∧ w' = w := by
  go_enter Tryd.func55, Tryd.ntmps55
  go_wp2_with fail
  refine (mul64_any x y hx hy _).mono ?_
  rintro e w1 ⟨hi, lo, rfl, HP, rfl⟩
  obtain ⟨l1, k1, H1, e1⟩ := add64_any lo c 0 HP.out.2.1 hc (by omega) (by omega)
  obtain ⟨l2, k2, H2, e2⟩ := add64_any l1 d 0 H1.out.1 hd (by omega) (by omega)
  go_wp2
  go_ret2
  exact ⟨_, _, rfl, mulAdd_ok hx hy hc hd HP.out H1.out H2.out, rfl⟩
/-- The upper and the lower word of x*y + c + d. -/
def hiA (x y c d : Int) : Int := (x * y + c + d) / 18446744073709551616
def loA (x y c d : Int) : Int := (x * y + c + d) % 18446744073709551616
theorem mulAdd1_fn {x y c d hi lo : Int} (h : MulAdd1 x y c d hi lo) : hi = hiA x y c d ∧ lo = loA x y c d := by
  unfold MulAdd1 Lim at h
  unfold hiA loA
  generalize x * y = q at *
  omega
theorem hiloA_ok {x y c d : Int} (hx : Lim x) (hy : Lim y) (hc : Lim c) (hd : Lim d) : MulAdd1 x y c d (hiA x y c d) (loA x y c d) := by
  have hb := prod_bd x y hx hy
  unfold MulAdd1 Lim hiA loA at *
  generalize x * y = q at *
  refine ⟨?_, ?_, ?_⟩ <;> omega
theorem mulAdd_fn (x y c d : Int) (hx : Lim x) (hy : Lim y) (hc : Lim c) (hd : Lim d) (w : World) :
    Calls Tryd.prog 55 #[.int .u64 x, .int .u64 y, .int .u64 c, .int .u64 d] w fun e w' =>
      e = .returned (.tuple #[.int .u64 (hiA x y c d), .int .u64 (loA x y c d)]) ∧ w' = w :=
  (mulAdd_any x y c d hx hy hc hd w).mono fun _ _ ⟨hi, lo, he, hm, hw⟩ => by
    obtain ⟨rfl, rfl⟩ := mulAdd1_fn hm.out
    exact ⟨he, hw⟩
/-- A row of the product: behind j rounds the eight words and the carry. -/
def inn (a b : Nat → Int) (i : Nat) (P0 : Nat → Int) : Nat → (Nat → Int) × Int
  | 0 => (P0, 0)
  | j + 1 => (fun t => if t = i + j then loA (a i) (b j) ((inn a b i P0 j).1 (i + j)) (inn a b i P0 j).2 else (inn a b i P0 j).1 t, hiA (a i) (b j) ((inn a b i P0 j).1 (i + j)) (inn a b i P0 j).2)
def out (a b : Nat → Int) : Nat → Nat → Int
  | 0 => fun _ => 0
  | i + 1 => fun t => if t = i + 4 then (inn a b i (out a b i) 4).2 else (inn a b i (out a b i) 4).1 t
theorem inn_lim (a b : Nat → Int) (ha : ∀ i, Lim (a i)) (hb : ∀ i, Lim (b i)) (i : Nat) (P0 : Nat → Int) (h : ∀ t, Lim (P0 t)) (j : Nat) : (∀ t, Lim ((inn a b i P0 j).1 t)) ∧ Lim (inn a b i P0 j).2 := by
  induction j with
  | zero => exact ⟨h, by unfold inn Lim; simp⟩
  | succ j ih =>
    have := hiloA_ok (ha i) (hb j) (ih.1 (i + j)) ih.2
    refine ⟨fun t => ?_, this.1⟩
    simp only [inn]
    split
    · exact this.2.1
    · exact ih.1 t
theorem out_lim (a b : Nat → Int) (ha : ∀ i, Lim (a i)) (hb : ∀ i, Lim (b i)) (i : Nat) : ∀ t, Lim (out a b i t) := by
  induction i with
  | zero => intro t; unfold out Lim; simp
  | succ i ih =>
    have := inn_lim a b ha hb i _ ih 4
    intro t
    simp only [out]
    split
    · exact this.2
    · exact this.1 t
theorem wrap_small (i j : Nat) (hi : i < 4) (hj : j < 4) : IntKind.i64.wrap ((i : Int) + (j : Int)) = (i : Int) + (j : Int) := by
  rw [IntKind.wrap_i64]
  omega
attribute [local go_sem] setCell_drewN alloc_drewN
set_option maxHeartbeats 1000000 in
theorem mul_raw (a0 a1 a2 a3 b0 b1 b2 b3 : Int) (ha : Lim4 a0 a1 a2 a3) (hb : Lim4 b0 b1 b2 b3) (w : World) :
    Calls Tryd.prog 42 #[.agg #[.int .u64 a0, .int .u64 a1, .int .u64 a2, .int .u64 a3], .agg #[.int .u64 b0, .int .u64 b1, .int .u64 b2, .int .u64 b3]] w fun e w' =>
      ∃ P : Nat → Int, e = .returned (.tuple #[.agg #[.int .u64 (P 0), .int .u64 (P 1), .int .u64 (P 2), .int .u64 (P 3)], .agg #[.int .u64 (P 4), .int .u64 (P 5), .int .u64 (P 6), .int .u64 (P 7)]]) ∧
        Hid (P = out (wd a0 a1 a2 a3) (wd b0 b1 b2 b3) 4) ∧ Ext w w' := by
  have HA : Hid (∀ i, Lim (wd a0 a1 a2 a3 i)) := wd_lim ha
  have HB : Hid (∀ i, Lim (wd b0 b1 b2 b3 i)) := wd_lim hb
  obtain ⟨Af, HAf⟩ : ∃ f, Hid (wd a0 a1 a2 a3 = f) := ⟨_, rfl⟩
  obtain ⟨Bf, HBf⟩ : ∃ f, Hid (wd b0 b1 b2 b3 = f) := ⟨_, rfl⟩
  have hga : Hid (∀ i, i < 4 → [Value.int .u64 a0, .int .u64 a1, .int .u64 a2, .int .u64 a3][i]? = some (.int .u64 (Af i))) := fun i hi => HAf.out ▸ wd_get a0 a1 a2 a3 i hi
  have hgb : Hid (∀ i, i < 4 → [Value.int .u64 b0, .int .u64 b1, .int .u64 b2, .int .u64 b3][i]? = some (.int .u64 (Bf i))) := fun i hi => HBf.out ▸ wd_get b0 b1 b2 b3 i hi
  rw [HAf.out] at HA
  rw [HBf.out] at HB
  clear ha hb
  go_enter Tryd.func42, Tryd.ntmps42
  go_wp2
  go_loopw [10] (fun i wr => ∃ (k : Nat), k ≤ 4 ∧ i = .int .i64 k ∧ ∃ P, Hid (P = out Af Bf k) ∧ ∃ n, wr = (((((w.alloc (.cells #[.int .u64 a0, .int .u64 a1, .int .u64 a2, .int .u64 a3] 26)).alloc (.cells #[.int .u64 b0, .int .u64 b1, .int .u64 b2, .int .u64 b3] 26)).alloc (.cells #[.int .u64 0, .int .u64 0, .int .u64 0, .int .u64 0] 26)).alloc (.cells #[.int .u64 0, .int .u64 0, .int .u64 0, .int .u64 0] 26)).alloc (.cells (f8 P) 72)).drewN n) (fun i _ => 4 - (intOf i).toNat)
  case atStart => exact ⟨0, Nat.zero_le _, rfl, _, rfl, 0, rfl⟩
  case round =>
    obtain ⟨i, hi, rfl, P0, HP0, n0, rfl⟩ := hrel
    by_cases hlt : i < 4
    · have hi0 : (0 : Int) ≤ (i : Int) := by omega
      have hi1 : (i : Int) < 4 := by omega
      go_wp2
      go_loopw [8, 13] (fun c j wr => ∃ (k : Nat), k ≤ 4 ∧ j = .int .i64 k ∧ ∃ P C, c = .int .u64 C ∧ Hid ((P, C) = inn Af Bf i P0 k) ∧ ∃ n, wr = (((((w.alloc (.cells #[.int .u64 a0, .int .u64 a1, .int .u64 a2, .int .u64 a3] 26)).alloc (.cells #[.int .u64 b0, .int .u64 b1, .int .u64 b2, .int .u64 b3] 26)).alloc (.cells #[.int .u64 0, .int .u64 0, .int .u64 0, .int .u64 0] 26)).alloc (.cells #[.int .u64 0, .int .u64 0, .int .u64 0, .int .u64 0] 26)).alloc (.cells (f8 P) 72)).drewN n) (fun _ j _ => 4 - (intOf j).toNat)
      case atStart => exact ⟨0, Nat.zero_le _, rfl, _, _, rfl, rfl, n0, rfl⟩
      case round =>
        obtain ⟨j, hj, rfl, P, C, rfl, HI, n, rfl⟩ := hrel
        by_cases hjl : j < 4
        · have ga := hga.out i hlt
          have gb := hgb.out j hjl
          have ga2 := get_some ga
          have gb2 := get_some gb
          have gp := f8_get P (i + j) (by omega)
          have hj0 : (0 : Int) ≤ (j : Int) := by omega
          have hj1 : (j : Int) < 4 := by omega
          have hij0 : (0 : Int) ≤ (i : Int) + (j : Int) := by omega
          have hij1 : (i : Int) + (j : Int) < 8 := by omega
          have hadd := wrap_small i j hlt hjl
          have hij2 : ((i : Int) + (j : Int)).toNat = i + j := by omega
          have HL : Hid ((∀ t, Lim (P t)) ∧ Lim C) := by
            have h0 : ∀ t, Lim (P0 t) := by rw [HP0.out]; exact out_lim Af Bf HA.out HB.out i
            have := inn_lim Af Bf HA.out HB.out i P0 h0 j
            rw [← HI.out] at this
            exact this
          have HM : Hid (∀ wx, Calls Tryd.prog 55 #[.int .u64 (Af i), .int .u64 (Bf j), .int .u64 (P (i + j)), .int .u64 C] wx fun e w' =>
              e = .returned (.tuple #[.int .u64 (hiA (Af i) (Bf j) (P (i + j)) C), .int .u64 (loA (Af i) (Bf j) (P (i + j)) C)]) ∧ w' = wx) := fun wx => mulAdd_fn _ _ _ _ (HA.out i) (HB.out j) (HL.out.1 _) HL.out.2 wx
          have HS : Hid (∀ v, (f8 P).setIfInBounds (i + j) (.int .u64 v) = f8 (fun t => if t = i + j then v else P t)) := fun v => f8_set P (i + j) (by omega) v
          have HN : Hid ((fun t => if t = i + j then loA (Af i) (Bf j) (P (i + j)) C else P t, hiA (Af i) (Bf j) (P (i + j)) C) = inn Af Bf i P0 (j + 1)) := by
            show _ = _
            rw [inn, ← HI.out]
          generalize hiA (Af i) (Bf j) (P (i + j)) C = hv at HM HN
          generalize loA (Af i) (Bf j) (P (i + j)) C = lv at HM HN
          generalize Af i = ai at ga ga2 HM
          generalize Bf j = bj at gb gb2 HM
          generalize P (i + j) = pij at gp HM
          go_wp2
          go_region_with (go_at_call 55; refine (HM.out _).mono ?_; rintro e w' ⟨rfl, rfl⟩)
          all_goals
            go_wp2
            go_roundw
            case rel => exact ⟨j + 1, hjl, by go_num, _, hv, rfl, HN, n + 1, by rw [HS.out lv]⟩
            case measure => simp [intOf]; omega
        · obtain rfl : j = 4 := by omega
          have gp := f8_get P (i + 4) (by omega)
          have HS : Hid (∀ v, (f8 P).setIfInBounds (i + 4) (.int .u64 v) = f8 (fun t => if t = i + 4 then v else P t)) := fun v => f8_set P (i + 4) (by omega) v
          generalize P (i + 4) = pij at gp
          go_wp2
          exact ⟨⟨i + 1, hlt, by go_num, _, (by show _ = out Af Bf (i + 1); rw [out, ← HP0.out, ← HI.out]), n, by rw [HS.out C]⟩, by simp [intOf]; omega⟩
    · obtain rfl : i = 4 := by omega
      obtain ⟨p0, H0⟩ : ∃ p, Hid (P0 0 = p) := ⟨_, rfl⟩
      obtain ⟨p1, H1⟩ : ∃ p, Hid (P0 1 = p) := ⟨_, rfl⟩
      obtain ⟨p2, H2⟩ : ∃ p, Hid (P0 2 = p) := ⟨_, rfl⟩
      obtain ⟨p3, H3⟩ : ∃ p, Hid (P0 3 = p) := ⟨_, rfl⟩
      obtain ⟨p4, H4⟩ : ∃ p, Hid (P0 4 = p) := ⟨_, rfl⟩
      obtain ⟨p5, H5⟩ : ∃ p, Hid (P0 5 = p) := ⟨_, rfl⟩
      obtain ⟨p6, H6⟩ : ∃ p, Hid (P0 6 = p) := ⟨_, rfl⟩
      obtain ⟨p7, H7⟩ : ∃ p, Hid (P0 7 = p) := ⟨_, rfl⟩
      have hf : f8 P0 = #[.int .u64 p0, .int .u64 p1, .int .u64 p2, .int .u64 p3, .int .u64 p4, .int .u64 p5, .int .u64 p6, .int .u64 p7] := by
        unfold f8; rw [H0.out, H1.out, H2.out, H3.out, H4.out, H5.out, H6.out, H7.out]
      rw [hf]
      clear hf
      go_wp2
      go_region_held3 (fun w' => w'.cell? ⟨w.heap.size + 1 + 1 + 1 + 1, 0, none⟩ = some (.int .u64 p0) ∧ w'.cell? ⟨w.heap.size + 1 + 1 + 1 + 1, 1, none⟩ = some (.int .u64 p1) ∧ w'.cell? ⟨w.heap.size + 1 + 1 + 1 + 1, 2, none⟩ = some (.int .u64 p2) ∧ w'.cell? ⟨w.heap.size + 1 + 1 + 1 + 1, 3, none⟩ = some (.int .u64 p3) ∧ w'.cell? ⟨w.heap.size + 1 + 1 + 1 + 1, 4, none⟩ = some (.int .u64 p4) ∧ w'.cell? ⟨w.heap.size + 1 + 1 + 1 + 1, 5, none⟩ = some (.int .u64 p5) ∧ w'.cell? ⟨w.heap.size + 1 + 1 + 1 + 1, 6, none⟩ = some (.int .u64 p6) ∧ w'.cell? ⟨w.heap.size + 1 + 1 + 1 + 1, 7, none⟩ = some (.int .u64 p7)) (go_simp) (fail)
      all_goals
        go_wp2
        refine bodyPost_ret (v := .tuple #[.agg #[.int .u64 p0, .int .u64 p1, .int .u64 p2, .int .u64 p3], .agg #[.int .u64 p4, .int .u64 p5, .int .u64 p6, .int .u64 p7]]) (by simp [results, Tryd.results42, go_sem]) rfl ⟨P0, by rw [H0.out, H1.out, H2.out, H3.out, H4.out, H5.out, H6.out, H7.out], by rw [HAf.out, HBf.out]; exact HP0.out, ?_⟩
        exact ((((((Ext.refl _).alloc _).alloc _).alloc _).alloc _).alloc _).drewN _
theorem out_ok {a0 a1 a2 a3 b0 b1 b2 b3 : Int} (ha : Lim4 a0 a1 a2 a3) (hb : Lim4 b0 b1 b2 b3) {P : Nat → Int} (h : P = out (wd a0 a1 a2 a3) (wd b0 b1 b2 b3) 4) :
    Lim4 (P 0) (P 1) (P 2) (P 3) ∧ Lim4 (P 4) (P 5) (P 6) (P 7) ∧ MulP (val a0 a1 a2 a3) (val b0 b1 b2 b3) (val (P 0) (P 1) (P 2) (P 3)) (val (P 4) (P 5) (P 6) (P 7)) := by
  have z : Lim 0 := by unfold Lim; omega
  have e00 := hiloA_ok ha.1 hb.1 z z
  have e01 := hiloA_ok ha.1 hb.2.1 z e00.1
  have e02 := hiloA_ok ha.1 hb.2.2.1 z e01.1
  have e03 := hiloA_ok ha.1 hb.2.2.2 z e02.1
  have e10 := hiloA_ok ha.2.1 hb.1 e01.2.1 z
  have e11 := hiloA_ok ha.2.1 hb.2.1 e02.2.1 e10.1
  have e12 := hiloA_ok ha.2.1 hb.2.2.1 e03.2.1 e11.1
  have e13 := hiloA_ok ha.2.1 hb.2.2.2 e03.1 e12.1
  have e20 := hiloA_ok ha.2.2.1 hb.1 e11.2.1 z
  have e21 := hiloA_ok ha.2.2.1 hb.2.1 e12.2.1 e20.1
  have e22 := hiloA_ok ha.2.2.1 hb.2.2.1 e13.2.1 e21.1
  have e23 := hiloA_ok ha.2.2.1 hb.2.2.2 e13.1 e22.1
  have e30 := hiloA_ok ha.2.2.2 hb.1 e21.2.1 z
  have e31 := hiloA_ok ha.2.2.2 hb.2.1 e22.2.1 e30.1
  have e32 := hiloA_ok ha.2.2.2 hb.2.2.1 e23.2.1 e31.1
  have e33 := hiloA_ok ha.2.2.2 hb.2.2.2 e23.1 e32.1
  subst h
  exact mul16 e00 e01 e02 e03 e10 e11 e12 e13 e20 e21 e22 e23 e30 e31 e32 e33
theorem mul_any (a0 a1 a2 a3 b0 b1 b2 b3 : Int) (ha : Lim4 a0 a1 a2 a3) (hb : Lim4 b0 b1 b2 b3) (w : World) :
    Calls Tryd.prog 42 #[.agg #[.int .u64 a0, .int .u64 a1, .int .u64 a2, .int .u64 a3], .agg #[.int .u64 b0, .int .u64 b1, .int .u64 b2, .int .u64 b3]] w fun e w' =>
      ∃ l0 l1 l2 l3 h0 h1 h2 h3 : Int, e = .returned (.tuple #[.agg #[.int .u64 l0, .int .u64 l1, .int .u64 l2, .int .u64 l3], .agg #[.int .u64 h0, .int .u64 h1, .int .u64 h2, .int .u64 h3]]) ∧
        Hid (Lim4 l0 l1 l2 l3 ∧ Lim4 h0 h1 h2 h3 ∧ MulP (val a0 a1 a2 a3) (val b0 b1 b2 b3) (val l0 l1 l2 l3) (val h0 h1 h2 h3)) ∧ Ext w w' :=
  (mul_raw a0 a1 a2 a3 b0 b1 b2 b3 ha hb w).mono fun _ _ ⟨P, he, hP, hx⟩ => ⟨P 0, P 1, P 2, P 3, P 4, P 5, P 6, P 7, he, out_ok ha hb hP.out, hx⟩
end Go.Proofs.YtnaiccfdbapdpaaDoor
