/-
  The document's number of 512 bits modulo q, bit by bit (sandglassref03.wide), called; nothing old is turned.
-/
import Derived.Test.YtnaiccfdbapdpaaDoorRefAs
namespace Go.Proofs.YtnaiccfdbapdpaaDoor
open Go.RowKit
/-- The state of wide's run. -/
def PB (w wr : World) (n : Nat) (x0 x1 x2 x3 y0 y1 y2 y3 r0 r1 r2 r3 : Int) : Prop := Row wr n x0 x1 x2 x3 ∧ Row wr (n + 1) y0 y1 y2 y3 ∧ RowF wr (n + 1 + 1) 0 0 0 0 ∧ RowF wr (n + 1 + 1 + 1) r0 r1 r2 r3 ∧ Ext w wr
theorem PB.ext {w wr wy : World} {n : Nat} {x0 x1 x2 x3 y0 y1 y2 y3 r0 r1 r2 r3 : Int} (h : PB w wr n x0 x1 x2 x3 y0 y1 y2 y3 r0 r1 r2 r3) (hx : Ext wr wy) : PB w wy n x0 x1 x2 x3 y0 y1 y2 y3 r0 r1 r2 r3 :=
  ⟨h.1.ext hx, h.2.1.ext hx, h.2.2.1.ext hx, h.2.2.2.1.ext hx, h.2.2.2.2.trans hx⟩
theorem PB.set {w wr : World} {n : Nat} {x0 x1 x2 x3 y0 y1 y2 y3 r0 r1 r2 r3 v0 v1 v2 v3 : Int} (h : PB w wr n x0 x1 x2 x3 y0 y1 y2 y3 r0 r1 r2 r3) (hn : w.heap.size ≤ (n + 1 + 1 + 1)) :
    PB w ((((wr.setCell ⟨n + 1 + 1 + 1, 0, none⟩ (.int .u64 v0)).setCell ⟨n + 1 + 1 + 1, 1, none⟩ (.int .u64 v1)).setCell ⟨n + 1 + 1 + 1, 2, none⟩ (.int .u64 v2)).setCell ⟨n + 1 + 1 + 1, 3, none⟩ (.int .u64 v3)) n x0 x1 x2 x3 y0 y1 y2 y3 v0 v1 v2 v3 :=
  ⟨(((h.1.other (by omega)).other (by omega)).other (by omega)).other (by omega), (((h.2.1.other (by omega)).other (by omega)).other (by omega)).other (by omega), (((h.2.2.1.other (by omega)).other (by omega)).other (by omega)).other (by omega), h.2.2.2.1.set, Ext.st hn (Ext.st hn (Ext.st hn (Ext.st hn h.2.2.2.2)))⟩
theorem PB.new (w : World) (x0 x1 x2 x3 y0 y1 y2 y3 : Int) : PB w ((((w.alloc (.cells #[.int .u64 x0, .int .u64 x1, .int .u64 x2, .int .u64 x3] 26)).alloc (.cells #[.int .u64 y0, .int .u64 y1, .int .u64 y2, .int .u64 y3] 26)).alloc (.cells #[.int .u64 0, .int .u64 0, .int .u64 0, .int .u64 0] 26)).alloc (.cells #[.int .u64 0, .int .u64 0, .int .u64 0, .int .u64 0] 26)) w.heap.size x0 x1 x2 x3 y0 y1 y2 y3 0 0 0 0 := by
  have h2 := Row.two w x0 x1 x2 x3 y0 y1 y2 y3
  have h3 := RowF.new ((w.alloc (.cells #[.int .u64 x0, .int .u64 x1, .int .u64 x2, .int .u64 x3] 26)).alloc (.cells #[.int .u64 y0, .int .u64 y1, .int .u64 y2, .int .u64 y3] 26)) 0 0 0 0
  rw [show ((w.alloc (.cells #[.int .u64 x0, .int .u64 x1, .int .u64 x2, .int .u64 x3] 26)).alloc (.cells #[.int .u64 y0, .int .u64 y1, .int .u64 y2, .int .u64 y3] 26)).heap.size = w.heap.size + 1 + 1 from by simp] at h3
  have h4 := RowF.new (((w.alloc (.cells #[.int .u64 x0, .int .u64 x1, .int .u64 x2, .int .u64 x3] 26)).alloc (.cells #[.int .u64 y0, .int .u64 y1, .int .u64 y2, .int .u64 y3] 26)).alloc (.cells #[.int .u64 0, .int .u64 0, .int .u64 0, .int .u64 0] 26)) 0 0 0 0
  rw [show (((w.alloc (.cells #[.int .u64 x0, .int .u64 x1, .int .u64 x2, .int .u64 x3] 26)).alloc (.cells #[.int .u64 y0, .int .u64 y1, .int .u64 y2, .int .u64 y3] 26)).alloc (.cells #[.int .u64 0, .int .u64 0, .int .u64 0, .int .u64 0] 26)).heap.size = w.heap.size + 1 + 1 + 1 from by simp] at h4
  exact ⟨(h2.1.ext ((Ext.refl _).alloc _)).ext ((Ext.refl _).alloc _), (h2.2.ext ((Ext.refl _).alloc _)).ext ((Ext.refl _).alloc _), h3.ext ((Ext.refl _).alloc _), h4, ((((Ext.refl _).alloc _).alloc _).alloc _).alloc _⟩
/-- The number of 512 bits. -/
def VV (X Y : Int) : Nat := 2 ^ 256 * Y.toNat + X.toNat
/-- A power of two, shut. -/
def P2 (k : Nat) : Nat := 2 ^ k
theorem P2_add (a b : Nat) : P2 (a + b) = P2 a * P2 b := Nat.pow_add 2 a b
theorem VV_bit {X Y : Int} (hX : X < B256) (i : Nat) : VV X Y / P2 i % 2 = (if i < 256 then X.toNat / 2 ^ i % 2 else Y.toNat / 2 ^ (i - 256) % 2) := by
  have hx : X.toNat < 2 ^ 256 := by rw [show (2 : Nat) ^ 256 = 115792089237316195423570985008687907853269984665640564039457584007913129639936 from by decide]; unfold B256 at hX; omega
  have h := Nat.testBit_two_pow_mul_add Y.toNat hx i
  unfold VV P2
  generalize 2 ^ 256 * Y.toNat + X.toNat = V at *
  split at h
  · rename_i hi
    rw [if_pos hi]
    rw [Nat.testBit_eq_decide_div_mod_eq, Nat.testBit_eq_decide_div_mod_eq, decide_eq_decide] at h
    generalize V / 2 ^ i = a at *
    generalize X.toNat / 2 ^ i = b at *
    omega
  · rename_i hi
    rw [if_neg hi]
    rw [Nat.testBit_eq_decide_div_mod_eq, Nat.testBit_eq_decide_div_mod_eq, decide_eq_decide] at h
    generalize V / 2 ^ i = a at *
    generalize Y.toNat / 2 ^ (i - 256) = b at *
    omega
theorem VV_step (V i : Nat) : V / P2 i = 2 * (V / P2 (i + 1)) + V / P2 i % 2 := by
  unfold P2
  rw [Nat.pow_succ, ← Nat.div_div_eq_div_mul]
  omega
theorem VV_top {X Y : Int} (hX : X < B256) (hY : Y < B256) : VV X Y / P2 512 = 0 := by
  apply Nat.div_eq_of_lt
  rw [show P2 512 = P2 256 * P2 256 from P2_add 256 256, show P2 256 = 115792089237316195423570985008687907853269984665640564039457584007913129639936 from by decide]
  unfold VV B256 at *
  rw [show (2 : Nat) ^ 256 = 115792089237316195423570985008687907853269984665640564039457584007913129639936 from by decide]
  omega
theorem VV_val {X Y : Int} (hX : 0 ≤ X) (hY : 0 ≤ Y) : ((VV X Y : Nat) : Int) = X + B256 * Y := by
  unfold VV B256
  rw [show (2 : Nat) ^ 256 = 115792089237316195423570985008687907853269984665640564039457584007913129639936 from by decide]
  omega
theorem q_add {X Y : Int} {r0 r1 r2 r3 s0 s1 s2 s3 t0 t1 t2 t3 : Int} (hr : QMod X r0 r1 r2 r3) (hs : QMod Y s0 s1 s2 s3) (ht : QMod (val r0 r1 r2 r3 + val s0 s1 s2 s3) t0 t1 t2 t3) : QMod (X + Y) t0 t1 t2 t3 := by
  refine ht.cong ?_
  rw [hr.2, hs.2, ← Int.add_emod]
theorem q_double {V i : Nat} {r0 r1 r2 r3 s0 s1 s2 s3 : Int} (hr : QMod ((V / P2 (i + 1) : Nat) : Int) r0 r1 r2 r3) (hs : QMod (val r0 r1 r2 r3 + val r0 r1 r2 r3) s0 s1 s2 s3) (hb : V / P2 i % 2 = 0) : QMod ((V / P2 i : Nat) : Int) s0 s1 s2 s3 := by
  refine (q_add hr hr hs).cong ?_
  rw [VV_step V i, hb]
  congr 1
  omega
theorem q_double1 {V i : Nat} {r0 r1 r2 r3 s0 s1 s2 s3 t0 t1 t2 t3 : Int} (hr : QMod ((V / P2 (i + 1) : Nat) : Int) r0 r1 r2 r3) (hs : QMod (val r0 r1 r2 r3 + val r0 r1 r2 r3) s0 s1 s2 s3) (ht : QMod (val s0 s1 s2 s3 + val 1 0 0 0) t0 t1 t2 t3) (hb : V / P2 i % 2 = 1) : QMod ((V / P2 i : Nat) : Int) t0 t1 t2 t3 := by
  refine ht.cong ?_
  rw [(q_add hr hr hs).2, Int.add_emod, Int.emod_emod_of_dvd _ (Int.dvd_refl _), ← Int.add_emod, VV_step V i, hb, show val 1 0 0 0 = 1 from by decide]
  congr 1
  omega
def CB (V : Nat) (i : Nat) : Bool := decide (V / P2 i % 2 = 1)
set_option maxHeartbeats 2000000 in
theorem refwide_any (x0 x1 x2 x3 y0 y1 y2 y3 : Int) (hx : Lim4 x0 x1 x2 x3) (hy : Lim4 y0 y1 y2 y3) (w : World) :
    Calls Tryd.prog 45 #[.agg #[.int .u64 x0, .int .u64 x1, .int .u64 x2, .int .u64 x3], .agg #[.int .u64 y0, .int .u64 y1, .int .u64 y2, .int .u64 y3]] w fun e w' => ∃ r0 r1 r2 r3 : Int, e = .returned (.agg #[.int .u64 r0, .int .u64 r1, .int .u64 r2, .int .u64 r3]) ∧ Hid (QMod (val x0 x1 x2 x3 + B256 * val y0 y1 y2 y3) r0 r1 r2 r3) ∧ Ext w w' := by
  obtain ⟨V, HV⟩ : ∃ V, Hid (VV (val x0 x1 x2 x3) (val y0 y1 y2 y3) = V) := ⟨_, rfl⟩
  have HP0 := PB.new w x0 x1 x2 x3 y0 y1 y2 y3
  have HN : SizeLe w (w.heap.size + 1 + 1 + 1) := by unfold SizeLe; omega
  have HB : SizeLe w (w.heap.size + 1 + 1) := by unfold SizeLe; omega
  have HLo : Hid (∀ i : Nat, i < 256 → ∀ wx, Calls Tryd.prog 57 #[.agg #[.int .u64 x0, .int .u64 x1, .int .u64 x2, .int .u64 x3], .int .i64 i] wx fun e w' => e = .returned (.bool (CB V i)) ∧ Ext wx w') := fun i hi wx => by
    have h := refBit_in x0 x1 x2 x3 i hi wx
    rw [bitR_ok hx i hi] at h
    unfold CB
    rw [← HV.out, VV_bit (val_bd hx).2, if_pos hi]
    exact h
  have HHi : Hid (∀ i : Nat, 256 ≤ i → i < 512 → ∀ wx, Calls Tryd.prog 57 #[.agg #[.int .u64 y0, .int .u64 y1, .int .u64 y2, .int .u64 y3], .int .i64 ((i - 256 : Nat) : Int)] wx fun e w' => e = .returned (.bool (CB V i)) ∧ Ext wx w') := fun i h1 h2 wx => by
    have h := refBit_in y0 y1 y2 y3 (i - 256) (by omega) wx
    rw [bitR_ok hy (i - 256) (by omega)] at h
    unfold CB
    rw [← HV.out, VV_bit (val_bd hx).2, if_neg (by omega)]
    exact h
  have HS : Hid (QMod ((V / P2 512 : Nat) : Int) 0 0 0 0) := by
    rw [← HV.out, VV_top (val_bd hx).2 (val_bd hy).2]
    exact ⟨by unfold Lim4 Lim; decide, by decide⟩
  go_enter Tryd.func45, Tryd.ntmps45
  go_wp2
  generalize (((w.alloc (.cells #[.int .u64 x0, .int .u64 x1, .int .u64 x2, .int .u64 x3] 26)).alloc (.cells #[.int .u64 y0, .int .u64 y1, .int .u64 y2, .int .u64 y3] 26)).alloc (.cells #[.int .u64 0, .int .u64 0, .int .u64 0, .int .u64 0] 26)).alloc (.cells #[.int .u64 0, .int .u64 0, .int .u64 0, .int .u64 0] 26) = W0 at *
  generalize w.heap.size = n at *
  go_loopw [6] (fun u6 wr => ∃ (k : Nat) (r0 r1 r2 r3 : Int), k ≤ 512 ∧ u6 = .int .i64 ((k : Int) - 1) ∧ PB w wr n x0 x1 x2 x3 y0 y1 y2 y3 r0 r1 r2 r3 ∧ Hid (QMod ((V / P2 k : Nat) : Int) r0 r1 r2 r3)) (fun u6 _ => (intOf u6 + 1).toNat)
  case atStart => exact ⟨512, 0, 0, 0, 0, by omega, by go_num, HP0, HS⟩
  case round =>
    obtain ⟨k, r0, r1, r2, r3, hk, rfl, HP, HQ⟩ := hrel
    clear HP0 HS
    obtain ⟨⟨l5, a0, a1, a2, a3⟩, b0, b1, b2, b3⟩ := HP.2.2.2.1
    by_cases hk0 : k = 0
    · subst hk0
      have HF : Hid (QMod (val x0 x1 x2 x3 + B256 * val y0 y1 y2 y3) r0 r1 r2 r3) := by
        have h := HQ.out
        rw [show P2 0 = 1 from rfl, Nat.div_one, ← HV.out, VV_val (val_bd hx).1 (val_bd hy).1] at h
        exact h
      obtain ⟨⟨lz, c0, c1, c2, c3⟩, f0, f1, f2, f3⟩ := HP.2.2.1
      have HE : Hid (Ext w wr) := HP.2.2.2.2
      go_wp2
      refine bodyPost_ret (v := .agg #[.int .u64 r0, .int .u64 r1, .int .u64 r2, .int .u64 r3]) (by simp [results, Tryd.results45, go_sem, c0, c1, c2, c3]) rfl ⟨r0, r1, r2, r3, rfl, HF, ?_⟩
      exact Ext.st HB (Ext.st HB (Ext.st HB (Ext.st HB HE.out)))
    · obtain ⟨i, rfl⟩ : ∃ i, k = i + 1 := ⟨k - 1, by omega⟩
      have hi : i < 512 := by omega
      have hz : (((i + 1 : Nat) : Int) - 1) = (i : Int) := by omega
      rw [hz]
      have hi0 : (0 : Int) ≤ (i : Int) := by omega
      go_wp2_with fail
      refine (refSAdd_any _ _ _ _ _ _ _ _ HQ.out.1 HQ.out.1 _).mono ?_
      rintro e wy ⟨s0, s1, s2, s3, rfl, HA, HX⟩
      have HP1 := HP.ext HX
      clear HX l5 a0 a1 a2 a3 b0 b1 b2 b3 HP
      obtain ⟨⟨l5, a0, a1, a2, a3⟩, b0, b1, b2, b3⟩ := HP1.2.2.2.1
      have HP2 := HP1.set (v0 := s0) (v1 := s1) (v2 := s2) (v3 := s3) HN
      obtain ⟨lx, x0', x1', x2', x3'⟩ := HP1.1
      obtain ⟨ly, y0', y1', y2', y3'⟩ := HP1.2.1
      have hsub : IntKind.i64.wrap ((i : Int) - 1) = ((i : Nat) : Int) - 1 := by rw [IntKind.wrap_i64]; omega
      have hs := HA.out.1
      have HS1 : Hid (CB V i = false → QMod ((V / P2 i : Nat) : Int) s0 s1 s2 s3) := fun h => q_double HQ.out HA.out (by unfold CB at h; have := of_decide_eq_false h; omega)
      have HS2 : Hid (CB V i = true → ∀ t0 t1 t2 t3, QMod (val s0 s1 s2 s3 + val 1 0 0 0) t0 t1 t2 t3 → QMod ((V / P2 i : Nat) : Int) t0 t1 t2 t3) := fun h _ _ _ _ k => q_double1 HQ.out HA.out k (by unfold CB at h; exact of_decide_eq_true h)
      have l1 : Lim4 1 0 0 0 := ⟨lim_of _ rfl, lim_of _ rfl, lim_of _ rfl, lim_of _ rfl⟩
      have hne1 : n + 1 + 1 + 1 ≠ n := by omega
      have hne2 : n + 1 + 1 + 1 ≠ n + 1 := by omega
      clear HQ HA
      by_cases hcase : i < 256
      · have g1 : (i : Int) < 256 := by omega
        have g2 : ¬ (256 : Int) ≤ (i : Int) := by omega
        have d1 : decide ((256 : Int) ≤ (i : Int)) = false := by simpa using g2
        have d2 : decide ((i : Int) < 256) = true := by simpa using g1
        go_wp2_with fail
        refine (HLo.out i hcase _).mono ?_
        rintro e wz ⟨rfl, HX2⟩
        have HP3 := HP2.ext HX2
        clear HX2 HP2 HP1 l5 a0 a1 a2 a3 b0 b1 b2 b3 lx x0' x1' x2' x3' ly y0' y1' y2' y3'
        cases hbit : CB V i
        · have HF0 : Hid (QMod ((V / P2 i : Nat) : Int) s0 s1 s2 s3) := HS1.out hbit
          go_wp2
          go_roundw
          case rel => exact ⟨i, s0, s1, s2, s3, by omega, rfl, HP3, HF0⟩
          case measure => simp [intOf]
        · have HF1 := HS2.out hbit
          have HF : Hid (∀ t0 t1 t2 t3, QMod (val s0 s1 s2 s3 + val 1 0 0 0) t0 t1 t2 t3 → QMod ((V / P2 i : Nat) : Int) t0 t1 t2 t3) := HF1
          clear HF1
          obtain ⟨⟨l5, a0, a1, a2, a3⟩, b0, b1, b2, b3⟩ := HP3.2.2.2.1
          go_wp2_with fail
          go_region_with (first | (go_at_call 34; refine (refSmall_any 1 _).mono ?_; rintro e wv ⟨rfl, HX3⟩; have HPv := HP3.ext (Ext.trans (Ext.drew (Ext.refl _)) HX3); clear l5 a0 a1 a2 a3 b0 b1 b2 b3; obtain ⟨⟨l5, a0, a1, a2, a3⟩, b0, b1, b2, b3⟩ := HPv.2.2.2.1) | (go_at_call 29; refine (refSAdd_any _ _ _ _ 1 0 0 0 hs l1 _).mono ?_; rintro e wu ⟨t0, t1, t2, t3, rfl, HT, HX4⟩; have HP4 := HPv.ext HX4; clear l5 a0 a1 a2 a3 b0 b1 b2 b3; obtain ⟨⟨l5, a0, a1, a2, a3⟩, b0, b1, b2, b3⟩ := HP4.2.2.2.1))
          all_goals
            go_wp2
            go_roundw
            case rel => exact ⟨i, t0, t1, t2, t3, by omega, rfl, HP4.set HN, HF.out _ _ _ _ HT.out⟩
            case measure => simp [intOf]
      · have g1 : ¬ (i : Int) < 256 := by omega
        have g2 : (256 : Int) ≤ (i : Int) := by omega
        have d1 : decide ((256 : Int) ≤ (i : Int)) = true := by simpa using g2
        have d2 : decide ((i : Int) < 256) = false := by simpa using g1
        have hw2 : IntKind.i64.wrap ((i : Int) - 256) = ((i - 256 : Nat) : Int) := by rw [IntKind.wrap_i64]; omega
        go_wp2_with fail
        refine (HHi.out i (by omega) hi _).mono ?_
        rintro e wz ⟨rfl, HX2⟩
        have HP3 := HP2.ext HX2
        clear HX2 HP2 HP1 l5 a0 a1 a2 a3 b0 b1 b2 b3 lx x0' x1' x2' x3' ly y0' y1' y2' y3'
        cases hbit : CB V i
        · have HF0 : Hid (QMod ((V / P2 i : Nat) : Int) s0 s1 s2 s3) := HS1.out hbit
          go_wp2
          go_roundw
          case rel => exact ⟨i, s0, s1, s2, s3, by omega, rfl, HP3, HF0⟩
          case measure => simp [intOf]
        · have HF1 := HS2.out hbit
          have HF : Hid (∀ t0 t1 t2 t3, QMod (val s0 s1 s2 s3 + val 1 0 0 0) t0 t1 t2 t3 → QMod ((V / P2 i : Nat) : Int) t0 t1 t2 t3) := HF1
          clear HF1
          obtain ⟨⟨l5, a0, a1, a2, a3⟩, b0, b1, b2, b3⟩ := HP3.2.2.2.1
          go_wp2_with fail
          go_region_with (first | (go_at_call 34; refine (refSmall_any 1 _).mono ?_; rintro e wv ⟨rfl, HX3⟩; have HPv := HP3.ext (Ext.trans (Ext.drew (Ext.refl _)) HX3); clear l5 a0 a1 a2 a3 b0 b1 b2 b3; obtain ⟨⟨l5, a0, a1, a2, a3⟩, b0, b1, b2, b3⟩ := HPv.2.2.2.1) | (go_at_call 29; refine (refSAdd_any _ _ _ _ 1 0 0 0 hs l1 _).mono ?_; rintro e wu ⟨t0, t1, t2, t3, rfl, HT, HX4⟩; have HP4 := HPv.ext HX4; clear l5 a0 a1 a2 a3 b0 b1 b2 b3; obtain ⟨⟨l5, a0, a1, a2, a3⟩, b0, b1, b2, b3⟩ := HP4.2.2.2.1))
          all_goals
            go_wp2
            go_roundw
            case rel => exact ⟨i, t0, t1, t2, t3, by omega, rfl, HP4.set HN, HF.out _ _ _ _ HT.out⟩
            case measure => simp [intOf]
end Go.Proofs.YtnaiccfdbapdpaaDoor
