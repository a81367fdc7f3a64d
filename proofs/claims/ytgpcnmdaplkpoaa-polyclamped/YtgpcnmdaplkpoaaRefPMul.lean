/-
  The document's product modulo 2^130 - 5, bit by bit (sandglassref10.mul), called; nothing old is turned.
-/
import Derived.Test.YtgpcnmdaplkpoaaRefPAdd
import Derived.Test.YtgpcnmdaplkpoaaRefBitx
namespace Go.Proofs.Ytgpcnmdaplkpoaa
open Go.RowKit
/-- The state of mul's run. -/
def PB (w wr : World) (n : Nat) (x0 x1 x2 x3 y0 y1 y2 y3 r0 r1 r2 r3 : Int) : Prop := Row wr n x0 x1 x2 x3 ∧ Row wr (n + 1) y0 y1 y2 y3 ∧ RowF wr (n + 1 + 1) 0 0 0 0 ∧ RowF wr (n + 1 + 1 + 1) r0 r1 r2 r3 ∧ Ext w wr
theorem PB.ext {w wr wy : World} {n : Nat} {x0 x1 x2 x3 y0 y1 y2 y3 r0 r1 r2 r3 : Int} (h : PB w wr n x0 x1 x2 x3 y0 y1 y2 y3 r0 r1 r2 r3) (hx : Ext wr wy) : PB w wy n x0 x1 x2 x3 y0 y1 y2 y3 r0 r1 r2 r3 :=
  ⟨h.1.ext hx, h.2.1.ext hx, h.2.2.1.ext hx, h.2.2.2.1.ext hx, h.2.2.2.2.trans hx⟩
theorem PB.set {w wr : World} {n : Nat} {x0 x1 x2 x3 y0 y1 y2 y3 r0 r1 r2 r3 v0 v1 v2 v3 : Int} (h : PB w wr n x0 x1 x2 x3 y0 y1 y2 y3 r0 r1 r2 r3) (hn : w.heap.size ≤ (n + 1 + 1 + 1)) :
    PB w ((((wr.setCell ⟨n + 1 + 1 + 1, 0, none⟩ (.int .u64 v0)).setCell ⟨n + 1 + 1 + 1, 1, none⟩ (.int .u64 v1)).setCell ⟨n + 1 + 1 + 1, 2, none⟩ (.int .u64 v2)).setCell ⟨n + 1 + 1 + 1, 3, none⟩ (.int .u64 v3)) n x0 x1 x2 x3 y0 y1 y2 y3 v0 v1 v2 v3 :=
  ⟨(((h.1.other (by omega)).other (by omega)).other (by omega)).other (by omega), (((h.2.1.other (by omega)).other (by omega)).other (by omega)).other (by omega), (((h.2.2.1.other (by omega)).other (by omega)).other (by omega)).other (by omega), h.2.2.2.1.set, Ext.st hn (Ext.st hn (Ext.st hn (Ext.st hn h.2.2.2.2)))⟩
theorem PB.new (w : World) (x0 x1 x2 x3 y0 y1 y2 y3 : Int) : PB w ((((w.alloc (.cells #[.int .u64 x0, .int .u64 x1, .int .u64 x2, .int .u64 x3] 48)).alloc (.cells #[.int .u64 y0, .int .u64 y1, .int .u64 y2, .int .u64 y3] 48)).alloc (.cells #[.int .u64 0, .int .u64 0, .int .u64 0, .int .u64 0] 48)).alloc (.cells #[.int .u64 0, .int .u64 0, .int .u64 0, .int .u64 0] 48)) w.heap.size x0 x1 x2 x3 y0 y1 y2 y3 0 0 0 0 := by
  have h2 := Row.two w x0 x1 x2 x3 y0 y1 y2 y3
  have h3 := RowF.new ((w.alloc (.cells #[.int .u64 x0, .int .u64 x1, .int .u64 x2, .int .u64 x3] 48)).alloc (.cells #[.int .u64 y0, .int .u64 y1, .int .u64 y2, .int .u64 y3] 48)) 0 0 0 0
  rw [show ((w.alloc (.cells #[.int .u64 x0, .int .u64 x1, .int .u64 x2, .int .u64 x3] 48)).alloc (.cells #[.int .u64 y0, .int .u64 y1, .int .u64 y2, .int .u64 y3] 48)).heap.size = w.heap.size + 1 + 1 from by simp] at h3
  have h4 := RowF.new (((w.alloc (.cells #[.int .u64 x0, .int .u64 x1, .int .u64 x2, .int .u64 x3] 48)).alloc (.cells #[.int .u64 y0, .int .u64 y1, .int .u64 y2, .int .u64 y3] 48)).alloc (.cells #[.int .u64 0, .int .u64 0, .int .u64 0, .int .u64 0] 48)) 0 0 0 0
  rw [show (((w.alloc (.cells #[.int .u64 x0, .int .u64 x1, .int .u64 x2, .int .u64 x3] 48)).alloc (.cells #[.int .u64 y0, .int .u64 y1, .int .u64 y2, .int .u64 y3] 48)).alloc (.cells #[.int .u64 0, .int .u64 0, .int .u64 0, .int .u64 0] 48)).heap.size = w.heap.size + 1 + 1 + 1 from by simp] at h4
  exact ⟨(h2.1.ext ((Ext.refl _).alloc _)).ext ((Ext.refl _).alloc _), (h2.2.ext ((Ext.refl _).alloc _)).ext ((Ext.refl _).alloc _), h3.ext ((Ext.refl _).alloc _), h4, ((((Ext.refl _).alloc _).alloc _).alloc _).alloc _⟩
/-- A power of two, shut. -/
def PTwo (k : Nat) : Nat := 2 ^ k
theorem VV_step (V i : Nat) : V / PTwo i = 2 * (V / PTwo (i + 1)) + V / PTwo i % 2 := by
  unfold PTwo
  rw [Nat.pow_succ, ← Nat.div_div_eq_div_mul]
  omega
theorem p_add {X Y : Int} {r0 r1 r2 r3 s0 s1 s2 s3 t0 t1 t2 t3 : Int} (hr : PMod X r0 r1 r2 r3) (hs : PMod Y s0 s1 s2 s3) (ht : PMod (val r0 r1 r2 r3 + val s0 s1 s2 s3) t0 t1 t2 t3) : PMod (X + Y) t0 t1 t2 t3 := by
  refine ht.cong ?_
  rw [hr.2, hs.2, ← Int.add_emod]
theorem p_double {A : Int} {V i : Nat} {r0 r1 r2 r3 s0 s1 s2 s3 : Int} (hr : PMod (A * ((V / PTwo (i + 1) : Nat) : Int)) r0 r1 r2 r3) (hs : PMod (val r0 r1 r2 r3 + val r0 r1 r2 r3) s0 s1 s2 s3) (hb : V / PTwo i % 2 = 0) : PMod (A * ((V / PTwo i : Nat) : Int)) s0 s1 s2 s3 := by
  refine (p_add hr hr hs).cong ?_
  rw [VV_step V i, hb]
  congr 1
  rw [← Int.mul_add]
  congr 1
  omega
theorem p_double1 {V i : Nat} {x0 x1 x2 x3 r0 r1 r2 r3 s0 s1 s2 s3 t0 t1 t2 t3 : Int} (hr : PMod (val x0 x1 x2 x3 * ((V / PTwo (i + 1) : Nat) : Int)) r0 r1 r2 r3) (hs : PMod (val r0 r1 r2 r3 + val r0 r1 r2 r3) s0 s1 s2 s3) (ht : PMod (val s0 s1 s2 s3 + val x0 x1 x2 x3) t0 t1 t2 t3) (hb : V / PTwo i % 2 = 1) : PMod (val x0 x1 x2 x3 * ((V / PTwo i : Nat) : Int)) t0 t1 t2 t3 := by
  refine ht.cong ?_
  rw [(p_add hr hr hs).2, Int.add_emod, Int.emod_emod_of_dvd _ (Int.dvd_refl _), ← Int.add_emod, VV_step V i, hb]
  congr 1
  have e : (((2 * (V / PTwo (i + 1)) + 1 : Nat)) : Int) = ((V / PTwo (i + 1) : Nat) : Int) + ((V / PTwo (i + 1) : Nat) : Int) + 1 := by omega
  rw [e, Int.mul_add, Int.mul_add, Int.mul_one]
def PBit (V : Nat) (i : Nat) : Bool := decide (V / PTwo i % 2 = 1)
set_option maxHeartbeats 2000000 in
theorem refPMul_any (x0 x1 x2 x3 y0 y1 y2 y3 : Int) (hx : Lim4 x0 x1 x2 x3) (hy : Lim4 y0 y1 y2 y3) (hlx : val x0 x1 x2 x3 < P13) (hly : val y0 y1 y2 y3 < 2722258935367507707706996859454145691648) (w : World) :
    Calls Try.prog 20 #[.agg #[.int .u64 x0, .int .u64 x1, .int .u64 x2, .int .u64 x3], .agg #[.int .u64 y0, .int .u64 y1, .int .u64 y2, .int .u64 y3]] w fun e w' => ∃ r0 r1 r2 r3 : Int, e = .returned (.agg #[.int .u64 r0, .int .u64 r1, .int .u64 r2, .int .u64 r3]) ∧ Hid (PMod (val x0 x1 x2 x3 * val y0 y1 y2 y3) r0 r1 r2 r3) ∧ Ext w w' := by
  obtain ⟨V, HV⟩ : ∃ V, Hid ((val y0 y1 y2 y3).toNat = V) := ⟨_, rfl⟩
  have HLX : Hid (val x0 x1 x2 x3 < P13) := hlx
  have HP0 := PB.new w x0 x1 x2 x3 y0 y1 y2 y3
  have HN : SizeLe w (w.heap.size + 1 + 1 + 1) := by unfold SizeLe; omega
  have HB : SizeLe w (w.heap.size + 1 + 1) := by unfold SizeLe; omega
  have HLo : Hid (∀ i : Nat, i < 131 → ∀ wx, Calls Try.prog 24 #[.agg #[.int .u64 y0, .int .u64 y1, .int .u64 y2, .int .u64 y3], .int .i64 i] wx fun e w' => e = .returned (.bool (PBit V i)) ∧ Ext wx w') := fun i hi wx => by
    have h := refBit_in y0 y1 y2 y3 i (by omega) wx
    rw [bitR_ok hy i (by omega)] at h
    unfold PBit
    rw [← HV.out]
    exact h
  have HS : Hid (PMod (val x0 x1 x2 x3 * ((V / PTwo 131 : Nat) : Int)) 0 0 0 0) := by
    have e : V / PTwo 131 = 0 := by
      apply Nat.div_eq_of_lt
      rw [← HV.out, show PTwo 131 = 2722258935367507707706996859454145691648 from by decide]
      have := (val_bd hy).1
      omega
    rw [e]
    exact ⟨by unfold Lim4 Lim; decide, by rw [show ((0 : Nat) : Int) = 0 from rfl, Int.mul_zero]; decide⟩
  have HVv : Hid (((V : Nat) : Int) = val y0 y1 y2 y3) := by
    have h := HV.out
    have := (val_bd hy).1
    show ((V : Nat) : Int) = val y0 y1 y2 y3
    omega
  clear hlx hly
  go_enter Try.func20, Try.ntmps20
  go_wp2
  generalize (((w.alloc (.cells #[.int .u64 x0, .int .u64 x1, .int .u64 x2, .int .u64 x3] 48)).alloc (.cells #[.int .u64 y0, .int .u64 y1, .int .u64 y2, .int .u64 y3] 48)).alloc (.cells #[.int .u64 0, .int .u64 0, .int .u64 0, .int .u64 0] 48)).alloc (.cells #[.int .u64 0, .int .u64 0, .int .u64 0, .int .u64 0] 48) = W0 at *
  generalize w.heap.size = n at *
  go_loopw [6] (fun u6 wr => ∃ (k : Nat) (r0 r1 r2 r3 : Int), k ≤ 131 ∧ u6 = .int .i64 ((k : Int) - 1) ∧ PB w wr n x0 x1 x2 x3 y0 y1 y2 y3 r0 r1 r2 r3 ∧ Hid (PMod (val x0 x1 x2 x3 * ((V / PTwo k : Nat) : Int)) r0 r1 r2 r3)) (fun u6 _ => (intOf u6 + 1).toNat)
  case atStart => exact ⟨131, 0, 0, 0, 0, by omega, by go_num, HP0, HS⟩
  case round =>
    obtain ⟨k, r0, r1, r2, r3, hk, rfl, HP, HQ⟩ := hrel
    clear HP0 HS
    obtain ⟨⟨l5, a0, a1, a2, a3⟩, b0, b1, b2, b3⟩ := HP.2.2.2.1
    by_cases hk0 : k = 0
    · subst hk0
      have HF : Hid (PMod (val x0 x1 x2 x3 * val y0 y1 y2 y3) r0 r1 r2 r3) := by
        have h := HQ.out
        rw [show PTwo 0 = 1 from rfl, Nat.div_one, HVv.out] at h
        exact h
      obtain ⟨⟨lz, c0, c1, c2, c3⟩, f0, f1, f2, f3⟩ := HP.2.2.1
      have HE : Hid (Ext w wr) := HP.2.2.2.2
      go_wp2
      refine bodyPost_ret (v := .agg #[.int .u64 r0, .int .u64 r1, .int .u64 r2, .int .u64 r3]) (by simp [results, Try.results20, go_sem, c0, c1, c2, c3]) rfl ⟨r0, r1, r2, r3, rfl, HF, ?_⟩
      exact Ext.st HB (Ext.st HB (Ext.st HB (Ext.st HB HE.out)))
    · obtain ⟨i, rfl⟩ : ∃ i, k = i + 1 := ⟨k - 1, by omega⟩
      have hi : i < 131 := by omega
      have hz : (((i + 1 : Nat) : Int) - 1) = (i : Int) := by omega
      rw [hz]
      have hi0 : (0 : Int) ≤ (i : Int) := by omega
      go_wp2_with fail
      refine (refPAdd_any _ _ _ _ _ _ _ _ HQ.out.1 HQ.out.1 HQ.out.less HQ.out.less _).mono ?_
      rintro e wy ⟨s0, s1, s2, s3, rfl, HA, HX⟩
      have HP1 := HP.ext HX
      clear HX l5 a0 a1 a2 a3 b0 b1 b2 b3 HP
      obtain ⟨⟨l5, a0, a1, a2, a3⟩, b0, b1, b2, b3⟩ := HP1.2.2.2.1
      have HP2 := HP1.set (v0 := s0) (v1 := s1) (v2 := s2) (v3 := s3) HN
      obtain ⟨lx, x0', x1', x2', x3'⟩ := HP1.1
      obtain ⟨ly, y0', y1', y2', y3'⟩ := HP1.2.1
      have hsub : IntKind.i64.wrap ((i : Int) - 1) = ((i : Nat) : Int) - 1 := by rw [IntKind.wrap_i64]; omega
      have hs := HA.out.1
      have HSL : Hid (val s0 s1 s2 s3 < P13) := HA.out.less
      have HS1 : Hid (PBit V i = false → PMod (val x0 x1 x2 x3 * ((V / PTwo i : Nat) : Int)) s0 s1 s2 s3) := fun h => p_double HQ.out HA.out (by unfold PBit at h; have := of_decide_eq_false h; omega)
      have HS2 : Hid (PBit V i = true → ∀ t0 t1 t2 t3, PMod (val s0 s1 s2 s3 + val x0 x1 x2 x3) t0 t1 t2 t3 → PMod (val x0 x1 x2 x3 * ((V / PTwo i : Nat) : Int)) t0 t1 t2 t3) := fun h _ _ _ _ k => p_double1 HQ.out HA.out k (by unfold PBit at h; exact of_decide_eq_true h)
      have hne1 : n + 1 + 1 + 1 ≠ n := by omega
      have hne2 : n + 1 + 1 + 1 ≠ n + 1 := by omega
      clear HQ HA
      go_wp2_with fail
      refine (HLo.out i hi _).mono ?_
      rintro e wz ⟨rfl, HX2⟩
      have HP3 := HP2.ext HX2
      clear HX2 HP2 HP1 l5 a0 a1 a2 a3 b0 b1 b2 b3 lx x0' x1' x2' x3' ly y0' y1' y2' y3'
      cases hbit : PBit V i
      · have HF0 : Hid (PMod (val x0 x1 x2 x3 * ((V / PTwo i : Nat) : Int)) s0 s1 s2 s3) := HS1.out hbit
        go_wp2
        go_roundw
        case rel => exact ⟨i, s0, s1, s2, s3, by omega, rfl, HP3, HF0⟩
        case measure => simp [intOf]
      · have HF1 := HS2.out hbit
        have HF : Hid (∀ t0 t1 t2 t3, PMod (val s0 s1 s2 s3 + val x0 x1 x2 x3) t0 t1 t2 t3 → PMod (val x0 x1 x2 x3 * ((V / PTwo i : Nat) : Int)) t0 t1 t2 t3) := HF1
        clear HF1
        obtain ⟨⟨l5, a0, a1, a2, a3⟩, b0, b1, b2, b3⟩ := HP3.2.2.2.1
        obtain ⟨lx, x0', x1', x2', x3'⟩ := HP3.1
        go_wp2_with fail
        refine (refPAdd_any _ _ _ _ _ _ _ _ hs hx HSL.out HLX.out _).mono ?_
        rintro e wu ⟨t0, t1, t2, t3, rfl, HT, HX4⟩
        have HP4 := HP3.ext HX4
        clear l5 a0 a1 a2 a3 b0 b1 b2 b3 lx x0' x1' x2' x3'
        obtain ⟨⟨l5, a0, a1, a2, a3⟩, b0, b1, b2, b3⟩ := HP4.2.2.2.1
        go_wp2
        go_roundw
        case rel => exact ⟨i, t0, t1, t2, t3, by omega, rfl, HP4.set HN, HF.out _ _ _ _ HT.out⟩
        case measure => simp [intOf]
end Go.Proofs.Ytgpcnmdaplkpoaa
