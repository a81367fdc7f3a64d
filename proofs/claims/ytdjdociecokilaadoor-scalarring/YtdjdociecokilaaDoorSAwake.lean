/-
  The statements' own small call 'awake' (layer 3) answers true, where the package's variables hold what their initialisers lay; nothing old is turned.
-/
import Derived.Test.YtdjdociecokilaaDoorSFace
import Derived.Test.YtdjdociecokilaaDoorRefBytesx
namespace Go.Proofs.YtdjdociecokilaaDoor
open Go.RowKit
theorem qmod_const {X : Int} {r0 r1 r2 r3 c0 c1 c2 c3 : Int} (h : QMod X r0 r1 r2 r3) (hc : Lim4 c0 c1 c2 c3) (he : X % FQ = val c0 c1 c2 c3) : r0 = c0 ∧ r1 = c1 ∧ r2 = c2 ∧ r3 = c3 := val_inj h.1 hc (h.2.trans he)
theorem lim_m : Lim4 17562291160714782032 13611842547513532036 18446744073709551615 18446744069414584320 := ⟨lim_of _ rfl, lim_of _ rfl, lim_of _ rfl, lim_of _ rfl⟩
theorem inv_m {r0 r1 r2 r3 : Int} (h : InvP (val 17562291160714782032 13611842547513532036 18446744073709551615 18446744069414584320) r0 r1 r2 r3) : r0 = 17562291160714782032 ∧ r1 = 13611842547513532036 ∧ r2 = 18446744073709551615 ∧ r3 = 18446744069414584320 := by
  refine val_inj h.1 lim_m ?_
  have h1 := h.2.2.2 (by decide)
  have h2 : val r0 r1 r2 r3 % FQ = val r0 r1 r2 r3 := Int.emod_eq_of_lt (val_bd h.1).1 h.2.1
  have h3 : (val 17562291160714782032 13611842547513532036 18446744073709551615 18446744069414584320 * val 17562291160714782032 13611842547513532036 18446744073709551615 18446744069414584320) % FQ = 1 := by decide
  have h4 : (val 17562291160714782032 13611842547513532036 18446744073709551615 18446744069414584320 * (val 17562291160714782032 13611842547513532036 18446744073709551615 18446744069414584320 * val r0 r1 r2 r3)) % FQ = val r0 r1 r2 r3 := by
    rw [← Int.mul_assoc, Int.mul_emod, h3, Int.one_mul, Int.emod_emod_of_dvd _ (Int.dvd_refl _), h2]
  rw [Int.mul_emod, h1] at h4
  rw [← h4]
  decide
theorem sub1 {r0 r1 r2 r3 : Int} {c : Bool} (h : SubP 17562291160714782033 13611842547513532036 18446744073709551615 18446744069414584320 1 0 0 0 r0 r1 r2 r3 c) : r0 = 17562291160714782032 ∧ r1 = 13611842547513532036 ∧ r2 = 18446744073709551615 ∧ r3 = 18446744069414584320 := by
  have e1 : val 17562291160714782033 13611842547513532036 18446744073709551615 18446744069414584320 - val 1 0 0 0 = val 17562291160714782032 13611842547513532036 18446744073709551615 18446744069414584320 := by decide
  have hb := val_bd h.1
  have he := h.2
  rw [e1] at he
  refine val_inj h.1 lim_m ?_
  cases c
  · simpa using he
  · have h2 : (0 : Int) ≤ val 17562291160714782032 13611842547513532036 18446744073709551615 18446744069414584320 := by decide
    simp at he
    omega
theorem c_sub1 (w : World) : Calls Tryd.prog 25 #[.agg #[.int .u64 17562291160714782033, .int .u64 13611842547513532036, .int .u64 18446744073709551615, .int .u64 18446744069414584320], .agg #[.int .u64 1, .int .u64 0, .int .u64 0, .int .u64 0]] w fun e w' => ∃ c : Bool, e = .returned (.tuple #[.agg #[.int .u64 17562291160714782032, .int .u64 13611842547513532036, .int .u64 18446744073709551615, .int .u64 18446744069414584320], .bool c]) ∧ Ext w w' :=
  (refSub_raw _ _ _ _ 1 0 0 0 lim_FQ ⟨lim_of _ rfl, lim_of _ rfl, lim_of _ rfl, lim_of _ rfl⟩ w).mono fun _ _ ⟨r0, r1, r2, r3, c, h1, h2, h3⟩ => by
    obtain ⟨rfl, rfl, rfl, rfl⟩ := sub1 h2.out
    exact ⟨c, h1, h3⟩
theorem c_sadd (w : World) (hG : Gl w) : Calls Tryd.prog 9 #[.agg #[.int .u64 17562291160714782032, .int .u64 13611842547513532036, .int .u64 18446744073709551615, .int .u64 18446744069414584320], .agg #[.int .u64 1, .int .u64 0, .int .u64 0, .int .u64 0]] w fun e w' => e = .returned (.agg #[.int .u64 0, .int .u64 0, .int .u64 0, .int .u64 0]) ∧ Ext w w' :=
  (sadd_any _ _ _ _ 1 0 0 0 lim_m ⟨lim_of _ rfl, lim_of _ rfl, lim_of _ rfl, lim_of _ rfl⟩ w hG).mono fun _ _ ⟨r0, r1, r2, r3, h1, h2, h3⟩ => by
    obtain ⟨rfl, rfl, rfl, rfl⟩ := qmod_const (c0 := 0) (c1 := 0) (c2 := 0) (c3 := 0) h2.out ⟨lim_of _ rfl, lim_of _ rfl, lim_of _ rfl, lim_of _ rfl⟩ (by decide)
    exact ⟨h1, h3⟩
theorem c_smul (w : World) (hG : Gl w) : Calls Tryd.prog 18 #[.agg #[.int .u64 17562291160714782032, .int .u64 13611842547513532036, .int .u64 18446744073709551615, .int .u64 18446744069414584320], .agg #[.int .u64 17562291160714782032, .int .u64 13611842547513532036, .int .u64 18446744073709551615, .int .u64 18446744069414584320]] w fun e w' => e = .returned (.agg #[.int .u64 1, .int .u64 0, .int .u64 0, .int .u64 0]) ∧ Ext w w' :=
  (smul_any _ _ _ _ _ _ _ _ lim_m lim_m w hG).mono fun _ _ ⟨r0, r1, r2, r3, h1, h2, h3⟩ => by
    obtain ⟨rfl, rfl, rfl, rfl⟩ := qmod_const (c0 := 1) (c1 := 0) (c2 := 0) (c3 := 0) h2.out ⟨lim_of _ rfl, lim_of _ rfl, lim_of _ rfl, lim_of _ rfl⟩ (by decide)
    exact ⟨h1, h3⟩
theorem c_sinv (w : World) (hG : Gl w) : Calls Tryd.prog 20 #[.agg #[.int .u64 17562291160714782032, .int .u64 13611842547513532036, .int .u64 18446744073709551615, .int .u64 18446744069414584320]] w fun e w' => e = .returned (.agg #[.int .u64 17562291160714782032, .int .u64 13611842547513532036, .int .u64 18446744073709551615, .int .u64 18446744069414584320]) ∧ Ext w w' :=
  (sinv_any _ _ _ _ lim_m w hG).mono fun _ _ ⟨r0, r1, r2, r3, h1, h2, h3⟩ => by
    obtain ⟨rfl, rfl, rfl, rfl⟩ := inv_m h2.out
    exact ⟨h1, h3⟩
theorem c_svalid (w : World) (hG : Gl w) : Calls Tryd.prog 13 #[.agg #[.int .u64 17562291160714782033, .int .u64 13611842547513532036, .int .u64 18446744073709551615, .int .u64 18446744069414584320]] w fun e w' => e = .returned (.bool false) ∧ Ext w w' :=
  (svalid_any _ _ _ _ lim_FQ w hG).mono fun _ _ h => ⟨(show decide (val 17562291160714782033 13611842547513532036 18446744073709551615 18446744069414584320 < FQ) = false from by decide) ▸ h.1, h.2⟩
def z63 : ByteArray := ⟨#[0, 0, 0, 0, 0, 0, 0, 0, 0, 0, 0, 0, 0, 0, 0, 0, 0, 0, 0, 0, 0, 0, 0, 0, 0, 0, 0, 0, 0, 0, 0, 0, 0, 0, 0, 0, 0, 0, 0, 0, 0, 0, 0, 0, 0, 0, 0, 0, 0, 0, 0, 0, 0, 0, 0, 0, 0, 0, 0, 0, 0, 0, 0]⟩
def z64 : ByteArray := ⟨#[0, 0, 0, 0, 0, 0, 0, 0, 0, 0, 0, 0, 0, 0, 0, 0, 0, 0, 0, 0, 0, 0, 0, 0, 0, 0, 0, 0, 0, 0, 0, 0, 0, 0, 0, 0, 0, 0, 0, 0, 0, 0, 0, 0, 0, 0, 0, 0, 0, 0, 0, 0, 0, 0, 0, 0, 0, 0, 0, 0, 0, 0, 0, 5]⟩
theorem c_wide5 (w : World) (hG : Gl w) : Calls Tryd.prog 22 #[.string z64] w fun e w' => e = .returned (.tuple #[.agg #[.int .u64 5, .int .u64 0, .int .u64 0, .int .u64 0], .int .i64 0]) ∧ Ext w w' :=
  (swide_any z64 rfl w hG).mono fun _ _ ⟨r0, r1, r2, r3, h1, h2, h3⟩ => by
    obtain ⟨rfl, rfl, rfl, rfl⟩ := qmod_const (c0 := 5) (c1 := 0) (c2 := 0) (c3 := 0) h2.out ⟨lim_of _ rfl, lim_of _ rfl, lim_of _ rfl, lim_of _ rfl⟩ (by decide +kernel)
    exact ⟨h1, h3⟩
theorem c_wide63 (w : World) (hG : Gl w) : Calls Tryd.prog 22 #[.string z63] w fun e w' => e = .returned (.tuple #[.agg #[.int .u64 0, .int .u64 0, .int .u64 0, .int .u64 0], .int .i64 2]) ∧ Ext w w' :=
  swide_bad z63 (by decide) (by decide) w hG
/-- The cells of 63 new bytes. -/
def MC : Array Value := madeCells (Value.int .u8 0).cells 63
theorem MC_eq : MC = ((List.replicate 63 (0 : Int)).map (Value.int .u8)).toArray := by kernel_rfl
theorem run_mk63 (w : World) : (Instr.makeSlice 42 (.int .i64 63) (.int .i64 63)).run Tryd.prog w = .ok (.slice (some ⟨w.heap.size, 0, none⟩) 63 63) (w.alloc (.cells MC 5)) := by
  obtain ⟨i0, hi, hz0, hz1, hz2⟩ := info_parts Tryd.info5
  have h := run_makeSlice (P := Tryd.prog) w 42 5 i0 (.int .u8 0) Tryd.underlying42 hi hz0 .i64 .i64 63 63 (by decide) (by decide) (by rw [hz1]; decide) (by rw [hz2]; decide) (by decide)
  rw [hz1] at h
  exact h
theorem run_z63 (w : World) : (convert 42 9 (.slice (some ⟨w.heap.size, 0, none⟩) 63 63)).run Tryd.prog (w.alloc (.cells MC 5)) = .ok (.string z63) (w.alloc (.cells MC 5)) := by
  rw [run_convert_bytes_string _ 42 9 5 _ _ _ Tryd.underlying42 Tryd.underlying5 Tryd.underlying9]
  rw [run_bytesToString _ _ _ _ (List.replicate 63 0)]
  · have := foldl_push (List.replicate 63 0) []
    rw [show (ByteArray.empty : ByteArray) = ⟨([] : List UInt8).toArray⟩ from rfl, this]
    rfl
  · have := run_loadCells_list (P := Tryd.prog) (w := w.alloc (.cells MC 5)) ⟨w.heap.size, 0, none⟩ ((List.replicate 63 0).map (Value.int .u8)) (by
      intro j v h
      rw [show (⟨w.heap.size, 0, none⟩ : Addr).add j = ⟨w.heap.size, j, none⟩ from by simp [Addr.add]; omega, World.cell?_alloc_at _ _ _ _ rfl, MC_eq]
      simpa using h)
    exact this
attribute [local go_sem] run_eq4
set_option maxHeartbeats 2000000 in
theorem awake_any (w : World) (hG : Gl w) : Calls Tryd.prog 17 #[] w fun e w' => e = .returned (.bool true) ∧ Ext w w' := by
  have hmk := run_mk63 w
  have hcv := run_z63 w
  have hcat : z63 ++ ⟨#[5]⟩ = z64 := rfl
  have hs63 : z63.size = 63 := rfl
  have q1 : eq4 5 0 0 0 5 0 0 0 = true := rfl
  have q2 : eq4 0 0 0 0 0 0 0 0 = true := rfl
  have q3 : eq4 1 0 0 0 1 0 0 0 = true := rfl
  have q4 : eq4 17562291160714782032 13611842547513532036 18446744073709551615 18446744069414584320 17562291160714782032 13611842547513532036 18446744073709551615 18446744069414584320 = true := by decide
  go_enter Tryd.func17, Tryd.ntmps17
  go_wp2_with fail
  have HE0 : Hid (Ext w (w.alloc (.cells MC 5))) := (Ext.refl _).alloc _
  clear hmk hcv
  generalize w.alloc (.cells MC 5) = W1 at *
  refine (c_wide5 _ (hG.ext HE0.out)).mono ?_
  rintro e w2 ⟨rfl, HX⟩
  have RA := Row.new w2 5 0 0 0
  have HE2 : Hid (Ext w (w2.alloc (.cells #[.int .u64 5, .int .u64 0, .int .u64 0, .int .u64 0] 24))) := (HE0.out.trans HX).alloc _
  clear HX HE0
  go_wp2_with fail
  generalize w2.alloc (.cells #[.int .u64 5, .int .u64 0, .int .u64 0, .int .u64 0] 24) = W2 at *
  generalize w2.heap.size = ba at *
  refine (c_wide63 _ (hG.ext HE2.out)).mono ?_
  rintro e w3 ⟨rfl, HX⟩
  have HXa := HX.alloc (.cells #[.int .u64 0, .int .u64 0, .int .u64 0, .int .u64 0] 24)
  have RA3 := RA.ext HXa
  have HE3 : Hid (Ext w (w3.alloc (.cells #[.int .u64 0, .int .u64 0, .int .u64 0, .int .u64 0] 24))) := HE2.out.trans HXa
  clear HX HXa RA HE2
  go_wp2_with fail
  generalize w3.alloc (.cells #[.int .u64 0, .int .u64 0, .int .u64 0, .int .u64 0] 24) = W3 at *
  generalize w3.heap.size = bb at *
  refine (refOrder_any _).mono ?_
  rintro e w4 ⟨rfl, HX⟩
  have RA4 := RA3.ext HX
  have HE4 : Hid (Ext w w4) := HE3.out.trans HX
  clear HX RA3 HE3
  go_wp2_with fail
  refine (c_sub1 _).mono ?_
  rintro e w5 ⟨c, rfl, HX⟩
  have HXa := HX.alloc (.cells #[.int .u64 17562291160714782032, .int .u64 13611842547513532036, .int .u64 18446744073709551615, .int .u64 18446744069414584320] 24)
  have R1 := RA4.ext HXa
  have R2 := Row.new w5 17562291160714782032 13611842547513532036 18446744073709551615 18446744069414584320
  have HE5 : Hid (Ext w (w5.alloc (.cells #[.int .u64 17562291160714782032, .int .u64 13611842547513532036, .int .u64 18446744073709551615, .int .u64 18446744069414584320] 24))) := HE4.out.trans HXa
  have G0 := hG.ext HE5.out
  clear HX HXa RA4 HE4
  go_wp2_with fail
  generalize w5.alloc (.cells #[.int .u64 17562291160714782032, .int .u64 13611842547513532036, .int .u64 18446744073709551615, .int .u64 18446744069414584320] 24) = W0 at *
  generalize w5.heap.size = bm at *
  go_region_held3 (fun wx : World => Ext W0 wx ∧ wx.cell? ⟨ba, 0, none⟩ = some (.int .u64 5) ∧ wx.cell? ⟨ba, 1, none⟩ = some (.int .u64 0) ∧ wx.cell? ⟨ba, 2, none⟩ = some (.int .u64 0) ∧ wx.cell? ⟨ba, 3, none⟩ = some (.int .u64 0) ∧ wx.cell? ⟨bm, 0, none⟩ = some (.int .u64 17562291160714782032) ∧ wx.cell? ⟨bm, 1, none⟩ = some (.int .u64 13611842547513532036) ∧ wx.cell? ⟨bm, 2, none⟩ = some (.int .u64 18446744073709551615) ∧ wx.cell? ⟨bm, 3, none⟩ = some (.int .u64 18446744069414584320)) (first | exact keep2 (Ext.drew (Ext.refl _)) R1 R2 | exact keep2 (by assumption) R1 R2) (first | (go_at_call 9; with_reducible refine (c_sadd _ (G0.ext (by simp only [*]))).mono ?_; rintro e wy ⟨rfl, HX⟩; have hEy : Ext W0 wy := (by refine Ext.trans ?_ HX; simp only [*])) | (go_at_call 18; with_reducible refine (c_smul _ (G0.ext (by simp only [*]))).mono ?_; rintro e wy ⟨rfl, HX⟩; have hEy : Ext W0 wy := (by refine Ext.trans ?_ HX; simp only [*])) | (go_at_call 20; with_reducible refine (c_sinv _ (G0.ext (by simp only [*]))).mono ?_; rintro e wy ⟨rfl, HX⟩; have hEy : Ext W0 wy := (by refine Ext.trans ?_ HX; simp only [*])) | (go_at_call 15; with_reducible refine (sorder_any _ (G0.ext (by simp only [*]))).mono ?_; rintro e wy ⟨rfl, HX⟩; have hEy : Ext W0 wy := (by refine Ext.trans ?_ HX; simp only [*])) | (go_at_call 13; with_reducible refine (c_svalid _ (G0.ext (by simp only [*]))).mono ?_; rintro e wy ⟨rfl, HX⟩; have hEy : Ext W0 wy := (by refine Ext.trans ?_ HX; simp only [*])))
  all_goals
    have hE : Ext w wy := HE5.out.trans hEy
    clear hEy q1 q2 q3 q4 hcat hs63
    go_wp2
    go_ret
    exact ⟨rfl, hE⟩
end Go.Proofs.YtdjdociecokilaaDoor
