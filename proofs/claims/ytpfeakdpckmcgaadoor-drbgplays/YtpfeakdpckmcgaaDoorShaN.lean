/-
  sha.next, called where the package's variables hold what their initialisers lay: eight words behind a block; nothing old is turned.
-/
import Derived.Test.YtpfeakdpckmcgaaDoorShaW
import Derived.Test.YtpfeakdpckmcgaaDoorShaX
namespace Go.Proofs.YtpfeakdpckmcgaaDoor
open Go.RowKit
/-- Choice or majority, for the walk. -/
def ThreeC (fn a b c r : Nat) : Prop := ∀ wx, Calls Tryd.prog fn #[.int .u32 (a : Int), .int .u32 (b : Int), .int .u32 (c : Int)] wx fun e w' => e = .returned (.int .u32 (r : Int)) ∧ w' = wx
theorem ThreeC.call {fn a b c r : Nat} (h : ThreeC fn a b c r) (wx : World) : Calls Tryd.prog fn #[.int .u32 (a : Int), .int .u32 (b : Int), .int .u32 (c : Int)] wx fun e w' => e = .returned (.int .u32 (r : Int)) ∧ w' = wx := h wx
/-- One round, sum by sum. -/
theorem round_sums (a b c d e f g h k w : Nat) (ha : a < 4294967296) (hb : b < 4294967296) (hc : c < 4294967296) (he : e < 4294967296) (hf : f < 4294967296) (hg : g < 4294967296) :
    ∃ y2 p3 o1 o2 o3 o4 t2 q5 tw n0 n4 : Nat, OneC 63 e y2 ∧ ThreeC 64 e f g p3 ∧ OneC 65 a t2 ∧ ThreeC 66 a b c q5 ∧
    (IntKind.u32.wrap ((h : Int) + (y2 : Int)) = (o1 : Int) ∧ IntKind.u32.wrap ((o1 : Int) + (p3 : Int)) = (o2 : Int) ∧ IntKind.u32.wrap ((o2 : Int) + (k : Int)) = (o3 : Int) ∧ IntKind.u32.wrap ((o3 : Int) + (w : Int)) = (o4 : Int)) ∧
    (IntKind.u32.wrap ((t2 : Int) + (q5 : Int)) = (tw : Int) ∧ IntKind.u32.wrap ((o4 : Int) + (tw : Int)) = (n0 : Int) ∧ IntKind.u32.wrap ((d : Int) + (o4 : Int)) = (n4 : Int)) ∧
    [n0, a, b, c, n4, e, f, g] = rstep [a, b, c, d, e, f, g, h] k w := by
  refine ⟨bs1 e, chf e f g, (h + bs1 e) % 4294967296, (h + bs1 e + chf e f g) % 4294967296, (h + bs1 e + chf e f g + k) % 4294967296, (h + bs1 e + chf e f g + k + w) % 4294967296, bs0 a, majf a b c, (bs0 a + majf a b c) % 4294967296, (h + bs1 e + chf e f g + k + w + (bs0 a + majf a b c)) % 4294967296, (d + (h + bs1 e + chf e f g + k + w)) % 4294967296,
    bs1_any e he, cho_any e f g he hf hg, bs0_any a ha, maj_any a b c ha hb hc, ⟨?_, ?_, ?_, ?_⟩, ⟨?_, ?_, ?_⟩, rfl⟩
  all_goals (rw [IntKind.wrap_u32']; omega)
theorem lst8 (kd : IntKind) (T : Nat → Nat) : (lst kd T 8).toArray = #[.int kd (T 0 : Int), .int kd (T 1 : Int), .int kd (T 2 : Int), .int kd (T 3 : Int), .int kd (T 4 : Int), .int kd (T 5 : Int), .int kd (T 6 : Int), .int kd (T 7 : Int)] := rfl
theorem lst8z : (lst .u32 (fun _ => 0) 8).toArray = #[.int .u32 0, .int .u32 0, .int .u32 0, .int .u32 0, .int .u32 0, .int .u32 0, .int .u32 0, .int .u32 0] := rfl
theorem end_sums {V0 : List Nat} {Bf F : Nat → Nat} {va vb vc vd ve vf vg vx a b c d e f g x : Nat} (h8 : V0.length = 8) (hl : ∀ x ∈ V0, x < 4294967296) (HF : F = fun i => (blockF KK Bf V0).getD i 0) (hV : V0 = [va, vb, vc, vd, ve, vf, vg, vx]) (hr : [a, b, c, d, e, f, g, x] = rd KK (wl Bf 64) V0 64) :
    IntKind.u32.wrap ((va : Int) + (a : Int)) = (F 0 : Int) ∧ IntKind.u32.wrap ((vb : Int) + (b : Int)) = (F 1 : Int) ∧ IntKind.u32.wrap ((vc : Int) + (c : Int)) = (F 2 : Int) ∧ IntKind.u32.wrap ((vd : Int) + (d : Int)) = (F 3 : Int) ∧ IntKind.u32.wrap ((ve : Int) + (e : Int)) = (F 4 : Int) ∧ IntKind.u32.wrap ((vf : Int) + (f : Int)) = (F 5 : Int) ∧ IntKind.u32.wrap ((vg : Int) + (g : Int)) = (F 6 : Int) ∧ IntKind.u32.wrap ((vx : Int) + (x : Int)) = (F 7 : Int) := by
  have HFi : ∀ i, i < 8 → F i = (V0.getD i 0 + [a, b, c, d, e, f, g, x].getD i 0) % 4294967296 := fun i hi => by
    rw [HF]
    show (blockF KK Bf V0).getD i 0 = _
    rw [block_get _ _ h8 hl hi, hr]
  rw [hV] at HFi
  have h0 : F 0 = (va + a) % 4294967296 := HFi 0 (by decide)
  have h1 : F 1 = (vb + b) % 4294967296 := HFi 1 (by decide)
  have h2 : F 2 = (vc + c) % 4294967296 := HFi 2 (by decide)
  have h3 : F 3 = (vd + d) % 4294967296 := HFi 3 (by decide)
  have h4 : F 4 = (ve + e) % 4294967296 := HFi 4 (by decide)
  have h5 : F 5 = (vf + f) % 4294967296 := HFi 5 (by decide)
  have h6 : F 6 = (vg + g) % 4294967296 := HFi 6 (by decide)
  have h7 : F 7 = (vx + x) % 4294967296 := HFi 7 (by decide)
  clear HFi
  refine ⟨?_, ?_, ?_, ?_, ?_, ?_, ?_, ?_⟩ <;> (rw [IntKind.wrap_u32']; omega)
theorem eight {w : World} {n : Nat} {h : Nat → Nat} {V0 : List Nat} {va vb vc vd ve vf vg vx : Nat} (hr : RowH w n 98 .u32 8 h) (hh : h = fun i => V0.getD i 0) (hV : V0 = [va, vb, vc, vd, ve, vf, vg, vx]) : w.cell? ⟨n, 0, none⟩ = some (.int .u32 (va : Int)) ∧ w.cell? ⟨n, 1, none⟩ = some (.int .u32 (vb : Int)) ∧ w.cell? ⟨n, 2, none⟩ = some (.int .u32 (vc : Int)) ∧ w.cell? ⟨n, 3, none⟩ = some (.int .u32 (vd : Int)) ∧ w.cell? ⟨n, 4, none⟩ = some (.int .u32 (ve : Int)) ∧ w.cell? ⟨n, 5, none⟩ = some (.int .u32 (vf : Int)) ∧ w.cell? ⟨n, 6, none⟩ = some (.int .u32 (vg : Int)) ∧ w.cell? ⟨n, 7, none⟩ = some (.int .u32 (vx : Int)) := by
  subst hV hh
  exact ⟨(hr.tab.2 0 (by decide)).1, (hr.tab.2 1 (by decide)).1, (hr.tab.2 2 (by decide)).1, (hr.tab.2 3 (by decide)).1, (hr.tab.2 4 (by decide)).1, (hr.tab.2 5 (by decide)).1, (hr.tab.2 6 (by decide)).1, (hr.tab.2 7 (by decide)).1⟩
theorem Tryd.size98 : (Tryd.prog.info? 98).map (·.size) = some 8 := by kernel_rfl
set_option maxRecDepth 100000 in
set_option maxHeartbeats 8000000 in
theorem next_any (V0 : List Nat) (Bf : Nat → Nat) (hV : V0.length = 8) (hh : ∀ x ∈ V0, x < 4294967296) (w : World) (hG : SGl w) :
    Calls Tryd.prog 58 #[.agg (lst .u32 (fun i => V0.getD i 0) 8).toArray, .agg (lst .u32 (wf Bf 64) 64).toArray] w fun e w' => e = .returned (.agg (lst .u32 (fun i => (blockF KK Bf V0).getD i 0) 8).toArray) ∧ Ext w w' := by
  obtain ⟨F, HF⟩ : ∃ F : Nat → Nat, Hid (F = fun i => (blockF KK Bf V0).getD i 0) := ⟨_, rfl⟩
  rw [← HF.out]
  obtain ⟨h, Hh1⟩ : ∃ h : Nat → Nat, Hid (h = fun i => V0.getD i 0) := ⟨_, rfl⟩
  rw [← Hh1.out]
  obtain ⟨Wf, HWf⟩ : ∃ Wf : Nat → Nat, Hid (wf Bf 64 = Wf) := ⟨_, rfl⟩
  rw [HWf.out]
  have HL : Hid ((V0.length = 8) ∧ (∀ x ∈ V0, x < 4294967296)) := ⟨hV, hh⟩
  clear hV hh
  have h1 := RowH.lay w .u32 8 98 h
  have h2 := RowH.lay (w.alloc (.cells (lst .u32 h 8).toArray 98)) .u32 64 82 Wf
  have h3 := RowH.lay ((w.alloc (.cells (lst .u32 h 8).toArray 98)).alloc (.cells (lst .u32 Wf 64).toArray 82)) .u32 8 98 (fun _ => 0)
  have s1 : (w.alloc (.cells (lst .u32 h 8).toArray 98)).heap.size = w.heap.size + 1 := by simp
  have s2 : ((w.alloc (.cells (lst .u32 h 8).toArray 98)).alloc (.cells (lst .u32 Wf 64).toArray 82)).heap.size = w.heap.size + 1 + 1 := by simp
  rw [s1] at h2
  rw [s2] at h3
  have HA : Hid (RowH (((w.alloc (.cells (lst .u32 h 8).toArray 98)).alloc (.cells (lst .u32 Wf 64).toArray 82)).alloc (.cells (lst .u32 (fun _ => 0) 8).toArray 98)) w.heap.size 98 .u32 8 h) := h1.ext (((Ext.refl _).alloc _).alloc _)
  have HB : Hid (RowH (((w.alloc (.cells (lst .u32 h 8).toArray 98)).alloc (.cells (lst .u32 Wf 64).toArray 82)).alloc (.cells (lst .u32 (fun _ => 0) 8).toArray 98)) (w.heap.size + 1) 82 .u32 64 Wf) := h2.ext ((Ext.refl _).alloc _)
  have HC : Hid (RowH (((w.alloc (.cells (lst .u32 h 8).toArray 98)).alloc (.cells (lst .u32 Wf 64).toArray 82)).alloc (.cells (lst .u32 (fun _ => 0) 8).toArray 98)) (w.heap.size + 1 + 1) 98 .u32 8 (fun _ => 0)) := h3
  have HE0 : Hid (Ext w (((w.alloc (.cells (lst .u32 h 8).toArray 98)).alloc (.cells (lst .u32 Wf 64).toArray 82)).alloc (.cells (lst .u32 (fun _ => 0) 8).toArray 98))) := (((Ext.refl _).alloc _).alloc _).alloc _
  have HG : Hid (SGl (((w.alloc (.cells (lst .u32 h 8).toArray 98)).alloc (.cells (lst .u32 Wf 64).toArray 82)).alloc (.cells (lst .u32 (fun _ => 0) 8).toArray 98))) := hG.ext HE0.out
  have HB0 : SizeLe w (w.heap.size + 1 + 1) := by unfold SizeLe; omega
  clear h1 h2 h3 s1 s2 hG
  rw [lst8z] at HA HB HC HE0 HG
  go_enter Tryd.func58, Tryd.ntmps58
  go_wp2_with fail
  generalize (((w.alloc (.cells (lst .u32 h 8).toArray 98)).alloc (.cells (lst .u32 Wf 64).toArray 82)).alloc (.cells #[.int .u32 0, .int .u32 0, .int .u32 0, .int .u32 0, .int .u32 0, .int .u32 0, .int .u32 0, .int .u32 0] 98)) = W0 at *
  generalize w.heap.size = n at *
  obtain ⟨va, vb, vc, vd, ve, vf, vg, vx, hV8⟩ := list8 HL.out.1
  obtain ⟨c0, c1, c2, c3, c4, c5, c6, c7⟩ := eight HA.out Hh1.out hV8
  have HV8 : Hid (V0 = [va, vb, vc, vd, ve, vf, vg, vx]) := hV8
  clear hV8
  go_region
  go_wp2_with fail
  go_region
  go_wp2
  go_loopw [5, 6, 7, 8, 9, 10, 11, 12, 32] (fun u5 u6 u7 u8 u9 u10 u11 u12 u32 wr => ∃ (t a b c d e f g x : Nat), t ≤ 64 ∧ u32 = .int .i64 t ∧ u5 = .int .u32 a ∧ u6 = .int .u32 b ∧ u7 = .int .u32 c ∧ u8 = .int .u32 d ∧ u9 = .int .u32 e ∧ u10 = .int .u32 f ∧ u11 = .int .u32 g ∧ u12 = .int .u32 x ∧ Hid ([a, b, c, d, e, f, g, x] = rd KK (wl Bf 64) V0 t) ∧ Hid (Ext W0 wr)) (fun _ _ _ _ _ _ _ _ u32 _ => 64 - (intOf u32).toNat)
  case atStart => exact ⟨0, va, vb, vc, vd, ve, vf, vg, vx, by omega, rfl, rfl, rfl, rfl, rfl, rfl, rfl, rfl, rfl, HV8.out.symm, ((Ext.refl _).drew).drew⟩
  case round =>
    obtain ⟨t, a, b, c, d, e, f, g, x, ht, rfl, rfl, rfl, rfl, rfl, rfl, rfl, rfl, rfl, HV, HE⟩ := hrel
    by_cases hlt : t < 64
    · as_aux_lemma =>
        have ht1 : (t : Int) < 64 := by omega
        have ht0 : (0 : Int) ≤ (t : Int) := by omega
        have HVl : Hid ([a, b, c, d, e, f, g, x].length = 8 ∧ ∀ y ∈ [a, b, c, d, e, f, g, x], y < 4294967296) := by rw [HV.out]; exact rd_len HL.out.1 HL.out.2 t
        have ck : wr.cell? ⟨2, t, none⟩ = some (.int .u32 ((KK.getD t 0 : Nat) : Int)) := later HE.out (HG.out.2.2 t hlt)
        have cw : wr.cell? ⟨n + 1, t, none⟩ = some (.int .u32 (Wf t : Int)) := later HE.out (HB.out.tab.2 t hlt).1
        obtain ⟨y2, p3, o1, o2, o3, o4, t2, q5, tw, n0, n4, T1, T2, T3, T4, ⟨A7, A8, A9, A10⟩, ⟨B8, B9, B10⟩, HN0⟩ := round_sums a b c d e f g x (KK.getD t 0) (Wf t) (HVl.out.2 _ (by simp)) (HVl.out.2 _ (by simp)) (HVl.out.2 _ (by simp)) (HVl.out.2 _ (by simp)) (HVl.out.2 _ (by simp)) (HVl.out.2 _ (by simp))
        have T1 : Hid (OneC 63 e y2) := T1
        have T2 : Hid (ThreeC 64 e f g p3) := T2
        have T3 : Hid (OneC 65 a t2) := T3
        have T4 : Hid (ThreeC 66 a b c q5) := T4
        have HV2 : Hid ([n0, a, b, c, n4, e, f, g] = rd KK (wl Bf 64) V0 (t + 1)) := by
          show _ = _
          rw [HN0]
          show _ = rstep (rd KK (wl Bf 64) V0 t) (KK.getD t 0) ((wl Bf 64).getD t 0)
          rw [← HV.out, ← HWf.out]
          rfl
        clear HN0 HVl c0 c1 c2 c3 c4 c5 c6 c7
        generalize KK.getD t 0 = kv at *
        generalize Wf t = wv at *
        go_wp2_with fail
        go_region_held3 (fun wx : World => wx.cell? ⟨2, t, none⟩ = some (.int .u32 (kv : Int)) ∧ wx.cell? ⟨n + 1, t, none⟩ = some (.int .u32 (wv : Int))) (first | exact ⟨ck, cw⟩ | go_keep) (first | (go_at_call 63; (with_reducible refine (OneC.call T1.out _).mono ?_); rintro e _ ⟨rfl, rfl⟩) | (go_at_call 64; (with_reducible refine (ThreeC.call T2.out _).mono ?_); rintro e _ ⟨rfl, rfl⟩))
        go_wp2_with (first | (go_at_call 65; (with_reducible refine (OneC.call T3.out _).mono ?_); rintro e _ ⟨rfl, rfl⟩) | (go_at_call 66; (with_reducible refine (ThreeC.call T4.out _).mono ?_); rintro e _ ⟨rfl, rfl⟩))
        go_roundw
        case rel => exact ⟨t + 1, n0, a, b, c, n4, e, f, g, hlt, by go_num, rfl, rfl, rfl, rfl, rfl, rfl, rfl, rfl, HV2, HE.out.drew⟩
        case measure => simp [intOf]; omega
    · have HT2 : Hid (t = 64) := (by omega : t = 64)
      have hnl2 : ¬ (t : Int) < 64 := by omega
      rw [HT2.out] at HV
      obtain ⟨q0, q1, q2, q3, q4, q5, q6, q7⟩ := end_sums HL.out.1 HL.out.2 HF.out HV8.out HV.out
      obtain ⟨d0, d1, d2, d3, d4, d5, d6, d7⟩ := eight (HA.out.ext HE.out) Hh1.out HV8.out
      have HR0 : RowH wr (n + 1 + 1) 98 .u32 8 (fun _ => 0) := HC.out.ext HE.out
      have HE2 : Hid (Ext w (wr.setRow (n + 1 + 1) (lst .u32 F 8).toArray)) := (HE0.out.trans HE.out).row HB0 _
      clear HV c0 c1 c2 c3 c4 c5 c6 c7
      go_wp2_with (first | (refine wpList_store_row rfl 98 _ _ rfl (n + 1 + 1) (lst .u32 F 8).toArray rfl rfl 98 _ HR0 (by rw [Tryd.size98]; simp [lst_len]) (by simp [lst_len]) (lst_one _ _ _) ?_))
      refine bodyPost_ret (v := .agg (lst .u32 F 8).toArray) ?_ rfl ⟨rfl, HE2.out⟩
      exact results_cell_row Tryd.results58 _ _ (n + 1 + 1) 98 _ (0, 0) _ rfl (HR0.row F) Tryd.underlying98 rfl (by rw [Tryd.size98]; simp [lst_len])
end Go.Proofs.YtpfeakdpckmcgaaDoor
