/-
  sha.words, called: the 64 words of a block; nothing old is turned.
-/
import Derived.Test.YtpfeakdpckmcgaaDoorRefKs
import Derived.Test.YtpfeakdpckmcgaaDoorShaX
namespace Go.Proofs.YtpfeakdpckmcgaaDoor
open Go.RowKit
theorem RowH.lay (w : World) (kd : IntKind) (n : Nat) (t : TypeId) (T : Nat → Nat) : RowH (w.alloc (.cells (lst kd T n).toArray t)) w.heap.size t kd n T := heap_alloc_new w _
/-- The state of words' run: the bytes in block n, the answer in n + 1, the words in n + 2. -/
def WS (w wr : World) (n : Nat) (b T : Nat → Nat) : Prop := RowH wr n 89 .u8 64 b ∧ RowH wr (n + 1) 82 .u32 64 (fun _ => 0) ∧ RowH wr (n + 1 + 1) 82 .u32 64 T ∧ Ext w wr ∧ w.heap.size ≤ n
theorem WS.ext {w wr wy : World} {n : Nat} {b T : Nat → Nat} (h : WS w wr n b T) (hx : Ext wr wy) : WS w wy n b T := ⟨h.1.ext hx, h.2.1.ext hx, h.2.2.1.ext hx, h.2.2.2.1.trans hx, h.2.2.2.2⟩
theorem WS.put {w wr : World} {n : Nat} {b T : Nat → Nat} (h : WS w wr n b T) (o v : Nat) : WS w (wr.setCell ⟨n + 1 + 1, o, none⟩ (.int .u32 (v : Int))) n b (put T o v) :=
  ⟨h.1.other (by omega) ⟨_, _, _, h.2.2.1⟩, h.2.1.other (by omega) ⟨_, _, _, h.2.2.1⟩, h.2.2.1.set o v, Ext.st (by have := h.2.2.2.2; omega) h.2.2.2.1, h.2.2.2.2⟩
theorem WS.new (w : World) (b : Nat → Nat) : WS w (((w.alloc (.cells (lst .u8 b 64).toArray 89)).alloc (.cells (Array.replicate 64 (.int .u32 0)) 82)).alloc (.cells (Array.replicate 64 (.int .u32 0)) 82)) w.heap.size b (fun _ => 0) := by
  have h1 := RowH.lay w .u8 64 89 b
  have h2 := RowH.new (w.alloc (.cells (lst .u8 b 64).toArray 89)) .u32 64 82
  have h3 := RowH.new ((w.alloc (.cells (lst .u8 b 64).toArray 89)).alloc (.cells (Array.replicate 64 (.int .u32 0)) 82)) .u32 64 82
  have s1 : (w.alloc (.cells (lst .u8 b 64).toArray 89)).heap.size = w.heap.size + 1 := by simp
  have s2 : ((w.alloc (.cells (lst .u8 b 64).toArray 89)).alloc (.cells (Array.replicate 64 (.int .u32 0)) 82)).heap.size = w.heap.size + 1 + 1 := by simp
  rw [s1] at h2
  rw [s2] at h3
  exact ⟨h1.ext (((Ext.refl _).alloc _).alloc _), h2.ext ((Ext.refl _).alloc _), h3, ((((Ext.refl _).alloc _).alloc _).alloc _), Nat.le_refl _⟩
theorem keep1w {w : World} {b t d : Nat} {v x : Value} (hne : d ≠ t) (h : w.cell? ⟨b, d, none⟩ = some x) : (w.setCell ⟨b, t, none⟩ v).drew.cell? ⟨b, d, none⟩ = some x := by
  show (w.setCell ⟨b, t, none⟩ v).cell? ⟨b, d, none⟩ = some x
  rw [World.cell?_setCell_other _ _ _ _ (fun q => hne (by injection q with _ q _; exact q.symm))]
  exact h
theorem keep0 {w : World} {b t d : Nat} {v x : Value} (hne : d ≠ t) (h : w.cell? ⟨b, d, none⟩ = some x) : (w.setCell ⟨b, t, none⟩ v).cell? ⟨b, d, none⟩ = some x := by
  rw [World.cell?_setCell_other _ _ _ _ (fun q => hne (by injection q with _ q _; exact q.symm))]
  exact h
/-- A small sigma, for the walk. -/
def OneC (f : Nat) (x r : Nat) : Prop := ∀ wx, Calls Tryd.prog f #[.int .u32 (x : Int)] wx fun e w' => e = .returned (.int .u32 (r : Int)) ∧ w' = wx
theorem OneC.call {f x r : Nat} (h : OneC f x r) (wx : World) : Calls Tryd.prog f #[.int .u32 (x : Int)] wx fun e w' => e = .returned (.int .u32 (r : Int)) ∧ w' = wx := h wx
theorem next_sums (l : List Nat) (t : Nat) (hx : l.getD (t - 15) 0 < 4294967296) (hy : l.getD (t - 2) 0 < 4294967296) : ∃ z2 z4 n1 n2 n3 : Nat, OneC 67 (l.getD (t - 2) 0) z2 ∧ OneC 68 (l.getD (t - 15) 0) z4 ∧
    IntKind.u32.wrap ((z2 : Int) + ((l.getD (t - 7) 0 : Nat) : Int)) = (n1 : Int) ∧ IntKind.u32.wrap ((n1 : Int) + (z4 : Int)) = (n2 : Int) ∧ IntKind.u32.wrap ((n2 : Int) + ((l.getD (t - 16) 0 : Nat) : Int)) = (n3 : Int) ∧ n3 = wnext l t := by
  refine ⟨ss1 (l.getD (t - 2) 0), ss0 (l.getD (t - 15) 0), (ss1 (l.getD (t - 2) 0) + l.getD (t - 7) 0) % 4294967296, (ss1 (l.getD (t - 2) 0) + l.getD (t - 7) 0 + ss0 (l.getD (t - 15) 0)) % 4294967296, wnext l t, ss1_any _ hy, ss0_any _ hx, ?_, ?_, ?_, rfl⟩
  · rw [IntKind.wrap_u32']; omega
  · rw [IntKind.wrap_u32']; omega
  · unfold wnext; rw [IntKind.wrap_u32']; omega
theorem Tryd.size89 : (Tryd.prog.info? 89).map (·.size) = some 64 := by kernel_rfl
set_option maxRecDepth 100000 in
set_option maxHeartbeats 2000000 in
theorem words_any (b : Nat → Nat) (hb : ∀ i, b i < 256) (w : World) :
    Calls Tryd.prog 59 #[.agg (lst .u8 b 64).toArray] w fun e w' => e = .returned (.agg (lst .u32 (wf (fun t => word4 b (4 * t)) 64) 64).toArray) ∧ Ext w w' := by
  have HS0 : Hid (WS w (((w.alloc (.cells (lst .u8 b 64).toArray 89)).alloc (.cells (Array.replicate 64 (.int .u32 0)) 82)).alloc (.cells (Array.replicate 64 (.int .u32 0)) 82)) w.heap.size b (fun _ => 0)) := WS.new w b
  have HL : Hid (∀ i, b i < 256) := hb
  obtain ⟨Bf, HBf⟩ : ∃ Bf : Nat → Nat, Hid (Bf = fun t => word4 b (4 * t)) := ⟨_, rfl⟩
  rw [← HBf.out]
  clear hb
  have HBl : Hid (∀ i, Bf i < 4294967296) := fun i => by
    rw [HBf.out]
    have h0 := HL.out (4 * i)
    have h1 := HL.out (4 * i + 1)
    have h2 := HL.out (4 * i + 2)
    have h3 := HL.out (4 * i + 3)
    show word4 b (4 * i) < _
    unfold word4
    omega
  go_enter Tryd.func59, Tryd.ntmps59
  go_wp2
  generalize w.heap.size = n at *
  go_loopw [6] (fun u6 wr => ∃ (t : Nat), t ≤ 16 ∧ u6 = .int .i64 t ∧ Hid (WS w wr n b (wf Bf t))) (fun u6 _ => 16 - (intOf u6).toNat)
  case atStart => exact ⟨0, by omega, rfl, by rw [wf_zero]; exact HS0⟩
  case round =>
    clear HS0
    obtain ⟨t, ht, rfl, HS⟩ := hrel
    by_cases hlt : t < 16
    · have ht1 : (t : Int) < 16 := by omega
      have ht0 : (0 : Int) ≤ (t : Int) := by omega
      have ht64 : (t : Int) < 64 := by omega
      obtain ⟨p, hp⟩ : ∃ p, 4 * t = p := ⟨_, rfl⟩
      have hm : IntKind.i64.wrap (4 * (t : Int)) = (p : Int) := by rw [IntKind.wrap_i64]; omega
      have HP : Hid (4 * t = p) := hp
      have hp63 : p < 61 := by omega
      have i0 : (0 : Int) ≤ (p : Int) := by omega
      have j0 : (p : Int) < 64 := by omega
      have m1 : IntKind.i64.wrap ((p : Int) + 1) = (p : Int) + 1 := by rw [IntKind.wrap_i64]; omega
      have i1 : (0 : Int) ≤ (p : Int) + 1 := by omega
      have j1 : (p : Int) + 1 < 64 := by omega
      have k1 : ((p : Int) + 1).toNat = p + 1 := by omega
      have m2 : IntKind.i64.wrap ((p : Int) + 2) = (p : Int) + 2 := by rw [IntKind.wrap_i64]; omega
      have i2 : (0 : Int) ≤ (p : Int) + 2 := by omega
      have j2 : (p : Int) + 2 < 64 := by omega
      have k2 : ((p : Int) + 2).toNat = p + 2 := by omega
      have m3 : IntKind.i64.wrap ((p : Int) + 3) = (p : Int) + 3 := by rw [IntKind.wrap_i64]; omega
      have i3 : (0 : Int) ≤ (p : Int) + 3 := by omega
      have j3 : (p : Int) + 3 < 64 := by omega
      have k3 : ((p : Int) + 3).toNat = p + 3 := by omega
      have c0 := (HS.out.1.tab.2 p (by omega)).1
      have c1 := (HS.out.1.tab.2 (p + 1) (by omega)).1
      have c2 := (HS.out.1.tab.2 (p + 2) (by omega)).1
      have c3 := (HS.out.1.tab.2 (p + 3) (by omega)).1
      obtain ⟨s0, s1, s2, q1, q2, q3, w0, w1, w2, o1, o2, o3, HQ0⟩ := word_letters (b p) (b (p + 1)) (b (p + 2)) (b (p + 3)) (HL.out _) (HL.out _) (HL.out _) (HL.out _)
      have HQ : Hid (q3 = Bf t) := by
        show _ = _
        rw [HQ0, HBf.out]
        unfold word4
        rw [← HP.out]
      have v0 : IntKind.u32.wrap (b p : Int) = (b p : Int) := by have := HL.out p; rw [IntKind.wrap_u32']; omega
      have v1 : IntKind.u32.wrap (b (p + 1) : Int) = (b (p + 1) : Int) := by have := HL.out (p + 1); rw [IntKind.wrap_u32']; omega
      have v2 : IntKind.u32.wrap (b (p + 2) : Int) = (b (p + 2) : Int) := by have := HL.out (p + 2); rw [IntKind.wrap_u32']; omega
      have v3 : IntKind.u32.wrap (b (p + 3) : Int) = (b (p + 3) : Int) := by have := HL.out (p + 3); rw [IntKind.wrap_u32']; omega
      obtain ⟨gc, gf⟩ := HS.out.2.2.1.tab.2 t (by omega)
      have HS2 : Hid (WS w (wr.setCell ⟨n + 1 + 1, t, none⟩ (.int .u32 (q3 : Int))) n b (wf Bf (t + 1))) := by
        have h := HS.out.put t q3
        rw [HQ.out] at h ⊢
        rwa [show put (wf Bf t) t (Bf t) = wf Bf (t + 1) from by rw [← wf_put, if_pos hlt]] at h
      clear HQ0 hp hp63 HS
      generalize b p = a0 at *
      generalize b (p + 1) = a1 at *
      generalize b (p + 2) = a2 at *
      generalize b (p + 3) = a3 at *
      go_wp2_with fail
      go_region
      go_wp2
      go_roundw
      case rel => exact ⟨t + 1, hlt, by go_num, HS2.out.ext (Ext.drew (Ext.refl _))⟩
      case measure => simp [intOf]; omega
    · have HT : Hid (t = 16) := (by omega : t = 16)
      have hnl : ¬ (t : Int) < 16 := by omega
      rw [HT.out] at HS
      go_wp2
      go_loopw [5] (fun u5 wr => ∃ (t : Nat), 16 ≤ t ∧ t ≤ 64 ∧ u5 = .int .i64 t ∧ Hid (WS w wr n b (wf Bf t))) (fun u5 _ => 64 - (intOf u5).toNat)
      case atStart => exact ⟨16, by omega, by omega, rfl, HS⟩
      case round =>
        clear HS
        obtain ⟨t, ht16, ht, rfl, HS⟩ := hrel
        by_cases hlt : t < 64
        · have ht1 : (t : Int) < 64 := by omega
          have ht0 : (0 : Int) ≤ (t : Int) := by omega
          obtain ⟨d15, e15⟩ : ∃ d, t - 15 = d := ⟨_, rfl⟩
          obtain ⟨d2, e2⟩ : ∃ d, t - 2 = d := ⟨_, rfl⟩
          obtain ⟨d7, e7⟩ : ∃ d, t - 7 = d := ⟨_, rfl⟩
          obtain ⟨d16, e16⟩ : ∃ d, t - 16 = d := ⟨_, rfl⟩
          have m15 : IntKind.i64.wrap ((t : Int) - 15) = (d15 : Int) := by rw [IntKind.wrap_i64]; omega
          have m2 : IntKind.i64.wrap ((t : Int) - 2) = (d2 : Int) := by rw [IntKind.wrap_i64]; omega
          have m7 : IntKind.i64.wrap ((t : Int) - 7) = (d7 : Int) := by rw [IntKind.wrap_i64]; omega
          have m16 : IntKind.i64.wrap ((t : Int) - 16) = (d16 : Int) := by rw [IntKind.wrap_i64]; omega
          have i15 : (d15 : Int) < 64 := by omega
          have i2 : (d2 : Int) < 64 := by omega
          have i7 : (d7 : Int) < 64 := by omega
          have i16 : (d16 : Int) < 64 := by omega
          have j15 : (0 : Int) ≤ (d15 : Int) := by omega
          have j2 : (0 : Int) ≤ (d2 : Int) := by omega
          have j7 : (0 : Int) ≤ (d7 : Int) := by omega
          have j16 : (0 : Int) ≤ (d16 : Int) := by omega
          have c15 := (HS.out.2.2.1.tab.2 d15 (by omega)).1
          have c2 := (HS.out.2.2.1.tab.2 d2 (by omega)).1
          have c7 := (HS.out.2.2.1.tab.2 d7 (by omega)).1
          have c16 := (HS.out.2.2.1.tab.2 d16 (by omega)).1
          obtain ⟨gc, gf⟩ := HS.out.2.2.1.tab.2 t (by omega)
          obtain ⟨z2, z4, n1, n2, n3, T2, T15, y1, y2, y3, HN3⟩ := next_sums (wl Bf t) t (wf_lt HBl.out t (t - 15)) (wf_lt HBl.out t (t - 2))
          have HS2 : Hid (WS w (wr.setCell ⟨n + 1 + 1, t, none⟩ (.int .u32 (n3 : Int))) n b (wf Bf (t + 1))) := by
            have h := HS.out.put t n3
            rw [HN3] at h ⊢
            rwa [show put (wf Bf t) t (wnext (wl Bf t) t) = wf Bf (t + 1) from by rw [← wf_put, if_neg (by omega)]] at h
          have T2 : Hid (OneC 67 (wf Bf t d2) z2) := by rw [← e2]; exact T2
          have T15 : Hid (OneC 68 (wf Bf t d15) z4) := by rw [← e15]; exact T15
          have y1 : IntKind.u32.wrap ((z2 : Int) + ((wf Bf t d7 : Nat) : Int)) = (n1 : Int) := by rw [← e7]; exact y1
          have y3 : IntKind.u32.wrap ((n2 : Int) + ((wf Bf t d16 : Nat) : Int)) = (n3 : Int) := by rw [← e16]; exact y3
          have ne7 : d7 ≠ t := by omega
          have ne16 : d16 ≠ t := by omega
          have ne2 : d2 ≠ t := by omega
          have ne15 : d15 ≠ t := by omega
          clear HN3 HS e15 e2 e7 e16
          generalize wf Bf t d2 = Y at *
          generalize wf Bf t d15 = X at *
          generalize wf Bf t d7 = A7 at *
          generalize wf Bf t d16 = A16 at *
          go_wp2_with fail
          go_region_held3 (fun wx : World => wx.cell? ⟨n + 1 + 1, d2, none⟩ = some (.int .u32 (Y : Int)) ∧ wx.cell? ⟨n + 1 + 1, d7, none⟩ = some (.int .u32 (A7 : Int)) ∧ wx.cell? ⟨n + 1 + 1, d15, none⟩ = some (.int .u32 (X : Int)) ∧ wx.cell? ⟨n + 1 + 1, d16, none⟩ = some (.int .u32 (A16 : Int))) (first | exact ⟨c2, c7, c15, c16⟩ | exact ⟨keep0 ne2 c2, keep0 ne7 c7, keep0 ne15 c15, keep0 ne16 c16⟩ | exact ⟨keep1w ne2 c2, keep1w ne7 c7, keep1w ne15 c15, keep1w ne16 c16⟩ | go_keep) (first | (go_at_call 67; (with_reducible refine (OneC.call T2.out _).mono ?_); rintro e _ ⟨rfl, rfl⟩) | (go_at_call 68; (with_reducible refine (OneC.call T15.out _).mono ?_); rintro e _ ⟨rfl, rfl⟩))
          go_wp2
          go_roundw
          case rel => exact ⟨t + 1, by omega, hlt, by go_num, HS2.out.ext (Ext.drew (Ext.refl _))⟩
          case measure => simp [intOf]; omega
        · have HT2 : Hid (t = 64) := (by omega : t = 64)
          have hnl2 : ¬ (t : Int) < 64 := by omega
          rw [HT2.out] at HS
          have HR0 : RowH wr (n + 1) 82 .u32 64 (fun _ => 0) := HS.out.2.1
          have HR1 : RowH wr (n + 1 + 1) 82 .u32 64 (wf Bf 64) := HS.out.2.2.1
          have HE2 : Hid (Ext w (wr.setRow (n + 1) (lst .u32 (wf Bf 64) 64).toArray)) := HS.out.2.2.2.1.row (by have := HS.out.2.2.2.2; omega) _
          go_wp2_with (first | (refine wpList_load_row rfl 82 _ rfl (n + 1 + 1) rfl 82 (lst .u32 (wf Bf 64) 64).toArray (0, 0) _ HR1 Tryd.underlying82 rfl (by rw [Tryd.size82]; simp [lst_len]) ?_) | (refine wpList_store_row rfl 82 _ _ rfl (n + 1) (lst .u32 (wf Bf 64) 64).toArray rfl rfl 82 _ HR0 (by rw [Tryd.size82]; simp [lst_len]) (by simp [lst_len]) (lst_one _ _ _) ?_))
          refine bodyPost_ret (v := .agg (lst .u32 (wf Bf 64) 64).toArray) ?_ rfl ⟨rfl, HE2.out⟩
          exact results_cell_row Tryd.results59 _ _ (n + 1) 82 _ (0, 0) _ rfl (HR0.row (wf Bf 64)) Tryd.underlying82 rfl (by rw [Tryd.size82]; simp [lst_len])
end Go.Proofs.YtpfeakdpckmcgaaDoor
