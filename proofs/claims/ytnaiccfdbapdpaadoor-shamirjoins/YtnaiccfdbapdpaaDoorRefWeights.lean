/-
  The document's Weights (sandglassref13), called: the weights of places, or the error; nothing old is turned.
-/
import Derived.Test.YtnaiccfdbapdpaaDoorWtMath
namespace Go.Proofs.YtnaiccfdbapdpaaDoor
open Go.RowKit
set_option maxHeartbeats 16000000 in
set_option maxRecDepth 10000 in
theorem rweights_any (v : Value) (n : Nat) (P : Nat → Int) (hn : n ≤ 1000) (w : World) (hL : Lies w v n 1 (fun k => .int .i64 (P k))) :
    Calls Tryd.prog 15 #[v] w fun e w' => Ext w w' ∧ ((OkP P n ∧ ∃ u, e = .returned (.tuple #[u, .int .i64 0]) ∧ w'.ownsRow w.heap.size 26 4 u n (nml (fun i => wI P i n) n)) ∨ (¬ OkP P n ∧ e = .returned (.tuple #[.slice none 0 0, .int .i64 1]))) := by
  obtain ⟨i0, hi0, hz0, hz1, hz2⟩ := info_parts info26
  obtain ⟨a, cap, rfl, hL'⟩ := hL
  have HL : Hid (Lies w (.slice a n cap) n 1 (fun k => .int .i64 (P k))) := ⟨a, cap, rfl, hL'⟩
  clear hL'
  have HE0 : Hid (Ext w w) := Ext.refl w
  have HT0 : Hid (OkT P 0) := fun i h => absurd h (Nat.not_lt_zero i)
  obtain ⟨X, hX⟩ : ∃ X, Hid ((fun i => wI P i n) = X) := ⟨_, rfl⟩
  have HXi : Hid (∀ i, wI P i n = X i) := fun i => congrFun hX.out i
  rw [hX.out]
  clear hX
  go_enter Tryd.func15, Tryd.ntmps15
  by_cases hn0 : n = 0
  · subst hn0
    go_wp2
    refine bodyPost_ret (v := .tuple #[.slice none 0 0, .int .i64 1]) (by simp [results, Tryd.results15, go_sem]) rfl ⟨HE0.out, .inr ⟨fun h => absurd h.1 (Nat.lt_irrefl 0), rfl⟩⟩
  have hnz : ((n : Int) == 0) = false := by simp; omega
  go_wp2
  go_loopw [4] (fun u4 wr => ∃ i : Nat, i ≤ n ∧ u4 = .int .i64 (i : Int) ∧ Hid (OkT P i) ∧ Hid (Ext w wr)) (fun u4 _ => n - (intOf u4).toNat)
  case atStart => exact ⟨0, Nat.zero_le _, rfl, HT0, HE0⟩
  case round =>
    obtain ⟨i, hi, rfl, HTi, HE⟩ := hrel
    clear HT0 HE0
    by_cases hlt : i < n
    · have h1 : (i : Int) < (n : Int) := by omega
      have h0 : (0 : Int) ≤ (i : Int) := by omega
      have hw : IntKind.i64.wrap ((i : Int) + 1) = (i : Int) + 1 := by rw [IntKind.wrap_i64]; omega
      obtain ⟨b, o, rfl, hb, x0⟩ := (HL.out.ext HE.out).int hlt
      by_cases hlo : P i < 1
      · have HB : Hid (¬ OkP P n) := fun h => by have := (h.2 i hlt).1.1; omega
        go_wp2
        refine bodyPost_ret (v := .tuple #[.slice none 0 0, .int .i64 1]) (by simp [results, Tryd.results15, go_sem]) rfl ⟨HE.out, .inr ⟨HB.out, rfl⟩⟩
      · by_cases hup : 2147483648 < P i
        · have HB : Hid (¬ OkP P n) := fun h => by have := (h.2 i hlt).1.2; omega
          go_wp2
          refine bodyPost_ret (v := .tuple #[.slice none 0 0, .int .i64 1]) (by simp [results, Tryd.results15, go_sem]) rfl ⟨HE.out, .inr ⟨HB.out, rfl⟩⟩
        · have HK0 : Hid (∀ k, k < 0 → P k ≠ P i) := fun k h => absurd h (Nat.not_lt_zero k)
          go_wp2
          go_loopw [5] (fun u5 wr => ∃ k : Nat, k ≤ i ∧ u5 = .int .i64 (k : Int) ∧ Hid (∀ j, j < k → P j ≠ P i) ∧ Hid (Ext w wr)) (fun u5 _ => i - (intOf u5).toNat)
          case atStart => exact ⟨0, Nat.zero_le _, rfl, HK0, HE⟩
          case round =>
            obtain ⟨k, hk, rfl, HK, HEk⟩ := hrel
            clear HK0 hb x0 HE
            by_cases hlk : k < i
            · have g1 : (k : Int) < (i : Int) := by omega
              have g0 : (0 : Int) ≤ (k : Int) := by omega
              have g2 : (k : Int) < (n : Int) := by omega
              have gw : IntKind.i64.wrap ((k : Int) + 1) = (k : Int) + 1 := by rw [IntKind.wrap_i64]; omega
              obtain ⟨b1, o1, e1, hb, x0⟩ := (HL.out.ext HEk.out).int hlt
              cases e1
              obtain ⟨b2, o2, e2, _, x1⟩ := (HL.out.ext HEk.out).int (Nat.lt_trans hlk hlt)
              cases e2
              by_cases he : P k = P i
              · have HB : Hid (¬ OkP P n) := fun h => (h.2 i hlt).2 k hlk he
                go_wp2_with fail
                go_quiet (fail)
                go_wp2
                refine bodyPost_ret (v := .tuple #[.slice none 0 0, .int .i64 1]) (by simp [results, Tryd.results15, go_sem]) rfl ⟨HEk.out.drewN _, .inr ⟨HB.out, rfl⟩⟩
              · have HK1 : Hid (∀ j, j < k + 1 → P j ≠ P i) := fun j hj => by
                  by_cases e : j = k
                  · subst e; exact he
                  · exact HK.out j (by omega)
                go_wp2_with fail
                go_quiet (fail)
                go_wp2
                go_roundw
                case rel => exact ⟨k + 1, hlk, by push_cast; rfl, HK1, HEk.out.drewN _⟩
                case measure => simp [intOf]; omega
            · obtain rfl : k = i := by omega
              have HT1 : Hid (OkT P (k + 1)) := HTi.out.step ⟨by omega, by omega⟩ HK.out
              go_wp2
              go_roundw
              case rel => exact ⟨k + 1, hlt, by push_cast; rfl, HT1, HEk⟩
              case measure => simp [intOf]; omega
    · obtain rfl : i = n := by omega
      have HNum : Hid (∀ k, k < i → ∀ W, Calls Tryd.prog 31 #[.int .i64 (P k)] W fun e w' => e = .returned (.agg #[.int .u64 (P k), .int .u64 0, .int .u64 0, .int .u64 0]) ∧ Ext W w') := fun k hk W => by
        have h := num_any (P k) (okp_i64 HTi.out hk).1 W
        rwa [(okp_i64 HTi.out hk).2] at h
      have HLim : Hid (∀ k, k < i → Lim4 (P k) 0 0 0) := fun k hk => by
        have := (HTi.out k hk).1
        exact lim_one (by unfold Lim; omega)
      have HOk : Hid (OkP P i) := ⟨by omega, HTi.out⟩
      clear hi hlt HTi
      obtain ⟨n, rfl⟩ : ∃ n, n = i := ⟨i, rfl⟩
      have HO0 : Hid (wr.ownsRow w.heap.size 26 4 (.slice none 0 0) 0 (nml X 0)) := World.ownsRow_nil _ _ _ _
      go_wp2
      go_loopw [6, 7] (fun u6 u7 wr => ∃ i : Nat, i ≤ n ∧ u7 = .int .i64 (i : Int) ∧ Hid (wr.ownsRow w.heap.size 26 4 u6 i (nml X i)) ∧ Hid (Ext w wr)) (fun _ u7 _ => n - (intOf u7).toNat)
      case atStart => exact ⟨0, Nat.zero_le _, rfl, HO0, HE⟩
      case round =>
        obtain ⟨i, hi, rfl, HOr, HEr⟩ := hrel
        clear HO0 HE
        by_cases hlt : i < n
        · have h1 : (i : Int) < (n : Int) := by omega
          have h0 : (0 : Int) ≤ (i : Int) := by omega
          have hw : IntKind.i64.wrap ((i : Int) + 1) = (i : Int) + 1 := by rw [IntKind.wrap_i64]; omega
          go_wp2_with fail
          refine (refSmall_any 1 _).mono ?_
          rintro e w1 ⟨rfl, HX1⟩
          go_wp2_with fail
          refine (refSmall_any 1 _).mono ?_
          rintro e w2 ⟨rfl, HX2⟩
          have HO2 : Hid (w2.ownsRow w.heap.size 26 4 u6 i (nml X i)) := own_ext (own_ext HOr.out HX1) HX2
          have HE2 : Hid (Ext w w2) := HEr.out.trans (HX1.trans HX2)
          clear HX1 HX2 HOr HEr
          have Ru0 := (RowF.new w2 1 0 0 0).ext ((Ext.refl _).alloc (.cells #[.int .u64 1, .int .u64 0, .int .u64 0, .int .u64 0] 26))
          have Rd0 := RowF.new (w2.alloc (.cells #[.int .u64 1, .int .u64 0, .int .u64 0, .int .u64 0] 26)) 1 0 0 0
          rw [show (w2.alloc (.cells #[.int .u64 1, .int .u64 0, .int .u64 0, .int .u64 0] 26)).heap.size = w2.heap.size + 1 from by simp] at Rd0
          have HO3 : Hid (((w2.alloc (.cells #[.int .u64 1, .int .u64 0, .int .u64 0, .int .u64 0] 26)).alloc (.cells #[.int .u64 1, .int .u64 0, .int .u64 0, .int .u64 0] 26)).ownsRow w.heap.size 26 4 u6 i (nml X i)) := (HO2.out.alloc _).alloc _
          have HE3 : Hid (Ext w ((w2.alloc (.cells #[.int .u64 1, .int .u64 0, .int .u64 0, .int .u64 0] 26)).alloc (.cells #[.int .u64 1, .int .u64 0, .int .u64 0, .int .u64 0] 26))) := (HE2.out.alloc _).alloc _
          have HB8 : SizeLe w w2.heap.size := HE2.out.size
          have HB9 : SizeLe w (w2.heap.size + 1) := Nat.le_succ_of_le HE2.out.size
          have HN8 : Hid (∀ b, u6.ownBlock = some b → b < w2.heap.size) := fun b hb => (HO2.out.lt b hb).2
          clear HO2 HE2
          go_wp2
          generalize (w2.alloc (.cells #[.int .u64 1, .int .u64 0, .int .u64 0, .int .u64 0] 26)).alloc (.cells #[.int .u64 1, .int .u64 0, .int .u64 0, .int .u64 0] 26) = W3 at *
          obtain ⟨g9, hg9⟩ : ∃ g9, w2.heap.size + 1 = g9 := ⟨_, rfl⟩
          obtain ⟨g8, hg8⟩ : ∃ g8, w2.heap.size = g8 := ⟨_, rfl⟩
          rw [hg9] at Rd0 HB9 ⊢
          rw [hg8] at Ru0 HB8 HN8 hg9 ⊢
          have h89 : g8 ≠ g9 := by omega
          have h98 : g9 ≠ g8 := by omega
          have HN89 : Hid (g8 < g9) := by show _ < _; omega
          clear hg8 hg9
          have HU0 : Hid (QMod (prE P i 0) 1 0 0 0) := one_mod
          have HD0 : Hid (QMod (prE (fun k => P k - P i) i 0) 1 0 0 0) := one_mod
          go_loopw [10] (fun u10 wr => ∃ (k : Nat) (p0 p1 p2 p3 q0 q1 q2 q3 : Int), k ≤ n ∧ u10 = .int .i64 (k : Int) ∧ RowF wr g8 p0 p1 p2 p3 ∧ RowF wr g9 q0 q1 q2 q3 ∧ Hid (QMod (prE P i k) p0 p1 p2 p3) ∧ Hid (QMod (prE (fun k => P k - P i) i k) q0 q1 q2 q3) ∧ Hid (wr.ownsRow w.heap.size 26 4 u6 i (nml X i)) ∧ Hid (Ext w wr)) (fun u10 _ => n - (intOf u10).toNat)
          case atStart => exact ⟨0, 1, 0, 0, 0, 1, 0, 0, 0, Nat.zero_le _, rfl, Ru0, Rd0, HU0, HD0, HO3, HE3⟩
          case round =>
            obtain ⟨k, p0, p1, p2, p3, q0, q1, q2, q3, hk, rfl, Ru, Rd, HUp, HDn, HOr, HE⟩ := hrel
            clear Ru0 Rd0 HU0 HD0 HO3 HE3
            by_cases hlk : k < n
            · have g1 : (k : Int) < (n : Int) := by omega
              have g0 : (0 : Int) ≤ (k : Int) := by omega
              have gw : IntKind.i64.wrap ((k : Int) + 1) = (k : Int) + 1 := by rw [IntKind.wrap_i64]; omega
              by_cases hki : k = i
              · subst hki
                have HU1 : Hid (QMod (prE P k (k + 1)) p0 p1 p2 p3) := skip_step HUp.out
                have HD1 : Hid (QMod (prE (fun j => P j - P k) k (k + 1)) q0 q1 q2 q3) := skip_step HDn.out
                go_wp2
                go_roundw
                case rel => exact ⟨k + 1, p0, p1, p2, p3, q0, q1, q2, q3, hlk, by push_cast; rfl, Ru, Rd, HU1, HD1, HOr, HE⟩
                case measure => simp [intOf]; omega
              obtain ⟨b, o, rfl, hb, x0⟩ := HL.out.int hlk
              obtain ⟨b', o', e', _, x1⟩ := HL.out.int hlt
              cases e'
              have hki2 : ¬ (k : Int) = (i : Int) := by omega
              have HX0 : Hid (w.cell? ⟨b, o + k, none⟩ = some (.int .i64 (P k)) ∧ w.cell? ⟨b, o + i, none⟩ = some (.int .i64 (P i))) := ⟨x0, x1⟩
              clear x0 x1
              have hS0 : WU w g8 p0 p1 p2 p3 b (o + k) (P k) wr.drew := ⟨Ru.1.ext (Ext.drew (Ext.refl _)), later HE.out.drew HX0.out.1, HE.out.drew⟩
              go_wp2_with fail
              refine wp_region_noPanic ?_
              refine wp_region_until (X := 7) (S := WU w g8 p0 p1 p2 p3 b (o + k) (P k)) (by kernel_rfl) ?_
              refine until_take (i := 0) (v := ?vu0) rfl (by kernel_rfl) (by kernel_rfl) (by kernel_rfl) (by kernel_rfl) (by kernel_rfl) (fun _ _ _ h => h) rfl ?hyu0 hS0 ?restu0
              case hyu0 => (intro w hSw; obtain ⟨⟨_, y0, y1, y2, y3⟩, x0, _⟩ := hSw; go_simp; try with_reducible rfl)
              try simp only [Act.put, List.setIfInBounds_toArray, List.set_cons_zero, List.set_cons_succ]
              refine until_take (i := 1) (v := ?vu1) rfl (by kernel_rfl) (by kernel_rfl) (by kernel_rfl) (by kernel_rfl) (by kernel_rfl) (fun _ _ _ h => h) rfl ?hyu1 hS0 ?restu1
              case hyu1 => (intro w hSw; obtain ⟨⟨_, y0, y1, y2, y3⟩, x0, _⟩ := hSw; go_simp; try with_reducible rfl)
              try simp only [Act.put, List.setIfInBounds_toArray, List.set_cons_zero, List.set_cons_succ]
              refine until_take (i := 2) (v := ?vu2) rfl (by kernel_rfl) (by kernel_rfl) (by kernel_rfl) (by kernel_rfl) (by kernel_rfl) (fun _ _ _ h => h) rfl ?hyu2 hS0 ?restu2
              case hyu2 => (intro w hSw; obtain ⟨⟨_, y0, y1, y2, y3⟩, x0, _⟩ := hSw; go_simp; try with_reducible rfl)
              try simp only [Act.put, List.setIfInBounds_toArray, List.set_cons_zero, List.set_cons_succ]
              refine until_take (i := 3) (v := ?vu3) rfl (by kernel_rfl) (by kernel_rfl) (by kernel_rfl) (by kernel_rfl) (by kernel_rfl) (fun _ _ _ h => h) rfl ?hyu3 hS0 ?restu3
              case hyu3 => (intro w hSw; obtain ⟨⟨_, y0, y1, y2, y3⟩, x0, _⟩ := hSw; go_simp; try with_reducible rfl)
              try simp only [Act.put, List.setIfInBounds_toArray, List.set_cons_zero, List.set_cons_succ]
              refine until_take (i := 4) (v := ?vu4) rfl (by kernel_rfl) (by kernel_rfl) (by kernel_rfl) (by kernel_rfl) (by kernel_rfl) (fun _ _ _ h => h) rfl ?hyu4 hS0 ?restu4
              case hyu4 => (intro w hSw; obtain ⟨⟨_, y0, y1, y2, y3⟩, x0, _⟩ := hSw; go_simp; try with_reducible rfl)
              try simp only [Act.put, List.setIfInBounds_toArray, List.set_cons_zero, List.set_cons_succ]
              refine until_one (i := 5) (by kernel_rfl) (by kernel_rfl) rfl rfl (fun K hK => ?_)
              go_simp
              refine (HNum.out k hlk _).mono ?_
              rintro e w3 ⟨rfl, HX3⟩
              have hS3 := hS0.ext HX3
              go_simp
              refine hK.out _ _ hS3 ?_
              clear hK K
              try simp only [Act.put, List.setIfInBounds_toArray, List.set_cons_zero, List.set_cons_succ]
              refine until_one (i := 6) (by kernel_rfl) (by kernel_rfl) rfl rfl (fun K hK => ?_)
              go_simp
              refine (refSMul_any _ _ _ _ _ _ _ _ HUp.out.1 (HLim.out k hlk) _).mono ?_
              rintro e w4 ⟨m0, m1, m2, m3, rfl, HM, HX4⟩
              have hS4 := hS3.ext HX4
              go_simp
              refine hK.out _ _ hS4 ?_
              clear hK K
              try simp only [Act.put, List.setIfInBounds_toArray, List.set_cons_zero, List.set_cons_succ]
              refine until_last (by kernel_rfl) (by kernel_rfl) rfl rfl (fun K hK => ?_)
              have HXX : Ext wr w4 := (Ext.refl _).drew.trans (HX3.trans HX4)
              have Ru4 := Ru.ext HXX
              have Rd4 := Rd.ext HXX
              have HO4 : Hid (w4.ownsRow w.heap.size 26 4 u6 i (nml X i)) := own_ext HOr.out HXX
              have HE4 : Hid (Ext w w4) := hS4.2.2
              have Ru5 := Ru4
              clear hS0 hS3 hS4 HX3 HX4 HXX Ru Rd HOr HE
              obtain ⟨⟨la, y0, y1, y2, y3⟩, f0, f1, f2, f3⟩ := Ru5
              go_simp
              refine hK.out _ _ (NoPanic.normal ?_)
              clear hK K
              try simp only [Act.put, List.setIfInBounds_toArray, List.set_cons_zero, List.set_cons_succ]
              obtain ⟨W4, hW4⟩ : ∃ W4, Hid ((((w4.setCell ⟨g8, 0, none⟩ (.int .u64 m0)).setCell ⟨g8, 1, none⟩ (.int .u64 m1)).setCell ⟨g8, 2, none⟩ (.int .u64 m2)).setCell ⟨g8, 3, none⟩ (.int .u64 m3) = W4) := ⟨_, rfl⟩
              have Ru6 : RowF W4 g8 m0 m1 m2 m3 := hW4.out ▸ RowF.set Ru4
              have Rd6 : RowF W4 g9 q0 q1 q2 q3 := hW4.out ▸ (Rd4.other h98 |>.other h98 |>.other h98 |>.other h98)
              have hown : u6.ownBlock ≠ some g8 := fun e => Nat.lt_irrefl _ (HN8.out g8 e)
              have HO6 : Hid (W4.ownsRow w.heap.size 26 4 u6 i (nml X i)) := hW4.out ▸ (own_setCell (own_setCell (own_setCell (own_setCell HO4.out hown) hown) hown) hown)
              have HE6 : Hid (Ext w W4) := hW4.out ▸ Ext.st HB8 (Ext.st HB8 (Ext.st HB8 (Ext.st HB8 HE4.out)))
              have HU1 : Hid (QMod (prE P i (k + 1)) m0 m1 m2 m3) := up_step hki HUp.out HM.out
              clear Ru4 Rd4 HO4 HE4 la y0 y1 y2 y3 f0 f1 f2 f3 HUp HM
              rw [hW4.out]
              clear hW4
              have hT0 : WD w g9 q0 q1 q2 q3 b (o + k) (o + i) (P k) (P i) W4.drew := ⟨Rd6.1.ext (Ext.drew (Ext.refl _)), later HE6.out.drew HX0.out.1, later HE6.out.drew HX0.out.2, HE6.out.drew⟩
              go_wp2_with fail
              refine wp_region_noPanic ?_
              refine wp_region_until (X := 13) (S := WD w g9 q0 q1 q2 q3 b (o + k) (o + i) (P k) (P i)) (by kernel_rfl) ?_
              refine until_take (i := 0) (v := ?vd0) rfl (by kernel_rfl) (by kernel_rfl) (by kernel_rfl) (by kernel_rfl) (by kernel_rfl) (fun _ _ _ h => h) rfl ?hyd0 hT0 ?restd0
              case hyd0 => (intro w hSw; obtain ⟨⟨_, y0, y1, y2, y3⟩, x0, x1, _⟩ := hSw; go_simp; try with_reducible rfl)
              try simp only [Act.put, List.setIfInBounds_toArray, List.set_cons_zero, List.set_cons_succ]
              refine until_take (i := 1) (v := ?vd1) rfl (by kernel_rfl) (by kernel_rfl) (by kernel_rfl) (by kernel_rfl) (by kernel_rfl) (fun _ _ _ h => h) rfl ?hyd1 hT0 ?restd1
              case hyd1 => (intro w hSw; obtain ⟨⟨_, y0, y1, y2, y3⟩, x0, x1, _⟩ := hSw; go_simp; try with_reducible rfl)
              try simp only [Act.put, List.setIfInBounds_toArray, List.set_cons_zero, List.set_cons_succ]
              refine until_take (i := 2) (v := ?vd2) rfl (by kernel_rfl) (by kernel_rfl) (by kernel_rfl) (by kernel_rfl) (by kernel_rfl) (fun _ _ _ h => h) rfl ?hyd2 hT0 ?restd2
              case hyd2 => (intro w hSw; obtain ⟨⟨_, y0, y1, y2, y3⟩, x0, x1, _⟩ := hSw; go_simp; try with_reducible rfl)
              try simp only [Act.put, List.setIfInBounds_toArray, List.set_cons_zero, List.set_cons_succ]
              refine until_take (i := 3) (v := ?vd3) rfl (by kernel_rfl) (by kernel_rfl) (by kernel_rfl) (by kernel_rfl) (by kernel_rfl) (fun _ _ _ h => h) rfl ?hyd3 hT0 ?restd3
              case hyd3 => (intro w hSw; obtain ⟨⟨_, y0, y1, y2, y3⟩, x0, x1, _⟩ := hSw; go_simp; try with_reducible rfl)
              try simp only [Act.put, List.setIfInBounds_toArray, List.set_cons_zero, List.set_cons_succ]
              refine until_take (i := 4) (v := ?vd4) rfl (by kernel_rfl) (by kernel_rfl) (by kernel_rfl) (by kernel_rfl) (by kernel_rfl) (fun _ _ _ h => h) rfl ?hyd4 hT0 ?restd4
              case hyd4 => (intro w hSw; obtain ⟨⟨_, y0, y1, y2, y3⟩, x0, x1, _⟩ := hSw; go_simp; try with_reducible rfl)
              try simp only [Act.put, List.setIfInBounds_toArray, List.set_cons_zero, List.set_cons_succ]
              refine until_take (i := 6) (v := ?vd6) rfl (by kernel_rfl) (by kernel_rfl) (by kernel_rfl) (by kernel_rfl) (by kernel_rfl) (fun _ _ _ h => h) rfl ?hyd6 hT0 ?restd6
              case hyd6 => (intro w hSw; obtain ⟨⟨_, y0, y1, y2, y3⟩, x0, x1, _⟩ := hSw; go_simp; try with_reducible rfl)
              try simp only [Act.put, List.setIfInBounds_toArray, List.set_cons_zero, List.set_cons_succ]
              refine until_take (i := 7) (v := ?vd7) rfl (by kernel_rfl) (by kernel_rfl) (by kernel_rfl) (by kernel_rfl) (by kernel_rfl) (fun _ _ _ h => h) rfl ?hyd7 hT0 ?restd7
              case hyd7 => (intro w hSw; obtain ⟨⟨_, y0, y1, y2, y3⟩, x0, x1, _⟩ := hSw; go_simp; try with_reducible rfl)
              try simp only [Act.put, List.setIfInBounds_toArray, List.set_cons_zero, List.set_cons_succ]
              refine until_take (i := 8) (v := ?vd8) rfl (by kernel_rfl) (by kernel_rfl) (by kernel_rfl) (by kernel_rfl) (by kernel_rfl) (fun _ _ _ h => h) rfl ?hyd8 hT0 ?restd8
              case hyd8 => (intro w hSw; obtain ⟨⟨_, y0, y1, y2, y3⟩, x0, x1, _⟩ := hSw; go_simp; try with_reducible rfl)
              try simp only [Act.put, List.setIfInBounds_toArray, List.set_cons_zero, List.set_cons_succ]
              refine until_take (i := 9) (v := ?vd9) rfl (by kernel_rfl) (by kernel_rfl) (by kernel_rfl) (by kernel_rfl) (by kernel_rfl) (fun _ _ _ h => h) rfl ?hyd9 hT0 ?restd9
              case hyd9 => (intro w hSw; obtain ⟨⟨_, y0, y1, y2, y3⟩, x0, x1, _⟩ := hSw; go_simp; try with_reducible rfl)
              try simp only [Act.put, List.setIfInBounds_toArray, List.set_cons_zero, List.set_cons_succ]
              refine until_one (i := 5) (by kernel_rfl) (by kernel_rfl) rfl rfl (fun K hK => ?_)
              go_simp
              refine (HNum.out k hlk _).mono ?_
              rintro e w5 ⟨rfl, HX5⟩
              have hT5 := hT0.ext HX5
              go_simp
              refine hK.out _ _ hT5 ?_
              clear hK K
              try simp only [Act.put, List.setIfInBounds_toArray, List.set_cons_zero, List.set_cons_succ]
              refine until_one (i := 10) (by kernel_rfl) (by kernel_rfl) rfl rfl (fun K hK => ?_)
              go_simp
              refine (HNum.out i hlt _).mono ?_
              rintro e w6 ⟨rfl, HX6⟩
              have hT6 := hT5.ext HX6
              go_simp
              refine hK.out _ _ hT6 ?_
              clear hK K
              try simp only [Act.put, List.setIfInBounds_toArray, List.set_cons_zero, List.set_cons_succ]
              refine until_one (i := 11) (by kernel_rfl) (by kernel_rfl) rfl rfl (fun K hK => ?_)
              go_simp
              refine (refSSub_any _ _ _ _ _ _ _ _ (HLim.out k hlk) (HLim.out i hlt) _).mono ?_
              rintro e w7 ⟨e0, e1, e2, e3, rfl, HDf, HX7⟩
              have hT7 := hT6.ext HX7
              go_simp
              refine hK.out _ _ hT7 ?_
              clear hK K
              try simp only [Act.put, List.setIfInBounds_toArray, List.set_cons_zero, List.set_cons_succ]
              refine until_one (i := 12) (by kernel_rfl) (by kernel_rfl) rfl rfl (fun K hK => ?_)
              go_simp
              refine (refSMul_any _ _ _ _ _ _ _ _ HDn.out.1 HDf.out.1 _).mono ?_
              rintro e w8 ⟨t0, t1, t2, t3, rfl, HT, HX8⟩
              have hT8 := hT7.ext HX8
              go_simp
              refine hK.out _ _ hT8 ?_
              clear hK K
              try simp only [Act.put, List.setIfInBounds_toArray, List.set_cons_zero, List.set_cons_succ]
              refine until_last (by kernel_rfl) (by kernel_rfl) rfl rfl (fun K hK => ?_)
              have HXX : Ext W4 w8 := (Ext.refl _).drew.trans (HX5.trans (HX6.trans (HX7.trans HX8)))
              have Ru8 := Ru6.ext HXX
              have Rd8 := Rd6.ext HXX
              have HO8 : Hid (w8.ownsRow w.heap.size 26 4 u6 i (nml X i)) := own_ext HO6.out HXX
              have HE8 : Hid (Ext w w8) := hT8.2.2.2
              have Rd9 := Rd8
              clear hT0 hT5 hT6 hT7 hT8 HX5 HX6 HX7 HX8 HXX Ru6 Rd6 HO6 HE6
              obtain ⟨⟨la, y0, y1, y2, y3⟩, f0, f1, f2, f3⟩ := Rd9
              go_simp
              refine hK.out _ _ (NoPanic.normal ?_)
              clear hK K
              try simp only [Act.put, List.setIfInBounds_toArray, List.set_cons_zero, List.set_cons_succ]
              have HD1 : Hid (QMod (prE (fun k => P k - P i) i (k + 1)) t0 t1 t2 t3) := down_step hki HDn.out HDf.out HT.out
              have hown9 : u6.ownBlock ≠ some g9 := fun e => Nat.lt_irrefl _ (Nat.lt_trans HN89.out (HN8.out g9 e))
              go_wp2
              go_roundw
              case rel => exact ⟨k + 1, m0, m1, m2, m3, t0, t1, t2, t3, hlk, by push_cast; rfl, Ru8.other h89 |>.other h89 |>.other h89 |>.other h89, RowF.set Rd8, HU1, HD1, own_setCell (own_setCell (own_setCell (own_setCell HO8.out hown9) hown9) hown9) hown9, Ext.st HB9 (Ext.st HB9 (Ext.st HB9 (Ext.st HB9 HE8.out)))⟩
              case measure => simp [intOf]; omega
            · obtain rfl : k = n := by omega
              have hS0 : WE w g8 g9 p0 p1 p2 p3 q0 q1 q2 q3 wr.drew := ⟨Ru.1.ext (Ext.drew (Ext.refl _)), Rd.1.ext (Ext.drew (Ext.refl _)), HE.out.drew⟩
              go_wp2_with fail
              refine wp_region_noPanic ?_
              refine wp_region_until (X := 7) (S := WE w g8 g9 p0 p1 p2 p3 q0 q1 q2 q3) (by kernel_rfl) ?_
              refine until_take (i := 0) (v := ?ve0) rfl (by kernel_rfl) (by kernel_rfl) (by kernel_rfl) (by kernel_rfl) (by kernel_rfl) (fun _ _ _ h => h) rfl ?hye0 hS0 ?reste0
              case hye0 => (intro w hSw; obtain ⟨⟨_, y0, y1, y2, y3⟩, ⟨_, z0, z1, z2, z3⟩, _⟩ := hSw; go_simp; try with_reducible rfl)
              try simp only [Act.put, List.setIfInBounds_toArray, List.set_cons_zero, List.set_cons_succ]
              refine until_take (i := 1) (v := ?ve1) rfl (by kernel_rfl) (by kernel_rfl) (by kernel_rfl) (by kernel_rfl) (by kernel_rfl) (fun _ _ _ h => h) rfl ?hye1 hS0 ?reste1
              case hye1 => (intro w hSw; obtain ⟨⟨_, y0, y1, y2, y3⟩, ⟨_, z0, z1, z2, z3⟩, _⟩ := hSw; go_simp; try with_reducible rfl)
              try simp only [Act.put, List.setIfInBounds_toArray, List.set_cons_zero, List.set_cons_succ]
              refine until_take (i := 2) (v := ?ve2) rfl (by kernel_rfl) (by kernel_rfl) (by kernel_rfl) (by kernel_rfl) (by kernel_rfl) (fun _ _ _ h => h) rfl ?hye2 hS0 ?reste2
              case hye2 => (intro w hSw; obtain ⟨⟨_, y0, y1, y2, y3⟩, ⟨_, z0, z1, z2, z3⟩, _⟩ := hSw; go_simp; try with_reducible rfl)
              try simp only [Act.put, List.setIfInBounds_toArray, List.set_cons_zero, List.set_cons_succ]
              refine until_one (i := 3) (by kernel_rfl) (by kernel_rfl) rfl rfl (fun K hK => ?_)
              go_simp
              refine (refSInv_any _ _ _ _ HDn.out.1 _).mono ?_
              rintro e w3 ⟨v0, v1, v2, v3, rfl, HV, HX3⟩
              have hS3 := hS0.ext HX3
              go_simp
              refine hK.out _ _ hS3 ?_
              clear hK K
              try simp only [Act.put, List.setIfInBounds_toArray, List.set_cons_zero, List.set_cons_succ]
              refine until_one (i := 4) (by kernel_rfl) (by kernel_rfl) rfl rfl (fun K hK => ?_)
              go_simp
              refine (refSMul_any _ _ _ _ _ _ _ _ HUp.out.1 HV.out.1 _).mono ?_
              rintro e w4 ⟨m0, m1, m2, m3, rfl, HM, HX4⟩
              have hS4 := hS3.ext HX4
              go_simp
              refine hK.out _ _ hS4 ?_
              clear hK K
              try simp only [Act.put, List.setIfInBounds_toArray, List.set_cons_zero, List.set_cons_succ]
              obtain ⟨rfl, rfl, rfl, rfl⟩ := qw_one (wgt_end HUp.out HDn.out HV.out HM.out)
              have HO4 : Hid (w4.ownsRow w.heap.size 26 4 u6 i (nml X i)) := own_ext HOr.out ((Ext.refl _).drew.trans (HX3.trans HX4))
              rw [HXi.out i]
              clear HX3 HX4 HV HM
              refine until_one (i := 5) (by kernel_rfl) (by kernel_rfl) rfl rfl (fun K hK => ?_)
              go_simp
              have hS5 := hS4.ext ((Ext.refl _).alloc (.cells #[.int .u64 (qw (X i) 0), .int .u64 (qw (X i) 1), .int .u64 (qw (X i) 2), .int .u64 (qw (X i) 3)] 26))
              refine hK.out _ _ hS5 ?_
              clear hK K
              try simp only [Act.put, List.setIfInBounds_toArray, List.set_cons_zero, List.set_cons_succ]
              refine until_one (i := 6) (by kernel_rfl) (by kernel_rfl) rfl rfl (fun K hK => ?_)
              refine wp_append_lies _ _ _ 22 rfl w.heap.size 26 i0 (.agg #[.int .u64 0, .int .u64 0, .int .u64 0, .int .u64 0]) 4 32 Tryd.underlying22 hi0 hz0 hz1 hz2 rfl (by decide) u6 i (nml X i) rfl (HO4.out.alloc _) ⟨w4.heap.size, 0, none⟩ 1 1 [.int .u64 (qw (X i) 0), .int .u64 (qw (X i) 1), .int .u64 (qw (X i) 2), .int .u64 (qw (X i) 3)] rfl rfl (news4 w4) (num_one _ _ _ _) (by decide) (by unfold maxLen; omega) (by omega) hS5.2.2.size _ rfl ?_
              intro gg cp w5 hown hgrow _ _
              have HE5 : Hid (Ext w w5) := Ext.grown hS5.2.2 (HO4.out.alloc _) (Nat.le_refl _) hgrow
              have hS6 : WE w g8 g9 p0 p1 p2 p3 q0 q1 q2 q3 w5 := ⟨hS5.1.grown hgrow (fun e => Nat.lt_irrefl _ (HN8.out g8 e.symm)), hS5.2.1.grown hgrow (fun e => Nat.lt_irrefl _ (Nat.lt_trans HN89.out (HN8.out g9 e.symm))), HE5.out⟩
              have HO5 : Hid (w5.ownsRow w.heap.size 26 4 (.slice (some ⟨gg, 0, none⟩) (i + 1) cp) (i + 1) (nml X (i + 1))) := hown
              refine hK.out _ _ hS6 ?_
              clear hK K hown hgrow HO4
              try simp only [Act.put, List.setIfInBounds_toArray, List.set_cons_zero, List.set_cons_succ]
              refine until_last (by kernel_rfl) (by kernel_rfl) rfl rfl (fun K hK => ?_)
              clear hS0 hS3 hS4 hS5 hS6
              go_simp
              refine hK.out _ _ (NoPanic.normal ?_)
              clear hK K
              try simp only [Act.put, List.setIfInBounds_toArray, List.set_cons_zero, List.set_cons_succ]
              go_wp2
              go_roundw
              case rel => exact ⟨i + 1, hlt, by push_cast; rfl, HO5, HE5⟩
              case measure => simp [intOf]; omega
        · obtain rfl : i = n := by omega
          go_wp2
          refine bodyPost_ret (v := .tuple #[u6, .int .i64 0]) (by simp [results, Tryd.results15, go_sem]) rfl ⟨HEr.out, .inl ⟨HOk.out, _, rfl, HOr.out⟩⟩
end Go.Proofs.YtnaiccfdbapdpaaDoor
