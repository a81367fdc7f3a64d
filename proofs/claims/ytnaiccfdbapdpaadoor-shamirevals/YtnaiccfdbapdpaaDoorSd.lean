/-
  scalar.modulo, called: the number of eight words modulo q; nothing old is turned.
-/
import Derived.Test.YtnaiccfdbapdpaaDoorSc
namespace Go.Proofs.YtnaiccfdbapdpaaDoor
open Go.RowKit
theorem mod_round {V V' X m o : Int} (h : V % FQ = X % FQ) (e : V' = V + FQ * (-(m * o))) : V' % FQ = X % FQ := by rw [← h]; exact emodq_of _ e
theorem mod_last {r0 r1 r2 r3 X a0 a1 a2 a3 : Int} (h : v8 r0 r1 r2 r3 0 0 0 0 % FQ = X % FQ) (k : QMod (val r0 r1 r2 r3) a0 a1 a2 a3) : QMod X a0 a1 a2 a3 := by
  refine k.cong ?_
  rw [← h, show v8 r0 r1 r2 r3 0 0 0 0 = val r0 r1 r2 r3 from by unfold v8 val; omega]
set_option maxHeartbeats 2000000 in
theorem modulo_any (x0 x1 x2 x3 y0 y1 y2 y3 : Int) (hx : Lim4 x0 x1 x2 x3) (hy : Lim4 y0 y1 y2 y3) (w : World) (hG : Gl w) :
    Calls Tryd.prog 41 #[.agg #[.int .u64 x0, .int .u64 x1, .int .u64 x2, .int .u64 x3], .agg #[.int .u64 y0, .int .u64 y1, .int .u64 y2, .int .u64 y3]] w fun e w' => ∃ r0 r1 r2 r3 : Int, e = .returned (.agg #[.int .u64 r0, .int .u64 r1, .int .u64 r2, .int .u64 r3]) ∧ Hid (QMod (val x0 x1 x2 x3 + B256 * val y0 y1 y2 y3) r0 r1 r2 r3) ∧ Ext w w' := by
  have HP0 := PM.new w x0 x1 x2 x3 y0 y1 y2 y3
  have HB : SizeLe w (w.heap.size + 1 + 1) := by unfold SizeLe; omega
  go_enter Tryd.func41, Tryd.ntmps41
  go_wp2_with fail
  generalize (((w.alloc (.cells #[.int .u64 x0, .int .u64 x1, .int .u64 x2, .int .u64 x3] 26)).alloc (.cells #[.int .u64 y0, .int .u64 y1, .int .u64 y2, .int .u64 y3] 26)).alloc (.cells #[.int .u64 0, .int .u64 0, .int .u64 0, .int .u64 0] 26)).alloc (.cells #[.int .u64 0, .int .u64 0, .int .u64 0, .int .u64 0, .int .u64 0, .int .u64 0, .int .u64 0, .int .u64 0] 72) = W0 at *
  generalize hn : w.heap.size = n at *
  have e1 := HP0.drew.copy1
  go_region
  have HP1 : PM w ((((W0.setCell ⟨n + 1 + 1 + 1, 0, none⟩ (.int .u64 x0)).setCell ⟨n + 1 + 1 + 1, 1, none⟩ (.int .u64 x1)).setCell ⟨n + 1 + 1 + 1, 2, none⟩ (.int .u64 x2)).setCell ⟨n + 1 + 1 + 1, 3, none⟩ (.int .u64 x3)).drew n x0 x1 x2 x3 y0 y1 y2 y3 x0 x1 x2 x3 0 0 0 0 := ((((HP0.set hn 0 x0).set hn 1 x1).set hn 2 x2).set hn 3 x3).drew
  generalize ((((W0.setCell ⟨n + 1 + 1 + 1, 0, none⟩ (.int .u64 x0)).setCell ⟨n + 1 + 1 + 1, 1, none⟩ (.int .u64 x1)).setCell ⟨n + 1 + 1 + 1, 2, none⟩ (.int .u64 x2)).setCell ⟨n + 1 + 1 + 1, 3, none⟩ (.int .u64 x3)).drew = W1 at *
  clear HP0 e1
  have e2 := HP1.drew.copy2
  go_wp2_with fail
  go_region
  have HP2 : PM w ((((W1.setCell ⟨n + 1 + 1 + 1, 4, none⟩ (.int .u64 y0)).setCell ⟨n + 1 + 1 + 1, 5, none⟩ (.int .u64 y1)).setCell ⟨n + 1 + 1 + 1, 6, none⟩ (.int .u64 y2)).setCell ⟨n + 1 + 1 + 1, 7, none⟩ (.int .u64 y3)).drew n x0 x1 x2 x3 y0 y1 y2 y3 x0 x1 x2 x3 y0 y1 y2 y3 := ((((HP1.set hn 4 y0).set hn 5 y1).set hn 6 y2).set hn 7 y3).drew
  generalize ((((W1.setCell ⟨n + 1 + 1 + 1, 4, none⟩ (.int .u64 y0)).setCell ⟨n + 1 + 1 + 1, 5, none⟩ (.int .u64 y1)).setCell ⟨n + 1 + 1 + 1, 6, none⟩ (.int .u64 y2)).setCell ⟨n + 1 + 1 + 1, 7, none⟩ (.int .u64 y3)).drew = W2 at *
  clear HP1 e2
  have HI0 : Hid (Lim8 x0 x1 x2 x3 y0 y1 y2 y3 ∧ v8 x0 x1 x2 x3 y0 y1 y2 y3 % FQ = (val x0 x1 x2 x3 + B256 * val y0 y1 y2 y3) % FQ) := ⟨⟨hx, hy⟩, rfl⟩
  go_wp2_with fail
  go_loopw [6] (fun u6 wr => ∃ (pl r0 r1 r2 r3 r4 r5 r6 r7 : Int), (pl = 3 ∨ (pl = 2 ∧ r7 = 0) ∨ (pl = 1 ∧ r6 = 0 ∧ r7 = 0) ∨ (pl = 0 ∧ r5 = 0 ∧ r6 = 0 ∧ r7 = 0) ∨ (pl = -1 ∧ r4 = 0 ∧ r5 = 0 ∧ r6 = 0 ∧ r7 = 0)) ∧ u6 = .int .i64 pl ∧ PM w wr n x0 x1 x2 x3 y0 y1 y2 y3 r0 r1 r2 r3 r4 r5 r6 r7 ∧ Hid (Lim8 r0 r1 r2 r3 r4 r5 r6 r7 ∧ v8 r0 r1 r2 r3 r4 r5 r6 r7 % FQ = (val x0 x1 x2 x3 + B256 * val y0 y1 y2 y3) % FQ)) (fun u6 _ => (intOf u6 + 1).toNat)
  case atStart => exact ⟨3, x0, x1, x2, x3, y0, y1, y2, y3, Or.inl rfl, rfl, HP2, HI0⟩
  case round =>
    obtain ⟨pl, r0, r1, r2, r3, r4, r5, r6, r7, hpl, rfl, HP, HI⟩ := hrel
    clear HP2 HI0
    rcases hpl with rfl | ⟨rfl, rfl⟩ | ⟨rfl, rfl, rfl⟩ | ⟨rfl, rfl, rfl, rfl⟩ | ⟨rfl, rfl, rfl, rfl, rfl⟩
    · go_wp2_with fail
      go_loopw [7] (fun _ wr => ∃ (r0 r1 r2 r3 r4 r5 r6 r7 : Int), PM w wr n x0 x1 x2 x3 y0 y1 y2 y3 r0 r1 r2 r3 r4 r5 r6 r7 ∧ Hid (Lim8 r0 r1 r2 r3 r4 r5 r6 r7 ∧ v8 r0 r1 r2 r3 r4 r5 r6 r7 % FQ = (val x0 x1 x2 x3 + B256 * val y0 y1 y2 y3) % FQ)) (fun _ wr => (cv8 wr (n + 1 + 1 + 1)).toNat)
      case atStart => exact ⟨r0, r1, r2, r3, r4, r5, r6, r7, HP, HI⟩
      case round =>
        clear HP HI
        obtain ⟨r0, r1, r2, r3, r4, r5, r6, r7, HP, HI⟩ := hrel
        obtain ⟨l, ⟨c0, c1, c2, c3, c4, c5, c6, c7⟩, f0, f1, f2, f3, f4, f5, f6, f7⟩ := HP.2.2.2.1
        by_cases h0 : r7 = 0
        · subst h0
          go_wp2
          go_roundw
          case rel => exact ⟨2, r0, r1, r2, r3, r4, r5, r6, 0, Or.inr (Or.inl ⟨rfl, rfl⟩), by go_num, HP, HI⟩
          case measure => simp [intOf]
        · have hb : (r7 != 0) = true := by simpa using h0
          have ecl := HP.clear3
          have HC : PM w (wr.setCell ⟨n + 1 + 1 + 1, 7, none⟩ (.int .u64 0)) n x0 x1 x2 x3 y0 y1 y2 y3 r0 r1 r2 r3 r4 r5 r6 0 := (HP.set hn 7 0)
          obtain ⟨lc, ⟨d0, d1, d2, d3, d4, d5, d6, d7⟩, g0, g1, g2, g3, g4, g5, g6, g7⟩ := HC.2.2.2.1
          have hlim : Hid (Lim r7 ∧ Lim4 r3 r4 r5 r6) := ⟨HI.out.1.2.2.2.2, HI.out.1.1.2.2.2, HI.out.1.2.1, HI.out.1.2.2.1, HI.out.1.2.2.2.1⟩
          go_wp2_with fail
          clear l c0 c1 c2 c3 c4 c5 c6 c7 f0 f1 f2 f3 f4 f5 f6 f7 ecl
          refine (fold_any (n + 1 + 1 + 1) 3 5 (by decide) r7 r3 r4 r5 r6 hlim.out.1 hlim.out.2 _ d3 d4 d5 d6 d7 g3 g4 g5 g6 g7).mono ?_
          rintro e _ ⟨s0, s1, s2, s3, s4, rfl, HF, rfl⟩
          have HN : PM w ((((((wr.setCell ⟨n + 1 + 1 + 1, 7, none⟩ (.int .u64 0)).setCell ⟨n + 1 + 1 + 1, 3, none⟩ (.int .u64 s0)).setCell ⟨n + 1 + 1 + 1, 4, none⟩ (.int .u64 s1)).setCell ⟨n + 1 + 1 + 1, 5, none⟩ (.int .u64 s2)).setCell ⟨n + 1 + 1 + 1, 6, none⟩ (.int .u64 s3)).setCell ⟨n + 1 + 1 + 1, 7, none⟩ (.int .u64 s4)) n x0 x1 x2 x3 y0 y1 y2 y3 r0 r1 r2 s0 s1 s2 s3 s4 := (((((HC.set hn 3 s0).set hn 4 s1).set hn 5 s2).set hn 6 s3).set hn 7 s4)
          clear lc d0 d1 d2 d3 d4 d5 d6 d7 g0 g1 g2 g3 g4 g5 g6 g7
          go_wp2
          go_roundw
          case rel => exact ⟨r0, r1, r2, s0, s1, s2, s3, s4, HN, (round3 HI.out.1 HF.out).1, mod_round HI.out.2 (round3 HI.out.1 HF.out).2⟩
          case measure =>
            rw [cv8_row HN.2.2.2.1, cv8_row HP.2.2.2.1]
            exact less_of (by decide) (by have := hlim.out.1.1; omega) (v8_pos (round3 HI.out.1 HF.out).1) (round3 HI.out.1 HF.out).2
    · go_wp2_with fail
      go_loopw [7] (fun _ wr => ∃ (r0 r1 r2 r3 r4 r5 r6 : Int), PM w wr n x0 x1 x2 x3 y0 y1 y2 y3 r0 r1 r2 r3 r4 r5 r6 0 ∧ Hid (Lim8 r0 r1 r2 r3 r4 r5 r6 0 ∧ v8 r0 r1 r2 r3 r4 r5 r6 0 % FQ = (val x0 x1 x2 x3 + B256 * val y0 y1 y2 y3) % FQ)) (fun _ wr => (cv8 wr (n + 1 + 1 + 1)).toNat)
      case atStart => exact ⟨r0, r1, r2, r3, r4, r5, r6, HP, HI⟩
      case round =>
        clear HP HI
        obtain ⟨r0, r1, r2, r3, r4, r5, r6, HP, HI⟩ := hrel
        obtain ⟨l, ⟨c0, c1, c2, c3, c4, c5, c6, c7⟩, f0, f1, f2, f3, f4, f5, f6, f7⟩ := HP.2.2.2.1
        by_cases h0 : r6 = 0
        · subst h0
          go_wp2
          go_roundw
          case rel => exact ⟨1, r0, r1, r2, r3, r4, r5, 0, 0, Or.inr (Or.inr (Or.inl ⟨rfl, rfl, rfl⟩)), by go_num, HP, HI⟩
          case measure => simp [intOf]
        · have hb : (r6 != 0) = true := by simpa using h0
          have ecl := HP.clear2
          have HC : PM w ((wr.setCell ⟨n + 1 + 1 + 1, 6, none⟩ (.int .u64 0)).setCell ⟨n + 1 + 1 + 1, 7, none⟩ (.int .u64 0)) n x0 x1 x2 x3 y0 y1 y2 y3 r0 r1 r2 r3 r4 r5 0 0 := ((HP.set hn 6 0).set hn 7 0)
          obtain ⟨lc, ⟨d0, d1, d2, d3, d4, d5, d6, d7⟩, g0, g1, g2, g3, g4, g5, g6, g7⟩ := HC.2.2.2.1
          have hlim : Hid (Lim r6 ∧ Lim4 r2 r3 r4 r5) := ⟨HI.out.1.2.2.2.1, HI.out.1.1.2.2.1, HI.out.1.1.2.2.2, HI.out.1.2.1, HI.out.1.2.2.1⟩
          go_wp2_with fail
          clear l c0 c1 c2 c3 c4 c5 c6 c7 f0 f1 f2 f3 f4 f5 f6 f7 ecl
          refine (fold_any (n + 1 + 1 + 1) 2 6 (by decide) r6 r2 r3 r4 r5 hlim.out.1 hlim.out.2 _ d2 d3 d4 d5 d6 g2 g3 g4 g5 g6).mono ?_
          rintro e _ ⟨s0, s1, s2, s3, s4, rfl, HF, rfl⟩
          have HN : PM w (((((((wr.setCell ⟨n + 1 + 1 + 1, 6, none⟩ (.int .u64 0)).setCell ⟨n + 1 + 1 + 1, 7, none⟩ (.int .u64 0)).setCell ⟨n + 1 + 1 + 1, 2, none⟩ (.int .u64 s0)).setCell ⟨n + 1 + 1 + 1, 3, none⟩ (.int .u64 s1)).setCell ⟨n + 1 + 1 + 1, 4, none⟩ (.int .u64 s2)).setCell ⟨n + 1 + 1 + 1, 5, none⟩ (.int .u64 s3)).setCell ⟨n + 1 + 1 + 1, 6, none⟩ (.int .u64 s4)) n x0 x1 x2 x3 y0 y1 y2 y3 r0 r1 s0 s1 s2 s3 s4 0 := (((((HC.set hn 2 s0).set hn 3 s1).set hn 4 s2).set hn 5 s3).set hn 6 s4)
          clear lc d0 d1 d2 d3 d4 d5 d6 d7 g0 g1 g2 g3 g4 g5 g6 g7
          go_wp2
          go_roundw
          case rel => exact ⟨r0, r1, s0, s1, s2, s3, s4, HN, (round2 HI.out.1 HF.out).1, mod_round HI.out.2 (round2 HI.out.1 HF.out).2⟩
          case measure =>
            rw [cv8_row HN.2.2.2.1, cv8_row HP.2.2.2.1]
            exact less_of (by decide) (by have := hlim.out.1.1; omega) (v8_pos (round2 HI.out.1 HF.out).1) (round2 HI.out.1 HF.out).2
    · go_wp2_with fail
      go_loopw [7] (fun _ wr => ∃ (r0 r1 r2 r3 r4 r5 : Int), PM w wr n x0 x1 x2 x3 y0 y1 y2 y3 r0 r1 r2 r3 r4 r5 0 0 ∧ Hid (Lim8 r0 r1 r2 r3 r4 r5 0 0 ∧ v8 r0 r1 r2 r3 r4 r5 0 0 % FQ = (val x0 x1 x2 x3 + B256 * val y0 y1 y2 y3) % FQ)) (fun _ wr => (cv8 wr (n + 1 + 1 + 1)).toNat)
      case atStart => exact ⟨r0, r1, r2, r3, r4, r5, HP, HI⟩
      case round =>
        clear HP HI
        obtain ⟨r0, r1, r2, r3, r4, r5, HP, HI⟩ := hrel
        obtain ⟨l, ⟨c0, c1, c2, c3, c4, c5, c6, c7⟩, f0, f1, f2, f3, f4, f5, f6, f7⟩ := HP.2.2.2.1
        by_cases h0 : r5 = 0
        · subst h0
          go_wp2
          go_roundw
          case rel => exact ⟨0, r0, r1, r2, r3, r4, 0, 0, 0, Or.inr (Or.inr (Or.inr (Or.inl ⟨rfl, rfl, rfl, rfl⟩))), by go_num, HP, HI⟩
          case measure => simp [intOf]
        · have hb : (r5 != 0) = true := by simpa using h0
          have ecl := HP.clear1
          have HC : PM w (((wr.setCell ⟨n + 1 + 1 + 1, 5, none⟩ (.int .u64 0)).setCell ⟨n + 1 + 1 + 1, 6, none⟩ (.int .u64 0)).setCell ⟨n + 1 + 1 + 1, 7, none⟩ (.int .u64 0)) n x0 x1 x2 x3 y0 y1 y2 y3 r0 r1 r2 r3 r4 0 0 0 := (((HP.set hn 5 0).set hn 6 0).set hn 7 0)
          obtain ⟨lc, ⟨d0, d1, d2, d3, d4, d5, d6, d7⟩, g0, g1, g2, g3, g4, g5, g6, g7⟩ := HC.2.2.2.1
          have hlim : Hid (Lim r5 ∧ Lim4 r1 r2 r3 r4) := ⟨HI.out.1.2.2.1, HI.out.1.1.2.1, HI.out.1.1.2.2.1, HI.out.1.1.2.2.2, HI.out.1.2.1⟩
          go_wp2_with fail
          clear l c0 c1 c2 c3 c4 c5 c6 c7 f0 f1 f2 f3 f4 f5 f6 f7 ecl
          refine (fold_any (n + 1 + 1 + 1) 1 7 (by decide) r5 r1 r2 r3 r4 hlim.out.1 hlim.out.2 _ d1 d2 d3 d4 d5 g1 g2 g3 g4 g5).mono ?_
          rintro e _ ⟨s0, s1, s2, s3, s4, rfl, HF, rfl⟩
          have HN : PM w ((((((((wr.setCell ⟨n + 1 + 1 + 1, 5, none⟩ (.int .u64 0)).setCell ⟨n + 1 + 1 + 1, 6, none⟩ (.int .u64 0)).setCell ⟨n + 1 + 1 + 1, 7, none⟩ (.int .u64 0)).setCell ⟨n + 1 + 1 + 1, 1, none⟩ (.int .u64 s0)).setCell ⟨n + 1 + 1 + 1, 2, none⟩ (.int .u64 s1)).setCell ⟨n + 1 + 1 + 1, 3, none⟩ (.int .u64 s2)).setCell ⟨n + 1 + 1 + 1, 4, none⟩ (.int .u64 s3)).setCell ⟨n + 1 + 1 + 1, 5, none⟩ (.int .u64 s4)) n x0 x1 x2 x3 y0 y1 y2 y3 r0 s0 s1 s2 s3 s4 0 0 := (((((HC.set hn 1 s0).set hn 2 s1).set hn 3 s2).set hn 4 s3).set hn 5 s4)
          clear lc d0 d1 d2 d3 d4 d5 d6 d7 g0 g1 g2 g3 g4 g5 g6 g7
          go_wp2
          go_roundw
          case rel => exact ⟨r0, s0, s1, s2, s3, s4, HN, (round1 HI.out.1 HF.out).1, mod_round HI.out.2 (round1 HI.out.1 HF.out).2⟩
          case measure =>
            rw [cv8_row HN.2.2.2.1, cv8_row HP.2.2.2.1]
            exact less_of (by decide) (by have := hlim.out.1.1; omega) (v8_pos (round1 HI.out.1 HF.out).1) (round1 HI.out.1 HF.out).2
    · go_wp2_with fail
      go_loopw [7] (fun _ wr => ∃ (r0 r1 r2 r3 r4 : Int), PM w wr n x0 x1 x2 x3 y0 y1 y2 y3 r0 r1 r2 r3 r4 0 0 0 ∧ Hid (Lim8 r0 r1 r2 r3 r4 0 0 0 ∧ v8 r0 r1 r2 r3 r4 0 0 0 % FQ = (val x0 x1 x2 x3 + B256 * val y0 y1 y2 y3) % FQ)) (fun _ wr => (cv8 wr (n + 1 + 1 + 1)).toNat)
      case atStart => exact ⟨r0, r1, r2, r3, r4, HP, HI⟩
      case round =>
        clear HP HI
        obtain ⟨r0, r1, r2, r3, r4, HP, HI⟩ := hrel
        obtain ⟨l, ⟨c0, c1, c2, c3, c4, c5, c6, c7⟩, f0, f1, f2, f3, f4, f5, f6, f7⟩ := HP.2.2.2.1
        by_cases h0 : r4 = 0
        · subst h0
          go_wp2
          go_roundw
          case rel => exact ⟨(-1), r0, r1, r2, r3, 0, 0, 0, 0, Or.inr (Or.inr (Or.inr (Or.inr ⟨rfl, rfl, rfl, rfl, rfl⟩))), by go_num, HP, HI⟩
          case measure => simp [intOf]
        · have hb : (r4 != 0) = true := by simpa using h0
          have ecl := HP.clear0
          have HC : PM w ((((wr.setCell ⟨n + 1 + 1 + 1, 4, none⟩ (.int .u64 0)).setCell ⟨n + 1 + 1 + 1, 5, none⟩ (.int .u64 0)).setCell ⟨n + 1 + 1 + 1, 6, none⟩ (.int .u64 0)).setCell ⟨n + 1 + 1 + 1, 7, none⟩ (.int .u64 0)) n x0 x1 x2 x3 y0 y1 y2 y3 r0 r1 r2 r3 0 0 0 0 := ((((HP.set hn 4 0).set hn 5 0).set hn 6 0).set hn 7 0)
          obtain ⟨lc, ⟨d0, d1, d2, d3, d4, d5, d6, d7⟩, g0, g1, g2, g3, g4, g5, g6, g7⟩ := HC.2.2.2.1
          have hlim : Hid (Lim r4 ∧ Lim4 r0 r1 r2 r3) := ⟨HI.out.1.2.1, HI.out.1.1.1, HI.out.1.1.2.1, HI.out.1.1.2.2.1, HI.out.1.1.2.2.2⟩
          go_wp2_with fail
          clear l c0 c1 c2 c3 c4 c5 c6 c7 f0 f1 f2 f3 f4 f5 f6 f7 ecl
          refine (fold_any (n + 1 + 1 + 1) 0 8 (by decide) r4 r0 r1 r2 r3 hlim.out.1 hlim.out.2 _ d0 d1 d2 d3 d4 g0 g1 g2 g3 g4).mono ?_
          rintro e _ ⟨s0, s1, s2, s3, s4, rfl, HF, rfl⟩
          have HN : PM w (((((((((wr.setCell ⟨n + 1 + 1 + 1, 4, none⟩ (.int .u64 0)).setCell ⟨n + 1 + 1 + 1, 5, none⟩ (.int .u64 0)).setCell ⟨n + 1 + 1 + 1, 6, none⟩ (.int .u64 0)).setCell ⟨n + 1 + 1 + 1, 7, none⟩ (.int .u64 0)).setCell ⟨n + 1 + 1 + 1, 0, none⟩ (.int .u64 s0)).setCell ⟨n + 1 + 1 + 1, 1, none⟩ (.int .u64 s1)).setCell ⟨n + 1 + 1 + 1, 2, none⟩ (.int .u64 s2)).setCell ⟨n + 1 + 1 + 1, 3, none⟩ (.int .u64 s3)).setCell ⟨n + 1 + 1 + 1, 4, none⟩ (.int .u64 s4)) n x0 x1 x2 x3 y0 y1 y2 y3 s0 s1 s2 s3 s4 0 0 0 := (((((HC.set hn 0 s0).set hn 1 s1).set hn 2 s2).set hn 3 s3).set hn 4 s4)
          clear lc d0 d1 d2 d3 d4 d5 d6 d7 g0 g1 g2 g3 g4 g5 g6 g7
          go_wp2
          go_roundw
          case rel => exact ⟨s0, s1, s2, s3, s4, HN, (round0 HI.out.1 HF.out).1, mod_round HI.out.2 (round0 HI.out.1 HF.out).2⟩
          case measure =>
            rw [cv8_row HN.2.2.2.1, cv8_row HP.2.2.2.1]
            exact less_of (by decide) (by have := hlim.out.1.1; omega) (v8_pos (round0 HI.out.1 HF.out).1) (round0 HI.out.1 HF.out).2
    · obtain ⟨l, ⟨c0, c1, c2, c3, c4, c5, c6, c7⟩, f0, f1, f2, f3, f4, f5, f6, f7⟩ := HP.2.2.2.1
      have G1 := hG.ext HP.2.2.2.2
      go_wp2_with fail
      clear l c0 c1 c2 c3 c4 c5 c6 c7 f0 f1 f2 f3 f4 f5 f6 f7
      refine (least_any _ _ _ _ HI.out.1.1 _ G1).mono ?_
      rintro e wy ⟨a0, a1, a2, a3, rfl, HR, HX⟩
      obtain ⟨⟨lz, z0, z1, z2, z3⟩, g0, g1, g2, g3⟩ := HP.2.2.1.ext HX
      have HE2 : Hid (Ext w wy) := HP.2.2.2.2.trans HX
      clear HX
      go_wp2
      refine bodyPost_ret (v := .agg #[.int .u64 a0, .int .u64 a1, .int .u64 a2, .int .u64 a3]) (by simp [results, Tryd.results41, go_sem, z0, z1, z2, z3]) rfl ⟨a0, a1, a2, a3, rfl, mod_last HI.out.2 HR.out, ?_⟩
      exact Ext.st HB (Ext.st HB (Ext.st HB (Ext.st HB HE2.out)))
end Go.Proofs.YtnaiccfdbapdpaaDoor
