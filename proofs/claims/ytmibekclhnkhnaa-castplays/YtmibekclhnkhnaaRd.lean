/-
  sandglassref20.Take, called: a message that was heard.
-/
import Derived.Test.YtmibekclhnkhnaaRc
namespace Go.Proofs.Ytmibekclhnkhnaa
open Go.RowKit
set_option maxHeartbeats 2000000 in
theorem rtake_heard1 {N T F : Nat} {s : St} {u : Value} (m : Msg) (hm : mayB N F m = true) (hh : hrd s.L m.kd m.fr = true) (hk : m.kd = 1) (hl : s.L.length ≤ 900) (w : World) (hu : w.ownsRow 0 38 3 u s.L.length (mcs s.L)) :
    Calls Try.prog 14 #[rC N T F u s.rb.isSome s.tb.isSome (s.tb.getD ⟨#[]⟩), mv3 m] w fun e w' => RkP N T F s m u w e w' := by
  have HP : Hid (∀ w' q, q = .slice none 0 0 → w'.ownsRow 0 38 3 u s.L.length (mcs s.L) → Ext w w' → RkP N T F s m u w (.returned (.tuple #[rC N T F u s.rb.isSome s.tb.isSome (s.tb.getD ⟨#[]⟩), q])) w') := fun w' q e h1 h2 => by
    subst e
    unfold RkP
    rw [stp_bad (by unfold ctsB; rw [hh]; exact Bool.and_false _)]
    exact ⟨u, _, rfl, h1, fun b z => .inl z, World.ownsRow_nil _ _ _ _, h2, fun b _ z => by cases z⟩
  obtain ⟨a, cap, e, _⟩ := own_ms hu
  obtain ⟨L, hL⟩ : ∃ L, s.L = L := ⟨_, rfl⟩
  obtain ⟨n, HN⟩ : ∃ n, Hid (L.length = n) := ⟨_, rfl⟩
  obtain ⟨kd, fr, bd⟩ := m
  have HH : Hid (hrd L kd fr = true) := by show _ = _; rw [← hL]; exact hh
  obtain ⟨h1, h2, h3, h4, h5, h6⟩ := may_iff.1 hm
  replace h1 : ¬ fr < 1 := by simp at h1; omega
  replace h2 : ¬ (N : Int) < fr := by simp at h2; omega
  replace h3 : ¬ kd < 1 := by simp at h3; omega
  replace h4 : ¬ 3 < kd := by simp at h4; omega
  replace h5 : ¬ (4096 : Int) < (bd.size : Int) := by simp at h5; omega
  replace hk : kd = 1 := hk
  subst hk
  have e3 : fr = (F : Int) := h6 rfl
  have e4 : (fr == (F : Int)) = true := by simpa using e3
  clear h6 h3 h4 e3
  rw [hL] at hl
  have HU : Hid (w.ownsRow 0 38 3 (.slice a n cap) L.length (mcs L)) := by rw [HN.out, ← hL, ← HN.out, ← hL, ← e]; exact hu
  rw [e, hL, HN.out] at HP ⊢
  clear hu e hh hm hL
  generalize s.rb.isSome = rd at *
  generalize s.tb.isSome = dn at *
  generalize s.tb.getD ⟨#[]⟩ = B at *
  have HR : Hid (RS w N T F ⟨1, fr, bd⟩ (.slice a n cap) L rd dn B (.slice none 0 0) [] (((w.alloc (.cells #[.int .i64 (N : Int), .int .i64 (T : Int), .int .i64 (F : Int), .slice a n cap, .bool rd, .bool dn, .string B] 32)).alloc (.cells #[.int .i64 1, .int .i64 fr, .string bd] 38)).alloc (.cells #[.int .i64 0, .int .i64 0, .int .i64 0, .slice none 0 0, .bool false, .bool false, .string ⟨#[]⟩] 32))) := RS.new ⟨1, fr, bd⟩ HU.out #[.int .i64 0, .int .i64 0, .int .i64 0, .slice none 0 0, .bool false, .bool false, .string ⟨#[]⟩] 32 38 32 rfl
  go_enter Try.func14, Try.ntmps14
  go_wp2
  generalize (((w.alloc (.cells #[.int .i64 (N : Int), .int .i64 (T : Int), .int .i64 (F : Int), .slice a n cap, .bool rd, .bool dn, .string B] 32)).alloc (.cells #[.int .i64 1, .int .i64 fr, .string bd] 38)).alloc (.cells #[.int .i64 0, .int .i64 0, .int .i64 0, .slice none 0 0, .bool false, .bool false, .string ⟨#[]⟩] 32)) = Y at *
  go_loopw [6] (fun u6 wr => ∃ j : Nat, j ≤ n ∧ u6 = .int .i64 j ∧ Hid (RS w N T F ⟨1, fr, bd⟩ (.slice a n cap) L rd dn B (.slice none 0 0) [] wr) ∧ Hid (∀ i x, i < j → L[i]? = some x → ¬ (x.kd = 1 ∧ x.fr = fr))) (fun u6 _ => n - (intOf u6).toNat)
  case atStart => exact ⟨0, Nat.zero_le _, rfl, HR, fun i x hi => absurd hi (Nat.not_lt_zero i)⟩
  case round =>
    obtain ⟨j, hj, rfl, HS, HNo⟩ := hrel
    clear HR
    have q1 := (HS.out.hc.2 3 (by decide)).1
    have c3 : wr.cell? ⟨w.heap.size, 3, none⟩ = some (.slice a n cap) := q1
    have hb0 := HS.out.hc.1
    have hb1 := HS.out.hm.1
    have m0 : wr.cell? ⟨w.heap.size + 1, 0, none⟩ = some (.int .i64 1) := (HS.out.hm.2 0 (by decide)).1
    have m1 : wr.cell? ⟨w.heap.size + 1, 1, none⟩ = some (.int .i64 fr) := (HS.out.hm.2 1 (by decide)).1
    clear q1
    by_cases hlt : j < n
    · skip
      obtain ⟨q1, q0, qw⟩ := lp_nums j n hlt (by have := HN.out; omega)
      obtain ⟨x, hx⟩ : ∃ x, L[j]? = some x := ⟨L[j]'(by rw [HN.out]; exact hlt), List.getElem?_eq_getElem _⟩
      have HL2 : MsIs wr (.slice a L.length cap) L := by have := own_ms HS.out.hu; rw [HN.out] at *; exact this
      obtain ⟨g, o, rfl, hbl, hd0, hd1, hd2⟩ := HL2.get hx
      clear HL2
      have HStep : Hid (¬ (x.kd = 1 ∧ x.fr = fr) → ∀ i y, i < j + 1 → L[i]? = some y → ¬ (y.kd = 1 ∧ y.fr = fr)) := fun hne i y hi hy => by
        by_cases e : i = j
        · subst e; rw [hx] at hy; cases hy; exact hne
        · exact HNo.out i y (by omega) hy
      by_cases e1 : x.kd = 1
      · have b1 : (x.kd == 1) = true := by simpa using e1
        by_cases e2 : x.fr = fr
        · have b2 : (x.fr == fr) = true := by simpa using e2
          have HX : Hid (RS w N T F ⟨1, fr, bd⟩ (.slice (some ⟨g, o, none⟩) n cap) L rd dn B (.slice none 0 0) [] wr) := HS.out
          clear HNo HStep HS
          go_wp2_with fail
          go_quiet (fail)
          have HD : Hid (RS w N T F ⟨1, fr, bd⟩ (.slice (some ⟨g, o, none⟩) n cap) L rd dn B (.slice none 0 0) [] (wr.drewN nq)) := HX.out.further ((Ext.refl _).drewN _)
          clear c3 m0 m1 hb0 hb1 hd0 hd1 hd2 hbl HX
          generalize wr.drewN nq = Y2 at *
          obtain ⟨rg, hrg⟩ := HD.out.hr
          have hbc := HD.out.hc.1
          have hbr := hrg.1
          have c0 : Y2.cell? ⟨w.heap.size, 0, none⟩ = some (.int .i64 (N : Int)) := (HD.out.hc.2 0 (by decide)).1
          have c1 : Y2.cell? ⟨w.heap.size, 1, none⟩ = some (.int .i64 (T : Int)) := (HD.out.hc.2 1 (by decide)).1
          have c2 : Y2.cell? ⟨w.heap.size, 2, none⟩ = some (.int .i64 (F : Int)) := (HD.out.hc.2 2 (by decide)).1
          have c3 : Y2.cell? ⟨w.heap.size, 3, none⟩ = some (.slice (some ⟨g, o, none⟩) n cap) := (HD.out.hc.2 3 (by decide)).1
          have c4 : Y2.cell? ⟨w.heap.size, 4, none⟩ = some (.bool rd) := (HD.out.hc.2 4 (by decide)).1
          have c5 : Y2.cell? ⟨w.heap.size, 5, none⟩ = some (.bool dn) := (HD.out.hc.2 5 (by decide)).1
          have c6 : Y2.cell? ⟨w.heap.size, 6, none⟩ = some (.string B) := (HD.out.hc.2 6 (by decide)).1
          have r0 := (hrg.2 0 (by decide)).1
          have r1 := (hrg.2 1 (by decide)).1
          have r2 := (hrg.2 2 (by decide)).1
          have r3 := (hrg.2 3 (by decide)).1
          have r4 := (hrg.2 4 (by decide)).1
          have r5 := (hrg.2 5 (by decide)).1
          have r6 := (hrg.2 6 (by decide)).1
          have z0 := (hrg.2 0 (by decide)).2
          have z1 := (hrg.2 1 (by decide)).2
          have z2 := (hrg.2 2 (by decide)).2
          have z3 := (hrg.2 3 (by decide)).2
          have z4 := (hrg.2 4 (by decide)).2
          have z5 := (hrg.2 5 (by decide)).2
          have z6 := (hrg.2 6 (by decide)).2
          clear hrg
          have HZ := HD.out.ret
          have HZb : Hid (Blk ((((((((Y2.setCell ⟨w.heap.size + 1 + 1, 0, none⟩ (.int .i64 (N : Int))).setCell ⟨w.heap.size + 1 + 1, 1, none⟩ (.int .i64 (T : Int))).setCell ⟨w.heap.size + 1 + 1, 2, none⟩ (.int .i64 (F : Int))).setCell ⟨w.heap.size + 1 + 1, 3, none⟩ (.slice (some ⟨g, o, none⟩) n cap)).setCell ⟨w.heap.size + 1 + 1, 4, none⟩ (.bool rd)).setCell ⟨w.heap.size + 1 + 1, 5, none⟩ (.bool dn)).setCell ⟨w.heap.size + 1 + 1, 6, none⟩ (.string B))) (w.heap.size + 1 + 1) 7 (cr N T F (.slice (some ⟨g, o, none⟩) n cap) rd dn B)) := HZ.1
          have HZr : Hid (Ext w ((((((((Y2.setCell ⟨w.heap.size + 1 + 1, 0, none⟩ (.int .i64 (N : Int))).setCell ⟨w.heap.size + 1 + 1, 1, none⟩ (.int .i64 (T : Int))).setCell ⟨w.heap.size + 1 + 1, 2, none⟩ (.int .i64 (F : Int))).setCell ⟨w.heap.size + 1 + 1, 3, none⟩ (.slice (some ⟨g, o, none⟩) n cap)).setCell ⟨w.heap.size + 1 + 1, 4, none⟩ (.bool rd)).setCell ⟨w.heap.size + 1 + 1, 5, none⟩ (.bool dn)).setCell ⟨w.heap.size + 1 + 1, 6, none⟩ (.string B))) ∧ World.ownsRow ((((((((Y2.setCell ⟨w.heap.size + 1 + 1, 0, none⟩ (.int .i64 (N : Int))).setCell ⟨w.heap.size + 1 + 1, 1, none⟩ (.int .i64 (T : Int))).setCell ⟨w.heap.size + 1 + 1, 2, none⟩ (.int .i64 (F : Int))).setCell ⟨w.heap.size + 1 + 1, 3, none⟩ (.slice (some ⟨g, o, none⟩) n cap)).setCell ⟨w.heap.size + 1 + 1, 4, none⟩ (.bool rd)).setCell ⟨w.heap.size + 1 + 1, 5, none⟩ (.bool dn)).setCell ⟨w.heap.size + 1 + 1, 6, none⟩ (.string B))) 0 38 3 (.slice (some ⟨g, o, none⟩) n cap) L.length (mcs L) ∧ World.ownsRow ((((((((Y2.setCell ⟨w.heap.size + 1 + 1, 0, none⟩ (.int .i64 (N : Int))).setCell ⟨w.heap.size + 1 + 1, 1, none⟩ (.int .i64 (T : Int))).setCell ⟨w.heap.size + 1 + 1, 2, none⟩ (.int .i64 (F : Int))).setCell ⟨w.heap.size + 1 + 1, 3, none⟩ (.slice (some ⟨g, o, none⟩) n cap)).setCell ⟨w.heap.size + 1 + 1, 4, none⟩ (.bool rd)).setCell ⟨w.heap.size + 1 + 1, 5, none⟩ (.bool dn)).setCell ⟨w.heap.size + 1 + 1, 6, none⟩ (.string B))) w.heap.size 38 3 (.slice none 0 0) ([] : List Msg).length (mcs ([] : List Msg))) := HZ.2
          clear HZ
          go_wp2
          obtain ⟨re, ru, rq⟩ := HZr.out
          have y0 : World.cell? ((((((((Y2.setCell ⟨w.heap.size + 1 + 1, 0, none⟩ (.int .i64 (N : Int))).setCell ⟨w.heap.size + 1 + 1, 1, none⟩ (.int .i64 (T : Int))).setCell ⟨w.heap.size + 1 + 1, 2, none⟩ (.int .i64 (F : Int))).setCell ⟨w.heap.size + 1 + 1, 3, none⟩ (.slice (some ⟨g, o, none⟩) n cap)).setCell ⟨w.heap.size + 1 + 1, 4, none⟩ (.bool rd)).setCell ⟨w.heap.size + 1 + 1, 5, none⟩ (.bool dn)).setCell ⟨w.heap.size + 1 + 1, 6, none⟩ (.string B))) ⟨w.heap.size + 1 + 1, 0, none⟩ = some (.int .i64 (N : Int)) := (HZb.out.2 0 (by decide)).1
          have y1 : World.cell? ((((((((Y2.setCell ⟨w.heap.size + 1 + 1, 0, none⟩ (.int .i64 (N : Int))).setCell ⟨w.heap.size + 1 + 1, 1, none⟩ (.int .i64 (T : Int))).setCell ⟨w.heap.size + 1 + 1, 2, none⟩ (.int .i64 (F : Int))).setCell ⟨w.heap.size + 1 + 1, 3, none⟩ (.slice (some ⟨g, o, none⟩) n cap)).setCell ⟨w.heap.size + 1 + 1, 4, none⟩ (.bool rd)).setCell ⟨w.heap.size + 1 + 1, 5, none⟩ (.bool dn)).setCell ⟨w.heap.size + 1 + 1, 6, none⟩ (.string B))) ⟨w.heap.size + 1 + 1, 1, none⟩ = some (.int .i64 (T : Int)) := (HZb.out.2 1 (by decide)).1
          have y2 : World.cell? ((((((((Y2.setCell ⟨w.heap.size + 1 + 1, 0, none⟩ (.int .i64 (N : Int))).setCell ⟨w.heap.size + 1 + 1, 1, none⟩ (.int .i64 (T : Int))).setCell ⟨w.heap.size + 1 + 1, 2, none⟩ (.int .i64 (F : Int))).setCell ⟨w.heap.size + 1 + 1, 3, none⟩ (.slice (some ⟨g, o, none⟩) n cap)).setCell ⟨w.heap.size + 1 + 1, 4, none⟩ (.bool rd)).setCell ⟨w.heap.size + 1 + 1, 5, none⟩ (.bool dn)).setCell ⟨w.heap.size + 1 + 1, 6, none⟩ (.string B))) ⟨w.heap.size + 1 + 1, 2, none⟩ = some (.int .i64 (F : Int)) := (HZb.out.2 2 (by decide)).1
          have y3 : World.cell? ((((((((Y2.setCell ⟨w.heap.size + 1 + 1, 0, none⟩ (.int .i64 (N : Int))).setCell ⟨w.heap.size + 1 + 1, 1, none⟩ (.int .i64 (T : Int))).setCell ⟨w.heap.size + 1 + 1, 2, none⟩ (.int .i64 (F : Int))).setCell ⟨w.heap.size + 1 + 1, 3, none⟩ (.slice (some ⟨g, o, none⟩) n cap)).setCell ⟨w.heap.size + 1 + 1, 4, none⟩ (.bool rd)).setCell ⟨w.heap.size + 1 + 1, 5, none⟩ (.bool dn)).setCell ⟨w.heap.size + 1 + 1, 6, none⟩ (.string B))) ⟨w.heap.size + 1 + 1, 3, none⟩ = some (.slice (some ⟨g, o, none⟩) n cap) := (HZb.out.2 3 (by decide)).1
          have y4 : World.cell? ((((((((Y2.setCell ⟨w.heap.size + 1 + 1, 0, none⟩ (.int .i64 (N : Int))).setCell ⟨w.heap.size + 1 + 1, 1, none⟩ (.int .i64 (T : Int))).setCell ⟨w.heap.size + 1 + 1, 2, none⟩ (.int .i64 (F : Int))).setCell ⟨w.heap.size + 1 + 1, 3, none⟩ (.slice (some ⟨g, o, none⟩) n cap)).setCell ⟨w.heap.size + 1 + 1, 4, none⟩ (.bool rd)).setCell ⟨w.heap.size + 1 + 1, 5, none⟩ (.bool dn)).setCell ⟨w.heap.size + 1 + 1, 6, none⟩ (.string B))) ⟨w.heap.size + 1 + 1, 4, none⟩ = some (.bool rd) := (HZb.out.2 4 (by decide)).1
          have y5 : World.cell? ((((((((Y2.setCell ⟨w.heap.size + 1 + 1, 0, none⟩ (.int .i64 (N : Int))).setCell ⟨w.heap.size + 1 + 1, 1, none⟩ (.int .i64 (T : Int))).setCell ⟨w.heap.size + 1 + 1, 2, none⟩ (.int .i64 (F : Int))).setCell ⟨w.heap.size + 1 + 1, 3, none⟩ (.slice (some ⟨g, o, none⟩) n cap)).setCell ⟨w.heap.size + 1 + 1, 4, none⟩ (.bool rd)).setCell ⟨w.heap.size + 1 + 1, 5, none⟩ (.bool dn)).setCell ⟨w.heap.size + 1 + 1, 6, none⟩ (.string B))) ⟨w.heap.size + 1 + 1, 5, none⟩ = some (.bool dn) := (HZb.out.2 5 (by decide)).1
          have y6 : World.cell? ((((((((Y2.setCell ⟨w.heap.size + 1 + 1, 0, none⟩ (.int .i64 (N : Int))).setCell ⟨w.heap.size + 1 + 1, 1, none⟩ (.int .i64 (T : Int))).setCell ⟨w.heap.size + 1 + 1, 2, none⟩ (.int .i64 (F : Int))).setCell ⟨w.heap.size + 1 + 1, 3, none⟩ (.slice (some ⟨g, o, none⟩) n cap)).setCell ⟨w.heap.size + 1 + 1, 4, none⟩ (.bool rd)).setCell ⟨w.heap.size + 1 + 1, 5, none⟩ (.bool dn)).setCell ⟨w.heap.size + 1 + 1, 6, none⟩ (.string B))) ⟨w.heap.size + 1 + 1, 6, none⟩ = some (.string B) := (HZb.out.2 6 (by decide)).1
          generalize (((((((Y2.setCell ⟨w.heap.size + 1 + 1, 0, none⟩ (.int .i64 (N : Int))).setCell ⟨w.heap.size + 1 + 1, 1, none⟩ (.int .i64 (T : Int))).setCell ⟨w.heap.size + 1 + 1, 2, none⟩ (.int .i64 (F : Int))).setCell ⟨w.heap.size + 1 + 1, 3, none⟩ (.slice (some ⟨g, o, none⟩) n cap)).setCell ⟨w.heap.size + 1 + 1, 4, none⟩ (.bool rd)).setCell ⟨w.heap.size + 1 + 1, 5, none⟩ (.bool dn)).setCell ⟨w.heap.size + 1 + 1, 6, none⟩ (.string B)) = wz at *
          refine bodyPost_ret (v := .tuple #[rC N T F (.slice (some ⟨g, o, none⟩) n cap) rd dn B, .slice none 0 0]) (by simp [results, Try.results14, go_sem, y0, y1, y2, y3, y4, y5, y6]) rfl (HP.out _ _ rfl (by rw [HN.out] at ru; exact ru) re)
        · have b2 : (x.fr == fr) = false := by simpa using e2
          have HN2 : Hid _ := HStep.out (fun z => e2 z.2)
          clear HStep HNo
          go_wp2_with fail
          go_quiet (fail)
          go_wp2
          go_roundw
          case rel => exact ⟨j + 1, hlt, by push_cast; rfl, HS.out.further ((Ext.refl _).drewN _), HN2⟩
          case measure => exact lp_meas hlt
      · have b1 : (x.kd == 1) = false := by simpa using e1
        have HN2 : Hid _ := HStep.out (fun z => e1 z.1)
        clear HStep HNo
        go_wp2_with fail
        go_quiet (fail)
        go_wp2
        go_roundw
        case rel => exact ⟨j + 1, hlt, by push_cast; rfl, HS.out.further ((Ext.refl _).drewN _), HN2⟩
        case measure => exact lp_meas hlt
    · exfalso
      obtain ⟨x, hx, e1, e2⟩ := hrd_mem.1 HH.out
      obtain ⟨i, hi, hxi⟩ := List.getElem_of_mem hx
      exact HNo.out i x (by rw [HN.out] at hi; omega) (by rw [List.getElem?_eq_getElem hi, hxi]) ⟨e1, e2⟩
set_option maxHeartbeats 2000000 in
theorem rtake_heard2 {N T F : Nat} {s : St} {u : Value} (m : Msg) (hm : mayB N F m = true) (hh : hrd s.L m.kd m.fr = true) (hk : ¬ m.kd = 1) (hl : s.L.length ≤ 900) (w : World) (hu : w.ownsRow 0 38 3 u s.L.length (mcs s.L)) :
    Calls Try.prog 14 #[rC N T F u s.rb.isSome s.tb.isSome (s.tb.getD ⟨#[]⟩), mv3 m] w fun e w' => RkP N T F s m u w e w' := by
  have HP : Hid (∀ w' q, q = .slice none 0 0 → w'.ownsRow 0 38 3 u s.L.length (mcs s.L) → Ext w w' → RkP N T F s m u w (.returned (.tuple #[rC N T F u s.rb.isSome s.tb.isSome (s.tb.getD ⟨#[]⟩), q])) w') := fun w' q e h1 h2 => by
    subst e
    unfold RkP
    rw [stp_bad (by unfold ctsB; rw [hh]; exact Bool.and_false _)]
    exact ⟨u, _, rfl, h1, fun b z => .inl z, World.ownsRow_nil _ _ _ _, h2, fun b _ z => by cases z⟩
  obtain ⟨a, cap, e, _⟩ := own_ms hu
  obtain ⟨L, hL⟩ : ∃ L, s.L = L := ⟨_, rfl⟩
  obtain ⟨n, HN⟩ : ∃ n, Hid (L.length = n) := ⟨_, rfl⟩
  obtain ⟨kd, fr, bd⟩ := m
  have HH : Hid (hrd L kd fr = true) := by show _ = _; rw [← hL]; exact hh
  obtain ⟨h1, h2, h3, h4, h5, h6⟩ := may_iff.1 hm
  replace h1 : ¬ fr < 1 := by simp at h1; omega
  replace h2 : ¬ (N : Int) < fr := by simp at h2; omega
  replace h3 : ¬ kd < 1 := by simp at h3; omega
  replace h4 : ¬ 3 < kd := by simp at h4; omega
  replace h5 : ¬ (4096 : Int) < (bd.size : Int) := by simp at h5; omega
  replace hk : ¬ kd = 1 := hk
  have d1 : (kd == 1) = false := by simpa using hk
  clear h6
  rw [hL] at hl
  have HU : Hid (w.ownsRow 0 38 3 (.slice a n cap) L.length (mcs L)) := by rw [HN.out, ← hL, ← HN.out, ← hL, ← e]; exact hu
  rw [e, hL, HN.out] at HP ⊢
  clear hu e hh hm hL
  generalize s.rb.isSome = rd at *
  generalize s.tb.isSome = dn at *
  generalize s.tb.getD ⟨#[]⟩ = B at *
  have HR : Hid (RS w N T F ⟨kd, fr, bd⟩ (.slice a n cap) L rd dn B (.slice none 0 0) [] (((w.alloc (.cells #[.int .i64 (N : Int), .int .i64 (T : Int), .int .i64 (F : Int), .slice a n cap, .bool rd, .bool dn, .string B] 32)).alloc (.cells #[.int .i64 kd, .int .i64 fr, .string bd] 38)).alloc (.cells #[.int .i64 0, .int .i64 0, .int .i64 0, .slice none 0 0, .bool false, .bool false, .string ⟨#[]⟩] 32))) := RS.new ⟨kd, fr, bd⟩ HU.out #[.int .i64 0, .int .i64 0, .int .i64 0, .slice none 0 0, .bool false, .bool false, .string ⟨#[]⟩] 32 38 32 rfl
  go_enter Try.func14, Try.ntmps14
  go_wp2
  generalize (((w.alloc (.cells #[.int .i64 (N : Int), .int .i64 (T : Int), .int .i64 (F : Int), .slice a n cap, .bool rd, .bool dn, .string B] 32)).alloc (.cells #[.int .i64 kd, .int .i64 fr, .string bd] 38)).alloc (.cells #[.int .i64 0, .int .i64 0, .int .i64 0, .slice none 0 0, .bool false, .bool false, .string ⟨#[]⟩] 32)) = Y at *
  go_loopw [6] (fun u6 wr => ∃ j : Nat, j ≤ n ∧ u6 = .int .i64 j ∧ Hid (RS w N T F ⟨kd, fr, bd⟩ (.slice a n cap) L rd dn B (.slice none 0 0) [] wr) ∧ Hid (∀ i x, i < j → L[i]? = some x → ¬ (x.kd = kd ∧ x.fr = fr))) (fun u6 _ => n - (intOf u6).toNat)
  case atStart => exact ⟨0, Nat.zero_le _, rfl, HR, fun i x hi => absurd hi (Nat.not_lt_zero i)⟩
  case round =>
    obtain ⟨j, hj, rfl, HS, HNo⟩ := hrel
    clear HR
    have q1 := (HS.out.hc.2 3 (by decide)).1
    have c3 : wr.cell? ⟨w.heap.size, 3, none⟩ = some (.slice a n cap) := q1
    have hb0 := HS.out.hc.1
    have hb1 := HS.out.hm.1
    have m0 : wr.cell? ⟨w.heap.size + 1, 0, none⟩ = some (.int .i64 kd) := (HS.out.hm.2 0 (by decide)).1
    have m1 : wr.cell? ⟨w.heap.size + 1, 1, none⟩ = some (.int .i64 fr) := (HS.out.hm.2 1 (by decide)).1
    clear q1
    by_cases hlt : j < n
    · skip
      obtain ⟨q1, q0, qw⟩ := lp_nums j n hlt (by have := HN.out; omega)
      obtain ⟨x, hx⟩ : ∃ x, L[j]? = some x := ⟨L[j]'(by rw [HN.out]; exact hlt), List.getElem?_eq_getElem _⟩
      have HL2 : MsIs wr (.slice a L.length cap) L := by have := own_ms HS.out.hu; rw [HN.out] at *; exact this
      obtain ⟨g, o, rfl, hbl, hd0, hd1, hd2⟩ := HL2.get hx
      clear HL2
      have HStep : Hid (¬ (x.kd = kd ∧ x.fr = fr) → ∀ i y, i < j + 1 → L[i]? = some y → ¬ (y.kd = kd ∧ y.fr = fr)) := fun hne i y hi hy => by
        by_cases e : i = j
        · subst e; rw [hx] at hy; cases hy; exact hne
        · exact HNo.out i y (by omega) hy
      by_cases e1 : x.kd = kd
      · have b1 : (x.kd == kd) = true := by simpa using e1
        by_cases e2 : x.fr = fr
        · have b2 : (x.fr == fr) = true := by simpa using e2
          have HX : Hid (RS w N T F ⟨kd, fr, bd⟩ (.slice (some ⟨g, o, none⟩) n cap) L rd dn B (.slice none 0 0) [] wr) := HS.out
          clear HNo HStep HS
          go_wp2_with fail
          go_quiet (fail)
          have HD : Hid (RS w N T F ⟨kd, fr, bd⟩ (.slice (some ⟨g, o, none⟩) n cap) L rd dn B (.slice none 0 0) [] (wr.drewN nq)) := HX.out.further ((Ext.refl _).drewN _)
          clear c3 m0 m1 hb0 hb1 hd0 hd1 hd2 hbl HX
          generalize wr.drewN nq = Y2 at *
          obtain ⟨rg, hrg⟩ := HD.out.hr
          have hbc := HD.out.hc.1
          have hbr := hrg.1
          have c0 : Y2.cell? ⟨w.heap.size, 0, none⟩ = some (.int .i64 (N : Int)) := (HD.out.hc.2 0 (by decide)).1
          have c1 : Y2.cell? ⟨w.heap.size, 1, none⟩ = some (.int .i64 (T : Int)) := (HD.out.hc.2 1 (by decide)).1
          have c2 : Y2.cell? ⟨w.heap.size, 2, none⟩ = some (.int .i64 (F : Int)) := (HD.out.hc.2 2 (by decide)).1
          have c3 : Y2.cell? ⟨w.heap.size, 3, none⟩ = some (.slice (some ⟨g, o, none⟩) n cap) := (HD.out.hc.2 3 (by decide)).1
          have c4 : Y2.cell? ⟨w.heap.size, 4, none⟩ = some (.bool rd) := (HD.out.hc.2 4 (by decide)).1
          have c5 : Y2.cell? ⟨w.heap.size, 5, none⟩ = some (.bool dn) := (HD.out.hc.2 5 (by decide)).1
          have c6 : Y2.cell? ⟨w.heap.size, 6, none⟩ = some (.string B) := (HD.out.hc.2 6 (by decide)).1
          have r0 := (hrg.2 0 (by decide)).1
          have r1 := (hrg.2 1 (by decide)).1
          have r2 := (hrg.2 2 (by decide)).1
          have r3 := (hrg.2 3 (by decide)).1
          have r4 := (hrg.2 4 (by decide)).1
          have r5 := (hrg.2 5 (by decide)).1
          have r6 := (hrg.2 6 (by decide)).1
          have z0 := (hrg.2 0 (by decide)).2
          have z1 := (hrg.2 1 (by decide)).2
          have z2 := (hrg.2 2 (by decide)).2
          have z3 := (hrg.2 3 (by decide)).2
          have z4 := (hrg.2 4 (by decide)).2
          have z5 := (hrg.2 5 (by decide)).2
          have z6 := (hrg.2 6 (by decide)).2
          clear hrg
          have HZ := HD.out.ret
          have HZb : Hid (Blk ((((((((Y2.setCell ⟨w.heap.size + 1 + 1, 0, none⟩ (.int .i64 (N : Int))).setCell ⟨w.heap.size + 1 + 1, 1, none⟩ (.int .i64 (T : Int))).setCell ⟨w.heap.size + 1 + 1, 2, none⟩ (.int .i64 (F : Int))).setCell ⟨w.heap.size + 1 + 1, 3, none⟩ (.slice (some ⟨g, o, none⟩) n cap)).setCell ⟨w.heap.size + 1 + 1, 4, none⟩ (.bool rd)).setCell ⟨w.heap.size + 1 + 1, 5, none⟩ (.bool dn)).setCell ⟨w.heap.size + 1 + 1, 6, none⟩ (.string B))) (w.heap.size + 1 + 1) 7 (cr N T F (.slice (some ⟨g, o, none⟩) n cap) rd dn B)) := HZ.1
          have HZr : Hid (Ext w ((((((((Y2.setCell ⟨w.heap.size + 1 + 1, 0, none⟩ (.int .i64 (N : Int))).setCell ⟨w.heap.size + 1 + 1, 1, none⟩ (.int .i64 (T : Int))).setCell ⟨w.heap.size + 1 + 1, 2, none⟩ (.int .i64 (F : Int))).setCell ⟨w.heap.size + 1 + 1, 3, none⟩ (.slice (some ⟨g, o, none⟩) n cap)).setCell ⟨w.heap.size + 1 + 1, 4, none⟩ (.bool rd)).setCell ⟨w.heap.size + 1 + 1, 5, none⟩ (.bool dn)).setCell ⟨w.heap.size + 1 + 1, 6, none⟩ (.string B))) ∧ World.ownsRow ((((((((Y2.setCell ⟨w.heap.size + 1 + 1, 0, none⟩ (.int .i64 (N : Int))).setCell ⟨w.heap.size + 1 + 1, 1, none⟩ (.int .i64 (T : Int))).setCell ⟨w.heap.size + 1 + 1, 2, none⟩ (.int .i64 (F : Int))).setCell ⟨w.heap.size + 1 + 1, 3, none⟩ (.slice (some ⟨g, o, none⟩) n cap)).setCell ⟨w.heap.size + 1 + 1, 4, none⟩ (.bool rd)).setCell ⟨w.heap.size + 1 + 1, 5, none⟩ (.bool dn)).setCell ⟨w.heap.size + 1 + 1, 6, none⟩ (.string B))) 0 38 3 (.slice (some ⟨g, o, none⟩) n cap) L.length (mcs L) ∧ World.ownsRow ((((((((Y2.setCell ⟨w.heap.size + 1 + 1, 0, none⟩ (.int .i64 (N : Int))).setCell ⟨w.heap.size + 1 + 1, 1, none⟩ (.int .i64 (T : Int))).setCell ⟨w.heap.size + 1 + 1, 2, none⟩ (.int .i64 (F : Int))).setCell ⟨w.heap.size + 1 + 1, 3, none⟩ (.slice (some ⟨g, o, none⟩) n cap)).setCell ⟨w.heap.size + 1 + 1, 4, none⟩ (.bool rd)).setCell ⟨w.heap.size + 1 + 1, 5, none⟩ (.bool dn)).setCell ⟨w.heap.size + 1 + 1, 6, none⟩ (.string B))) w.heap.size 38 3 (.slice none 0 0) ([] : List Msg).length (mcs ([] : List Msg))) := HZ.2
          clear HZ
          go_wp2
          obtain ⟨re, ru, rq⟩ := HZr.out
          have y0 : World.cell? ((((((((Y2.setCell ⟨w.heap.size + 1 + 1, 0, none⟩ (.int .i64 (N : Int))).setCell ⟨w.heap.size + 1 + 1, 1, none⟩ (.int .i64 (T : Int))).setCell ⟨w.heap.size + 1 + 1, 2, none⟩ (.int .i64 (F : Int))).setCell ⟨w.heap.size + 1 + 1, 3, none⟩ (.slice (some ⟨g, o, none⟩) n cap)).setCell ⟨w.heap.size + 1 + 1, 4, none⟩ (.bool rd)).setCell ⟨w.heap.size + 1 + 1, 5, none⟩ (.bool dn)).setCell ⟨w.heap.size + 1 + 1, 6, none⟩ (.string B))) ⟨w.heap.size + 1 + 1, 0, none⟩ = some (.int .i64 (N : Int)) := (HZb.out.2 0 (by decide)).1
          have y1 : World.cell? ((((((((Y2.setCell ⟨w.heap.size + 1 + 1, 0, none⟩ (.int .i64 (N : Int))).setCell ⟨w.heap.size + 1 + 1, 1, none⟩ (.int .i64 (T : Int))).setCell ⟨w.heap.size + 1 + 1, 2, none⟩ (.int .i64 (F : Int))).setCell ⟨w.heap.size + 1 + 1, 3, none⟩ (.slice (some ⟨g, o, none⟩) n cap)).setCell ⟨w.heap.size + 1 + 1, 4, none⟩ (.bool rd)).setCell ⟨w.heap.size + 1 + 1, 5, none⟩ (.bool dn)).setCell ⟨w.heap.size + 1 + 1, 6, none⟩ (.string B))) ⟨w.heap.size + 1 + 1, 1, none⟩ = some (.int .i64 (T : Int)) := (HZb.out.2 1 (by decide)).1
          have y2 : World.cell? ((((((((Y2.setCell ⟨w.heap.size + 1 + 1, 0, none⟩ (.int .i64 (N : Int))).setCell ⟨w.heap.size + 1 + 1, 1, none⟩ (.int .i64 (T : Int))).setCell ⟨w.heap.size + 1 + 1, 2, none⟩ (.int .i64 (F : Int))).setCell ⟨w.heap.size + 1 + 1, 3, none⟩ (.slice (some ⟨g, o, none⟩) n cap)).setCell ⟨w.heap.size + 1 + 1, 4, none⟩ (.bool rd)).setCell ⟨w.heap.size + 1 + 1, 5, none⟩ (.bool dn)).setCell ⟨w.heap.size + 1 + 1, 6, none⟩ (.string B))) ⟨w.heap.size + 1 + 1, 2, none⟩ = some (.int .i64 (F : Int)) := (HZb.out.2 2 (by decide)).1
          have y3 : World.cell? ((((((((Y2.setCell ⟨w.heap.size + 1 + 1, 0, none⟩ (.int .i64 (N : Int))).setCell ⟨w.heap.size + 1 + 1, 1, none⟩ (.int .i64 (T : Int))).setCell ⟨w.heap.size + 1 + 1, 2, none⟩ (.int .i64 (F : Int))).setCell ⟨w.heap.size + 1 + 1, 3, none⟩ (.slice (some ⟨g, o, none⟩) n cap)).setCell ⟨w.heap.size + 1 + 1, 4, none⟩ (.bool rd)).setCell ⟨w.heap.size + 1 + 1, 5, none⟩ (.bool dn)).setCell ⟨w.heap.size + 1 + 1, 6, none⟩ (.string B))) ⟨w.heap.size + 1 + 1, 3, none⟩ = some (.slice (some ⟨g, o, none⟩) n cap) := (HZb.out.2 3 (by decide)).1
          have y4 : World.cell? ((((((((Y2.setCell ⟨w.heap.size + 1 + 1, 0, none⟩ (.int .i64 (N : Int))).setCell ⟨w.heap.size + 1 + 1, 1, none⟩ (.int .i64 (T : Int))).setCell ⟨w.heap.size + 1 + 1, 2, none⟩ (.int .i64 (F : Int))).setCell ⟨w.heap.size + 1 + 1, 3, none⟩ (.slice (some ⟨g, o, none⟩) n cap)).setCell ⟨w.heap.size + 1 + 1, 4, none⟩ (.bool rd)).setCell ⟨w.heap.size + 1 + 1, 5, none⟩ (.bool dn)).setCell ⟨w.heap.size + 1 + 1, 6, none⟩ (.string B))) ⟨w.heap.size + 1 + 1, 4, none⟩ = some (.bool rd) := (HZb.out.2 4 (by decide)).1
          have y5 : World.cell? ((((((((Y2.setCell ⟨w.heap.size + 1 + 1, 0, none⟩ (.int .i64 (N : Int))).setCell ⟨w.heap.size + 1 + 1, 1, none⟩ (.int .i64 (T : Int))).setCell ⟨w.heap.size + 1 + 1, 2, none⟩ (.int .i64 (F : Int))).setCell ⟨w.heap.size + 1 + 1, 3, none⟩ (.slice (some ⟨g, o, none⟩) n cap)).setCell ⟨w.heap.size + 1 + 1, 4, none⟩ (.bool rd)).setCell ⟨w.heap.size + 1 + 1, 5, none⟩ (.bool dn)).setCell ⟨w.heap.size + 1 + 1, 6, none⟩ (.string B))) ⟨w.heap.size + 1 + 1, 5, none⟩ = some (.bool dn) := (HZb.out.2 5 (by decide)).1
          have y6 : World.cell? ((((((((Y2.setCell ⟨w.heap.size + 1 + 1, 0, none⟩ (.int .i64 (N : Int))).setCell ⟨w.heap.size + 1 + 1, 1, none⟩ (.int .i64 (T : Int))).setCell ⟨w.heap.size + 1 + 1, 2, none⟩ (.int .i64 (F : Int))).setCell ⟨w.heap.size + 1 + 1, 3, none⟩ (.slice (some ⟨g, o, none⟩) n cap)).setCell ⟨w.heap.size + 1 + 1, 4, none⟩ (.bool rd)).setCell ⟨w.heap.size + 1 + 1, 5, none⟩ (.bool dn)).setCell ⟨w.heap.size + 1 + 1, 6, none⟩ (.string B))) ⟨w.heap.size + 1 + 1, 6, none⟩ = some (.string B) := (HZb.out.2 6 (by decide)).1
          generalize (((((((Y2.setCell ⟨w.heap.size + 1 + 1, 0, none⟩ (.int .i64 (N : Int))).setCell ⟨w.heap.size + 1 + 1, 1, none⟩ (.int .i64 (T : Int))).setCell ⟨w.heap.size + 1 + 1, 2, none⟩ (.int .i64 (F : Int))).setCell ⟨w.heap.size + 1 + 1, 3, none⟩ (.slice (some ⟨g, o, none⟩) n cap)).setCell ⟨w.heap.size + 1 + 1, 4, none⟩ (.bool rd)).setCell ⟨w.heap.size + 1 + 1, 5, none⟩ (.bool dn)).setCell ⟨w.heap.size + 1 + 1, 6, none⟩ (.string B)) = wz at *
          refine bodyPost_ret (v := .tuple #[rC N T F (.slice (some ⟨g, o, none⟩) n cap) rd dn B, .slice none 0 0]) (by simp [results, Try.results14, go_sem, y0, y1, y2, y3, y4, y5, y6]) rfl (HP.out _ _ rfl (by rw [HN.out] at ru; exact ru) re)
        · have b2 : (x.fr == fr) = false := by simpa using e2
          have HN2 : Hid _ := HStep.out (fun z => e2 z.2)
          clear HStep HNo
          go_wp2_with fail
          go_quiet (fail)
          go_wp2
          go_roundw
          case rel => exact ⟨j + 1, hlt, by push_cast; rfl, HS.out.further ((Ext.refl _).drewN _), HN2⟩
          case measure => exact lp_meas hlt
      · have b1 : (x.kd == kd) = false := by simpa using e1
        have HN2 : Hid _ := HStep.out (fun z => e1 z.1)
        clear HStep HNo
        go_wp2_with fail
        go_quiet (fail)
        go_wp2
        go_roundw
        case rel => exact ⟨j + 1, hlt, by push_cast; rfl, HS.out.further ((Ext.refl _).drewN _), HN2⟩
        case measure => exact lp_meas hlt
    · exfalso
      obtain ⟨x, hx, e1, e2⟩ := hrd_mem.1 HH.out
      obtain ⟨i, hi, hxi⟩ := List.getElem_of_mem hx
      exact HNo.out i x (by rw [HN.out] at hi; omega) (by rw [List.getElem?_eq_getElem hi, hxi]) ⟨e1, e2⟩
end Go.Proofs.Ytmibekclhnkhnaa
