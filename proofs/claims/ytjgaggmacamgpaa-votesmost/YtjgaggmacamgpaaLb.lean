/-
  VotesOnce, VotesMost, called: true; nothing old is turned.
-/
import Derived.Test.YtjgaggmacamgpaaLa
namespace Go.Proofs.Ytjgaggmacamgpaa
open Go.RowKit
/-- Votes that came of the first j words. -/
def plV (N : Nat) (L : List Vt) (j : Nat) : List Vt := (L.take j).foldl (putV N) []
theorem plV_step {N : Nat} {L : List Vt} {j : Nat} {m : Vt} (h : L[j]? = some m) : plV N L (j + 1) = putV N (plV N L j) m := by
  unfold plV
  rw [List.take_add_one, h, List.foldl_append]
  rfl
theorem plV_len (N : Nat) (L : List Vt) : ∀ j, (plV N L j).length ≤ j := by
  intro j
  have : ∀ (M A : List Vt), (M.foldl (putV N) A).length ≤ A.length + M.length := by
    intro M
    induction M with
    | nil => intro A; exact Nat.le_refl _
    | cons m r ih => intro A; have := ih (putV N A m); have := put_len N A m; simp; omega
  have := this (L.take j) []
  unfold plV
  rw [List.length_take] at this
  simp at this
  omega
/-- A word's block. -/
theorem WB.cells {W : World} {g : Nat} {kd fr rd va : Int} {vl : ByteArray} (h : Blk W g 5 (wg kd fr rd va vl)) : W.cell? ⟨g, 0, none⟩ = some (.int .i64 kd) ∧ W.cell? ⟨g, 1, none⟩ = some (.int .i64 fr) ∧ W.cell? ⟨g, 2, none⟩ = some (.int .i64 rd) ∧ W.cell? ⟨g, 3, none⟩ = some (.int .i64 va) ∧ W.cell? ⟨g, 4, none⟩ = some (.string vl) ∧ g < W.heap.size :=
  ⟨(h.2 0 (by decide)).1, (h.2 1 (by decide)).1, (h.2 2 (by decide)).1, (h.2 3 (by decide)).1, (h.2 4 (by decide)).1, h.1⟩
theorem WB.new (W : World) (kd fr rd va : Int) (vl : ByteArray) : Blk (W.alloc (.cells #[.int .i64 kd, .int .i64 fr, .int .i64 rd, .int .i64 va, .string vl] 32)) W.heap.size 5 (wg kd fr rd va vl) := Blk.new W _ _ (fun j hj => by
  have : j = 0 ∨ j = 1 ∨ j = 2 ∨ j = 3 ∨ j = 4 := by omega
  rcases this with rfl | rfl | rfl | rfl | rfl <;> rfl)
theorem hasQ_nat {n t : Int} (h : hasQ n t) : ∃ N T : Nat, n = (N : Int) ∧ t = (T : Int) := by
  obtain ⟨h1, h2, h3, h4⟩ := h
  exact ⟨n.toNat, t.toNat, by omega, by omega⟩
set_option maxRecDepth 10000 in
set_option maxHeartbeats 4000000 in
theorem votesOnce_any (n t : Int) (v : Value) (L : List Vt) (hwf : ∀ m ∈ L, (Lit.int .i64 m.kd).wf = true ∧ (Lit.int .i64 m.rd).wf = true) (w : World) (hL : WsIs w v L) :
    Calls Try.prog 4 #[.int .i64 n, .int .i64 t, v] w fun e w' => e = .returned (.bool true) ∧ Ext w w' := by
  have HL0 : Hid (WsIs w v L) := hL
  obtain ⟨a, cap, rfl, _⟩ := hL
  have Hwf : Hid (∀ m ∈ L, (Lit.int .i64 m.kd).wf = true ∧ (Lit.int .i64 m.rd).wf = true) := hwf
  have HF : Hid (Calls Try.prog 7 #[.slice a L.length cap] w fun e w' => FewP L w e w') := few_any _ L w HL0.out
  have HQ : Hid (∀ W, Calls Try.prog 21 #[.int .i64 n, .int .i64 t] W fun e w' => e = .returned (.int .i64 (qI n t)) ∧ w' = W) := fun W => rquorum_any n t W
  obtain ⟨len, HN⟩ : ∃ n, Hid (L.length = n) := ⟨_, rfl⟩
  have HL := HL0
  rw [HN.out] at HL HF ⊢
  clear HL0 hwf
  by_cases hq : hasQ n t
  · obtain ⟨N, T, rfl, rfl⟩ := hasQ_nat hq
    have h0 : (qI (N : Int) (T : Int) == 0) = false := by simpa using q_pos hq
    have Hq : Hid (hasQ (N : Int) (T : Int)) := hq
    clear hq
    go_enter Try.func4, Try.ntmps4
    go_wp2_with fail
    refine HF.out.mono ?_
    rintro e w1 ⟨b, rfl, hb, HX⟩
    have HE1 : Hid (Ext w w1) := HX
    clear HX HF
    cases b with
    | false =>
      clear hb
      go_wp2_with fail
      refine (awake_any _).mono ?_
      rintro e w2 ⟨rfl, HX⟩
      have HE2 : Hid (Ext w w2) := HE1.out.trans HX
      clear HX
      go_wp2
      go_ret
      exact ⟨rfl, HE2.out⟩
    | true =>
      have Hn : Hid (len ≤ 60) := by have := hb rfl; rw [HN.out] at this; exact this
      clear hb
      go_wp2_with fail
      refine (HQ.out _).mono ?_
      rintro e w2 ⟨rfl, rfl⟩
      go_wp2_with fail
      refine (lnew_any N T Hq.out w w2 HE1.out).mono ?_
      rintro e w3 ⟨va, rfl, HV, HX⟩
      have HV0 : Hid (LV w (.pointer (some va)) N T (plV N L 0) (fun _ => False) w3) := HV
      clear HV HX HE1
      go_wp2_with fail
      go_loopw [8] (fun u8 wr => ∃ j : Nat, j ≤ len ∧ u8 = .int .i64 j ∧ Hid (LV w (.pointer (some va)) N T (plV N L j) (fun _ => False) wr)) (fun u8 _ => len - (intOf u8).toNat)
      case atStart => exact ⟨0, Nat.zero_le _, rfl, HV0⟩
      case round =>
        obtain ⟨j, hj, rfl, HV⟩ := hrel
        clear HV0
        by_cases hlt : j < len
        · obtain ⟨q1, q0, qw⟩ := lp_nums j len hlt (by have := Hn.out; omega)
          obtain ⟨m, hm⟩ : ∃ m, Hid (L[j]? = some m) := ⟨L[j]'(by rw [HN.out]; exact hlt), List.getElem?_eq_getElem _⟩
          have HL2 : WsIs wr (.slice a L.length cap) L := by rw [HN.out]; exact HL.out.ext HV.out.old
          obtain ⟨g0, o, rfl, hbl, hd0, hd1, hd2, hd3, hd4⟩ := HL2.get hm.out
          clear HL2
          have Hm1 : Hid ((Lit.int .i64 m.kd).wf = true ∧ (Lit.int .i64 m.rd).wf = true) := Hwf.out m (List.mem_of_getElem? hm.out)
          have Hst : Hid (plV N L (j + 1) = putV N (plV N L j) m) := plV_step hm.out
          have Hln : Hid ((plV N L j).length ≤ 1000) := by show _ ≤ _; have := plV_len N L j; have := Hn.out; omega
          clear hm
          obtain ⟨M, HM⟩ : ∃ M, Hid (plV N L j = M) := ⟨_, rfl⟩
          rw [HM.out] at HV Hst Hln
          obtain ⟨kd, fr, rd, va', vl⟩ := m
          have Hst : Hid (plV N L (j + 1) = putV N M ⟨kd, fr, rd, va', vl⟩) := Hst
          have Hk : Hid ((Lit.int .i64 kd).wf = true) := Hm1.out.1
          have Hr : Hid ((Lit.int .i64 rd).wf = true) := Hm1.out.2
          have hd0 : wr.cell? ⟨g0, o + j * 5, none⟩ = some (.int .i64 kd) := hd0
          have hd1 : wr.cell? ⟨g0, o + j * 5 + 1, none⟩ = some (.int .i64 fr) := hd1
          have hd2 : wr.cell? ⟨g0, o + j * 5 + 2, none⟩ = some (.int .i64 rd) := hd2
          have hd3 : wr.cell? ⟨g0, o + j * 5 + 3, none⟩ = some (.int .i64 va') := hd3
          have hd4 : wr.cell? ⟨g0, o + j * 5 + 4, none⟩ = some (.string vl) := hd4
          have HB1 : Hid (Blk (wr.alloc (.cells #[.int .i64 kd, .int .i64 fr, .int .i64 rd, .int .i64 va', .string vl] 32)) wr.heap.size 5 (wg kd fr rd va' vl)) := WB.new wr kd fr rd va' vl
          have HV1 : Hid (LV w (.pointer (some va)) N T M (fun k => k = wr.heap.size) (wr.alloc (.cells #[.int .i64 kd, .int .i64 fr, .int .i64 rd, .int .i64 va', .string vl] 32))) := HV.out.more ((Ext.refl wr).alloc _) (fun k q => ⟨.inr (by omega), by rw [q]; simp⟩)
          clear HV Hm1 HM
          go_wp2_with fail
          clear hd0 hd1 hd2 hd3 hd4 hbl
          generalize wr.alloc (.cells #[.int .i64 kd, .int .i64 fr, .int .i64 rd, .int .i64 va', .string vl] 32) = y1 at *
          generalize wr.heap.size = g at *
          obtain ⟨z0, z1, z2, z3, z4, zl⟩ := WB.cells HB1.out
          go_wp2_with fail
          refine (lany_any Hk.out Hr.out HV1.out).mono ?_
          rintro e y2 ⟨rfl, HX⟩
          have HB2 : Hid (Blk y2 g 5 (wg kd fr rd va' vl)) := HB1.out.ext HX
          have HV2 : Hid (LV w (.pointer (some va)) N T _ (fun k => k = g) y2) := HV1.out.ext HX
          clear HX HB1 HV1
          clear z0 z1 z2 z3 z4 zl
          obtain ⟨z0, z1, z2, z3, z4, zl⟩ := WB.cells HB2.out
          go_wp2_with fail
          refine (lput_any kd fr rd va' vl Hln.out Hk.out Hr.out HV2.out).mono ?_
          rintro e y3 ⟨rfl, HV3', HK, HS⟩
          have HB3 : Hid (Blk y3 g 5 (wg kd fr rd va' vl)) := HB2.out.keep HS (HK g rfl)
          have HV3 : Hid (LV w (.pointer (some va)) N T (putV N M ⟨kd, fr, rd, va', vl⟩) (fun k => k = g) y3) := HV3'
          clear HK HS HB2 HV2 HV3'
          clear z0 z1 z2 z3 z4 zl
          obtain ⟨z0, z1, z2, z3, z4, zl⟩ := WB.cells HB3.out
          go_wp2_with fail
          refine (lany_any Hk.out Hr.out HV3.out).mono ?_
          rintro e y4 ⟨rfl, HX⟩
          have HB4 : Hid (Blk y4 g 5 (wg kd fr rd va' vl)) := HB3.out.ext HX
          have HV4 : Hid (LV w (.pointer (some va)) N T _ (fun k => k = g) y4) := HV3.out.ext HX
          clear HX HB3 HV3
          have Hlp : Hid ((putV N M ⟨kd, fr, rd, va', vl⟩).length ≤ 1000) := by
            show _ ≤ _
            rw [← Hst.out]
            have := plV_len N L (j + 1)
            have := Hn.out
            omega
          have Hany := any_put N M ⟨kd, fr, rd, va', vl⟩
          have Hle := any_le HV4.out.inv kd rd
          have Hcn := cnt_any (putV N M ⟨kd, fr, rd, va', vl⟩) kd rd vl
          have HN7 := n7 Hq.out
          have Htw : Hid (okV N (putV N M ⟨kd, fr, rd, va', vl⟩) ⟨kd, fr, rd, va', vl⟩ = false) := ok_twice N M _
          have n1 : anyV (putV N M ⟨kd, fr, rd, va', vl⟩) kd rd ≤ N := Hle
          have n2 : cntV (putV N M ⟨kd, fr, rd, va', vl⟩) kd rd vl ≤ anyV (putV N M ⟨kd, fr, rd, va', vl⟩) kd rd := Hcn
          have HCt : Hid (∀ W, LV w (.pointer (some va)) N T (putV N M ⟨kd, fr, rd, va', vl⟩) (fun k => k = g) W → Calls Try.prog 15 #[.pointer (some va), .int .i64 kd, .int .i64 rd, .string vl] W fun e w' => e = .returned (.int .i64 (cntV (putV N M ⟨kd, fr, rd, va', vl⟩) kd rd vl : Int)) ∧ Ext W w') := fun W h => lcount_any vl Hk.out Hr.out h
          have HP2 : Hid (∀ W, LV w (.pointer (some va)) N T (putV N M ⟨kd, fr, rd, va', vl⟩) (fun k => k = g) W → Calls Try.prog 12 #[.pointer (some va), .agg #[.int .i64 kd, .int .i64 fr, .int .i64 rd, .int .i64 va', .string vl]] W fun e w' => e = .returned (.bool false) ∧ LV w (.pointer (some va)) N T (plV N L (j + 1)) (fun _ => False) w') := fun W h => by
            refine (lput_any kd fr rd va' vl Hlp.out Hk.out Hr.out h).mono ?_
            rintro e w' ⟨rfl, h1, _, _⟩
            rw [put_no Htw.out, ← Hst.out] at h1
            exact ⟨by rw [Htw.out], h1.more (Ext.refl _) (fun k q => q.elim)⟩
          generalize anyV (putV N M ⟨kd, fr, rd, va', vl⟩) kd rd = c2 at *
          generalize cntV (putV N M ⟨kd, fr, rd, va', vl⟩) kd rd vl = cc at *
          generalize hc1 : anyV M kd rd = c1 at *
          have hc1 : Hid (anyV M kd rd = c1) := hc1
          clear Hcn Hlp Htw
          cases hok : okV N M ⟨kd, fr, rd, va', vl⟩ with
          | true =>
            rw [hok] at Hany
            have e1 : c2 = c1 + 1 := Hany
            have w1 : IntKind.i64.wrap ((c1 : Int) + 1) = (c1 : Int) + 1 := by rw [IntKind.wrap_i64]; omega
            have d3 : ((c2 : Int) != (c1 : Int) + 1) = false := by subst e1; simp
            clear e1 Hany Hle HN7 hok
            obtain ⟨x0, x1, x2, x3, x4, xl⟩ := WB.cells HB4.out
            clear z0 z1 z2 z3 z4 zl
            go_wp2_with fail
            refine (HCt.out _ HV4.out).mono ?_
            rintro e y5 ⟨rfl, HX⟩
            have HV5 : Hid (LV w (.pointer (some va)) N T (putV N M ⟨kd, fr, rd, va', vl⟩) (fun k => k = g) y5) := HV4.out.ext HX
            obtain ⟨u0, u1, u2, u3, u4, ul⟩ := WB.cells (HB4.out.ext HX)
            clear HX x0 x1 x2 x3 x4 xl
            go_wp2_with fail
            refine (HP2.out _ HV5.out).mono ?_
            rintro e y6 ⟨rfl, HV6'⟩
            have HV6 : Hid (LV w (.pointer (some va)) N T (plV N L (j + 1)) (fun _ => False) y6) := HV6'
            clear HV6' HV5 HV4 HB4 u0 u1 u2 u3 u4 ul
            go_wp2
            go_roundw
            case rel => exact ⟨j + 1, hlt, by push_cast; rfl, HV6⟩
            case measure => exact lp_meas hlt
          | false =>
            rw [hok] at Hany
            have e1 : c2 = c1 := Hany
            have d3 : ((c2 : Int) != (c1 : Int)) = false := by subst e1; simp
            clear e1 Hany Hle HN7 hok
            obtain ⟨x0, x1, x2, x3, x4, xl⟩ := WB.cells HB4.out
            clear z0 z1 z2 z3 z4 zl
            go_wp2_with fail
            refine (HCt.out _ HV4.out).mono ?_
            rintro e y5 ⟨rfl, HX⟩
            have HV5 : Hid (LV w (.pointer (some va)) N T (putV N M ⟨kd, fr, rd, va', vl⟩) (fun k => k = g) y5) := HV4.out.ext HX
            obtain ⟨u0, u1, u2, u3, u4, ul⟩ := WB.cells (HB4.out.ext HX)
            clear HX x0 x1 x2 x3 x4 xl
            go_wp2_with fail
            refine (HP2.out _ HV5.out).mono ?_
            rintro e y6 ⟨rfl, HV6'⟩
            have HV6 : Hid (LV w (.pointer (some va)) N T (plV N L (j + 1)) (fun _ => False) y6) := HV6'
            clear HV6' HV5 HV4 HB4 u0 u1 u2 u3 u4 ul
            go_wp2
            go_roundw
            case rel => exact ⟨j + 1, hlt, by push_cast; rfl, HV6⟩
            case measure => exact lp_meas hlt
        · obtain rfl : j = len := by omega
          have hnl : ¬ (j : Int) < (j : Int) := by omega
          go_wp2_with fail
          refine (awake_any _).mono ?_
          rintro e w9 ⟨rfl, HX⟩
          have HE9 : Hid (Ext w w9) := HV.out.old.trans HX
          clear HX
          go_wp2
          go_ret
          exact ⟨rfl, HE9.out⟩
  · have h0 : qI n t = 0 := if_neg hq
    clear hq
    go_enter Try.func4, Try.ntmps4
    go_wp2_with fail
    refine HF.out.mono ?_
    rintro e w1 ⟨b, rfl, hb, HX⟩
    have HE1 : Hid (Ext w w1) := HX
    clear HX HF hb
    cases b with
    | false =>
      go_wp2_with fail
      refine (awake_any _).mono ?_
      rintro e w2 ⟨rfl, HX⟩
      have HE2 : Hid (Ext w w2) := HE1.out.trans HX
      clear HX
      go_wp2
      go_ret
      exact ⟨rfl, HE2.out⟩
    | true =>
      go_wp2_with fail
      refine (HQ.out _).mono ?_
      rintro e w2 ⟨rfl, rfl⟩
      rw [h0]
      go_wp2_with fail
      refine (awake_any _).mono ?_
      rintro e w3 ⟨rfl, HX⟩
      have HE2 : Hid (Ext w w3) := HE1.out.trans HX
      clear HX
      go_wp2
      go_ret
      exact ⟨rfl, HE2.out⟩
set_option maxRecDepth 10000 in
set_option maxHeartbeats 4000000 in
theorem votesMost_any (n t : Int) (v : Value) (L : List Vt) (hwf : ∀ m ∈ L, (Lit.int .i64 m.kd).wf = true ∧ (Lit.int .i64 m.rd).wf = true) (w : World) (hL : WsIs w v L) :
    Calls Try.prog 5 #[.int .i64 n, .int .i64 t, v] w fun e w' => e = .returned (.bool true) ∧ Ext w w' := by
  have HL0 : Hid (WsIs w v L) := hL
  obtain ⟨a, cap, rfl, _⟩ := hL
  have Hwf : Hid (∀ m ∈ L, (Lit.int .i64 m.kd).wf = true ∧ (Lit.int .i64 m.rd).wf = true) := hwf
  have HF : Hid (Calls Try.prog 7 #[.slice a L.length cap] w fun e w' => FewP L w e w') := few_any _ L w HL0.out
  have HQ : Hid (∀ W, Calls Try.prog 21 #[.int .i64 n, .int .i64 t] W fun e w' => e = .returned (.int .i64 (qI n t)) ∧ w' = W) := fun W => rquorum_any n t W
  obtain ⟨len, HN⟩ : ∃ n, Hid (L.length = n) := ⟨_, rfl⟩
  have HL := HL0
  rw [HN.out] at HL HF ⊢
  clear HL0 hwf
  by_cases hq : hasQ n t
  · obtain ⟨N, T, rfl, rfl⟩ := hasQ_nat hq
    have h0 : (qI (N : Int) (T : Int) == 0) = false := by simpa using q_pos hq
    have Hq : Hid (hasQ (N : Int) (T : Int)) := hq
    clear hq
    go_enter Try.func5, Try.ntmps5
    go_wp2_with fail
    refine HF.out.mono ?_
    rintro e w1 ⟨b, rfl, hb, HX⟩
    have HE1 : Hid (Ext w w1) := HX
    clear HX HF
    cases b with
    | false =>
      clear hb
      go_wp2_with fail
      refine (awake_any _).mono ?_
      rintro e w2 ⟨rfl, HX⟩
      have HE2 : Hid (Ext w w2) := HE1.out.trans HX
      clear HX
      go_wp2
      go_ret
      exact ⟨rfl, HE2.out⟩
    | true =>
      have Hn : Hid (len ≤ 60) := by have := hb rfl; rw [HN.out] at this; exact this
      clear hb
      go_wp2_with fail
      refine (HQ.out _).mono ?_
      rintro e w2 ⟨rfl, rfl⟩
      go_wp2_with fail
      refine (lnew_any N T Hq.out w w2 HE1.out).mono ?_
      rintro e w3 ⟨va, rfl, HV, HX⟩
      have HV0 : Hid (LV w (.pointer (some va)) N T (plV N L 0) (fun _ => False) w3) := HV
      clear HV HX HE1
      go_wp2_with fail
      go_loopw [8] (fun u8 wr => ∃ j : Nat, j ≤ len ∧ u8 = .int .i64 j ∧ Hid (LV w (.pointer (some va)) N T (plV N L j) (fun _ => False) wr)) (fun u8 _ => len - (intOf u8).toNat)
      case atStart => exact ⟨0, Nat.zero_le _, rfl, HV0⟩
      case round =>
        obtain ⟨j, hj, rfl, HV⟩ := hrel
        clear HV0
        by_cases hlt : j < len
        · obtain ⟨q1, q0, qw⟩ := lp_nums j len hlt (by have := Hn.out; omega)
          obtain ⟨m, hm⟩ : ∃ m, Hid (L[j]? = some m) := ⟨L[j]'(by rw [HN.out]; exact hlt), List.getElem?_eq_getElem _⟩
          have HL2 : WsIs wr (.slice a L.length cap) L := by rw [HN.out]; exact HL.out.ext HV.out.old
          obtain ⟨g0, o, rfl, hbl, hd0, hd1, hd2, hd3, hd4⟩ := HL2.get hm.out
          clear HL2
          have Hm1 : Hid ((Lit.int .i64 m.kd).wf = true ∧ (Lit.int .i64 m.rd).wf = true) := Hwf.out m (List.mem_of_getElem? hm.out)
          have Hst : Hid (plV N L (j + 1) = putV N (plV N L j) m) := plV_step hm.out
          have Hln : Hid ((plV N L j).length ≤ 1000) := by show _ ≤ _; have := plV_len N L j; have := Hn.out; omega
          clear hm
          obtain ⟨M, HM⟩ : ∃ M, Hid (plV N L j = M) := ⟨_, rfl⟩
          rw [HM.out] at HV Hst Hln
          obtain ⟨kd, fr, rd, va', vl⟩ := m
          have Hst : Hid (plV N L (j + 1) = putV N M ⟨kd, fr, rd, va', vl⟩) := Hst
          have Hk : Hid ((Lit.int .i64 kd).wf = true) := Hm1.out.1
          have Hr : Hid ((Lit.int .i64 rd).wf = true) := Hm1.out.2
          have hd0 : wr.cell? ⟨g0, o + j * 5, none⟩ = some (.int .i64 kd) := hd0
          have hd1 : wr.cell? ⟨g0, o + j * 5 + 1, none⟩ = some (.int .i64 fr) := hd1
          have hd2 : wr.cell? ⟨g0, o + j * 5 + 2, none⟩ = some (.int .i64 rd) := hd2
          have hd3 : wr.cell? ⟨g0, o + j * 5 + 3, none⟩ = some (.int .i64 va') := hd3
          have hd4 : wr.cell? ⟨g0, o + j * 5 + 4, none⟩ = some (.string vl) := hd4
          have HB1 : Hid (Blk (wr.alloc (.cells #[.int .i64 kd, .int .i64 fr, .int .i64 rd, .int .i64 va', .string vl] 32)) wr.heap.size 5 (wg kd fr rd va' vl)) := WB.new wr kd fr rd va' vl
          have HV1 : Hid (LV w (.pointer (some va)) N T M (fun k => k = wr.heap.size) (wr.alloc (.cells #[.int .i64 kd, .int .i64 fr, .int .i64 rd, .int .i64 va', .string vl] 32))) := HV.out.more ((Ext.refl wr).alloc _) (fun k q => ⟨.inr (by omega), by rw [q]; simp⟩)
          have HInv : Hid (InvV N M) := HV.out.inv
          clear HV Hm1 HM
          go_wp2_with fail
          clear hd0 hd1 hd2 hd3 hd4 hbl
          generalize wr.alloc (.cells #[.int .i64 kd, .int .i64 fr, .int .i64 rd, .int .i64 va', .string vl] 32) = y1 at *
          generalize wr.heap.size = g at *
          obtain ⟨z0, z1, z2, z3, z4, zl⟩ := WB.cells HB1.out
          go_wp2_with fail
          refine (lmost_any Hk.out Hr.out HV1.out).mono ?_
          rintro e y2 ⟨s, b, rfl, hm1, HX⟩
          have HB2 : Hid (Blk y2 g 5 (wg kd fr rd va' vl)) := HB1.out.ext HX
          have HV2 : Hid (LV w (.pointer (some va)) N T _ (fun k => k = g) y2) := HV1.out.ext HX
          clear HX HB1 HV1
          clear z0 z1 z2 z3 z4 zl
          obtain ⟨z0, z1, z2, z3, z4, zl⟩ := WB.cells HB2.out
          go_wp2_with fail
          refine (lput_any kd fr rd va' vl Hln.out Hk.out Hr.out HV2.out).mono ?_
          rintro e y3 ⟨rfl, HV3', HK, HS⟩
          have HB3 : Hid (Blk y3 g 5 (wg kd fr rd va' vl)) := HB2.out.keep HS (HK g rfl)
          have HV3 : Hid (LV w (.pointer (some va)) N T (putV N M ⟨kd, fr, rd, va', vl⟩) (fun k => k = g) y3) := HV3'
          clear HK HS HB2 HV2 HV3'
          clear z0 z1 z2 z3 z4 zl
          obtain ⟨z0, z1, z2, z3, z4, zl⟩ := WB.cells HB3.out
          go_wp2_with fail
          refine (lmost_any Hk.out Hr.out HV3.out).mono ?_
          rintro e y4 ⟨s', b', rfl, hm2, HX⟩
          have HB4 : Hid (Blk y4 g 5 (wg kd fr rd va' vl)) := HB3.out.ext HX
          have HV4 : Hid (LV w (.pointer (some va)) N T _ (fun k => k = g) y4) := HV3.out.ext HX
          clear HX HB3 HV3
          obtain ⟨k1, k2, k3⟩ := most_stays HInv.out ⟨kd, fr, rd, va', vl⟩ hm1 hm2
          replace k2 : b' = true → qmV N T ≤ cntV (putV N M ⟨kd, fr, rd, va', vl⟩) kd rd s' := k2
          replace k3 : b' = false → cntV (putV N M ⟨kd, fr, rd, va', vl⟩) kd rd vl < qmV N T := k3
          clear hm1 hm2
          have HCt : Hid (∀ W B, LV w (.pointer (some va)) N T (putV N M ⟨kd, fr, rd, va', vl⟩) (fun k => k = g) W → Calls Try.prog 15 #[.pointer (some va), .int .i64 kd, .int .i64 rd, .string B] W fun e w' => e = .returned (.int .i64 (cntV (putV N M ⟨kd, fr, rd, va', vl⟩) kd rd B : Int)) ∧ Ext W w') := fun W B h => lcount_any B Hk.out Hr.out h
          have HQm : Hid (∀ W, Calls Try.prog 21 #[.int .i64 (N : Int), .int .i64 (T : Int)] W fun e w' => e = .returned (.int .i64 (qmV N T : Int)) ∧ w' = W) := fun W => by
            have := rquorum_any (N : Int) (T : Int) W
            rw [qI_nat Hq.out] at this
            exact this
          have HFin : Hid (∀ W, LV w (.pointer (some va)) N T (putV N M ⟨kd, fr, rd, va', vl⟩) (fun k => k = g) W → LV w (.pointer (some va)) N T (plV N L (j + 1)) (fun _ => False) W) := fun W h => by rw [Hst.out]; exact h.more (Ext.refl _) (fun k q => q.elim)
          clear z0 z1 z2 z3 z4 zl h0
          obtain ⟨x0, x1, x2, x3, x4, xl⟩ := WB.cells HB4.out
          cases b' with
          | true =>
            replace k2 := k2 rfl
            clear k3
            cases b with
            | true =>
              have e1 : s' = s := (k1 rfl).2
              subst e1
              clear k1
              go_wp2_with fail
              refine (HCt.out _ s' HV4.out).mono ?_
              rintro e y5 ⟨rfl, HX⟩
              have HV5 : Hid (LV w (.pointer (some va)) N T (putV N M ⟨kd, fr, rd, va', vl⟩) (fun k => k = g) y5) := HV4.out.ext HX
              clear HX HV4 HB4 x0 x1 x2 x3 x4 xl
              generalize cntV (putV N M ⟨kd, fr, rd, va', vl⟩) kd rd s' = cc at *
              go_wp2_with fail
              refine (HQm.out _).mono ?_
              rintro e y6 ⟨rfl, rfl⟩
              go_wp2
              go_roundw
              case rel => exact ⟨j + 1, hlt, by push_cast; rfl, HFin.out _ HV5.out⟩
              case measure => exact lp_meas hlt
            | false =>
              clear k1
              go_wp2_with fail
              refine (HCt.out _ s' HV4.out).mono ?_
              rintro e y5 ⟨rfl, HX⟩
              have HV5 : Hid (LV w (.pointer (some va)) N T (putV N M ⟨kd, fr, rd, va', vl⟩) (fun k => k = g) y5) := HV4.out.ext HX
              clear HX HV4 HB4 x0 x1 x2 x3 x4 xl
              generalize cntV (putV N M ⟨kd, fr, rd, va', vl⟩) kd rd s' = cc at *
              go_wp2_with fail
              refine (HQm.out _).mono ?_
              rintro e y6 ⟨rfl, rfl⟩
              go_wp2
              go_roundw
              case rel => exact ⟨j + 1, hlt, by push_cast; rfl, HFin.out _ HV5.out⟩
              case measure => exact lp_meas hlt
          | false =>
            replace k3 := k3 rfl
            cases b with
            | true => exact absurd (k1 rfl).1 (by decide)
            | false =>
              clear k1 k2
              go_wp2_with fail
              refine (HCt.out _ vl HV4.out).mono ?_
              rintro e y5 ⟨rfl, HX⟩
              have HV5 : Hid (LV w (.pointer (some va)) N T (putV N M ⟨kd, fr, rd, va', vl⟩) (fun k => k = g) y5) := HV4.out.ext HX
              clear HX HV4 HB4 x0 x1 x2 x3 x4 xl
              generalize cntV (putV N M ⟨kd, fr, rd, va', vl⟩) kd rd vl = cc at *
              go_wp2_with fail
              refine (HQm.out _).mono ?_
              rintro e y6 ⟨rfl, rfl⟩
              go_wp2
              go_roundw
              case rel => exact ⟨j + 1, hlt, by push_cast; rfl, HFin.out _ HV5.out⟩
              case measure => exact lp_meas hlt
        · obtain rfl : j = len := by omega
          have hnl : ¬ (j : Int) < (j : Int) := by omega
          go_wp2_with fail
          refine (awake_any _).mono ?_
          rintro e w9 ⟨rfl, HX⟩
          have HE9 : Hid (Ext w w9) := HV.out.old.trans HX
          clear HX
          go_wp2
          go_ret
          exact ⟨rfl, HE9.out⟩
  · have h0 : qI n t = 0 := if_neg hq
    clear hq
    go_enter Try.func5, Try.ntmps5
    go_wp2_with fail
    refine HF.out.mono ?_
    rintro e w1 ⟨b, rfl, hb, HX⟩
    have HE1 : Hid (Ext w w1) := HX
    clear HX HF hb
    cases b with
    | false =>
      go_wp2_with fail
      refine (awake_any _).mono ?_
      rintro e w2 ⟨rfl, HX⟩
      have HE2 : Hid (Ext w w2) := HE1.out.trans HX
      clear HX
      go_wp2
      go_ret
      exact ⟨rfl, HE2.out⟩
    | true =>
      go_wp2_with fail
      refine (HQ.out _).mono ?_
      rintro e w2 ⟨rfl, rfl⟩
      rw [h0]
      go_wp2_with fail
      refine (awake_any _).mono ?_
      rintro e w3 ⟨rfl, HX⟩
      have HE2 : Hid (Ext w w3) := HE1.out.trans HX
      clear HX
      go_wp2
      go_ret
      exact ⟨rfl, HE2.out⟩
end Go.Proofs.Ytjgaggmacamgpaa
