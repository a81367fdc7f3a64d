/-
  DrbgScalars, called: true; nothing old is turned.
-/
import Derived.Test.YtpfeakdpckmcgaaDoorGLaws
import Derived.Test.YtpfeakdpckmcgaaDoorTills
namespace Go.Proofs.YtpfeakdpckmcgaaDoor
set_option maxRecDepth 10000
open Go.RowKit
/-- A generator made since w, beside a list of numbers. -/
def PlS (w : World) (v : Value) (u : Value) (n : Nat) (f : Nat → Value) (blk : Nat) (x : Gs) (wr : World) : Prop := ∃ F, DAt wr v x F ∧ From F w.heap.size ∧ Ext w wr ∧ (0 < n → ¬ F blk) ∧ SlB wr u n 4 f blk
theorem PlS.of {w W : World} {va vb : Value} {xa xb : Gs} (h : Pl2 w va vb xa xb W) : ∃ F, DAt W va xa F ∧ ∀ x' w' u n f blk, Stp W va x' F w' → SlB w' u n 4 f blk → W.heap.size ≤ blk → PlS w vb u n f blk xb w' := by
  obtain ⟨F, G, h1, h2, h3, h4, h5, h6⟩ := h
  refine ⟨F, h1, ?_⟩
  rintro x' w' u n f blk ⟨F', HD, HS, HC⟩ hu hb
  exact ⟨G, h2.far HC h3.symm, h5, HC.ext h6 h4, fun _ q => by have := h2.lt _ q; omega, hu⟩
section
variable {w W : World} {v u : Value} {n blk : Nat} {f : Nat → Value} {x : Gs}
theorem PlS.ext {wy : World} (h : PlS w v u n f blk x W) (hx : Ext W wy) : PlS w v u n f blk x wy := by
  obtain ⟨F, h1, h2, h3, h4, h5⟩ := h
  exact ⟨F, h1.ext hx, h2, h3.trans hx, h4, h5.ext hx⟩
theorem PlS.old (h : PlS w v u n f blk x W) : Ext w W := by
  obtain ⟨F, h1, h2, h3, h4, h5⟩ := h
  exact h3
theorem PlS.sl (h : PlS w v u n f blk x W) : SlB W u n 4 f blk := by
  obtain ⟨F, h1, h2, h3, h4, h5⟩ := h
  exact h5
theorem SlB.in {w : World} {v : Value} {n sz : Nat} {g : Nat → Value} {blk : Nat} (h : SlB w v n sz g blk) (h0 : 0 < n) : blk < w.heap.size := by
  obtain ⟨a, cap, rfl, h⟩ := h
  obtain ⟨o, ha, hb, hc⟩ := h h0
  exact hb
theorem PlS.step (h : PlS w v u n f blk x W) : ∃ F, DAt W v x F ∧ ∀ x' w', Stp W v x' F w' → PlS w v u n f blk x' w' := by
  obtain ⟨F, h1, h2, h3, h4, h5⟩ := h
  refine ⟨F, h1, ?_⟩
  rintro x' w' ⟨F', HD, HS, HC⟩
  refine ⟨F', HD, HS.from h2 h3.size, HC.ext h3 h2, fun h0 q => ?_, ?_⟩
  · rcases HS blk q with p | p
    · exact h4 h0 p
    · have := h5.in h0; omega
  · by_cases h0 : 0 < n
    · exact h5.chg HC (h4 h0)
    · obtain ⟨a, cap, rfl, h⟩ := h5
      exact ⟨a, cap, rfl, fun q => absurd q h0⟩
end
theorem SlB.at {w : World} {n cap blk o i : Nat} {F : Nat → Nat → Int} (h : SlB w (.slice (some ⟨blk, o, none⟩) n cap) n 4 (nc F) blk) (hi : i < n) :
    w.cell? ⟨blk, o + i * 4, none⟩ = some (.int .u64 (F i 0)) ∧ w.cell? ⟨blk, o + i * 4 + 1, none⟩ = some (.int .u64 (F i 1)) ∧ w.cell? ⟨blk, o + i * 4 + 2, none⟩ = some (.int .u64 (F i 2)) ∧ w.cell? ⟨blk, o + i * 4 + 3, none⟩ = some (.int .u64 (F i 3)) := by
  obtain ⟨b', o', e, hb, x0, x1, x2, x3⟩ := h.lies.num hi
  obtain ⟨rfl, rfl⟩ : blk = b' ∧ o = o' := by injection e with e; injection e with e1 e2; exact ⟨e1, e2⟩
  exact ⟨x0, x1, x2, x3⟩
theorem exec_eql4 {ev : Operand → Value} {i j : Nat} {o : Oper} {a0 a1 a2 a3 b0 b1 b2 b3 : Int} {w : World} (ho : o.op = .binOp .eql 39 (.tmp i) (.tmp j) 39) (hA : ev (.tmp i) = .agg #[.int .u64 a0, .int .u64 a1, .int .u64 a2, .int .u64 a3]) (hB : ev (.tmp j) = .agg #[.int .u64 b0, .int .u64 b1, .int .u64 b2, .int .u64 b3]) :
    (execOp ev o).run Tryd.prog w = .ok (.value (.bool (eq4 a0 a1 a2 a3 b0 b1 b2 b3))) w := by
  obtain ⟨d, op, ty, po, af, gu⟩ := o
  have ho : op = .binOp .eql 39 (.tmp i) (.tmp j) 39 := ho
  subst ho
  have h := run_eq4 a0 a1 a2 a3 b0 b1 b2 b3 w
  simp [go_sem, hA, hB, h]
theorem max_zero (n : Int) : (if n < 0 then (0 : Int) else n) = if n < 0 then 0 else n := rfl
theorem pcn_int (n : Int) : (if 8 < (if n < 0 then (0 : Int) else n) then (8 : Int) else (if n < 0 then (0 : Int) else n)) = (pcn n : Nat) := by
  unfold pcn
  split <;> split <;> (try split) <;> omega
theorem pcn_min (n : Int) : min (max n 0) 8 = ((pcn n : Nat) : Int) := by
  unfold pcn
  split <;> (try split) <;> omega
set_option maxHeartbeats 2000000 in
theorem drbgScalars_any (s : ByteArray) (n : Int) (w : World) (hG : Gl w) : Calls Tryd.prog 5 #[.string s, .int .i64 n] w fun e w' => e = .returned (.bool true) ∧ Ext w w' := by
  have HA : Hid (∀ W, Ext w W → Calls Tryd.prog 9 #[] W fun e w' => e = .returned (.bool true) ∧ Ext W w') := fun W hW => awake_any W (hG.ext hW)
  by_cases h1 : 1000 < s.size
  · have h1' : (1000 : Int) < (s.size : Int) := by omega
    go_enter Tryd.func5, Tryd.ntmps5
    go_wp2_with fail
    refine (HA.out _ (Ext.refl w)).mono ?_
    rintro e w1 ⟨rfl, HX⟩
    replace HX : Hid (Ext w w1) := HX
    go_wp2
    go_ret
    exact ⟨rfl, HX.out⟩
  have h1' : ¬ (1000 : Int) < (s.size : Int) := by omega
  obtain ⟨X, hX⟩ : ∃ x, Hid (gNew s = x) := ⟨_, rfl⟩
  have hX0 : GOk X 0 := by rw [← hX.out]; exact gNew_ok _
  have hXo : Hid (GOk X 1000000) := hX0.mono (by omega)
  have HC8 : Hid (pcn n ≤ 8) := pcn_le n
  have hmin := pcn_int n
  have hmin2 := pcn_min n
  obtain ⟨mx, hmx⟩ : ∃ mx : Int, (if n < 0 then (0 : Int) else n) = mx := ⟨_, rfl⟩
  rw [hmx] at hmin
  have HOk : Hid (∀ i, i ≤ 8 → GOk (gSs i X) 1000000) := fun i hi => (gSs_ok hX0 i).mono (by omega)
  have HV : Hid (∀ i, ∀ W, Calls Tryd.prog 22 #[nmV (gR (gSs i X))] W fun e w' => e = .returned (.bool true) ∧ Ext W w') := by
    intro i W
    have h := refSValid_any _ _ _ _ (scW_lim (gR (gSs i X))) W
    rw [show decide (val (scW (gR (gSs i X)) 0) (scW (gR (gSs i X)) 1) (scW (gR (gSs i X)) 2) (scW (gR (gSs i X)) 3) < FQ) = true from decide_eq_true (gR_goes (gSs i X)).1] at h
    exact h
  have HZ : Hid (∀ i, eq4 (psW X i 0) (psW X i 1) (psW X i 2) (psW X i 3) 0 0 0 0 = false) := fun i => scW_ne (gR_goes (gSs i X)).2
  have HM : Hid (∀ i, nmV (gR (gSs i X)) = .agg #[.int .u64 (psW X i 0), .int .u64 (psW X i 1), .int .u64 (psW X i 2), .int .u64 (psW X i 3)]) := fun i => psW_mk X i
  have HS : Hid (∀ i, gS (gSs i X) = gSs (i + 1) X) := fun i => (gSs_succ X i).symm
  have HX0 : Hid (gSs 0 X = X) := rfl
  obtain ⟨xs, hxs⟩ : ∃ f : Nat → Gs, Hid ((fun i => gSs i X) = f) := ⟨_, rfl⟩
  have hxi : ∀ i, gSs i X = xs i := fun i => congrFun hxs.out i
  replace HOk : Hid (∀ i, i ≤ 8 → GOk (xs i) 1000000) := fun i hi => hxi i ▸ HOk.out i hi
  replace HS : Hid (∀ i, gS (xs i) = xs (i + 1)) := fun i => by rw [← hxi, ← hxi]; exact HS.out i
  replace HX0 : Hid (xs 0 = X) := by show _ = _; rw [← hxi]; exact HX0.out
  have HM2 : Hid (∀ i, nmV (gR (xs i)) = .agg #[.int .u64 (psW X i 0), .int .u64 (psW X i 1), .int .u64 (psW X i 2), .int .u64 (psW X i 3)]) := fun i => by rw [← hxi]; exact HM.out i
  replace HV : Hid (∀ i, ∀ W, Calls Tryd.prog 22 #[.agg #[.int .u64 (psW X i 0), .int .u64 (psW X i 1), .int .u64 (psW X i 2), .int .u64 (psW X i 3)]] W fun e w' => e = .returned (.bool true) ∧ Ext W w') := fun i W => by rw [← HM.out i]; exact HV.out i W
  clear HM hxs
  have HX0' : Hid (∀ i, gSs i X = xs i) := hxi
  clear hxi
  obtain ⟨F, hF⟩ : ∃ F : Nat → Nat → Int, Hid (psW X = F) := ⟨_, rfl⟩
  rw [hF.out] at HV HZ HM2
  have hs : s.size ≤ 1000 := by omega
  go_enter Tryd.func5, Tryd.ntmps5
  go_wp2_with fail
  refine (PlD.new (w := w) s hs hG (Ext.refl w)).mono ?_
  rintro e w1 ⟨a, rfl, P1⟩
  rw [hX.out] at P1
  replace P1 : Hid (PlD w (.pointer (some a)) X w1) := P1
  go_wp2_with fail
  refine (Pl2.new s hs hG P1.out).mono ?_
  rintro e w2 ⟨b, rfl, P2⟩
  rw [hX.out] at P2
  replace P2 : Hid (Pl2 w (.pointer (some a)) (.pointer (some b)) X X w2) := P2
  clear P1
  obtain ⟨G, hD, hst⟩ := PlS.of P2.out
  replace hst : Hid _ := hst
  go_wp2_with fail
  refine (dpoly_any n hXo.out (hG.ext P2.out.old) hD).mono ?_
  rintro e w3 ⟨u, blk, rfl, hu, hub, hs3⟩
  have P3 := hst.out _ _ _ _ _ _ hs3 hu hub
  rw [hF.out] at P3
  clear hst hs3 hD P2 hu hub
  generalize pcn n = c at *
  obtain ⟨ua, cap, rfl, -⟩ := P3.sl
  replace P3 : Hid (PlS w (.pointer (some b)) (.slice ua c cap) c (nc F) blk (xs 0) w3) := by rw [HX0.out]; exact P3
  have hbq : decide ((c : Int) = (c : Int)) = true := decide_eq_true rfl
  go_wp2_with fail
  go_loopw [8] (fun u8 wr => ∃ i : Nat, i ≤ c ∧ u8 = .int .i64 (i : Int) ∧ Hid (PlS w (.pointer (some b)) (.slice ua c cap) c (nc F) blk (xs i) wr)) (fun u8 _ => c - (intOf u8).toNat)
  case atStart => exact ⟨0, Nat.zero_le _, rfl, P3⟩
  case round =>
    clear P3
    obtain ⟨i, hi, rfl, P⟩ := hrel
    by_cases hlt : i < c
    · have hi1 : (i : Int) < (c : Int) := by omega
      have hi0 : (0 : Int) ≤ (i : Int) := by omega
      have hw : IntKind.i64.wrap ((i : Int) + 1) = (i : Int) + 1 := by have := HC8.out; rw [IntKind.wrap_i64]; omega
      obtain ⟨ao, rfl⟩ : ∃ o, ua = some ⟨blk, o, none⟩ := by
        obtain ⟨a', cap', e, h⟩ := P.out.sl
        obtain ⟨o, ho, -⟩ := h (by omega)
        injection e with e1 e2 e3
        exact ⟨o, e1.trans ho⟩
      have hself := eq4_self (F i 0) (F i 1) (F i 2) (F i 3)
      have hzf := HZ.out i
      go_upto_region 10 with fail
      have Pd : Hid (PlS w (.pointer (some b)) (.slice (some ⟨blk, ao, none⟩) c cap) c (nc F) blk (xs i) wr.drew) := P.out.ext ((Ext.refl _).drew)
      have hS0 : SlB wr.drew (.slice (some ⟨blk, ao, none⟩) c cap) c 4 (nc F) blk ∧ Ext w wr.drew := ⟨Pd.out.sl, Pd.out.old⟩
      obtain ⟨G, hD, hst⟩ := Pd.out.step
      replace hst : Hid _ := hst
      have hGw := hG.ext hS0.2
      clear P
      refine wp_region_noPanic ?_
      refine wp_region_held (S := fun wx => SlB wx (.slice (some ⟨blk, ao, none⟩) c cap) c 4 (nc F) blk ∧ Ext w wx) (by kernel_rfl) ?_
      rw [show ({ wr with drawn := wr.drawn + 1 } : World) = wr.drew from rfl]
      refine held_take (i := 0) (v := ?v0) rfl (by kernel_rfl) (by kernel_rfl) (by kernel_rfl) (fun _ _ _ h => h) rfl ?hy0 hS0 ?rest0
      case hy0 => (intro wx hSx; obtain ⟨x0, x1, x2, x3⟩ := hSx.1.at hlt; go_simp; try with_reducible rfl)
      try simp only [Act.put, List.setIfInBounds_toArray, List.set_cons_zero, List.set_cons_succ]
      refine held_take (i := 1) (v := ?v1) rfl (by kernel_rfl) (by kernel_rfl) (by kernel_rfl) (fun _ _ _ h => h) rfl ?hy1 hS0 ?rest1
      case hy1 => (intro wx hSx; obtain ⟨x0, x1, x2, x3⟩ := hSx.1.at hlt; go_simp; try with_reducible rfl)
      try simp only [Act.put, List.setIfInBounds_toArray, List.set_cons_zero, List.set_cons_succ]
      refine held_take (i := 2) (v := ?v2) rfl (by kernel_rfl) (by kernel_rfl) (by kernel_rfl) (fun _ _ _ h => h) rfl ?hy2 hS0 ?rest2
      case hy2 => (intro wx hSx; obtain ⟨x0, x1, x2, x3⟩ := hSx.1.at hlt; go_simp; try with_reducible rfl)
      try simp only [Act.put, List.setIfInBounds_toArray, List.set_cons_zero, List.set_cons_succ]
      refine held_take (i := 3) (v := ?v3) rfl (by kernel_rfl) (by kernel_rfl) (by kernel_rfl) (fun _ _ _ h => h) rfl ?hy3 hS0 ?rest3
      case hy3 => (intro wx hSx; obtain ⟨x0, x1, x2, x3⟩ := hSx.1.at hlt; go_simp; try with_reducible rfl)
      try simp only [Act.put, List.setIfInBounds_toArray, List.set_cons_zero, List.set_cons_succ]
      refine held_take (i := 4) (v := ?v4) rfl (by kernel_rfl) (by kernel_rfl) (by kernel_rfl) (fun _ _ _ h => h) rfl ?hy4 hS0 ?rest4
      case hy4 => (intro wx hSx; obtain ⟨x0, x1, x2, x3⟩ := hSx.1.at hlt; go_simp; try with_reducible rfl)
      try simp only [Act.put, List.setIfInBounds_toArray, List.set_cons_zero, List.set_cons_succ]
      refine held_one (i := 5) (by kernel_rfl) rfl rfl (fun K hK => ?_)
      go_simp
      refine (dscalar_any (HOk.out i (by have := HC8.out; omega)) hGw hD).mono ?_
      rintro e w4 ⟨rfl, hs4⟩
      have P4 := hst.out _ _ hs4
      rw [HS.out i] at P4
      rw [HM2.out i]
      replace P4 : Hid (PlS w (.pointer (some b)) (.slice (some ⟨blk, ao, none⟩) c cap) c (nc F) blk (xs (i + 1)) w4) := P4
      have hS4 : SlB w4 (.slice (some ⟨blk, ao, none⟩) c cap) c 4 (nc F) blk ∧ Ext w w4 := ⟨P4.out.sl, P4.out.old⟩
      clear hst hs4 hD Pd
      try go_simp
      refine hK.out _ _ ⟨hS4, ?_⟩
      clear hK K
      try simp only [Act.put, List.setIfInBounds_toArray, List.set_cons_zero, List.set_cons_succ]
      refine held_take (i := 6) (v := ?v6) rfl (by kernel_rfl) (by kernel_rfl) (by kernel_rfl) (fun _ _ _ h => h) rfl ?hy6 hS4 ?rest6
      case hy6 => (intro wx hSx; obtain ⟨x0, x1, x2, x3⟩ := hSx.1.at hlt; refine (exec_neq4 (i := 35) (j := 37) rfl rfl rfl).trans ?_; rw [hself, Bool.not_true])
      try simp only [Act.put, List.setIfInBounds_toArray, List.set_cons_zero, List.set_cons_succ]
      refine held_take (i := 7) (v := ?v7) rfl (by kernel_rfl) (by kernel_rfl) (by kernel_rfl) (fun _ _ _ h => h) rfl ?hy7 hS4 ?rest7
      case hy7 => (intro wx hSx; obtain ⟨x0, x1, x2, x3⟩ := hSx.1.at hlt; go_simp; try with_reducible rfl)
      try simp only [Act.put, List.setIfInBounds_toArray, List.set_cons_zero, List.set_cons_succ]
      refine held_take (i := 8) (v := ?v8) rfl (by kernel_rfl) (by kernel_rfl) (by kernel_rfl) (fun _ _ _ h => h) rfl ?hy8 hS4 ?rest8
      case hy8 => (intro wx hSx; obtain ⟨x0, x1, x2, x3⟩ := hSx.1.at hlt; go_simp; try with_reducible rfl)
      try simp only [Act.put, List.setIfInBounds_toArray, List.set_cons_zero, List.set_cons_succ]
      refine held_take (i := 9) (v := ?v9) rfl (by kernel_rfl) (by kernel_rfl) (by kernel_rfl) (fun _ _ _ h => h) rfl ?hy9 hS4 ?rest9
      case hy9 => (intro wx hSx; obtain ⟨x0, x1, x2, x3⟩ := hSx.1.at hlt; go_simp; try with_reducible rfl)
      try simp only [Act.put, List.setIfInBounds_toArray, List.set_cons_zero, List.set_cons_succ]
      refine held_take (i := 10) (v := ?v10) rfl (by kernel_rfl) (by kernel_rfl) (by kernel_rfl) (fun _ _ _ h => h) rfl ?hy10 hS4 ?rest10
      case hy10 => (intro wx hSx; obtain ⟨x0, x1, x2, x3⟩ := hSx.1.at hlt; go_simp; try with_reducible rfl)
      try simp only [Act.put, List.setIfInBounds_toArray, List.set_cons_zero, List.set_cons_succ]
      refine held_take (i := 11) (v := ?v11) rfl (by kernel_rfl) (by kernel_rfl) (by kernel_rfl) (fun _ _ _ h => h) rfl ?hy11 hS4 ?rest11
      case hy11 => (intro wx hSx; obtain ⟨x0, x1, x2, x3⟩ := hSx.1.at hlt; go_simp; try with_reducible rfl)
      try simp only [Act.put, List.setIfInBounds_toArray, List.set_cons_zero, List.set_cons_succ]
      refine held_take (i := 12) (v := ?v12) rfl (by kernel_rfl) (by kernel_rfl) (by kernel_rfl) (fun _ _ _ h => h) rfl ?hy12 hS4 ?rest12
      case hy12 => (intro wx hSx; obtain ⟨x0, x1, x2, x3⟩ := hSx.1.at hlt; go_simp; try with_reducible rfl)
      try simp only [Act.put, List.setIfInBounds_toArray, List.set_cons_zero, List.set_cons_succ]
      refine held_take (i := 13) (v := ?v13) rfl (by kernel_rfl) (by kernel_rfl) (by kernel_rfl) (fun _ _ _ h => h) rfl ?hy13 hS4 ?rest13
      case hy13 => (intro wx hSx; obtain ⟨x0, x1, x2, x3⟩ := hSx.1.at hlt; refine (exec_eql4 (i := 43) (j := 44) rfl rfl rfl).trans ?_; rw [hzf])
      try simp only [Act.put, List.setIfInBounds_toArray, List.set_cons_zero, List.set_cons_succ]
      refine held_take (i := 14) (v := ?v14) rfl (by kernel_rfl) (by kernel_rfl) (by kernel_rfl) (fun _ _ _ h => h) rfl ?hy14 hS4 ?rest14
      case hy14 => (intro wx hSx; obtain ⟨x0, x1, x2, x3⟩ := hSx.1.at hlt; go_simp; try with_reducible rfl)
      try simp only [Act.put, List.setIfInBounds_toArray, List.set_cons_zero, List.set_cons_succ]
      refine held_take (i := 15) (v := ?v15) rfl (by kernel_rfl) (by kernel_rfl) (by kernel_rfl) (fun _ _ _ h => h) rfl ?hy15 hS4 ?rest15
      case hy15 => (intro wx hSx; obtain ⟨x0, x1, x2, x3⟩ := hSx.1.at hlt; go_simp; try with_reducible rfl)
      try simp only [Act.put, List.setIfInBounds_toArray, List.set_cons_zero, List.set_cons_succ]
      refine held_take (i := 16) (v := ?v16) rfl (by kernel_rfl) (by kernel_rfl) (by kernel_rfl) (fun _ _ _ h => h) rfl ?hy16 hS4 ?rest16
      case hy16 => (intro wx hSx; obtain ⟨x0, x1, x2, x3⟩ := hSx.1.at hlt; go_simp; try with_reducible rfl)
      try simp only [Act.put, List.setIfInBounds_toArray, List.set_cons_zero, List.set_cons_succ]
      refine held_take (i := 17) (v := ?v17) rfl (by kernel_rfl) (by kernel_rfl) (by kernel_rfl) (fun _ _ _ h => h) rfl ?hy17 hS4 ?rest17
      case hy17 => (intro wx hSx; obtain ⟨x0, x1, x2, x3⟩ := hSx.1.at hlt; go_simp; try with_reducible rfl)
      try simp only [Act.put, List.setIfInBounds_toArray, List.set_cons_zero, List.set_cons_succ]
      refine held_take (i := 18) (v := ?v18) rfl (by kernel_rfl) (by kernel_rfl) (by kernel_rfl) (fun _ _ _ h => h) rfl ?hy18 hS4 ?rest18
      case hy18 => (intro wx hSx; obtain ⟨x0, x1, x2, x3⟩ := hSx.1.at hlt; go_simp; try with_reducible rfl)
      try simp only [Act.put, List.setIfInBounds_toArray, List.set_cons_zero, List.set_cons_succ]
      refine held_take (i := 19) (v := ?v19) rfl (by kernel_rfl) (by kernel_rfl) (by kernel_rfl) (fun _ _ _ h => h) rfl ?hy19 hS4 ?rest19
      case hy19 => (intro wx hSx; obtain ⟨x0, x1, x2, x3⟩ := hSx.1.at hlt; go_simp; try with_reducible rfl)
      try simp only [Act.put, List.setIfInBounds_toArray, List.set_cons_zero, List.set_cons_succ]
      refine held_one (i := 20) (by kernel_rfl) rfl rfl (fun K hK => ?_)
      go_simp
      refine (HV.out i _).mono ?_
      rintro e w5 ⟨rfl, HX⟩
      have P5 : Hid (PlS w (.pointer (some b)) (.slice (some ⟨blk, ao, none⟩) c cap) c (nc F) blk (xs (i + 1)) w5) := P4.out.ext HX
      have hS5 : SlB w5 (.slice (some ⟨blk, ao, none⟩) c cap) c 4 (nc F) blk ∧ Ext w w5 := ⟨P5.out.sl, P5.out.old⟩
      clear HX P4
      try go_simp
      refine hK.out _ _ ⟨hS5, ?_⟩
      clear hK K
      try simp only [Act.put, List.setIfInBounds_toArray, List.set_cons_zero, List.set_cons_succ]
      refine held_take (i := 21) (v := ?v21) rfl (by kernel_rfl) (by kernel_rfl) (by kernel_rfl) (fun _ _ _ h => h) rfl ?hy21 hS5 ?rest21
      case hy21 => (intro wx hSx; obtain ⟨x0, x1, x2, x3⟩ := hSx.1.at hlt; go_simp; try with_reducible rfl)
      try simp only [Act.put, List.setIfInBounds_toArray, List.set_cons_zero, List.set_cons_succ]
      refine held_take (i := 22) (v := ?v22) rfl (by kernel_rfl) (by kernel_rfl) (by kernel_rfl) (fun _ _ _ h => h) rfl ?hy22 hS5 ?rest22
      case hy22 => (intro wx hSx; obtain ⟨x0, x1, x2, x3⟩ := hSx.1.at hlt; go_simp; try with_reducible rfl)
      try simp only [Act.put, List.setIfInBounds_toArray, List.set_cons_zero, List.set_cons_succ]
      refine wpAnyH_done (by kernel_rfl) ?_ _
      refine NoPanic.normal ?_
      clear hS0 hS4 hS5 hGw
      go_wp2_with fail
      go_roundw
      case rel => exact ⟨i + 1, hlt, by push_cast; rfl, P5⟩
      case measure => simp [intOf]; omega
    · obtain rfl : i = c := by omega
      have hi1 : ¬ (i : Int) < (i : Int) := by omega
      have HE3 : Hid (Ext w wr) := P.out.old
      go_wp2_with fail
      refine (HA.out _ HE3.out).mono ?_
      rintro e w4 ⟨rfl, HX⟩
      have HE4 : Hid (Ext w w4) := HE3.out.trans HX
      clear HX
      go_wp2
      go_ret
      exact ⟨rfl, HE4.out⟩
end Go.Proofs.YtpfeakdpckmcgaaDoor
