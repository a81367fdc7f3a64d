/-
  The law's own examples (sandglasslaw29.awake), called: true; nothing old is turned.
-/
import Derived.Test.YtpfeakdpckmcgaaDoorGPl
import Derived.Test.YtpfeakdpckmcgaaDoorGNum
namespace Go.Proofs.YtpfeakdpckmcgaaDoor
set_option maxRecDepth 10000
open Go.RowKit
/-- The first scalar goes at once: 72 bytes were asked. -/
theorem x16 : (gS (gB 40 (gNew sX))).2.2 = 72 := by
  rw [x12]
  have h : okN (gT 32 (xk3, xv5, 40)) = true := by rw [x14, x15]
  have k : ∀ n f y, n = f + 1 → okN (gT 32 y) = true → (gSf n y).2.2 = y.2.2 + 32 := fun n f y e h => by
    subst e
    rw [(gSf_yes f h).1]
    rfl
  have a : (gSf 64 (xk3, xv5, 40)).2.2 = 72 := k 64 63 _ rfl h
  rw [← (gS_def _).1]
  exact a
theorem str_ne {a b : ByteArray} (h : a ≠ b) : (a.toList == b.toList) = false := by
  cases e : a.toList == b.toList with
  | false => rfl
  | true =>
    have := eq_of_beq e
    rw [ByteArray.toList_eq, ByteArray.toList_eq] at this
    exact absurd (ba_of this) h
theorem scW_ne {o : Option ByteArray} (h : scV o ≠ 0) : eq4 (scW o 0) (scW o 1) (scW o 2) (scW o 3) 0 0 0 0 = false := by
  rw [eq4_zero (scW_lim o)]
  exact decide_eq_false h
theorem exec_neq4 {ev : Operand → Value} {i j : Nat} {o : Oper} {a0 a1 a2 a3 b0 b1 b2 b3 : Int} {w : World} (ho : o.op = .binOp .neq 39 (.tmp i) (.tmp j) 39) (hA : ev (.tmp i) = .agg #[.int .u64 a0, .int .u64 a1, .int .u64 a2, .int .u64 a3]) (hB : ev (.tmp j) = .agg #[.int .u64 b0, .int .u64 b1, .int .u64 b2, .int .u64 b3]) :
    (execOp ev o).run Tryd.prog w = .ok (.value (.bool (!eq4 a0 a1 a2 a3 b0 b1 b2 b3))) w := by
  obtain ⟨d, op, ty, po, af, gu⟩ := o
  have ho : op = .binOp .neq 39 (.tmp i) (.tmp j) 39 := ho
  subst ho
  have h := run_eq4 a0 a1 a2 a3 b0 b1 b2 b3 w
  simp [go_sem, hA, hB, h]
set_option maxHeartbeats 2000000 in
theorem awake_any (w : World) (hG : Gl w) : Calls Tryd.prog 9 #[] w fun e w' => e = .returned (.bool true) ∧ Ext w w' := by
  obtain ⟨X, hX⟩ : ∃ x, Hid (gNew ⟨#[120]⟩ = x) := ⟨_, rfl⟩
  obtain ⟨Y, hY⟩ : ∃ x, Hid (gNew ⟨#[121]⟩ = x) := ⟨_, rfl⟩
  have hX0 : GOk X 0 := by rw [← hX.out]; exact gNew_ok _
  have hY0 : GOk Y 0 := by rw [← hY.out]; exact gNew_ok _
  have hXo : GOk X 1000000 := hX0.mono (by omega)
  have hYo : GOk Y 1000000 := hY0.mono (by omega)
  have hX1' := gB_ok 40 hX0
  have hX1 : GOk (gB 40 X) 1000000 := hX1'.mono (by omega)
  have hX2 : GOk (gS (gB 40 X)) 1000000 := (gS_ok hX1').mono (by omega)
  clear hX1'
  have eX : sX = ⟨#[120]⟩ := rfl
  have eY : sY = ⟨#[121]⟩ := rfl
  have h72 := x16
  have hne := xy_ne
  rw [eX, hX.out] at h72
  rw [eX, eY, hX.out, hY.out] at hne
  clear eX eY
  have hsz : (gT 40 X).size = 40 := bO_size _ _ _
  have hnz := scW_ne (gR_goes (gB 40 X)).2
  have hnv : nmV (gR (gB 40 X)) = .agg #[.int .u64 (scW (gR (gB 40 X)) 0), .int .u64 (scW (gR (gB 40 X)) 1), .int .u64 (scW (gR (gB 40 X)) 2), .int .u64 (scW (gR (gB 40 X)) 3)] := rfl
  obtain ⟨X1, hX1e⟩ : ∃ x, Hid (gB 40 X = x) := ⟨_, rfl⟩
  rw [hX1e.out] at hX1 hX2 h72 hnz hnv
  obtain ⟨X2, hX2e⟩ : ∃ x, Hid (gS X1 = x) := ⟨_, rfl⟩
  rw [hX2e.out] at hX2 h72
  obtain ⟨S, hS⟩ : ∃ x, Hid (gT 40 X = x) := ⟨_, rfl⟩
  obtain ⟨U, hU⟩ : ∃ x, Hid (gT 40 Y = x) := ⟨_, rfl⟩
  rw [hS.out, hU.out] at hne
  rw [hS.out] at hsz
  generalize scW (gR X1) 0 = n0 at *
  generalize scW (gR X1) 1 = n1 at *
  generalize scW (gR X1) 2 = n2 at *
  generalize scW (gR X1) 3 = n3 at *
  have HNV : Hid (nmV (gR X1) = .agg #[.int .u64 n0, .int .u64 n1, .int .u64 n2, .int .u64 n3]) := hnv
  have H72 : Hid (X2.2.2 = 72) := h72
  have HNE : Hid (S ≠ U) := hne
  replace hnz : Hid (eq4 n0 n1 n2 n3 0 0 0 0 = false) := hnz
  replace hsz : Hid (S.size = 40) := hsz
  clear hnv h72 hne
  go_enter Tryd.func9, Tryd.ntmps9
  go_wp2_with fail
  refine (PlD.new (w := w) ⟨#[120]⟩ (by decide) hG (Ext.refl w)).mono ?_
  rintro e w1 ⟨a, rfl, P1⟩
  rw [hX.out] at P1
  replace P1 : Hid (PlD w (.pointer (some a)) X w1) := P1
  go_wp2_with fail
  refine (Pl2.new ⟨#[120]⟩ (by decide) hG P1.out).mono ?_
  rintro e w2 ⟨b, rfl, P2⟩
  rw [hX.out] at P2
  replace P2 : Hid (Pl2 w (.pointer (some a)) (.pointer (some b)) X X w2) := P2
  clear P1
  go_wp2_with fail
  refine (Pl3.new ⟨#[121]⟩ (by decide) hG P2.out).mono ?_
  rintro e w3 ⟨c, rfl, P3⟩
  rw [hY.out] at P3
  replace P3 : Hid (Pl3 w (.pointer (some a)) (.pointer (some b)) (.pointer (some c)) X X Y w3) := P3
  clear P2
  obtain ⟨F, hD, hst⟩ := P3.out.stepA
  replace hst : Hid _ := hst
  go_wp2_with fail
  refine (dbytes_any 40 (by decide) hXo (hG.ext P3.out.old) hD).mono ?_
  rintro e w4 ⟨rfl, hs⟩
  have P4 := hst.out _ _ hs
  rw [hX1e.out] at P4
  rw [hS.out]
  replace P4 : Hid (Pl3 w (.pointer (some a)) (.pointer (some b)) (.pointer (some c)) X1 X Y w4) := P4
  clear hst hs hD P3
  obtain ⟨F, hD, hst⟩ := P4.out.stepB
  replace hst : Hid _ := hst
  go_wp2_with fail
  refine (dbytes_any 40 (by decide) hXo (hG.ext P4.out.old) hD).mono ?_
  rintro e w5 ⟨rfl, hs⟩
  have P5 := hst.out _ _ hs
  rw [hS.out]
  replace P5 : Hid (Pl3 w (.pointer (some a)) (.pointer (some b)) (.pointer (some c)) X1 (gB 40 X) Y w5) := P5
  clear hst hs hD P4
  obtain ⟨F, hD, hst⟩ := P5.out.stepC
  replace hst : Hid _ := hst
  go_wp2_with fail
  refine (dbytes_any 40 (by decide) hYo (hG.ext P5.out.old) hD).mono ?_
  rintro e w6 ⟨rfl, hs⟩
  have P6 : Hid (PlD w (.pointer (some a)) X1 w6) := (hst.out _ _ hs).one
  rw [hU.out]
  clear hst hs hD P5
  obtain ⟨F, hD, -, -, hst⟩ := P6.out.step
  replace hst : Hid _ := hst
  go_wp2_with fail
  refine (dbytes_bad (-1) (.inl (by decide)) (hG.ext P6.out.old) hD).mono ?_
  rintro e w7 ⟨rfl, hs⟩
  have P7 : Hid (PlD w (.pointer (some a)) X1 w7) := hst.out _ _ hs
  clear hst hs hD P6
  obtain ⟨F, hD, -, -, hst⟩ := P7.out.step
  replace hst : Hid _ := hst
  go_wp2_with fail
  refine (dscalar_any hX1 (hG.ext P7.out.old) hD).mono ?_
  rintro e w8 ⟨rfl, hs⟩
  rw [HNV.out]
  have P8 := hst.out _ _ hs
  rw [hX2e.out] at P8
  replace P8 : Hid (PlD w (.pointer (some a)) X2 w8) := P8
  clear hst hs hD P7
  have M8 := Row.new w8 n0 n1 n2 n3
  have P9 : Hid (PlD w (.pointer (some a)) X2 (w8.alloc (.cells #[.int .u64 n0, .int .u64 n1, .int .u64 n2, .int .u64 n3] 39))) := P8.out.ext ((Ext.refl _).alloc _)
  go_upto_region 9 with fail
  generalize w8.alloc (.cells #[.int .u64 n0, .int .u64 n1, .int .u64 n2, .int .u64 n3] 39) = W9 at *
  generalize w8.heap.size = g at *
  obtain ⟨m0, m1, m2, m3, m4⟩ := M8
  have hsu : (S.toList == U.toList) = false := str_ne HNE.out
  have hss : (S.toList == S.toList) = true := beq_self_eq_true _
  have hlen : S.size = 40 := hsz.out
  obtain ⟨F, hD, -, -, hst⟩ := P9.out.step
  replace hst : Hid _ := hst
  have hGw := hG.ext P9.out.old
  refine wp_region_lit ?_
  refine wpList_plain rfl fun K hK => ?_
  go_simp
  refine hK _ _ ?_
  clear hK K
  try simp only [Act.put, List.setIfInBounds_toArray, List.set_cons_zero, List.set_cons_succ]
  refine wpList_plain rfl fun K hK => ?_
  go_simp
  refine hK _ _ ?_
  clear hK K
  try simp only [Act.put, List.setIfInBounds_toArray, List.set_cons_zero, List.set_cons_succ]
  refine wpList_plain rfl fun K hK => ?_
  go_simp
  refine hK _ _ ?_
  clear hK K
  try simp only [Act.put, List.setIfInBounds_toArray, List.set_cons_zero, List.set_cons_succ]
  refine wpList_plain rfl fun K hK => ?_
  go_simp
  refine hK _ _ ?_
  clear hK K
  try simp only [Act.put, List.setIfInBounds_toArray, List.set_cons_zero, List.set_cons_succ]
  refine BigFrame.wpList_want rfl fun K hK => ?_
  go_simp
  refine hK _ _ ?_
  clear hK K
  try simp only [Act.put, List.setIfInBounds_toArray, List.set_cons_zero, List.set_cons_succ]
  refine BigFrame.wpList_want rfl fun K hK => ?_
  go_simp
  refine hK _ _ ?_
  clear hK K
  try simp only [Act.put, List.setIfInBounds_toArray, List.set_cons_zero, List.set_cons_succ]
  refine wpList_plain rfl fun K hK => ?_
  go_simp
  refine hK _ _ ?_
  clear hK K
  try simp only [Act.put, List.setIfInBounds_toArray, List.set_cons_zero, List.set_cons_succ]
  refine wpList_plain rfl fun K hK => ?_
  go_simp
  refine hK _ _ ?_
  clear hK K
  try simp only [Act.put, List.setIfInBounds_toArray, List.set_cons_zero, List.set_cons_succ]
  refine BigFrame.wpList_want rfl fun K hK => ?_
  go_simp
  refine hK _ _ ?_
  clear hK K
  try simp only [Act.put, List.setIfInBounds_toArray, List.set_cons_zero, List.set_cons_succ]
  refine BigFrame.wpList_want rfl fun K hK => ?_
  go_simp
  refine hK _ _ ?_
  clear hK K
  try simp only [Act.put, List.setIfInBounds_toArray, List.set_cons_zero, List.set_cons_succ]
  refine BigFrame.wpList_want rfl fun K hK => ?_
  go_simp
  refine hK _ _ ?_
  clear hK K
  try simp only [Act.put, List.setIfInBounds_toArray, List.set_cons_zero, List.set_cons_succ]
  refine wpList_plain rfl fun K hK => ?_
  go_simp
  refine hK _ _ ?_
  clear hK K
  try simp only [Act.put, List.setIfInBounds_toArray, List.set_cons_zero, List.set_cons_succ]
  refine wpList_plain rfl fun K hK => ?_
  go_simp
  refine hK _ _ ?_
  clear hK K
  try simp only [Act.put, List.setIfInBounds_toArray, List.set_cons_zero, List.set_cons_succ]
  refine BigFrame.wpList_want rfl fun K hK => ?_
  go_simp
  refine hK _ _ ?_
  clear hK K
  try simp only [Act.put, List.setIfInBounds_toArray, List.set_cons_zero, List.set_cons_succ]
  refine BigFrame.wpList_want rfl fun K hK => ?_
  go_simp
  refine hK _ _ ?_
  clear hK K
  try simp only [Act.put, List.setIfInBounds_toArray, List.set_cons_zero, List.set_cons_succ]
  refine BigFrame.wpList_want rfl fun K hK => ?_
  go_simp
  refine hK _ _ ?_
  clear hK K
  try simp only [Act.put, List.setIfInBounds_toArray, List.set_cons_zero, List.set_cons_succ]
  refine wpList_plain rfl fun K hK => ?_
  go_simp
  refine hK _ _ ?_
  clear hK K
  try simp only [Act.put, List.setIfInBounds_toArray, List.set_cons_zero, List.set_cons_succ]
  refine wpList_plain rfl fun K hK => ?_
  go_simp
  refine hK _ _ ?_
  clear hK K
  try simp only [Act.put, List.setIfInBounds_toArray, List.set_cons_zero, List.set_cons_succ]
  refine BigFrame.wpList_want rfl fun K hK => ?_
  go_simp
  refine hK _ _ ?_
  clear hK K
  try simp only [Act.put, List.setIfInBounds_toArray, List.set_cons_zero, List.set_cons_succ]
  refine BigFrame.wpList_want rfl fun K hK => ?_
  go_simp
  refine hK _ _ ?_
  clear hK K
  try simp only [Act.put, List.setIfInBounds_toArray, List.set_cons_zero, List.set_cons_succ]
  refine wpList_plain rfl fun K hK => ?_
  go_simp
  refine hK _ _ ?_
  clear hK K
  try simp only [Act.put, List.setIfInBounds_toArray, List.set_cons_zero, List.set_cons_succ]
  refine wpList_plain rfl fun K hK => ?_
  go_simp
  refine hK _ _ ?_
  clear hK K
  try simp only [Act.put, List.setIfInBounds_toArray, List.set_cons_zero, List.set_cons_succ]
  refine BigFrame.wpList_want rfl fun K hK => ?_
  go_simp
  refine hK _ _ ?_
  clear hK K
  try simp only [Act.put, List.setIfInBounds_toArray, List.set_cons_zero, List.set_cons_succ]
  refine BigFrame.wpList_want rfl fun K hK => ?_
  go_simp
  refine hK _ _ ?_
  clear hK K
  try simp only [Act.put, List.setIfInBounds_toArray, List.set_cons_zero, List.set_cons_succ]
  refine BigFrame.wpList_want rfl fun K hK => ?_
  unfold Oper.wp
  rw [exec_neq4 (i := 70) (j := 71) rfl rfl rfl, hnz.out]
  show K _ _
  refine hK _ _ ?_
  clear hK K
  try simp only [Act.put, List.setIfInBounds_toArray, List.set_cons_zero, List.set_cons_succ]
  refine wpList_plain rfl fun K hK => ?_
  go_simp
  refine hK _ _ ?_
  clear hK K
  try simp only [Act.put, List.setIfInBounds_toArray, List.set_cons_zero, List.set_cons_succ]
  refine wpList_plain rfl fun K hK => ?_
  go_simp
  refine hK _ _ ?_
  clear hK K
  try simp only [Act.put, List.setIfInBounds_toArray, List.set_cons_zero, List.set_cons_succ]
  refine BigFrame.wpList_want rfl fun K hK => ?_
  go_simp
  refine hK _ _ ?_
  clear hK K
  try simp only [Act.put, List.setIfInBounds_toArray, List.set_cons_zero, List.set_cons_succ]
  refine BigFrame.wpList_want rfl fun K hK => ?_
  go_simp
  refine (dasked_any hD).mono ?_
  rintro e w10 ⟨rfl, HX⟩
  rw [H72.out]
  have P10 : Hid (PlD w (.pointer (some a)) X2 w10) := P9.out.ext HX
  clear hst hD hGw HX m0 m1 m2 m3 m4 P9
  obtain ⟨F, hD, -, -, hst⟩ := P10.out.step
  replace hst : Hid _ := hst
  dsimp only
  refine hK _ _ ?_
  clear hK K
  try simp only [Act.put, List.setIfInBounds_toArray, List.set_cons_zero, List.set_cons_succ]
  refine BigFrame.wpList_want rfl fun K hK => ?_
  go_simp
  refine hK _ _ ?_
  clear hK K
  try simp only [Act.put, List.setIfInBounds_toArray, List.set_cons_zero, List.set_cons_succ]
  refine wpList_plain rfl fun K hK => ?_
  go_simp
  refine hK _ _ ?_
  clear hK K
  try simp only [Act.put, List.setIfInBounds_toArray, List.set_cons_zero, List.set_cons_succ]
  refine wpList_plain rfl fun K hK => ?_
  go_simp
  refine hK _ _ ?_
  clear hK K
  try simp only [Act.put, List.setIfInBounds_toArray, List.set_cons_zero, List.set_cons_succ]
  refine BigFrame.wpList_want rfl fun K hK => ?_
  go_simp
  refine hK _ _ ?_
  clear hK K
  try simp only [Act.put, List.setIfInBounds_toArray, List.set_cons_zero, List.set_cons_succ]
  refine BigFrame.wpList_want rfl fun K hK => ?_
  go_simp
  refine (dpoly_any 2 hX2 (hG.ext P10.out.old) hD).mono ?_
  rintro e w11 ⟨u, blk, rfl, ⟨ua, cap, rfl, -⟩, -, hs⟩
  have P11 : Hid (Ext w w11) := (hst.out _ _ hs).old
  clear hst hs hD P10
  have hp2 : pcn 2 = 2 := rfl
  rw [hp2]
  dsimp only
  refine hK _ _ ?_
  clear hK K
  try simp only [Act.put, List.setIfInBounds_toArray, List.set_cons_zero, List.set_cons_succ]
  refine BigFrame.wpList_want rfl fun K hK => ?_
  go_simp
  refine hK _ _ ?_
  clear hK K
  try simp only [Act.put, List.setIfInBounds_toArray, List.set_cons_zero, List.set_cons_succ]
  refine BigFrame.wpList_want rfl fun K hK => ?_
  go_simp
  refine hK _ _ ?_
  clear hK K
  try simp only [Act.put, List.setIfInBounds_toArray, List.set_cons_zero, List.set_cons_succ]
  refine wpList_plain rfl fun K hK => ?_
  go_simp
  refine hK _ _ ?_
  clear hK K
  try simp only [Act.put, List.setIfInBounds_toArray, List.set_cons_zero, List.set_cons_succ]
  refine wpList_plain rfl fun K hK => ?_
  go_simp
  refine hK _ _ ?_
  clear hK K
  try simp only [Act.put, List.setIfInBounds_toArray, List.set_cons_zero, List.set_cons_succ]
  go_wp2
  go_ret
  exact ⟨rfl, P11.out⟩
end Go.Proofs.YtpfeakdpckmcgaaDoor
