/-
  AgreeOnce.
-/
import Derived.Test.YtmanacbdldfmfaaLc
namespace Go.Proofs.Ytmanacbdldfmfaa
open Go.RowKit
set_option maxRecDepth 10000
/-- All that was said behind some words. -/
def sayL (p : Pm) (M : List Vt) : Nat → List Vt
  | 0 => (startA p newA).2
  | i + 1 => match M[i]? with
    | some m => sayL p M i ++ (takeA p (runA p M i) m).2
    | none => sayL p M i
theorem sayL_step {p : Pm} {M : List Vt} {i : Nat} {m : Vt} (h : M[i]? = some m) : sayL p M (i + 1) = sayL p M i ++ (takeA p (runA p M i) m).2 := by
  show (match M[i]? with | some m => sayL p M i ++ (takeA p (runA p M i) m).2 | none => sayL p M i) = _
  rw [h]
theorem sayL_said {p : Pm} (hp : okP p) (M : List Vt) : ∀ i, SaidA p (runA p M i) (sayL p M i)
  | 0 => said_start hp
  | i + 1 => by
    have h := sayL_said hp M i
    cases e : M[i]? with
    | some m => rw [sayL_step e, runA_step e]; exact said_take hp (runA_fa hp M i).2.1 h m
    | none =>
      have e1 : sayL p M (i + 1) = sayL p M i := by
        show (match M[i]? with | some m => sayL p M i ++ (takeA p (runA p M i) m).2 | none => sayL p M i) = _
        rw [e]
      have e2 : runA p M (i + 1) = runA p M i := by
        show (match M[i]? with | some m => (takeA p (runA p M i) m).1 | none => runA p M i) = _
        rw [e]
      rw [e1, e2]; exact h
theorem sayL_len {p : Pm} (hp : okP p) (M : List Vt) : ∀ i, (sayL p M i).length ≤ 1 + 257 * i
  | 0 => by
    show (startA p newA).2.length ≤ _
    rw [start_eq]
    dsimp only
    split <;> simp
  | i + 1 => by
    have h := sayL_len hp M i
    cases e : M[i]? with
    | some m =>
      rw [sayL_step e, List.length_append]
      have := take_len (runA_fa hp M i).2.1 m
      omega
    | none =>
      have e1 : sayL p M (i + 1) = sayL p M i := by
        show (match M[i]? with | some m => sayL p M i ++ (takeA p (runA p M i) m).2 | none => sayL p M i) = _
        rw [e]
      rw [e1]; omega
theorem pw_lt {R : Vt → Vt → Prop} : ∀ {L : List Vt} {k i : Nat} {y x : Vt}, L.Pairwise R → k < i → L[k]? = some y → L[i]? = some x → R y x := by
  intro L k i y x h hk hy hx
  obtain ⟨h1, rfl⟩ := List.getElem?_eq_some_iff.1 hy
  obtain ⟨h2, rfl⟩ := List.getElem?_eq_some_iff.1 hx
  exact List.pairwise_iff_getElem.1 h k i h1 h2 hk
set_option maxHeartbeats 16000000 in
theorem agreeOnce_any (z : Vt) (v : Value) (M : List Vt) (w : World) (hM : WsIs w v M) (hMw : ∀ m ∈ M, (Lit.int .i64 m.rd).wf = true) : Calls Try.prog 5 #[wv z, v] w fun e w' => e = .returned (.bool true) ∧ Ext w w' := by
  have HL0 : Hid (WsIs w v M) := hM
  have HMw : Hid (∀ m ∈ M, (Lit.int .i64 m.rd).wf = true) := hMw
  have HE0 : Hid (Ext w (w.alloc (.cells #[.int .i64 z.kd, .int .i64 z.fr, .int .i64 z.rd, .int .i64 z.va, .string z.vl] 26))) := (Ext.refl w).alloc _
  have HZ : Hid (∀ wx, Ext (w.alloc (.cells #[.int .i64 z.kd, .int .i64 z.fr, .int .i64 z.rd, .int .i64 z.va, .string z.vl] 26)) wx → wx.cell? ⟨w.heap.size, 0, none⟩ = some (.int .i64 z.kd) ∧ wx.cell? ⟨w.heap.size, 1, none⟩ = some (.int .i64 z.fr) ∧ wx.cell? ⟨w.heap.size, 2, none⟩ = some (.int .i64 z.rd) ∧ wx.cell? ⟨w.heap.size, 3, none⟩ = some (.int .i64 z.va) ∧ wx.cell? ⟨w.heap.size, 4, none⟩ = some (.string z.vl) ∧ w.heap.size < wx.heap.size) := fun wx hx => ⟨later hx (by rw [World.cell?_alloc_at _ _ _ _ rfl]; rfl), later hx (by rw [World.cell?_alloc_at _ _ _ _ rfl]; rfl), later hx (by rw [World.cell?_alloc_at _ _ _ _ rfl]; rfl), later hx (by rw [World.cell?_alloc_at _ _ _ _ rfl]; rfl), later hx (by rw [World.cell?_alloc_at _ _ _ _ rfl]; rfl), Nat.lt_of_lt_of_le (by simp) hx.size⟩
  obtain ⟨va, vc, rfl, _⟩ := hM
  obtain ⟨N, HN⟩ : ∃ N, Hid (M.length = N) := ⟨_, rfl⟩
  have HL := HL0
  rw [HN.out] at HL ⊢
  clear HL0 hMw
  go_enter Try.func5, Try.ntmps5
  go_wp2_with fail
  obtain ⟨W, hW⟩ : ∃ W, (w.alloc (.cells #[.int .i64 z.kd, .int .i64 z.fr, .int .i64 z.rd, .int .i64 z.va, .string z.vl] 26)) = W := ⟨_, rfl⟩
  rw [hW] at HE0 HZ ⊢
  clear hW
  refine (few_any _ M W (by rw [← HN.out] at *; exact HL.out.ext HE0.out)).mono ?_
  rintro e w1 ⟨x, rfl, hx, HX⟩
  have HX1 : Hid (Ext W w1) := HX
  clear HX
  rcases hx with rfl | ⟨rfl, hl⟩
  · go_wp2_with fail
    refine (awake_any _).mono ?_
    rintro e w2 ⟨rfl, HX⟩
    have HX2 : Hid (Ext w w2) := HE0.out.trans (HX1.out.trans HX)
    clear HX
    go_wp2_with fail
    go_ret
    exact ⟨rfl, HX2.out⟩
  have Hl : Hid (N ≤ 60) := by show N ≤ 60; rw [← HN.out]; exact hl
  clear hl
  obtain ⟨y0, y1, y2, y3, y4, yl⟩ := HZ.out _ HX1.out
  by_cases hv : (5000 : Int) < (z.vl.size : Int)
  · have dv : decide ((5000 : Int) < (z.vl.size : Int)) = true := decide_eq_true hv
    clear hv
    go_wp2_with fail
    refine (awake_any _).mono ?_
    rintro e w2 ⟨rfl, HX⟩
    have HX2 : Hid (Ext w w2) := HE0.out.trans (HX1.out.trans HX)
    clear HX
    go_wp2_with fail
    go_ret
    exact ⟨rfl, HX2.out⟩
  have dv : decide ((5000 : Int) < (z.vl.size : Int)) = false := decide_eq_false hv
  clear hv
  by_cases hp0 : okPm z.kd z.fr z.rd z.va z.vl
  case neg =>
    have HB : Hid (¬ okPm z.kd z.fr z.rd z.va z.vl) := hp0
    clear hp0
    go_wp2_with fail
    refine (anew_bad _ _ _ _ _ HB.out _).mono ?_
    rintro e w2 ⟨rfl, HX⟩
    have HX2 : Hid (Ext w w2) := HE0.out.trans (HX1.out.trans HX)
    clear HX y0 y1 y2 y3 y4 yl
    go_wp2_with fail
    refine (awake_any _).mono ?_
    rintro e w3 ⟨rfl, HX⟩
    have HX3 : Hid (Ext w w3) := HX2.out.trans HX
    clear HX
    go_wp2_with fail
    go_ret
    exact ⟨rfl, HX3.out⟩
  obtain ⟨p, hp, p1, p2, p3, p4, p5⟩ := okP_of hp0
  have Hp : Hid (okP p) := hp
  have Hme : Hid (p.me = z.rd) := p3
  have HNw : Hid (Calls Try.prog 12 #[.int .i64 z.kd, .int .i64 z.fr, .int .i64 z.rd, .int .i64 z.va, .string z.vl] w1 fun e w' => ∃ b, e = .returned (.pointer (some ⟨b, 0, none⟩)) ∧ LW W b p newA [] (.slice none 0 0) w') := by
    have := lnew_good (w := W) hp HX1.out
    rw [p1, p2, p3, p4, p5] at this
    exact this
  clear hp hp0 p1 p2 p3 p4 p5
  go_wp2_with fail
  refine HNw.out.mono ?_
  rintro e w2 ⟨b, rfl, hW⟩
  have HW : Hid (LW W b p newA [] (.slice none 0 0) w2) := hW
  clear hW HNw y0 y1 y2 y3 y4 yl HX1
  go_wp2_with fail
  refine (lstart_row Hp.out (inv_new p) HW.out).mono ?_
  rintro e w3 ⟨a, n, c, rfl, hX⟩
  have HW3 : Hid (LW W b p (runA p M 0) (sayL p M 0) (.slice a n c) w3) := hX
  clear hX HW
  go_wp2_with fail
  go_loopw [6, 7] (fun u6 u7 wr => ∃ i : Nat, ∃ a n c, i ≤ N ∧ u7 = .int .i64 i ∧ u6 = .slice a n c ∧ Hid (LW W b p (runA p M i) (sayL p M i) (.slice a n c) wr)) (fun _ u7 _ => N - (intOf u7).toNat)
  case atStart => exact ⟨0, a, n, c, Nat.zero_le _, rfl, rfl, HW3⟩
  case round =>
    clear HW3
    obtain ⟨i, a, n, c, hi, rfl, rfl, HWi⟩ := hrel
    by_cases hlt : i < N
    · obtain ⟨q1, q0, qw⟩ := lp_nums i N hlt (by have := Hl.out; omega)
      obtain ⟨m, hm⟩ : ∃ m, M[i]? = some m := ⟨M[i]'(by rw [HN.out]; exact hlt), List.getElem?_eq_getElem _⟩
      have HL2 : WsIs wr (.slice va M.length vc) M := by rw [HN.out]; exact HL.out.ext (HE0.out.trans HWi.out.old)
      obtain ⟨g, og, rfl, hbl, hd0, hd1, hd2, hd3, hd4⟩ := HL2.get hm
      clear HL2
      have HS1 : Hid (runA p M (i + 1) = (takeA p (runA p M i) m).1) := runA_step hm
      have HS2 : Hid (sayL p M (i + 1) = sayL p M i ++ (takeA p (runA p M i) m).2) := sayL_step hm
      have HT : Hid (Calls Try.prog 14 #[.pointer (some ⟨b, 0, none⟩), .agg #[.int .i64 m.kd, .int .i64 m.fr, .int .i64 m.rd, .int .i64 m.va, .string m.vl]] wr fun e w' => ∃ a' n' c', e = .returned (.slice a' n' c') ∧ LX W b p (takeA p (runA p M i) m).1 (sayL p M i) (.slice a n c) (takeA p (runA p M i) m).2 (.slice a' n' c') w') := ltake_any m (runA_fa Hp.out M i) (by have := Hl.out; omega) (HMw.out m (List.mem_of_getElem? hm)) HWi.out
      have HLn : Hid ((sayL p M i).length + (takeA p (runA p M i) m).2.length ≤ 100000) := by
        have h1 := sayL_len Hp.out M (i + 1)
        rw [HS2.out, List.length_append] at h1
        exact Nat.le_trans h1 (by have := Hl.out; omega)
      have Hm : Hid (N - (intOf (.int .i64 ((i : Int) + 1))).toNat < N - (intOf (.int .i64 (i : Int))).toNat) := lp_meas hlt
      clear hm HWi
      go_wp2_with fail
      refine HT.out.mono ?_
      rintro e w5 ⟨a', n', c', rfl, hX⟩
      have HX : Hid _ := hX
      clear hX HT
      dsimp only
      refine (‹Shut (∀ a w, wpList _ _ _ _ a w → _)›).out _ _ ?_
      refine wpList_plain rfl fun K hK => ?_
      refine lapp HX.out HLn.out (.tmp 42) (.tmp 48) rfl rfl rfl ?_
      intro a2 n2 c2 w7 hW7
      have HW7 : Hid (LW W b p (runA p M (i + 1)) (sayL p M (i + 1)) (.slice a2 n2 c2) w7) := by show LW _ _ _ _ _ _ _; rw [HS1.out, HS2.out]; exact hW7
      refine hK _ _ ?_
      clear hK K hW7 HX
      try simp only [Act.put, List.setIfInBounds_toArray, List.set_cons_zero, List.set_cons_succ]
      go_wp2_with fail
      go_roundw
      case rel => exact ⟨i + 1, a2, n2, c2, hlt, by push_cast; rfl, rfl, HW7⟩
      case measure => exact Hm.out
    · obtain rfl : i = N := by omega
      have hnl : ¬ (i : Int) < (i : Int) := by omega
      have HSd : Hid (SaidA p (runA p M i) (sayL p M i)) := sayL_said Hp.out M i
      have Hlen : Hid ((sayL p M i).length ≤ 100000) := Nat.le_trans (sayL_len Hp.out M i) (by have := Hl.out; omega)
      have en := own_n HWi.out.own
      have HQ0 : Hid (WsIs wr (.slice a n c) (sayL p M i) ∧ Ext W wr) := ⟨own_ws HWi.out.own, HWi.out.old⟩
      have HSn : Hid ((sayL p M i).length = n) := en.symm
      generalize sayL p M i = S at *
      rw [HSn.out] at Hlen
      clear HWi en
      go_wp2_with fail
      go_loopw [8] (fun u8 wq => ∃ i : Nat, i ≤ n ∧ u8 = .int .i64 i ∧ Hid (WsIs wq (.slice a n c) S ∧ Ext W wq)) (fun u8 _ => n - (intOf u8).toNat)
      case atStart => exact ⟨0, Nat.zero_le _, rfl, HQ0⟩
      case round =>
        clear HQ0
        clear hnl
        obtain ⟨i, hi2, rfl, HQ⟩ := hrel
        by_cases hlt : i < n
        · obtain ⟨q1, q0, qw⟩ := lp_nums i n hlt (by have := Hlen.out; omega)
          obtain ⟨x, hx⟩ : ∃ x, S[i]? = some x := ⟨S[i]'(by rw [HSn.out]; exact hlt), List.getElem?_eq_getElem _⟩
          have Hx : Hid (S[i]? = some x) := hx
          have HL2 : WsIs wr (.slice a S.length c) S := by
            have := HQ.out.1
            rw [← HSn.out] at this
            exact this
          obtain ⟨g, og, rfl, hbl, he0, he1, he2, he3, he4⟩ := HL2.get hx
          have HG1 : Hid (∀ wx, Ext wr wx → g < wx.heap.size ∧ wx.cell? ⟨g, og + i * 5, none⟩ = some (.int .i64 x.kd) ∧ wx.cell? ⟨g, og + i * 5 + 1, none⟩ = some (.int .i64 x.fr) ∧ wx.cell? ⟨g, og + i * 5 + 2, none⟩ = some (.int .i64 x.rd) ∧ wx.cell? ⟨g, og + i * 5 + 3, none⟩ = some (.int .i64 x.va) ∧ wx.cell? ⟨g, og + i * 5 + 4, none⟩ = some (.string x.vl)) := fun wx hw => ⟨Nat.lt_of_lt_of_le hbl hw.size, later hw he0, later hw he1, later hw he2, later hw he3, later hw he4⟩
          have HZ2 : Hid (∀ wx, Ext wr wx → wx.cell? ⟨w.heap.size, 2, none⟩ = some (.int .i64 z.rd) ∧ w.heap.size < wx.heap.size) := fun wx hw => by
            obtain ⟨_, _, t2, _, _, tl⟩ := HZ.out wx (HQ.out.2.trans hw)
            exact ⟨t2, tl⟩
          have hwf := HSd.out.wf x (List.mem_of_getElem? hx)
          have b1 : (x.fr != z.rd) = false := by rw [hwf.1, Hme.out]; simp
          have HCk : Hid (∀ wx, Calls Try.prog 22 #[.agg #[.int .i64 x.kd, .int .i64 x.fr, .int .i64 x.rd, .int .i64 x.va, .string x.vl]] wx fun e w' => e = .returned (.int .i64 0) ∧ Ext wx w') := fun wx => by
            have := rchkW_any x.kd x.fr x.rd x.va x.vl wx
            rw [show wrdOk x.kd x.fr x.rd x.va x.vl = true from hwf.2] at this
            exact this
          have Hm : Hid (n - (intOf (.int .i64 ((i : Int) + 1))).toNat < n - (intOf (.int .i64 (i : Int))).toNat) := lp_meas hlt
          clear HL2 hx hwf hbl he0 he1 he2 he3 he4
          by_cases hz : i = 0
          · have d0 : decide (0 < i) = false := decide_eq_false (by omega)
            clear hz
            go_wp2_with fail
            refine wp_region_noPanic ?_
            refine wp_region_held (S := Ext wr) (by kernel_rfl) ?_
            rw [show ({ wr with drawn := wr.drawn + 1 } : World) = wr.drew from rfl]
            have HS : Ext wr wr.drew := (Ext.refl wr).drew
            refine held_take (i := 0) (v := ?vz0) rfl (by kernel_rfl) (by kernel_rfl) (by kernel_rfl) (fun _ _ _ h => h) rfl ?hyz0 HS ?restz0
            case hyz0 => (intro wx hSx; obtain ⟨y2, yl⟩ := HZ2.out _ hSx; obtain ⟨hbl, he0, he1, he2, he3, he4⟩ := HG1.out _ hSx; go_simp; try with_reducible rfl)
            try simp only [Act.put, List.setIfInBounds_toArray, List.set_cons_zero, List.set_cons_succ]
            refine held_take (i := 1) (v := ?vz1) rfl (by kernel_rfl) (by kernel_rfl) (by kernel_rfl) (fun _ _ _ h => h) rfl ?hyz1 HS ?restz1
            case hyz1 => (intro wx hSx; obtain ⟨y2, yl⟩ := HZ2.out _ hSx; obtain ⟨hbl, he0, he1, he2, he3, he4⟩ := HG1.out _ hSx; go_simp; try with_reducible rfl)
            try simp only [Act.put, List.setIfInBounds_toArray, List.set_cons_zero, List.set_cons_succ]
            refine held_take (i := 2) (v := ?vz2) rfl (by kernel_rfl) (by kernel_rfl) (by kernel_rfl) (fun _ _ _ h => h) rfl ?hyz2 HS ?restz2
            case hyz2 => (intro wx hSx; obtain ⟨y2, yl⟩ := HZ2.out _ hSx; obtain ⟨hbl, he0, he1, he2, he3, he4⟩ := HG1.out _ hSx; go_simp; try with_reducible rfl)
            try simp only [Act.put, List.setIfInBounds_toArray, List.set_cons_zero, List.set_cons_succ]
            refine held_take (i := 3) (v := ?vz3) rfl (by kernel_rfl) (by kernel_rfl) (by kernel_rfl) (fun _ _ _ h => h) rfl ?hyz3 HS ?restz3
            case hyz3 => (intro wx hSx; obtain ⟨y2, yl⟩ := HZ2.out _ hSx; obtain ⟨hbl, he0, he1, he2, he3, he4⟩ := HG1.out _ hSx; go_simp; try with_reducible rfl)
            try simp only [Act.put, List.setIfInBounds_toArray, List.set_cons_zero, List.set_cons_succ]
            refine held_take (i := 4) (v := ?vz4) rfl (by kernel_rfl) (by kernel_rfl) (by kernel_rfl) (fun _ _ _ h => h) rfl ?hyz4 HS ?restz4
            case hyz4 => (intro wx hSx; obtain ⟨y2, yl⟩ := HZ2.out _ hSx; obtain ⟨hbl, he0, he1, he2, he3, he4⟩ := HG1.out _ hSx; go_simp; try with_reducible rfl)
            try simp only [Act.put, List.setIfInBounds_toArray, List.set_cons_zero, List.set_cons_succ]
            refine held_take (i := 5) (v := ?vz5) rfl (by kernel_rfl) (by kernel_rfl) (by kernel_rfl) (fun _ _ _ h => h) rfl ?hyz5 HS ?restz5
            case hyz5 => (intro wx hSx; obtain ⟨y2, yl⟩ := HZ2.out _ hSx; obtain ⟨hbl, he0, he1, he2, he3, he4⟩ := HG1.out _ hSx; go_simp; try with_reducible rfl)
            try simp only [Act.put, List.setIfInBounds_toArray, List.set_cons_zero, List.set_cons_succ]
            refine held_take (i := 6) (v := ?vz6) rfl (by kernel_rfl) (by kernel_rfl) (by kernel_rfl) (fun _ _ _ h => h) rfl ?hyz6 HS ?restz6
            case hyz6 => (intro wx hSx; obtain ⟨y2, yl⟩ := HZ2.out _ hSx; obtain ⟨hbl, he0, he1, he2, he3, he4⟩ := HG1.out _ hSx; go_simp; try with_reducible rfl)
            try simp only [Act.put, List.setIfInBounds_toArray, List.set_cons_zero, List.set_cons_succ]
            refine held_take (i := 7) (v := ?vz7) rfl (by kernel_rfl) (by kernel_rfl) (by kernel_rfl) (fun _ _ _ h => h) rfl ?hyz7 HS ?restz7
            case hyz7 => (intro wx hSx; obtain ⟨y2, yl⟩ := HZ2.out _ hSx; obtain ⟨hbl, he0, he1, he2, he3, he4⟩ := HG1.out _ hSx; go_simp; try with_reducible rfl)
            try simp only [Act.put, List.setIfInBounds_toArray, List.set_cons_zero, List.set_cons_succ]
            refine held_take (i := 8) (v := ?vz8) rfl (by kernel_rfl) (by kernel_rfl) (by kernel_rfl) (fun _ _ _ h => h) rfl ?hyz8 HS ?restz8
            case hyz8 => (intro wx hSx; obtain ⟨y2, yl⟩ := HZ2.out _ hSx; obtain ⟨hbl, he0, he1, he2, he3, he4⟩ := HG1.out _ hSx; go_simp; try with_reducible rfl)
            try simp only [Act.put, List.setIfInBounds_toArray, List.set_cons_zero, List.set_cons_succ]
            refine held_take (i := 9) (v := ?vz9) rfl (by kernel_rfl) (by kernel_rfl) (by kernel_rfl) (fun _ _ _ h => h) rfl ?hyz9 HS ?restz9
            case hyz9 => (intro wx hSx; obtain ⟨y2, yl⟩ := HZ2.out _ hSx; obtain ⟨hbl, he0, he1, he2, he3, he4⟩ := HG1.out _ hSx; go_simp; try with_reducible rfl)
            try simp only [Act.put, List.setIfInBounds_toArray, List.set_cons_zero, List.set_cons_succ]
            refine held_take (i := 10) (v := ?vz10) rfl (by kernel_rfl) (by kernel_rfl) (by kernel_rfl) (fun _ _ _ h => h) rfl ?hyz10 HS ?restz10
            case hyz10 => (intro wx hSx; obtain ⟨y2, yl⟩ := HZ2.out _ hSx; obtain ⟨hbl, he0, he1, he2, he3, he4⟩ := HG1.out _ hSx; go_simp; try with_reducible rfl)
            try simp only [Act.put, List.setIfInBounds_toArray, List.set_cons_zero, List.set_cons_succ]
            refine held_take (i := 11) (v := ?vz11) rfl (by kernel_rfl) (by kernel_rfl) (by kernel_rfl) (fun _ _ _ h => h) rfl ?hyz11 HS ?restz11
            case hyz11 => (intro wx hSx; obtain ⟨y2, yl⟩ := HZ2.out _ hSx; obtain ⟨hbl, he0, he1, he2, he3, he4⟩ := HG1.out _ hSx; go_simp; try with_reducible rfl)
            try simp only [Act.put, List.setIfInBounds_toArray, List.set_cons_zero, List.set_cons_succ]
            refine held_take (i := 12) (v := ?vz12) rfl (by kernel_rfl) (by kernel_rfl) (by kernel_rfl) (fun _ _ _ h => h) rfl ?hyz12 HS ?restz12
            case hyz12 => (intro wx hSx; obtain ⟨y2, yl⟩ := HZ2.out _ hSx; obtain ⟨hbl, he0, he1, he2, he3, he4⟩ := HG1.out _ hSx; go_simp; try with_reducible rfl)
            try simp only [Act.put, List.setIfInBounds_toArray, List.set_cons_zero, List.set_cons_succ]
            refine held_one (i := 13) (by kernel_rfl) rfl rfl (fun K hK => ?_)
            go_simp
            refine (HCk.out _).mono ?_
            rintro e y1 ⟨rfl, HX⟩
            have HSb : Ext wr y1 := HS.trans HX
            clear HX
            try go_simp
            refine hK.out _ _ ⟨HSb, ?_⟩
            clear hK K
            try simp only [Act.put, List.setIfInBounds_toArray, List.set_cons_zero, List.set_cons_succ]
            refine held_take (i := 14) (v := ?vz14) rfl (by kernel_rfl) (by kernel_rfl) (by kernel_rfl) (fun _ _ _ h => h) rfl ?hyz14 HSb ?restz14
            case hyz14 => (intro wx hSx; obtain ⟨y2, yl⟩ := HZ2.out _ hSx; obtain ⟨hbl, he0, he1, he2, he3, he4⟩ := HG1.out _ hSx; go_simp; try with_reducible rfl)
            try simp only [Act.put, List.setIfInBounds_toArray, List.set_cons_zero, List.set_cons_succ]
            refine held_take (i := 15) (v := ?vz15) rfl (by kernel_rfl) (by kernel_rfl) (by kernel_rfl) (fun _ _ _ h => h) rfl ?hyz15 HSb ?restz15
            case hyz15 => (intro wx hSx; obtain ⟨y2, yl⟩ := HZ2.out _ hSx; obtain ⟨hbl, he0, he1, he2, he3, he4⟩ := HG1.out _ hSx; go_simp; try with_reducible rfl)
            try simp only [Act.put, List.setIfInBounds_toArray, List.set_cons_zero, List.set_cons_succ]
            refine held_take (i := 16) (v := ?vz16) rfl (by kernel_rfl) (by kernel_rfl) (by kernel_rfl) (fun _ _ _ h => h) rfl ?hyz16 HSb ?restz16
            case hyz16 => (intro wx hSx; obtain ⟨y2, yl⟩ := HZ2.out _ hSx; obtain ⟨hbl, he0, he1, he2, he3, he4⟩ := HG1.out _ hSx; go_simp; try with_reducible rfl)
            try simp only [Act.put, List.setIfInBounds_toArray, List.set_cons_zero, List.set_cons_succ]
            refine held_take (i := 17) (v := ?vz17) rfl (by kernel_rfl) (by kernel_rfl) (by kernel_rfl) (fun _ _ _ h => h) rfl ?hyz17 HSb ?restz17
            case hyz17 => (intro wx hSx; obtain ⟨y2, yl⟩ := HZ2.out _ hSx; obtain ⟨hbl, he0, he1, he2, he3, he4⟩ := HG1.out _ hSx; go_simp; try with_reducible rfl)
            try simp only [Act.put, List.setIfInBounds_toArray, List.set_cons_zero, List.set_cons_succ]
            refine held_take (i := 18) (v := ?vz18) rfl (by kernel_rfl) (by kernel_rfl) (by kernel_rfl) (fun _ _ _ h => h) rfl ?hyz18 HSb ?restz18
            case hyz18 => (intro wx hSx; obtain ⟨y2, yl⟩ := HZ2.out _ hSx; obtain ⟨hbl, he0, he1, he2, he3, he4⟩ := HG1.out _ hSx; go_simp; try with_reducible rfl)
            try simp only [Act.put, List.setIfInBounds_toArray, List.set_cons_zero, List.set_cons_succ]
            refine held_take (i := 19) (v := ?vz19) rfl (by kernel_rfl) (by kernel_rfl) (by kernel_rfl) (fun _ _ _ h => h) rfl ?hyz19 HSb ?restz19
            case hyz19 => (intro wx hSx; obtain ⟨y2, yl⟩ := HZ2.out _ hSx; obtain ⟨hbl, he0, he1, he2, he3, he4⟩ := HG1.out _ hSx; go_simp; try with_reducible rfl)
            try simp only [Act.put, List.setIfInBounds_toArray, List.set_cons_zero, List.set_cons_succ]
            refine held_skip (i := 20) rfl (by kernel_rfl) (by kernel_rfl) (by kernel_rfl) (fun _ _ _ h => h) rfl HSb ?_
            try simp only [Act.put, List.setIfInBounds_toArray, List.set_cons_zero, List.set_cons_succ]
            refine held_skip (i := 21) rfl (by kernel_rfl) (by kernel_rfl) (by kernel_rfl) (fun _ _ _ h => h) rfl HSb ?_
            try simp only [Act.put, List.setIfInBounds_toArray, List.set_cons_zero, List.set_cons_succ]
            refine held_skip (i := 22) rfl (by kernel_rfl) (by kernel_rfl) (by kernel_rfl) (fun _ _ _ h => h) rfl HSb ?_
            try simp only [Act.put, List.setIfInBounds_toArray, List.set_cons_zero, List.set_cons_succ]
            refine held_skip (i := 23) rfl (by kernel_rfl) (by kernel_rfl) (by kernel_rfl) (fun _ _ _ h => h) rfl HSb ?_
            try simp only [Act.put, List.setIfInBounds_toArray, List.set_cons_zero, List.set_cons_succ]
            refine held_skip (i := 24) rfl (by kernel_rfl) (by kernel_rfl) (by kernel_rfl) (fun _ _ _ h => h) rfl HSb ?_
            try simp only [Act.put, List.setIfInBounds_toArray, List.set_cons_zero, List.set_cons_succ]
            refine held_skip (i := 25) rfl (by kernel_rfl) (by kernel_rfl) (by kernel_rfl) (fun _ _ _ h => h) rfl HSb ?_
            try simp only [Act.put, List.setIfInBounds_toArray, List.set_cons_zero, List.set_cons_succ]
            refine held_skip (i := 26) rfl (by kernel_rfl) (by kernel_rfl) (by kernel_rfl) (fun _ _ _ h => h) rfl HSb ?_
            try simp only [Act.put, List.setIfInBounds_toArray, List.set_cons_zero, List.set_cons_succ]
            refine held_skip (i := 27) rfl (by kernel_rfl) (by kernel_rfl) (by kernel_rfl) (fun _ _ _ h => h) rfl HSb ?_
            try simp only [Act.put, List.setIfInBounds_toArray, List.set_cons_zero, List.set_cons_succ]
            refine held_skip (i := 28) rfl (by kernel_rfl) (by kernel_rfl) (by kernel_rfl) (fun _ _ _ h => h) rfl HSb ?_
            try simp only [Act.put, List.setIfInBounds_toArray, List.set_cons_zero, List.set_cons_succ]
            refine held_skip (i := 29) rfl (by kernel_rfl) (by kernel_rfl) (by kernel_rfl) (fun _ _ _ h => h) rfl HSb ?_
            try simp only [Act.put, List.setIfInBounds_toArray, List.set_cons_zero, List.set_cons_succ]
            refine held_skip (i := 30) rfl (by kernel_rfl) (by kernel_rfl) (by kernel_rfl) (fun _ _ _ h => h) rfl HSb ?_
            try simp only [Act.put, List.setIfInBounds_toArray, List.set_cons_zero, List.set_cons_succ]
            refine held_skip (i := 31) rfl (by kernel_rfl) (by kernel_rfl) (by kernel_rfl) (fun _ _ _ h => h) rfl HSb ?_
            try simp only [Act.put, List.setIfInBounds_toArray, List.set_cons_zero, List.set_cons_succ]
            refine held_take (i := 32) (v := ?vz32) rfl (by kernel_rfl) (by kernel_rfl) (by kernel_rfl) (fun _ _ _ h => h) rfl ?hyz32 HSb ?restz32
            case hyz32 => (intro wx hSx; obtain ⟨y2, yl⟩ := HZ2.out _ hSx; obtain ⟨hbl, he0, he1, he2, he3, he4⟩ := HG1.out _ hSx; go_simp; try with_reducible rfl)
            try simp only [Act.put, List.setIfInBounds_toArray, List.set_cons_zero, List.set_cons_succ]
            refine held_take (i := 33) (v := ?vz33) rfl (by kernel_rfl) (by kernel_rfl) (by kernel_rfl) (fun _ _ _ h => h) rfl ?hyz33 HSb ?restz33
            case hyz33 => (intro wx hSx; obtain ⟨y2, yl⟩ := HZ2.out _ hSx; obtain ⟨hbl, he0, he1, he2, he3, he4⟩ := HG1.out _ hSx; go_simp; try with_reducible rfl)
            try simp only [Act.put, List.setIfInBounds_toArray, List.set_cons_zero, List.set_cons_succ]
            refine wpAnyH_done (by kernel_rfl) ?_ _
            refine NoPanic.normal ?_
            have HQ1 : Hid (WsIs y1 (.slice (some ⟨g, og, none⟩) n c) S ∧ Ext W y1) := ⟨HQ.out.1.ext HSb, HQ.out.2.trans HSb⟩
            clear HS HSb
            go_wp2_with fail
            go_loopw [9] (fun u9 wq => ∃ k : Nat, k ≤ i ∧ u9 = .int .i64 k ∧ Hid (WsIs wq (.slice (some ⟨g, og, none⟩) n c) S ∧ Ext W wq)) (fun u9 _ => i - (intOf u9).toNat)
            case atStart => exact ⟨0, Nat.zero_le _, rfl, HQ1⟩
            case round =>
              clear HQ1 HQ HG1 HZ2 HCk
              obtain ⟨k, hk, rfl, HQk⟩ := hrel
              by_cases hlk : k < i
              · obtain ⟨s1, s0, sw⟩ := lp_nums k i hlk (by have := Hlen.out; omega)
                obtain ⟨y, hy⟩ : ∃ y, S[k]? = some y := ⟨S[k]'(by rw [HSn.out]; omega), List.getElem?_eq_getElem _⟩
                have s2 : (k : Int) < (n : Int) := by omega
                have s3 : k < n := by omega
                have HL2 : WsIs wr (.slice (some ⟨g, og, none⟩) S.length c) S := by
                  have := HQk.out.1
                  rw [← HSn.out] at this
                  exact this
                obtain ⟨g2, og2, ea2, hbl2, he0, he1, he2, he3, he4⟩ := HL2.get hy
                injection ea2 with ea2
                injection ea2 with ea3 ea4
                subst ea3 ea4
                obtain ⟨g3, og3, ea5, hbl3, hf0, hf1, hf2, hf3, hf4⟩ := HL2.get Hx.out
                injection ea5 with ea5
                injection ea5 with ea6 ea7
                subst ea6 ea7
                clear HL2 he1 he3 he4 hf1 hf3 hf4
                have Hd : Hid (¬ (y.kd = x.kd ∧ y.rd = x.rd)) := pw_lt HSd.out.df hlk hy Hx.out
                have HRq : Hid (∀ q, WsIs (wr.drewN q) (.slice (some ⟨g, og, none⟩) n c) S ∧ Ext W (wr.drewN q)) := fun q => ⟨HQk.out.1.ext ((Ext.refl wr).drewN q), HQk.out.2.trans ((Ext.refl wr).drewN q)⟩
                clear hy HQk
                by_cases hkd : y.kd = x.kd
                · have b1 : (y.kd == x.kd) = true := by simpa using hkd
                  have b2 : (y.rd == x.rd) = false := by simpa using fun q => Hd.out ⟨hkd, q⟩
                  clear hkd Hd
                  go_wp2_with fail
                  go_quiet (fail)
                  go_wp2_with fail
                  go_roundw
                  case rel => exact ⟨k + 1, hlk, by push_cast; rfl, HRq.out _⟩
                  case measure => exact lp_meas hlk
                · have b1 : (y.kd == x.kd) = false := by simpa using hkd
                  clear hkd Hd
                  go_wp2_with fail
                  go_quiet (fail)
                  go_wp2_with fail
                  go_roundw
                  case rel => exact ⟨k + 1, hlk, by push_cast; rfl, HRq.out _⟩
                  case measure => exact lp_meas hlk
              · obtain rfl : k = i := by omega
                have hnl : ¬ (k : Int) < (k : Int) := by omega
                go_wp2_with fail
                go_roundw
                case rel => exact ⟨k + 1, hlt, by push_cast; rfl, HQk⟩
                case measure => exact Hm.out
          · have d0 : decide (0 < i) = true := decide_eq_true (by omega)
            obtain ⟨j, hj⟩ : ∃ j, i = j + 1 := ⟨i - 1, by omega⟩
            have jw : IntKind.i64.wrap ((i : Int) - 1) = (j : Int) := by have := Hlen.out; rw [IntKind.wrap_i64]; omega
            have jn : (j : Int) < (n : Int) := by omega
            have j0 : (0 : Int) ≤ (j : Int) := by omega
            have jnn : j < n := by omega
            obtain ⟨y, hy⟩ : ∃ y, S[j]? = some y := ⟨S[j]'(by rw [HSn.out]; omega), List.getElem?_eq_getElem _⟩
            have HL2 : WsIs wr (.slice (some ⟨g, og, none⟩) S.length c) S := by
              have := HQ.out.1
              rw [← HSn.out] at this
              exact this
            obtain ⟨g2, og2, ea2, hbl2, hf0, hf1, hf2, hf3, hf4⟩ := HL2.get hy
            injection ea2 with ea2
            injection ea2 with ea3 ea4
            subst ea3 ea4
            have HG2 : Hid (∀ wx, Ext wr wx → g < wx.heap.size ∧ wx.cell? ⟨g, og + j * 5 + 2, none⟩ = some (.int .i64 y.rd)) := fun wx hw => ⟨Nat.lt_of_lt_of_le hbl2 hw.size, later hw hf2⟩
            have dy : decide (x.rd < y.rd) = false := decide_eq_false (by have := pw_lt HSd.out.up (show j < i by omega) hy Hx.out; omega)
            clear hz hj hy HL2 hbl2 hf0 hf1 hf2 hf3 hf4
            go_wp2_with fail
            refine wp_region_noPanic ?_
            refine wp_region_held (S := Ext wr) (by kernel_rfl) ?_
            rw [show ({ wr with drawn := wr.drawn + 1 } : World) = wr.drew from rfl]
            have HS : Ext wr wr.drew := (Ext.refl wr).drew
            refine held_take (i := 0) (v := ?vy0) rfl (by kernel_rfl) (by kernel_rfl) (by kernel_rfl) (fun _ _ _ h => h) rfl ?hyy0 HS ?resty0
            case hyy0 => (intro wx hSx; obtain ⟨y2, yl⟩ := HZ2.out _ hSx; obtain ⟨hbl, he0, he1, he2, he3, he4⟩ := HG1.out _ hSx; obtain ⟨hbl2, hf2⟩ := HG2.out _ hSx; go_simp; try with_reducible rfl)
            try simp only [Act.put, List.setIfInBounds_toArray, List.set_cons_zero, List.set_cons_succ]
            refine held_take (i := 1) (v := ?vy1) rfl (by kernel_rfl) (by kernel_rfl) (by kernel_rfl) (fun _ _ _ h => h) rfl ?hyy1 HS ?resty1
            case hyy1 => (intro wx hSx; obtain ⟨y2, yl⟩ := HZ2.out _ hSx; obtain ⟨hbl, he0, he1, he2, he3, he4⟩ := HG1.out _ hSx; obtain ⟨hbl2, hf2⟩ := HG2.out _ hSx; go_simp; try with_reducible rfl)
            try simp only [Act.put, List.setIfInBounds_toArray, List.set_cons_zero, List.set_cons_succ]
            refine held_take (i := 2) (v := ?vy2) rfl (by kernel_rfl) (by kernel_rfl) (by kernel_rfl) (fun _ _ _ h => h) rfl ?hyy2 HS ?resty2
            case hyy2 => (intro wx hSx; obtain ⟨y2, yl⟩ := HZ2.out _ hSx; obtain ⟨hbl, he0, he1, he2, he3, he4⟩ := HG1.out _ hSx; obtain ⟨hbl2, hf2⟩ := HG2.out _ hSx; go_simp; try with_reducible rfl)
            try simp only [Act.put, List.setIfInBounds_toArray, List.set_cons_zero, List.set_cons_succ]
            refine held_take (i := 3) (v := ?vy3) rfl (by kernel_rfl) (by kernel_rfl) (by kernel_rfl) (fun _ _ _ h => h) rfl ?hyy3 HS ?resty3
            case hyy3 => (intro wx hSx; obtain ⟨y2, yl⟩ := HZ2.out _ hSx; obtain ⟨hbl, he0, he1, he2, he3, he4⟩ := HG1.out _ hSx; obtain ⟨hbl2, hf2⟩ := HG2.out _ hSx; go_simp; try with_reducible rfl)
            try simp only [Act.put, List.setIfInBounds_toArray, List.set_cons_zero, List.set_cons_succ]
            refine held_take (i := 4) (v := ?vy4) rfl (by kernel_rfl) (by kernel_rfl) (by kernel_rfl) (fun _ _ _ h => h) rfl ?hyy4 HS ?resty4
            case hyy4 => (intro wx hSx; obtain ⟨y2, yl⟩ := HZ2.out _ hSx; obtain ⟨hbl, he0, he1, he2, he3, he4⟩ := HG1.out _ hSx; obtain ⟨hbl2, hf2⟩ := HG2.out _ hSx; go_simp; try with_reducible rfl)
            try simp only [Act.put, List.setIfInBounds_toArray, List.set_cons_zero, List.set_cons_succ]
            refine held_take (i := 5) (v := ?vy5) rfl (by kernel_rfl) (by kernel_rfl) (by kernel_rfl) (fun _ _ _ h => h) rfl ?hyy5 HS ?resty5
            case hyy5 => (intro wx hSx; obtain ⟨y2, yl⟩ := HZ2.out _ hSx; obtain ⟨hbl, he0, he1, he2, he3, he4⟩ := HG1.out _ hSx; obtain ⟨hbl2, hf2⟩ := HG2.out _ hSx; go_simp; try with_reducible rfl)
            try simp only [Act.put, List.setIfInBounds_toArray, List.set_cons_zero, List.set_cons_succ]
            refine held_take (i := 6) (v := ?vy6) rfl (by kernel_rfl) (by kernel_rfl) (by kernel_rfl) (fun _ _ _ h => h) rfl ?hyy6 HS ?resty6
            case hyy6 => (intro wx hSx; obtain ⟨y2, yl⟩ := HZ2.out _ hSx; obtain ⟨hbl, he0, he1, he2, he3, he4⟩ := HG1.out _ hSx; obtain ⟨hbl2, hf2⟩ := HG2.out _ hSx; go_simp; try with_reducible rfl)
            try simp only [Act.put, List.setIfInBounds_toArray, List.set_cons_zero, List.set_cons_succ]
            refine held_take (i := 7) (v := ?vy7) rfl (by kernel_rfl) (by kernel_rfl) (by kernel_rfl) (fun _ _ _ h => h) rfl ?hyy7 HS ?resty7
            case hyy7 => (intro wx hSx; obtain ⟨y2, yl⟩ := HZ2.out _ hSx; obtain ⟨hbl, he0, he1, he2, he3, he4⟩ := HG1.out _ hSx; obtain ⟨hbl2, hf2⟩ := HG2.out _ hSx; go_simp; try with_reducible rfl)
            try simp only [Act.put, List.setIfInBounds_toArray, List.set_cons_zero, List.set_cons_succ]
            refine held_take (i := 8) (v := ?vy8) rfl (by kernel_rfl) (by kernel_rfl) (by kernel_rfl) (fun _ _ _ h => h) rfl ?hyy8 HS ?resty8
            case hyy8 => (intro wx hSx; obtain ⟨y2, yl⟩ := HZ2.out _ hSx; obtain ⟨hbl, he0, he1, he2, he3, he4⟩ := HG1.out _ hSx; obtain ⟨hbl2, hf2⟩ := HG2.out _ hSx; go_simp; try with_reducible rfl)
            try simp only [Act.put, List.setIfInBounds_toArray, List.set_cons_zero, List.set_cons_succ]
            refine held_take (i := 9) (v := ?vy9) rfl (by kernel_rfl) (by kernel_rfl) (by kernel_rfl) (fun _ _ _ h => h) rfl ?hyy9 HS ?resty9
            case hyy9 => (intro wx hSx; obtain ⟨y2, yl⟩ := HZ2.out _ hSx; obtain ⟨hbl, he0, he1, he2, he3, he4⟩ := HG1.out _ hSx; obtain ⟨hbl2, hf2⟩ := HG2.out _ hSx; go_simp; try with_reducible rfl)
            try simp only [Act.put, List.setIfInBounds_toArray, List.set_cons_zero, List.set_cons_succ]
            refine held_take (i := 10) (v := ?vy10) rfl (by kernel_rfl) (by kernel_rfl) (by kernel_rfl) (fun _ _ _ h => h) rfl ?hyy10 HS ?resty10
            case hyy10 => (intro wx hSx; obtain ⟨y2, yl⟩ := HZ2.out _ hSx; obtain ⟨hbl, he0, he1, he2, he3, he4⟩ := HG1.out _ hSx; obtain ⟨hbl2, hf2⟩ := HG2.out _ hSx; go_simp; try with_reducible rfl)
            try simp only [Act.put, List.setIfInBounds_toArray, List.set_cons_zero, List.set_cons_succ]
            refine held_take (i := 11) (v := ?vy11) rfl (by kernel_rfl) (by kernel_rfl) (by kernel_rfl) (fun _ _ _ h => h) rfl ?hyy11 HS ?resty11
            case hyy11 => (intro wx hSx; obtain ⟨y2, yl⟩ := HZ2.out _ hSx; obtain ⟨hbl, he0, he1, he2, he3, he4⟩ := HG1.out _ hSx; obtain ⟨hbl2, hf2⟩ := HG2.out _ hSx; go_simp; try with_reducible rfl)
            try simp only [Act.put, List.setIfInBounds_toArray, List.set_cons_zero, List.set_cons_succ]
            refine held_take (i := 12) (v := ?vy12) rfl (by kernel_rfl) (by kernel_rfl) (by kernel_rfl) (fun _ _ _ h => h) rfl ?hyy12 HS ?resty12
            case hyy12 => (intro wx hSx; obtain ⟨y2, yl⟩ := HZ2.out _ hSx; obtain ⟨hbl, he0, he1, he2, he3, he4⟩ := HG1.out _ hSx; obtain ⟨hbl2, hf2⟩ := HG2.out _ hSx; go_simp; try with_reducible rfl)
            try simp only [Act.put, List.setIfInBounds_toArray, List.set_cons_zero, List.set_cons_succ]
            refine held_one (i := 13) (by kernel_rfl) rfl rfl (fun K hK => ?_)
            go_simp
            refine (HCk.out _).mono ?_
            rintro e y1 ⟨rfl, HX⟩
            have HSb : Ext wr y1 := HS.trans HX
            clear HX
            try go_simp
            refine hK.out _ _ ⟨HSb, ?_⟩
            clear hK K
            try simp only [Act.put, List.setIfInBounds_toArray, List.set_cons_zero, List.set_cons_succ]
            refine held_take (i := 14) (v := ?vy14) rfl (by kernel_rfl) (by kernel_rfl) (by kernel_rfl) (fun _ _ _ h => h) rfl ?hyy14 HSb ?resty14
            case hyy14 => (intro wx hSx; obtain ⟨y2, yl⟩ := HZ2.out _ hSx; obtain ⟨hbl, he0, he1, he2, he3, he4⟩ := HG1.out _ hSx; obtain ⟨hbl2, hf2⟩ := HG2.out _ hSx; go_simp; try with_reducible rfl)
            try simp only [Act.put, List.setIfInBounds_toArray, List.set_cons_zero, List.set_cons_succ]
            refine held_take (i := 15) (v := ?vy15) rfl (by kernel_rfl) (by kernel_rfl) (by kernel_rfl) (fun _ _ _ h => h) rfl ?hyy15 HSb ?resty15
            case hyy15 => (intro wx hSx; obtain ⟨y2, yl⟩ := HZ2.out _ hSx; obtain ⟨hbl, he0, he1, he2, he3, he4⟩ := HG1.out _ hSx; obtain ⟨hbl2, hf2⟩ := HG2.out _ hSx; go_simp; try with_reducible rfl)
            try simp only [Act.put, List.setIfInBounds_toArray, List.set_cons_zero, List.set_cons_succ]
            refine held_take (i := 16) (v := ?vy16) rfl (by kernel_rfl) (by kernel_rfl) (by kernel_rfl) (fun _ _ _ h => h) rfl ?hyy16 HSb ?resty16
            case hyy16 => (intro wx hSx; obtain ⟨y2, yl⟩ := HZ2.out _ hSx; obtain ⟨hbl, he0, he1, he2, he3, he4⟩ := HG1.out _ hSx; obtain ⟨hbl2, hf2⟩ := HG2.out _ hSx; go_simp; try with_reducible rfl)
            try simp only [Act.put, List.setIfInBounds_toArray, List.set_cons_zero, List.set_cons_succ]
            refine held_take (i := 17) (v := ?vy17) rfl (by kernel_rfl) (by kernel_rfl) (by kernel_rfl) (fun _ _ _ h => h) rfl ?hyy17 HSb ?resty17
            case hyy17 => (intro wx hSx; obtain ⟨y2, yl⟩ := HZ2.out _ hSx; obtain ⟨hbl, he0, he1, he2, he3, he4⟩ := HG1.out _ hSx; obtain ⟨hbl2, hf2⟩ := HG2.out _ hSx; go_simp; try with_reducible rfl)
            try simp only [Act.put, List.setIfInBounds_toArray, List.set_cons_zero, List.set_cons_succ]
            refine held_take (i := 18) (v := ?vy18) rfl (by kernel_rfl) (by kernel_rfl) (by kernel_rfl) (fun _ _ _ h => h) rfl ?hyy18 HSb ?resty18
            case hyy18 => (intro wx hSx; obtain ⟨y2, yl⟩ := HZ2.out _ hSx; obtain ⟨hbl, he0, he1, he2, he3, he4⟩ := HG1.out _ hSx; obtain ⟨hbl2, hf2⟩ := HG2.out _ hSx; go_simp; try with_reducible rfl)
            try simp only [Act.put, List.setIfInBounds_toArray, List.set_cons_zero, List.set_cons_succ]
            refine held_take (i := 19) (v := ?vy19) rfl (by kernel_rfl) (by kernel_rfl) (by kernel_rfl) (fun _ _ _ h => h) rfl ?hyy19 HSb ?resty19
            case hyy19 => (intro wx hSx; obtain ⟨y2, yl⟩ := HZ2.out _ hSx; obtain ⟨hbl, he0, he1, he2, he3, he4⟩ := HG1.out _ hSx; obtain ⟨hbl2, hf2⟩ := HG2.out _ hSx; go_simp; try with_reducible rfl)
            try simp only [Act.put, List.setIfInBounds_toArray, List.set_cons_zero, List.set_cons_succ]
            refine held_take (i := 20) (v := ?vy20) rfl (by kernel_rfl) (by kernel_rfl) (by kernel_rfl) (fun _ _ _ h => h) rfl ?hyy20 HSb ?resty20
            case hyy20 => (intro wx hSx; obtain ⟨y2, yl⟩ := HZ2.out _ hSx; obtain ⟨hbl, he0, he1, he2, he3, he4⟩ := HG1.out _ hSx; obtain ⟨hbl2, hf2⟩ := HG2.out _ hSx; go_simp; try with_reducible rfl)
            try simp only [Act.put, List.setIfInBounds_toArray, List.set_cons_zero, List.set_cons_succ]
            refine held_take (i := 21) (v := ?vy21) rfl (by kernel_rfl) (by kernel_rfl) (by kernel_rfl) (fun _ _ _ h => h) rfl ?hyy21 HSb ?resty21
            case hyy21 => (intro wx hSx; obtain ⟨y2, yl⟩ := HZ2.out _ hSx; obtain ⟨hbl, he0, he1, he2, he3, he4⟩ := HG1.out _ hSx; obtain ⟨hbl2, hf2⟩ := HG2.out _ hSx; go_simp; try with_reducible rfl)
            try simp only [Act.put, List.setIfInBounds_toArray, List.set_cons_zero, List.set_cons_succ]
            refine held_take (i := 22) (v := ?vy22) rfl (by kernel_rfl) (by kernel_rfl) (by kernel_rfl) (fun _ _ _ h => h) rfl ?hyy22 HSb ?resty22
            case hyy22 => (intro wx hSx; obtain ⟨y2, yl⟩ := HZ2.out _ hSx; obtain ⟨hbl, he0, he1, he2, he3, he4⟩ := HG1.out _ hSx; obtain ⟨hbl2, hf2⟩ := HG2.out _ hSx; go_simp; try with_reducible rfl)
            try simp only [Act.put, List.setIfInBounds_toArray, List.set_cons_zero, List.set_cons_succ]
            refine held_take (i := 23) (v := ?vy23) rfl (by kernel_rfl) (by kernel_rfl) (by kernel_rfl) (fun _ _ _ h => h) rfl ?hyy23 HSb ?resty23
            case hyy23 => (intro wx hSx; obtain ⟨y2, yl⟩ := HZ2.out _ hSx; obtain ⟨hbl, he0, he1, he2, he3, he4⟩ := HG1.out _ hSx; obtain ⟨hbl2, hf2⟩ := HG2.out _ hSx; go_simp; try with_reducible rfl)
            try simp only [Act.put, List.setIfInBounds_toArray, List.set_cons_zero, List.set_cons_succ]
            refine held_take (i := 24) (v := ?vy24) rfl (by kernel_rfl) (by kernel_rfl) (by kernel_rfl) (fun _ _ _ h => h) rfl ?hyy24 HSb ?resty24
            case hyy24 => (intro wx hSx; obtain ⟨y2, yl⟩ := HZ2.out _ hSx; obtain ⟨hbl, he0, he1, he2, he3, he4⟩ := HG1.out _ hSx; obtain ⟨hbl2, hf2⟩ := HG2.out _ hSx; go_simp; try with_reducible rfl)
            try simp only [Act.put, List.setIfInBounds_toArray, List.set_cons_zero, List.set_cons_succ]
            refine held_take (i := 25) (v := ?vy25) rfl (by kernel_rfl) (by kernel_rfl) (by kernel_rfl) (fun _ _ _ h => h) rfl ?hyy25 HSb ?resty25
            case hyy25 => (intro wx hSx; obtain ⟨y2, yl⟩ := HZ2.out _ hSx; obtain ⟨hbl, he0, he1, he2, he3, he4⟩ := HG1.out _ hSx; obtain ⟨hbl2, hf2⟩ := HG2.out _ hSx; go_simp; try with_reducible rfl)
            try simp only [Act.put, List.setIfInBounds_toArray, List.set_cons_zero, List.set_cons_succ]
            refine held_take (i := 26) (v := ?vy26) rfl (by kernel_rfl) (by kernel_rfl) (by kernel_rfl) (fun _ _ _ h => h) rfl ?hyy26 HSb ?resty26
            case hyy26 => (intro wx hSx; obtain ⟨y2, yl⟩ := HZ2.out _ hSx; obtain ⟨hbl, he0, he1, he2, he3, he4⟩ := HG1.out _ hSx; obtain ⟨hbl2, hf2⟩ := HG2.out _ hSx; go_simp; try with_reducible rfl)
            try simp only [Act.put, List.setIfInBounds_toArray, List.set_cons_zero, List.set_cons_succ]
            refine held_take (i := 27) (v := ?vy27) rfl (by kernel_rfl) (by kernel_rfl) (by kernel_rfl) (fun _ _ _ h => h) rfl ?hyy27 HSb ?resty27
            case hyy27 => (intro wx hSx; obtain ⟨y2, yl⟩ := HZ2.out _ hSx; obtain ⟨hbl, he0, he1, he2, he3, he4⟩ := HG1.out _ hSx; obtain ⟨hbl2, hf2⟩ := HG2.out _ hSx; go_simp; try with_reducible rfl)
            try simp only [Act.put, List.setIfInBounds_toArray, List.set_cons_zero, List.set_cons_succ]
            refine held_take (i := 28) (v := ?vy28) rfl (by kernel_rfl) (by kernel_rfl) (by kernel_rfl) (fun _ _ _ h => h) rfl ?hyy28 HSb ?resty28
            case hyy28 => (intro wx hSx; obtain ⟨y2, yl⟩ := HZ2.out _ hSx; obtain ⟨hbl, he0, he1, he2, he3, he4⟩ := HG1.out _ hSx; obtain ⟨hbl2, hf2⟩ := HG2.out _ hSx; go_simp; try with_reducible rfl)
            try simp only [Act.put, List.setIfInBounds_toArray, List.set_cons_zero, List.set_cons_succ]
            refine held_take (i := 29) (v := ?vy29) rfl (by kernel_rfl) (by kernel_rfl) (by kernel_rfl) (fun _ _ _ h => h) rfl ?hyy29 HSb ?resty29
            case hyy29 => (intro wx hSx; obtain ⟨y2, yl⟩ := HZ2.out _ hSx; obtain ⟨hbl, he0, he1, he2, he3, he4⟩ := HG1.out _ hSx; obtain ⟨hbl2, hf2⟩ := HG2.out _ hSx; go_simp; try with_reducible rfl)
            try simp only [Act.put, List.setIfInBounds_toArray, List.set_cons_zero, List.set_cons_succ]
            refine held_take (i := 30) (v := ?vy30) rfl (by kernel_rfl) (by kernel_rfl) (by kernel_rfl) (fun _ _ _ h => h) rfl ?hyy30 HSb ?resty30
            case hyy30 => (intro wx hSx; obtain ⟨y2, yl⟩ := HZ2.out _ hSx; obtain ⟨hbl, he0, he1, he2, he3, he4⟩ := HG1.out _ hSx; obtain ⟨hbl2, hf2⟩ := HG2.out _ hSx; go_simp; try with_reducible rfl)
            try simp only [Act.put, List.setIfInBounds_toArray, List.set_cons_zero, List.set_cons_succ]
            refine held_take (i := 31) (v := ?vy31) rfl (by kernel_rfl) (by kernel_rfl) (by kernel_rfl) (fun _ _ _ h => h) rfl ?hyy31 HSb ?resty31
            case hyy31 => (intro wx hSx; obtain ⟨y2, yl⟩ := HZ2.out _ hSx; obtain ⟨hbl, he0, he1, he2, he3, he4⟩ := HG1.out _ hSx; obtain ⟨hbl2, hf2⟩ := HG2.out _ hSx; go_simp; try with_reducible rfl)
            try simp only [Act.put, List.setIfInBounds_toArray, List.set_cons_zero, List.set_cons_succ]
            refine held_take (i := 32) (v := ?vy32) rfl (by kernel_rfl) (by kernel_rfl) (by kernel_rfl) (fun _ _ _ h => h) rfl ?hyy32 HSb ?resty32
            case hyy32 => (intro wx hSx; obtain ⟨y2, yl⟩ := HZ2.out _ hSx; obtain ⟨hbl, he0, he1, he2, he3, he4⟩ := HG1.out _ hSx; obtain ⟨hbl2, hf2⟩ := HG2.out _ hSx; go_simp; try with_reducible rfl)
            try simp only [Act.put, List.setIfInBounds_toArray, List.set_cons_zero, List.set_cons_succ]
            refine held_take (i := 33) (v := ?vy33) rfl (by kernel_rfl) (by kernel_rfl) (by kernel_rfl) (fun _ _ _ h => h) rfl ?hyy33 HSb ?resty33
            case hyy33 => (intro wx hSx; obtain ⟨y2, yl⟩ := HZ2.out _ hSx; obtain ⟨hbl, he0, he1, he2, he3, he4⟩ := HG1.out _ hSx; obtain ⟨hbl2, hf2⟩ := HG2.out _ hSx; go_simp; try with_reducible rfl)
            try simp only [Act.put, List.setIfInBounds_toArray, List.set_cons_zero, List.set_cons_succ]
            refine wpAnyH_done (by kernel_rfl) ?_ _
            refine NoPanic.normal ?_
            have HQ1 : Hid (WsIs y1 (.slice (some ⟨g, og, none⟩) n c) S ∧ Ext W y1) := ⟨HQ.out.1.ext HSb, HQ.out.2.trans HSb⟩
            clear HS HSb
            go_wp2_with fail
            go_loopw [9] (fun u9 wq => ∃ k : Nat, k ≤ i ∧ u9 = .int .i64 k ∧ Hid (WsIs wq (.slice (some ⟨g, og, none⟩) n c) S ∧ Ext W wq)) (fun u9 _ => i - (intOf u9).toNat)
            case atStart => exact ⟨0, Nat.zero_le _, rfl, HQ1⟩
            case round =>
              clear HQ1 HQ HG1 HZ2 HCk
              obtain ⟨k, hk, rfl, HQk⟩ := hrel
              by_cases hlk : k < i
              · obtain ⟨s1, s0, sw⟩ := lp_nums k i hlk (by have := Hlen.out; omega)
                obtain ⟨y, hy⟩ : ∃ y, S[k]? = some y := ⟨S[k]'(by rw [HSn.out]; omega), List.getElem?_eq_getElem _⟩
                have s2 : (k : Int) < (n : Int) := by omega
                have s3 : k < n := by omega
                have HL2 : WsIs wr (.slice (some ⟨g, og, none⟩) S.length c) S := by
                  have := HQk.out.1
                  rw [← HSn.out] at this
                  exact this
                obtain ⟨g2, og2, ea2, hbl2, he0, he1, he2, he3, he4⟩ := HL2.get hy
                injection ea2 with ea2
                injection ea2 with ea3 ea4
                subst ea3 ea4
                obtain ⟨g3, og3, ea5, hbl3, hf0, hf1, hf2, hf3, hf4⟩ := HL2.get Hx.out
                injection ea5 with ea5
                injection ea5 with ea6 ea7
                subst ea6 ea7
                clear HL2 he1 he3 he4 hf1 hf3 hf4
                have Hd : Hid (¬ (y.kd = x.kd ∧ y.rd = x.rd)) := pw_lt HSd.out.df hlk hy Hx.out
                have HRq : Hid (∀ q, WsIs (wr.drewN q) (.slice (some ⟨g, og, none⟩) n c) S ∧ Ext W (wr.drewN q)) := fun q => ⟨HQk.out.1.ext ((Ext.refl wr).drewN q), HQk.out.2.trans ((Ext.refl wr).drewN q)⟩
                clear hy HQk
                by_cases hkd : y.kd = x.kd
                · have b1 : (y.kd == x.kd) = true := by simpa using hkd
                  have b2 : (y.rd == x.rd) = false := by simpa using fun q => Hd.out ⟨hkd, q⟩
                  clear hkd Hd
                  go_wp2_with fail
                  go_quiet (fail)
                  go_wp2_with fail
                  go_roundw
                  case rel => exact ⟨k + 1, hlk, by push_cast; rfl, HRq.out _⟩
                  case measure => exact lp_meas hlk
                · have b1 : (y.kd == x.kd) = false := by simpa using hkd
                  clear hkd Hd
                  go_wp2_with fail
                  go_quiet (fail)
                  go_wp2_with fail
                  go_roundw
                  case rel => exact ⟨k + 1, hlk, by push_cast; rfl, HRq.out _⟩
                  case measure => exact lp_meas hlk
              · obtain rfl : k = i := by omega
                have hnl : ¬ (k : Int) < (k : Int) := by omega
                go_wp2_with fail
                go_roundw
                case rel => exact ⟨k + 1, hlt, by push_cast; rfl, HQk⟩
                case measure => exact Hm.out
        · obtain rfl : i = n := by omega
          have hnl : ¬ (i : Int) < (i : Int) := by omega
          go_wp2_with fail
          refine (awake_any _).mono ?_
          rintro e w5 ⟨rfl, HX⟩
          have HX2 : Hid (Ext w w5) := HE0.out.trans (HQ.out.2.trans HX)
          clear HX
          go_wp2_with fail
          go_ret
          exact ⟨rfl, HX2.out⟩
end Go.Proofs.Ytmanacbdldfmfaa
