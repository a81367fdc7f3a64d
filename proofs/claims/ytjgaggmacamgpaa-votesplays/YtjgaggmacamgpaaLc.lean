/-
  VotesPlays, called: true; nothing old is turned.
-/
import Derived.Test.YtjgaggmacamgpaaLb
namespace Go.Proofs.Ytjgaggmacamgpaa
open Go.RowKit
/-- What the law watches: the variable x, a word, the definition's row. -/
def pH (gx g1 : Nat) (u : Value) (k : Nat) : Prop := k = gx ∨ k = g1 ∨ u.ownBlock = some k
/-- Between two words: the votes, the variable x, the definition's row. -/
structure PS (w : World) (v : Value) (N T gx : Nat) (u : Value) (M : List Vt) (wr : World) : Prop where
  lv : LV w v N T M (pH gx gx u) wr
  bx : Blk wr gx 3 (rg N T u)
  row : wr.ownsRow 0 32 5 u M.length (wcs M)
  hx : w.heap.size ≤ gx
  ux : u.ownBlock ≠ some gx
/-- While a word is put: M: what the votes have; R: what the definition has. -/
structure PM (w : World) (v : Value) (N T gx g1 : Nat) (u : Value) (M R : List Vt) (kd fr rd va : Int) (vl : ByteArray) (wr : World) : Prop where
  lv : LV w v N T M (pH gx g1 u) wr
  bx : Blk wr gx 3 (rg N T u)
  bw : Blk wr g1 5 (wg kd fr rd va vl)
  row : wr.ownsRow 0 32 5 u R.length (wcs R)
  hx : w.heap.size ≤ gx
  ux : u.ownBlock ≠ some gx
section
variable {w W wy : World} {v : Value} {N T gx g1 : Nat} {u u2 : Value} {M R : List Vt} {kd fr rd va : Int} {vl : ByteArray}
theorem PS.ext (h : PS w v N T gx u M W) (hx : Ext W wy) : PS w v N T gx u M wy := ⟨h.lv.ext hx, h.bx.ext hx, own_ext h.row hx, h.hx, h.ux⟩
theorem PM.ext (h : PM w v N T gx g1 u M R kd fr rd va vl W) (hx : Ext W wy) : PM w v N T gx g1 u M R kd fr rd va vl wy := ⟨h.lv.ext hx, h.bx.ext hx, h.bw.ext hx, own_ext h.row hx, h.hx, h.ux⟩
theorem PM.cells (h : PM w v N T gx g1 u M R kd fr rd va vl W) : (W.cell? ⟨gx, 0, none⟩ = some (.int .i64 (N : Int)) ∧ W.cell? ⟨gx, 1, none⟩ = some (.int .i64 (T : Int)) ∧ W.cell? ⟨gx, 2, none⟩ = some u ∧ gx < W.heap.size) ∧ W.cell? ⟨g1, 0, none⟩ = some (.int .i64 kd) ∧ W.cell? ⟨g1, 1, none⟩ = some (.int .i64 fr) ∧ W.cell? ⟨g1, 2, none⟩ = some (.int .i64 rd) ∧ W.cell? ⟨g1, 3, none⟩ = some (.int .i64 va) ∧ W.cell? ⟨g1, 4, none⟩ = some (.string vl) ∧ g1 < W.heap.size :=
  ⟨⟨(h.bx.2 0 (by decide)).1, (h.bx.2 1 (by decide)).1, (h.bx.2 2 (by decide)).1, h.bx.1⟩, WB.cells h.bw⟩
/-- The word is laid, the definition put it, x is set. -/
theorem PS.begin (h : PS w v N T gx u M W) (hg : W.heap.size ≤ g1) (hx : Ext W wy) (hw : Blk wy g1 5 (wg kd fr rd va vl)) (hr : wy.ownsRow 0 32 5 u2 R.length (wcs R)) (hu : ∀ b, u2.ownBlock = some b → u.ownBlock = some b ∨ W.heap.size ≤ b) :
    PM w v N T gx g1 u2 M R kd fr rd va vl (put3 wy gx (.int .i64 (N : Int)) (.int .i64 (T : Int)) u2) := by
  have hgx := h.bx.1
  have hux : u2.ownBlock ≠ some gx := fun q => by
    rcases hu gx q with e | e
    · exact h.ux e
    · omega
  have h1 : LV w v N T M (pH gx g1 u2) wy := h.lv.more hx fun k q => by
    rcases q with rfl | rfl | q
    · exact ⟨.inl (.inl rfl), Nat.lt_of_lt_of_le hgx hx.size⟩
    · exact ⟨.inr hg, hw.1⟩
    · refine ⟨?_, (hr.lt k q).2⟩
      rcases hu k q with e | e
      · exact .inl (.inr (.inr e))
      · exact .inr e
  have hc : Chg (fun k => k = gx) wy (put3 wy gx (.int .i64 (N : Int)) (.int .i64 (T : Int)) u2) := Chg.st (.inl rfl) (Chg.st (.inl rfl) (Chg.st (.inl rfl) (Chg.refl _ wy)))
  obtain ⟨⟨G, q1, q2, q3⟩, q4, q5, q6⟩ := h1
  refine ⟨⟨⟨G, q1.far hc (fun k a b => q3 k a (.inl b)), q2, q3⟩, Chg.ext q4 (fun k e => by rw [e]; exact h.hx) hc, fun k q => Nat.lt_of_lt_of_le (q5 k q) hc.size, q6⟩, ?_, ?_, ?_, h.hx, hux⟩
  · refine ((((h.bx.ext hx).put (i := 0) (by decide) _).put (i := 1) (by decide) _).put (i := 2) (by decide) _).congr fun j hj => ?_
    have : j = 0 ∨ j = 1 ∨ j = 2 := by omega
    rcases this with rfl | rfl | rfl <;> rfl
  · exact hw.keep hc.size (hc.block g1 hw.1 (fun e => by omega))
  · exact own_setCell (own_setCell (own_setCell hr hux) hux) hux
/-- The votes have the word too. -/
theorem PM.put (h : PM w v N T gx g1 u M R kd fr rd va vl W) {m : Vt} {e : Ending} (hp : LputP w v N T M m (pH gx g1 u) W e wy) : e = .returned (.bool (okV N M m)) ∧ PM w v N T gx g1 u (putV N M m) R kd fr rd va vl wy := by
  obtain ⟨rfl, h1, h2, h3⟩ := hp
  exact ⟨rfl, h1, h.bx.keep h3 (h2 gx (.inl rfl)), h.bw.keep h3 (h2 g1 (.inr (.inl rfl))), own_keep h.row (fun k q => h2 k (.inr (.inr q))), h.hx, h.ux⟩
theorem PM.done (h : PM w v N T gx g1 u M M kd fr rd va vl W) : PS w v N T gx u M W :=
  ⟨h.lv.more (Ext.refl W) (fun k q => by
    rcases q with rfl | rfl | q
    · exact ⟨.inl (.inl rfl), h.bx.1⟩
    · exact ⟨.inl (.inl rfl), h.bx.1⟩
    · exact ⟨.inl (.inr (.inr q)), (h.row.lt k q).2⟩), h.bx, h.row, h.hx, h.ux⟩
end
set_option maxRecDepth 10000 in
set_option maxHeartbeats 8000000 in
theorem votesPlays_any (n t : Int) (v : Value) (L : List Vt) (hwf : ∀ m ∈ L, (Lit.int .i64 m.kd).wf = true ∧ (Lit.int .i64 m.rd).wf = true) (w : World) (hL : WsIs w v L) :
    Calls Try.prog 3 #[.int .i64 n, .int .i64 t, v] w fun e w' => e = .returned (.bool true) ∧ Ext w w' := by
  have HL0 : Hid (WsIs w v L) := hL
  obtain ⟨a, cap, rfl, _⟩ := hL
  have Hwf : Hid (∀ m ∈ L, (Lit.int .i64 m.kd).wf = true ∧ (Lit.int .i64 m.rd).wf = true) := hwf
  have HF : Hid (Calls Try.prog 7 #[.slice a L.length cap] w fun e w' => FewP L w e w') := few_any _ L w HL0.out
  obtain ⟨len, HN⟩ : ∃ n, Hid (L.length = n) := ⟨_, rfl⟩
  have HL := HL0
  rw [HN.out] at HL HF ⊢
  clear HL0 hwf
  by_cases hq : hasQ n t
  · obtain ⟨N, T, rfl, rfl⟩ := hasQ_nat hq
    have Hq : Hid (hasQ (N : Int) (T : Int)) := hq
    clear hq
    go_enter Try.func3, Try.ntmps3
    go_wp2_with fail
    refine HF.out.mono ?_
    rintro e w1 ⟨b, rfl, hb, HX⟩
    have HE1 : Hid (Ext w w1) := HX
    clear HX HF
    cases b with
    | false =>
      clear hb
      go_wp2_with fail
      refine (awake_any _).mono ?_
      rintro e w2 ⟨rfl, HX⟩
      have HE2 : Hid (Ext w w2) := HE1.out.trans HX
      clear HX
      go_wp2
      go_ret
      exact ⟨rfl, HE2.out⟩
    | true =>
      have Hn : Hid (len ≤ 60) := by have := hb rfl; rw [HN.out] at this; exact this
      clear hb
      go_wp2_with fail
      refine (lnew_any N T Hq.out w w1 HE1.out).mono ?_
      rintro e w2 ⟨va, rfl, HV, HX⟩
      have HV2 : Hid (LV w (.pointer (some va)) N T (plV N L 0) (fun _ => False) w2) := HV
      clear HV HX HE1
      go_wp2_with fail
      refine (rnew_good N T Hq.out w2).mono ?_
      rintro e w3 ⟨rfl, HX⟩
      have HV3 : Hid (LV w (.pointer (some va)) N T (plV N L 0) (fun _ => False) w3) := HV2.out.ext HX
      have HPS : Hid (PS w (.pointer (some va)) N T w3.heap.size (.slice none 0 0) (plV N L 0) (w3.alloc (.cells #[.int .i64 (N : Int), .int .i64 (T : Int), .slice none 0 0] 28))) := by
        refine ⟨HV3.out.more ((Ext.refl w3).alloc _) (fun k q => ?_), ?_, World.ownsRow_nil _ _ _ _, HV3.out.old.size, fun q => by cases q⟩
        · rcases q with rfl | rfl | q
          · exact ⟨.inr (Nat.le_refl _), by simp⟩
          · exact ⟨.inr (Nat.le_refl _), by simp⟩
          · cases q
        · exact Blk.new w3 _ _ (fun j hj => by
            have : j = 0 ∨ j = 1 ∨ j = 2 := by omega
            rcases this with rfl | rfl | rfl <;> rfl)
      clear HX HV2 HV3
      go_wp2_with fail
      generalize w3.alloc (.cells #[.int .i64 (N : Int), .int .i64 (T : Int), .slice none 0 0] 28) = w4 at *
      generalize w3.heap.size = gx at *
      go_loopw [10] (fun u10 wr => ∃ j : Nat, j ≤ len ∧ u10 = .int .i64 j ∧ Hid (∃ ua un uc, PS w (.pointer (some va)) N T gx (.slice ua un uc) (plV N L j) wr)) (fun u10 _ => len - (intOf u10).toNat)
      case atStart => exact ⟨0, Nat.zero_le _, rfl, ⟨none, 0, 0, HPS.out⟩⟩
      case round =>
        obtain ⟨j, hj, rfl, HP⟩ := hrel
        clear HPS
        obtain ⟨ua, un, uc, hp⟩ := HP.out
        have HP : Hid (PS w (.pointer (some va)) N T gx (.slice ua un uc) (plV N L j) wr) := hp
        clear hp
        by_cases hlt : j < len
        · obtain ⟨q1, q0, qw⟩ := lp_nums j len hlt (by have := Hn.out; omega)
          obtain ⟨m, hm⟩ : ∃ m, Hid (L[j]? = some m) := ⟨L[j]'(by rw [HN.out]; exact hlt), List.getElem?_eq_getElem _⟩
          have HL2 : WsIs wr (.slice a L.length cap) L := by rw [HN.out]; exact HL.out.ext HP.out.lv.old
          obtain ⟨g0, o, rfl, hbl, hd0, hd1, hd2, hd3, hd4⟩ := HL2.get hm.out
          clear HL2
          have Hm1 : Hid ((Lit.int .i64 m.kd).wf = true ∧ (Lit.int .i64 m.rd).wf = true) := Hwf.out m (List.mem_of_getElem? hm.out)
          have Hst : Hid (plV N L (j + 1) = putV N (plV N L j) m) := plV_step hm.out
          have Hln : Hid ((plV N L j).length ≤ 900) := by show _ ≤ _; have := plV_len N L j; have := Hn.out; omega
          clear hm
          obtain ⟨M, HM⟩ : ∃ M, Hid (plV N L j = M) := ⟨_, rfl⟩
          rw [HM.out] at HP Hst Hln
          obtain ⟨kd, fr, rd, va', vl⟩ := m
          have Hst : Hid (plV N L (j + 1) = putV N M ⟨kd, fr, rd, va', vl⟩) := Hst
          have Hk : Hid ((Lit.int .i64 kd).wf = true) := Hm1.out.1
          have Hr : Hid ((Lit.int .i64 rd).wf = true) := Hm1.out.2
          have hd0 : wr.cell? ⟨g0, o + j * 5, none⟩ = some (.int .i64 kd) := hd0
          have hd1 : wr.cell? ⟨g0, o + j * 5 + 1, none⟩ = some (.int .i64 fr) := hd1
          have hd2 : wr.cell? ⟨g0, o + j * 5 + 2, none⟩ = some (.int .i64 rd) := hd2
          have hd3 : wr.cell? ⟨g0, o + j * 5 + 3, none⟩ = some (.int .i64 va') := hd3
          have hd4 : wr.cell? ⟨g0, o + j * 5 + 4, none⟩ = some (.string vl) := hd4
          have x0 : wr.cell? ⟨gx, 0, none⟩ = some (.int .i64 (N : Int)) := (HP.out.bx.2 0 (by decide)).1
          have x1 : wr.cell? ⟨gx, 1, none⟩ = some (.int .i64 (T : Int)) := (HP.out.bx.2 1 (by decide)).1
          have x2 : wr.cell? ⟨gx, 2, none⟩ = some (.slice ua un uc) := (HP.out.bx.2 2 (by decide)).1
          have xl := HP.out.bx.1
          have HX1 : Hid (Ext wr (wr.alloc (.cells #[.int .i64 kd, .int .i64 fr, .int .i64 rd, .int .i64 va', .string vl] 32))) := (Ext.refl wr).alloc _
          have HB1 : Hid (Blk (wr.alloc (.cells #[.int .i64 kd, .int .i64 fr, .int .i64 rd, .int .i64 va', .string vl] 32)) wr.heap.size 5 (wg kd fr rd va' vl)) := WB.new wr kd fr rd va' vl
          have HRp : Hid (Calls Try.prog 11 #[rV N T (.slice ua un uc), .agg #[.int .i64 kd, .int .i64 fr, .int .i64 rd, .int .i64 va', .string vl]] (wr.alloc (.cells #[.int .i64 kd, .int .i64 fr, .int .i64 rd, .int .i64 va', .string vl] 32)) fun e w' => RpP N T M ⟨kd, fr, rd, va', vl⟩ (.slice ua un uc) (wr.alloc (.cells #[.int .i64 kd, .int .i64 fr, .int .i64 rd, .int .i64 va', .string vl] 32)) e w') := rput_any ⟨kd, fr, rd, va', vl⟩ _ (by have := Hln.out; omega) _ (own_ext HP.out.row HX1.out)
          clear Hm1 HM
          go_wp2_with fail
          refine HRp.out.mono ?_
          rintro e y2 ⟨u2, rfl, ho2, hu2, HX⟩
          obtain ⟨a2, c2, rfl⟩ := own_len ho2
          have HX2 : Hid (Ext wr y2) := HX1.out.trans HX
          have HB2 : Hid (Blk y2 wr.heap.size 5 (wg kd fr rd va' vl)) := HB1.out.ext HX
          generalize hn2 : (putV N M ⟨kd, fr, rd, va', vl⟩).length = n2 at *
          have HO2 : Hid (y2.ownsRow 0 32 5 (.slice a2 n2 c2) (putV N M ⟨kd, fr, rd, va', vl⟩).length (wcs (putV N M ⟨kd, fr, rd, va', vl⟩))) := by show World.ownsRow _ _ _ _ _ _ _; rw [hn2]; exact ho2
          have HU2 : Hid (∀ b, Value.ownBlock (.slice a2 n2 c2) = some b → Value.ownBlock (.slice ua un uc) = some b ∨ wr.heap.size ≤ b) := fun b q => by
            rcases hu2 b q with e | e
            · exact .inl e
            · refine .inr ?_; have := HX1.out.size; omega
          have Hn2 : Hid ((putV N M ⟨kd, fr, rd, va', vl⟩).length = n2) := hn2
          clear HX HX1 HB1 ho2 hu2 hn2 hd0 hd1 hd2 hd3 hd4 hbl x0 x1 x2 xl HRp
          have HPM : Hid (PM w (.pointer (some va)) N T gx wr.heap.size (.slice a2 n2 c2) M (putV N M ⟨kd, fr, rd, va', vl⟩) kd fr rd va' vl ((put3 y2 gx (.int .i64 (N : Int)) (.int .i64 (T : Int)) (.slice a2 n2 c2)).alloc (.cells #[.int .i64 (N : Int), .int .i64 (T : Int), .slice a2 n2 c2] 28))) := (HP.out.begin (Nat.le_refl _) HX2.out HB2.out HO2.out HU2.out).ext ((Ext.refl _).alloc _)
          have hgx : gx < y2.heap.size := (HP.out.bx.ext HX2.out).1
          have p0 : y2.cell? ⟨gx, 0, none⟩ = some (.int .i64 (N : Int)) := ((HP.out.bx.ext HX2.out).2 0 (by decide)).1
          have p1 : y2.cell? ⟨gx, 1, none⟩ = some (.int .i64 (T : Int)) := ((HP.out.bx.ext HX2.out).2 1 (by decide)).1
          have p2 : y2.cell? ⟨gx, 2, none⟩ = some (.slice ua un uc) := ((HP.out.bx.ext HX2.out).2 2 (by decide)).1
          have f0 : y2.frozen? ⟨gx, 0, none⟩ = false := ((HP.out.bx.ext HX2.out).2 0 (by decide)).2
          have f1 : y2.frozen? ⟨gx, 1, none⟩ = false := ((HP.out.bx.ext HX2.out).2 1 (by decide)).2
          have f2 : y2.frozen? ⟨gx, 2, none⟩ = false := ((HP.out.bx.ext HX2.out).2 2 (by decide)).2
          clear HX2 HB2 HO2 HU2 HP
          go_upto_region 13 with fail
          generalize (put3 y2 gx (.int .i64 (N : Int)) (.int .i64 (T : Int)) (.slice a2 n2 c2)).alloc (.cells #[.int .i64 (N : Int), .int .i64 (T : Int), .slice a2 n2 c2] 28) = y3 at *
          generalize wr.heap.size = g1 at *
          clear p0 p1 p2 f0 f1 f2 hgx
          obtain ⟨-, k0, k1, k2, k3, k4, kl⟩ := HPM.out.cells
          go_wp2_with fail
          clear k0 k1 k2 k3 k4 kl
          refine (lput_any kd fr rd va' vl (by have := Hln.out; omega) Hk.out Hr.out HPM.out.lv).mono ?_
          intro e y4 hlp
          obtain ⟨rfl, hpm⟩ := HPM.out.put hlp
          clear hlp
          have Hl2 : Hid ((putV N M ⟨kd, fr, rd, va', vl⟩).length ≤ 1000) := by show _ ≤ _; have := put_len N M ⟨kd, fr, rd, va', vl⟩; have := Hln.out; omega
          generalize okV N M ⟨kd, fr, rd, va', vl⟩ = ok at *
          generalize putV N M ⟨kd, fr, rd, va', vl⟩ = R at *
          have HM4 : Hid (PM w (.pointer (some va)) N T gx g1 (.slice a2 n2 c2) R R kd fr rd va' vl y4) := hpm
          clear hpm HPM
          obtain ⟨⟨x0, x1, x2, xl⟩, k0, k1, k2, k3, k4, kl⟩ := HM4.out.cells
          go_wp2_with fail
          refine (lmost_any Hk.out Hr.out HM4.out.lv).mono ?_
          rintro e y5 ⟨s, bo, rfl, hm1, HX⟩
          have HM5 : Hid (PM w (.pointer (some va)) N T gx g1 (.slice a2 n2 c2) R R kd fr rd va' vl y5) := HM4.out.ext HX
          clear HX HM4 x0 x1 x2 xl k0 k1 k2 k3 k4 kl
          obtain ⟨⟨x0, x1, x2, xl⟩, k0, k1, k2, k3, k4, kl⟩ := HM5.out.cells
          have HRm : Hid (∀ W, PM w (.pointer (some va)) N T gx g1 (.slice a2 n2 c2) R R kd fr rd va' vl W → Calls Try.prog 14 #[rV N T (.slice a2 n2 c2), .int .i64 kd, .int .i64 rd] W fun e w' => MostR N T R kd rd W e w') := fun W h => by
            have h1 := own_ws h.row
            rw [← Hn2.out] at h1 ⊢
            exact rmost_any Hq.out a2 c2 R kd rd Hl2.out W h1
          have HRc : Hid (∀ W, PM w (.pointer (some va)) N T gx g1 (.slice a2 n2 c2) R R kd fr rd va' vl W → Calls Try.prog 16 #[rV N T (.slice a2 n2 c2), .int .i64 kd, .int .i64 rd, .string vl] W fun e w' => e = .returned (.int .i64 (cntV R kd rd vl : Int)) ∧ Ext W w') := fun W h => by
            have h1 := own_ws h.row
            rw [← Hn2.out] at h1 ⊢
            exact rcount_any N T a2 c2 R kd rd vl Hl2.out W h1
          have HRa : Hid (∀ W, PM w (.pointer (some va)) N T gx g1 (.slice a2 n2 c2) R R kd fr rd va' vl W → Calls Try.prog 18 #[rV N T (.slice a2 n2 c2), .int .i64 kd, .int .i64 rd] W fun e w' => e = .returned (.int .i64 (anyV R kd rd : Int)) ∧ Ext W w') := fun W h => by
            have h1 := own_ws h.row
            rw [← Hn2.out] at h1 ⊢
            exact rany_any N T a2 c2 R kd rd Hl2.out W h1
          have HRh : Hid (∀ W, PM w (.pointer (some va)) N T gx g1 (.slice a2 n2 c2) R R kd fr rd va' vl W → Calls Try.prog 20 #[rV N T (.slice a2 n2 c2), .int .i64 rd] W fun e w' => e = .returned (.int .i64 (aheadV N T R rd)) ∧ Ext W w') := fun W h => by
            have h1 := own_ws h.row
            rw [← Hn2.out] at h1 ⊢
            exact rahead_any (n7 Hq.out) a2 c2 R rd Hl2.out W h1
          go_wp2_with fail
          refine (HRm.out _ HM5.out).mono ?_
          rintro e y6 ⟨s', bo', rfl, hm2, HX⟩
          obtain ⟨rfl, rfl⟩ := most_same HM5.out.lv.inv hm1 hm2
          have HM6 : Hid (PM w (.pointer (some va)) N T gx g1 (.slice a2 n2 c2) R R kd fr rd va' vl y6) := HM5.out.ext HX
          clear HX HM5 x0 x1 x2 xl k0 k1 k2 k3 k4 kl hm1 hm2 HRm
          go_wp2_with fail
          have HC : Hid (∀ W, Ext y6 W → (W.cell? ⟨gx, 0, none⟩ = some (.int .i64 (N : Int)) ∧ W.cell? ⟨gx, 1, none⟩ = some (.int .i64 (T : Int)) ∧ W.cell? ⟨gx, 2, none⟩ = some (.slice a2 n2 c2) ∧ gx < W.heap.size) ∧ W.cell? ⟨g1, 0, none⟩ = some (.int .i64 kd) ∧ W.cell? ⟨g1, 1, none⟩ = some (.int .i64 fr) ∧ W.cell? ⟨g1, 2, none⟩ = some (.int .i64 rd) ∧ W.cell? ⟨g1, 3, none⟩ = some (.int .i64 va') ∧ W.cell? ⟨g1, 4, none⟩ = some (.string vl) ∧ g1 < W.heap.size) := fun W hW => (HM6.out.ext hW).cells
          have HVc : Hid (∀ W, Ext y6 W → Calls Try.prog 15 #[.pointer (some va), .int .i64 kd, .int .i64 rd, .string vl] W fun e w' => e = .returned (.int .i64 (cntV R kd rd vl : Int)) ∧ Ext W w') := fun W h => lcount_any vl Hk.out Hr.out (HM6.out.ext h).lv
          have HVa : Hid (∀ W, Ext y6 W → Calls Try.prog 17 #[.pointer (some va), .int .i64 kd, .int .i64 rd] W fun e w' => e = .returned (.int .i64 (anyV R kd rd : Int)) ∧ Ext W w') := fun W h => lany_any Hk.out Hr.out (HM6.out.ext h).lv
          have HVh : Hid (∀ W, Ext y6 W → Calls Try.prog 19 #[.pointer (some va), .int .i64 rd] W fun e w' => e = .returned (.int .i64 (aheadV N T R rd)) ∧ Ext W w') := fun W h => lahead_any rd (HM6.out.ext h).lv
          have HFin : Hid (∀ W, Ext y6 W → PS w (.pointer (some va)) N T gx (.slice a2 n2 c2) (plV N L (j + 1)) W) := fun W h => by rw [Hst.out]; exact (HM6.out.ext h).done
          have HS : Ext y6 y6.drew := (Ext.refl y6).drew
          have HRc2 : Hid (∀ W, Ext y6 W → Calls Try.prog 16 #[rV N T (.slice a2 n2 c2), .int .i64 kd, .int .i64 rd, .string vl] W fun e w' => e = .returned (.int .i64 (cntV R kd rd vl : Int)) ∧ Ext W w') := fun W h => HRc.out W (HM6.out.ext h)
          have HRa2 : Hid (∀ W, Ext y6 W → Calls Try.prog 18 #[rV N T (.slice a2 n2 c2), .int .i64 kd, .int .i64 rd] W fun e w' => e = .returned (.int .i64 (anyV R kd rd : Int)) ∧ Ext W w') := fun W h => HRa.out W (HM6.out.ext h)
          have HRh2 : Hid (∀ W, Ext y6 W → Calls Try.prog 20 #[rV N T (.slice a2 n2 c2), .int .i64 rd] W fun e w' => e = .returned (.int .i64 (aheadV N T R rd)) ∧ Ext W w') := fun W h => HRh.out W (HM6.out.ext h)
          clear HRc HRa HRh Hst Hln HM6 Hn2 Hl2
          generalize cntV R kd rd vl = cc at *
          generalize anyV R kd rd = ca at *
          generalize aheadV N T R rd = ch at *
          refine wp_region_noPanic ?_
          refine wp_region_held (S := Ext y6) (by kernel_rfl) ?_
          rw [show ({ y6 with drawn := y6.drawn + 1 } : World) = y6.drew from rfl]
          refine held_take (i := 0) (v := ?va0) rfl (by kernel_rfl) (by kernel_rfl) (by kernel_rfl) (fun _ _ _ h => h) rfl ?hya0 HS ?resta0
          case hya0 => (intro wx hSx; go_simp; try with_reducible rfl)
          try simp only [Act.put, List.setIfInBounds_toArray, List.set_cons_zero, List.set_cons_succ]
          refine held_take (i := 1) (v := ?va1) rfl (by kernel_rfl) (by kernel_rfl) (by kernel_rfl) (fun _ _ _ h => h) rfl ?hya1 HS ?resta1
          case hya1 => (intro wx hSx; go_simp; try with_reducible rfl)
          try simp only [Act.put, List.setIfInBounds_toArray, List.set_cons_zero, List.set_cons_succ]
          refine held_take (i := 2) (v := ?va2) rfl (by kernel_rfl) (by kernel_rfl) (by kernel_rfl) (fun _ _ _ h => h) rfl ?hya2 HS ?resta2
          case hya2 => (intro wx hSx; go_simp; try with_reducible rfl)
          try simp only [Act.put, List.setIfInBounds_toArray, List.set_cons_zero, List.set_cons_succ]
          refine held_take (i := 3) (v := ?va3) rfl (by kernel_rfl) (by kernel_rfl) (by kernel_rfl) (fun _ _ _ h => h) rfl ?hya3 HS ?resta3
          case hya3 => (intro wx hSx; go_simp; try with_reducible rfl)
          try simp only [Act.put, List.setIfInBounds_toArray, List.set_cons_zero, List.set_cons_succ]
          refine held_take (i := 4) (v := ?va4) rfl (by kernel_rfl) (by kernel_rfl) (by kernel_rfl) (fun _ _ _ h => h) rfl ?hya4 HS ?resta4
          case hya4 => (intro wx hSx; go_simp; try with_reducible rfl)
          try simp only [Act.put, List.setIfInBounds_toArray, List.set_cons_zero, List.set_cons_succ]
          refine held_take (i := 5) (v := ?va5) rfl (by kernel_rfl) (by kernel_rfl) (by kernel_rfl) (fun _ _ _ h => h) rfl ?hya5 HS ?resta5
          case hya5 => (intro wx hSx; go_simp; try with_reducible rfl)
          try simp only [Act.put, List.setIfInBounds_toArray, List.set_cons_zero, List.set_cons_succ]
          refine held_take (i := 6) (v := ?va6) rfl (by kernel_rfl) (by kernel_rfl) (by kernel_rfl) (fun _ _ _ h => h) rfl ?hya6 HS ?resta6
          case hya6 => (intro wx hSx; go_simp; try with_reducible rfl)
          try simp only [Act.put, List.setIfInBounds_toArray, List.set_cons_zero, List.set_cons_succ]
          refine held_take (i := 7) (v := ?va7) rfl (by kernel_rfl) (by kernel_rfl) (by kernel_rfl) (fun _ _ _ h => h) rfl ?hya7 HS ?resta7
          case hya7 => (intro wx hSx; go_simp; try with_reducible rfl)
          try simp only [Act.put, List.setIfInBounds_toArray, List.set_cons_zero, List.set_cons_succ]
          refine held_take (i := 8) (v := ?va8) rfl (by kernel_rfl) (by kernel_rfl) (by kernel_rfl) (fun _ _ _ h => h) rfl ?hya8 HS ?resta8
          case hya8 => (intro wx hSx; go_simp; try with_reducible rfl)
          try simp only [Act.put, List.setIfInBounds_toArray, List.set_cons_zero, List.set_cons_succ]
          refine held_take (i := 9) (v := ?va9) rfl (by kernel_rfl) (by kernel_rfl) (by kernel_rfl) (fun _ _ _ h => h) rfl ?hya9 HS ?resta9
          case hya9 => (intro wx hSx; go_simp; try with_reducible rfl)
          try simp only [Act.put, List.setIfInBounds_toArray, List.set_cons_zero, List.set_cons_succ]
          refine held_take (i := 10) (v := ?va10) rfl (by kernel_rfl) (by kernel_rfl) (by kernel_rfl) (fun _ _ _ h => h) rfl ?hya10 HS ?resta10
          case hya10 => (intro wx hSx; go_simp; try with_reducible rfl)
          try simp only [Act.put, List.setIfInBounds_toArray, List.set_cons_zero, List.set_cons_succ]
          refine held_take (i := 11) (v := ?va11) rfl (by kernel_rfl) (by kernel_rfl) (by kernel_rfl) (fun _ _ _ h => h) rfl ?hya11 HS ?resta11
          case hya11 => (intro wx hSx; obtain ⟨⟨x0, x1, x2, xl⟩, k0, k1, k2, k3, k4, kl⟩ := HC.out _ hSx; go_simp; try with_reducible rfl)
          try simp only [Act.put, List.setIfInBounds_toArray, List.set_cons_zero, List.set_cons_succ]
          refine held_take (i := 12) (v := ?va12) rfl (by kernel_rfl) (by kernel_rfl) (by kernel_rfl) (fun _ _ _ h => h) rfl ?hya12 HS ?resta12
          case hya12 => (intro wx hSx; go_simp; try with_reducible rfl)
          try simp only [Act.put, List.setIfInBounds_toArray, List.set_cons_zero, List.set_cons_succ]
          refine held_take (i := 13) (v := ?va13) rfl (by kernel_rfl) (by kernel_rfl) (by kernel_rfl) (fun _ _ _ h => h) rfl ?hya13 HS ?resta13
          case hya13 => (intro wx hSx; obtain ⟨⟨x0, x1, x2, xl⟩, k0, k1, k2, k3, k4, kl⟩ := HC.out _ hSx; go_simp; try with_reducible rfl)
          try simp only [Act.put, List.setIfInBounds_toArray, List.set_cons_zero, List.set_cons_succ]
          refine held_take (i := 14) (v := ?va14) rfl (by kernel_rfl) (by kernel_rfl) (by kernel_rfl) (fun _ _ _ h => h) rfl ?hya14 HS ?resta14
          case hya14 => (intro wx hSx; go_simp; try with_reducible rfl)
          try simp only [Act.put, List.setIfInBounds_toArray, List.set_cons_zero, List.set_cons_succ]
          refine held_take (i := 15) (v := ?va15) rfl (by kernel_rfl) (by kernel_rfl) (by kernel_rfl) (fun _ _ _ h => h) rfl ?hya15 HS ?resta15
          case hya15 => (intro wx hSx; obtain ⟨⟨x0, x1, x2, xl⟩, k0, k1, k2, k3, k4, kl⟩ := HC.out _ hSx; go_simp; try with_reducible rfl)
          try simp only [Act.put, List.setIfInBounds_toArray, List.set_cons_zero, List.set_cons_succ]
          refine held_take (i := 17) (v := ?va17) rfl (by kernel_rfl) (by kernel_rfl) (by kernel_rfl) (fun _ _ _ h => h) rfl ?hya17 HS ?resta17
          case hya17 => (intro wx hSx; obtain ⟨⟨x0, x1, x2, xl⟩, k0, k1, k2, k3, k4, kl⟩ := HC.out _ hSx; go_simp; try with_reducible rfl)
          try simp only [Act.put, List.setIfInBounds_toArray, List.set_cons_zero, List.set_cons_succ]
          refine held_take (i := 18) (v := ?va18) rfl (by kernel_rfl) (by kernel_rfl) (by kernel_rfl) (fun _ _ _ h => h) rfl ?hya18 HS ?resta18
          case hya18 => (intro wx hSx; go_simp; try with_reducible rfl)
          try simp only [Act.put, List.setIfInBounds_toArray, List.set_cons_zero, List.set_cons_succ]
          refine held_take (i := 19) (v := ?va19) rfl (by kernel_rfl) (by kernel_rfl) (by kernel_rfl) (fun _ _ _ h => h) rfl ?hya19 HS ?resta19
          case hya19 => (intro wx hSx; obtain ⟨⟨x0, x1, x2, xl⟩, k0, k1, k2, k3, k4, kl⟩ := HC.out _ hSx; go_simp; try with_reducible rfl)
          try simp only [Act.put, List.setIfInBounds_toArray, List.set_cons_zero, List.set_cons_succ]
          refine held_take (i := 20) (v := ?va20) rfl (by kernel_rfl) (by kernel_rfl) (by kernel_rfl) (fun _ _ _ h => h) rfl ?hya20 HS ?resta20
          case hya20 => (intro wx hSx; go_simp; try with_reducible rfl)
          try simp only [Act.put, List.setIfInBounds_toArray, List.set_cons_zero, List.set_cons_succ]
          refine held_take (i := 21) (v := ?va21) rfl (by kernel_rfl) (by kernel_rfl) (by kernel_rfl) (fun _ _ _ h => h) rfl ?hya21 HS ?resta21
          case hya21 => (intro wx hSx; obtain ⟨⟨x0, x1, x2, xl⟩, k0, k1, k2, k3, k4, kl⟩ := HC.out _ hSx; go_simp; try with_reducible rfl)
          try simp only [Act.put, List.setIfInBounds_toArray, List.set_cons_zero, List.set_cons_succ]
          refine held_take (i := 22) (v := ?va22) rfl (by kernel_rfl) (by kernel_rfl) (by kernel_rfl) (fun _ _ _ h => h) rfl ?hya22 HS ?resta22
          case hya22 => (intro wx hSx; go_simp; try with_reducible rfl)
          try simp only [Act.put, List.setIfInBounds_toArray, List.set_cons_zero, List.set_cons_succ]
          refine held_take (i := 23) (v := ?va23) rfl (by kernel_rfl) (by kernel_rfl) (by kernel_rfl) (fun _ _ _ h => h) rfl ?hya23 HS ?resta23
          case hya23 => (intro wx hSx; obtain ⟨⟨x0, x1, x2, xl⟩, k0, k1, k2, k3, k4, kl⟩ := HC.out _ hSx; go_simp; try with_reducible rfl)
          try simp only [Act.put, List.setIfInBounds_toArray, List.set_cons_zero, List.set_cons_succ]
          refine held_one (i := 16) (by kernel_rfl) rfl rfl (fun K hK => ?_)
          go_simp
          refine (HVc.out _ HS).mono ?_
          rintro e v1 ⟨rfl, HX⟩
          have H1 := HS.trans HX
          clear HX
          try go_simp
          refine hK.out _ _ ⟨H1, ?_⟩
          clear hK K
          try simp only [Act.put, List.setIfInBounds_toArray, List.set_cons_zero, List.set_cons_succ]
          refine held_one (i := 24) (by kernel_rfl) rfl rfl (fun K hK => ?_)
          go_simp
          refine (HRc2.out _ H1).mono ?_
          rintro e v2 ⟨rfl, HX⟩
          have H2 := H1.trans HX
          clear HX
          try go_simp
          refine hK.out _ _ ⟨H2, ?_⟩
          clear hK K
          try simp only [Act.put, List.setIfInBounds_toArray, List.set_cons_zero, List.set_cons_succ]
          refine held_take (i := 25) (v := ?va25) rfl (by kernel_rfl) (by kernel_rfl) (by kernel_rfl) (fun _ _ _ h => h) rfl ?hya25 H2 ?resta25
          case hya25 => (intro wx hSx; go_simp; try with_reducible rfl)
          try simp only [Act.put, List.setIfInBounds_toArray, List.set_cons_zero, List.set_cons_succ]
          refine held_take (i := 26) (v := ?va26) rfl (by kernel_rfl) (by kernel_rfl) (by kernel_rfl) (fun _ _ _ h => h) rfl ?hya26 H2 ?resta26
          case hya26 => (intro wx hSx; go_simp; try with_reducible rfl)
          try simp only [Act.put, List.setIfInBounds_toArray, List.set_cons_zero, List.set_cons_succ]
          refine held_take (i := 27) (v := ?va27) rfl (by kernel_rfl) (by kernel_rfl) (by kernel_rfl) (fun _ _ _ h => h) rfl ?hya27 H2 ?resta27
          case hya27 => (intro wx hSx; go_simp; try with_reducible rfl)
          try simp only [Act.put, List.setIfInBounds_toArray, List.set_cons_zero, List.set_cons_succ]
          refine held_take (i := 28) (v := ?va28) rfl (by kernel_rfl) (by kernel_rfl) (by kernel_rfl) (fun _ _ _ h => h) rfl ?hya28 H2 ?resta28
          case hya28 => (intro wx hSx; go_simp; try with_reducible rfl)
          try simp only [Act.put, List.setIfInBounds_toArray, List.set_cons_zero, List.set_cons_succ]
          refine held_take (i := 29) (v := ?va29) rfl (by kernel_rfl) (by kernel_rfl) (by kernel_rfl) (fun _ _ _ h => h) rfl ?hya29 H2 ?resta29
          case hya29 => (intro wx hSx; go_simp; try with_reducible rfl)
          try simp only [Act.put, List.setIfInBounds_toArray, List.set_cons_zero, List.set_cons_succ]
          refine held_take (i := 30) (v := ?va30) rfl (by kernel_rfl) (by kernel_rfl) (by kernel_rfl) (fun _ _ _ h => h) rfl ?hya30 H2 ?resta30
          case hya30 => (intro wx hSx; obtain ⟨⟨x0, x1, x2, xl⟩, k0, k1, k2, k3, k4, kl⟩ := HC.out _ hSx; go_simp; try with_reducible rfl)
          try simp only [Act.put, List.setIfInBounds_toArray, List.set_cons_zero, List.set_cons_succ]
          refine held_take (i := 31) (v := ?va31) rfl (by kernel_rfl) (by kernel_rfl) (by kernel_rfl) (fun _ _ _ h => h) rfl ?hya31 H2 ?resta31
          case hya31 => (intro wx hSx; go_simp; try with_reducible rfl)
          try simp only [Act.put, List.setIfInBounds_toArray, List.set_cons_zero, List.set_cons_succ]
          refine held_take (i := 32) (v := ?va32) rfl (by kernel_rfl) (by kernel_rfl) (by kernel_rfl) (fun _ _ _ h => h) rfl ?hya32 H2 ?resta32
          case hya32 => (intro wx hSx; obtain ⟨⟨x0, x1, x2, xl⟩, k0, k1, k2, k3, k4, kl⟩ := HC.out _ hSx; go_simp; try with_reducible rfl)
          try simp only [Act.put, List.setIfInBounds_toArray, List.set_cons_zero, List.set_cons_succ]
          refine held_take (i := 34) (v := ?va34) rfl (by kernel_rfl) (by kernel_rfl) (by kernel_rfl) (fun _ _ _ h => h) rfl ?hya34 H2 ?resta34
          case hya34 => (intro wx hSx; obtain ⟨⟨x0, x1, x2, xl⟩, k0, k1, k2, k3, k4, kl⟩ := HC.out _ hSx; go_simp; try with_reducible rfl)
          try simp only [Act.put, List.setIfInBounds_toArray, List.set_cons_zero, List.set_cons_succ]
          refine held_take (i := 35) (v := ?va35) rfl (by kernel_rfl) (by kernel_rfl) (by kernel_rfl) (fun _ _ _ h => h) rfl ?hya35 H2 ?resta35
          case hya35 => (intro wx hSx; go_simp; try with_reducible rfl)
          try simp only [Act.put, List.setIfInBounds_toArray, List.set_cons_zero, List.set_cons_succ]
          refine held_take (i := 36) (v := ?va36) rfl (by kernel_rfl) (by kernel_rfl) (by kernel_rfl) (fun _ _ _ h => h) rfl ?hya36 H2 ?resta36
          case hya36 => (intro wx hSx; obtain ⟨⟨x0, x1, x2, xl⟩, k0, k1, k2, k3, k4, kl⟩ := HC.out _ hSx; go_simp; try with_reducible rfl)
          try simp only [Act.put, List.setIfInBounds_toArray, List.set_cons_zero, List.set_cons_succ]
          refine held_take (i := 37) (v := ?va37) rfl (by kernel_rfl) (by kernel_rfl) (by kernel_rfl) (fun _ _ _ h => h) rfl ?hya37 H2 ?resta37
          case hya37 => (intro wx hSx; go_simp; try with_reducible rfl)
          try simp only [Act.put, List.setIfInBounds_toArray, List.set_cons_zero, List.set_cons_succ]
          refine held_take (i := 38) (v := ?va38) rfl (by kernel_rfl) (by kernel_rfl) (by kernel_rfl) (fun _ _ _ h => h) rfl ?hya38 H2 ?resta38
          case hya38 => (intro wx hSx; obtain ⟨⟨x0, x1, x2, xl⟩, k0, k1, k2, k3, k4, kl⟩ := HC.out _ hSx; go_simp; try with_reducible rfl)
          try simp only [Act.put, List.setIfInBounds_toArray, List.set_cons_zero, List.set_cons_succ]
          refine held_one (i := 33) (by kernel_rfl) rfl rfl (fun K hK => ?_)
          go_simp
          refine (HVa.out _ H2).mono ?_
          rintro e v3 ⟨rfl, HX⟩
          have H3 := H2.trans HX
          clear HX
          try go_simp
          refine hK.out _ _ ⟨H3, ?_⟩
          clear hK K
          try simp only [Act.put, List.setIfInBounds_toArray, List.set_cons_zero, List.set_cons_succ]
          refine held_one (i := 39) (by kernel_rfl) rfl rfl (fun K hK => ?_)
          go_simp
          refine (HRa2.out _ H3).mono ?_
          rintro e v4 ⟨rfl, HX⟩
          have H4 := H3.trans HX
          clear HX
          try go_simp
          refine hK.out _ _ ⟨H4, ?_⟩
          clear hK K
          try simp only [Act.put, List.setIfInBounds_toArray, List.set_cons_zero, List.set_cons_succ]
          refine held_take (i := 40) (v := ?va40) rfl (by kernel_rfl) (by kernel_rfl) (by kernel_rfl) (fun _ _ _ h => h) rfl ?hya40 H4 ?resta40
          case hya40 => (intro wx hSx; go_simp; try with_reducible rfl)
          try simp only [Act.put, List.setIfInBounds_toArray, List.set_cons_zero, List.set_cons_succ]
          refine held_take (i := 41) (v := ?va41) rfl (by kernel_rfl) (by kernel_rfl) (by kernel_rfl) (fun _ _ _ h => h) rfl ?hya41 H4 ?resta41
          case hya41 => (intro wx hSx; go_simp; try with_reducible rfl)
          try simp only [Act.put, List.setIfInBounds_toArray, List.set_cons_zero, List.set_cons_succ]
          refine held_take (i := 42) (v := ?va42) rfl (by kernel_rfl) (by kernel_rfl) (by kernel_rfl) (fun _ _ _ h => h) rfl ?hya42 H4 ?resta42
          case hya42 => (intro wx hSx; go_simp; try with_reducible rfl)
          try simp only [Act.put, List.setIfInBounds_toArray, List.set_cons_zero, List.set_cons_succ]
          refine held_take (i := 43) (v := ?va43) rfl (by kernel_rfl) (by kernel_rfl) (by kernel_rfl) (fun _ _ _ h => h) rfl ?hya43 H4 ?resta43
          case hya43 => (intro wx hSx; go_simp; try with_reducible rfl)
          try simp only [Act.put, List.setIfInBounds_toArray, List.set_cons_zero, List.set_cons_succ]
          refine held_take (i := 44) (v := ?va44) rfl (by kernel_rfl) (by kernel_rfl) (by kernel_rfl) (fun _ _ _ h => h) rfl ?hya44 H4 ?resta44
          case hya44 => (intro wx hSx; go_simp; try with_reducible rfl)
          try simp only [Act.put, List.setIfInBounds_toArray, List.set_cons_zero, List.set_cons_succ]
          refine held_take (i := 45) (v := ?va45) rfl (by kernel_rfl) (by kernel_rfl) (by kernel_rfl) (fun _ _ _ h => h) rfl ?hya45 H4 ?resta45
          case hya45 => (intro wx hSx; obtain ⟨⟨x0, x1, x2, xl⟩, k0, k1, k2, k3, k4, kl⟩ := HC.out _ hSx; go_simp; try with_reducible rfl)
          try simp only [Act.put, List.setIfInBounds_toArray, List.set_cons_zero, List.set_cons_succ]
          refine held_take (i := 47) (v := ?va47) rfl (by kernel_rfl) (by kernel_rfl) (by kernel_rfl) (fun _ _ _ h => h) rfl ?hya47 H4 ?resta47
          case hya47 => (intro wx hSx; obtain ⟨⟨x0, x1, x2, xl⟩, k0, k1, k2, k3, k4, kl⟩ := HC.out _ hSx; go_simp; try with_reducible rfl)
          try simp only [Act.put, List.setIfInBounds_toArray, List.set_cons_zero, List.set_cons_succ]
          refine held_take (i := 48) (v := ?va48) rfl (by kernel_rfl) (by kernel_rfl) (by kernel_rfl) (fun _ _ _ h => h) rfl ?hya48 H4 ?resta48
          case hya48 => (intro wx hSx; go_simp; try with_reducible rfl)
          try simp only [Act.put, List.setIfInBounds_toArray, List.set_cons_zero, List.set_cons_succ]
          refine held_take (i := 49) (v := ?va49) rfl (by kernel_rfl) (by kernel_rfl) (by kernel_rfl) (fun _ _ _ h => h) rfl ?hya49 H4 ?resta49
          case hya49 => (intro wx hSx; obtain ⟨⟨x0, x1, x2, xl⟩, k0, k1, k2, k3, k4, kl⟩ := HC.out _ hSx; go_simp; try with_reducible rfl)
          try simp only [Act.put, List.setIfInBounds_toArray, List.set_cons_zero, List.set_cons_succ]
          refine held_one (i := 46) (by kernel_rfl) rfl rfl (fun K hK => ?_)
          go_simp
          refine (HVh.out _ H4).mono ?_
          rintro e v5 ⟨rfl, HX⟩
          have H5 := H4.trans HX
          clear HX
          try go_simp
          refine hK.out _ _ ⟨H5, ?_⟩
          clear hK K
          try simp only [Act.put, List.setIfInBounds_toArray, List.set_cons_zero, List.set_cons_succ]
          refine held_one (i := 50) (by kernel_rfl) rfl rfl (fun K hK => ?_)
          go_simp
          refine (HRh2.out _ H5).mono ?_
          rintro e v6 ⟨rfl, HX⟩
          have H6 := H5.trans HX
          clear HX
          try go_simp
          refine hK.out _ _ ⟨H6, ?_⟩
          clear hK K
          try simp only [Act.put, List.setIfInBounds_toArray, List.set_cons_zero, List.set_cons_succ]
          refine held_take (i := 51) (v := ?va51) rfl (by kernel_rfl) (by kernel_rfl) (by kernel_rfl) (fun _ _ _ h => h) rfl ?hya51 H6 ?resta51
          case hya51 => (intro wx hSx; go_simp; try with_reducible rfl)
          try simp only [Act.put, List.setIfInBounds_toArray, List.set_cons_zero, List.set_cons_succ]
          refine held_take (i := 52) (v := ?va52) rfl (by kernel_rfl) (by kernel_rfl) (by kernel_rfl) (fun _ _ _ h => h) rfl ?hya52 H6 ?resta52
          case hya52 => (intro wx hSx; go_simp; try with_reducible rfl)
          try simp only [Act.put, List.setIfInBounds_toArray, List.set_cons_zero, List.set_cons_succ]
          refine wpAnyH_done (by kernel_rfl) ?_ _
          refine NoPanic.normal ?_
          have HPn := HFin.out _ H6
          go_wp2
          go_roundw
          case rel => exact ⟨j + 1, hlt, by push_cast; rfl, ⟨a2, n2, c2, HPn⟩⟩
          case measure => exact lp_meas hlt
        · obtain rfl : j = len := by omega
          have hnl : ¬ (j : Int) < (j : Int) := by omega
          go_wp2_with fail
          obtain ⟨M, HM⟩ : ∃ M, Hid (plV N L j = M) := ⟨_, rfl⟩
          have Hln : Hid ((plV N L j).length ≤ 900) := by show _ ≤ _; have := plV_len N L j; have := Hn.out; omega
          rw [HM.out] at HP Hln
          clear HM hnl
          have Hun : Hid (M.length = un) := by
            obtain ⟨a9, c9, e9⟩ := own_len HP.out.row
            injection e9 with _ e9 _
            exact e9.symm
          have HC : Hid (∀ W, Ext wr W → W.cell? ⟨gx, 0, none⟩ = some (.int .i64 (N : Int)) ∧ W.cell? ⟨gx, 1, none⟩ = some (.int .i64 (T : Int)) ∧ W.cell? ⟨gx, 2, none⟩ = some (.slice ua un uc) ∧ gx < W.heap.size) := fun W hW => ⟨((HP.out.ext hW).bx.2 0 (by decide)).1, ((HP.out.ext hW).bx.2 1 (by decide)).1, ((HP.out.ext hW).bx.2 2 (by decide)).1, (HP.out.ext hW).bx.1⟩
          have HVh : Hid (∀ W, Ext wr W → Calls Try.prog 19 #[.pointer (some va), .int .i64 (-1)] W fun e w' => e = .returned (.int .i64 (aheadV N T M (-1))) ∧ Ext W w') := fun W h => lahead_any (-1) (HP.out.ext h).lv
          have HRh : Hid (∀ W, Ext wr W → Calls Try.prog 20 #[rV N T (.slice ua un uc), .int .i64 (-1)] W fun e w' => e = .returned (.int .i64 (aheadV N T M (-1))) ∧ Ext W w') := fun W h => by
            have h1 := own_ws (HP.out.ext h).row
            rw [← Hun.out] at h1 ⊢
            exact rahead_any (n7 Hq.out) ua uc M (-1) (by have := Hln.out; omega) W h1
          have HAw : Hid (∀ W, Ext wr W → Calls Try.prog 8 #[] W fun e w' => e = .returned (.bool true) ∧ Ext W w') := fun W _ => awake_any W
          have HEw : Hid (Ext w wr) := HP.out.lv.old
          have HS : Ext wr wr.drew := (Ext.refl wr).drew
          clear HP Hun Hln
          generalize aheadV N T M (-1) = ch at *
          refine wp_region_noPanic ?_
          refine wp_region_held (S := Ext wr) (by kernel_rfl) ?_
          rw [show ({ wr with drawn := wr.drawn + 1 } : World) = wr.drew from rfl]
          refine held_take (i := 0) (v := ?vb0) rfl (by kernel_rfl) (by kernel_rfl) (by kernel_rfl) (fun _ _ _ h => h) rfl ?hyb0 HS ?restb0
          case hyb0 => (intro wx hSx; go_simp; try with_reducible rfl)
          try simp only [Act.put, List.setIfInBounds_toArray, List.set_cons_zero, List.set_cons_succ]
          refine held_take (i := 2) (v := ?vb2) rfl (by kernel_rfl) (by kernel_rfl) (by kernel_rfl) (fun _ _ _ h => h) rfl ?hyb2 HS ?restb2
          case hyb2 => (intro wx hSx; obtain ⟨x0, x1, x2, xl⟩ := HC.out _ hSx; go_simp; try with_reducible rfl)
          try simp only [Act.put, List.setIfInBounds_toArray, List.set_cons_zero, List.set_cons_succ]
          refine held_one (i := 1) (by kernel_rfl) rfl rfl (fun K hK => ?_)
          go_simp
          refine (HVh.out _ HS).mono ?_
          rintro e v1 ⟨rfl, HX⟩
          have H1 := HS.trans HX
          clear HX
          try go_simp
          refine hK.out _ _ ⟨H1, ?_⟩
          clear hK K
          try simp only [Act.put, List.setIfInBounds_toArray, List.set_cons_zero, List.set_cons_succ]
          refine held_one (i := 3) (by kernel_rfl) rfl rfl (fun K hK => ?_)
          go_simp
          refine (HRh.out _ H1).mono ?_
          rintro e v2 ⟨rfl, HX⟩
          have H2 := H1.trans HX
          clear HX
          try go_simp
          refine hK.out _ _ ⟨H2, ?_⟩
          clear hK K
          try simp only [Act.put, List.setIfInBounds_toArray, List.set_cons_zero, List.set_cons_succ]
          refine held_take (i := 4) (v := ?vb4) rfl (by kernel_rfl) (by kernel_rfl) (by kernel_rfl) (fun _ _ _ h => h) rfl ?hyb4 H2 ?restb4
          case hyb4 => (intro wx hSx; go_simp; try with_reducible rfl)
          try simp only [Act.put, List.setIfInBounds_toArray, List.set_cons_zero, List.set_cons_succ]
          refine held_take (i := 5) (v := ?vb5) rfl (by kernel_rfl) (by kernel_rfl) (by kernel_rfl) (fun _ _ _ h => h) rfl ?hyb5 H2 ?restb5
          case hyb5 => (intro wx hSx; go_simp; try with_reducible rfl)
          try simp only [Act.put, List.setIfInBounds_toArray, List.set_cons_zero, List.set_cons_succ]
          refine held_one (i := 6) (by kernel_rfl) rfl rfl (fun K hK => ?_)
          go_simp
          refine (HAw.out _ H2).mono ?_
          rintro e v3 ⟨rfl, HX⟩
          have H3 := H2.trans HX
          clear HX
          try go_simp
          refine hK.out _ _ ⟨H3, ?_⟩
          clear hK K
          try simp only [Act.put, List.setIfInBounds_toArray, List.set_cons_zero, List.set_cons_succ]
          refine held_take (i := 7) (v := ?vb7) rfl (by kernel_rfl) (by kernel_rfl) (by kernel_rfl) (fun _ _ _ h => h) rfl ?hyb7 H3 ?restb7
          case hyb7 => (intro wx hSx; go_simp; try with_reducible rfl)
          try simp only [Act.put, List.setIfInBounds_toArray, List.set_cons_zero, List.set_cons_succ]
          refine held_take (i := 8) (v := ?vb8) rfl (by kernel_rfl) (by kernel_rfl) (by kernel_rfl) (fun _ _ _ h => h) rfl ?hyb8 H3 ?restb8
          case hyb8 => (intro wx hSx; go_simp; try with_reducible rfl)
          try simp only [Act.put, List.setIfInBounds_toArray, List.set_cons_zero, List.set_cons_succ]
          refine wpAnyH_done (by kernel_rfl) ?_ _
          refine NoPanic.normal ?_
          have HPn := HEw.out.trans H3
          go_wp2
          go_ret
          exact ⟨rfl, HPn⟩
  · have Hq : Hid (¬ hasQ n t) := hq
    clear hq
    go_enter Try.func3, Try.ntmps3
    go_wp2_with fail
    refine HF.out.mono ?_
    rintro e w1 ⟨b, rfl, hb, HX⟩
    have HE1 : Hid (Ext w w1) := HX
    clear HX HF hb
    cases b with
    | false =>
      go_wp2_with fail
      refine (awake_any _).mono ?_
      rintro e w2 ⟨rfl, HX⟩
      have HE2 : Hid (Ext w w2) := HE1.out.trans HX
      clear HX
      go_wp2
      go_ret
      exact ⟨rfl, HE2.out⟩
    | true =>
      go_wp2_with fail
      refine (vnew_bad n t Hq.out _).mono ?_
      rintro e w2 ⟨rfl, HX⟩
      have HE2 : Hid (Ext w w2) := HE1.out.trans HX
      clear HX HE1
      go_wp2_with fail
      refine (rnew_bad n t Hq.out _).mono ?_
      rintro e w3 ⟨rfl, HX⟩
      have HE3 : Hid (Ext w (w3.alloc (.cells #[.int .i64 0, .int .i64 0, .slice none 0 0] 28))) := (HE2.out.trans HX).alloc _
      clear HX HE2
      go_wp2_with fail
      refine (awake_any _).mono ?_
      rintro e w4 ⟨rfl, HX⟩
      have HE4 : Hid (Ext w w4) := HE3.out.trans HX
      clear HX HE3
      go_wp2
      go_ret
      exact ⟨rfl, HE4.out⟩
end Go.Proofs.Ytjgaggmacamgpaa
