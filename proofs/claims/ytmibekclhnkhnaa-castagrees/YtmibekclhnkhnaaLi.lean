/-
  CastAgrees, called: true; nothing old is turned.
-/
import Derived.Test.YtmibekclhnkhnaaLh
namespace Go.Proofs.Ytmibekclhnkhnaa
open Go.RowKit
/-- What holds behind the first j of what comes. -/
structure NW (B : World) (N T F : Nat) (h : Nat) (ps : List Addr) (Gs : Nat → Nat → Prop) (pv : Value) (j : Nat) (wv : Value) (wr : World) (ss : Nat → St) (way : List (Nat × Msg)) : Prop where
  nn : Nn B N T F ps ss Gs pv way wv wr
  net : Net N T F ⟨#[120]⟩ ss way
  len : way.length ≤ 7 + 7 * j
  few : ∀ i, i < h → (ss i).L.length ≤ j
theorem slv_ptr (w : World) (a : Addr) (t : TypeId) : SlV (w.alloc (.cells #[.pointer (some a)] t)) (.slice (some ⟨w.heap.size, 0, none⟩) 1 1) 1 [.pointer (some a)] :=
  .inr ⟨_, _, _, rfl, fun j z hj => by
    have h3 : j < 1 := (List.getElem?_eq_some_iff.1 hj).1
    obtain rfl : j = 0 := by omega
    rw [World.cell?_alloc_at _ _ _ _ rfl]
    exact hj⟩
theorem ptr_one (a : Addr) : ∀ u ∈ ([.pointer (some a)] : List Value), u.oneCell' = true := by
  intro u hu
  simp at hu
  subst hu
  rfl
theorem NW.further {B : World} {N T F h : Nat} {ps : List Addr} {Gs : Nat → Nat → Prop} {pv wv : Value} {j : Nat} {wr wy : World} {ss : Nat → St} {way : List (Nat × Msg)} (q : NW B N T F h ps Gs pv j wv wr ss way) (hx : Ext wr wy) : NW B N T F h ps Gs pv j wv wy ss way := ⟨q.nn.further hx, q.net, q.len, q.few⟩
theorem mg_new (w : World) (m : Msg) (t : TypeId) : Blk (w.alloc (.cells #[.int .i64 m.kd, .int .i64 m.fr, .string m.bd] t)) w.heap.size 3 (mg m) := Blk.new w _ _ fun j hj => by
  have : j = 0 ∨ j = 1 ∨ j = 2 := by omega
  rcases this with rfl | rfl | rfl <;> rfl
/-- A cell of a block of the law's own is set. -/
theorem Nn.put {B W : World} {N T F : Nat} {ps : List Addr} {ss : Nat → St} {Gs : Nat → Nat → Prop} {pv wv : Value} {way : List (Nat × Msg)} (q : Nn B N T F ps ss Gs pv way wv W) {b : Nat} (hg : ∀ i, i < ps.length → ¬ Gs i b) (hb : B.heap.size ≤ b) (hp : pv.ownBlock ≠ some b) (hw : wv.ownBlock ≠ some b) (k : Nat) (v : Value) : Nn B N T F ps ss Gs pv way wv (W.setCell ⟨b, k, none⟩ v) :=
  ⟨⟨Ext.st hb q.pt.ext, fun i a e => (q.pt.each i a e).far (H := fun k => k = b) (Chg.st (.inl rfl) (Chg.refl _ W)) (fun k q1 q2 => hg i (List.getElem?_eq_some_iff.1 e).1 (q2 ▸ q1)) (fun k q => by rw [q]; exact hb), q.pt.apart, own_setCell q.pt.row hp, q.pt.rb⟩, own_setCell q.wy hw, q.wb⟩
/-- Three cells become a message's. -/
theorem mg_put {W : World} {b : Nat} {g : Nat → Value} (q : Blk W b 3 g) (m : Msg) : Blk (((W.setCell ⟨b, 0, none⟩ (.int .i64 m.kd)).setCell ⟨b, 1, none⟩ (.int .i64 m.fr)).setCell ⟨b, 2, none⟩ (.string m.bd)) b 3 (mg m) :=
  (((q.put (i := 0) (by decide) _).put (i := 1) (by decide) _).put (i := 2) (by decide) _).congr fun j hj => by
    have : j = 0 ∨ j = 1 ∨ j = 2 := by omega
    rcases this with rfl | rfl | rfl <;> rfl
/-- What is read while a part takes a message. -/
def S28 (B : World) (mb : Nat) (mm : Msg) (pv : Value) (ps : List Addr) (wx : World) : Prop := Blk wx mb 3 (mg mm) ∧ wx.ownsRow B.heap.size 29 1 pv ps.length (pcs ps)
/-- A number as an unsigned one, modulo h. -/
theorem u_mod (at0 : Int) (h : Nat) (hh : 1 ≤ h) (hb : h ≤ 100000) : ∃ U : Nat, IntKind.u64.wrap at0 = (U : Int) ∧ IntKind.u64.wrap (h : Int) = (h : Int) ∧ (U : Int) % (h : Int) = ((U % h : Nat) : Int) ∧ (U : Int).tmod (h : Int) = ((U % h : Nat) : Int) ∧ IntKind.i64.wrap ((U % h : Nat) : Int) = ((U % h : Nat) : Int) ∧ U % h < h ∧ ¬ (h : Int) = 0 ∧ IntKind.u64.wrap ((U % h : Nat) : Int) = ((U % h : Nat) : Int) := by
  have hlt := Nat.mod_lt (x := (IntKind.u64.wrap at0).toNat) (show h > 0 from hh)
  refine ⟨(IntKind.u64.wrap at0).toNat, by rw [IntKind.wrap_u64]; omega, by rw [IntKind.wrap_u64]; omega, by omega, by rw [Int.tmod_eq_emod_of_nonneg (by omega)]; omega, by rw [IntKind.wrap_i64]; omega, hlt, by omega, by rw [IntKind.wrap_u64]; omega⟩
theorem wcs_take (way : List (Nat × Msg)) (p : Nat) {j : Nat} {x : Value} (h : (wcs (way.take p))[j]? = some x) : (wcs way)[j]? = some x := by
  have e : wcs way = wcs (way.take p) ++ wcs (way.drop p) := by rw [← wcs_app, List.take_append_drop]
  rw [e, List.getElem?_append_left (List.getElem?_eq_some_iff.1 h).1]
  exact h
theorem wcs_drop (way : List (Nat × Msg)) {p : Nat} (hp : p ≤ way.length) {j : Nat} {x : Value} (h : (wcs (way.drop p))[j]? = some x) : (wcs way)[p * 4 + j]? = some x := by
  have e : wcs way = wcs (way.take p) ++ wcs (way.drop p) := by rw [← wcs_app, List.take_append_drop]
  have el : (wcs (way.take p)).length = p * 4 := by rw [wcs_len, List.length_take, Nat.min_eq_left hp]
  rw [e, List.getElem?_append_right (by omega), el, show p * 4 + j - p * 4 = j from by omega]
  exact h
theorem own_slv2 {w wx : World} {base vg vc : Nat} {way : List (Nat × Msg)} {vn : Nat} (h : w.ownsRow base 53 4 (.slice (some ⟨vg, 0, none⟩) vn vc) way.length (wcs way)) (hx : Ext w wx) (p c : Nat) : SlV wx (.slice (some ⟨vg, 0, none⟩) p c) p (wcs (way.take p)) :=
  .inr ⟨vg, 0, c, rfl, fun j x hj => by have := h.cells (g := vg) rfl j x (wcs_take way p hj); rw [add_at] at this; exact later hx this⟩
theorem own_slv3 {w wx : World} {base vg vc : Nat} {way : List (Nat × Msg)} {vn : Nat} (h : w.ownsRow base 53 4 (.slice (some ⟨vg, 0, none⟩) vn vc) way.length (wcs way)) (hx : Ext w wx) {p : Nat} (hp : p ≤ way.length) (n c : Nat) : SlV wx (.slice (some ⟨vg, p * 4, none⟩) n c) n (wcs (way.drop p)) :=
  .inr ⟨vg, p * 4, c, rfl, fun j x hj => by have := h.cells (g := vg) rfl _ x (wcs_drop way hp hj); rw [add_at, Nat.zero_add] at this; exact later hx this⟩
set_option maxRecDepth 100000 in
set_option maxHeartbeats 4000000 in
theorem castAgrees_early (n t f : Int) (v : Value) (M : List (Int × Msg)) (hc : 200 < M.length ∨ ¬ hasC n t f) (w : World) (hM : BrIs w v M) :
    Calls Try.prog 6 #[.agg #[.int .i64 n, .int .i64 t, .int .i64 f], v] w fun e w' => e = .returned (.bool true) ∧ Ext w w' := by
  have HL0 : Hid (BrIs w v M) := hM
  obtain ⟨a, cap, rfl, _⟩ := hM
  obtain ⟨L, HLn⟩ : ∃ L, Hid (M.length = L) := ⟨_, rfl⟩
  have HL := HL0
  rw [HLn.out] at HL ⊢
  clear HL0
  have HE0 : Hid (Ext w (w.alloc (.cells #[.int .i64 n, .int .i64 t, .int .i64 f] 26))) := (Ext.refl w).alloc _
  have HQ : Hid (∀ W, Calls Try.prog 9 #[.int .i64 n, .int .i64 t] W fun e w' => e = .returned (.int .i64 (qI n t)) ∧ w' = W) := fun W => rquorum_any n t W
  rw [HLn.out] at hc
  by_cases h2 : (200 : Int) < (L : Int)
  · clear hc
    go_enter Try.func6, Try.ntmps6
    go_wp2_with fail
    refine (awake_any _).mono ?_
    rintro e wa ⟨rfl, HX⟩
    have HEa : Hid (Ext w wa) := HE0.out.trans HX
    clear HX
    go_wp2
    go_ret
    exact ⟨rfl, HEa.out⟩
  · have hc : ¬ hasC n t f := by
      rcases hc with q | q
      · omega
      · exact q
    by_cases hq : hasQ n t
    · have h0 : (qI n t == 0) = false := by simpa using q_pos hq
      by_cases h1 : f < 1
      · clear hc hq
        go_enter Try.func6, Try.ntmps6
        go_wp2_with fail
        refine (HQ.out _).mono ?_
        rintro e w1 ⟨rfl, ew⟩
        subst w1
        go_wp2_with fail
        refine (awake_any _).mono ?_
        rintro e wa ⟨rfl, HX⟩
        have HEa : Hid (Ext w wa) := HE0.out.trans HX
        clear HX
        go_wp2
        go_ret
        exact ⟨rfl, HEa.out⟩
      · have h3 : n < f := by unfold hasC at hc; have : ¬ (1 ≤ f ∧ f ≤ n) := fun q => hc ⟨hq, q⟩; omega
        clear hc hq
        go_enter Try.func6, Try.ntmps6
        go_wp2_with fail
        refine (HQ.out _).mono ?_
        rintro e w1 ⟨rfl, ew⟩
        subst w1
        go_wp2_with fail
        refine (awake_any _).mono ?_
        rintro e wa ⟨rfl, HX⟩
        have HEa : Hid (Ext w wa) := HE0.out.trans HX
        clear HX
        go_wp2
        go_ret
        exact ⟨rfl, HEa.out⟩
    · have h0 : (qI n t == 0) = true := by rw [show qI n t = 0 from if_neg hq]; rfl
      clear hc hq
      go_enter Try.func6, Try.ntmps6
      go_wp2_with fail
      refine (HQ.out _).mono ?_
      rintro e w1 ⟨rfl, ew⟩
      subst w1
      go_wp2_with fail
      refine (awake_any _).mono ?_
      rintro e wa ⟨rfl, HX⟩
      have HEa : Hid (Ext w wa) := HE0.out.trans HX
      clear HX
      go_wp2
      go_ret
      exact ⟨rfl, HEa.out⟩
set_option maxRecDepth 100000 in
set_option maxHeartbeats 8000000 in
theorem castAgrees_main (N T F : Nat) (v : Value) (M : List (Int × Msg)) (hc : hasC N T F) (hl : M.length ≤ 200) (w : World) (hM : BrIs w v M) (hMw : ∀ (j : Nat) x, M[j]? = some x → (Lit.int .i64 x.1).wf = true) :
    Calls Try.prog 6 #[.agg #[.int .i64 (N : Int), .int .i64 (T : Int), .int .i64 (F : Int)], v] w fun e w' => e = .returned (.bool true) ∧ Ext w w' := by
  have HL0 : Hid (BrIs w v M) := hM
  obtain ⟨a, cap, rfl, _⟩ := hM
  obtain ⟨L, HLn⟩ : ∃ L, Hid (M.length = L) := ⟨_, rfl⟩
  have HL := HL0
  rw [HLn.out] at HL ⊢
  clear HL0
  have HMw : Hid (∀ (j : Nat) x, M[j]? = some x → (Lit.int .i64 x.1).wf = true) := hMw
  have hl2 : L ≤ 200 := by rw [← HLn.out]; exact hl
  have HB0 : Hid (Ext w (w.alloc (.cells #[.int .i64 (N : Int), .int .i64 (T : Int), .int .i64 (F : Int)] 26))) := (Ext.refl w).alloc _
  have HBx : Hid (∀ W, Ext (w.alloc (.cells #[.int .i64 (N : Int), .int .i64 (T : Int), .int .i64 (F : Int)] 26)) W → W.cell? ⟨w.heap.size, 0, none⟩ = some (.int .i64 (N : Int)) ∧ W.cell? ⟨w.heap.size, 1, none⟩ = some (.int .i64 (T : Int)) ∧ W.cell? ⟨w.heap.size, 2, none⟩ = some (.int .i64 (F : Int)) ∧ w.heap.size < W.heap.size) := box3w w N T F
  have HQ : Hid (∀ W, Calls Try.prog 9 #[.int .i64 (N : Int), .int .i64 (T : Int)] W fun e w' => e = .returned (.int .i64 (qI N T)) ∧ w' = W) := fun W => rquorum_any N T W
  have HN : Hid (∀ B W, Ext B W → Calls Try.prog 12 #[.int .i64 (N : Int), .int .i64 (T : Int), .int .i64 (F : Int)] W fun e w' => ∃ a G, e = .returned (.pointer (some a)) ∧ Cs B (.pointer (some a)) N T F st0 G w' ∧ From G W.heap.size ∧ Ext W w') := fun B W hW => lnew_any N T F hc B W hW
  have h0 : (qI N T == 0) = false := by simpa using q_pos hc.1
  have hT3 : 3 * T + 1 ≤ N := by have := hc.1.2.2.1; omega
  have hN7 : N ≤ 7 := by have := hc.1.2.2.2; omega
  have hF1 : 1 ≤ F := by have := hc.2.1; omega
  have hFN : F ≤ N := by have := hc.2.2; omega
  have h1 : ¬ (F : Int) < 1 := by omega
  have h2 : ¬ (N : Int) < (F : Int) := by omega
  have h3 : ¬ (200 : Int) < (L : Int) := by omega
  obtain ⟨h, Hh⟩ : ∃ h, Hid (N - T = h) := ⟨_, rfl⟩
  have hh7 : h ≤ 7 := by rw [← Hh.out]; omega
  have hh1 : 1 ≤ h := by rw [← Hh.out]; omega
  have hsub : IntKind.i64.wrap ((N : Int) - (T : Int)) = (h : Int) := by rw [IntKind.wrap_i64]; have := Hh.out; omega
  have HT3 : Hid (3 * T + 1 ≤ N ∧ 1 ≤ F ∧ F ≤ N) := ⟨hT3, hF1, hFN⟩
  clear hl hMw hc hT3 hN7 hF1 hFN
  go_enter Try.func6, Try.ntmps6
  go_wp2_with fail
  refine (HQ.out _).mono ?_
  rintro e w1 ⟨rfl, ew⟩
  subst w1
  obtain ⟨B, hB⟩ : ∃ B, w.alloc (.cells #[.int .i64 (N : Int), .int .i64 (T : Int), .int .i64 (F : Int)] 26) = B := ⟨_, rfl⟩
  rw [hB] at HB0 HBx ⊢
  clear hB HQ
  obtain ⟨x0, x1, x2, x3⟩ := HBx.out B (Ext.refl B)
  have HEB : Hid (Ext B B) := Ext.refl B
  go_wp2_with fail
  go_loopw [5] (fun u5 wr => ∃ j : Nat, j ≤ L ∧ u5 = .int .i64 j ∧ Hid (Ext B wr)) (fun u5 _ => L - (intOf u5).toNat)
  case atStart => exact ⟨0, Nat.zero_le _, rfl, HEB⟩
  case round =>
    obtain ⟨j, hj, rfl, HE⟩ := hrel
    clear HEB x0 x1 x2 x3
    by_cases hlt : j < L
    · skip
      clear HN
      obtain ⟨q1, q0, qw⟩ := lp_nums j L hlt (by omega)
      obtain ⟨x, hx⟩ : ∃ x, M[j]? = some x := ⟨M[j]'(by rw [HLn.out]; exact hlt), List.getElem?_eq_getElem _⟩
      have HL2 : BrIs wr (.slice a M.length cap) M := by rw [HLn.out]; exact HL.out.ext (HB0.out.trans HE.out)
      obtain ⟨g, o, rfl, hbl, hd0, hd1, hd2, hd3⟩ := HL2.get hx
      clear HL2 hd0 hd1 hd2 hx
      by_cases hbig : (100 : Int) < (x.2.bd.size : Int)
      · skip
        go_wp2_with fail
        refine (awake_any _).mono ?_
        rintro e wa ⟨rfl, HX⟩
        have HEa : Hid (Ext w wa) := (HB0.out.trans HE.out).trans HX
        clear HX
        go_wp2
        go_ret
        exact ⟨rfl, HEa.out⟩
      · go_wp2
        go_roundw
        case rel => exact ⟨j + 1, hlt, by push_cast; rfl, HE⟩
        case measure => exact lp_meas hlt
    · have q1 : ¬ (j : Int) < (L : Int) := by omega
      clear hlt hj
      obtain ⟨x0, x1, x2, x3⟩ := HBx.out _ HE.out
      have HP0 : Hid (Pt B N T F [] (fun _ => st0) (fun _ _ => False) (.slice none 0 0) wr) := Pt.nil HE.out _ _
      clear HE
      go_wp2_with fail
      clear x0 x1 x2 x3
      go_loopw [7, 8] (fun u7 u8 wr => ∃ (k : Nat) (pa : Option Addr) (pn pc : Nat), k ≤ h ∧ u8 = .int .i64 k ∧ u7 = .slice pa pn pc ∧ Hid (∃ ps Gs, ps.length = k ∧ Pt B N T F ps (fun _ => st0) Gs (.slice pa pn pc) wr)) (fun _ u8 _ => h - (intOf u8).toNat)
      case atStart => exact ⟨0, none, 0, 0, Nat.zero_le _, rfl, rfl, ⟨[], _, rfl, HP0.out⟩⟩
      case round =>
        obtain ⟨k, pa, pn, pc, hk, rfl, rfl, HPx⟩ := hrel
        clear HP0
        obtain ⟨ps, Gs, hps, hpt⟩ := HPx.out
        have HP : Hid (Pt B N T F ps (fun _ => st0) Gs (.slice pa pn pc) wr) := hpt
        have Hps : Hid (ps.length = k) := hps
        obtain ⟨x0, x1, x2, x3⟩ := HBx.out _ hpt.ext
        clear HPx hps hpt
        by_cases hkl : k < h
        · skip
          obtain ⟨r1, r0, rw'⟩ := lp_nums k h hkl (by omega)
          go_wp2_with fail
          refine (HN.out B _ HP.out.ext).mono ?_
          rintro e w2 ⟨na, G, rfl, hs2, hf2, hx2⟩
          have HS2 : Hid (Cs B (.pointer (some na)) N T F st0 G w2) := hs2
          have HF2 : Hid (From G wr.heap.size) := hf2
          have HX2 : Hid (Ext wr w2) := hx2
          clear hs2 hf2 hx2 x0 x1 x2 x3
          go_wp2_with (first | (at_builtin; refine list_of_wp rfl (fun K hK => ?_); refine app48 (w2.alloc (.cells #[.pointer (some na)] 29)) _ _ rfl B.heap.size (.slice pa pn pc) ps.length (pcs ps) rfl ((own_ext HP.out.row HX2.out).alloc _) (.slice (some ⟨w2.heap.size, 0, none⟩) 1 1) 1 [.pointer (some na)] rfl (slv_ptr _ _ _) rfl (ptr_one _) (by have := Hps.out; omega) (by have := HP.out.ext.size; have := HX2.out.size; simp; omega) ?_))
          intro v3 y3 ho hg hb
          obtain ⟨a3, c3, rfl⟩ := own_len ho
          refine hK.out _ _ ?_
          clear hK K
          have HP3 : Hid (∃ ps Gs, ps.length = k + 1 ∧ Pt B N T F ps (fun _ => st0) Gs (.slice a3 (ps.length) c3) y3) := by
            refine ⟨ps ++ [na], fun i => if i = ps.length then G else Gs i, by simp; exact Hps.out, ?_⟩
            have := HP.out.add HS2.out HF2.out HX2.out ((Ext.refl w2).alloc (.cells #[.pointer (some na)] 29)) hg ho (by simpa using hb)
            rw [show (ps ++ [na]).length = ps.length + 1 from by simp]
            exact this
          clear ho hg hb HS2 HF2 HX2 HP
          go_wp2
          go_roundw
          case rel =>
            obtain ⟨ps2, Gs2, e2, h2⟩ := HP3.out
            exact ⟨k + 1, a3, ps.length + 1, c3, hkl, by push_cast; rfl, rfl, ⟨ps2, Gs2, e2, by rw [e2, ← Hps.out] at h2; exact h2⟩⟩
          case measure => exact lp_meas hkl
        · obtain rfl : h = k := by omega
          have hnl : ¬ (h : Int) < (h : Int) := by omega
          clear HN hkl
          obtain ⟨pg, hpa, hpn⟩ : ∃ pg, pa = some ⟨pg, 0, none⟩ ∧ pn = h := by
            have := HP.out.row
            rcases this.2 with ⟨_, q⟩ | ⟨pg, cc, cur, q, _⟩
            · have := Hps.out; omega
            · injection q with e1 e2 e3
              exact ⟨pg, e1, by rw [e2, Hps.out]⟩
          subst hpa
          subst pn
          go_upto_if 82 with fail
          go_cut [9] (fun u9 wx => ∃ wa wn wc, u9 = .slice wa wn wc ∧ ∃ way, NW B N T F h ps Gs (.slice (some ⟨pg, 0, none⟩) h pc) 0 (.slice wa wn wc) wx (fun _ => st0) way)
          case first =>
            by_cases hFh : F ≤ h
            · have d82 : decide ((F : Int) ≤ (h : Int)) = true := decide_eq_true (by omega)
              have d82b : decide (F ≤ h) = true := decide_eq_true hFh
              have HO : Hid (∀ W, W = wr.alloc (.cells #[.int .i64 1, .int .i64 0, .string ⟨#[120]⟩] 38) → Calls Try.prog 18 #[.slice none 0 0, .int .i64 (h : Int), .int .i64 (F : Int), .slice (some ⟨wr.heap.size, 0, none⟩) 1 1] W fun e w' => ∃ a n c, e = .returned (.slice a n c) ∧ OS W (.slice a n c) ([] ++ ont h (F : Int) [⟨1, 0, ⟨#[120]⟩⟩]) w') := fun W e => by
                subst e
                exact onto_any none 0 0 [] h (F : Int) (some ⟨wr.heap.size, 0, none⟩) 1 [⟨1, 0, ⟨#[120]⟩⟩] hh7 (Nat.le_refl _) (Nat.zero_le _) _ (World.ownsRow_nil _ _ _ _) (own_ms (L := [⟨1, 0, ⟨#[120]⟩⟩]) (own_new wr 38 3 1 rfl rfl (Nat.zero_le _)))
              go_wp2_with fail
              refine (HO.out _ rfl).mono ?_
              rintro e w4 ⟨a4, n4, c4, rfl, hos⟩
              have HW4 : Hid (∃ way, NW B N T F h ps Gs (.slice (some ⟨pg, 0, none⟩) h pc) 0 (.slice a4 n4 c4) w4 (fun _ => st0) way) := by
                refine ⟨_, Nn.set (HP.out.further ((Ext.refl _).alloc _)) hos.2 hos.1, ?_, ?_, fun i _ => Nat.le_refl _⟩
                · have := net_sends (N := N) (T := T) (F := F) ⟨#[120]⟩ HT3.out.2.1 (by rw [Hh.out]; exact hFh)
                  rw [Hh.out] at this
                  exact this
                · rw [List.nil_append, ont_len]; simp; omega
              clear hos HO
              go_wp2_with fail
              go_meet
              case rel => exact ⟨a4, n4, c4, rfl, HW4.out⟩
            · have d82 : decide ((F : Int) ≤ (h : Int)) = false := decide_eq_false (by omega)
              have d82b : decide (F ≤ h) = false := decide_eq_false hFh
              go_wp2_with fail
              go_meet
              case rel => exact ⟨none, 0, 0, rfl, [], ⟨HP.out, World.ownsRow_nil _ _ _ _, fun b q => by cases q⟩, net_start _, Nat.zero_le _, fun i _ => Nat.le_refl _⟩
          case rest =>
            obtain ⟨wa0, wn0, wc0, rfl, hnw0⟩ := hcut
            have HNW0 : Hid (∃ ss way, NW B N T F h ps Gs (.slice (some ⟨pg, 0, none⟩) h pc) 0 (.slice wa0 wn0 wc0) wc ss way) := by obtain ⟨way, q⟩ := hnw0; exact ⟨_, way, q⟩
            clear hnw0 HP x0 x1 x2 x3
            go_wp2_with fail
            go_loopw [9, 10] (fun u9 u10 wr => ∃ (j : Nat) (wa : Option Addr) (wn wc : Nat), j ≤ L ∧ u10 = .int .i64 j ∧ u9 = .slice wa wn wc ∧ Hid (∃ ss way, NW B N T F h ps Gs (.slice (some ⟨pg, 0, none⟩) h pc) j (.slice wa wn wc) wr ss way)) (fun _ u10 _ => L - (intOf u10).toNat)
            case atStart => exact ⟨0, wa0, wn0, wc0, Nat.zero_le _, rfl, rfl, HNW0⟩
            case round =>
              obtain ⟨i, va, vn, vc, hi, rfl, rfl, HNWx⟩ := hrel
              clear HNW0
              obtain ⟨ss, way, hnw⟩ := HNWx.out
              have HNW : Hid (NW B N T F h ps Gs (.slice (some ⟨pg, 0, none⟩) h pc) i (.slice va vn vc) wr ss way) := hnw
              clear HNWx hnw
              by_cases hlt : i < L
              · obtain ⟨q1, q0, qw⟩ := lp_nums i L hlt (by omega)
                obtain ⟨x, hx⟩ : ∃ x, M[i]? = some x := ⟨M[i]'(by rw [HLn.out]; exact hlt), List.getElem?_eq_getElem _⟩
                have HL2 : BrIs wr (.slice a M.length cap) M := by rw [HLn.out]; exact HL.out.ext (HB0.out.trans HNW.out.nn.pt.ext)
                obtain ⟨g, o, rfl, hbl, hd0, hd1, hd2, hd3⟩ := HL2.get hx
                have HAt : Hid ((Lit.int .i64 x.1).wf = true) := HMw.out i x hx
                clear HL2 hx
                obtain ⟨at0, fm⟩ := x
                replace hd0 : wr.cell? ⟨g, o + i * 4, none⟩ = some (.int .i64 at0) := hd0
                replace hd1 : wr.cell? ⟨g, o + i * 4 + 1, none⟩ = some (.int .i64 fm.kd) := hd1
                replace hd2 : wr.cell? ⟨g, o + i * 4 + 2, none⟩ = some (.int .i64 fm.fr) := hd2
                replace hd3 : wr.cell? ⟨g, o + i * 4 + 3, none⟩ = some (.string fm.bd) := hd3
                have HYn : Hid (NW B N T F h ps Gs (.slice (some ⟨pg, 0, none⟩) h pc) i (.slice va vn vc) ((wr.alloc (.cells #[.int .i64 0, .int .i64 0, .string ⟨#[]⟩] 38)).alloc (.cells #[.int .i64 fm.kd, .int .i64 fm.fr, .string fm.bd] 38)) ss way) := HNW.out.further (((Ext.refl _).alloc _).alloc _)
                have HYm : Hid (Blk ((wr.alloc (.cells #[.int .i64 0, .int .i64 0, .string ⟨#[]⟩] 38)).alloc (.cells #[.int .i64 fm.kd, .int .i64 fm.fr, .string fm.bd] 38)) wr.heap.size 3 (mg ⟨0, 0, ⟨#[]⟩⟩)) := (mg_new wr ⟨0, 0, ⟨#[]⟩⟩ 38).ext ((Ext.refl _).alloc _)
                have HYf : Hid (Blk ((wr.alloc (.cells #[.int .i64 0, .int .i64 0, .string ⟨#[]⟩] 38)).alloc (.cells #[.int .i64 fm.kd, .int .i64 fm.fr, .string fm.bd] 38)) (wr.heap.size + 1) 3 (mg fm)) := by
                  have := mg_new (wr.alloc (.cells #[.int .i64 0, .int .i64 0, .string ⟨#[]⟩] 38)) fm 38
                  rw [show (wr.alloc (.cells #[.int .i64 0, .int .i64 0, .string ⟨#[]⟩] 38)).heap.size = wr.heap.size + 1 from by simp] at this
                  exact this
                have HYd : Hid (((wr.alloc (.cells #[.int .i64 0, .int .i64 0, .string ⟨#[]⟩] 38)).alloc (.cells #[.int .i64 fm.kd, .int .i64 fm.fr, .string fm.bd] 38)).cell? ⟨g, o + i * 4, none⟩ = some (.int .i64 at0) ∧ g < ((wr.alloc (.cells #[.int .i64 0, .int .i64 0, .string ⟨#[]⟩] 38)).alloc (.cells #[.int .i64 fm.kd, .int .i64 fm.fr, .string fm.bd] 38)).heap.size) := ⟨later (((Ext.refl _).alloc _).alloc _) hd0, by simp; omega⟩
                have HGm : Hid (∀ e, e < h → ¬ Gs e wr.heap.size) := fun e he z => by have := HNW.out.nn.pt.low (i := e) (by rw [Hps.out]; exact he) _ z; omega
                have HGm2 : Hid (∀ e, e < ps.length → ¬ Gs e wr.heap.size) := fun e he => HGm.out e (by rw [← Hps.out]; exact he)
                have HBm : Hid (B.heap.size ≤ wr.heap.size) := HNW.out.nn.pt.ext.size
                have HWm : Hid (Value.ownBlock (.slice va vn vc) ≠ some wr.heap.size) := fun z => by have := (HNW.out.nn.wy.lt _ z).2; omega
                have HPm : Hid (Value.ownBlock (.slice (some ⟨pg, 0, none⟩) h pc) ≠ some wr.heap.size) := fun z => by have := (HNW.out.nn.pt.row.lt _ z).2; omega
                go_upto_region 22 with fail
                clear hd0 hd1 hd2 hd3 hbl HNW
                generalize (wr.alloc (.cells #[.int .i64 0, .int .i64 0, .string ⟨#[]⟩] 38)).alloc (.cells #[.int .i64 fm.kd, .int .i64 fm.fr, .string fm.bd] 38) = Y at *
                generalize wr.heap.size = mb at *
                obtain ⟨d0, dl⟩ := HYd.out
                have f0 : Y.cell? ⟨mb + 1, 0, none⟩ = some (.int .i64 fm.kd) := (HYf.out.2 0 (by decide)).1
                have f1 : Y.cell? ⟨mb + 1, 1, none⟩ = some (.int .i64 fm.fr) := (HYf.out.2 1 (by decide)).1
                have f2 : Y.cell? ⟨mb + 1, 2, none⟩ = some (.string fm.bd) := (HYf.out.2 2 (by decide)).1
                have fl := HYf.out.1
                have m0 : Y.cell? ⟨mb, 0, none⟩ = some (.int .i64 0) := (HYm.out.2 0 (by decide)).1
                have m1 : Y.cell? ⟨mb, 1, none⟩ = some (.int .i64 0) := (HYm.out.2 1 (by decide)).1
                have m2 : Y.cell? ⟨mb, 2, none⟩ = some (.string ⟨#[]⟩) := (HYm.out.2 2 (by decide)).1
                have z0 := (HYm.out.2 0 (by decide)).2
                have z1 := (HYm.out.2 1 (by decide)).2
                have z2 := (HYm.out.2 2 (by decide)).2
                have ml := HYm.out.1
                by_cases hfr : (h : Int) < fm.fr
                · skip
                  have dfr : decide ((h : Int) < fm.fr) = true := decide_eq_true hfr
                  obtain ⟨U, u1, u2, u3, u4, u5, u6, u7, u8⟩ := u_mod at0 h hh1 (by omega)
                  generalize U % h = r at *
                  go_wp2_with fail
                  go_region
                  have HZn : Hid (Nn B N T F ps ss Gs (.slice (some ⟨pg, 0, none⟩) h pc) way (.slice va vn vc) (((Y.setCell ⟨mb, 0, none⟩ (.int .i64 fm.kd)).setCell ⟨mb, 1, none⟩ (.int .i64 fm.fr)).setCell ⟨mb, 2, none⟩ (.string fm.bd)).drew) := ((((HYn.out.nn.put HGm2.out HBm.out HPm.out HWm.out 0 _).put HGm2.out HBm.out HPm.out HWm.out 1 _).put HGm2.out HBm.out HPm.out HWm.out 2 _).further (Ext.refl _).drew)
                  have HZm : Hid (Blk (((Y.setCell ⟨mb, 0, none⟩ (.int .i64 fm.kd)).setCell ⟨mb, 1, none⟩ (.int .i64 fm.fr)).setCell ⟨mb, 2, none⟩ (.string fm.bd)).drew mb 3 (mg fm)) := (mg_put HYm.out fm).ext (Ext.refl _).drew
                  have HSd : Hid (∀ e : Nat, e < N - T → fm.fr = (e : Int) + 1 → Said ⟨#[120]⟩ (ss e) fm) := fun e he q => by exfalso; have := Hh.out; omega
                  have HNet : Hid (Net N T F ⟨#[120]⟩ ss way) := HYn.out.net
                  have HLn2 : Hid (way.length ≤ 7 + 7 * i) := HYn.out.len
                  have HFew : Hid (∀ e, e < h → (ss e).L.length ≤ i) := HYn.out.few
                  clear d0 dl f0 f1 f2 fl m0 m1 m2 z0 z1 z2 ml u1 u2 u3 u4 u5 u7 u8 HYn HYm HYf HYd
                  generalize (((Y.setCell ⟨mb, 0, none⟩ (.int .i64 fm.kd)).setCell ⟨mb, 1, none⟩ (.int .i64 fm.fr)).setCell ⟨mb, 2, none⟩ (.string fm.bd)).drew = Z at *
                  obtain ⟨pr, hpr⟩ : ∃ pr, ps[r]? = some pr := ⟨ps[r]'(by rw [Hps.out]; exact u6), List.getElem?_eq_getElem _⟩
                  have HTk : Hid (∀ W, Nn B N T F ps ss Gs (.slice (some ⟨pg, 0, none⟩) h pc) way (.slice va vn vc) W → Calls Try.prog 17 #[.pointer (some pr), .agg #[.int .i64 fm.kd, .int .i64 fm.fr, .string fm.bd]] W fun e w' => ∃ a c, e = .returned (.slice a (stp N T F (ss r) fm).2.length c) ∧ w'.ownsRow W.heap.size 38 3 (.slice a (stp N T F (ss r) fm).2.length c) (stp N T F (ss r) fm).2.length (mcs (stp N T F (ss r) fm).2) ∧ Nn B N T F ps (upd ss r (stp N T F (ss r) fm).1) Gs (.slice (some ⟨pg, 0, none⟩) h pc) way (.slice va vn vc) w' ∧ Chg (Gs r) W w') := fun W q => by
                    refine (ltake_any fm (by have := HFew.out r u6; omega) (q.pt.each r pr hpr)).mono ?_
                    rintro e w' ⟨a, c, rfl, k1, k2, k3⟩
                    exact ⟨a, c, rfl, k1, q.take (by rw [Hps.out]; exact u6) (fun a e => by rw [hpr] at e; cases e; exact k2) k3, k3⟩
                  have HO1 : Hid ((stp N T F (ss r) fm).2.length ≤ 1) := stp_few N T F (ss r) fm
                  have HNt2 : Hid (Net N T F ⟨#[120]⟩ (upd ss r (stp N T F (ss r) fm).1) (way ++ ont h ((r : Int) + 1) (stp N T F (ss r) fm).2)) := by
                    have := HNet.out.take (by have := HT3.out; omega) (j := r) (by rw [Hh.out]; exact u6) HSd.out
                    rw [Hh.out] at this
                    exact this
                  have HFw2 : Hid (∀ e, e < h → (upd ss r (stp N T F (ss r) fm).1 e).L.length ≤ i + 1) := fun e he => by
                    by_cases q : e = r
                    · subst q; rw [upd_same]; have := stp_len N T F (ss e) fm; have := HFew.out e he; omega
                    · rw [upd_other q]; exact Nat.le_succ_of_le (HFew.out e he)
                  generalize (stp N T F (ss r) fm).1 = s2 at *
                  generalize (stp N T F (ss r) fm).2 = O at *
                  obtain ⟨ol, Hol⟩ : ∃ ol, Hid (O.length = ol) := ⟨_, rfl⟩
                  rw [Hol.out] at HTk
                  have qr : IntKind.i64.wrap ((r : Int) + 1) = (r : Int) + 1 := by rw [IntKind.wrap_i64]; omega
                  have r0 : (0 : Int) ≤ (r : Int) := by omega
                  have r1 : (r : Int) < (h : Int) := by omega
                  have HCell : Hid (∀ wx : World, wx.ownsRow B.heap.size 29 1 (.slice (some ⟨pg, 0, none⟩) h pc) ps.length (pcs ps) → wx.cell? ⟨pg, r, none⟩ = some (.pointer (some pr)) ∧ pg < wx.heap.size) := fun wx q => by
                    have e1 : (pcs ps)[r]? = some (.pointer (some pr)) := by unfold pcs; rw [List.getElem?_map, hpr]; rfl
                    have := q.cells (g := pg) rfl r _ e1
                    rw [add_at, Nat.zero_add] at this
                    exact ⟨this, (q.lt pg rfl).2⟩
                  have HS0 : (S28 B mb fm (.slice (some ⟨pg, 0, none⟩) h pc) ps) Z.drew := ⟨HZm.out.ext (Ext.refl _).drew, own_ext HZn.out.pt.row (Ext.refl _).drew⟩
                  have HN0 : Nn B N T F ps ss Gs (.slice (some ⟨pg, 0, none⟩) h pc) way (.slice va vn vc) Z.drew := HZn.out.further (Ext.refl _).drew
                  clear HZn HZm HSd HNet HFew
                  go_wp2_with fail
                  refine wp_region_noPanic ?_
                  refine wp_region_held (S := S28 B mb fm (.slice (some ⟨pg, 0, none⟩) h pc) ps) (by kernel_rfl) ?_
                  rw [show ({ Z with drawn := Z.drawn + 1 } : World) = Z.drew from rfl]
                  generalize Z.drew = y0 at *
                  refine held_take (i := 0) (v := ?vma0) rfl (by kernel_rfl) (by kernel_rfl) (by kernel_rfl) (fun _ _ _ h => h) rfl ?hyma0 HS0 ?restma0
                  case hyma0 => (intro wx hSx; go_simp; try with_reducible rfl)
                  try simp only [Act.put, List.setIfInBounds_toArray, List.set_cons_zero, List.set_cons_succ]
                  refine held_take (i := 1) (v := ?vma1) rfl (by kernel_rfl) (by kernel_rfl) (by kernel_rfl) (fun _ _ _ h => h) rfl ?hyma1 HS0 ?restma1
                  case hyma1 => (intro wx hSx; go_simp; try with_reducible rfl)
                  try simp only [Act.put, List.setIfInBounds_toArray, List.set_cons_zero, List.set_cons_succ]
                  refine held_take (i := 2) (v := ?vma2) rfl (by kernel_rfl) (by kernel_rfl) (by kernel_rfl) (fun _ _ _ h => h) rfl ?hyma2 HS0 ?restma2
                  case hyma2 => (intro wx hSx; go_simp; try with_reducible rfl)
                  try simp only [Act.put, List.setIfInBounds_toArray, List.set_cons_zero, List.set_cons_succ]
                  refine held_take (i := 3) (v := ?vma3) rfl (by kernel_rfl) (by kernel_rfl) (by kernel_rfl) (fun _ _ _ h => h) rfl ?hyma3 HS0 ?restma3
                  case hyma3 => (intro wx hSx; go_simp; try with_reducible rfl)
                  try simp only [Act.put, List.setIfInBounds_toArray, List.set_cons_zero, List.set_cons_succ]
                  refine held_take (i := 4) (v := ?vma4) rfl (by kernel_rfl) (by kernel_rfl) (by kernel_rfl) (fun _ _ _ h => h) rfl ?hyma4 HS0 ?restma4
                  case hyma4 => (intro wx hSx; go_simp; try with_reducible rfl)
                  try simp only [Act.put, List.setIfInBounds_toArray, List.set_cons_zero, List.set_cons_succ]
                  refine held_take (i := 5) (v := ?vma5) rfl (by kernel_rfl) (by kernel_rfl) (by kernel_rfl) (fun _ _ _ h => h) rfl ?hyma5 HS0 ?restma5
                  case hyma5 => (intro wx hSx; go_simp; try with_reducible rfl)
                  try simp only [Act.put, List.setIfInBounds_toArray, List.set_cons_zero, List.set_cons_succ]
                  refine held_take (i := 6) (v := ?vma6) rfl (by kernel_rfl) (by kernel_rfl) (by kernel_rfl) (fun _ _ _ h => h) rfl ?hyma6 HS0 ?restma6
                  case hyma6 => (intro wx hSx; go_simp; try with_reducible rfl)
                  try simp only [Act.put, List.setIfInBounds_toArray, List.set_cons_zero, List.set_cons_succ]
                  refine held_take (i := 7) (v := ?vma7) rfl (by kernel_rfl) (by kernel_rfl) (by kernel_rfl) (fun _ _ _ h => h) rfl ?hyma7 HS0 ?restma7
                  case hyma7 => (intro wx hSx; obtain ⟨hSb, hSr⟩ := hSx; obtain ⟨k1, k2⟩ := HCell.out wx hSr; clear hSb hSr; go_simp; try with_reducible rfl)
                  try simp only [Act.put, List.setIfInBounds_toArray, List.set_cons_zero, List.set_cons_succ]
                  refine held_take (i := 8) (v := ?vma8) rfl (by kernel_rfl) (by kernel_rfl) (by kernel_rfl) (fun _ _ _ h => h) rfl ?hyma8 HS0 ?restma8
                  case hyma8 => (intro wx hSx; obtain ⟨hSb, hSr⟩ := hSx; have b0 : wx.cell? ⟨mb, 0, none⟩ = some (.int .i64 fm.kd) := (hSb.2 0 (by decide)).1; have b1 : wx.cell? ⟨mb, 1, none⟩ = some (.int .i64 fm.fr) := (hSb.2 1 (by decide)).1; have b2 : wx.cell? ⟨mb, 2, none⟩ = some (.string fm.bd) := (hSb.2 2 (by decide)).1; have bl := hSb.1; clear hSb hSr; go_simp; try with_reducible rfl)
                  try simp only [Act.put, List.setIfInBounds_toArray, List.set_cons_zero, List.set_cons_succ]
                  refine held_one (i := 9) (by kernel_rfl) rfl rfl (fun K hK => ?_)
                  go_simp
                  refine (HTk.out _ HN0).mono ?_
                  rintro e y1 ⟨a1, c1, rfl, k1, k2, k3⟩
                  have HS1 : (S28 B mb fm (.slice (some ⟨pg, 0, none⟩) h pc) ps) y1 := ⟨HS0.1.keep k3.size (k3.block mb HS0.1.1 (HGm.out r u6)), k2.pt.row⟩
                  try go_simp
                  refine hK.out _ _ ⟨HS1, ?_⟩
                  clear hK K
                  try simp only [Act.put, List.setIfInBounds_toArray, List.set_cons_zero, List.set_cons_succ]
                  refine held_one (i := 10) (by kernel_rfl) rfl rfl (fun K hK => ?_)
                  go_simp
                  have HM1 : Hid (MsIs y1 (.slice a1 O.length c1) O) := by
                    have k1' := k1
                    rw [← Hol.out] at k1'
                    exact own_ms k1'
                  have HCo : Hid (Calls Try.prog 18 #[.slice va vn vc, .int .i64 (h : Int), .int .i64 ((r : Int) + 1), .slice a1 ol c1] y1 fun e w' => ∃ a n c, e = .returned (.slice a n c) ∧ OS y1 (.slice a n c) (way ++ ont h ((r : Int) + 1) O) w') := by
                    have q := onto_any va vn vc way h ((r : Int) + 1) a1 c1 O hh7 HO1.out (by have := HLn2.out; omega) y1 k2.wy HM1.out
                    rw [Hol.out] at q
                    exact q
                  refine HCo.out.mono ?_
                  rintro e y2 ⟨a2, n2, c2, rfl, hos⟩
                  have HS2 : (S28 B mb fm (.slice (some ⟨pg, 0, none⟩) h pc) ps) y2 := ⟨HS1.1.ext hos.2, own_ext HS1.2 hos.2⟩
                  have HNf : Hid (∃ ss way, NW B N T F h ps Gs (.slice (some ⟨pg, 0, none⟩) h pc) (i + 1) (.slice a2 n2 c2) y2 ss way) := ⟨_, _, Nn.set k2.pt hos.2 hos.1, HNt2.out, by rw [List.length_append, ont_len]; have := HLn2.out; have := HO1.out; have : O.length * h ≤ 1 * 7 := Nat.mul_le_mul HO1.out hh7; omega, HFw2.out⟩
                  try go_simp
                  refine hK.out _ _ ⟨HS2, ?_⟩
                  clear hK K
                  try simp only [Act.put, List.setIfInBounds_toArray, List.set_cons_zero, List.set_cons_succ]
                  refine held_take (i := 11) (v := ?vma11) rfl (by kernel_rfl) (by kernel_rfl) (by kernel_rfl) (fun _ _ _ h => h) rfl ?hyma11 HS2 ?restma11
                  case hyma11 => (intro wx hSx; go_simp; try with_reducible rfl)
                  try simp only [Act.put, List.setIfInBounds_toArray, List.set_cons_zero, List.set_cons_succ]
                  refine wpAnyH_done (by kernel_rfl) ?_ _
                  refine NoPanic.normal ?_
                  clear k1 k2 k3 hos HS0 HS1 HS2 HN0
                  go_wp2
                  go_roundw
                  case rel => exact ⟨i + 1, a2, n2, c2, hlt, by push_cast; rfl, rfl, HNf⟩
                  case measure => exact lp_meas hlt
                · have dfr : decide ((h : Int) < fm.fr) = false := decide_eq_false hfr
                  by_cases hv : 0 < vn
                  · have dv : (0 : Int) < (vn : Int) := by omega
                    have HLw : Hid (way.length = vn) := by
                      obtain ⟨a', c', e⟩ := own_len HYn.out.nn.wy
                      injection e with e1 e2 e3
                      exact e2.symm
                    have hvb : vn ≤ 5000 := by have := HYn.out.len; rw [HLw.out] at this; omega
                    obtain ⟨vg, hva, hvc⟩ : ∃ vg, va = some ⟨vg, 0, none⟩ ∧ vn ≤ vc := by
                      rcases HYn.out.nn.wy.2 with ⟨q, _⟩ | ⟨vg, cc, cur, q, hb, hgg, hnc, hm, hs, ht⟩
                      · injection q with e1 e2 e3; omega
                      · injection q with e1 e2 e3; exact ⟨vg, e1, by have := HLw.out; omega⟩
                    subst hva
                    obtain ⟨U, u1, u2, u3, u4, u5, p6, u7, u8⟩ := u_mod at0 vn hv (by omega)
                    generalize U % vn = p at *
                    obtain ⟨⟨r, mm⟩, hpx⟩ : ∃ x, way[p]? = some x := ⟨way[p]'(by rw [HLw.out]; exact p6), List.getElem?_eq_getElem _⟩
                    obtain ⟨c0, c1, c2, c3⟩ := wcs_get way hpx
                    have e0 := HYn.out.nn.wy.cells (g := vg) rfl _ _ c0
                    have e1 := HYn.out.nn.wy.cells (g := vg) rfl _ _ c1
                    have e2 := HYn.out.nn.wy.cells (g := vg) rfl _ _ c2
                    have e3 := HYn.out.nn.wy.cells (g := vg) rfl _ _ c3
                    rw [add_at, Nat.zero_add] at e0 e1 e2 e3
                    replace e0 : Y.cell? ⟨vg, p * 4, none⟩ = some (.int .i64 (r : Int)) := e0
                    replace e1 : Y.cell? ⟨vg, p * 4 + 1, none⟩ = some (.int .i64 mm.kd) := e1
                    replace e2 : Y.cell? ⟨vg, p * 4 + 2, none⟩ = some (.int .i64 mm.fr) := e2
                    replace e3 : Y.cell? ⟨vg, p * 4 + 3, none⟩ = some (.string mm.bd) := e3
                    have vl := (HYn.out.nn.wy.lt vg rfl).2
                    have HU : Hid (r < h ∧ ∃ i : Nat, i < N - T ∧ mm.fr = (i : Int) + 1 ∧ Said ⟨#[120]⟩ (ss i) mm) := by
                      have := HYn.out.net.und _ (List.mem_of_getElem? hpx)
                      rw [Hh.out] at this ⊢
                      exact this
                    have u6 : r < h := HU.out.1
                    have p0 : (0 : Int) ≤ (p : Int) := by omega
                    have p1 : (p : Int) < (vn : Int) := by omega
                    clear c0 c1 c2 c3 hpx
                    go_wp2_with fail
                    go_region
                    have HZn0 : Hid (Nn B N T F ps ss Gs (.slice (some ⟨pg, 0, none⟩) h pc) way (.slice (some ⟨vg, 0, none⟩) vn vc) (((Y.setCell ⟨mb, 0, none⟩ (.int .i64 mm.kd)).setCell ⟨mb, 1, none⟩ (.int .i64 mm.fr)).setCell ⟨mb, 2, none⟩ (.string mm.bd)).drew) := ((((HYn.out.nn.put HGm2.out HBm.out HPm.out HWm.out 0 _).put HGm2.out HBm.out HPm.out HWm.out 1 _).put HGm2.out HBm.out HPm.out HWm.out 2 _).further (Ext.refl _).drew)
                    have HZm0 : Hid (Blk (((Y.setCell ⟨mb, 0, none⟩ (.int .i64 mm.kd)).setCell ⟨mb, 1, none⟩ (.int .i64 mm.fr)).setCell ⟨mb, 2, none⟩ (.string mm.bd)).drew mb 3 (mg mm)) := (mg_put HYm.out mm).ext (Ext.refl _).drew
                    have HSd : Hid (∀ e : Nat, e < N - T → mm.fr = (e : Int) + 1 → Said ⟨#[120]⟩ (ss e) mm) := fun e he q => by
                      obtain ⟨_, i', _, q2, q3⟩ := HU.out
                      obtain rfl : e = i' := by omega
                      exact q3
                    have HNet0 : Hid (Net N T F ⟨#[120]⟩ ss way) := HYn.out.net
                    have HLn0 : Hid (way.length ≤ 7 + 7 * i) := HYn.out.len
                    have HFew : Hid (∀ e, e < h → (ss e).L.length ≤ i) := HYn.out.few
                    clear d0 dl f0 f1 f2 fl m0 m1 m2 z0 z1 z2 ml u1 u2 u3 u4 u5 u7 u8 e0 e1 e2 e3 vl HYn HYm HYf HYd
                    generalize (((Y.setCell ⟨mb, 0, none⟩ (.int .i64 mm.kd)).setCell ⟨mb, 1, none⟩ (.int .i64 mm.fr)).setCell ⟨mb, 2, none⟩ (.string mm.bd)).drew = Z0 at *
                    have p2 : IntKind.i64.wrap ((p : Int) + 1) = ((p + 1 : Nat) : Int) := by rw [IntKind.wrap_i64]; omega
                    have pv : p ≤ vc := by omega
                    have pw : p + 1 ≤ vn := p6
                    have pz : 0 ≤ (p : Int) + 1 ∧ (p : Int) + 1 ≤ (vn : Int) := ⟨by omega, by omega⟩
                    obtain ⟨xo, hxo, HSl⟩ : ∃ xo : Nat, (if vc = p + 1 then some (⟨vg, 0, none⟩ : Addr) else some ⟨vg, (p + 1) * 4, none⟩) = some ⟨vg, xo, none⟩ ∧ Hid (∀ wx, Ext Z0 wx → SlV wx (.slice (some ⟨vg, xo, none⟩) (vn - (p + 1)) (vc - (p + 1))) (vn - (p + 1)) (wcs (way.drop (p + 1)))) := by
                      by_cases q : vc = p + 1
                      · refine ⟨0, if_pos q, fun wx hx => .inr ⟨_, _, _, rfl, fun j x hj => ?_⟩⟩
                        rw [List.drop_eq_nil_of_le (by rw [HLw.out]; omega)] at hj
                        cases hj
                      · exact ⟨(p + 1) * 4, if_neg q, fun wx hx => own_slv3 HZn0.out.wy hx (by rw [HLw.out]; omega) _ _⟩
                    have HS0 : Ext Z0 Z0.drew := (Ext.refl Z0).drew
                    go_wp2_with fail
                    refine wp_region_noPanic ?_
                    refine wp_region_held (S := Ext Z0) (by kernel_rfl) ?_
                    rw [show ({ Z0 with drawn := Z0.drawn + 1 } : World) = Z0.drew from rfl]
                    generalize Z0.drew = y0 at *
                    refine held_take (i := 0) (v := ?vmb0) rfl (by kernel_rfl) (by kernel_rfl) (by kernel_rfl) (fun _ _ _ h => h) rfl ?hymb0 HS0 ?restmb0
                    case hymb0 => (intro wx hSx; go_simp; try with_reducible rfl)
                    try simp only [Act.put, List.setIfInBounds_toArray, List.set_cons_zero, List.set_cons_succ]
                    refine held_take (i := 1) (v := ?vmb1) rfl (by kernel_rfl) (by kernel_rfl) (by kernel_rfl) (fun _ _ _ h => h) rfl ?hymb1 HS0 ?restmb1
                    case hymb1 => (intro wx hSx; go_simp; try with_reducible rfl)
                    try simp only [Act.put, List.setIfInBounds_toArray, List.set_cons_zero, List.set_cons_succ]
                    refine held_take (i := 2) (v := ?vmb2) rfl (by kernel_rfl) (by kernel_rfl) (by kernel_rfl) (fun _ _ _ h => h) rfl ?hymb2 HS0 ?restmb2
                    case hymb2 => (intro wx hSx; go_simp; try with_reducible rfl)
                    try simp only [Act.put, List.setIfInBounds_toArray, List.set_cons_zero, List.set_cons_succ]
                    refine held_take (i := 4) (v := ?vmb4) rfl (by kernel_rfl) (by kernel_rfl) (by kernel_rfl) (fun _ _ _ h => h) rfl ?hymb4 HS0 ?restmb4
                    case hymb4 => (intro wx hSx; go_simp; try with_reducible rfl)
                    try simp only [Act.put, List.setIfInBounds_toArray, List.set_cons_zero, List.set_cons_succ]
                    refine held_take (i := 5) (v := ?vmb5) rfl (by kernel_rfl) (by kernel_rfl) (by kernel_rfl) (fun _ _ _ h => h) rfl ?hymb5 HS0 ?restmb5
                    case hymb5 => (intro wx hSx; go_simp; try with_reducible rfl)
                    try simp only [Act.put, List.setIfInBounds_toArray, List.set_cons_zero, List.set_cons_succ]
                    refine held_take (i := 6) (v := ?vmb6) rfl (by kernel_rfl) (by kernel_rfl) (by kernel_rfl) (fun _ _ _ h => h) rfl ?hymb6 HS0 ?restmb6
                    case hymb6 => (intro wx hSx; go_simp; try with_reducible rfl)
                    try simp only [Act.put, List.setIfInBounds_toArray, List.set_cons_zero, List.set_cons_succ]
                    refine held_take (i := 7) (v := ?vmb7) rfl (by kernel_rfl) (by kernel_rfl) (by kernel_rfl) (fun _ _ _ h => h) rfl ?hymb7 HS0 ?restmb7
                    case hymb7 => (intro wx hSx; go_simp; try with_reducible rfl)
                    try simp only [Act.put, List.setIfInBounds_toArray, List.set_cons_zero, List.set_cons_succ]
                    refine held_one (i := 3) (by kernel_rfl) rfl rfl (fun K hK => ?_)
                    refine app49 y0 _ _ rfl y0.heap.size (.slice none 0 0) 0 [] rfl (World.ownsRow_nil _ _ _ _) (.slice (some ⟨vg, 0, none⟩) p vc) p (wcs (way.take p)) rfl (own_slv2 HZn0.out.wy HS0 p vc) (by rw [wcs_len, List.length_take, Nat.min_eq_left (by rw [HLw.out]; omega)]) (wcs_one _) (by omega) (Nat.le_refl _) ?_
                    intro v2 y1 ho hg hb
                    have HX0 : Ext y0 y1 := ext_grown (Ext.refl y0) hg (fun k q => by cases q)
                    have HX1 : Ext Z0 y1 := HS0.trans HX0
                    try go_simp
                    refine hK.out _ _ ⟨HX1, ?_⟩
                    clear hK K
                    try simp only [Act.put, List.setIfInBounds_toArray, List.set_cons_zero, List.set_cons_succ]
                    refine held_one (i := 8) (by kernel_rfl) rfl rfl (fun K hK => ?_)
                    refine app49 y1 _ _ rfl y0.heap.size v2 (0 + p) ([] ++ wcs (way.take p)) rfl ho (.slice (some ⟨vg, xo, none⟩) (vn - (p + 1)) (vc - (p + 1))) (vn - (p + 1)) (wcs (way.drop (p + 1))) rfl (HSl.out _ HX1) (by rw [wcs_len, List.length_drop, HLw.out]) (wcs_one _) (by omega) HX0.size ?_
                    intro v3 y2 ho3 hg3 hb3
                    have HX3 : Ext y0 y2 := ext_grown HX0 hg3 (fun k q => (ho.lt k q).1)
                    have HX2 : Ext Z0 y2 := HS0.trans HX3
                    obtain ⟨way2, Hw2⟩ : ∃ way2, Hid (way.take p ++ way.drop (p + 1) = way2) := ⟨_, rfl⟩
                    have HO3 : y2.ownsRow y0.heap.size 53 4 v3 way2.length (wcs way2) := by
                      rw [← Hw2.out, wcs_app, List.length_append, List.length_take, List.length_drop, Nat.min_eq_left (by rw [HLw.out]; omega), HLw.out]
                      rw [List.nil_append, Nat.zero_add] at ho3
                      exact ho3
                    obtain ⟨xa, xc, rfl⟩ := own_len HO3
                    obtain ⟨xn, Hxn⟩ : ∃ xn, Hid (way2.length = xn) := ⟨_, rfl⟩
                    have HZn : Hid (Nn B N T F ps ss Gs (.slice (some ⟨pg, 0, none⟩) h pc) way2 (.slice xa xn xc) y2) := by
                      have := Nn.set (HZn0.out.pt.further HS0) HX3 HO3
                      rw [Hxn.out] at this
                      exact this
                    have HZm : Hid (Blk y2 mb 3 (mg mm)) := HZm0.out.ext HX2
                    have HNet : Hid (Net N T F ⟨#[120]⟩ ss way2) := HNet0.out.less (fun x hx => by
                      rw [← Hw2.out] at hx
                      rcases List.mem_append.1 hx with q | q
                      · exact List.mem_of_mem_take q
                      · exact List.mem_of_mem_drop q)
                    have HLn2 : Hid (way2.length ≤ 7 + 7 * i) := by
                      have q : way2.length ≤ 7 + 7 * i := by
                        rw [← Hw2.out, List.length_append, List.length_take, List.length_drop]
                        have := HLn0.out
                        omega
                      exact q
                    rw [Hxn.out]
                    try go_simp
                    refine hK.out _ _ ⟨HX2, ?_⟩
                    clear hK K
                    try simp only [Act.put, List.setIfInBounds_toArray, List.set_cons_zero, List.set_cons_succ]
                    refine held_take (i := 9) (v := ?vmb9) rfl (by kernel_rfl) (by kernel_rfl) (by kernel_rfl) (fun _ _ _ h => h) rfl ?hymb9 HX2 ?restmb9
                    case hymb9 => (intro wx hSx; go_simp; try with_reducible rfl)
                    try simp only [Act.put, List.setIfInBounds_toArray, List.set_cons_zero, List.set_cons_succ]
                    refine wpAnyH_done (by kernel_rfl) ?_ _
                    refine NoPanic.normal ?_
                    clear ho hg hb ho3 hg3 hb3 HX0 HX1 HX3 HX2 HO3 HZn0 HZm0 HNet0 HLn0 HS0
                    generalize y2 = Z at *
                    obtain ⟨pr, hpr⟩ : ∃ pr, ps[r]? = some pr := ⟨ps[r]'(by rw [Hps.out]; exact u6), List.getElem?_eq_getElem _⟩
                    have HTk : Hid (∀ W, Nn B N T F ps ss Gs (.slice (some ⟨pg, 0, none⟩) h pc) way2 (.slice xa xn xc) W → Calls Try.prog 17 #[.pointer (some pr), .agg #[.int .i64 mm.kd, .int .i64 mm.fr, .string mm.bd]] W fun e w' => ∃ a c, e = .returned (.slice a (stp N T F (ss r) mm).2.length c) ∧ w'.ownsRow W.heap.size 38 3 (.slice a (stp N T F (ss r) mm).2.length c) (stp N T F (ss r) mm).2.length (mcs (stp N T F (ss r) mm).2) ∧ Nn B N T F ps (upd ss r (stp N T F (ss r) mm).1) Gs (.slice (some ⟨pg, 0, none⟩) h pc) way2 (.slice xa xn xc) w' ∧ Chg (Gs r) W w') := fun W q => by
                      refine (ltake_any mm (by have := HFew.out r u6; omega) (q.pt.each r pr hpr)).mono ?_
                      rintro e w' ⟨a, c, rfl, k1, k2, k3⟩
                      exact ⟨a, c, rfl, k1, q.take (by rw [Hps.out]; exact u6) (fun a e => by rw [hpr] at e; cases e; exact k2) k3, k3⟩
                    have HO1 : Hid ((stp N T F (ss r) mm).2.length ≤ 1) := stp_few N T F (ss r) mm
                    have HNt2 : Hid (Net N T F ⟨#[120]⟩ (upd ss r (stp N T F (ss r) mm).1) (way2 ++ ont h ((r : Int) + 1) (stp N T F (ss r) mm).2)) := by
                      have := HNet.out.take (by have := HT3.out; omega) (j := r) (by rw [Hh.out]; exact u6) HSd.out
                      rw [Hh.out] at this
                      exact this
                    have HFw2 : Hid (∀ e, e < h → (upd ss r (stp N T F (ss r) mm).1 e).L.length ≤ i + 1) := fun e he => by
                      by_cases q : e = r
                      · subst q; rw [upd_same]; have := stp_len N T F (ss e) mm; have := HFew.out e he; omega
                      · rw [upd_other q]; exact Nat.le_succ_of_le (HFew.out e he)
                    generalize (stp N T F (ss r) mm).1 = s2 at *
                    generalize (stp N T F (ss r) mm).2 = O at *
                    obtain ⟨ol, Hol⟩ : ∃ ol, Hid (O.length = ol) := ⟨_, rfl⟩
                    rw [Hol.out] at HTk
                    have qr : IntKind.i64.wrap ((r : Int) + 1) = (r : Int) + 1 := by rw [IntKind.wrap_i64]; omega
                    have r0 : (0 : Int) ≤ (r : Int) := by omega
                    have r1 : (r : Int) < (h : Int) := by omega
                    have HCell : Hid (∀ wx : World, wx.ownsRow B.heap.size 29 1 (.slice (some ⟨pg, 0, none⟩) h pc) ps.length (pcs ps) → wx.cell? ⟨pg, r, none⟩ = some (.pointer (some pr)) ∧ pg < wx.heap.size) := fun wx q => by
                      have e1 : (pcs ps)[r]? = some (.pointer (some pr)) := by unfold pcs; rw [List.getElem?_map, hpr]; rfl
                      have := q.cells (g := pg) rfl r _ e1
                      rw [add_at, Nat.zero_add] at this
                      exact ⟨this, (q.lt pg rfl).2⟩
                    have HS0 : (S28 B mb mm (.slice (some ⟨pg, 0, none⟩) h pc) ps) Z.drew := ⟨HZm.out.ext (Ext.refl _).drew, own_ext HZn.out.pt.row (Ext.refl _).drew⟩
                    have HN0 : Nn B N T F ps ss Gs (.slice (some ⟨pg, 0, none⟩) h pc) way2 (.slice xa xn xc) Z.drew := HZn.out.further (Ext.refl _).drew
                    clear HZn HZm HSd HNet HFew
                    go_wp2_with fail
                    refine wp_region_noPanic ?_
                    refine wp_region_held (S := S28 B mb mm (.slice (some ⟨pg, 0, none⟩) h pc) ps) (by kernel_rfl) ?_
                    rw [show ({ Z with drawn := Z.drawn + 1 } : World) = Z.drew from rfl]
                    generalize Z.drew = y0 at *
                    refine held_take (i := 0) (v := ?vmc0) rfl (by kernel_rfl) (by kernel_rfl) (by kernel_rfl) (fun _ _ _ h => h) rfl ?hymc0 HS0 ?restmc0
                    case hymc0 => (intro wx hSx; go_simp; try with_reducible rfl)
                    try simp only [Act.put, List.setIfInBounds_toArray, List.set_cons_zero, List.set_cons_succ]
                    refine held_take (i := 1) (v := ?vmc1) rfl (by kernel_rfl) (by kernel_rfl) (by kernel_rfl) (fun _ _ _ h => h) rfl ?hymc1 HS0 ?restmc1
                    case hymc1 => (intro wx hSx; go_simp; try with_reducible rfl)
                    try simp only [Act.put, List.setIfInBounds_toArray, List.set_cons_zero, List.set_cons_succ]
                    refine held_take (i := 2) (v := ?vmc2) rfl (by kernel_rfl) (by kernel_rfl) (by kernel_rfl) (fun _ _ _ h => h) rfl ?hymc2 HS0 ?restmc2
                    case hymc2 => (intro wx hSx; go_simp; try with_reducible rfl)
                    try simp only [Act.put, List.setIfInBounds_toArray, List.set_cons_zero, List.set_cons_succ]
                    refine held_take (i := 3) (v := ?vmc3) rfl (by kernel_rfl) (by kernel_rfl) (by kernel_rfl) (fun _ _ _ h => h) rfl ?hymc3 HS0 ?restmc3
                    case hymc3 => (intro wx hSx; go_simp; try with_reducible rfl)
                    try simp only [Act.put, List.setIfInBounds_toArray, List.set_cons_zero, List.set_cons_succ]
                    refine held_take (i := 4) (v := ?vmc4) rfl (by kernel_rfl) (by kernel_rfl) (by kernel_rfl) (fun _ _ _ h => h) rfl ?hymc4 HS0 ?restmc4
                    case hymc4 => (intro wx hSx; go_simp; try with_reducible rfl)
                    try simp only [Act.put, List.setIfInBounds_toArray, List.set_cons_zero, List.set_cons_succ]
                    refine held_take (i := 5) (v := ?vmc5) rfl (by kernel_rfl) (by kernel_rfl) (by kernel_rfl) (fun _ _ _ h => h) rfl ?hymc5 HS0 ?restmc5
                    case hymc5 => (intro wx hSx; go_simp; try with_reducible rfl)
                    try simp only [Act.put, List.setIfInBounds_toArray, List.set_cons_zero, List.set_cons_succ]
                    refine held_take (i := 6) (v := ?vmc6) rfl (by kernel_rfl) (by kernel_rfl) (by kernel_rfl) (fun _ _ _ h => h) rfl ?hymc6 HS0 ?restmc6
                    case hymc6 => (intro wx hSx; go_simp; try with_reducible rfl)
                    try simp only [Act.put, List.setIfInBounds_toArray, List.set_cons_zero, List.set_cons_succ]
                    refine held_take (i := 7) (v := ?vmc7) rfl (by kernel_rfl) (by kernel_rfl) (by kernel_rfl) (fun _ _ _ h => h) rfl ?hymc7 HS0 ?restmc7
                    case hymc7 => (intro wx hSx; obtain ⟨hSb, hSr⟩ := hSx; obtain ⟨k1, k2⟩ := HCell.out wx hSr; clear hSb hSr; go_simp; try with_reducible rfl)
                    try simp only [Act.put, List.setIfInBounds_toArray, List.set_cons_zero, List.set_cons_succ]
                    refine held_take (i := 8) (v := ?vmc8) rfl (by kernel_rfl) (by kernel_rfl) (by kernel_rfl) (fun _ _ _ h => h) rfl ?hymc8 HS0 ?restmc8
                    case hymc8 => (intro wx hSx; obtain ⟨hSb, hSr⟩ := hSx; have b0 : wx.cell? ⟨mb, 0, none⟩ = some (.int .i64 mm.kd) := (hSb.2 0 (by decide)).1; have b1 : wx.cell? ⟨mb, 1, none⟩ = some (.int .i64 mm.fr) := (hSb.2 1 (by decide)).1; have b2 : wx.cell? ⟨mb, 2, none⟩ = some (.string mm.bd) := (hSb.2 2 (by decide)).1; have bl := hSb.1; clear hSb hSr; go_simp; try with_reducible rfl)
                    try simp only [Act.put, List.setIfInBounds_toArray, List.set_cons_zero, List.set_cons_succ]
                    refine held_one (i := 9) (by kernel_rfl) rfl rfl (fun K hK => ?_)
                    go_simp
                    refine (HTk.out _ HN0).mono ?_
                    rintro e y1 ⟨a1, c1, rfl, k1, k2, k3⟩
                    have HS1 : (S28 B mb mm (.slice (some ⟨pg, 0, none⟩) h pc) ps) y1 := ⟨HS0.1.keep k3.size (k3.block mb HS0.1.1 (HGm.out r u6)), k2.pt.row⟩
                    try go_simp
                    refine hK.out _ _ ⟨HS1, ?_⟩
                    clear hK K
                    try simp only [Act.put, List.setIfInBounds_toArray, List.set_cons_zero, List.set_cons_succ]
                    refine held_one (i := 10) (by kernel_rfl) rfl rfl (fun K hK => ?_)
                    go_simp
                    have HM1 : Hid (MsIs y1 (.slice a1 O.length c1) O) := by
                      have k1' := k1
                      rw [← Hol.out] at k1'
                      exact own_ms k1'
                    have HCo : Hid (Calls Try.prog 18 #[.slice xa xn xc, .int .i64 (h : Int), .int .i64 ((r : Int) + 1), .slice a1 ol c1] y1 fun e w' => ∃ a n c, e = .returned (.slice a n c) ∧ OS y1 (.slice a n c) (way2 ++ ont h ((r : Int) + 1) O) w') := by
                      have q := onto_any xa xn xc way2 h ((r : Int) + 1) a1 c1 O hh7 HO1.out (by have := HLn2.out; omega) y1 k2.wy HM1.out
                      rw [Hol.out] at q
                      exact q
                    refine HCo.out.mono ?_
                    rintro e y2 ⟨a2, n2, c2, rfl, hos⟩
                    have HS2 : (S28 B mb mm (.slice (some ⟨pg, 0, none⟩) h pc) ps) y2 := ⟨HS1.1.ext hos.2, own_ext HS1.2 hos.2⟩
                    have HNf : Hid (∃ ss way, NW B N T F h ps Gs (.slice (some ⟨pg, 0, none⟩) h pc) (i + 1) (.slice a2 n2 c2) y2 ss way) := ⟨_, _, Nn.set k2.pt hos.2 hos.1, HNt2.out, by rw [List.length_append, ont_len]; have := HLn2.out; have := HO1.out; have : O.length * h ≤ 1 * 7 := Nat.mul_le_mul HO1.out hh7; omega, HFw2.out⟩
                    try go_simp
                    refine hK.out _ _ ⟨HS2, ?_⟩
                    clear hK K
                    try simp only [Act.put, List.setIfInBounds_toArray, List.set_cons_zero, List.set_cons_succ]
                    refine held_take (i := 11) (v := ?vmc11) rfl (by kernel_rfl) (by kernel_rfl) (by kernel_rfl) (fun _ _ _ h => h) rfl ?hymc11 HS2 ?restmc11
                    case hymc11 => (intro wx hSx; go_simp; try with_reducible rfl)
                    try simp only [Act.put, List.setIfInBounds_toArray, List.set_cons_zero, List.set_cons_succ]
                    refine wpAnyH_done (by kernel_rfl) ?_ _
                    refine NoPanic.normal ?_
                    clear k1 k2 k3 hos HS0 HS1 HS2 HN0
                    go_wp2
                    go_roundw
                    case rel => exact ⟨i + 1, a2, n2, c2, hlt, by push_cast; rfl, rfl, HNf⟩
                    case measure => exact lp_meas hlt
                  · have dv : ¬ (0 : Int) < (vn : Int) := by omega
                    go_wp2
                    go_roundw
                    case rel => exact ⟨i + 1, va, vn, vc, hlt, by push_cast; rfl, rfl, ⟨ss, way, HYn.out.nn, HYn.out.net, by have := HYn.out.len; omega, fun e he => Nat.le_succ_of_le (HYn.out.few e he)⟩⟩
                    case measure => exact lp_meas hlt
              · have q1 : ¬ (i : Int) < (L : Int) := by omega
                have HNt : Hid (Net N T F ⟨#[120]⟩ ss way) := HNW.out.net
                have HPt : Hid (Pt B N T F ps ss Gs (.slice (some ⟨pg, 0, none⟩) h pc) wr) := HNW.out.nn.pt
                clear HNW hlt hi
                go_wp2_with fail
                go_loopw [15, 16, 17] (fun u15 u16 u17 wr => ∃ (k : Nat) (fb : ByteArray) (an : Bool), k ≤ h ∧ u17 = .int .i64 k ∧ u15 = .string fb ∧ u16 = .bool an ∧ Hid ((an = true → ∃ e, e < h ∧ (ss e).tb = some fb) ∧ Pt B N T F ps ss Gs (.slice (some ⟨pg, 0, none⟩) h pc) wr)) (fun _ _ u17 _ => h - (intOf u17).toNat)
                case atStart => exact ⟨0, ⟨#[]⟩, false, Nat.zero_le _, rfl, rfl, rfl, ⟨fun q => (by cases q), HPt.out⟩⟩
                case round =>
                  obtain ⟨k, fb, an, hk, rfl, rfl, rfl, HR⟩ := hrel
                  clear HPt
                  by_cases hkl : k < h
                  · obtain ⟨r1, r0, rw'⟩ := lp_nums k h hkl (by omega)
                    obtain ⟨pr, hpr⟩ : ∃ pr, ps[k]? = some pr := ⟨ps[k]'(by rw [Hps.out]; exact hkl), List.getElem?_eq_getElem _⟩
                    have HTo : Hid (Calls Try.prog 16 #[.pointer (some pr)] wr fun e w' => e = .returned (.tuple #[.string ((ss k).tb.getD ⟨#[]⟩), .bool (ss k).tb.isSome]) ∧ Ext wr w') := ltold_any (HR.out.2.each k pr hpr)
                    have c0 : wr.cell? ⟨pg, k, none⟩ = some (.pointer (some pr)) := by
                      have e1 : (pcs ps)[k]? = some (.pointer (some pr)) := by unfold pcs; rw [List.getElem?_map, hpr]; rfl
                      have := HR.out.2.row.cells (g := pg) rfl k _ e1
                      rw [add_at, Nat.zero_add] at this
                      exact this
                    have c1 := (HR.out.2.row.lt pg rfl).2
                    have rz : (0 : Int) ≤ (k : Int) := by omega
                    clear hpr
                    go_wp2_with fail
                    refine HTo.out.mono ?_
                    rintro e w4 ⟨rfl, hx4⟩
                    have HP4 : Hid (Pt B N T F ps ss Gs (.slice (some ⟨pg, 0, none⟩) h pc) w4) := HR.out.2.further hx4
                    obtain ⟨x0, x1, x2, x3⟩ := HBx.out _ HP4.out.ext
                    clear c0 c1 hx4 HTo
                    cases htb : (ss k).tb with
                    | none =>
                      have e1 : (none : Option ByteArray).getD ⟨#[]⟩ = ⟨#[]⟩ := rfl
                      have e2 : (none : Option ByteArray).isSome = false := rfl
                      clear htb
                      go_wp2
                      go_roundw
                      case rel => exact ⟨k + 1, fb, an, hkl, by push_cast; rfl, rfl, rfl, ⟨HR.out.1, HP4.out⟩⟩
                      case measure => exact lp_meas hkl
                    | some b =>
                      have e1 : (some b).getD ⟨#[]⟩ = b := rfl
                      have e2 : (some b).isSome = true := rfl
                      have Htb : Hid ((ss k).tb = some b) := htb
                      have HAg : Hid (an = true → fb = b) := fun q => by
                        obtain ⟨e, he, q2⟩ := HR.out.1 q
                        exact HNt.out.agree (by have := HT3.out; omega) (by rw [Hh.out]; exact he) (by rw [Hh.out]; exact hkl) q2 htb
                      have HXs : Hid (F ≤ h → b = ⟨#[120]⟩) := fun q => HNt.out.sent HT3.out.1 HT3.out.2.1 (by rw [Hh.out]; exact q) (by rw [Hh.out]; exact hkl) htb
                      clear htb
                      by_cases hFh : F ≤ h
                      · cases an with
                        | true =>
                          obtain rfl : fb = b := HAg.out rfl
                          obtain rfl : fb = ⟨#[120]⟩ := HXs.out hFh
                          have d82 : decide ((F : Int) ≤ (h : Int)) = true := decide_eq_true (by omega)
                          have d83 : (F : Int) ≤ (h : Int) := by omega
                          go_wp2
                          go_roundw
                          case rel => exact ⟨k + 1, ⟨#[120]⟩, true, hkl, by push_cast; rfl, rfl, rfl, ⟨fun _ => ⟨k, hkl, Htb.out⟩, HP4.out⟩⟩
                          case measure => exact lp_meas hkl
                        | false =>
                          obtain rfl : b = ⟨#[120]⟩ := HXs.out hFh
                          have d82 : decide ((F : Int) ≤ (h : Int)) = true := decide_eq_true (by omega)
                          have d83 : (F : Int) ≤ (h : Int) := by omega
                          go_wp2
                          go_roundw
                          case rel => exact ⟨k + 1, ⟨#[120]⟩, true, hkl, by push_cast; rfl, rfl, rfl, ⟨fun _ => ⟨k, hkl, Htb.out⟩, HP4.out⟩⟩
                          case measure => exact lp_meas hkl
                      · cases an with
                        | true =>
                          obtain rfl : fb = b := HAg.out rfl
                          have d82 : decide ((F : Int) ≤ (h : Int)) = false := decide_eq_false (by omega)
                          have d83 : ¬ (F : Int) ≤ (h : Int) := by omega
                          go_wp2
                          go_roundw
                          case rel => exact ⟨k + 1, fb, true, hkl, by push_cast; rfl, rfl, rfl, ⟨fun _ => ⟨k, hkl, Htb.out⟩, HP4.out⟩⟩
                          case measure => exact lp_meas hkl
                        | false =>
                          have d82 : decide ((F : Int) ≤ (h : Int)) = false := decide_eq_false (by omega)
                          have d83 : ¬ (F : Int) ≤ (h : Int) := by omega
                          go_wp2
                          go_roundw
                          case rel => exact ⟨k + 1, b, true, hkl, by push_cast; rfl, rfl, rfl, ⟨fun _ => ⟨k, hkl, Htb.out⟩, HP4.out⟩⟩
                          case measure => exact lp_meas hkl
                  · obtain rfl : h = k := by omega
                    have hnl : ¬ (h : Int) < (h : Int) := by omega
                    have HX4 : Hid (Ext w wr) := HB0.out.trans HR.out.2.ext
                    clear hkl HR
                    go_wp2_with fail
                    refine (awake_any _).mono ?_
                    rintro e wa ⟨rfl, HX⟩
                    have HEa : Hid (Ext w wa) := HX4.out.trans HX
                    clear HX
                    go_wp2
                    go_ret
                    exact ⟨rfl, HEa.out⟩
end Go.Proofs.Ytmibekclhnkhnaa
