/-
  Votes that a law made itself: what each call leaves of them. sandglasslaw21.few, awake, VotesNone, called.
-/
import Derived.Test.YtjgaggmacamgpaaRp
namespace Go.Proofs.Ytjgaggmacamgpaa
open Go.RowKit
/-- Votes made since w, apart from the blocks H; nothing of w has turned. -/
def LV (w : World) (v : Value) (N T : Nat) (L : List Vt) (H : Nat → Prop) (wr : World) : Prop :=
  (∃ G, VAt wr v N T L G ∧ From G w.heap.size ∧ Asunder G H) ∧ Ext w wr ∧ (∀ k, H k → k < wr.heap.size) ∧ InvV N L ∧ hasQ N T
section
variable {w W wy : World} {v : Value} {N T : Nat} {L : List Vt} {H H' : Nat → Prop}
theorem LV.old (h : LV w v N T L H W) : Ext w W := h.2.1
theorem LV.inv (h : LV w v N T L H W) : InvV N L := h.2.2.2.1
/-- Other blocks are watched. -/
theorem LV.more (h : LV w v N T L H W) (hx : Ext W wy) (hh : ∀ k, H' k → (H k ∨ W.heap.size ≤ k) ∧ k < wy.heap.size) : LV w v N T L H' wy := by
  obtain ⟨⟨G, h1, h2, h3⟩, h4, h5, h6⟩ := h
  refine ⟨⟨G, h1.ext hx, h2, fun k a b => ?_⟩, h4.trans hx, fun k q => (hh k q).2, h6⟩
  rcases (hh k b).1 with q | q
  · exact h3 k a q
  · have := h1.lt k a; omega
theorem LV.ext (h : LV w v N T L H W) (hx : Ext W wy) : LV w v N T L H wy := h.more hx fun k q => ⟨.inl q, Nat.lt_of_lt_of_le (h.2.2.1 k q) hx.size⟩
/-- Watched blocks may turn. -/
theorem LV.far (h : LV w v N T L H W) (hx : Chg H W wy) (hf : From H w.heap.size) : LV w v N T L H wy := by
  obtain ⟨⟨G, h1, h2, h3⟩, h4, h5, h6⟩ := h
  exact ⟨⟨G, h1.far hx h3, h2, h3⟩, Chg.ext h4 hf hx, fun k q => Nat.lt_of_lt_of_le (h5 k q) hx.size, h6⟩
theorem n7 (h : hasQ N T) : N ≤ 7 := by have := h.2.2.2; omega
theorem t2 (h : hasQ N T) : T ≤ 2 := by have := h.2.1; omega
/-- What Put leaves of them. -/
def LputP (w : World) (v : Value) (N T : Nat) (L : List Vt) (m : Vt) (H : Nat → Prop) (W : World) (e : Ending) (w' : World) : Prop := e = .returned (.bool (okV N L m)) ∧ LV w v N T (putV N L m) H w' ∧ (∀ k, H k → w'.heap[k]? = W.heap[k]?) ∧ W.heap.size ≤ w'.heap.size
theorem lput_any (kd fr rd va : Int) (vl : ByteArray) (hl : L.length ≤ 1000) (hk : (Lit.int .i64 kd).wf = true) (hr : (Lit.int .i64 rd).wf = true) (h : LV w v N T L H W) :
    Calls Try.prog 12 #[v, .agg #[.int .i64 kd, .int .i64 fr, .int .i64 rd, .int .i64 va, .string vl]] W fun e w' => LputP w v N T L ⟨kd, fr, rd, va, vl⟩ H W e w' := by
  obtain ⟨⟨G, ⟨b, bm, sl, rfl, h1, rfl⟩, h2, h3⟩, h4, h5, h6, h7⟩ := h
  refine (vput_any ⟨kd, fr, rd, va, vl⟩ h6 (n7 h7) hl hk hr W h1).mono ?_
  rintro e w' ⟨sl', rfl, q1, q2, q3⟩
  refine ⟨rfl, ⟨⟨_, ⟨b, bm, sl', rfl, q1, rfl⟩, q3.from h2 h4.size, q3.apart h3 h5⟩, Chg.ext h4 h2 q2, fun k q => Nat.lt_of_lt_of_le (h5 k q) q2.size, inv_put h6 _, h7⟩, fun k q => q2.block k (h5 k q) (fun z => h3 k z q), q2.size⟩
theorem lany_any {k r : Int} (hk : (Lit.int .i64 k).wf = true) (hr : (Lit.int .i64 r).wf = true) (h : LV w v N T L H W) : Calls Try.prog 17 #[v, .int .i64 k, .int .i64 r] W fun e w' => e = .returned (.int .i64 (anyV L k r : Int)) ∧ Ext W w' := by
  obtain ⟨⟨G, ⟨b, bm, sl, rfl, h1, rfl⟩, _⟩, _, _, h6, h7⟩ := h
  exact vany_any h6 (n7 h7) hk hr W h1
theorem lcount_any {k r : Int} (B : ByteArray) (hk : (Lit.int .i64 k).wf = true) (hr : (Lit.int .i64 r).wf = true) (h : LV w v N T L H W) : Calls Try.prog 15 #[v, .int .i64 k, .int .i64 r, .string B] W fun e w' => e = .returned (.int .i64 (cntV L k r B : Int)) ∧ Ext W w' := by
  obtain ⟨⟨G, ⟨b, bm, sl, rfl, h1, rfl⟩, _⟩, _, _, h6, h7⟩ := h
  exact vcount_any B h6 (n7 h7) hk hr W h1
theorem lmost_any {k r : Int} (hk : (Lit.int .i64 k).wf = true) (hr : (Lit.int .i64 r).wf = true) (h : LV w v N T L H W) : Calls Try.prog 13 #[v, .int .i64 k, .int .i64 r] W fun e w' => MostR N T L k r W e w' := by
  obtain ⟨⟨G, ⟨b, bm, sl, rfl, h1, rfl⟩, _⟩, _, _, h6, h7⟩ := h
  exact vmost_any h6 (n7 h7) (t2 h7) hk hr W h1
theorem lahead_any (q : Int) (h : LV w v N T L H W) : Calls Try.prog 19 #[v, .int .i64 q] W fun e w' => e = .returned (.int .i64 (aheadV N T L q)) ∧ Ext W w' := by
  obtain ⟨⟨G, ⟨b, bm, sl, rfl, h1, rfl⟩, _⟩, _, _, h6, h7⟩ := h
  exact vahead_any h6 (n7 h7) W h1
/-- What New leaves. -/
def LnewP (w : World) (N T : Nat) (W : World) (e : Ending) (w' : World) : Prop := ∃ a, e = .returned (.pointer (some a)) ∧ LV w (.pointer (some a)) N T [] (fun _ => False) w' ∧ Ext W w'
theorem lnew_any (N T : Nat) (h : hasQ N T) (w W : World) (hx : Ext w W) : Calls Try.prog 9 #[.int .i64 (N : Int), .int .i64 (T : Int)] W fun e w' => LnewP w N T W e w' := by
  refine (vnew_good N T h W).mono ?_
  rintro e w' ⟨v, G, rfl, h1, h2, h3⟩
  obtain ⟨a, rfl⟩ := h1.form
  exact ⟨a, rfl, ⟨⟨G, h1, fun k q => Nat.le_trans hx.size (h2 k q), fun _ _ q => q⟩, hx.trans h3, fun _ q => q.elim, inv_nil N, h⟩, h3⟩
end
/-- What few tells. -/
def FewP (L : List Vt) (w : World) (e : Ending) (w' : World) : Prop := ∃ b : Bool, e = .returned (.bool b) ∧ (b = true → L.length ≤ 60) ∧ Ext w w'
set_option maxHeartbeats 1000000 in
theorem few_any (v : Value) (L : List Vt) (w : World) (hL : WsIs w v L) : Calls Try.prog 7 #[v] w fun e w' => FewP L w e w' := by
  have HL0 : Hid (WsIs w v L) := hL
  obtain ⟨a, cap, rfl, _⟩ := hL
  have HE0 : Hid (Ext w w) := Ext.refl w
  obtain ⟨n, HN⟩ : ∃ n, Hid (L.length = n) := ⟨_, rfl⟩
  have HL := HL0
  rw [HN.out] at HL ⊢
  clear HL0
  by_cases hn : 60 < n
  · have h1 : (60 : Int) < (n : Int) := by omega
    go_enter Try.func7, Try.ntmps7
    go_wp2
    go_ret
    exact ⟨false, rfl, fun q => (by cases q), HE0.out⟩
  · have h1 : ¬ (60 : Int) < (n : Int) := by omega
    have Hn : Hid (n ≤ 60) := by show _ ≤ _; omega
    clear hn
    go_enter Try.func7, Try.ntmps7
    go_wp2
    go_loopw [3] (fun u3 wr => ∃ j : Nat, j ≤ n ∧ u3 = .int .i64 j ∧ Hid (Ext w wr)) (fun u3 _ => n - (intOf u3).toNat)
    case atStart => exact ⟨0, Nat.zero_le _, rfl, HE0⟩
    case round =>
      obtain ⟨j, hk, rfl, HE⟩ := hrel
      clear HE0
      by_cases hlt : j < n
      · obtain ⟨q1, q0, qw⟩ := lp_nums j n hlt (by have := Hn.out; omega)
        obtain ⟨m, hm⟩ : ∃ m, L[j]? = some m := ⟨L[j]'(by rw [HN.out]; exact hlt), List.getElem?_eq_getElem _⟩
        have HL2 : WsIs wr (.slice a L.length cap) L := by rw [HN.out]; exact HL.out.ext HE.out
        obtain ⟨g, o, rfl, hbl, hd0, hd1, hd2, hd3, hd4⟩ := HL2.get hm
        clear HL2 hm hd0 hd1 hd2 hd3
        by_cases hbig : (5000 : Int) < (m.vl.size : Int)
        · go_wp2
          go_ret
          exact ⟨false, rfl, fun q => (by cases q), HE.out⟩
        · go_wp2
          go_roundw
          case rel => exact ⟨j + 1, hlt, by push_cast; rfl, HE⟩
          case measure => exact lp_meas hlt
      · obtain rfl : j = n := by omega
        have hnl : ¬ (j : Int) < (j : Int) := by omega
        go_wp2
        go_ret
        exact ⟨true, rfl, fun _ => by rw [HN.out]; exact Hn.out, HE.out⟩
/-- The example. -/
def aS : ByteArray := ⟨#[97]⟩
def bS : ByteArray := ⟨#[98]⟩
def awL : Nat → List Vt
  | 0 => []
  | j + 1 => putV 4 (awL j) ⟨2, (j : Int) + 1, 2, 0, aS⟩
theorem awL_len : ∀ j, (awL j).length ≤ j
  | 0 => Nat.le_refl _
  | j + 1 => Nat.le_trans (put_len 4 (awL j) _) (by have := awL_len j; omega)
theorem awL_inv : ∀ j, InvV 4 (awL j)
  | 0 => inv_nil 4
  | j + 1 => inv_put (awL_inv j) _
theorem aw_ok (j : Nat) (h : j < 3) : okV 4 (awL j) ⟨2, (j : Int) + 1, 2, 0, aS⟩ = true := by
  have : j = 0 ∨ j = 1 ∨ j = 2 := by omega
  rcases this with rfl | rfl | rfl <;> decide +kernel
theorem aw_no : okV 4 (awL 3) ⟨2, 1, 2, 0, bS⟩ = false := by decide +kernel
theorem aw_cnt : cntV (awL 3) 2 2 aS = 3 := by decide +kernel
theorem aw_any : anyV (awL 3) 2 2 = 3 := by decide +kernel
theorem aw_ahd0 : aheadV 4 1 (awL 3) 0 = 2 := by decide +kernel
theorem aw_ahd2 : aheadV 4 1 (awL 3) 2 = -1 := by decide +kernel
theorem aw_most {s : ByteArray} {b : Bool} (h : MostP (qmV 4 1) (awL 3) 2 2 s b) : s = aS ∧ b = true := most_same (awL_inv 3) h (.inl ⟨rfl, by rw [aw_cnt]; decide⟩)
theorem hasQ41 : hasQ ((4 : Nat) : Int) ((1 : Nat) : Int) := by decide
theorem notQ31 : ¬ hasQ 3 1 := by decide
set_option maxRecDepth 10000 in
set_option maxHeartbeats 2000000 in
theorem awake_any (w : World) : Calls Try.prog 8 #[] w fun e w' => e = .returned (.bool true) ∧ Ext w w' := by
  have HE0 : Hid (Ext w w) := Ext.refl w
  go_enter Try.func8, Try.ntmps8
  go_wp2_with fail
  refine (lnew_any 4 1 hasQ41 w w HE0.out).mono ?_
  rintro e w1 ⟨va, rfl, HV, HX⟩
  have HV1 : Hid (LV w (.pointer (some va)) 4 1 [] (fun _ => False) w1) := HV
  clear HV HX
  go_wp2_with fail
  refine (vnew_bad 3 1 notQ31 _).mono ?_
  rintro e w2 ⟨rfl, HX⟩
  have HV2 : Hid (LV w (.pointer (some va)) 4 1 (awL 0) (fun _ => False) w2) := HV1.out.ext HX
  clear HX HV1
  go_wp2_with fail
  go_loopw [2] (fun u2 wr => ∃ j : Nat, j ≤ 3 ∧ u2 = .int .i64 ((j : Int) + 1) ∧ Hid (LV w (.pointer (some va)) 4 1 (awL j) (fun _ => False) wr)) (fun u2 _ => 4 - (intOf u2).toNat)
  case atStart => exact ⟨0, by decide, rfl, HV2⟩
  case round =>
    obtain ⟨j, hj, rfl, HV⟩ := hrel
    clear HV2
    by_cases hlt : (j : Int) + 1 ≤ 3
    · have hj3 : j < 3 := by omega
      have qw : IntKind.i64.wrap ((j : Int) + 1 + 1) = (j : Int) + 1 + 1 := by rw [IntKind.wrap_i64]; omega
      have Hm : Hid (4 - (intOf (.int .i64 ((j : Int) + 1 + 1))).toNat < 4 - (intOf (.int .i64 ((j : Int) + 1))).toNat) := by show _ < _; simp [intOf]; omega
      have Hok : Hid (okV 4 (awL j) ⟨2, (j : Int) + 1, 2, 0, aS⟩ = true) := aw_ok j hj3
      have HP : Hid (Calls Try.prog 12 #[.pointer (some va), .agg #[.int .i64 2, .int .i64 ((j : Int) + 1), .int .i64 2, .int .i64 0, .string ⟨#[97]⟩]] wr fun e w' => LputP w (.pointer (some va)) 4 1 (awL j) ⟨2, (j : Int) + 1, 2, 0, aS⟩ (fun _ => False) wr e w') := lput_any 2 ((j : Int) + 1) 2 0 aS (by have := awL_len j; omega) wf2 wf2 HV.out
      go_wp2_with fail
      refine HP.out.mono ?_
      rintro e w3 ⟨rfl, HV3, _, _⟩
      rw [Hok.out]
      have HV4 : Hid (LV w (.pointer (some va)) 4 1 (awL (j + 1)) (fun _ => False) w3) := HV3
      clear HV3 HP HV Hok
      go_wp2
      go_roundw
      case rel => exact ⟨j + 1, hj3, by push_cast; rfl, HV4⟩
      case measure => exact Hm.out
    · obtain rfl : j = 3 := by omega
      have hle : decide ((3 : Int) + 1 ≤ 3) = false := by decide
      clear hlt hj
      go_wp2_with fail
      refine (lmost_any wf2 wf2 HV.out).mono ?_
      rintro e w3 ⟨s, b, rfl, hm, HX⟩
      obtain ⟨rfl, rfl⟩ := aw_most hm
      have HV3 : Hid (LV w (.pointer (some va)) 4 1 (awL 3) (fun _ => False) w3) := HV.out.ext HX
      clear HX HV hm
      have HP : Hid (Calls Try.prog 12 #[.pointer (some va), .agg #[.int .i64 2, .int .i64 1, .int .i64 2, .int .i64 0, .string ⟨#[98]⟩]] w3 fun e w' => LputP w (.pointer (some va)) 4 1 (awL 3) ⟨2, 1, 2, 0, bS⟩ (fun _ => False) w3 e w') := lput_any 2 1 2 0 bS (by have := awL_len 3; omega) wf2 wf2 HV3.out
      go_wp2_with fail
      refine HP.out.mono ?_
      rintro e w4 ⟨rfl, HV4', _, _⟩
      rw [aw_no]
      have HV4 : Hid (LV w (.pointer (some va)) 4 1 (awL 3) (fun _ => False) w4) := by rw [put_no aw_no] at HV4'; exact HV4'
      clear HV4' HV3 HP
      have ha : (aS.toList == [97]) = true := by rw [ByteArray.toList_eq]; rfl
      have HCt : Hid (∀ W, LV w (.pointer (some va)) 4 1 (awL 3) (fun _ => False) W → Calls Try.prog 15 #[.pointer (some va), .int .i64 2, .int .i64 2, .string ⟨#[97]⟩] W fun e w' => e = .returned (.int .i64 3) ∧ Ext W w') := fun W h => by have := lcount_any aS wf2 wf2 h; rw [aw_cnt] at this; exact this
      have HAn : Hid (∀ W, LV w (.pointer (some va)) 4 1 (awL 3) (fun _ => False) W → Calls Try.prog 17 #[.pointer (some va), .int .i64 2, .int .i64 2] W fun e w' => e = .returned (.int .i64 3) ∧ Ext W w') := fun W h => by have := lany_any wf2 wf2 h; rw [aw_any] at this; exact this
      have HA0 : Hid (∀ W, LV w (.pointer (some va)) 4 1 (awL 3) (fun _ => False) W → Calls Try.prog 19 #[.pointer (some va), .int .i64 0] W fun e w' => e = .returned (.int .i64 2) ∧ Ext W w') := fun W h => by have := lahead_any 0 h; rw [aw_ahd0] at this; exact this
      have HA2 : Hid (∀ W, LV w (.pointer (some va)) 4 1 (awL 3) (fun _ => False) W → Calls Try.prog 19 #[.pointer (some va), .int .i64 2] W fun e w' => e = .returned (.int .i64 (-1)) ∧ Ext W w') := fun W h => by have := lahead_any 2 h; rw [aw_ahd2] at this; exact this
      go_wp2_with fail
      refine (HCt.out _ HV4.out).mono ?_
      rintro e w5 ⟨rfl, HX⟩
      have HV5 : Hid (LV w (.pointer (some va)) 4 1 (awL 3) (fun _ => False) w5) := HV4.out.ext HX
      clear HX HV4
      go_wp2_with fail
      refine (HAn.out _ HV5.out).mono ?_
      rintro e w6 ⟨rfl, HX⟩
      have HV6 : Hid (LV w (.pointer (some va)) 4 1 (awL 3) (fun _ => False) w6) := HV5.out.ext HX
      clear HX HV5
      go_wp2_with fail
      refine (HA0.out _ HV6.out).mono ?_
      rintro e w7 ⟨rfl, HX⟩
      have HV7 : Hid (LV w (.pointer (some va)) 4 1 (awL 3) (fun _ => False) w7) := HV6.out.ext HX
      clear HX HV6
      go_wp2_with fail
      refine (HA2.out _ HV7.out).mono ?_
      rintro e w8 ⟨rfl, HX⟩
      have HV8 : Hid (LV w (.pointer (some va)) 4 1 (awL 3) (fun _ => False) w8) := HV7.out.ext HX
      clear HX HV7
      go_wp2
      go_ret
      exact ⟨rfl, HV8.out.old⟩
set_option maxRecDepth 10000 in
set_option maxHeartbeats 2000000 in
theorem votesNone_any (m : Vt) (w : World) : Calls Try.prog 6 #[wv m] w fun e w' => e = .returned (.bool true) ∧ Ext w w' := by
  obtain ⟨kd, fr, rd, va, vl⟩ := m
  have HE0 : Hid (Ext w (w.alloc (.cells #[.int .i64 kd, .int .i64 fr, .int .i64 rd, .int .i64 va, .string vl] 32))) := (Ext.refl w).alloc _
  have HB0 : Hid (Blk (w.alloc (.cells #[.int .i64 kd, .int .i64 fr, .int .i64 rd, .int .i64 va, .string vl] 32)) w.heap.size 5 (wg kd fr rd va vl)) := Blk.new w _ _ (fun j hj => by
    have : j = 0 ∨ j = 1 ∨ j = 2 ∨ j = 3 ∨ j = 4 := by omega
    rcases this with rfl | rfl | rfl | rfl | rfl <;> rfl)
  have HC : Hid (∀ W, Ext (w.alloc (.cells #[.int .i64 kd, .int .i64 fr, .int .i64 rd, .int .i64 va, .string vl] 32)) W → W.cell? ⟨w.heap.size, 0, none⟩ = some (.int .i64 kd) ∧ W.cell? ⟨w.heap.size, 1, none⟩ = some (.int .i64 fr) ∧ W.cell? ⟨w.heap.size, 2, none⟩ = some (.int .i64 rd) ∧ W.cell? ⟨w.heap.size, 3, none⟩ = some (.int .i64 va) ∧ W.cell? ⟨w.heap.size, 4, none⟩ = some (.string vl) ∧ w.heap.size < W.heap.size) := fun W hW => ⟨((HB0.out.ext hW).2 0 (by decide)).1, ((HB0.out.ext hW).2 1 (by decide)).1, ((HB0.out.ext hW).2 2 (by decide)).1, ((HB0.out.ext hW).2 3 (by decide)).1, ((HB0.out.ext hW).2 4 (by decide)).1, (HB0.out.ext hW).1⟩
  clear HB0
  have he : ((⟨#[]⟩ : ByteArray).toList == (⟨#[]⟩ : ByteArray).toList) = true := toList_same rfl
  go_enter Try.func6, Try.ntmps6
  go_wp2_with fail
  obtain ⟨W0, hW0⟩ : ∃ W0, w.alloc (.cells #[.int .i64 kd, .int .i64 fr, .int .i64 rd, .int .i64 va, .string vl] 32) = W0 := ⟨_, rfl⟩
  rw [hW0] at HE0 HC ⊢
  clear hW0
  refine (vmost_nil kd rd _).mono ?_
  rintro e w1 ⟨rfl, HX⟩
  have HX1 : Hid (Ext W0 w1) := HX
  obtain ⟨c0, c1, c2, c3, c4, cl⟩ := HC.out _ HX
  clear HX
  go_wp2_with fail
  refine (vput_nil ⟨kd, fr, rd, va, vl⟩ _).mono ?_
  rintro e w2 ⟨rfl, HX⟩
  have HX2 : Hid (Ext W0 w2) := HX1.out.trans HX
  clear HX HX1 c0 c1 c2 c3 c4 cl
  obtain ⟨c0, c1, c2, c3, c4, cl⟩ := HC.out _ HX2.out
  go_wp2_with fail
  refine (vcount_nil kd rd vl _).mono ?_
  rintro e w3 ⟨rfl, HX⟩
  have HX3 : Hid (Ext W0 w3) := HX2.out.trans HX
  clear HX HX2 c0 c1 c2 c3 c4 cl
  obtain ⟨c0, c1, c2, c3, c4, cl⟩ := HC.out _ HX3.out
  go_wp2_with fail
  refine (vany_nil kd rd _).mono ?_
  rintro e w4 ⟨rfl, HX⟩
  have HX4 : Hid (Ext W0 w4) := HX3.out.trans HX
  clear HX HX3 c0 c1 c2 c3 c4 cl
  obtain ⟨c0, c1, c2, c3, c4, cl⟩ := HC.out _ HX4.out
  go_wp2_with fail
  refine (vahead_nil rd _).mono ?_
  rintro e w5 ⟨rfl, HX⟩
  have HX5 : Hid (Ext W0 w5) := HX4.out.trans HX
  clear HX HX4 c0 c1 c2 c3 c4 cl
  go_wp2_with fail
  refine (awake_any _).mono ?_
  rintro e w6 ⟨rfl, HX⟩
  have HX6 : Hid (Ext W0 w6) := HX5.out.trans HX
  clear HX HX5
  go_wp2
  go_ret
  exact ⟨rfl, HE0.out.trans HX6.out⟩
end Go.Proofs.Ytjgaggmacamgpaa
