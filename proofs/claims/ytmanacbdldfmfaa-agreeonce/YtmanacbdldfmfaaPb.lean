/-
 votes.added, called: the piles with one vote more.
-/
import Derived.Test.YtmanacbdldfmfaaAp
namespace Go.Proofs.Ytmanacbdldfmfaa
set_option maxRecDepth 10000
open Go.RowKit
attribute [local go_sem] run_store_complex
/-- A vote more: one to its own pile, one to others'. -/
def up (B : ByteArray) (p : Pile) : Pile := if p.1 = B then (p.1, p.2.1 + 1, p.2.2) else (p.1, p.2.1, p.2.2 + 1)
/-- With a pile of the value. -/
def addP (P : List Pile) (a : Nat) (B : ByteArray) : List Pile := if ∃ p ∈ P, p.1 = B then P else P ++ [(B, 0, a)]
/-- The first i have a vote more. -/
def mix (B : ByteArray) (P : List Pile) (i : Nat) : List Pile := (P.take i).map (up B) ++ P.drop i
theorem mix_zero (B : ByteArray) (P : List Pile) : mix B P 0 = P := by simp [mix]
theorem mix_all (B : ByteArray) (P : List Pile) : mix B P P.length = P.map (up B) := by simp [mix]
theorem mix_len (B : ByteArray) (P : List Pile) (i : Nat) : (mix B P i).length = P.length := by simp [mix]; omega
theorem mix_get {B : ByteArray} {P : List Pile} {j : Nat} {p : Pile} (h : P[j]? = some p) : (mix B P j)[j]? = some p := by
 have hl : j < P.length := (List.getElem?_eq_some_iff.1 h).1
 unfold mix
 rw [List.getElem?_append_right (by simp; omega)]
 simp [Nat.min_eq_left (Nat.le_of_lt hl), h]
theorem mix_set {B : ByteArray} {P : List Pile} {j : Nat} {p : Pile} (h : P[j]? = some p) : (mix B P j).set j (up B p) = mix B P (j + 1) := by
 have hl : j < P.length := (List.getElem?_eq_some_iff.1 h).1
 unfold mix
 rw [List.set_append_right _ _ (by simp; omega), List.take_add_one, h, List.map_append, List.append_assoc]
 congr 1
 rw [List.length_map, List.length_take, Nat.min_eq_left (Nat.le_of_lt hl), Nat.sub_self, List.drop_eq_getElem_cons hl]
 have := (List.getElem?_eq_some_iff.1 h).2
 rfl
/-- While the piles are counted up: g: their block; b: that of the value. -/
structure LS (F : Nat → Prop) (w : World) (b g n cap : Nat) (P : List Pile) (B : ByteArray) (i : Nat) (wx : World) : Prop where
 row : wx.ownsRow 0 100 2 (.slice (some ⟨g, 0, none⟩) n cap) n (pcl (mix B P i))
 val : wx.cell? ⟨b, 0, none⟩ = some (.string B)
 lt : b < wx.heap.size
 chg : Chg F w wx
theorem LS.drew {F : Nat → Prop} {w wx : World} {b g n cap : Nat} {P : List Pile} {B : ByteArray} {i : Nat} (h : LS F w b g n cap P B i wx) (q : Nat) : LS F w b g n cap P B i (wx.drewN q) := ⟨own_ext h.row ((Ext.refl wx).drewN q), later ((Ext.refl wx).drewN q) h.val, Nat.lt_of_lt_of_le h.lt ((Ext.refl wx).drewN q).size, h.chg.thenExt ((Ext.refl wx).drewN q)⟩
theorem LS.get {F : Nat → Prop} {w wx : World} {b g n cap : Nat} {P : List Pile} {B : ByteArray} {j : Nat} (h : LS F w b g n cap P B j wx) (hn : P.length = n) {v : ByteArray} {x y : Nat} (hj : P[j]? = some (v, x, y)) :
  wx.cell? ⟨g, j * 2, none⟩ = some (.string v) ∧ wx.cell? ⟨g, j * 2 + 1, none⟩ = some (.complex .f64 (fb x) (fb y)) ∧ wx.frozen? ⟨g, j * 2 + 1, none⟩ = false ∧ g < wx.heap.size := by
 have hl : j < P.length := (List.getElem?_eq_some_iff.1 hj).1
 obtain ⟨q0, q1⟩ := pcl_get _ (mix_get (B := B) hj)
 have c0 := World.ownsRow.cellAt h.row (j * 2) (by omega)
 have c1 := World.ownsRow.cellAt h.row (j * 2 + 1) (by omega)
 exact ⟨c0.trans q0, c1.trans q1, World.ownsRow.frozenAt h.row _, (h.row.lt g rfl).2⟩
theorem LS.put {F : Nat → Prop} {w wx : World} {b g n cap : Nat} {P : List Pile} {B : ByteArray} {j : Nat} (h : LS F w b g n cap P B j wx) {v : ByteArray} {x y x' y' : Nat} (hj : P[j]? = some (v, x, y)) (hu : up B (v, x, y) = (v, x', y')) (hbg : b ≠ g) (hF : F g ∨ w.heap.size ≤ g) :
  LS F w b g n cap P B (j + 1) (wx.setCell ⟨g, j * 2 + 1, none⟩ (.complex .f64 (fb x') (fb y'))) := by
 refine ⟨?_, ?_, ?_, ?_⟩
 ·have := (World.ownsRow.stored h.row (j * 2 + 1) (.complex .f64 (fb x') (fb y'))).1
  rw [pcl_set _ j v x y x' y' (mix_get hj), ← hu, mix_set hj] at this
  exact this
 ·rw [World.cell?_setCell_other _ _ _ _ (fun q => hbg (by first | exact congrArg Addr.block q | exact (congrArg Addr.block q).symm))]; exact h.val
 ·simpa using h.lt
 ·exact h.chg.st hF
/-- What added leaves. -/
def AddP (w : World) (u : Value) (P : List Pile) (a : Nat) (B : ByteArray) (e : Ending) (w' : World) : Prop :=
 ∃ u', e = .returned u' ∧ Pl w' u' ((addP P a B).map (up B)) ∧ Chg (fun k => u.ownBlock = some k) w w' ∧ (u'.ownBlock = u.ownBlock ∨ ∃ k, u'.ownBlock = some k ∧ w.heap.size ≤ k)
theorem num2 {j n : Nat} (h : j < n) (hn : n ≤ 1000) : (j : Int) < (n : Int) ∧ (0 : Int) ≤ (j : Int) ∧ IntKind.i64.wrap ((j : Int) + 1) = (j : Int) + 1 := lp_nums j n h (by omega)
set_option maxRecDepth 10000 in
set_option maxHeartbeats 2000000 in
theorem added_in {P1 : List Pile} {a g n cap : Nat} (B : ByteArray) (hin : ∃ p ∈ P1, p.1 = B) (hs : ∀ p ∈ P1, p.2.1 + p.2.2 = a) (ha : a ≤ 7) (hn : P1.length = n) (hn2 : n ≤ 1000) (w : World) (hu : Pl w (.slice (some ⟨g, 0, none⟩) n cap) P1) : Calls Try.prog 53 #[.slice (some ⟨g, 0, none⟩) n cap, .string B] w fun e w' => AddP w (.slice (some ⟨g, 0, none⟩) n cap) P1 a B e w' := by
 obtain ⟨U, HU⟩ : ∃ U, Hid (U = Value.slice (some ⟨g, 0, none⟩) n cap) := ⟨_, rfl⟩
 have HSm : Hid (∀ p ∈ P1, p.2.1 + p.2.2 = a) := hs
 have Ha : Hid (a ≤ 7) := ha
 have HN : Hid (P1.length = n) := hn
 have HN2 : Hid (n ≤ 1000) := hn2
 have hglt : g < w.heap.size := (hu.lt g rfl).2
 have Hbg : Hid (w.heap.size ≠ g) := by show _ ≠ _; omega
 have HF : Hid (Value.ownBlock U = some g ∨ w.heap.size ≤ g) := by show _ ∨ _; rw [HU.out]; exact .inl rfl
 have HPl : Hid (Pl w (.slice (some ⟨g, 0, none⟩) n cap) P1) := hu
 have HEnd : Hid (∀ W, LS (fun k => Value.ownBlock U = some k) w w.heap.size g n cap P1 B n W → AddP w (.slice (some ⟨g, 0, none⟩) n cap) P1 a B (.returned (.slice (some ⟨g, 0, none⟩) n cap)) W) := fun W h => by
  refine ⟨_, rfl, ?_, ?_, .inl rfl⟩
  ·unfold addP
   rw [if_pos hin, ← mix_all, HN.out]
   unfold Pl
   rw [mix_len, HN.out]
   exact h.row
  ·rw [← HU.out]; exact h.chg
 have Hin : Hid (decide (∃ p ∈ P1, p.1 = B) = true) := decide_eq_true hin
 clear hin hs ha hn hn2 hu hglt
 go_enter Try.func53, Try.ntmps53
 go_wp2_with fail
 have HX0 : Hid (Ext w (w.alloc (.cells #[.string B] 9))) := (Ext.refl w).alloc _
 refine (contains_any (P := P1) (.slice (some ⟨g, 0, none⟩) n cap) B w.heap.size (by have := HN.out; have := HN2.out; omega) (w.alloc (.cells #[.string B] 9)) (HPl.out.ext HX0.out) (by simp) (by rw [World.cell?_alloc_at _ _ _ _ (by rfl)]; rfl)).mono ?_
 rintro e w1 ⟨rfl, HX⟩
 rw [Hin.out]
 have HS : Hid (LS (fun k => Value.ownBlock U = some k) w w.heap.size g n cap P1 B 0 w1) := by
  refine ⟨?_, later HX (by rw [World.cell?_alloc_at _ _ _ _ (by rfl)]; rfl), ?_, (Chg.of_ext _ (HX0.out.trans HX))⟩
  ·have := (HPl.out.ext (HX0.out.trans HX))
   unfold Pl at this
   rw [HN.out] at this
   rw [mix_zero]
   exact this
  ·have := HX.size
   simp at this
   omega
 clear HX HPl Hin HX0
 go_wp2
 go_loopw [21] (fun u21 wr => ∃ j : Nat, j ≤ n ∧ u21 = .int .i64 j ∧ Hid (LS (fun k => Value.ownBlock U = some k) w w.heap.size g n cap P1 B j wr)) (fun u21 _ => n - (intOf u21).toNat)
 case atStart => exact ⟨0, Nat.zero_le _, rfl, HS⟩
 case round =>
  obtain ⟨j, hj, rfl, HL⟩ := hrel
  clear HS
  by_cases hlt : j < n
  ·obtain ⟨q1, q0, qw⟩ := num2 hlt HN2.out
   obtain ⟨v, x, y, hv⟩ : ∃ v x y, Hid (P1[j]? = some (v, x, y)) := by
    have hl : j < P1.length := by rw [HN.out]; exact hlt
    exact ⟨P1[j].1, P1[j].2.1, P1[j].2.2, List.getElem?_eq_getElem hl⟩
   have Hxy : Hid (x + y = a) := HSm.out (v, x, y) (List.mem_of_getElem? hv.out)
   obtain ⟨c0, c1, z1, hg⟩ := HL.out.get HN.out hv.out
   have cv := HL.out.val
   have cl := HL.out.lt
   by_cases hB : v = B
   ·have hd := toList_same hB
    have ho := run_own (a := x) (b := y) (by have := Hxy.out; have := Ha.out; omega) (by have := Hxy.out; have := Ha.out; omega)
    have HL2 : Hid (∀ q, LS (fun k => Value.ownBlock U = some k) w w.heap.size g n cap P1 B (j + 1) ((wr.drewN q).setCell ⟨g, j * 2 + 1, none⟩ (.complex .f64 (fb (x + 1)) (fb y)))) := fun q => (HL.out.drew q).put hv.out (if_pos hB) Hbg.out HF.out
    clear hB
    go_wp2_with fail
    go_quiet (fail)
    go_wp2
    go_roundw
    case rel => exact ⟨j + 1, hlt, by push_cast; rfl, HL2.out _⟩
    case measure => exact lp_meas hlt
   ·have hd := toList_ne hB
    have ho := run_oth (a := x) (b := y) (by have := Hxy.out; have := Ha.out; omega) (by have := Hxy.out; have := Ha.out; omega)
    have HL2 : Hid (∀ q, LS (fun k => Value.ownBlock U = some k) w w.heap.size g n cap P1 B (j + 1) ((wr.drewN q).setCell ⟨g, j * 2 + 1, none⟩ (.complex .f64 (fb x) (fb (y + 1))))) := fun q => (HL.out.drew q).put hv.out (if_neg hB) Hbg.out HF.out
    clear hB
    go_wp2_with fail
    go_quiet (fail)
    go_wp2
    go_roundw
    case rel => exact ⟨j + 1, hlt, by push_cast; rfl, HL2.out _⟩
    case measure => exact lp_meas hlt
  ·obtain rfl : j = n := by omega
   have hnl : ¬ (j : Int) < (j : Int) := by omega
   go_wp2
   go_ret
   exact HEnd.out _ HL.out

set_option maxRecDepth 10000 in
set_option maxHeartbeats 2000000 in
theorem added_new {P : List Pile} {a : Nat} (p0 : Option Addr) (n0 c0' : Nat) (B : ByteArray) (hin : ¬ ∃ p ∈ P, p.1 = B) (hs : ∀ p ∈ P, p.2.1 + p.2.2 = a) (h0 : P = [] → a = 0) (ha : a ≤ 7) (hn2 : P.length ≤ 900) (hB : B.size ≤ 100000) (w : World) (hu : Pl w (.slice p0 n0 c0') P) : Calls Try.prog 53 #[.slice p0 n0 c0', .string B] w fun e w' => AddP w (.slice p0 n0 c0') P a B e w' := by
 obtain ⟨U, HU⟩ : ∃ U, Hid (U = Value.slice p0 n0 c0') := ⟨_, rfl⟩
 have HPl : Hid (Pl w (.slice p0 n0 c0') P) := hu
 have Hin : Hid (¬ ∃ p ∈ P, p.1 = B) := hin
 have Hs0 : Hid (∀ p ∈ P, p.2.1 + p.2.2 = a) := hs
 have H0 : Hid (P = [] → a = 0) := h0
 have Ha : Hid (a ≤ 7) := ha
 have HN0 : Hid (P.length ≤ 900) := hn2
 have HB : Hid (B.size ≤ 100000) := hB
 have Hub : Hid (∀ k, Value.ownBlock (.slice p0 n0 c0') = some k → k < w.heap.size) := fun k q => (hu.lt k q).2
 clear hin hs h0 ha hn2 hB hu
 go_enter Try.func53, Try.ntmps53
 go_wp2_with fail
 have HX0 : Hid (Ext w (w.alloc (.cells #[.string B] 9))) := (Ext.refl w).alloc _
 refine (contains_any (P := P) (.slice p0 n0 c0') B w.heap.size (by have := HN0.out; omega) (w.alloc (.cells #[.string B] 9)) (HPl.out.ext HX0.out) (by simp) (by rw [World.cell?_alloc_at _ _ _ _ (by rfl)]; rfl)).mono ?_
 rintro e w1 ⟨rfl, HX⟩
 have hd : decide (∃ p ∈ P, p.1 = B) = false := decide_eq_false Hin.out
 rw [hd]
 clear hd
 have HV : Hid (∀ wx, Ext w1 wx → wx.cell? ⟨w.heap.size, 0, none⟩ = some (.string B) ∧ w.heap.size < wx.heap.size) := fun wx hx => ⟨later (HX.trans hx) (by rw [World.cell?_alloc_at _ _ _ _ (by rfl)]; rfl), by have := (HX.trans hx).size; simp at this; omega⟩
 have HX1 : Hid (Ext w w1) := HX0.out.trans HX
 clear HX HX0
 obtain ⟨cv, cl⟩ := HV.out _ (Ext.refl w1)
 go_wp2_with fail
 refine (clone_any B HB.out _).mono ?_
 rintro e w2 ⟨rfl, HX⟩
 have HX2 : Hid (Ext w1 w2) := HX
 clear HX cv cl
 go_wp2_with fail
 refine (all_any (P := P) (a := a) (.slice p0 n0 c0') Hs0.out H0.out (by have := Ha.out; omega) w2 (HPl.out.ext (HX1.out.trans HX2.out))).mono ?_
 rintro e w3 ⟨rfl, HX⟩
 have HX3 : Hid (Ext w1 w3) := HX2.out.trans HX
 have HX4 : Hid (Ext w w3) := HX1.out.trans HX3.out
 clear HX HX2
 go_wp2_with (first | (at_builtin; refine list_of_wp rfl (fun K hK => ?_); refine app51 (w3.alloc (.cells #[.string B, .complex .f64 0 (fb a)] 100)) _ _ rfl 0 (.slice p0 n0 c0') P.length (pcl P) rfl ((HPl.out.ext HX4.out).alloc _) (.slice (some ⟨w3.heap.size, 0, none⟩) 1 1) 1 [.string B, .complex .f64 0 (fb a)] rfl (slv_new _ _ _ _ _ rfl) rfl ?h1 ?h2 (Nat.zero_le _) ?_))
 case h1 => (intro z hz; simp at hz; rcases hz with rfl | rfl <;> rfl)
 case h2 => (have := HN0.out; omega)
 intro u1 y1 ho hg hb
 have HO : Hid (y1.ownsRow 0 100 2 u1 (P.length + 1) (pcl P ++ [.string B, .complex .f64 0 (fb a)])) := ho
 have HG : Hid ((w3.alloc (.cells #[.string B, .complex .f64 0 (fb a)] 100)).grownBy y1 (Value.ownBlock (.slice p0 n0 c0'))) := hg
 rcases ho.2 with ⟨_, q⟩ | ⟨g, cap, cur, rfl, _, hgg, _⟩
 ·exact absurd q (by omega)
 obtain ⟨n, Hn⟩ : ∃ n, Hid (P.length + 1 = n) := ⟨_, rfl⟩
 obtain ⟨P1, HP1⟩ : ∃ P1, Hid (P ++ [(B, 0, a)] = P1) := ⟨P ++ [(B, 0, a)], Eq.refl (P ++ [(B, 0, a)])⟩
 have HW : Hid (w.heap.size < w3.heap.size) := by have := (HV.out _ HX3.out).2; show _ < _; omega
 have Hb : Hid (Value.ownBlock (.slice p0 n0 c0') = some g ∨ w3.heap.size + 1 = g) := by
  rcases hb with e | e
  ·exact .inl e.symm
  ·refine .inr ?_
   have e' : (some g : Option Nat) = some _ := e
   injection e' with e'
   exact e'.symm
 have Hbg : Hid (w.heap.size ≠ g) := by
  show _ ≠ _
  rcases Hb.out with e | e
  ·have := Hub.out g e; omega
  ·have := HW.out; omega
 have HF : Hid (Value.ownBlock U = some g ∨ w.heap.size ≤ g) := by
  show _ ∨ _
  rcases Hb.out with e | e
  ·rw [HU.out]; exact .inl e
  ·refine .inr ?_; have := HW.out; omega
 have HN : Hid (P1.length = n) := by show _ = _; rw [← HP1.out, ← Hn.out]; simp
 have HN2 : Hid (n ≤ 1000) := by show _ ≤ _; have := Hn.out; have := HN0.out; omega
 have HSm : Hid (∀ p ∈ P1, p.2.1 + p.2.2 = a) := fun p hp => by
  rw [← HP1.out] at hp
  rcases List.mem_append.1 hp with hp | hp
  ·exact Hs0.out p hp
  ·rw [List.mem_singleton.1 hp]; exact Nat.zero_add a
 have HEnd : Hid (∀ W, LS (fun k => Value.ownBlock U = some k) w w.heap.size g n cap P1 B n W → AddP w (.slice p0 n0 c0') P a B (.returned (.slice (some ⟨g, 0, none⟩) n cap)) W) := fun W h => by
  refine ⟨_, rfl, ?_, ?_, ?_⟩
  ·unfold addP
   rw [if_neg Hin.out, HP1.out, ← mix_all, HN.out]
   unfold Pl
   rw [mix_len, HN.out]
   exact h.row
  ·rw [← HU.out]; exact h.chg
  ·rcases Hb.out with e | e
   ·exact .inl e.symm
   ·exact .inr ⟨g, rfl, by have := HW.out; omega⟩
 have HS : Hid (LS (fun k => Value.ownBlock U = some k) w w.heap.size g n cap P1 B 0 y1) := by
  have hx := (HX3.out.alloc (.cells #[.string B, .complex .f64 0 (fb a)] 100))
  obtain ⟨k1, k2⟩ := HV.out _ hx
  have hblk := HG.out.block w.heap.size k2 (fun q => by have := Hub.out _ q.symm; omega)
  refine ⟨?_, ?_, ?_, ?_⟩
  ·rw [mix_zero, ← HP1.out, pcl_app, ← Hn.out]
   have := HO.out
   rw [← fb_zero] at this
   exact this
  ·rw [← k1]; exact World.cell?_of_block (a := ⟨w.heap.size, 0, none⟩) hblk
  ·exact Nat.lt_of_lt_of_le k2 HG.out.size
  ·exact (Chg.of_ext _ (HX4.out.alloc _)).grown HG.out (fun k q => .inl (by rw [HU.out]; exact q))
 rw [Hn.out]
 refine hK.out _ _ ?_
 clear hK K ho hg hb hgg HO HG Hb HPl Hin Hs0 H0 HB Hub HX1 HX3 HX4 HV HW HP1
 go_wp2
 go_loopw [21] (fun u21 wr => ∃ j : Nat, j ≤ n ∧ u21 = .int .i64 j ∧ Hid (LS (fun k => Value.ownBlock U = some k) w w.heap.size g n cap P1 B j wr)) (fun u21 _ => n - (intOf u21).toNat)
 case atStart => exact ⟨0, Nat.zero_le _, rfl, HS⟩
 case round =>
  obtain ⟨j, hj, rfl, HL⟩ := hrel
  clear HS
  by_cases hlt : j < n
  ·obtain ⟨q1, q0, qw⟩ := num2 hlt HN2.out
   obtain ⟨v, x, y, hv⟩ : ∃ v x y, Hid (P1[j]? = some (v, x, y)) := by
    have hl : j < P1.length := by rw [HN.out]; exact hlt
    exact ⟨P1[j].1, P1[j].2.1, P1[j].2.2, List.getElem?_eq_getElem hl⟩
   have Hxy : Hid (x + y = a) := HSm.out (v, x, y) (List.mem_of_getElem? hv.out)
   obtain ⟨c0, c1, z1, hg⟩ := HL.out.get HN.out hv.out
   have cv := HL.out.val
   have cl := HL.out.lt
   by_cases hB : v = B
   ·have hd := toList_same hB
    have ho := run_own (a := x) (b := y) (by have := Hxy.out; have := Ha.out; omega) (by have := Hxy.out; have := Ha.out; omega)
    have HL2 : Hid (∀ q, LS (fun k => Value.ownBlock U = some k) w w.heap.size g n cap P1 B (j + 1) ((wr.drewN q).setCell ⟨g, j * 2 + 1, none⟩ (.complex .f64 (fb (x + 1)) (fb y)))) := fun q => (HL.out.drew q).put hv.out (if_pos hB) Hbg.out HF.out
    clear hB
    go_wp2_with fail
    go_quiet (fail)
    go_wp2
    go_roundw
    case rel => exact ⟨j + 1, hlt, by push_cast; rfl, HL2.out _⟩
    case measure => exact lp_meas hlt
   ·have hd := toList_ne hB
    have ho := run_oth (a := x) (b := y) (by have := Hxy.out; have := Ha.out; omega) (by have := Hxy.out; have := Ha.out; omega)
    have HL2 : Hid (∀ q, LS (fun k => Value.ownBlock U = some k) w w.heap.size g n cap P1 B (j + 1) ((wr.drewN q).setCell ⟨g, j * 2 + 1, none⟩ (.complex .f64 (fb x) (fb (y + 1))))) := fun q => (HL.out.drew q).put hv.out (if_neg hB) Hbg.out HF.out
    clear hB
    go_wp2_with fail
    go_quiet (fail)
    go_wp2
    go_roundw
    case rel => exact ⟨j + 1, hlt, by push_cast; rfl, HL2.out _⟩
    case measure => exact lp_meas hlt
  ·obtain rfl : j = n := by omega
   have hnl : ¬ (j : Int) < (j : Int) := by omega
   go_wp2
   go_ret
   exact HEnd.out _ HL.out

theorem added_any {P : List Pile} {a : Nat} (u : Value) (B : ByteArray) (hs : ∀ p ∈ P, p.2.1 + p.2.2 = a) (h0 : P = [] → a = 0) (ha : a ≤ 7) (hn2 : P.length ≤ 900) (hB : B.size ≤ 100000) (w : World) (hu : Pl w u P) : Calls Try.prog 53 #[u, .string B] w fun e w' => AddP w u P a B e w' := by
 by_cases hin : ∃ p ∈ P, p.1 = B
 ·rcases hu.form with ⟨rfl, rfl⟩ | ⟨g, cap, rfl, _⟩
  ·obtain ⟨p, hp, _⟩ := hin; cases hp
  ·exact added_in B hin hs ha rfl (by omega) w hu
 ·obtain ⟨p0, c0, rfl⟩ := own_len hu
  exact added_new p0 _ c0 B hin hs h0 ha hn2 hB w hu
end Go.Proofs.Ytmanacbdldfmfaa
