/-
 Piles in a slice; votes.all, votes.added's literal, slices.IndexFunc, slices.ContainsFunc, called.
-/
import Derived.Test.YtmanacbdldfmfaaBx
import Derived.Test.YtmanacbdldfmfaaClo
import Derived.Test.YtmanacbdldfmfaaHeld
import Derived.Laws.OwnMore
import Derived.Deep.QuietTactic
import Derived.BigQuiet
import Derived.Laws.EntriesVeiled
namespace Go.Proofs.Ytmanacbdldfmfaa
set_option maxRecDepth 10000
open Go.RowKit
/-- A pile: a value, its own votes, those of others. -/
abbrev Pile := ByteArray × Nat × Nat
abbrev pz (p : Pile) : Value := .complex .f64 (fb p.2.1) (fb p.2.2)
/-- Piles as cells. -/
def pcl (P : List Pile) : List Value := P.flatMap fun p => [.string p.1, pz p]
theorem pcl_len (P : List Pile) : (pcl P).length = P.length * 2 := by
 induction P with
 | nil => rfl
 | cons m r ih => show (_ :: _ :: pcl r).length = _; simp [ih]; omega
theorem pcl_app (P R : List Pile) : pcl (P ++ R) = pcl P ++ pcl R := by unfold pcl; simp
theorem pcl_get : ∀ (P : List Pile) {j : Nat} {p : Pile}, P[j]? = some p → (pcl P)[j * 2]? = some (.string p.1) ∧ (pcl P)[j * 2 + 1]? = some (pz p)
 | [], j, p, h => by simp at h
 | x :: r, 0, p, h => by
  simp at h
  subst h
  exact ⟨rfl, rfl⟩
 | x :: r, j + 1, p, h => by
  have := pcl_get r (j := j) (p := p) (by simpa using h)
  show (_ :: _ :: pcl r)[(j + 1) * 2]? = _ ∧ (_ :: _ :: pcl r)[(j + 1) * 2 + 1]? = _
  rw [show (j + 1) * 2 = j * 2 + 2 from by omega]
  exact this
theorem pcl_set : ∀ (P : List Pile) (j : Nat) (v : ByteArray) (x y x' y' : Nat), P[j]? = some (v, x, y) → (pcl P).set (j * 2 + 1) (.complex .f64 (fb x') (fb y')) = pcl (P.set j (v, x', y'))
 | [], j, v, x, y, x', y', h => by simp at h
 | p :: r, 0, v, x, y, x', y', h => by
  simp at h
  subst h
  rfl
 | p :: r, j + 1, v, x, y, x', y', h => by
  have := pcl_set r j v x y x' y' (by simpa using h)
  show (_ :: _ :: pcl r).set ((j + 1) * 2 + 1) _ = _ :: _ :: pcl (r.set j (v, x', y'))
  rw [← this, show (j + 1) * 2 + 1 = j * 2 + 1 + 1 + 1 from by omega]
  rfl
theorem pcl_one (P : List Pile) : ∀ u ∈ pcl P, u.oneCell' = true := by
 intro u hu
 obtain ⟨m, _, q⟩ := List.mem_flatMap.1 hu
 simp at q
 rcases q with rfl | rfl <;> rfl
/-- The slice u holds the piles P. -/
def Pl (w : World) (u : Value) (P : List Pile) : Prop := w.ownsRow 0 100 2 u P.length (pcl P)
theorem Pl.ext {w w' : World} {u : Value} {P : List Pile} (h : Pl w u P) (hx : Ext w w') : Pl w' u P := own_ext h hx
theorem Pl.keep {w w' : World} {u : Value} {P : List Pile} (h : Pl w u P) (hk : ∀ k, u.ownBlock = some k → w'.heap[k]? = w.heap[k]?) : Pl w' u P := by
 refine ⟨h.1, ?_⟩
 rcases h.2 with hn | ⟨g, cap, cur, rfl, hb, hgg, rest⟩
 ·exact .inl hn
 ·exact .inr ⟨g, cap, cur, rfl, hb, (hk g rfl).trans hgg, rest⟩
theorem Pl.form {w : World} {u : Value} {P : List Pile} (h : Pl w u P) : (u = .slice none 0 0 ∧ P = []) ∨ ∃ g cap, u = .slice (some ⟨g, 0, none⟩) P.length cap ∧ g < w.heap.size ∧ ∀ j p, P[j]? = some p → w.cell? ⟨g, j * 2, none⟩ = some (.string p.1) ∧ w.cell? ⟨g, j * 2 + 1, none⟩ = some (pz p) ∧ w.frozen? ⟨g, j * 2 + 1, none⟩ = false := by
 have h' := h
 rcases h.2 with ⟨rfl, q⟩ | ⟨g, cap, cur, rfl, hb, hgg, hnc, hm, hs, ht⟩
 ·exact .inl ⟨rfl, List.eq_nil_of_length_eq_zero q⟩
 ·refine .inr ⟨g, cap, rfl, (Array.getElem?_eq_some_iff.1 hgg).1, fun j p hj => ?_⟩
  have hlt : j < P.length := (List.getElem?_eq_some_iff.1 hj).1
  obtain ⟨q0, q1⟩ := pcl_get P hj
  have c0 := World.ownsRow.cellAt h' (j * 2) (by omega)
  have c1 := World.ownsRow.cellAt h' (j * 2 + 1) (by omega)
  exact ⟨c0.trans q0, c1.trans q1, World.ownsRow.frozenAt h' _⟩
set_option maxHeartbeats 1000000 in
theorem all_any {P : List Pile} {a : Nat} (u : Value) (hs : ∀ p ∈ P, p.2.1 + p.2.2 = a) (h0 : P = [] → a = 0) (ha : a ≤ 8) (w : World) (hu : Pl w u P) : Calls Try.prog 61 #[u] w fun e w' => e = .returned (.float .f64 (fb a)) ∧ Ext w w' := by
 have HE : Hid (Ext w w) := Ext.refl w
 rcases hu.form with ⟨rfl, rfl⟩ | ⟨g, cap, rfl, hg, hc⟩
 ·have HA : Hid (a = 0) := h0 rfl
  clear hs h0 hu ha
  go_enter Try.func61, Try.ntmps61
  go_wp2
  go_ret
  exact ⟨by rw [HA.out, fb_zero]; rfl, HE.out⟩
 ·cases P with
  | nil =>
   have HA : Hid (a = 0) := h0 rfl
   clear hs h0 hu ha hc
   go_enter Try.func61, Try.ntmps61
   go_wp2
   go_ret
   exact ⟨by rw [HA.out, fb_zero]; rfl, HE.out⟩
  | cons p r =>
   obtain ⟨v, x, y⟩ := p
   have e1 : x + y = a := hs (v, x, y) (by simp)
   obtain ⟨c0, c1, _⟩ := hc 0 (v, x, y) rfl
   have hp := run_plus (a := x) (b := y) (by omega) (by omega)
   have HA : Hid (x + y = a) := e1
   rw [e1] at hp
   obtain ⟨n, hn⟩ : ∃ n, ((v, x, y) :: r).length = n + 1 := ⟨_, rfl⟩
   rw [hn]
   have h1 : ¬ ((n : Int) + 1 = 0) := by omega
   have h2 : (0 : Int) < (n : Int) + 1 := by omega
   simp only [Nat.zero_mul, Nat.zero_add] at c0 c1
   clear hs h0 hu ha hc c0 e1 hn
   go_enter Try.func61, Try.ntmps61
   go_wp2_with fail
   go_quiet (fail)
   go_wp2
   go_ret
   exact ⟨rfl, HE.out.drewN _⟩
theorem toList_ne {a b : ByteArray} (h : a ≠ b) : (a.toList == b.toList) = false := by
 cases q : (a.toList == b.toList) with
 | false => rfl
 | true =>
  have q := eq_of_beq q
  rw [ByteArray.toList_eq, ByteArray.toList_eq] at q
  exact absurd (ba_eq q) h
theorem toList_same {a b : ByteArray} (h : a = b) : (a.toList == b.toList) = true := by rw [h]; exact beq_self_eq_true _
theorem lp_nums (j n : Nat) (h : j < n) (hn : n ≤ 100000) : (j : Int) < (n : Int) ∧ (0 : Int) ≤ (j : Int) ∧ IntKind.i64.wrap ((j : Int) + 1) = (j : Int) + 1 := by
 refine ⟨by omega, by omega, ?_⟩
 rw [IntKind.wrap_i64]; omega
theorem lp_meas {j n : Nat} (h : j < n) : n - (intOf (.int .i64 ((j : Int) + 1))).toNat < n - (intOf (.int .i64 (j : Int))).toNat := by simp [intOf]; omega
set_option maxHeartbeats 1000000 in
theorem lit_any (v : ByteArray) (z : Value) (_hz : z.oneCell' = true) (B : ByteArray) (b : Nat) (w : World) (hb : b < w.heap.size) (hc : w.cell? ⟨b, 0, none⟩ = some (.string B)) : Calls Try.prog 60 #[.agg #[.string v, z], .pointer (some ⟨b, 0, none⟩)] w fun e w' => e = .returned (.bool (decide (v = B))) ∧ Ext w w' := by
 have HE : Hid (Ext w w) := Ext.refl w
 by_cases h : v = B
 ·have h1 := toList_same h
  have HD : Hid (decide (v = B) = true) := decide_eq_true h
  clear h
  go_enter Try.func60, Try.ntmps60
  go_wp2
  go_ret
  exact ⟨by rw [HD.out]; rfl, HE.out.alloc _⟩
 ·have h1 := toList_ne h
  have HD : Hid (decide (v = B) = false) := decide_eq_false h
  clear h
  go_enter Try.func60, Try.ntmps60
  go_wp2
  go_ret
  exact ⟨by rw [HD.out]; rfl, HE.out.alloc _⟩
/-- What IndexFunc tells. -/
def IdxP (P : List Pile) (B : ByteArray) (w : World) (e : Ending) (w' : World) : Prop := ∃ i : Int, e = .returned (.int .i64 i) ∧ (0 ≤ i ↔ ∃ p ∈ P, p.1 = B) ∧ Ext w w'
abbrev fv (b : Nat) : Value := .func (.func 60) #[] #[.pointer (some ⟨b, 0, none⟩)]
set_option maxHeartbeats 1000000 in
theorem index_any {P : List Pile} (u : Value) (B : ByteArray) (b : Nat) (hn : P.length ≤ 1000) (w : World) (hu : Pl w u P) (hb : b < w.heap.size) (hc : w.cell? ⟨b, 0, none⟩ = some (.string B)) : Calls Try.prog 65 #[u, fv b] w fun e w' => IdxP P B w e w' := by
 have HE0 : Hid (Ext w w) := Ext.refl w
 have HB : Hid (b < w.heap.size) := hb
 have HC : Hid (w.cell? ⟨b, 0, none⟩ = some (.string B)) := hc
 clear hb hc
 rcases hu.form with ⟨rfl, rfl⟩ | ⟨g, cap, rfl, hg, hcc⟩
 ·clear hu hn
  go_enter Try.func65, Try.ntmps65
  go_wp2
  go_loopw [8] (fun u8 wr => u8 = .int .i64 0 ∧ Hid (Ext w wr)) (fun _ _ => 0)
  case atStart => exact ⟨rfl, HE0⟩
  case round =>
   obtain ⟨rfl, HE⟩ := hrel
   go_wp2
   go_ret
   exact ⟨-1, rfl, ⟨fun h => absurd h (by decide), fun ⟨p, hp, _⟩ => by cases hp⟩, HE.out⟩
 ·obtain ⟨n, HN⟩ : ∃ n, Hid (P.length = n) := ⟨_, rfl⟩
  have HP : Hid (∀ wx, Ext w wx → ∀ j, j < n → ∃ v x y, P[j]? = some (v, x, y) ∧ wx.cell? ⟨g, j * 2, none⟩ = some (.string v) ∧ wx.cell? ⟨g, j * 2 + 1, none⟩ = some (.complex .f64 (fb x) (fb y)) ∧ g < wx.heap.size) := fun wx hx j hj => by
   have hl : j < P.length := by rw [HN.out]; exact hj
   have e := List.getElem?_eq_getElem hl
   obtain ⟨c0, c1, _⟩ := hcc j _ e
   exact ⟨P[j].1, P[j].2.1, P[j].2.2, e, later hx c0, later hx c1, Nat.lt_of_lt_of_le hg hx.size⟩
  rw [HN.out] at hn ⊢
  clear hcc hu hg
  go_enter Try.func65, Try.ntmps65
  go_wp2
  go_loopw [8] (fun u8 wr => ∃ j : Nat, j ≤ n ∧ u8 = .int .i64 j ∧ Hid (Ext w wr) ∧ Hid (∀ i p, i < j → P[i]? = some p → p.1 ≠ B)) (fun u8 _ => n - (intOf u8).toNat)
  case atStart => exact ⟨0, Nat.zero_le _, rfl, HE0, fun i p hi => absurd hi (Nat.not_lt_zero _)⟩
  case round =>
   obtain ⟨j, hj, rfl, HE, HQ⟩ := hrel
   by_cases hlt : j < n
   ·obtain ⟨q1, q0, qw⟩ := lp_nums j n hlt (by omega)
    obtain ⟨v, x, y, hv, c0, c1, hg⟩ := HP.out _ HE.out j hlt
    have hv : Hid (P[j]? = some (v, x, y)) := hv
    have HF : Hid (∀ wx, Ext w wx → Calls Try.prog 60 #[.agg #[.string v, .complex .f64 (fb x) (fb y)], .pointer (some ⟨b, 0, none⟩)] wx fun e w' => e = .returned (.bool (decide (v = B))) ∧ Ext wx w') := fun wx hx => lit_any v _ rfl B b wx (Nat.lt_of_lt_of_le HB.out hx.size) (later hx HC.out)
    go_wp2_with fail
    refine (HF.out _ HE.out).mono ?_
    rintro e w1 ⟨rfl, HX⟩
    have HE1 : Hid (Ext w w1) := HE.out.trans HX
    clear HX
    by_cases hB : v = B
    ·have hd : decide (v = B) = true := decide_eq_true hB
     have HB2 : Hid (v = B) := hB
     rw [hd]
     clear hd hB
     go_wp2
     go_ret
     exact ⟨(j : Int), rfl, ⟨fun _ => ⟨_, List.mem_of_getElem? hv.out, HB2.out⟩, fun _ => by omega⟩, HE1.out⟩
    ·have hd : decide (v = B) = false := decide_eq_false hB
     have HB2 : Hid (v ≠ B) := hB
     rw [hd]
     clear hd hB
     go_wp2
     go_roundw
     case rel => exact ⟨j + 1, hlt, by push_cast; rfl, HE1, fun i p hi hp => by
      by_cases e : i = j
      ·subst e
       rw [hv.out] at hp
       injection hp with hp
       rw [← hp]
       exact HB2.out
      ·exact HQ.out i p (by omega) hp⟩
     case measure => exact lp_meas hlt
   ·obtain rfl : j = n := by omega
    have hnl : ¬ (j : Int) < (j : Int) := by omega
    go_wp2
    go_ret
    exact ⟨-1, rfl, ⟨fun h => absurd h (by decide), fun ⟨p, hp, e⟩ => by
     obtain ⟨i, hi, q⟩ := List.getElem_of_mem hp
     exact absurd e (HQ.out i p (by rw [← HN.out]; exact hi) (by rw [List.getElem?_eq_getElem hi, q]))⟩, HE.out⟩
set_option maxHeartbeats 1000000 in
theorem contains_any {P : List Pile} (u : Value) (B : ByteArray) (b : Nat) (hn : P.length ≤ 1000) (w : World) (hu : Pl w u P) (hb : b < w.heap.size) (hc : w.cell? ⟨b, 0, none⟩ = some (.string B)) : Calls Try.prog 59 #[u, fv b] w fun e w' => e = .returned (.bool (decide (∃ p ∈ P, p.1 = B))) ∧ Ext w w' := by
 have HI : Hid (Calls Try.prog 65 #[u, fv b] w fun e w' => IdxP P B w e w') := index_any u B b hn w hu hb hc
 clear hu hb hc
 go_enter Try.func59, Try.ntmps59
 go_wp2_with fail
 refine HI.out.mono ?_
 rintro e w1 ⟨i, rfl, hi, HX⟩
 have HX1 : Hid (Ext w w1) := HX
 have HD : Hid (decide ((0 : Int) ≤ i) = decide (∃ p ∈ P, p.1 = B)) := decide_eq_decide.2 hi
 clear HX hi
 go_wp2
 go_ret
 exact ⟨by rw [← HD.out]; rfl, HX1.out⟩
end Go.Proofs.Ytmanacbdldfmfaa
