/-
 Words in a slice; sandglassref20.Quorum, sandglassref21.New, Count, Any, called.
-/
import Derived.Test.YtmanacbdldfmfaaVe
namespace Go.Proofs.Ytmanacbdldfmfaa
set_option maxRecDepth 10000
open Go.RowKit
/-- Words as cells. -/
def wcs (L : List Vt) : List Value := L.flatMap fun m => [.int .i64 m.kd, .int .i64 m.fr, .int .i64 m.rd, .int .i64 m.va, .string m.vl]
theorem wcs_len (L : List Vt) : (wcs L).length = L.length * 5 := by
 induction L with
 | nil => rfl
 | cons m r ih => show (_ :: _ :: _ :: _ :: _ :: wcs r).length = _; simp [ih]; omega
theorem wcs_app (L M : List Vt) : wcs (L ++ M) = wcs L ++ wcs M := by unfold wcs; simp
theorem wcs_get : ∀ (L : List Vt) {j : Nat} {m : Vt}, L[j]? = some m → (wcs L)[j * 5]? = some (.int .i64 m.kd) ∧ (wcs L)[j * 5 + 1]? = some (.int .i64 m.fr) ∧ (wcs L)[j * 5 + 2]? = some (.int .i64 m.rd) ∧ (wcs L)[j * 5 + 3]? = some (.int .i64 m.va) ∧ (wcs L)[j * 5 + 4]? = some (.string m.vl)
 | [], j, m, h => by simp at h
 | x :: r, 0, m, h => by
  simp at h
  subst h
  exact ⟨rfl, rfl, rfl, rfl, rfl⟩
 | x :: r, j + 1, m, h => by
  have := wcs_get r (j := j) (m := m) (by simpa using h)
  show (_ :: _ :: _ :: _ :: _ :: wcs r)[(j + 1) * 5]? = _ ∧ (_ :: _ :: _ :: _ :: _ :: wcs r)[(j + 1) * 5 + 1]? = _ ∧ (_ :: _ :: _ :: _ :: _ :: wcs r)[(j + 1) * 5 + 2]? = _ ∧ (_ :: _ :: _ :: _ :: _ :: wcs r)[(j + 1) * 5 + 3]? = _ ∧ (_ :: _ :: _ :: _ :: _ :: wcs r)[(j + 1) * 5 + 4]? = _
  rw [show (j + 1) * 5 = j * 5 + 5 from by omega]
  exact this
theorem wcs_one (L : List Vt) : ∀ u ∈ wcs L, u.oneCell' = true := by
 intro u hu
 obtain ⟨m, _, q⟩ := List.mem_flatMap.1 hu
 simp at q
 rcases q with rfl | rfl | rfl | rfl | rfl <;> rfl
/-- The slice v holds the words L. -/
def WsIs (w : World) (v : Value) (L : List Vt) : Prop :=
 ∃ (a : Option Addr) (cap : Nat), v = .slice a L.length cap ∧ (0 < L.length → ∃ b o, a = some ⟨b, o, none⟩ ∧ b < w.heap.size ∧ ∀ j m, L[j]? = some m → w.cell? ⟨b, o + j * 5, none⟩ = some (.int .i64 m.kd) ∧ w.cell? ⟨b, o + j * 5 + 1, none⟩ = some (.int .i64 m.fr) ∧ w.cell? ⟨b, o + j * 5 + 2, none⟩ = some (.int .i64 m.rd) ∧ w.cell? ⟨b, o + j * 5 + 3, none⟩ = some (.int .i64 m.va) ∧ w.cell? ⟨b, o + j * 5 + 4, none⟩ = some (.string m.vl))
theorem WsIs.ext {w w' : World} {v : Value} {L : List Vt} (h : WsIs w v L) (hx : Ext w w') : WsIs w' v L := by
 obtain ⟨a, cap, hv, h⟩ := h
 refine ⟨a, cap, hv, fun hn => ?_⟩
 obtain ⟨b, o, ha, hb, hc⟩ := h hn
 exact ⟨b, o, ha, Nat.lt_of_lt_of_le hb hx.size, fun j m hj => ⟨later hx (hc j m hj).1, later hx (hc j m hj).2.1, later hx (hc j m hj).2.2.1, later hx (hc j m hj).2.2.2.1, later hx (hc j m hj).2.2.2.2⟩⟩
theorem WsIs.get {w : World} {a : Option Addr} {cap : Nat} {L : List Vt} (h : WsIs w (.slice a L.length cap) L) {j : Nat} {m : Vt} (hj : L[j]? = some m) :
  ∃ b o, a = some ⟨b, o, none⟩ ∧ b < w.heap.size ∧ w.cell? ⟨b, o + j * 5, none⟩ = some (.int .i64 m.kd) ∧ w.cell? ⟨b, o + j * 5 + 1, none⟩ = some (.int .i64 m.fr) ∧ w.cell? ⟨b, o + j * 5 + 2, none⟩ = some (.int .i64 m.rd) ∧ w.cell? ⟨b, o + j * 5 + 3, none⟩ = some (.int .i64 m.va) ∧ w.cell? ⟨b, o + j * 5 + 4, none⟩ = some (.string m.vl) := by
 obtain ⟨a', cap', hv, h⟩ := h
 injection hv with e1 e2 e3
 subst e1
 have : j < L.length := (List.getElem?_eq_some_iff.1 hj).1
 obtain ⟨b, o, ha, hb, hc⟩ := h (by omega)
 exact ⟨b, o, ha, hb, hc j m hj⟩
theorem own_ws {w : World} {base : Nat} {v : Value} {L : List Vt} (h : w.ownsRow base 39 5 v L.length (wcs L)) : WsIs w v L := by
 have hc := h
 rcases h.2 with ⟨rfl, q⟩ | ⟨g, cap, cur, rfl, hb, hgg, hnc, hm, hs, ht⟩
 ·refine ⟨none, 0, by rw [q], fun hn => by omega⟩
 ·refine ⟨_, cap, rfl, fun hn => ⟨g, 0, rfl, (Array.getElem?_eq_some_iff.1 hgg).1, fun j m hj => ?_⟩⟩
  obtain ⟨q0, q1, q2, q3, q4⟩ := wcs_get L hj
  have hadd : ∀ k, (⟨g, 0, none⟩ : Addr).add k = ⟨g, 0 + k, none⟩ := fun k => by unfold Addr.add; split <;> simp_all
  have c0 := hc.cells (g := g) rfl _ _ q0
  have c1 := hc.cells (g := g) rfl _ _ q1
  have c2 := hc.cells (g := g) rfl _ _ q2
  have c3 := hc.cells (g := g) rfl _ _ q3
  have c4 := hc.cells (g := g) rfl _ _ q4
  rw [hadd] at c0 c1 c2 c3 c4
  exact ⟨c0, c1, c2, c3, c4⟩
/-- Votes of the definition, as they are handed round. -/
abbrev rV (N T : Nat) (u : Value) : Value := .agg #[.int .i64 (N : Int), .int .i64 (T : Int), u]
theorem cntV_step {L : List Vt} {j : Nat} {m : Vt} (h : L[j]? = some m) (k r : Int) (B : ByteArray) : cntV (L.take (j + 1)) k r B = cntV (L.take j) k r B + if m.kd = k ∧ m.rd = r ∧ m.vl = B then 1 else 0 := by
 rw [← cntV_snoc, List.take_add_one, h]; rfl
theorem anyV_step {L : List Vt} {j : Nat} {m : Vt} (h : L[j]? = some m) (k r : Int) : anyV (L.take (j + 1)) k r = anyV (L.take j) k r + if m.kd = k ∧ m.rd = r then 1 else 0 := by
 rw [← anyV_snoc, List.take_add_one, h]; rfl
theorem cntV_le (L : List Vt) (k r : Int) (B : ByteArray) : cntV L k r B ≤ L.length := List.countP_le_length
theorem anyV_le (L : List Vt) (k r : Int) : anyV L k r ≤ L.length := List.countP_le_length
set_option maxHeartbeats 1000000 in
theorem rquorum_any (n t : Int) (w : World) : Calls Try.prog 38 #[.int .i64 n, .int .i64 t] w fun e w' => e = .returned (.int .i64 (qI n t)) ∧ w' = w := by
 by_cases h : hasQ n t
 ·obtain ⟨h1, h2, h3, h4⟩ := h
  have HQ : Hid (qI n t = (n + t) / 2 + 1) := if_pos ⟨h1, h2, h3, h4⟩
  have e1 : IntKind.i64.wrap (3 * t) = 3 * t := by rw [IntKind.wrap_i64]; omega
  have e2 : IntKind.i64.wrap (3 * t + 1) = 3 * t + 1 := by rw [IntKind.wrap_i64]; omega
  have e3 : IntKind.i64.wrap (n + t) = n + t := by rw [IntKind.wrap_i64]; omega
  have a1 : ¬ t < 0 := by omega
  have a2 : ¬ 2 < t := by omega
  have a3 : ¬ n < 3 * t + 1 := by omega
  have a4 : ¬ 7 < n := by omega
  go_enter Try.func38, Try.ntmps38
  go_wp2
  go_ret
  exact ⟨by rw [HQ.out]; rfl, rfl⟩
 ·have HQ : Hid (qI n t = 0) := if_neg h
  by_cases b1 : t < 0
  ·clear h
   go_enter Try.func38, Try.ntmps38
   go_wp2
   go_ret
   exact ⟨by rw [HQ.out]; rfl, rfl⟩
  ·by_cases b2 : 2 < t
   ·clear h
    go_enter Try.func38, Try.ntmps38
    go_wp2
    go_ret
    exact ⟨by rw [HQ.out]; rfl, rfl⟩
   ·have e1 : IntKind.i64.wrap (3 * t) = 3 * t := by rw [IntKind.wrap_i64]; omega
    have e2 : IntKind.i64.wrap (3 * t + 1) = 3 * t + 1 := by rw [IntKind.wrap_i64]; omega
    by_cases b3 : n < 3 * t + 1
    ·clear h
     go_enter Try.func38, Try.ntmps38
     go_wp2
     go_ret
     exact ⟨by rw [HQ.out]; rfl, rfl⟩
    ·have b4 : 7 < n := by unfold hasQ at h; omega
     clear h
     go_enter Try.func38, Try.ntmps38
     go_wp2
     go_ret
     exact ⟨by rw [HQ.out]; rfl, rfl⟩
set_option maxHeartbeats 1000000 in
theorem rnew_bad (n t : Int) (h : ¬ hasQ n t) (w : World) : Calls Try.prog 25 #[.int .i64 n, .int .i64 t] w fun e w' => e = .returned (.tuple #[rV 0 0 (.slice none 0 0), .bool false]) ∧ Ext w w' := by
 have HE : Hid (Ext w w) := Ext.refl w
 have HC : Hid (∀ W, Calls Try.prog 38 #[.int .i64 n, .int .i64 t] W fun e w' => e = .returned (.int .i64 (qI n t)) ∧ w' = W) := fun W => rquorum_any n t W
 have h0 : qI n t = 0 := if_neg h
 clear h
 go_enter Try.func25, Try.ntmps25
 go_wp2_with fail
 refine (HC.out _).mono ?_
 rintro e w1 ⟨rfl, ew⟩
 subst w1
 go_wp2
 refine bodyPost_ret (v := .tuple #[rV 0 0 (.slice none 0 0), .bool false]) (by simp [results, Try.results25, go_sem]) rfl ⟨rfl, HE.out.alloc _⟩
set_option maxHeartbeats 1000000 in
theorem rnew_good (N T : Nat) (h : hasQ N T) (w : World) : Calls Try.prog 25 #[.int .i64 (N : Int), .int .i64 (T : Int)] w fun e w' => e = .returned (.tuple #[rV N T (.slice none 0 0), .bool true]) ∧ Ext w w' := by
 have HE : Hid (Ext w w) := Ext.refl w
 have HC : Hid (∀ W, Calls Try.prog 38 #[.int .i64 (N : Int), .int .i64 (T : Int)] W fun e w' => e = .returned (.int .i64 (qI N T)) ∧ w' = W) := fun W => rquorum_any N T W
 have h0 : (qI N T == 0) = false := by simpa using q_pos h
 clear h
 go_enter Try.func25, Try.ntmps25
 go_wp2_with fail
 refine (HC.out _).mono ?_
 rintro e w1 ⟨rfl, ew⟩
 subst w1
 go_wp2
 refine bodyPost_ret (v := .tuple #[rV N T (.slice none 0 0), .bool true]) (by simp [results, Try.results25, go_sem]) rfl ⟨rfl, HE.out.alloc _⟩
set_option maxRecDepth 10000 in
set_option maxHeartbeats 2000000 in
theorem rcount_any (N T : Nat) (a : Option Addr) (cap : Nat) (L : List Vt) (k r : Int) (B : ByteArray) (hn : L.length ≤ 1000) (w : World) (hL : WsIs w (.slice a L.length cap) L) :
  Calls Try.prog 64 #[rV N T (.slice a L.length cap), .int .i64 k, .int .i64 r, .string B] w fun e w' => e = .returned (.int .i64 (cntV L k r B : Int)) ∧ Ext w w' := by
 have HL : Hid (WsIs w (.slice a L.length cap) L) := hL
 obtain ⟨n, HN⟩ : ∃ n, Hid (L.length = n) := ⟨_, rfl⟩
 rw [HN.out] at HL ⊢
 have HE0 : Hid (Ext w (w.alloc (.cells #[.int .i64 (N : Int), .int .i64 (T : Int), .slice a n cap] 32))) := (Ext.refl w).alloc _
 have HBx : Hid (∀ W, Ext (w.alloc (.cells #[.int .i64 (N : Int), .int .i64 (T : Int), .slice a n cap] 32)) W → W.cell? ⟨w.heap.size, 2, none⟩ = some (.slice a n cap) ∧ w.heap.size < W.heap.size) := fun W hW => ⟨later hW (by rw [World.cell?_alloc_at _ _ _ _ rfl]; rfl), by have := hW.size; simp at this; omega⟩
 go_enter Try.func64, Try.ntmps64
 go_wp2
 obtain ⟨W0, hW0⟩ : ∃ W0, w.alloc (.cells #[.int .i64 (N : Int), .int .i64 (T : Int), .slice a n cap] 32) = W0 := ⟨_, rfl⟩
 rw [hW0] at HE0 HBx ⊢
 have HW0 : Hid (Ext W0 W0) := Ext.refl W0
 clear hW0 hL
 go_loopw [9, 10] (fun u9 u10 wr => ∃ j : Nat, j ≤ n ∧ u10 = .int .i64 j ∧ u9 = .int .i64 (cntV (L.take j) k r B : Nat) ∧ Hid (Ext W0 wr)) (fun _ u10 _ => n - (intOf u10).toNat)
 case atStart => exact ⟨0, Nat.zero_le _, rfl, rfl, HW0⟩
 case round =>
  obtain ⟨j, hj, rfl, rfl, HE⟩ := hrel
  obtain ⟨c3, hlt0⟩ := HBx.out _ HE.out
  by_cases hlt : j < n
  ·obtain ⟨q1, q0, qw⟩ := lp_nums j n hlt (by have := HN.out; omega)
   obtain ⟨m, hm⟩ : ∃ m, L[j]? = some m := ⟨L[j]'(by rw [HN.out]; exact hlt), List.getElem?_eq_getElem _⟩
   have HL2 : WsIs wr (.slice a L.length cap) L := by rw [HN.out]; exact HL.out.ext (HE0.out.trans HE.out)
   obtain ⟨g, o, rfl, hbl, hd0, hd1, hd2, hd3, hd4⟩ := HL2.get hm
   clear HL2 hd1 hd3
   have HS : Hid (cntV (L.take (j + 1)) k r B = cntV (L.take j) k r B + if m.kd = k ∧ m.rd = r ∧ m.vl = B then 1 else 0) := cntV_step hm k r B
   obtain ⟨c, HC⟩ : ∃ c, Hid (cntV (L.take j) k r B = c) := ⟨_, rfl⟩
   rw [HC.out] at HS ⊢
   have hcw : IntKind.i64.wrap ((c : Int) + 1) = (c : Int) + 1 := by
    have h1 := cntV_le (L.take j) k r B
    rw [HC.out, List.length_take] at h1
    rw [IntKind.wrap_i64]; omega
   by_cases hk : m.kd = k
   ·by_cases hr : m.rd = r
    ·by_cases hB : m.vl = B
     ·have HS2 : Hid (cntV (L.take (j + 1)) k r B = c + 1) := by show _ = _; rw [HS.out, if_pos ⟨hk, hr, hB⟩]
      have htx := toList_same hB
      clear hB
      clear HS
      go_wp2
      go_roundw
      case rel => exact ⟨j + 1, hlt, by push_cast; rfl, by rw [HS2.out]; push_cast; rfl, HE⟩
      case measure => exact lp_meas hlt
     ·have HS2 : Hid (cntV (L.take (j + 1)) k r B = c) := by show _ = _; rw [HS.out, if_neg (fun q => hB q.2.2)]; rfl
      have htx := toList_ne hB
      clear hB
      clear HS
      go_wp2
      go_roundw
      case rel => exact ⟨j + 1, hlt, by push_cast; rfl, by rw [HS2.out], HE⟩
      case measure => exact lp_meas hlt
    ·have HS2 : Hid (cntV (L.take (j + 1)) k r B = c) := by show _ = _; rw [HS.out, if_neg (fun q => hr q.2.1)]; rfl
     clear HS
     go_wp2
     go_roundw
     case rel => exact ⟨j + 1, hlt, by push_cast; rfl, by rw [HS2.out], HE⟩
     case measure => exact lp_meas hlt
   ·have HS2 : Hid (cntV (L.take (j + 1)) k r B = c) := by show _ = _; rw [HS.out, if_neg (fun q => hk q.1)]; rfl
    clear HS
    go_wp2
    go_roundw
    case rel => exact ⟨j + 1, hlt, by push_cast; rfl, by rw [HS2.out], HE⟩
    case measure => exact lp_meas hlt
  ·obtain rfl : j = n := by omega
   have hnl : ¬ (j : Int) < (j : Int) := by omega
   have HF : Hid (L.take j = L) := List.take_of_length_le (by rw [HN.out]; exact Nat.le_refl _)
   go_wp2
   go_ret
   exact ⟨by rw [HF.out]; rfl, HE0.out.trans HE.out⟩
end Go.Proofs.Ytmanacbdldfmfaa
