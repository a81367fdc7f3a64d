/-
 (*votes.Votes).Count, Most, may, called.
-/
import Derived.Test.YtmanacbdldfmfaaVa
namespace Go.Proofs.Ytmanacbdldfmfaa
set_option maxRecDepth 10000
open Go.RowKit
attribute [local go_sem] run_store_complex
theorem Pl.rows {w : World} {u : Value} {P : List Pile} (h : Pl w u P) : ∃ pa cap, u = .slice pa P.length cap ∧ ∀ wx, Ext w wx → ∀ j, j < P.length → ∃ g v x y, pa = some ⟨g, 0, none⟩ ∧ P[j]? = some (v, x, y) ∧ wx.cell? ⟨g, j * 2, none⟩ = some (.string v) ∧ wx.cell? ⟨g, j * 2 + 1, none⟩ = some (.complex .f64 (fb x) (fb y)) ∧ g < wx.heap.size := by
 rcases h.form with ⟨rfl, rfl⟩ | ⟨g, cap, rfl, hg, hc⟩
 ·exact ⟨none, 0, rfl, fun _ _ j hj => absurd hj (Nat.not_lt_zero _)⟩
 ·refine ⟨_, cap, rfl, fun wx hx j hj => ?_⟩
  have e := List.getElem?_eq_getElem hj
  obtain ⟨c0, c1, _⟩ := hc j _ e
  exact ⟨g, P[j].1, P[j].2.1, P[j].2.2, rfl, e, later hx c0, later hx c1, Nat.lt_of_lt_of_le hg hx.size⟩
theorem dV_size {N : Nat} {L : List Vt} (h : InvV N L) {k r : Int} {v : ByteArray} (hv : v ∈ dV L k r) : v.size ≤ 4096 := by
 have := (dV_mem k r v L).1 hv
 unfold cntV at this
 obtain ⟨m, hm, q⟩ := List.countP_pos_iff.1 this
 simp at q
 have := (may_iffV.1 (h.may m hm)).2.2.2.2.2
 rw [q.2.2] at this
 exact this
/-- What Most tells. -/
def MostR (N T : Nat) (L : List Vt) (k r : Int) (w : World) (e : Ending) (w' : World) : Prop := ∃ s c, e = .returned (.tuple #[.string s, .bool c]) ∧ MostP (qmV N T) L k r s c ∧ Ext w w'
set_option maxRecDepth 10000 in
set_option maxHeartbeats 1000000 in
theorem vmost_any {b bm : Nat} {sl : Int → Int → Value} {N T : Nat} {L : List Vt} {k r : Int} (hi : InvV N L) (hN : N ≤ 7) (hT : T ≤ 2) (hk : (Lit.int .i64 k).wf = true) (hr : (Lit.int .i64 r).wf = true) (w : World) (h : VB w b bm sl N T L) :
  Calls Try.prog 62 #[.pointer (some ⟨b, 0, none⟩), .int .i64 k, .int .i64 r] w fun e w' => MostR N T L k r w e w' := by
 have HE0 : Hid (Ext w w) := Ext.refl w
 have HV : Hid (VB w b bm sl N T L) := h
 obtain ⟨_, _, c2, hb⟩ := vbx h
 have hl := h.look hk hr
 have Hi : Hid (InvV N L) := hi
 have Ha : Hid (anyV L k r ≤ 7) := Nat.le_trans (any_le hi k r) hN
 have e1 : IntKind.i64.wrap ((N : Int) + (T : Int)) = (N : Int) + (T : Int) := by rw [IntKind.wrap_i64]; omega
 obtain ⟨Q, HQ0⟩ : ∃ Q : Nat, Hid (Q = (N + T) / 2) := ⟨_, rfl⟩
 have e2 : wrap64 (((N : Int) + (T : Int)).tdiv 2) = (Q : Int) := by
  rw [Int.tdiv_eq_ediv_of_nonneg (by omega)]
  unfold wrap64
  have := HQ0.out
  omega
 obtain ⟨pa, cap, hu, hp⟩ := (h.pls k r).rows
 have HP : Hid (∀ wx, Ext w wx → ∀ j, j < (pls L k r).length → ∃ g v x y, pa = some ⟨g, 0, none⟩ ∧ (pls L k r)[j]? = some (v, x, y) ∧ wx.cell? ⟨g, j * 2, none⟩ = some (.string v) ∧ wx.cell? ⟨g, j * 2 + 1, none⟩ = some (.complex .f64 (fb x) (fb y)) ∧ g < wx.heap.size) := hp
 obtain ⟨n, HN⟩ : ∃ n, Hid ((pls L k r).length = n) := ⟨_, rfl⟩
 have HN2 : Hid (n ≤ 1000) := by show _ ≤ _; rw [← HN.out]; have := pls_len L k r; have := Ha.out; omega
 rw [HN.out] at hu HP
 have hf := fld53 (vf L k r) pa n cap
 rw [hu] at hl
 clear h hi hk hr hN hT hu hp
 go_enter Try.func62, Try.ntmps62
 go_wp2_with fail
 clear hl hf c2 hb
 go_loopw [22] (fun u22 wr => ∃ j : Nat, j ≤ n ∧ u22 = .int .i64 j ∧ Hid (Ext w wr) ∧ Hid (∀ i p, i < j → (pls L k r)[i]? = some p → p.2.1 < qmV N T)) (fun u22 _ => n - (intOf u22).toNat)
 case atStart => exact ⟨0, Nat.zero_le _, rfl, HE0, fun i p hi => absurd hi (Nat.not_lt_zero _)⟩
 case round =>
  obtain ⟨j, hj, rfl, HE, HQ⟩ := hrel
  clear HE0
  by_cases hlt : j < n
  ·obtain ⟨q1, q0, qw⟩ := num2 hlt HN2.out
   obtain ⟨g, v, x, y, rfl, hv, c0, c1, hg⟩ := HP.out _ HE.out j hlt
   have hv : Hid ((pls L k r)[j]? = some (v, x, y)) := hv
   have HB : Hid (x = cntV L k r v) := (pls_get hv.out).2.1
   have hx8 : x ≤ 8 := by rw [HB.out]; have := cnt_any L k r v; have := Ha.out; omega
   have hc := run_toint hx8
   obtain ⟨n0, n1, _, hb⟩ := vbx (HV.out.ext HE.out)
   clear hx8
   by_cases hB : (Q : Int) < (x : Int)
   ·have Hm : Hid (qmV N T ≤ cntV L k r v) := by show _ ≤ _; rw [← HB.out]; unfold qmV; have := HQ0.out; omega
    go_wp2_with fail
    go_quiet (fail)
    go_wp2_with fail
    refine (clone_any v (by have := dV_size Hi.out (pls_get hv.out).1; omega) _).mono ?_
    rintro e w2 ⟨rfl, HX⟩
    have HX2 : Hid (Ext w w2) := Ext.trans (by first | exact (HE.out.alloc _).drewN _) HX
    clear HX
    go_wp2
    refine bodyPost_ret (v := .tuple #[.string v, .bool true]) (by simp [results, Try.results62, go_sem]) rfl ⟨v, true, rfl, .inl ⟨rfl, Hm.out⟩, HX2.out⟩
   ·have Hm : Hid (x < qmV N T) := by show _ < _; unfold qmV; have := HQ0.out; omega
    go_wp2_with fail
    go_quiet (fail)
    go_wp2
    go_roundw
    case rel => exact ⟨j + 1, hlt, by push_cast; rfl, by first | exact (HE.out.alloc _).drewN _, fun i p hi hp => by
      by_cases e : i = j
      ·subst e
       rw [hv.out] at hp
       injection hp with hp
       rw [← hp]
       exact Hm.out
      ·exact HQ.out i p (by omega) hp⟩
    case measure => exact lp_meas hlt
  ·obtain rfl : j = n := by omega
   have hnl : ¬ (j : Int) < (j : Int) := by omega
   have H0 : Hid (∀ v, cntV L k r v < qmV N T) := fun v => by
    by_cases hv : v ∈ dV L k r
    ·have hm : (v, cntV L k r v, anyV L k r - cntV L k r v) ∈ pls L k r := List.mem_map.2 ⟨v, hv, rfl⟩
     obtain ⟨i, hi, q⟩ := List.getElem_of_mem hm
     exact HQ.out i (v, cntV L k r v, anyV L k r - cntV L k r v) (by rw [← HN.out]; exact hi) (by rw [List.getElem?_eq_getElem hi, q])
    ·have := mt (dV_mem k r v L).2 hv
     unfold qmV
     omega
   go_wp2
   refine bodyPost_ret (v := .tuple #[.string ⟨#[]⟩, .bool false]) (by simp [results, Try.results62, go_sem]) rfl ⟨_, false, rfl, .inr ⟨rfl, rfl, H0.out⟩, HE.out⟩
end Go.Proofs.Ytmanacbdldfmfaa
