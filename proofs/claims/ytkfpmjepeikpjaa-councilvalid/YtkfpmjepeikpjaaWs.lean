/-
 Words in a slice; a text that is empty, or not; sandglassref20.Quorum, called.
-/
import Derived.Test.YtkfpmjepeikpjaaVe
namespace Go.Proofs.Ytkfpmjepeikpjaa
set_option maxRecDepth 10000
open Go.RowKit
theorem toList_nil {s : ByteArray} (h : s.size = 0) : s.toList = [] := by
 rw [ByteArray.toList_eq]
 exact List.eq_nil_of_length_eq_zero (by rw [ba_len]; exact h)
theorem toList_some {s : ByteArray} (h : s.size ≠ 0) : ¬ s.toList = [] := by
 rw [ByteArray.toList_eq]
 intro q
 have := congrArg List.length q
 rw [ba_len] at this
 exact h this
theorem isEmpty_nil {s : ByteArray} (h : s.size = 0) : s.toList.isEmpty = true := by rw [toList_nil h]; rfl
theorem isEmpty_some {s : ByteArray} (h : s.size ≠ 0) : s.toList.isEmpty = false := by
 have := toList_some h
 cases hs : s.toList with
 | nil => exact absurd hs this
 | cons a l => rfl
/-- Words as cells. -/
def wcs (L : List Vt) : List Value := L.flatMap fun m => [.int .i64 m.kd, .int .i64 m.fr, .int .i64 m.rd, .int .i64 m.va, .string m.vl]
theorem wcs_len (L : List Vt) : (wcs L).length = L.length * 5 := by
 induction L with
 | nil => rfl
 | cons m r ih => show (_ :: _ :: _ :: _ :: _ :: wcs r).length = _; simp [ih]; omega
theorem wcs_app (L M : List Vt) : wcs (L ++ M) = wcs L ++ wcs M := by unfold wcs; simp
theorem wcs_get : ∀ (L : List Vt) {j : Nat} {m : Vt}, L[j]? = some m → (wcs L)[j * 5]? = some (.int .i64 m.kd) ∧ (wcs L)[j * 5 + 1]? = some (.int .i64 m.fr) ∧ (wcs L)[j * 5 + 2]? = some (.int .i64 m.rd) ∧ (wcs L)[j * 5 + 3]? = some (.int .i64 m.va) ∧ (wcs L)[j * 5 + 4]? = some (.string m.vl)
 | [], j, m, h => by simp at h
 | x :: r, 0, m, h => by
  simp at h
  subst h
  exact ⟨rfl, rfl, rfl, rfl, rfl⟩
 | x :: r, j + 1, m, h => by
  have := wcs_get r (j := j) (m := m) (by simpa using h)
  show (_ :: _ :: _ :: _ :: _ :: wcs r)[(j + 1) * 5]? = _ ∧ (_ :: _ :: _ :: _ :: _ :: wcs r)[(j + 1) * 5 + 1]? = _ ∧ (_ :: _ :: _ :: _ :: _ :: wcs r)[(j + 1) * 5 + 2]? = _ ∧ (_ :: _ :: _ :: _ :: _ :: wcs r)[(j + 1) * 5 + 3]? = _ ∧ (_ :: _ :: _ :: _ :: _ :: wcs r)[(j + 1) * 5 + 4]? = _
  rw [show (j + 1) * 5 = j * 5 + 5 from by omega]
  exact this
theorem wcs_one (L : List Vt) : ∀ u ∈ wcs L, u.oneCell' = true := by
 intro u hu
 obtain ⟨m, _, q⟩ := List.mem_flatMap.1 hu
 simp at q
 rcases q with rfl | rfl | rfl | rfl | rfl <;> rfl
/-- The slice v holds the words L. -/
def WsIs (w : World) (v : Value) (L : List Vt) : Prop :=
 ∃ (a : Option Addr) (cap : Nat), v = .slice a L.length cap ∧ (0 < L.length → ∃ b o, a = some ⟨b, o, none⟩ ∧ b < w.heap.size ∧ ∀ j m, L[j]? = some m → w.cell? ⟨b, o + j * 5, none⟩ = some (.int .i64 m.kd) ∧ w.cell? ⟨b, o + j * 5 + 1, none⟩ = some (.int .i64 m.fr) ∧ w.cell? ⟨b, o + j * 5 + 2, none⟩ = some (.int .i64 m.rd) ∧ w.cell? ⟨b, o + j * 5 + 3, none⟩ = some (.int .i64 m.va) ∧ w.cell? ⟨b, o + j * 5 + 4, none⟩ = some (.string m.vl))
theorem WsIs.ext {w w' : World} {v : Value} {L : List Vt} (h : WsIs w v L) (hx : Ext w w') : WsIs w' v L := by
 obtain ⟨a, cap, hv, h⟩ := h
 refine ⟨a, cap, hv, fun hn => ?_⟩
 obtain ⟨b, o, ha, hb, hc⟩ := h hn
 exact ⟨b, o, ha, Nat.lt_of_lt_of_le hb hx.size, fun j m hj => ⟨later hx (hc j m hj).1, later hx (hc j m hj).2.1, later hx (hc j m hj).2.2.1, later hx (hc j m hj).2.2.2.1, later hx (hc j m hj).2.2.2.2⟩⟩
theorem WsIs.get {w : World} {a : Option Addr} {cap : Nat} {L : List Vt} (h : WsIs w (.slice a L.length cap) L) {j : Nat} {m : Vt} (hj : L[j]? = some m) :
  ∃ b o, a = some ⟨b, o, none⟩ ∧ b < w.heap.size ∧ w.cell? ⟨b, o + j * 5, none⟩ = some (.int .i64 m.kd) ∧ w.cell? ⟨b, o + j * 5 + 1, none⟩ = some (.int .i64 m.fr) ∧ w.cell? ⟨b, o + j * 5 + 2, none⟩ = some (.int .i64 m.rd) ∧ w.cell? ⟨b, o + j * 5 + 3, none⟩ = some (.int .i64 m.va) ∧ w.cell? ⟨b, o + j * 5 + 4, none⟩ = some (.string m.vl) := by
 obtain ⟨a', cap', hv, h⟩ := h
 injection hv with e1 e2 e3
 subst e1
 have : j < L.length := (List.getElem?_eq_some_iff.1 hj).1
 obtain ⟨b, o, ha, hb, hc⟩ := h (by omega)
 exact ⟨b, o, ha, hb, hc j m hj⟩
theorem own_ws {w : World} {base : Nat} {v : Value} {L : List Vt} (h : w.ownsRow base 32 5 v L.length (wcs L)) : WsIs w v L := by
 have hc := h
 rcases h.2 with ⟨rfl, q⟩ | ⟨g, cap, cur, rfl, hb, hgg, hnc, hm, hs, ht⟩
 ·refine ⟨none, 0, by rw [q], fun hn => by omega⟩
 ·refine ⟨_, cap, rfl, fun hn => ⟨g, 0, rfl, (Array.getElem?_eq_some_iff.1 hgg).1, fun j m hj => ?_⟩⟩
  obtain ⟨q0, q1, q2, q3, q4⟩ := wcs_get L hj
  have hadd : ∀ k, (⟨g, 0, none⟩ : Addr).add k = ⟨g, 0 + k, none⟩ := fun k => by unfold Addr.add; split <;> simp_all
  have c0 := hc.cells (g := g) rfl _ _ q0
  have c1 := hc.cells (g := g) rfl _ _ q1
  have c2 := hc.cells (g := g) rfl _ _ q2
  have c3 := hc.cells (g := g) rfl _ _ q3
  have c4 := hc.cells (g := g) rfl _ _ q4
  rw [hadd] at c0 c1 c2 c3 c4
  exact ⟨c0, c1, c2, c3, c4⟩
theorem wcs_snoc (L : List Vt) (m : Vt) : wcs (L ++ [m]) = wcs L ++ [.int .i64 m.kd, .int .i64 m.fr, .int .i64 m.rd, .int .i64 m.va, .string m.vl] := by rw [wcs_app]; rfl
theorem len_snocV (L : List Vt) (m : Vt) : (L ++ [m]).length = L.length + 1 := by simp
theorem one5 (kd fr rd va : Int) (vl : ByteArray) : ∀ u ∈ ([.int .i64 kd, .int .i64 fr, .int .i64 rd, .int .i64 va, .string vl] : List Value), u.oneCell' = true := by
 intro u hu
 simp at hu
 rcases hu with rfl | rfl | rfl | rfl | rfl <;> rfl
set_option maxHeartbeats 1000000 in
theorem rquorum_any (n t : Int) (w : World) : Calls Try.prog 12 #[.int .i64 n, .int .i64 t] w fun e w' => e = .returned (.int .i64 (qI n t)) ∧ w' = w := by
 by_cases h : hasQ n t
 ·obtain ⟨h1, h2, h3, h4⟩ := h
  have HQ : Hid (qI n t = (n + t) / 2 + 1) := if_pos ⟨h1, h2, h3, h4⟩
  have e1 : IntKind.i64.wrap (3 * t) = 3 * t := by rw [IntKind.wrap_i64]; omega
  have e2 : IntKind.i64.wrap (3 * t + 1) = 3 * t + 1 := by rw [IntKind.wrap_i64]; omega
  have e3 : IntKind.i64.wrap (n + t) = n + t := by rw [IntKind.wrap_i64]; omega
  have a1 : ¬ t < 0 := by omega
  have a2 : ¬ 2 < t := by omega
  have a3 : ¬ n < 3 * t + 1 := by omega
  have a4 : ¬ 7 < n := by omega
  go_enter Try.func12, Try.ntmps12
  go_wp2
  go_ret
  exact ⟨by rw [HQ.out]; rfl, rfl⟩
 ·have HQ : Hid (qI n t = 0) := if_neg h
  by_cases b1 : t < 0
  ·clear h
   go_enter Try.func12, Try.ntmps12
   go_wp2
   go_ret
   exact ⟨by rw [HQ.out]; rfl, rfl⟩
  ·by_cases b2 : 2 < t
   ·clear h
    go_enter Try.func12, Try.ntmps12
    go_wp2
    go_ret
    exact ⟨by rw [HQ.out]; rfl, rfl⟩
   ·have e1 : IntKind.i64.wrap (3 * t) = 3 * t := by rw [IntKind.wrap_i64]; omega
    have e2 : IntKind.i64.wrap (3 * t + 1) = 3 * t + 1 := by rw [IntKind.wrap_i64]; omega
    by_cases b3 : n < 3 * t + 1
    ·clear h
     go_enter Try.func12, Try.ntmps12
     go_wp2
     go_ret
     exact ⟨by rw [HQ.out]; rfl, rfl⟩
    ·have b4 : 7 < n := by unfold hasQ at h; omega
     clear h
     go_enter Try.func12, Try.ntmps12
     go_wp2
     go_ret
     exact ⟨by rw [HQ.out]; rfl, rfl⟩
end Go.Proofs.Ytkfpmjepeikpjaa
