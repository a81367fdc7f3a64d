/-
  (*cast.Cast).counts, called.
-/
import Derived.Test.YtmibekclhnkhnaaCb
namespace Go.Proofs.Ytmibekclhnkhnaa
open Go.RowKit
theorem cg_heard (N T F : Nat) (s : St) (mv : Option Nat) {K p : Nat} (hK : K < 4) (hp : p < 8) : cg N T F s mv (3 + K * 8 + p) = .bool (hrd s.L (K : Int) (p : Int)) := by
  unfold cg
  rw [if_neg (by omega), if_neg (by omega), if_neg (by omega), if_pos (by omega), show (3 + K * 8 + p - 3) / 8 = K from by omega, show (3 + K * 8 + p - 3) % 8 = p from by omega]
/-- A message that is handed round. -/
abbrev mv3 (m : Msg) : Value := .agg #[.int .i64 m.kd, .int .i64 m.fr, .string m.bd]
theorem box3 (w : World) (m : Msg) : Blk (w.alloc (.cells #[.int .i64 m.kd, .int .i64 m.fr, .string m.bd] 38)) w.heap.size 3 (fun j => if j = 0 then .int .i64 m.kd else if j = 1 then .int .i64 m.fr else .string m.bd) :=
  Blk.new w _ _ fun j hj => by
    have : j = 0 ∨ j = 1 ∨ j = 2 := by omega
    rcases this with rfl | rfl | rfl <;> rfl
theorem cts_false {N F : Nat} {L : List Msg} {m : Msg} (h : mayB N F m = false) : ctsB N F L m = false := by unfold ctsB; rw [h]; rfl
theorem may_false {N F : Nat} {m : Msg} (h : ¬ (1 ≤ m.fr ∧ m.fr ≤ (N : Int) ∧ 1 ≤ m.kd ∧ m.kd ≤ 3 ∧ m.bd.size ≤ 4096 ∧ (m.kd = 1 → m.fr = (F : Int)))) : mayB N F m = false := by unfold mayB; exact decide_eq_false h
set_option maxHeartbeats 2000000 in
theorem counts_any {N T F : Nat} {s : St} {G : Nat → Prop} {v : Value} (m : Msg) (hN : N ≤ 7) (w : World) (h : CAt w v N T F s G) :
    Calls Try.prog 22 #[v, mv3 m] w fun e w' => e = .returned (.bool (ctsB N F s.L m)) ∧ Ext w w' := by
  obtain ⟨b, mv, rfl, hb, hm, rfl⟩ := h
  obtain ⟨kd, fr, bd⟩ := m
  have HB : Hid (Blk w b 39 (cg N T F s mv)) := hb
  have HE : Hid (Ext w w) := Ext.refl w
  have hlt := hb.1
  have c0 : w.cell? ⟨b, 0, none⟩ = some (.int .i64 (N : Int)) := (hb.2 0 (by decide)).1
  have c2 : w.cell? ⟨b, 2, none⟩ = some (.int .i64 (F : Int)) := (hb.2 2 (by decide)).1
  clear hb hm
  by_cases h1 : fr < 1
  · have HR : Hid (ctsB N F s.L ⟨kd, fr, bd⟩ = false) := cts_false (may_false (fun q => by have := q.1; simp at this; omega))
    go_enter Try.func22, Try.ntmps22
    go_wp2_with fail
    go_quiet (fail)
    go_wp2
    go_ret
    exact ⟨by rw [HR.out]; rfl, (HE.out.alloc _).drewN _⟩
  by_cases h2 : (N : Int) < fr
  · have HR : Hid (ctsB N F s.L ⟨kd, fr, bd⟩ = false) := cts_false (may_false (fun q => by have := q.2.1; simp at this; omega))
    go_enter Try.func22, Try.ntmps22
    go_wp2_with fail
    go_quiet (fail)
    go_wp2
    go_ret
    exact ⟨by rw [HR.out]; rfl, (HE.out.alloc _).drewN _⟩
  by_cases h3 : kd < 1
  · have HR : Hid (ctsB N F s.L ⟨kd, fr, bd⟩ = false) := cts_false (may_false (fun q => by have := q.2.2.1; simp at this; omega))
    go_enter Try.func22, Try.ntmps22
    go_wp2_with fail
    go_quiet (fail)
    go_wp2
    go_ret
    exact ⟨by rw [HR.out]; rfl, (HE.out.alloc _).drewN _⟩
  by_cases h4 : 3 < kd
  · have HR : Hid (ctsB N F s.L ⟨kd, fr, bd⟩ = false) := cts_false (may_false (fun q => by have := q.2.2.2.1; simp at this; omega))
    go_enter Try.func22, Try.ntmps22
    go_wp2_with fail
    go_quiet (fail)
    go_wp2
    go_ret
    exact ⟨by rw [HR.out]; rfl, (HE.out.alloc _).drewN _⟩
  by_cases h5 : (4096 : Int) < (bd.size : Int)
  · have HR : Hid (ctsB N F s.L ⟨kd, fr, bd⟩ = false) := cts_false (may_false (fun q => by have := q.2.2.2.2.1; simp at this; omega))
    go_enter Try.func22, Try.ntmps22
    go_wp2_with fail
    go_quiet (fail)
    go_wp2
    go_ret
    exact ⟨by rw [HR.out]; rfl, (HE.out.alloc _).drewN _⟩
  by_cases e1 : kd = 1
  · subst e1
    obtain ⟨q, rfl⟩ : ∃ q : Nat, fr = (q : Int) := ⟨fr.toNat, by omega⟩
    have q0 : (0 : Int) ≤ (q : Int) := by omega
    have q8 : (q : Int) < 8 := by omega
    have d1a : decide ((q : Int) < 1) = false := decide_eq_false h1
    have d1b : decide (q < 1) = false := decide_eq_false (by omega)
    have d2a : decide ((N : Int) < (q : Int)) = false := decide_eq_false h2
    have d2b : decide (N < q) = false := decide_eq_false (by omega)
    have d5a : decide ((4096 : Int) < (bd.size : Int)) = false := decide_eq_false h5
    have d5b : decide (4096 < bd.size) = false := decide_eq_false (by omega)
    have hc : w.cell? ⟨b, 11 + q, none⟩ = some (.bool (hrd s.L 1 (q : Int))) := by
      have := cg_heard N T F s mv (by omega : 1 < 4) (by omega : q < 8)
      rw [show 3 + 1 * 8 + q = 11 + q from by omega] at this
      exact (HB.out.2 (11 + q) (by omega)).1.trans (congrArg some this)
    have HM : Hid ((q : Int) = (F : Int) → mayB N F ⟨1, (q : Int), bd⟩ = true) := fun e => may_iff.2 ⟨by simp; omega, by simp; omega, by simp, by simp, by simp; omega, fun _ => e⟩
    clear HB
    cases hh : hrd s.L 1 (q : Int) with
    | true =>
      rw [hh] at hc
      have HR : Hid (ctsB N F s.L ⟨1, (q : Int), bd⟩ = false) := by show _ = _; unfold ctsB; rw [hh]; exact Bool.and_false _
      go_enter Try.func22, Try.ntmps22
      go_wp2_with fail
      go_quiet (fail)
      go_wp2_with fail
      go_quiet (fail)
      go_wp2
      go_ret
      exact ⟨by rw [HR.out]; rfl, ((HE.out.alloc _).drewN _).drewN _⟩
    | false =>
      rw [hh] at hc
      have HR : Hid (ctsB N F s.L ⟨1, (q : Int), bd⟩ = ((q : Int) == (F : Int))) := by
        show _ = _
        by_cases e2 : (q : Int) = (F : Int)
        · unfold ctsB; rw [hh, HM.out e2, e2]; simp
        · rw [cts_false (may_false (fun z => e2 (z.2.2.2.2.2 rfl)))]; simp; omega
      go_enter Try.func22, Try.ntmps22
      go_wp2_with fail
      go_quiet (fail)
      go_wp2_with fail
      go_quiet (fail)
      go_wp2
      go_ret
      exact ⟨by rw [HR.out]; rfl, ((HE.out.alloc _).drewN _).drewN _⟩
  obtain ⟨K, rfl⟩ : ∃ K : Nat, kd = (K : Int) := ⟨kd.toNat, by omega⟩
  obtain ⟨q, rfl⟩ : ∃ q : Nat, fr = (q : Int) := ⟨fr.toNat, by omega⟩
  have k0 : (0 : Int) ≤ (K : Int) := by omega
  have k4 : (K : Int) < 4 := by omega
  have q0 : (0 : Int) ≤ (q : Int) := by omega
  have q8 : (q : Int) < 8 := by omega
  have d1a : decide ((q : Int) < 1) = false := decide_eq_false h1
  have d1b : decide (q < 1) = false := decide_eq_false (by omega)
  have d2a : decide ((N : Int) < (q : Int)) = false := decide_eq_false h2
  have d2b : decide (N < q) = false := decide_eq_false (by omega)
  have d5a : decide ((4096 : Int) < (bd.size : Int)) = false := decide_eq_false h5
  have d5b : decide (4096 < bd.size) = false := decide_eq_false (by omega)
  have d3a : decide ((K : Int) < 1) = false := decide_eq_false h3
  have d3b : decide (K < 1) = false := decide_eq_false (by omega)
  have d4a : decide ((3 : Int) < (K : Int)) = false := decide_eq_false h4
  have d4b : decide (3 < K) = false := decide_eq_false (by omega)
  have hc : w.cell? ⟨b, 3 + K * 8 + q, none⟩ = some (.bool (hrd s.L (K : Int) (q : Int))) := by
    rw [← cg_heard N T F s mv (by omega : K < 4) (by omega : q < 8)]
    exact (HB.out.2 _ (by omega)).1
  have HM2 : Hid (mayB N F ⟨(K : Int), (q : Int), bd⟩ = true) := may_iff.2 ⟨by simp; omega, by simp; omega, by simp; omega, by simp; omega, by simp; omega, fun z => absurd z e1⟩
  have d1 : ((K : Int) == 1) = false := by simpa using e1
  clear HB
  cases hh : hrd s.L (K : Int) (q : Int) with
  | true =>
    rw [hh] at hc
    have HR : Hid (ctsB N F s.L ⟨(K : Int), (q : Int), bd⟩ = false) := by show _ = _; unfold ctsB; rw [hh]; exact Bool.and_false _
    go_enter Try.func22, Try.ntmps22
    go_wp2_with fail
    go_quiet (fail)
    go_wp2_with fail
    go_quiet (fail)
    go_wp2
    go_ret
    exact ⟨by rw [HR.out]; rfl, ((HE.out.alloc _).drewN _).drewN _⟩
  | false =>
    rw [hh] at hc
    have HR : Hid (ctsB N F s.L ⟨(K : Int), (q : Int), bd⟩ = true) := by show _ = _; unfold ctsB; rw [hh, HM2.out]; rfl
    go_enter Try.func22, Try.ntmps22
    go_wp2_with fail
    go_quiet (fail)
    go_wp2_with fail
    go_quiet (fail)
    go_wp2
    go_ret
    exact ⟨by rw [HR.out]; rfl, ((HE.out.alloc _).drewN _).drewN _⟩
end Go.Proofs.Ytmibekclhnkhnaa
