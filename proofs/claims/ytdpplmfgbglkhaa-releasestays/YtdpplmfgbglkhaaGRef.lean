/-
  sandglassref26, called: the document's gate.
-/
import Derived.Test.YtdpplmfgbglkhaaSl
import Derived.Test.YtdpplmfgbglkhaaGMath
namespace Go.Proofs.Ytdpplmfgbglkhaa
open Go.RowKit
/-- A gate of the document's, as a value. -/
def gV (B E N M : Int) : Value := .agg #[.int .i64 B, .int .i64 E, .int .i64 N, .int .i64 M]
theorem wz {x : Int} (h0 : -9223372036854775808 ≤ x) (h1 : x < 9223372036854775808) : IntKind.i64.wrap x = x := by rw [IntKind.wrap_i64]; omega
theorem max_if (x y : Int) : (if x < y then y else x) = max x y := by omega
theorem min_if (x y : Int) : (if y < x then y else x) = min x y := by omega
set_option maxHeartbeats 1000000 in
theorem rnew_any (b e : Int) (w : World) : Calls Try.prog 10 #[.int .i64 b, .int .i64 e] w fun r w' => r = .returned (gV (rB b) (rE e) 0 (-1)) ∧ Ext w w' := by
  unfold gV rB rE
  obtain ⟨x0, h0⟩ : ∃ x, max b 0 = x := ⟨_, rfl⟩
  obtain ⟨x1, h1⟩ : ∃ x, max e 1 = x := ⟨_, rfl⟩
  rw [h0, h1]
  obtain ⟨x2, h2⟩ : ∃ x, min x0 1073741824 = x := ⟨_, rfl⟩
  obtain ⟨x3, h3⟩ : ∃ x, min x1 1048576 = x := ⟨_, rfl⟩
  rw [h2, h3]
  rw [← max_if] at h0 h1
  rw [← min_if] at h2 h3
  go_enter Try.func10, Try.ntmps10
  go_wp2
  refine bodyPost_ret (v := .agg #[.int .i64 x2, .int .i64 x3, .int .i64 0, .int .i64 (-1)]) (by simp [results, Try.results10, go_sem]) rfl ⟨rfl, ?_⟩
  exact (Ext.refl w).alloc _
set_option maxHeartbeats 1000000 in
theorem rcrash_any (B E N M : Int) (w : World) : Calls Try.prog 12 #[gV B E N M] w fun r w' => r = .returned (gV B E 0 M) ∧ Ext w w' := by
  unfold gV
  go_enter Try.func12, Try.ntmps12
  go_wp2
  refine bodyPost_ret (v := .agg #[.int .i64 B, .int .i64 E, .int .i64 0, .int .i64 M]) (by simp [results, Try.results12, go_sem]) rfl ⟨rfl, ?_⟩
  exact ((Ext.refl w).alloc _).alloc _
set_option maxHeartbeats 1000000 in
theorem rtick_any (B E N M n : Int) (w : World) : Calls Try.prog 14 #[gV B E N M, .int .i64 n] w fun r w' => r = .returned (gV B E (rN n) (rM M n)) ∧ Ext w w' := by
  unfold gV rM rN
  obtain ⟨x0, h0⟩ : ∃ x, max n 0 = x := ⟨_, rfl⟩
  rw [h0]
  obtain ⟨x2, h2⟩ : ∃ x, min x0 1099511627776 = x := ⟨_, rfl⟩
  rw [h2]
  obtain ⟨x3, h3⟩ : ∃ x, max M x2 = x := ⟨_, rfl⟩
  rw [h3]
  rw [← max_if] at h0 h3
  rw [← min_if] at h2
  go_enter Try.func14, Try.ntmps14
  go_wp2
  refine bodyPost_ret (v := .agg #[.int .i64 B, .int .i64 E, .int .i64 x2, .int .i64 x3]) (by simp [results, Try.results14, go_sem]) rfl ⟨rfl, ?_⟩
  exact ((Ext.refl w).alloc _).alloc _
set_option maxHeartbeats 1000000 in
theorem rtime_any (B E N M e : Int) (hk : GOk B E N M) (w : World) : Calls Try.prog 19 #[gV B E N M, .int .i64 e] w fun r w' => r = .returned (.int .i64 (rT B E e)) ∧ Ext w w' := by
  unfold gV
  by_cases h0 : e < 0
  · rw [rT_out (.inl h0)]
    go_enter Try.func19, Try.ntmps19
    go_wp2
    go_ret
    exact ⟨rfl, (Ext.refl w).alloc _⟩
  · by_cases h1 : 63 < e
    · rw [rT_out (.inr h1)]
      go_enter Try.func19, Try.ntmps19
      go_wp2
      go_ret
      exact ⟨rfl, (Ext.refl w).alloc _⟩
    · rw [rT_in h0 h1]
      have hn := rT_nums hk h0 h1
      have hb0 := hk.b0
      have hb1 := hk.b1
      have q1 : IntKind.i64.wrap (e * E) = e * E := wz (by omega) (by omega)
      have q2 : IntKind.i64.wrap (B + e * E) = B + e * E := wz (by omega) (by omega)
      clear hn hb0 hb1 hk
      go_enter Try.func19, Try.ntmps19
      go_wp2
      go_ret
      exact ⟨rfl, (Ext.refl w).alloc _⟩
set_option maxHeartbeats 1000000 in
theorem ropen_any (B E N M e : Int) (hk : GOk B E N M) (w : World) : Calls Try.prog 17 #[gV B E N M, .int .i64 e] w fun r w' => r = .returned (.bool (rO B E M e)) ∧ Ext w w' := by
  have HT : Hid (∀ W, Calls Try.prog 19 #[gV B E N M, .int .i64 e] W fun r w' => r = .returned (.int .i64 (rT B E e)) ∧ Ext W w') := fun W => rtime_any B E N M e hk W
  unfold gV at *
  unfold rO
  obtain ⟨t, ht⟩ : ∃ t, rT B E e = t := ⟨_, rfl⟩
  rw [ht] at HT ⊢
  clear ht hk
  go_enter Try.func17, Try.ntmps17
  go_wp2_with fail
  refine (HT.out _).mono ?_
  rintro r w1 ⟨rfl, HX⟩
  have HE : Hid (Ext w w1) := ((Ext.refl w).alloc _).trans HX
  have c3 : w1.cell? ⟨w.heap.size, 3, none⟩ = some (.int .i64 M) := later HX (by rw [World.cell?_alloc_at _ _ _ _ rfl]; rfl)
  clear HX HT
  by_cases g0 : 0 ≤ t
  · go_wp2
    go_ret
    exact ⟨by simp [g0], HE.out⟩
  · go_wp2
    go_ret
    exact ⟨by (have q : decide (0 ≤ t) = false := decide_eq_false (by omega)); rw [q]; rfl, HE.out⟩
end Go.Proofs.Ytdpplmfgbglkhaa
