/-
  A gate of package release: where it lies; all that is called on it.
-/
import Derived.Test.YtdpplmfgbglkhaaGb
namespace Go.Proofs.Ytdpplmfgbglkhaa
open Go.RowKit
/-- A clock that shows N. -/
def Clk (N : Int) (c : Value) : Prop := (c = .iface 45 (.agg #[]) ∧ N = 0) ∨ c = .iface 51 (.int .i64 N)
/-- v points to a gate of these numbers; its blocks are F. -/
def GAt (w : World) (v : Value) (B E N M : Int) (F : Nat → Prop) : Prop :=
  ∃ b c o, v = .pointer (some ⟨b, 0, none⟩) ∧ GOk B E N M ∧ Clk N c ∧ Opn B E M o ∧ GB w b B E c o ∧ F = fun k => k = b
section
variable {w w' : World} {v : Value} {B E N M : Int} {F G : Nat → Prop}
theorem GAt.ok (h : GAt w v B E N M F) : GOk B E N M := by
  obtain ⟨b, c, o, rfl, h0, _⟩ := h
  exact h0
theorem GAt.lt (h : GAt w v B E N M F) : ∀ k, F k → k < w.heap.size := by
  obtain ⟨b, c, o, rfl, h0, h1, h2, h3, rfl⟩ := h
  intro k hk
  have hk : k = b := hk
  rw [hk]
  exact h3.1
theorem GAt.keep (h : GAt w v B E N M F) (hs : w.heap.size ≤ w'.heap.size) (hk : ∀ k, F k → w'.heap[k]? = w.heap[k]?) : GAt w' v B E N M F := by
  obtain ⟨b, c, o, rfl, h0, h1, h2, h3, rfl⟩ := h
  exact ⟨b, c, o, rfl, h0, h1, h2, h3.keep hs (hk b rfl), rfl⟩
theorem GAt.form (h : GAt w v B E N M F) : ∃ a, v = .pointer (some a) := by
  obtain ⟨b, c, o, rfl, _⟩ := h
  exact ⟨_, rfl⟩
theorem GAt.ext (h : GAt w v B E N M F) (hx : Ext w w') : GAt w' v B E N M F := h.keep hx.size fun k hk => Below.block hx k (h.lt k hk)
theorem GAt.far (h : GAt w v B E N M F) (hx : Chg G w w') (ha : Asunder F G) : GAt w' v B E N M F := h.keep hx.size fun k hk => hx.block k (h.lt k hk) (fun q => ha k hk q)
end
set_option maxHeartbeats 1000000 in
theorem gnew_any (b e : Int) (w : World) : Calls Try.prog 9 #[.int .i64 b, .int .i64 e] w fun r w' => ∃ v F, r = .returned v ∧ GAt w' v (rB b) (rE e) 0 (-1) F ∧ From F w.heap.size ∧ Ext w w' := by
  have hk := GOk.new b e
  have HR : Hid (∀ W : World, W.heap.size = w.heap.size → Ext w W → GAt (W.alloc (.cells #[.int .i64 (rB b), .int .i64 (rE e), .iface 45 (.agg #[]), .int .i64 0] 49)) (.pointer (some ⟨w.heap.size, 0, none⟩)) (rB b) (rE e) 0 (-1) (fun k => k = w.heap.size)) := by
    intro W hW hE
    rw [← hW]
    exact ⟨_, _, 0, rfl, hk, .inl ⟨rfl, rfl⟩, Opn.new hk, GB.new W 49 _ _ _ _, rfl⟩
  have HA : Hid (∀ W, Calls Try.prog 20 #[.int .i64 b, .int .i64 0, .int .i64 1073741824] W fun r w' => r = .returned (.int .i64 (rB b)) ∧ w' = W) := within_any b 0 1073741824
  have HC : Hid (∀ W, Calls Try.prog 20 #[.int .i64 e, .int .i64 1, .int .i64 1048576] W fun r w' => r = .returned (.int .i64 (rE e)) ∧ w' = W) := within_any e 1 1048576
  clear hk
  go_enter Try.func9, Try.ntmps9
  go_wp2_with fail
  refine (HA.out _).mono ?_
  rintro r w1 ⟨rfl, rfl⟩
  go_wp2_with fail
  refine (HC.out _).mono ?_
  rintro r w2 ⟨rfl, rfl⟩
  go_wp2
  go_ret
  exact ⟨_, _, rfl, HR.out _ rfl (Ext.refl _), fun k hk => by have hk : k = _ := hk; omega, (Ext.refl _).alloc _⟩
section
variable {w : World} {v : Value} {B E N M : Int} {F : Nat → Prop}
theorem gtick_any (n : Int) (h : GAt w v B E N M F) : Calls Try.prog 13 #[v, .int .i64 n] w fun r w' => ∃ F', r = .returned (.tuple #[]) ∧ GAt w' v B E (rN n) (rM M n) F' ∧ Sub F' F w ∧ Chg F w w' := by
  obtain ⟨b, c, o, rfl, h0, h1, h2, h3, rfl⟩ := h
  have HK : Hid (GOk B E (rN n) (rM M n)) := h0.tick n
  have HA : Hid (∀ W, Calls Try.prog 20 #[.int .i64 n, .int .i64 0, .int .i64 1099511627776] W fun r w' => r = .returned (.int .i64 (rN n)) ∧ w' = W) := within_any n 0 1099511627776
  have HL := look_read (n := rN n) h0 h2 h3
  have HM : Hid (rM M n = max M (rN n)) := rfl
  generalize rN n = x at *
  generalize rM M n = y at *
  clear h0 h1 h2 h3
  go_enter Try.func13, Try.ntmps13
  go_wp2_with fail
  refine (HA.out _).mono ?_
  rintro r w1 ⟨rfl, rfl⟩
  go_wp2_with fail
  refine HL.mono ?_
  rintro r w2 ⟨rfl, ⟨o2, k1, k2⟩, k3⟩
  have HQ : Hid (∃ F', GAt w2 (.pointer (some ⟨b, 0, none⟩)) B E x y F' ∧ Sub F' (fun k => k = b) w1 ∧ Chg (fun k => k = b) w1 w2) := ⟨fun k => k = b, ⟨b, _, o2, rfl, HK.out, .inr rfl, by rw [HM.out]; exact k1, k2, rfl⟩, Sub.refl _ _, k3⟩
  clear k1 k2 k3
  go_wp2
  refine bodyPost_end (v := .tuple #[]) (by simp [results, Try.results13, go_sem]) rfl ?_
  obtain ⟨F', q1, q2, q3⟩ := HQ.out
  exact ⟨F', rfl, q1, q2, q3⟩
theorem gcrash_any (h : GAt w v B E N M F) : Calls Try.prog 11 #[v] w fun r w' => ∃ F', r = .returned (.tuple #[]) ∧ GAt w' v B E 0 M F' ∧ Sub F' F w ∧ Chg F w w' := by
  obtain ⟨b, c, o, rfl, h0, h1, h2, h3, rfl⟩ := h
  have HK : Hid (GOk B E 0 M) := h0.crash
  have HO : Hid (Opn B E M o) := h2
  have HL := look_still h0 h2 h3
  clear h0 h1 h2 h3
  go_enter Try.func11, Try.ntmps11
  go_wp2_with fail
  refine HL.mono ?_
  rintro r w2 ⟨rfl, k2, k3⟩
  have HQ : Hid (∃ F', GAt w2 (.pointer (some ⟨b, 0, none⟩)) B E 0 M F' ∧ Sub F' (fun k => k = b) w ∧ Chg (fun k => k = b) w w2) := ⟨fun k => k = b, ⟨b, _, o, rfl, HK.out, .inl ⟨rfl, rfl⟩, HO.out, k2, rfl⟩, Sub.refl _ _, k3⟩
  clear k2 k3
  go_wp2
  refine bodyPost_end (v := .tuple #[]) (by simp [results, Try.results11, go_sem]) rfl ?_
  obtain ⟨F', q1, q2, q3⟩ := HQ.out
  exact ⟨F', rfl, q1, q2, q3⟩
set_option maxHeartbeats 1000000 in
theorem gopen_any (e : Int) (h : GAt w v B E N M F) : Calls Try.prog 16 #[v, .int .i64 e] w fun r w' => r = .returned (.bool (rO B E M e)) ∧ Ext w w' := by
  obtain ⟨b, c, o, rfl, h0, h1, h2, ⟨-, -, -, -, c3, -, -⟩, rfl⟩ := h
  rw [← h2.open h0 e]
  clear h0 h1 h2
  by_cases q : 0 ≤ e
  · go_enter Try.func16, Try.ntmps16
    go_wp2
    go_ret
    exact ⟨by rw [decide_eq_true q]; rfl, Ext.refl w⟩
  · have q2 : decide (0 ≤ e) = false := decide_eq_false q
    rw [q2, Bool.false_and]
    go_enter Try.func16, Try.ntmps16
    go_wp2
    go_ret
    exact ⟨rfl, Ext.refl w⟩
theorem gtime_any (e : Int) (h : GAt w v B E N M F) : Calls Try.prog 18 #[v, .int .i64 e] w fun r w' => r = .returned (.int .i64 (rT B E e)) ∧ Ext w w' := by
  obtain ⟨b, c, o, rfl, h0, h1, h2, h3, rfl⟩ := h
  exact time_any h0 h3 e
theorem gnow_any (h : GAt w v B E N M F) : Calls Try.prog 15 #[v] w fun r w' => r = .returned (.int .i64 N) ∧ Ext w w' := by
  obtain ⟨b, c, o, rfl, h0, h1, h2, ⟨-, -, -, c2, -, -, -⟩, rfl⟩ := h
  clear h0 h2
  rcases h1 with ⟨rfl, rfl⟩ | rfl
  · have hm1 := still_now
    go_enter Try.func15, Try.ntmps15
    go_wp2_with fail
    refine (snow_any _).mono ?_
    rintro r w2 ⟨rfl, HX⟩
    have HE : Hid (Ext w w2) := HX
    clear HX
    go_wp2
    go_ret
    exact ⟨rfl, HE.out⟩
  · have hm1 := read_now N
    go_enter Try.func15, Try.ntmps15
    go_wp2_with fail
    refine (rnow_any N _).mono ?_
    rintro r w2 ⟨rfl, HX⟩
    have HE : Hid (Ext w w2) := HX
    clear HX
    go_wp2
    go_ret
    exact ⟨rfl, HE.out⟩
end
theorem gtick_nil (n : Int) (w : World) : Calls Try.prog 13 #[.pointer none, .int .i64 n] w fun r w' => r = .returned (.tuple #[]) ∧ Ext w w' := by
  go_enter Try.func13, Try.ntmps13
  go_wp2_with fail
  refine (within_any n 0 1099511627776 _).mono ?_
  rintro r w1 ⟨rfl, rfl⟩
  go_wp2_with fail
  refine (look_nil _ _).mono ?_
  rintro r w2 ⟨rfl, HX⟩
  have HE : Hid (Ext w1 w2) := HX
  clear HX
  go_wp2
  refine bodyPost_end (v := .tuple #[]) (by simp [results, Try.results13, go_sem]) rfl ?_
  exact ⟨rfl, HE.out⟩
theorem gcrash_nil (w : World) : Calls Try.prog 11 #[.pointer none] w fun r w' => r = .returned (.tuple #[]) ∧ Ext w w' := by
  go_enter Try.func11, Try.ntmps11
  go_wp2_with fail
  refine (look_nil _ _).mono ?_
  rintro r w2 ⟨rfl, HX⟩
  have HE : Hid (Ext w w2) := HX
  clear HX
  go_wp2
  refine bodyPost_end (v := .tuple #[]) (by simp [results, Try.results11, go_sem]) rfl ?_
  exact ⟨rfl, HE.out⟩
theorem gopen_nil (e : Int) (w : World) : Calls Try.prog 16 #[.pointer none, .int .i64 e] w fun r w' => r = .returned (.bool false) ∧ Ext w w' := by
  go_enter Try.func16, Try.ntmps16
  go_wp2
  go_ret
  exact ⟨rfl, Ext.refl w⟩
theorem gtime_nil (e : Int) (w : World) : Calls Try.prog 18 #[.pointer none, .int .i64 e] w fun r w' => r = .returned (.int .i64 (-1)) ∧ Ext w w' := by
  go_enter Try.func18, Try.ntmps18
  go_wp2
  go_ret
  exact ⟨rfl, Ext.refl w⟩
theorem gnow_nil (w : World) : Calls Try.prog 15 #[.pointer none] w fun r w' => r = .returned (.int .i64 0) ∧ Ext w w' := by
  go_enter Try.func15, Try.ntmps15
  go_wp2
  go_ret
  exact ⟨rfl, Ext.refl w⟩
end Go.Proofs.Ytdpplmfgbglkhaa
