/-
  The document's order (sandglassref01.Cmp), called; nothing old is turned.
  The document's numbers modulo the order (sandglassref03.Order, Valid, Mod, Add, Sub), called: numbers modulo q; nothing old is turned.
  The document's number of a text (sandglassref01.From), called; nothing old is turned.
-/
import Derived.Test.YtpfeakdpckmcgaaDoorLows
import Derived.Deep.QuietTactic
import Derived.BigQuiet
import Derived.Deep.RegionHeld3
import Derived.Deep.DeepCutAuto
namespace Go.Proofs.YtpfeakdpckmcgaaDoor
open Go.RowKit
theorem cmp_top {a0 a1 a2 a3 b0 b1 b2 b3 : Int} (ha : Lim4 a0 a1 a2 a3) (hb : Lim4 b0 b1 b2 b3) {k : Nat} (hk : k < 4) (h : ∀ j : Nat, (k : Int) < j → j < 4 → wd a0 a1 a2 a3 j = wd b0 b1 b2 b3 j) :
    (wd a0 a1 a2 a3 k < wd b0 b1 b2 b3 k → val a0 a1 a2 a3 < val b0 b1 b2 b3) ∧ (wd b0 b1 b2 b3 k < wd a0 a1 a2 a3 k → val b0 b1 b2 b3 < val a0 a1 a2 a3) := by
  have h1 : (k : Int) < 1 → a1 = b1 := fun g => h 1 g (by decide)
  have h2 : (k : Int) < 2 → a2 = b2 := fun g => h 2 g (by decide)
  have h3 : (k : Int) < 3 → a3 = b3 := fun g => h 3 g (by decide)
  unfold Lim4 Lim at *
  unfold val
  have : k = 0 ∨ k = 1 ∨ k = 2 ∨ k = 3 := by omega
  rcases this with rfl | rfl | rfl | rfl
  · have := h1 (by decide); have := h2 (by decide); have := h3 (by decide)
    show (a0 < b0 → _) ∧ (b0 < a0 → _)
    omega
  · have := h2 (by decide); have := h3 (by decide)
    show (a1 < b1 → _) ∧ (b1 < a1 → _)
    omega
  · have := h3 (by decide)
    show (a2 < b2 → _) ∧ (b2 < a2 → _)
    omega
  · show (a3 < b3 → _) ∧ (b3 < a3 → _)
    omega
theorem cmp_all {a0 a1 a2 a3 b0 b1 b2 b3 : Int} {x : Int} (hx : x < 0) (h : ∀ j : Nat, x < j → j < 4 → wd a0 a1 a2 a3 j = wd b0 b1 b2 b3 j) : val a0 a1 a2 a3 = val b0 b1 b2 b3 := by
  have h0 : a0 = b0 := h 0 (by omega) (by decide)
  have h1 : a1 = b1 := h 1 (by omega) (by decide)
  have h2 : a2 = b2 := h 2 (by omega) (by decide)
  have h3 : a3 = b3 := h 3 (by omega) (by decide)
  rw [h0, h1, h2, h3]
attribute [local go_sem] setCell_drewN alloc_drewN
set_option maxHeartbeats 1000000 in
theorem refCmp_any (a0 a1 a2 a3 b0 b1 b2 b3 : Int) (ha : Lim4 a0 a1 a2 a3) (hb : Lim4 b0 b1 b2 b3) (w : World) :
    Calls Tryd.prog 31 #[.agg #[.int .u64 a0, .int .u64 a1, .int .u64 a2, .int .u64 a3], .agg #[.int .u64 b0, .int .u64 b1, .int .u64 b2, .int .u64 b3]] w fun e w' =>
      ∃ n : Int, e = .returned (.int .i64 n) ∧ Hid (CmpP (val a0 a1 a2 a3) (val b0 b1 b2 b3) n) ∧ Ext w w' := by
  obtain ⟨Af, HAf⟩ : ∃ f, Hid (wd a0 a1 a2 a3 = f) := ⟨_, rfl⟩
  obtain ⟨Bf, HBf⟩ : ∃ f, Hid (wd b0 b1 b2 b3 = f) := ⟨_, rfl⟩
  have hga : Hid (∀ i, i < 4 → [Value.int .u64 a0, .int .u64 a1, .int .u64 a2, .int .u64 a3][i]? = some (.int .u64 (Af i))) := fun i hi => HAf.out ▸ wd_get a0 a1 a2 a3 i hi
  have hgb : Hid (∀ i, i < 4 → [Value.int .u64 b0, .int .u64 b1, .int .u64 b2, .int .u64 b3][i]? = some (.int .u64 (Bf i))) := fun i hi => HBf.out ▸ wd_get b0 b1 b2 b3 i hi
  have HT : Hid (∀ k : Nat, k < 4 → (∀ j : Nat, (k : Int) < j → j < 4 → Af j = Bf j) → (Af k < Bf k → val a0 a1 a2 a3 < val b0 b1 b2 b3) ∧ (Bf k < Af k → val b0 b1 b2 b3 < val a0 a1 a2 a3)) := by
    intro k hk h
    rw [← HAf.out, ← HBf.out] at *
    exact cmp_top ha hb hk h
  have HL : Hid (∀ x : Int, x < 0 → (∀ j : Nat, x < j → j < 4 → Af j = Bf j) → val a0 a1 a2 a3 = val b0 b1 b2 b3) := by
    intro x hx h
    rw [← HAf.out, ← HBf.out] at h
    exact cmp_all hx h
  clear ha hb
  go_enter Tryd.func31, Tryd.ntmps31
  go_wp2
  go_loopw [5] (fun i wr => ∃ x : Int, -1 ≤ x ∧ x ≤ 3 ∧ i = .int .i64 x ∧ Hid (∀ j : Nat, x < j → j < 4 → Af j = Bf j) ∧ ∃ n, wr = ((w.alloc (.cells #[.int .u64 a0, .int .u64 a1, .int .u64 a2, .int .u64 a3] 39)).alloc (.cells #[.int .u64 b0, .int .u64 b1, .int .u64 b2, .int .u64 b3] 39)).drewN n) (fun i _ => (intOf i + 1).toNat)
  case atStart => exact ⟨3, by omega, by omega, rfl, fun j h g => by omega, 0, rfl⟩
  case round =>
    obtain ⟨x, hx0, hx1, rfl, HI, n, rfl⟩ := hrel
    by_cases hlt : x < 0
    · go_wp2
      go_ret
      exact ⟨_, rfl, Or.inr (Or.inl ⟨rfl, HL.out x hlt HI.out⟩), (((Ext.refl _).alloc _).alloc _).drewN _⟩
    · obtain ⟨k, rfl⟩ := Int.eq_ofNat_of_zero_le (show 0 ≤ x by omega)
      have hk : k < 4 := by omega
      have ga := hga.out k hk
      have gb := hgb.out k hk
      have ga2 := get_some ga
      have gb2 := get_some gb
      have hk0 : (0 : Int) ≤ (k : Int) := by omega
      have hk1 : (k : Int) < 4 := by omega
      have HC := HT.out k hk HI.out
      have HC' : Hid ((Af k < Bf k → val a0 a1 a2 a3 < val b0 b1 b2 b3) ∧ (Bf k < Af k → val b0 b1 b2 b3 < val a0 a1 a2 a3)) := HC
      have HN : Hid (Af k = Bf k → ∀ j : Nat, (k : Int) - 1 < j → j < 4 → Af j = Bf j) := fun e j h g => by
        by_cases ej : j = k
        · rw [ej]; exact e
        · exact HI.out j (by omega) g
      clear HC
      generalize Af k = ak at *
      generalize Bf k = bk at *
      by_cases t1 : ak < bk
      · go_wp2
        go_quiet (fail)
        go_wp2
        go_ret
        exact ⟨_, rfl, Or.inl ⟨rfl, HC'.out.1 t1⟩, ((((Ext.refl _).alloc _).alloc _).drewN _).drewN _⟩
      · by_cases t2 : bk < ak
        · go_wp2
          go_quiet (fail)
          obtain ⟨q1, rfl⟩ : ∃ q, q = nq := ⟨_, rfl⟩
          go_wp2
          go_quiet (fail)
          go_wp2
          go_ret
          exact ⟨_, rfl, Or.inr (Or.inr ⟨rfl, HC'.out.2 t2⟩), (((((Ext.refl _).alloc _).alloc _).drewN _).drewN _).drewN _⟩
        · go_wp2
          go_quiet (fail)
          obtain ⟨q1, rfl⟩ : ∃ q, q = nq := ⟨_, rfl⟩
          go_wp2
          go_quiet (fail)
          go_wp2
          exact ⟨⟨(k : Int) - 1, by omega, by omega, rfl, HN.out (by omega), n + q1 + nq, rfl⟩, by simp [intOf]⟩
end Go.Proofs.YtpfeakdpckmcgaaDoor
namespace Go.Proofs.YtpfeakdpckmcgaaDoor
open Go.RowKit
set_option maxHeartbeats 400000 in
theorem refOrder_any (w : World) : Calls Tryd.prog 32 #[] w fun e w' => e = .returned (.agg #[.int .u64 17562291160714782033, .int .u64 13611842547513532036, .int .u64 18446744073709551615, .int .u64 18446744069414584320]) ∧ Ext w w' := by
  go_enter Tryd.func32, Tryd.ntmps32
  go_wp2
  refine bodyPost_ret (v := .agg #[.int .u64 17562291160714782033, .int .u64 13611842547513532036, .int .u64 18446744073709551615, .int .u64 18446744069414584320]) (by simp [results, Tryd.results32, go_sem]) rfl ⟨rfl, ?_⟩
  exact (Ext.refl _).alloc _
theorem cmp_lessq {a n : Int} (h : CmpP a FQ n) : decide (n < 0) = decide (a < FQ) := by
  unfold CmpP at h
  rcases h with ⟨rfl, h⟩ | ⟨rfl, h⟩ | ⟨rfl, h⟩ <;> simp <;> omega
set_option maxHeartbeats 1000000 in
theorem refSValid_any (x0 x1 x2 x3 : Int) (hx : Lim4 x0 x1 x2 x3) (w : World) :
    Calls Tryd.prog 22 #[.agg #[.int .u64 x0, .int .u64 x1, .int .u64 x2, .int .u64 x3]] w fun e w' => e = .returned (.bool (decide (val x0 x1 x2 x3 < FQ))) ∧ Ext w w' := by
  have R0 := Row.new w x0 x1 x2 x3
  have HE0 : Hid (Ext w (w.alloc (.cells #[.int .u64 x0, .int .u64 x1, .int .u64 x2, .int .u64 x3] 39))) := (Ext.refl _).alloc _
  have HM : Hid (∀ wx, Calls Tryd.prog 31 #[.agg #[.int .u64 x0, .int .u64 x1, .int .u64 x2, .int .u64 x3], .agg #[.int .u64 17562291160714782033, .int .u64 13611842547513532036, .int .u64 18446744073709551615, .int .u64 18446744069414584320]] wx fun e w' => ∃ n : Int, e = .returned (.int .i64 n) ∧ Hid (CmpP (val x0 x1 x2 x3) FQ n) ∧ Ext wx w') := fun wx => by
    have h := refCmp_any x0 x1 x2 x3 _ _ _ _ hx lim_FQ wx
    rw [val_FQ] at h
    exact h
  go_enter Tryd.func22, Tryd.ntmps22
  go_wp2_with fail
  generalize w.alloc (.cells #[.int .u64 x0, .int .u64 x1, .int .u64 x2, .int .u64 x3] 39) = W0 at *
  generalize w.heap.size = b at *
  go_region_held3 (fun wx : World => Ext W0 wx ∧ wx.cell? ⟨b, 0, none⟩ = some (.int .u64 x0) ∧ wx.cell? ⟨b, 1, none⟩ = some (.int .u64 x1) ∧ wx.cell? ⟨b, 2, none⟩ = some (.int .u64 x2) ∧ wx.cell? ⟨b, 3, none⟩ = some (.int .u64 x3)) (first | exact keep1 (Ext.drew (Ext.refl _)) R0 | exact keep1 (by assumption) R0) (first | (go_at_call 32; refine (refOrder_any _).mono ?_; rintro e wy ⟨rfl, HX⟩; have hEy : Ext W0 wy := (by refine Ext.trans ?_ HX; simp only [*])) | (go_at_call 31; refine (HM.out _).mono ?_; rintro e wy ⟨n, rfl, HC, HX⟩; have hEy : Ext W0 wy := (by refine Ext.trans ?_ HX; simp only [*])))
  go_wp2
  go_ret
  exact ⟨by rw [← cmp_lessq HC.out]; rfl, HE0.out.trans hEy⟩
end Go.Proofs.YtpfeakdpckmcgaaDoor
namespace Go.Proofs.YtpfeakdpckmcgaaDoor
open Go.RowKit
attribute [local go_sem] setCell_drewN alloc_drewN
set_option maxHeartbeats 400000 in
theorem refFrom_bad (s : ByteArray) (_hs : s.size ≤ maxLen) (hn : s.size ≠ 32) (w : World) :
    Calls Tryd.prog 28 #[.string s] w fun e w' =>
      e = .returned (.tuple #[.agg #[.int .u64 0, .int .u64 0, .int .u64 0, .int .u64 0], .int .i64 2]) ∧ Ext w w' := by
  unfold maxLen at _hs
  have hne : ((s.size : Int) != 32) = true := by simp; omega
  go_enter Tryd.func28, Tryd.ntmps28
  go_wp2
  refine bodyPost_ret (v := .tuple #[.agg #[.int .u64 0, .int .u64 0, .int .u64 0, .int .u64 0], .int .i64 2]) (by simp [results, Tryd.results28, go_sem]) rfl ⟨rfl, ?_⟩
  exact ((Ext.refl _).alloc _).alloc _
set_option maxHeartbeats 400000 in
theorem refFrom_any (s : ByteArray) (hn : s.size = 32) (w : World) :
    Calls Tryd.prog 28 #[.string s] w fun e w' =>
      e = .returned (.tuple #[.agg #[.int .u64 (frW (bt s) 0), .int .u64 (frW (bt s) 1), .int .u64 (frW (bt s) 2), .int .u64 (frW (bt s) 3)], .int .i64 0]) ∧ Ext w w' := by
  go_enter Tryd.func28, Tryd.ntmps28
  go_wp2
  go_loopw [5] (fun i wr => ∃ (k : Nat), k ≤ 32 ∧ i = .int .i64 k ∧ ∃ n, wr = ((w.alloc (.cells #[.int .u64 0, .int .u64 0, .int .u64 0, .int .u64 0] 39)).alloc (.cells (fa (fwd (bt s) k)) 39)).drewN n) (fun i _ => 32 - (intOf i).toNat)
  case atStart => exact ⟨0, Nat.zero_le _, rfl, 0, rfl⟩
  case round =>
    obtain ⟨k, hk, rfl, n, rfl⟩ := hrel
    by_cases hlt : k < 32
    · have hf := fa_get (fwd (bt s) k) (3 - k / 8) (by omega)
      have HS : Hid (∀ v, (fa (fwd (bt s) k)).setIfInBounds (3 - k / 8) (.int .u64 v) = fa (fun i => if i = 3 - k / 8 then v else fwd (bt s) k i)) := fun v => fa_set (fwd (bt s) k) (3 - k / 8) (by omega) v
      have HB : Hid (((s[k]'(by omega)).toNat : Int) = bt s k) := bt_get s k (by omega)
      have hk0 : (0 : Int) ≤ (k : Int) := by omega
      have hk1 : (k : Int) < 32 := by omega
      go_wp2
      go_region
      go_wp2
      exact ⟨⟨k + 1, hlt, by go_num, n + 1, by
        rw [HB.out]
        rw [HS.out]
        rfl⟩, by simp [intOf]; omega⟩
    · obtain rfl : k = 32 := by omega
      obtain ⟨e0, e1, e2, e3⟩ := fwd_32 (bt s) (bt_bd s)
      obtain ⟨a0, H0⟩ : ∃ a, Hid (frW (bt s) 0 = a) := ⟨_, rfl⟩
      obtain ⟨a1, H1⟩ : ∃ a, Hid (frW (bt s) 1 = a) := ⟨_, rfl⟩
      obtain ⟨a2, H2⟩ : ∃ a, Hid (frW (bt s) 2 = a) := ⟨_, rfl⟩
      obtain ⟨a3, H3⟩ : ∃ a, Hid (frW (bt s) 3 = a) := ⟨_, rfl⟩
      have hfa : fa (fwd (bt s) 32) = #[.int .u64 a0, .int .u64 a1, .int .u64 a2, .int .u64 a3] := by
        unfold fa; rw [e0, e1, e2, e3, H0.out, H1.out, H2.out, H3.out]
      rw [hfa]
      clear hfa e0 e1 e2 e3
      go_wp2
      refine bodyPost_ret (v := .tuple #[.agg #[.int .u64 a0, .int .u64 a1, .int .u64 a2, .int .u64 a3], .int .i64 0]) (by simp [results, Tryd.results28, go_sem]) rfl ⟨by rw [H0.out, H1.out, H2.out, H3.out], ?_⟩
      exact (((Ext.refl _).alloc _).alloc _).drewN _
end Go.Proofs.YtpfeakdpckmcgaaDoor
