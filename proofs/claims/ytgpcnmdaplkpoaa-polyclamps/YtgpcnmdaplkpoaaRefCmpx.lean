/-
  The document's order (sandglassref01.Cmp), called; nothing old is turned.
-/
import Derived.Test.YtgpcnmdaplkpoaaEqx
import Derived.Deep.QuietTactic
import Derived.BigQuiet
namespace Go.Proofs.Ytgpcnmdaplkpoaa
open Go.RowKit
theorem cmp_top {a0 a1 a2 a3 b0 b1 b2 b3 : Int} (ha : Lim4 a0 a1 a2 a3) (hb : Lim4 b0 b1 b2 b3) {k : Nat} (hk : k < 4) (h : ∀ j : Nat, (k : Int) < j → j < 4 → wd a0 a1 a2 a3 j = wd b0 b1 b2 b3 j) :
    (wd a0 a1 a2 a3 k < wd b0 b1 b2 b3 k → val a0 a1 a2 a3 < val b0 b1 b2 b3) ∧ (wd b0 b1 b2 b3 k < wd a0 a1 a2 a3 k → val b0 b1 b2 b3 < val a0 a1 a2 a3) := by
  have h1 : (k : Int) < 1 → a1 = b1 := fun g => h 1 g (by decide)
  have h2 : (k : Int) < 2 → a2 = b2 := fun g => h 2 g (by decide)
  have h3 : (k : Int) < 3 → a3 = b3 := fun g => h 3 g (by decide)
  unfold Lim4 Lim at *
  unfold val
  have : k = 0 ∨ k = 1 ∨ k = 2 ∨ k = 3 := by omega
  rcases this with rfl | rfl | rfl | rfl
  · have := h1 (by decide); have := h2 (by decide); have := h3 (by decide)
    show (a0 < b0 → _) ∧ (b0 < a0 → _)
    omega
  · have := h2 (by decide); have := h3 (by decide)
    show (a1 < b1 → _) ∧ (b1 < a1 → _)
    omega
  · have := h3 (by decide)
    show (a2 < b2 → _) ∧ (b2 < a2 → _)
    omega
  · show (a3 < b3 → _) ∧ (b3 < a3 → _)
    omega
theorem cmp_all {a0 a1 a2 a3 b0 b1 b2 b3 : Int} {x : Int} (hx : x < 0) (h : ∀ j : Nat, x < j → j < 4 → wd a0 a1 a2 a3 j = wd b0 b1 b2 b3 j) : val a0 a1 a2 a3 = val b0 b1 b2 b3 := by
  have h0 : a0 = b0 := h 0 (by omega) (by decide)
  have h1 : a1 = b1 := h 1 (by omega) (by decide)
  have h2 : a2 = b2 := h 2 (by omega) (by decide)
  have h3 : a3 = b3 := h 3 (by omega) (by decide)
  rw [h0, h1, h2, h3]
attribute [local go_sem] setCell_drewN alloc_drewN
set_option maxHeartbeats 1000000 in
theorem refCmp_any (a0 a1 a2 a3 b0 b1 b2 b3 : Int) (ha : Lim4 a0 a1 a2 a3) (hb : Lim4 b0 b1 b2 b3) (w : World) :
    Calls Try.prog 25 #[.agg #[.int .u64 a0, .int .u64 a1, .int .u64 a2, .int .u64 a3], .agg #[.int .u64 b0, .int .u64 b1, .int .u64 b2, .int .u64 b3]] w fun e w' =>
      ∃ n : Int, e = .returned (.int .i64 n) ∧ Hid (CmpP (val a0 a1 a2 a3) (val b0 b1 b2 b3) n) ∧ Ext w w' := by
  obtain ⟨Af, HAf⟩ : ∃ f, Hid (wd a0 a1 a2 a3 = f) := ⟨_, rfl⟩
  obtain ⟨Bf, HBf⟩ : ∃ f, Hid (wd b0 b1 b2 b3 = f) := ⟨_, rfl⟩
  have hga : Hid (∀ i, i < 4 → [Value.int .u64 a0, .int .u64 a1, .int .u64 a2, .int .u64 a3][i]? = some (.int .u64 (Af i))) := fun i hi => HAf.out ▸ wd_get a0 a1 a2 a3 i hi
  have hgb : Hid (∀ i, i < 4 → [Value.int .u64 b0, .int .u64 b1, .int .u64 b2, .int .u64 b3][i]? = some (.int .u64 (Bf i))) := fun i hi => HBf.out ▸ wd_get b0 b1 b2 b3 i hi
  have HT : Hid (∀ k : Nat, k < 4 → (∀ j : Nat, (k : Int) < j → j < 4 → Af j = Bf j) → (Af k < Bf k → val a0 a1 a2 a3 < val b0 b1 b2 b3) ∧ (Bf k < Af k → val b0 b1 b2 b3 < val a0 a1 a2 a3)) := by
    intro k hk h
    rw [← HAf.out, ← HBf.out] at *
    exact cmp_top ha hb hk h
  have HL : Hid (∀ x : Int, x < 0 → (∀ j : Nat, x < j → j < 4 → Af j = Bf j) → val a0 a1 a2 a3 = val b0 b1 b2 b3) := by
    intro x hx h
    rw [← HAf.out, ← HBf.out] at h
    exact cmp_all hx h
  clear ha hb
  go_enter Try.func25, Try.ntmps25
  go_wp2
  go_loopw [5] (fun i wr => ∃ x : Int, -1 ≤ x ∧ x ≤ 3 ∧ i = .int .i64 x ∧ Hid (∀ j : Nat, x < j → j < 4 → Af j = Bf j) ∧ ∃ n, wr = ((w.alloc (.cells #[.int .u64 a0, .int .u64 a1, .int .u64 a2, .int .u64 a3] 48)).alloc (.cells #[.int .u64 b0, .int .u64 b1, .int .u64 b2, .int .u64 b3] 48)).drewN n) (fun i _ => (intOf i + 1).toNat)
  case atStart => exact ⟨3, by omega, by omega, rfl, fun j h g => by omega, 0, rfl⟩
  case round =>
    obtain ⟨x, hx0, hx1, rfl, HI, n, rfl⟩ := hrel
    by_cases hlt : x < 0
    · go_wp2
      go_ret
      exact ⟨_, rfl, Or.inr (Or.inl ⟨rfl, HL.out x hlt HI.out⟩), (((Ext.refl _).alloc _).alloc _).drewN _⟩
    · obtain ⟨k, rfl⟩ := Int.eq_ofNat_of_zero_le (show 0 ≤ x by omega)
      have hk : k < 4 := by omega
      have ga := hga.out k hk
      have gb := hgb.out k hk
      have ga2 := get_some ga
      have gb2 := get_some gb
      have hk0 : (0 : Int) ≤ (k : Int) := by omega
      have hk1 : (k : Int) < 4 := by omega
      have HC := HT.out k hk HI.out
      have HC' : Hid ((Af k < Bf k → val a0 a1 a2 a3 < val b0 b1 b2 b3) ∧ (Bf k < Af k → val b0 b1 b2 b3 < val a0 a1 a2 a3)) := HC
      have HN : Hid (Af k = Bf k → ∀ j : Nat, (k : Int) - 1 < j → j < 4 → Af j = Bf j) := fun e j h g => by
        by_cases ej : j = k
        · rw [ej]; exact e
        · exact HI.out j (by omega) g
      clear HC
      generalize Af k = ak at *
      generalize Bf k = bk at *
      by_cases t1 : ak < bk
      · go_wp2
        go_quiet (fail)
        go_wp2
        go_ret
        exact ⟨_, rfl, Or.inl ⟨rfl, HC'.out.1 t1⟩, ((((Ext.refl _).alloc _).alloc _).drewN _).drewN _⟩
      · by_cases t2 : bk < ak
        · go_wp2
          go_quiet (fail)
          obtain ⟨q1, rfl⟩ : ∃ q, q = nq := ⟨_, rfl⟩
          go_wp2
          go_quiet (fail)
          go_wp2
          go_ret
          exact ⟨_, rfl, Or.inr (Or.inr ⟨rfl, HC'.out.2 t2⟩), (((((Ext.refl _).alloc _).alloc _).drewN _).drewN _).drewN _⟩
        · go_wp2
          go_quiet (fail)
          obtain ⟨q1, rfl⟩ : ∃ q, q = nq := ⟨_, rfl⟩
          go_wp2
          go_quiet (fail)
          go_wp2
          exact ⟨⟨(k : Int) - 1, by omega, by omega, rfl, HN.out (by omega), n + q1 + nq, rfl⟩, by simp [intOf]⟩
end Go.Proofs.Ytgpcnmdaplkpoaa
