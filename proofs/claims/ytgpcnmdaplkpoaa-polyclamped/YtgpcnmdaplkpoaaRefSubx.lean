/-
  The document's difference (sandglassref01.Sub), called; nothing old is turned.
-/
import Derived.Test.YtgpcnmdaplkpoaaBase
import Derived.Deep.QuietTactic
import Derived.BigQuiet
namespace Go.Proofs.Ytgpcnmdaplkpoaa
open Go.RowKit
/-- The differences of the first k words, the borrows K between them. -/
def DifTo (A B W K : Nat → Int) (k : Nat) : Prop := K 0 = 0 ∧ ∀ j, j < k → Dif1 (A j) (B j) (K j) (W j) (K (j + 1))
theorem DifTo.step {A B W K : Nat → Int} {k : Nat} (h : DifTo A B W K k) {v c : Int} (hs : Dif1 (A k) (B k) (K k) v c) :
    DifTo A B (fun j => if j = k then v else W j) (fun j => if j = k + 1 then c else K j) (k + 1) := by
  refine ⟨by simp [h.1], fun j hj => ?_⟩
  by_cases e : j = k
  · subst e
    simpa using hs
  · have := h.2 j (by omega)
    simp only [e, if_false, show ¬ j = k + 1 from by omega, show ¬ j + 1 = k + 1 from by omega]
    exact this
theorem DifTo.bd {A B W K : Nat → Int} {k : Nat} (h : DifTo A B W K k) : 0 ≤ K k ∧ K k ≤ 1 := by
  cases k with
  | zero => rw [h.1]; omega
  | succ k => have := h.2 k (by omega); exact ⟨this.2.1, this.2.2.1⟩
theorem dif1_of {x y c : Int} (hx : Lim x) (hy : Lim y) (h0 : 0 ≤ c) (h1 : c ≤ 1) {s v d : Int} (hs : IntKind.u64.wrap (x - y) = s) (hv : IntKind.u64.wrap (s - c) = v) (hd : d = if x < y ∨ s < c then 1 else 0) : Dif1 x y c v d := by
  rw [IntKind.wrap_u64] at hs hv
  unfold Dif1 Lim at *
  split at hd <;> omega
theorem subP_of4 {a0 a1 a2 a3 b0 b1 b2 b3 : Int} {A B W K : Nat → Int} (hA : wd a0 a1 a2 a3 = A) (hB : wd b0 b1 b2 b3 = B) (h : DifTo A B W K 4) :
    Hid (SubP a0 a1 a2 a3 b0 b1 b2 b3 (W 0) (W 1) (W 2) (W 3) (K 4 == 1)) := by
  subst hA hB
  have h0 := h.2 0 (by omega)
  have h1 := h.2 1 (by omega)
  have h2 := h.2 2 (by omega)
  have h3 := h.2 3 (by omega)
  rw [h.1] at h0
  have hk : (K 4 == 1) = (K 4 != 0) := by
    have := h.bd
    have e : K 4 = 0 ∨ K 4 = 1 := by omega
    rcases e with e | e <;> rw [e] <;> rfl
  rw [hk]
  exact subP_of h0 h1 h2 h3
attribute [local go_sem] setCell_drewN alloc_drewN
set_option maxHeartbeats 1000000 in
theorem refSub_raw (a0 a1 a2 a3 b0 b1 b2 b3 : Int) (ha : Lim4 a0 a1 a2 a3) (hb : Lim4 b0 b1 b2 b3) (w : World) :
    Calls Try.prog 27 #[.agg #[.int .u64 a0, .int .u64 a1, .int .u64 a2, .int .u64 a3], .agg #[.int .u64 b0, .int .u64 b1, .int .u64 b2, .int .u64 b3]] w fun e w' =>
      ∃ (s0 s1 s2 s3 : Int) (c : Bool), e = .returned (.tuple #[.agg #[.int .u64 s0, .int .u64 s1, .int .u64 s2, .int .u64 s3], .bool c]) ∧ Hid (SubP a0 a1 a2 a3 b0 b1 b2 b3 s0 s1 s2 s3 c) ∧ Ext w w' := by
  have HA : Hid (∀ i, Lim (wd a0 a1 a2 a3 i)) := wd_lim ha
  have HB : Hid (∀ i, Lim (wd b0 b1 b2 b3 i)) := wd_lim hb
  obtain ⟨Af, HAf⟩ : ∃ f, Hid (wd a0 a1 a2 a3 = f) := ⟨_, rfl⟩
  obtain ⟨Bf, HBf⟩ : ∃ f, Hid (wd b0 b1 b2 b3 = f) := ⟨_, rfl⟩
  have hga : Hid (∀ i, i < 4 → [Value.int .u64 a0, .int .u64 a1, .int .u64 a2, .int .u64 a3][i]? = some (.int .u64 (Af i))) := fun i hi => HAf.out ▸ wd_get a0 a1 a2 a3 i hi
  have hgb : Hid (∀ i, i < 4 → [Value.int .u64 b0, .int .u64 b1, .int .u64 b2, .int .u64 b3][i]? = some (.int .u64 (Bf i))) := fun i hi => HBf.out ▸ wd_get b0 b1 b2 b3 i hi
  rw [HAf.out] at HA
  rw [HBf.out] at HB
  clear ha hb
  go_enter Try.func27, Try.ntmps27
  go_wp2
  go_loopw [7, 8] (fun c i wr => ∃ (k : Nat) (W K : Nat → Int), k ≤ 4 ∧ i = .int .i64 k ∧ c = .int .u64 (K k) ∧ Hid (DifTo Af Bf W K k) ∧ ∃ n, wr = ((((w.alloc (.cells #[.int .u64 a0, .int .u64 a1, .int .u64 a2, .int .u64 a3] 48)).alloc (.cells #[.int .u64 b0, .int .u64 b1, .int .u64 b2, .int .u64 b3] 48)).alloc (.cells #[.int .u64 0, .int .u64 0, .int .u64 0, .int .u64 0] 48)).alloc (.cells (fa W) 48)).drewN n) (fun _ i _ => 4 - (intOf i).toNat)
  case atStart => exact ⟨0, fun _ => 0, fun _ => 0, Nat.zero_le _, rfl, rfl, ⟨rfl, fun j hj => by omega⟩, 0, rfl⟩
  case round =>
    obtain ⟨k, W, K, hk, rfl, rfl, HI, n, rfl⟩ := hrel
    by_cases hlt : k < 4
    · have ga := hga.out k hlt
      have gb := hgb.out k hlt
      have ga2 := get_some ga
      have gb2 := get_some gb
      have hk0 : (0 : Int) ≤ (k : Int) := by omega
      have hk1 : (k : Int) < 4 := by omega
      have gf := fa_get W k hlt
      have HS : Hid (∀ v, (fa W).setIfInBounds k (.int .u64 v) = fa (fun i => if i = k then v else W i)) := fun v => fa_set W k hlt v
      obtain ⟨s, hs⟩ : ∃ s, IntKind.u64.wrap (Af k - Bf k) = s := ⟨_, rfl⟩
      obtain ⟨v, hv⟩ : ∃ v, IntKind.u64.wrap (s - K k) = v := ⟨_, rfl⟩
      have HQ : Hid (∀ d, (d = if Af k < Bf k ∨ s < K k then 1 else 0) → Dif1 (Af k) (Bf k) (K k) v d) := fun d hd => dif1_of (HA.out k) (HB.out k) HI.out.bd.1 HI.out.bd.2 hs hv hd
      have HT : Hid (∀ d, Dif1 (Af k) (Bf k) (K k) v d → DifTo Af Bf (fun j => if j = k then v else W j) (fun j => if j = k + 1 then d else K j) (k + 1)) := fun d hd => HI.out.step hd
      have hfs : (fa W).size = 4 := rfl
      generalize Af k = ak at *
      generalize Bf k = bk at *
      generalize K k = ck at *
      by_cases t1 : ak < bk
      · have t1d : decide (ak < bk) = true := by simpa using t1
        go_wp2
        go_quiet (fail)
        obtain ⟨q1, rfl⟩ : ∃ q, q = nq := ⟨_, rfl⟩
        go_wp2
        go_quiet (fail)
        go_wp2
        exact ⟨⟨k + 1, _, _, hlt, by go_num, by simp, HT.out 1 (HQ.out 1 (by simp [t1])), n + q1 + nq, by rw [HS.out v]⟩, by simp [intOf]; omega⟩
      · have t1d : decide (ak < bk) = false := by simpa using t1
        by_cases t2 : s < ck
        · have t2d : decide (s < ck) = true := by simpa using t2
          go_wp2
          go_quiet (fail)
          obtain ⟨q1, rfl⟩ : ∃ q, q = nq := ⟨_, rfl⟩
          go_wp2
          go_quiet (fail)
          go_wp2
          exact ⟨⟨k + 1, _, _, hlt, by go_num, by simp, HT.out 1 (HQ.out 1 (by simp [t2])), n + q1 + nq, by rw [HS.out v]⟩, by simp [intOf]; omega⟩
        · have t2d : decide (s < ck) = false := by simpa using t2
          go_wp2
          go_quiet (fail)
          obtain ⟨q1, rfl⟩ : ∃ q, q = nq := ⟨_, rfl⟩
          go_wp2
          go_quiet (fail)
          go_wp2
          exact ⟨⟨k + 1, _, _, hlt, by go_num, by simp, HT.out 0 (HQ.out 0 (by simp; omega)), n + q1 + nq, by rw [HS.out v]⟩, by simp [intOf]; omega⟩
    · obtain rfl : k = 4 := by omega
      have HP := subP_of4 HAf.out HBf.out HI.out
      obtain ⟨s0, H0⟩ : ∃ x, Hid (W 0 = x) := ⟨_, rfl⟩
      obtain ⟨s1, H1⟩ : ∃ x, Hid (W 1 = x) := ⟨_, rfl⟩
      obtain ⟨s2, H2⟩ : ∃ x, Hid (W 2 = x) := ⟨_, rfl⟩
      obtain ⟨s3, H3⟩ : ∃ x, Hid (W 3 = x) := ⟨_, rfl⟩
      have hf : fa W = #[.int .u64 s0, .int .u64 s1, .int .u64 s2, .int .u64 s3] := by
        unfold fa; rw [H0.out, H1.out, H2.out, H3.out]
      rw [hf]
      rw [H0.out, H1.out, H2.out, H3.out] at HP
      clear hf
      generalize K 4 = ck at *
      go_wp2
      refine bodyPost_ret (v := .tuple #[.agg #[.int .u64 s0, .int .u64 s1, .int .u64 s2, .int .u64 s3], .bool (ck == 1)]) (by simp [results, Try.results27, go_sem]) rfl ⟨s0, s1, s2, s3, _, rfl, HP, ?_⟩
      exact (((((Ext.refl _).alloc _).alloc _).alloc _).alloc _).drewN _
end Go.Proofs.Ytgpcnmdaplkpoaa
