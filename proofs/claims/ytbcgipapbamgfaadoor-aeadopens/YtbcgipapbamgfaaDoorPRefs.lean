/-
  Two arrays of four words compared by '==': true just where the two numbers are one.
  The document's sum (sandglassref01.Add), called; nothing old is turned.
  The document's difference (sandglassref01.Sub), called; nothing old is turned.
  The document's order (sandglassref01.Cmp), called; nothing old is turned.
  The document's bit of a number and its small number (sandglassref01.Bit, Small), called; nothing old is turned.
  The document's sum modulo 2^130 - 5 (sandglassref10.prime, add), called; nothing old is turned.
  The document's product modulo 2^130 - 5, bit by bit (sandglassref10.mul), called; nothing old is turned.
-/
import Derived.Test.YtbcgipapbamgfaaDoorPMaths
import Derived.Deep.QuietTactic
import Derived.BigQuiet
import Derived.Deep.RegionHeld3
import Derived.Deep.DeepCutAuto
namespace Go.Proofs.YtbcgipapbamgfaaDoor
open Go.RowKit
def eq4 (a0 a1 a2 a3 b0 b1 b2 b3 : Int) : Bool := a0 == b0 && (a1 == b1 && (a2 == b2 && a3 == b3))
theorem run_eq4 (a0 a1 a2 a3 b0 b1 b2 b3 : Int) (w : World) : (Op.equalIn 10000 89 (.agg #[.int .u64 a0, .int .u64 a1, .int .u64 a2, .int .u64 a3]) (.agg #[.int .u64 b0, .int .u64 b1, .int .u64 b2, .int .u64 b3])).run Tryd.prog w = .ok (eq4 a0 a1 a2 a3 b0 b1 b2 b3) w := by
  show (Op.equalIn (9998 + 1 + 1) 89 _ _).run Tryd.prog w = _
  rw [Op.equalIn]
  simp only [Sem.run_bind, run_underlying Tryd.underlying89, Result.andThen_ok]
  simp only [Std.Legacy.Range.forIn_eq_forIn_range', List.range', Std.Legacy.Range.size]
  simp [go_sem, run_equalIn_int, Tryd.underlying32]
  unfold eq4
  by_cases h0 : a0 = b0 <;> by_cases h1 : a1 = b1 <;> by_cases h2 : a2 = b2 <;> by_cases h3 : a3 = b3 <;> simp [h0, h1, h2, h3]
theorem eq4_iff {a0 a1 a2 a3 b0 b1 b2 b3 : Int} (ha : Lim4 a0 a1 a2 a3) (hb : Lim4 b0 b1 b2 b3) : (eq4 a0 a1 a2 a3 b0 b1 b2 b3 = true ↔ val a0 a1 a2 a3 = val b0 b1 b2 b3) := by
  constructor
  · intro h
    simp [eq4] at h
    obtain ⟨rfl, rfl, rfl, rfl⟩ := h
    rfl
  · intro h
    obtain ⟨rfl, rfl, rfl, rfl⟩ := val_inj ha hb h
    simp [eq4]
/-- -1, 0, 1, as the first is less than, is, is greater than the second. -/
def CmpP (a b n : Int) : Prop := (n = -1 ∧ a < b) ∨ (n = 0 ∧ a = b) ∨ (n = 1 ∧ b < a)
theorem cmp_of_sub {a0 a1 a2 a3 b0 b1 b2 b3 s0 s1 s2 s3 : Int} {c : Bool} (ha : Lim4 a0 a1 a2 a3) (hb : Lim4 b0 b1 b2 b3) (h : SubP a0 a1 a2 a3 b0 b1 b2 b3 s0 s1 s2 s3 c) : (c = true ↔ val a0 a1 a2 a3 < val b0 b1 b2 b3) := by
  obtain ⟨hs, he⟩ := h
  have h1 := val_bd ha
  have h2 := val_bd hb
  have h3 := val_bd hs
  cases c <;> simp at he ⊢ <;> omega
end Go.Proofs.YtbcgipapbamgfaaDoor
namespace Go.Proofs.YtbcgipapbamgfaaDoor
open Go.RowKit
/-- The sums of the first k words, the carries K between them. -/
def SumTo (A B W K : Nat → Int) (k : Nat) : Prop := K 0 = 0 ∧ ∀ j, j < k → Sum1 (A j) (B j) (K j) (W j) (K (j + 1))
theorem SumTo.step {A B W K : Nat → Int} {k : Nat} (h : SumTo A B W K k) {v c : Int} (hs : Sum1 (A k) (B k) (K k) v c) :
    SumTo A B (fun j => if j = k then v else W j) (fun j => if j = k + 1 then c else K j) (k + 1) := by
  refine ⟨by simp [h.1], fun j hj => ?_⟩
  by_cases e : j = k
  · subst e
    simpa using hs
  · have := h.2 j (by omega)
    simp only [e, if_false, show ¬ j = k + 1 from by omega, show ¬ j + 1 = k + 1 from by omega]
    exact this
theorem SumTo.bd {A B W K : Nat → Int} {k : Nat} (h : SumTo A B W K k) : 0 ≤ K k ∧ K k ≤ 1 := by
  cases k with
  | zero => rw [h.1]; omega
  | succ k => have := h.2 k (by omega); exact ⟨this.2.1, this.2.2.1⟩
theorem sum1_of {x y c : Int} (hx : Lim x) (hy : Lim y) (h0 : 0 ≤ c) (h1 : c ≤ 1) {s v d : Int} (hs : IntKind.u64.wrap (x + y) = s) (hv : IntKind.u64.wrap (s + c) = v) (hd : d = if s < x ∨ v < s then 1 else 0) : Sum1 x y c v d := by
  rw [IntKind.wrap_u64] at hs hv
  unfold Sum1 Lim at *
  split at hd <;> omega
theorem addP_of4 {a0 a1 a2 a3 b0 b1 b2 b3 : Int} {A B W K : Nat → Int} (hA : wd a0 a1 a2 a3 = A) (hB : wd b0 b1 b2 b3 = B) (h : SumTo A B W K 4) :
    Hid (AddP a0 a1 a2 a3 b0 b1 b2 b3 (W 0) (W 1) (W 2) (W 3) (K 4 == 1)) := by
  subst hA hB
  have h0 := h.2 0 (by omega)
  have h1 := h.2 1 (by omega)
  have h2 := h.2 2 (by omega)
  have h3 := h.2 3 (by omega)
  rw [h.1] at h0
  have hk : (K 4 == 1) = (K 4 != 0) := by
    have := h.bd
    have e : K 4 = 0 ∨ K 4 = 1 := by omega
    rcases e with e | e <;> rw [e] <;> rfl
  rw [hk]
  exact addP_of h0 h1 h2 h3
attribute [local go_sem] setCell_drewN alloc_drewN
set_option maxHeartbeats 1000000 in
theorem refAdd_raw (a0 a1 a2 a3 b0 b1 b2 b3 : Int) (ha : Lim4 a0 a1 a2 a3) (hb : Lim4 b0 b1 b2 b3) (w : World) :
    Calls Tryd.prog 53 #[.agg #[.int .u64 a0, .int .u64 a1, .int .u64 a2, .int .u64 a3], .agg #[.int .u64 b0, .int .u64 b1, .int .u64 b2, .int .u64 b3]] w fun e w' =>
      ∃ (s0 s1 s2 s3 : Int) (c : Bool), e = .returned (.tuple #[.agg #[.int .u64 s0, .int .u64 s1, .int .u64 s2, .int .u64 s3], .bool c]) ∧ Hid (AddP a0 a1 a2 a3 b0 b1 b2 b3 s0 s1 s2 s3 c) ∧ Ext w w' := by
  have HA : Hid (∀ i, Lim (wd a0 a1 a2 a3 i)) := wd_lim ha
  have HB : Hid (∀ i, Lim (wd b0 b1 b2 b3 i)) := wd_lim hb
  obtain ⟨Af, HAf⟩ : ∃ f, Hid (wd a0 a1 a2 a3 = f) := ⟨_, rfl⟩
  obtain ⟨Bf, HBf⟩ : ∃ f, Hid (wd b0 b1 b2 b3 = f) := ⟨_, rfl⟩
  have hga : Hid (∀ i, i < 4 → [Value.int .u64 a0, .int .u64 a1, .int .u64 a2, .int .u64 a3][i]? = some (.int .u64 (Af i))) := fun i hi => HAf.out ▸ wd_get a0 a1 a2 a3 i hi
  have hgb : Hid (∀ i, i < 4 → [Value.int .u64 b0, .int .u64 b1, .int .u64 b2, .int .u64 b3][i]? = some (.int .u64 (Bf i))) := fun i hi => HBf.out ▸ wd_get b0 b1 b2 b3 i hi
  rw [HAf.out] at HA
  rw [HBf.out] at HB
  clear ha hb
  go_enter Tryd.func53, Tryd.ntmps53
  go_wp2
  go_loopw [7, 8] (fun c i wr => ∃ (k : Nat) (W K : Nat → Int), k ≤ 4 ∧ i = .int .i64 k ∧ c = .int .u64 (K k) ∧ Hid (SumTo Af Bf W K k) ∧ ∃ n, wr = ((((w.alloc (.cells #[.int .u64 a0, .int .u64 a1, .int .u64 a2, .int .u64 a3] 89)).alloc (.cells #[.int .u64 b0, .int .u64 b1, .int .u64 b2, .int .u64 b3] 89)).alloc (.cells #[.int .u64 0, .int .u64 0, .int .u64 0, .int .u64 0] 89)).alloc (.cells (fa W) 89)).drewN n) (fun _ i _ => 4 - (intOf i).toNat)
  case atStart => exact ⟨0, fun _ => 0, fun _ => 0, Nat.zero_le _, rfl, rfl, ⟨rfl, fun j hj => by omega⟩, 0, rfl⟩
  case round =>
    obtain ⟨k, W, K, hk, rfl, rfl, HI, n, rfl⟩ := hrel
    by_cases hlt : k < 4
    · have ga := hga.out k hlt
      have gb := hgb.out k hlt
      have ga2 := get_some ga
      have gb2 := get_some gb
      have hk0 : (0 : Int) ≤ (k : Int) := by omega
      have hk1 : (k : Int) < 4 := by omega
      have gf := fa_get W k hlt
      have HS : Hid (∀ v, (fa W).setIfInBounds k (.int .u64 v) = fa (fun i => if i = k then v else W i)) := fun v => fa_set W k hlt v
      obtain ⟨s, hs⟩ : ∃ s, IntKind.u64.wrap (Af k + Bf k) = s := ⟨_, rfl⟩
      obtain ⟨v, hv⟩ : ∃ v, IntKind.u64.wrap (s + K k) = v := ⟨_, rfl⟩
      have HQ : Hid (∀ d, (d = if s < Af k ∨ v < s then 1 else 0) → Sum1 (Af k) (Bf k) (K k) v d) := fun d hd => sum1_of (HA.out k) (HB.out k) HI.out.bd.1 HI.out.bd.2 hs hv hd
      have HT : Hid (∀ d, Sum1 (Af k) (Bf k) (K k) v d → SumTo Af Bf (fun j => if j = k then v else W j) (fun j => if j = k + 1 then d else K j) (k + 1)) := fun d hd => HI.out.step hd
      have hfs : (fa W).size = 4 := rfl
      generalize Af k = ak at *
      generalize Bf k = bk at *
      generalize K k = ck at *
      by_cases t1 : s < ak
      · by_cases t2 : v < s
        · go_wp2
          go_quiet (fail)
          go_wp2
          exact ⟨⟨k + 1, _, _, hlt, by go_num, by simp, HT.out 1 (HQ.out 1 (by simp [t1])), n + nq, by rw [HS.out v]⟩, by simp [intOf]; omega⟩
        · go_wp2
          go_quiet (fail)
          go_wp2
          exact ⟨⟨k + 1, _, _, hlt, by go_num, by simp, HT.out 1 (HQ.out 1 (by simp [t1])), n + nq, by rw [HS.out v]⟩, by simp [intOf]; omega⟩
      · by_cases t2 : v < s
        · go_wp2
          go_quiet (fail)
          go_wp2
          exact ⟨⟨k + 1, _, _, hlt, by go_num, by simp, HT.out 1 (HQ.out 1 (by simp [t2])), n + nq, by rw [HS.out v]⟩, by simp [intOf]; omega⟩
        · go_wp2
          go_quiet (fail)
          go_wp2
          exact ⟨⟨k + 1, _, _, hlt, by go_num, by simp, HT.out 0 (HQ.out 0 (by simp; omega)), n + nq, by rw [HS.out v]⟩, by simp [intOf]; omega⟩
    · obtain rfl : k = 4 := by omega
      have HP := addP_of4 HAf.out HBf.out HI.out
      obtain ⟨s0, H0⟩ : ∃ x, Hid (W 0 = x) := ⟨_, rfl⟩
      obtain ⟨s1, H1⟩ : ∃ x, Hid (W 1 = x) := ⟨_, rfl⟩
      obtain ⟨s2, H2⟩ : ∃ x, Hid (W 2 = x) := ⟨_, rfl⟩
      obtain ⟨s3, H3⟩ : ∃ x, Hid (W 3 = x) := ⟨_, rfl⟩
      have hf : fa W = #[.int .u64 s0, .int .u64 s1, .int .u64 s2, .int .u64 s3] := by
        unfold fa; rw [H0.out, H1.out, H2.out, H3.out]
      rw [hf]
      rw [H0.out, H1.out, H2.out, H3.out] at HP
      clear hf
      generalize K 4 = ck at *
      go_wp2
      refine bodyPost_ret (v := .tuple #[.agg #[.int .u64 s0, .int .u64 s1, .int .u64 s2, .int .u64 s3], .bool (ck == 1)]) (by simp [results, Tryd.results53, go_sem]) rfl ⟨s0, s1, s2, s3, _, rfl, HP, ?_⟩
      exact (((((Ext.refl _).alloc _).alloc _).alloc _).alloc _).drewN _
end Go.Proofs.YtbcgipapbamgfaaDoor
namespace Go.Proofs.YtbcgipapbamgfaaDoor
open Go.RowKit
/-- The differences of the first k words, the borrows K between them. -/
def DifTo (A B W K : Nat → Int) (k : Nat) : Prop := K 0 = 0 ∧ ∀ j, j < k → Dif1 (A j) (B j) (K j) (W j) (K (j + 1))
theorem DifTo.step {A B W K : Nat → Int} {k : Nat} (h : DifTo A B W K k) {v c : Int} (hs : Dif1 (A k) (B k) (K k) v c) :
    DifTo A B (fun j => if j = k then v else W j) (fun j => if j = k + 1 then c else K j) (k + 1) := by
  refine ⟨by simp [h.1], fun j hj => ?_⟩
  by_cases e : j = k
  · subst e
    simpa using hs
  · have := h.2 j (by omega)
    simp only [e, if_false, show ¬ j = k + 1 from by omega, show ¬ j + 1 = k + 1 from by omega]
    exact this
theorem DifTo.bd {A B W K : Nat → Int} {k : Nat} (h : DifTo A B W K k) : 0 ≤ K k ∧ K k ≤ 1 := by
  cases k with
  | zero => rw [h.1]; omega
  | succ k => have := h.2 k (by omega); exact ⟨this.2.1, this.2.2.1⟩
theorem dif1_of {x y c : Int} (hx : Lim x) (hy : Lim y) (h0 : 0 ≤ c) (h1 : c ≤ 1) {s v d : Int} (hs : IntKind.u64.wrap (x - y) = s) (hv : IntKind.u64.wrap (s - c) = v) (hd : d = if x < y ∨ s < c then 1 else 0) : Dif1 x y c v d := by
  rw [IntKind.wrap_u64] at hs hv
  unfold Dif1 Lim at *
  split at hd <;> omega
theorem subP_of4 {a0 a1 a2 a3 b0 b1 b2 b3 : Int} {A B W K : Nat → Int} (hA : wd a0 a1 a2 a3 = A) (hB : wd b0 b1 b2 b3 = B) (h : DifTo A B W K 4) :
    Hid (SubP a0 a1 a2 a3 b0 b1 b2 b3 (W 0) (W 1) (W 2) (W 3) (K 4 == 1)) := by
  subst hA hB
  have h0 := h.2 0 (by omega)
  have h1 := h.2 1 (by omega)
  have h2 := h.2 2 (by omega)
  have h3 := h.2 3 (by omega)
  rw [h.1] at h0
  have hk : (K 4 == 1) = (K 4 != 0) := by
    have := h.bd
    have e : K 4 = 0 ∨ K 4 = 1 := by omega
    rcases e with e | e <;> rw [e] <;> rfl
  rw [hk]
  exact subP_of h0 h1 h2 h3
attribute [local go_sem] setCell_drewN alloc_drewN
set_option maxHeartbeats 1000000 in
theorem refSub_raw (a0 a1 a2 a3 b0 b1 b2 b3 : Int) (ha : Lim4 a0 a1 a2 a3) (hb : Lim4 b0 b1 b2 b3) (w : World) :
    Calls Tryd.prog 66 #[.agg #[.int .u64 a0, .int .u64 a1, .int .u64 a2, .int .u64 a3], .agg #[.int .u64 b0, .int .u64 b1, .int .u64 b2, .int .u64 b3]] w fun e w' =>
      ∃ (s0 s1 s2 s3 : Int) (c : Bool), e = .returned (.tuple #[.agg #[.int .u64 s0, .int .u64 s1, .int .u64 s2, .int .u64 s3], .bool c]) ∧ Hid (SubP a0 a1 a2 a3 b0 b1 b2 b3 s0 s1 s2 s3 c) ∧ Ext w w' := by
  have HA : Hid (∀ i, Lim (wd a0 a1 a2 a3 i)) := wd_lim ha
  have HB : Hid (∀ i, Lim (wd b0 b1 b2 b3 i)) := wd_lim hb
  obtain ⟨Af, HAf⟩ : ∃ f, Hid (wd a0 a1 a2 a3 = f) := ⟨_, rfl⟩
  obtain ⟨Bf, HBf⟩ : ∃ f, Hid (wd b0 b1 b2 b3 = f) := ⟨_, rfl⟩
  have hga : Hid (∀ i, i < 4 → [Value.int .u64 a0, .int .u64 a1, .int .u64 a2, .int .u64 a3][i]? = some (.int .u64 (Af i))) := fun i hi => HAf.out ▸ wd_get a0 a1 a2 a3 i hi
  have hgb : Hid (∀ i, i < 4 → [Value.int .u64 b0, .int .u64 b1, .int .u64 b2, .int .u64 b3][i]? = some (.int .u64 (Bf i))) := fun i hi => HBf.out ▸ wd_get b0 b1 b2 b3 i hi
  rw [HAf.out] at HA
  rw [HBf.out] at HB
  clear ha hb
  go_enter Tryd.func66, Tryd.ntmps66
  go_wp2
  go_loopw [7, 8] (fun c i wr => ∃ (k : Nat) (W K : Nat → Int), k ≤ 4 ∧ i = .int .i64 k ∧ c = .int .u64 (K k) ∧ Hid (DifTo Af Bf W K k) ∧ ∃ n, wr = ((((w.alloc (.cells #[.int .u64 a0, .int .u64 a1, .int .u64 a2, .int .u64 a3] 89)).alloc (.cells #[.int .u64 b0, .int .u64 b1, .int .u64 b2, .int .u64 b3] 89)).alloc (.cells #[.int .u64 0, .int .u64 0, .int .u64 0, .int .u64 0] 89)).alloc (.cells (fa W) 89)).drewN n) (fun _ i _ => 4 - (intOf i).toNat)
  case atStart => exact ⟨0, fun _ => 0, fun _ => 0, Nat.zero_le _, rfl, rfl, ⟨rfl, fun j hj => by omega⟩, 0, rfl⟩
  case round =>
    obtain ⟨k, W, K, hk, rfl, rfl, HI, n, rfl⟩ := hrel
    by_cases hlt : k < 4
    · have ga := hga.out k hlt
      have gb := hgb.out k hlt
      have ga2 := get_some ga
      have gb2 := get_some gb
      have hk0 : (0 : Int) ≤ (k : Int) := by omega
      have hk1 : (k : Int) < 4 := by omega
      have gf := fa_get W k hlt
      have HS : Hid (∀ v, (fa W).setIfInBounds k (.int .u64 v) = fa (fun i => if i = k then v else W i)) := fun v => fa_set W k hlt v
      obtain ⟨s, hs⟩ : ∃ s, IntKind.u64.wrap (Af k - Bf k) = s := ⟨_, rfl⟩
      obtain ⟨v, hv⟩ : ∃ v, IntKind.u64.wrap (s - K k) = v := ⟨_, rfl⟩
      have HQ : Hid (∀ d, (d = if Af k < Bf k ∨ s < K k then 1 else 0) → Dif1 (Af k) (Bf k) (K k) v d) := fun d hd => dif1_of (HA.out k) (HB.out k) HI.out.bd.1 HI.out.bd.2 hs hv hd
      have HT : Hid (∀ d, Dif1 (Af k) (Bf k) (K k) v d → DifTo Af Bf (fun j => if j = k then v else W j) (fun j => if j = k + 1 then d else K j) (k + 1)) := fun d hd => HI.out.step hd
      have hfs : (fa W).size = 4 := rfl
      generalize Af k = ak at *
      generalize Bf k = bk at *
      generalize K k = ck at *
      by_cases t1 : ak < bk
      · have t1d : decide (ak < bk) = true := by simpa using t1
        go_wp2
        go_quiet (fail)
        obtain ⟨q1, rfl⟩ : ∃ q, q = nq := ⟨_, rfl⟩
        go_wp2
        go_quiet (fail)
        go_wp2
        exact ⟨⟨k + 1, _, _, hlt, by go_num, by simp, HT.out 1 (HQ.out 1 (by simp [t1])), n + q1 + nq, by rw [HS.out v]⟩, by simp [intOf]; omega⟩
      · have t1d : decide (ak < bk) = false := by simpa using t1
        by_cases t2 : s < ck
        · have t2d : decide (s < ck) = true := by simpa using t2
          go_wp2
          go_quiet (fail)
          obtain ⟨q1, rfl⟩ : ∃ q, q = nq := ⟨_, rfl⟩
          go_wp2
          go_quiet (fail)
          go_wp2
          exact ⟨⟨k + 1, _, _, hlt, by go_num, by simp, HT.out 1 (HQ.out 1 (by simp [t2])), n + q1 + nq, by rw [HS.out v]⟩, by simp [intOf]; omega⟩
        · have t2d : decide (s < ck) = false := by simpa using t2
          go_wp2
          go_quiet (fail)
          obtain ⟨q1, rfl⟩ : ∃ q, q = nq := ⟨_, rfl⟩
          go_wp2
          go_quiet (fail)
          go_wp2
          exact ⟨⟨k + 1, _, _, hlt, by go_num, by simp, HT.out 0 (HQ.out 0 (by simp; omega)), n + q1 + nq, by rw [HS.out v]⟩, by simp [intOf]; omega⟩
    · obtain rfl : k = 4 := by omega
      have HP := subP_of4 HAf.out HBf.out HI.out
      obtain ⟨s0, H0⟩ : ∃ x, Hid (W 0 = x) := ⟨_, rfl⟩
      obtain ⟨s1, H1⟩ : ∃ x, Hid (W 1 = x) := ⟨_, rfl⟩
      obtain ⟨s2, H2⟩ : ∃ x, Hid (W 2 = x) := ⟨_, rfl⟩
      obtain ⟨s3, H3⟩ : ∃ x, Hid (W 3 = x) := ⟨_, rfl⟩
      have hf : fa W = #[.int .u64 s0, .int .u64 s1, .int .u64 s2, .int .u64 s3] := by
        unfold fa; rw [H0.out, H1.out, H2.out, H3.out]
      rw [hf]
      rw [H0.out, H1.out, H2.out, H3.out] at HP
      clear hf
      generalize K 4 = ck at *
      go_wp2
      refine bodyPost_ret (v := .tuple #[.agg #[.int .u64 s0, .int .u64 s1, .int .u64 s2, .int .u64 s3], .bool (ck == 1)]) (by simp [results, Tryd.results66, go_sem]) rfl ⟨s0, s1, s2, s3, _, rfl, HP, ?_⟩
      exact (((((Ext.refl _).alloc _).alloc _).alloc _).alloc _).drewN _
end Go.Proofs.YtbcgipapbamgfaaDoor
namespace Go.Proofs.YtbcgipapbamgfaaDoor
open Go.RowKit
theorem cmp_top {a0 a1 a2 a3 b0 b1 b2 b3 : Int} (ha : Lim4 a0 a1 a2 a3) (hb : Lim4 b0 b1 b2 b3) {k : Nat} (hk : k < 4) (h : ∀ j : Nat, (k : Int) < j → j < 4 → wd a0 a1 a2 a3 j = wd b0 b1 b2 b3 j) :
    (wd a0 a1 a2 a3 k < wd b0 b1 b2 b3 k → val a0 a1 a2 a3 < val b0 b1 b2 b3) ∧ (wd b0 b1 b2 b3 k < wd a0 a1 a2 a3 k → val b0 b1 b2 b3 < val a0 a1 a2 a3) := by
  have h1 : (k : Int) < 1 → a1 = b1 := fun g => h 1 g (by decide)
  have h2 : (k : Int) < 2 → a2 = b2 := fun g => h 2 g (by decide)
  have h3 : (k : Int) < 3 → a3 = b3 := fun g => h 3 g (by decide)
  unfold Lim4 Lim at *
  unfold val
  have : k = 0 ∨ k = 1 ∨ k = 2 ∨ k = 3 := by omega
  rcases this with rfl | rfl | rfl | rfl
  · have := h1 (by decide); have := h2 (by decide); have := h3 (by decide)
    show (a0 < b0 → _) ∧ (b0 < a0 → _)
    omega
  · have := h2 (by decide); have := h3 (by decide)
    show (a1 < b1 → _) ∧ (b1 < a1 → _)
    omega
  · have := h3 (by decide)
    show (a2 < b2 → _) ∧ (b2 < a2 → _)
    omega
  · show (a3 < b3 → _) ∧ (b3 < a3 → _)
    omega
theorem cmp_all {a0 a1 a2 a3 b0 b1 b2 b3 : Int} {x : Int} (hx : x < 0) (h : ∀ j : Nat, x < j → j < 4 → wd a0 a1 a2 a3 j = wd b0 b1 b2 b3 j) : val a0 a1 a2 a3 = val b0 b1 b2 b3 := by
  have h0 : a0 = b0 := h 0 (by omega) (by decide)
  have h1 : a1 = b1 := h 1 (by omega) (by decide)
  have h2 : a2 = b2 := h 2 (by omega) (by decide)
  have h3 : a3 = b3 := h 3 (by omega) (by decide)
  rw [h0, h1, h2, h3]
attribute [local go_sem] setCell_drewN alloc_drewN
set_option maxHeartbeats 1000000 in
theorem refCmp_any (a0 a1 a2 a3 b0 b1 b2 b3 : Int) (ha : Lim4 a0 a1 a2 a3) (hb : Lim4 b0 b1 b2 b3) (w : World) :
    Calls Tryd.prog 64 #[.agg #[.int .u64 a0, .int .u64 a1, .int .u64 a2, .int .u64 a3], .agg #[.int .u64 b0, .int .u64 b1, .int .u64 b2, .int .u64 b3]] w fun e w' =>
      ∃ n : Int, e = .returned (.int .i64 n) ∧ Hid (CmpP (val a0 a1 a2 a3) (val b0 b1 b2 b3) n) ∧ Ext w w' := by
  obtain ⟨Af, HAf⟩ : ∃ f, Hid (wd a0 a1 a2 a3 = f) := ⟨_, rfl⟩
  obtain ⟨Bf, HBf⟩ : ∃ f, Hid (wd b0 b1 b2 b3 = f) := ⟨_, rfl⟩
  have hga : Hid (∀ i, i < 4 → [Value.int .u64 a0, .int .u64 a1, .int .u64 a2, .int .u64 a3][i]? = some (.int .u64 (Af i))) := fun i hi => HAf.out ▸ wd_get a0 a1 a2 a3 i hi
  have hgb : Hid (∀ i, i < 4 → [Value.int .u64 b0, .int .u64 b1, .int .u64 b2, .int .u64 b3][i]? = some (.int .u64 (Bf i))) := fun i hi => HBf.out ▸ wd_get b0 b1 b2 b3 i hi
  have HT : Hid (∀ k : Nat, k < 4 → (∀ j : Nat, (k : Int) < j → j < 4 → Af j = Bf j) → (Af k < Bf k → val a0 a1 a2 a3 < val b0 b1 b2 b3) ∧ (Bf k < Af k → val b0 b1 b2 b3 < val a0 a1 a2 a3)) := by
    intro k hk h
    rw [← HAf.out, ← HBf.out] at *
    exact cmp_top ha hb hk h
  have HL : Hid (∀ x : Int, x < 0 → (∀ j : Nat, x < j → j < 4 → Af j = Bf j) → val a0 a1 a2 a3 = val b0 b1 b2 b3) := by
    intro x hx h
    rw [← HAf.out, ← HBf.out] at h
    exact cmp_all hx h
  clear ha hb
  go_enter Tryd.func64, Tryd.ntmps64
  go_wp2
  go_loopw [5] (fun i wr => ∃ x : Int, -1 ≤ x ∧ x ≤ 3 ∧ i = .int .i64 x ∧ Hid (∀ j : Nat, x < j → j < 4 → Af j = Bf j) ∧ ∃ n, wr = ((w.alloc (.cells #[.int .u64 a0, .int .u64 a1, .int .u64 a2, .int .u64 a3] 89)).alloc (.cells #[.int .u64 b0, .int .u64 b1, .int .u64 b2, .int .u64 b3] 89)).drewN n) (fun i _ => (intOf i + 1).toNat)
  case atStart => exact ⟨3, by omega, by omega, rfl, fun j h g => by omega, 0, rfl⟩
  case round =>
    obtain ⟨x, hx0, hx1, rfl, HI, n, rfl⟩ := hrel
    by_cases hlt : x < 0
    · go_wp2
      go_ret
      exact ⟨_, rfl, Or.inr (Or.inl ⟨rfl, HL.out x hlt HI.out⟩), (((Ext.refl _).alloc _).alloc _).drewN _⟩
    · obtain ⟨k, rfl⟩ := Int.eq_ofNat_of_zero_le (show 0 ≤ x by omega)
      have hk : k < 4 := by omega
      have ga := hga.out k hk
      have gb := hgb.out k hk
      have ga2 := get_some ga
      have gb2 := get_some gb
      have hk0 : (0 : Int) ≤ (k : Int) := by omega
      have hk1 : (k : Int) < 4 := by omega
      have HC := HT.out k hk HI.out
      have HC' : Hid ((Af k < Bf k → val a0 a1 a2 a3 < val b0 b1 b2 b3) ∧ (Bf k < Af k → val b0 b1 b2 b3 < val a0 a1 a2 a3)) := HC
      have HN : Hid (Af k = Bf k → ∀ j : Nat, (k : Int) - 1 < j → j < 4 → Af j = Bf j) := fun e j h g => by
        by_cases ej : j = k
        · rw [ej]; exact e
        · exact HI.out j (by omega) g
      clear HC
      generalize Af k = ak at *
      generalize Bf k = bk at *
      by_cases t1 : ak < bk
      · go_wp2
        go_quiet (fail)
        go_wp2
        go_ret
        exact ⟨_, rfl, Or.inl ⟨rfl, HC'.out.1 t1⟩, ((((Ext.refl _).alloc _).alloc _).drewN _).drewN _⟩
      · by_cases t2 : bk < ak
        · go_wp2
          go_quiet (fail)
          obtain ⟨q1, rfl⟩ : ∃ q, q = nq := ⟨_, rfl⟩
          go_wp2
          go_quiet (fail)
          go_wp2
          go_ret
          exact ⟨_, rfl, Or.inr (Or.inr ⟨rfl, HC'.out.2 t2⟩), (((((Ext.refl _).alloc _).alloc _).drewN _).drewN _).drewN _⟩
        · go_wp2
          go_quiet (fail)
          obtain ⟨q1, rfl⟩ : ∃ q, q = nq := ⟨_, rfl⟩
          go_wp2
          go_quiet (fail)
          go_wp2
          exact ⟨⟨(k : Int) - 1, by omega, by omega, rfl, HN.out (by omega), n + q1 + nq, rfl⟩, by simp [intOf]⟩
end Go.Proofs.YtbcgipapbamgfaaDoor
namespace Go.Proofs.YtbcgipapbamgfaaDoor
open Go.RowKit
/-- Bit number i, as the text reckons it. -/
def bitR (x : Int) (i : Nat) : Bool := bits BinOp.and IntKind.u64 (x / 2 ^ (i % 64)) 1 == 1
set_option maxHeartbeats 400000 in
theorem refBit_in (a0 a1 a2 a3 : Int) (i : Nat) (hi : i < 256) (w : World) :
    Calls Tryd.prog 63 #[.agg #[.int .u64 a0, .int .u64 a1, .int .u64 a2, .int .u64 a3], .int .i64 i] w fun e w' =>
      e = .returned (.bool (bitR (wd a0 a1 a2 a3 (i / 64)) i)) ∧ Ext w w' := by
  have ga := wd_get a0 a1 a2 a3 (i / 64) (by omega)
  have ga2 := get_some ga
  have HB : Hid (bitR (wd a0 a1 a2 a3 (i / 64)) i = (bits BinOp.and IntKind.u64 (wd a0 a1 a2 a3 (i / 64) / 2 ^ (i % 64)) 1 == 1)) := rfl
  generalize wd a0 a1 a2 a3 (i / 64) = x at *
  have h0 : (0 : Int) ≤ (i : Int) := by omega
  have h1 : (i : Int) < 256 := by omega
  have d0 : decide ((0 : Int) ≤ (i : Int)) = true := by simp
  have d1 : decide ((i : Int) < 256) = true := by simpa using h1
  go_enter Tryd.func63, Tryd.ntmps63
  go_wp2
  go_ret
  exact ⟨by rw [HB.out]; rfl, (Ext.refl _).alloc _⟩
set_option maxHeartbeats 400000 in
theorem refBit_out (a0 a1 a2 a3 : Int) (i : Int) (hi : i < 0 ∨ 255 < i) (w : World) :
    Calls Tryd.prog 63 #[.agg #[.int .u64 a0, .int .u64 a1, .int .u64 a2, .int .u64 a3], .int .i64 i] w fun e w' =>
      e = .returned (.bool false) ∧ Ext w w' := by
  by_cases h0 : 0 ≤ i
  · have h3 : ¬ i < 256 := by omega
    have d0 : decide (0 ≤ i) = true := by simpa using h0
    have d1 : decide (i < 256) = false := by simpa using h3
    go_enter Tryd.func63, Tryd.ntmps63
    go_wp2
    go_ret
    exact ⟨rfl, (Ext.refl _).alloc _⟩
  · have d0 : decide (0 ≤ i) = false := by simpa using h0
    go_enter Tryd.func63, Tryd.ntmps63
    go_wp2
    go_ret
    exact ⟨rfl, (Ext.refl _).alloc _⟩
theorem and1r (x : Int) (h : Lim x) : Go.bits BinOp.and IntKind.u64 x 1 = x % 2 := by
  have := bits_mask .u64 64 (by decide) (fun n p q => by rw [IntKind.wrap_u64]; have : (2 : Int) ^ 64 = 18446744073709551616 := by decide
                                                         omega) 1 (by decide) x h.1 (by rw [show (2 : Int) ^ 64 = 18446744073709551616 from by decide]; exact h.2)
  rw [show (2 : Int) ^ 1 - 1 = 1 from by decide, show (2 : Int) ^ 1 = 2 from by decide] at this
  exact this
theorem bit_nat (t s : Nat) (hs : s < 64) : t % 18446744073709551616 / 2 ^ s % 2 = t / 2 ^ s % 2 := by
  have h := Nat.testBit_mod_two_pow t 64 s
  rw [Nat.testBit_eq_decide_div_mod_eq, Nat.testBit_eq_decide_div_mod_eq, show (2 : Nat) ^ 64 = 18446744073709551616 from by decide] at h
  simp only [hs, decide_true, Bool.true_and, decide_eq_decide] at h
  generalize t % 18446744073709551616 / 2 ^ s = x at *
  generalize t / 2 ^ s = y at *
  omega
theorem wd_nat {a0 a1 a2 a3 : Int} (h : Lim4 a0 a1 a2 a3) (q : Nat) (hq : q < 4) : wd a0 a1 a2 a3 q = (((val a0 a1 a2 a3).toNat / 2 ^ (64 * q) % 18446744073709551616 : Nat) : Int) := by
  obtain ⟨⟨p0, q0⟩, ⟨p1, q1⟩, ⟨p2, q2⟩, ⟨p3, q3⟩⟩ := h
  have : q = 0 ∨ q = 1 ∨ q = 2 ∨ q = 3 := by omega
  unfold val wd
  rcases this with rfl | rfl | rfl | rfl <;> simp only [Nat.reduceMul, Nat.reducePow, if_true, Nat.one_ne_zero, if_false, Nat.reduceEqDiff] <;> omega
/-- Bit number i of four words is bit number i of the number. -/
theorem bitR_ok {a0 a1 a2 a3 : Int} (h : Lim4 a0 a1 a2 a3) (i : Nat) (hi : i < 256) : bitR (wd a0 a1 a2 a3 (i / 64)) i = decide ((val a0 a1 a2 a3).toNat / 2 ^ i % 2 = 1) := by
  have hl := wd_lim h (i / 64)
  have hw := wd_nat h (i / 64) (by omega)
  unfold bitR
  have h2 : (0 : Int) < 2 ^ (i % 64) := Int.pow_pos (by decide)
  rw [and1r _ (by
    unfold Lim at *
    exact ⟨Int.ediv_nonneg hl.1 (Int.le_of_lt h2), Int.lt_of_le_of_lt (Int.ediv_le_self _ hl.1) hl.2⟩), hw]
  have e : ∀ t : Nat, (t : Int) / 2 ^ (i % 64) % 2 = ((t / 2 ^ (i % 64) % 2 : Nat) : Int) := fun t => by
    push_cast
    rfl
  rw [e, bit_nat _ _ (by omega), Nat.div_div_eq_div_mul, ← Nat.pow_add, show 64 * (i / 64) + i % 64 = i from by omega]
  generalize (val a0 a1 a2 a3).toNat / 2 ^ i % 2 = z
  by_cases hz : z = 1
  · subst hz; rfl
  · simp [hz]
    omega
end Go.Proofs.YtbcgipapbamgfaaDoor
namespace Go.Proofs.YtbcgipapbamgfaaDoor
open Go.RowKit
set_option maxHeartbeats 400000 in
theorem refPrime_any (w : World) : Calls Tryd.prog 65 #[] w fun e w' => e = .returned (.agg #[.int .u64 18446744073709551611, .int .u64 18446744073709551615, .int .u64 3, .int .u64 0]) ∧ Ext w w' := by
  go_enter Tryd.func65, Tryd.ntmps65
  go_wp2
  refine bodyPost_ret (v := .agg #[.int .u64 18446744073709551611, .int .u64 18446744073709551615, .int .u64 3, .int .u64 0]) (by simp [results, Tryd.results65, go_sem]) rfl ⟨rfl, ?_⟩
  exact (Ext.refl _).alloc _
theorem cmp_geqp {a n : Int} (h : CmpP a P13 n) : decide (0 ≤ n) = !decide (a < P13) := by
  unfold CmpP at h
  rcases h with ⟨rfl, h⟩ | ⟨rfl, h⟩ | ⟨rfl, h⟩ <;> simp <;> omega
set_option maxHeartbeats 4000000 in
theorem refPAdd_any (x0 x1 x2 x3 y0 y1 y2 y3 : Int) (hx : Lim4 x0 x1 x2 x3) (hy : Lim4 y0 y1 y2 y3) (lx : val x0 x1 x2 x3 < P13) (ly : val y0 y1 y2 y3 < P13) (w : World) :
    Calls Tryd.prog 52 #[.agg #[.int .u64 x0, .int .u64 x1, .int .u64 x2, .int .u64 x3], .agg #[.int .u64 y0, .int .u64 y1, .int .u64 y2, .int .u64 y3]] w fun e w' => ∃ r0 r1 r2 r3 : Int, e = .returned (.agg #[.int .u64 r0, .int .u64 r1, .int .u64 r2, .int .u64 r3]) ∧ Hid (PMod (val x0 x1 x2 x3 + val y0 y1 y2 y3) r0 r1 r2 r3) ∧ Ext w w' := by
  have RZ := RowF.new ((w.alloc (.cells #[.int .u64 x0, .int .u64 x1, .int .u64 x2, .int .u64 x3] 89)).alloc (.cells #[.int .u64 y0, .int .u64 y1, .int .u64 y2, .int .u64 y3] 89)) 0 0 0 0
  rw [show ((w.alloc (.cells #[.int .u64 x0, .int .u64 x1, .int .u64 x2, .int .u64 x3] 89)).alloc (.cells #[.int .u64 y0, .int .u64 y1, .int .u64 y2, .int .u64 y3] 89)).heap.size = w.heap.size + 1 + 1 from by simp] at RZ
  have HE0 : Hid (Ext w (((w.alloc (.cells #[.int .u64 x0, .int .u64 x1, .int .u64 x2, .int .u64 x3] 89)).alloc (.cells #[.int .u64 y0, .int .u64 y1, .int .u64 y2, .int .u64 y3] 89)).alloc (.cells #[.int .u64 0, .int .u64 0, .int .u64 0, .int .u64 0] 89))) := (((Ext.refl _).alloc _).alloc _).alloc _
  have HB : SizeLe w (w.heap.size + 1 + 1) := by unfold SizeLe; omega
  have HG0 : Hid (∀ s0 s1 s2 s3 k, AddP x0 x1 x2 x3 y0 y1 y2 y3 s0 s1 s2 s3 k → val s0 s1 s2 s3 < P13 → PMod (val x0 x1 x2 x3 + val y0 y1 y2 y3) s0 s1 s2 s3) := fun _ _ _ _ _ h1 h2 => padd_small hx hy lx ly h1 h2
  have HG1 : Hid (∀ s0 s1 s2 s3 k, AddP x0 x1 x2 x3 y0 y1 y2 y3 s0 s1 s2 s3 k → ¬ val s0 s1 s2 s3 < P13 → ∀ d0 d1 d2 d3 c, SubP s0 s1 s2 s3 18446744073709551611 18446744073709551615 3 0 d0 d1 d2 d3 c → PMod (val x0 x1 x2 x3 + val y0 y1 y2 y3) d0 d1 d2 d3) := fun _ _ _ _ _ h1 h2 _ _ _ _ _ h3 => padd_great hx hy lx ly h1 h2 h3
  clear lx ly
  go_enter Tryd.func52, Tryd.ntmps52
  go_wp2_with fail
  refine (refAdd_raw _ _ _ _ _ _ _ _ hx hy _).mono ?_
  rintro e w1 ⟨s0, s1, s2, s3, k, rfl, HA, HX⟩
  have RZ1 := (RZ.ext HX).ext ((Ext.refl _).alloc (.cells #[.int .u64 s0, .int .u64 s1, .int .u64 s2, .int .u64 s3] 89))
  have HE1 : Hid (Ext w (w1.alloc (.cells #[.int .u64 s0, .int .u64 s1, .int .u64 s2, .int .u64 s3] 89))) := (HE0.out.trans HX).alloc _
  have RS := RowF.new w1 s0 s1 s2 s3
  have HBS : SizeLe w w1.heap.size := (HE0.out.trans HX).size
  have hne : w.heap.size + 1 + 1 ≠ w1.heap.size := Nat.ne_of_lt (RZ.ext HX).1.1
  clear HX HE0 RZ
  have HC : Hid (∀ wx, Calls Tryd.prog 64 #[.agg #[.int .u64 s0, .int .u64 s1, .int .u64 s2, .int .u64 s3], .agg #[.int .u64 18446744073709551611, .int .u64 18446744073709551615, .int .u64 3, .int .u64 0]] wx fun e w' => ∃ n : Int, e = .returned (.int .i64 n) ∧ Hid (CmpP (val s0 s1 s2 s3) P13 n) ∧ Ext wx w') := fun wx => by
    have h := refCmp_any s0 s1 s2 s3 _ _ _ _ HA.out.1 lim_P13 wx
    rw [val_P13] at h
    exact h
  have HM : Hid (∀ wx, Calls Tryd.prog 66 #[.agg #[.int .u64 s0, .int .u64 s1, .int .u64 s2, .int .u64 s3], .agg #[.int .u64 18446744073709551611, .int .u64 18446744073709551615, .int .u64 3, .int .u64 0]] wx fun e w' => ∃ (d0 d1 d2 d3 : Int) (c : Bool), e = .returned (.tuple #[.agg #[.int .u64 d0, .int .u64 d1, .int .u64 d2, .int .u64 d3], .bool c]) ∧ Hid (SubP s0 s1 s2 s3 18446744073709551611 18446744073709551615 3 0 d0 d1 d2 d3 c) ∧ Ext wx w') := fun wx => refSub_raw s0 s1 s2 s3 _ _ _ _ HA.out.1 lim_P13 wx
  have HGs := HG0.out _ _ _ _ _ HA.out
  have HGg := HG1.out _ _ _ _ _ HA.out
  replace HGs : Hid (_ → _) := HGs
  replace HGg : Hid (_ → _) := HGg
  clear HG0 HG1 HA hx hy
  go_wp2_with fail
  generalize w1.alloc (.cells #[.int .u64 s0, .int .u64 s1, .int .u64 s2, .int .u64 s3] 89) = W0 at *
  generalize w.heap.size + 1 + 1 = bz at *
  generalize w1.heap.size = b at *
  go_region_held3 (fun wx : World => Ext W0 wx ∧ wx.cell? ⟨b, 0, none⟩ = some (.int .u64 s0) ∧ wx.cell? ⟨b, 1, none⟩ = some (.int .u64 s1) ∧ wx.cell? ⟨b, 2, none⟩ = some (.int .u64 s2) ∧ wx.cell? ⟨b, 3, none⟩ = some (.int .u64 s3)) (first | exact keep1 (Ext.drew (Ext.refl _)) RS.1 | exact keep1 (by assumption) RS.1) (first | (go_at_call 65; refine (refPrime_any _).mono ?_; rintro e wy ⟨rfl, HX⟩; have hEy : Ext W0 wy := (by refine Ext.trans ?_ HX; simp only [*])) | (go_at_call 64; refine (HC.out _).mono ?_; rintro e wy ⟨n, rfl, HN, HX⟩; have hEy : Ext W0 wy := (by refine Ext.trans ?_ HX; simp only [*])))
  have RS1 := RS.ext hEy
  have RZ2 := RZ1.ext hEy
  have HE2 : Hid (Ext w wy) := HE1.out.trans hEy
  have hd := cmp_geqp HN.out
  clear hEy RS RZ1 HE1 HC
  rename_i hH
  clear hH
  generalize HCl : Hid (CmpP (val s0 s1 s2 s3) P13 n) = Z at HN
  clear HCl HN
  by_cases hv : val s0 s1 s2 s3 < P13
  · have HF : Hid (PMod (val x0 x1 x2 x3 + val y0 y1 y2 y3) s0 s1 s2 s3) := HGs.out hv
    have hn : decide (0 ≤ n) = false := by rw [hd]; simpa using hv
    have hn2 : ¬ 0 ≤ n := by simpa using hn
    clear hd hv HGs HGg
    obtain ⟨⟨ls, c0, c1, c2, c3⟩, f0, f1, f2, f3⟩ := RS1
    obtain ⟨⟨lz, k0, k1, k2, k3⟩, g0, g1, g2, g3⟩ := RZ2
    go_wp2
    refine bodyPost_ret (v := .agg #[.int .u64 s0, .int .u64 s1, .int .u64 s2, .int .u64 s3]) (by simp [results, Tryd.results52, go_sem, k0, k1, k2, k3]) rfl ⟨s0, s1, s2, s3, rfl, HF, ?_⟩
    exact (Ext.st HB (Ext.st HB (Ext.st HB (Ext.st HB HE2.out))))
  · have HF : Hid (∀ d0 d1 d2 d3 c, SubP s0 s1 s2 s3 18446744073709551611 18446744073709551615 3 0 d0 d1 d2 d3 c → PMod (val x0 x1 x2 x3 + val y0 y1 y2 y3) d0 d1 d2 d3) := HGg.out (by omega)
    have hn : decide (0 ≤ n) = true := by rw [hd]; simpa using hv
    have hn2 : 0 ≤ n := by simpa using hn
    clear hd hv HGs HGg
    have RS2 := RS1
    obtain ⟨⟨ls, c0, c1, c2, c3⟩, f0, f1, f2, f3⟩ := RS1
    go_wp2_with fail
    go_cut [] (fun wx => ∃ d0 d1 d2 d3 : Int, RowF wx b d0 d1 d2 d3 ∧ RowF wx bz 0 0 0 0 ∧ Hid (PMod (val x0 x1 x2 x3 + val y0 y1 y2 y3) d0 d1 d2 d3) ∧ Ext w wx)
    case first =>
      go_region_with (first | (go_at_call 65; go_must ((with_reducible refine (refPrime_any _).mono ?_); rintro e wv ⟨rfl, HX3⟩; have hW : Ext wy wv := Ext.trans (Ext.drew (Ext.refl _)) HX3; have RSv := RS2.ext hW; have RZv := RZ2.ext hW; have HEv : Hid (Ext w wv) := HE2.out.trans hW; clear hW HX3 ls c0 c1 c2 c3 f0 f1 f2 f3; have RSm := RSv; obtain ⟨⟨ls, c0, c1, c2, c3⟩, f0, f1, f2, f3⟩ := RSv)) | (go_at_call 66; go_must ((with_reducible refine (HM.out _).mono ?_); rintro e wu ⟨d0, d1, d2, d3, c, rfl, HD, HX4⟩; have RSu := RSm.ext HX4; have RZu := RZv.ext HX4; have HEu : Hid (Ext w wu) := HEv.out.trans HX4; clear HX4 ls c0 c1 c2 c3 f0 f1 f2 f3; have RSk := RSu; obtain ⟨⟨ls, c0, c1, c2, c3⟩, f0, f1, f2, f3⟩ := RSu)))
      all_goals
        go_wp2
        go_meet
        case rel => exact ⟨d0, d1, d2, d3, RowF.set RSk, RZu.other hne |>.other hne |>.other hne |>.other hne, HF.out _ _ _ _ _ HD.out, Ext.st HBS (Ext.st HBS (Ext.st HBS (Ext.st HBS HEu.out)))⟩
    case rest =>
      obtain ⟨d0, d1, d2, d3, RS3, RZ3, HR, HEc⟩ := hcut
      clear ls c0 c1 c2 c3 f0 f1 f2 f3
      obtain ⟨⟨ls, c0, c1, c2, c3⟩, f0, f1, f2, f3⟩ := RS3
      obtain ⟨⟨lz, k0, k1, k2, k3⟩, g0, g1, g2, g3⟩ := RZ3
      have HE3 : Hid (Ext w wc) := HEc
      clear HEc
      go_wp2
      refine bodyPost_ret (v := .agg #[.int .u64 d0, .int .u64 d1, .int .u64 d2, .int .u64 d3]) (by simp [results, Tryd.results52, go_sem, k0, k1, k2, k3]) rfl ⟨d0, d1, d2, d3, rfl, HR, ?_⟩
      exact (Ext.st HB (Ext.st HB (Ext.st HB (Ext.st HB HE3.out))))
end Go.Proofs.YtbcgipapbamgfaaDoor
namespace Go.Proofs.YtbcgipapbamgfaaDoor
open Go.RowKit
/-- The state of mul's run. -/
def PB (w wr : World) (n : Nat) (x0 x1 x2 x3 y0 y1 y2 y3 r0 r1 r2 r3 : Int) : Prop := Row wr n x0 x1 x2 x3 ∧ Row wr (n + 1) y0 y1 y2 y3 ∧ RowF wr (n + 1 + 1) 0 0 0 0 ∧ RowF wr (n + 1 + 1 + 1) r0 r1 r2 r3 ∧ Ext w wr
theorem PB.ext {w wr wy : World} {n : Nat} {x0 x1 x2 x3 y0 y1 y2 y3 r0 r1 r2 r3 : Int} (h : PB w wr n x0 x1 x2 x3 y0 y1 y2 y3 r0 r1 r2 r3) (hx : Ext wr wy) : PB w wy n x0 x1 x2 x3 y0 y1 y2 y3 r0 r1 r2 r3 :=
  ⟨h.1.ext hx, h.2.1.ext hx, h.2.2.1.ext hx, h.2.2.2.1.ext hx, h.2.2.2.2.trans hx⟩
theorem PB.set {w wr : World} {n : Nat} {x0 x1 x2 x3 y0 y1 y2 y3 r0 r1 r2 r3 v0 v1 v2 v3 : Int} (h : PB w wr n x0 x1 x2 x3 y0 y1 y2 y3 r0 r1 r2 r3) (hn : w.heap.size ≤ (n + 1 + 1 + 1)) :
    PB w ((((wr.setCell ⟨n + 1 + 1 + 1, 0, none⟩ (.int .u64 v0)).setCell ⟨n + 1 + 1 + 1, 1, none⟩ (.int .u64 v1)).setCell ⟨n + 1 + 1 + 1, 2, none⟩ (.int .u64 v2)).setCell ⟨n + 1 + 1 + 1, 3, none⟩ (.int .u64 v3)) n x0 x1 x2 x3 y0 y1 y2 y3 v0 v1 v2 v3 :=
  ⟨(((h.1.other (by omega)).other (by omega)).other (by omega)).other (by omega), (((h.2.1.other (by omega)).other (by omega)).other (by omega)).other (by omega), (((h.2.2.1.other (by omega)).other (by omega)).other (by omega)).other (by omega), h.2.2.2.1.set, Ext.st hn (Ext.st hn (Ext.st hn (Ext.st hn h.2.2.2.2)))⟩
theorem PB.new (w : World) (x0 x1 x2 x3 y0 y1 y2 y3 : Int) : PB w ((((w.alloc (.cells #[.int .u64 x0, .int .u64 x1, .int .u64 x2, .int .u64 x3] 89)).alloc (.cells #[.int .u64 y0, .int .u64 y1, .int .u64 y2, .int .u64 y3] 89)).alloc (.cells #[.int .u64 0, .int .u64 0, .int .u64 0, .int .u64 0] 89)).alloc (.cells #[.int .u64 0, .int .u64 0, .int .u64 0, .int .u64 0] 89)) w.heap.size x0 x1 x2 x3 y0 y1 y2 y3 0 0 0 0 := by
  have h2 := Row.two w x0 x1 x2 x3 y0 y1 y2 y3
  have h3 := RowF.new ((w.alloc (.cells #[.int .u64 x0, .int .u64 x1, .int .u64 x2, .int .u64 x3] 89)).alloc (.cells #[.int .u64 y0, .int .u64 y1, .int .u64 y2, .int .u64 y3] 89)) 0 0 0 0
  rw [show ((w.alloc (.cells #[.int .u64 x0, .int .u64 x1, .int .u64 x2, .int .u64 x3] 89)).alloc (.cells #[.int .u64 y0, .int .u64 y1, .int .u64 y2, .int .u64 y3] 89)).heap.size = w.heap.size + 1 + 1 from by simp] at h3
  have h4 := RowF.new (((w.alloc (.cells #[.int .u64 x0, .int .u64 x1, .int .u64 x2, .int .u64 x3] 89)).alloc (.cells #[.int .u64 y0, .int .u64 y1, .int .u64 y2, .int .u64 y3] 89)).alloc (.cells #[.int .u64 0, .int .u64 0, .int .u64 0, .int .u64 0] 89)) 0 0 0 0
  rw [show (((w.alloc (.cells #[.int .u64 x0, .int .u64 x1, .int .u64 x2, .int .u64 x3] 89)).alloc (.cells #[.int .u64 y0, .int .u64 y1, .int .u64 y2, .int .u64 y3] 89)).alloc (.cells #[.int .u64 0, .int .u64 0, .int .u64 0, .int .u64 0] 89)).heap.size = w.heap.size + 1 + 1 + 1 from by simp] at h4
  exact ⟨(h2.1.ext ((Ext.refl _).alloc _)).ext ((Ext.refl _).alloc _), (h2.2.ext ((Ext.refl _).alloc _)).ext ((Ext.refl _).alloc _), h3.ext ((Ext.refl _).alloc _), h4, ((((Ext.refl _).alloc _).alloc _).alloc _).alloc _⟩
/-- A power of two, shut. -/
def PTwo (k : Nat) : Nat := 2 ^ k
theorem VV_step (V i : Nat) : V / PTwo i = 2 * (V / PTwo (i + 1)) + V / PTwo i % 2 := by
  unfold PTwo
  rw [Nat.pow_succ, ← Nat.div_div_eq_div_mul]
  omega
theorem p_add {X Y : Int} {r0 r1 r2 r3 s0 s1 s2 s3 t0 t1 t2 t3 : Int} (hr : PMod X r0 r1 r2 r3) (hs : PMod Y s0 s1 s2 s3) (ht : PMod (val r0 r1 r2 r3 + val s0 s1 s2 s3) t0 t1 t2 t3) : PMod (X + Y) t0 t1 t2 t3 := by
  refine ht.cong ?_
  rw [hr.2, hs.2, ← Int.add_emod]
theorem p_double {A : Int} {V i : Nat} {r0 r1 r2 r3 s0 s1 s2 s3 : Int} (hr : PMod (A * ((V / PTwo (i + 1) : Nat) : Int)) r0 r1 r2 r3) (hs : PMod (val r0 r1 r2 r3 + val r0 r1 r2 r3) s0 s1 s2 s3) (hb : V / PTwo i % 2 = 0) : PMod (A * ((V / PTwo i : Nat) : Int)) s0 s1 s2 s3 := by
  refine (p_add hr hr hs).cong ?_
  rw [VV_step V i, hb]
  congr 1
  rw [← Int.mul_add]
  congr 1
  omega
theorem p_double1 {V i : Nat} {x0 x1 x2 x3 r0 r1 r2 r3 s0 s1 s2 s3 t0 t1 t2 t3 : Int} (hr : PMod (val x0 x1 x2 x3 * ((V / PTwo (i + 1) : Nat) : Int)) r0 r1 r2 r3) (hs : PMod (val r0 r1 r2 r3 + val r0 r1 r2 r3) s0 s1 s2 s3) (ht : PMod (val s0 s1 s2 s3 + val x0 x1 x2 x3) t0 t1 t2 t3) (hb : V / PTwo i % 2 = 1) : PMod (val x0 x1 x2 x3 * ((V / PTwo i : Nat) : Int)) t0 t1 t2 t3 := by
  refine ht.cong ?_
  rw [(p_add hr hr hs).2, Int.add_emod, Int.emod_emod_of_dvd _ (Int.dvd_refl _), ← Int.add_emod, VV_step V i, hb]
  congr 1
  have e : (((2 * (V / PTwo (i + 1)) + 1 : Nat)) : Int) = ((V / PTwo (i + 1) : Nat) : Int) + ((V / PTwo (i + 1) : Nat) : Int) + 1 := by omega
  rw [e, Int.mul_add, Int.mul_add, Int.mul_one]
def PBit (V : Nat) (i : Nat) : Bool := decide (V / PTwo i % 2 = 1)
set_option maxHeartbeats 2000000 in
theorem refPMul_any (x0 x1 x2 x3 y0 y1 y2 y3 : Int) (hx : Lim4 x0 x1 x2 x3) (hy : Lim4 y0 y1 y2 y3) (hlx : val x0 x1 x2 x3 < P13) (hly : val y0 y1 y2 y3 < 2722258935367507707706996859454145691648) (w : World) :
    Calls Tryd.prog 51 #[.agg #[.int .u64 x0, .int .u64 x1, .int .u64 x2, .int .u64 x3], .agg #[.int .u64 y0, .int .u64 y1, .int .u64 y2, .int .u64 y3]] w fun e w' => ∃ r0 r1 r2 r3 : Int, e = .returned (.agg #[.int .u64 r0, .int .u64 r1, .int .u64 r2, .int .u64 r3]) ∧ Hid (PMod (val x0 x1 x2 x3 * val y0 y1 y2 y3) r0 r1 r2 r3) ∧ Ext w w' := by
  obtain ⟨V, HV⟩ : ∃ V, Hid ((val y0 y1 y2 y3).toNat = V) := ⟨_, rfl⟩
  have HLX : Hid (val x0 x1 x2 x3 < P13) := hlx
  have HP0 := PB.new w x0 x1 x2 x3 y0 y1 y2 y3
  have HN : SizeLe w (w.heap.size + 1 + 1 + 1) := by unfold SizeLe; omega
  have HB : SizeLe w (w.heap.size + 1 + 1) := by unfold SizeLe; omega
  have HLo : Hid (∀ i : Nat, i < 131 → ∀ wx, Calls Tryd.prog 63 #[.agg #[.int .u64 y0, .int .u64 y1, .int .u64 y2, .int .u64 y3], .int .i64 i] wx fun e w' => e = .returned (.bool (PBit V i)) ∧ Ext wx w') := fun i hi wx => by
    have h := refBit_in y0 y1 y2 y3 i (by omega) wx
    rw [bitR_ok hy i (by omega)] at h
    unfold PBit
    rw [← HV.out]
    exact h
  have HS : Hid (PMod (val x0 x1 x2 x3 * ((V / PTwo 131 : Nat) : Int)) 0 0 0 0) := by
    have e : V / PTwo 131 = 0 := by
      apply Nat.div_eq_of_lt
      rw [← HV.out, show PTwo 131 = 2722258935367507707706996859454145691648 from by decide]
      have := (val_bd hy).1
      omega
    rw [e]
    exact ⟨by unfold Lim4 Lim; decide, by rw [show ((0 : Nat) : Int) = 0 from rfl, Int.mul_zero]; decide⟩
  have HVv : Hid (((V : Nat) : Int) = val y0 y1 y2 y3) := by
    have h := HV.out
    have := (val_bd hy).1
    show ((V : Nat) : Int) = val y0 y1 y2 y3
    omega
  clear hlx hly
  go_enter Tryd.func51, Tryd.ntmps51
  go_wp2
  generalize (((w.alloc (.cells #[.int .u64 x0, .int .u64 x1, .int .u64 x2, .int .u64 x3] 89)).alloc (.cells #[.int .u64 y0, .int .u64 y1, .int .u64 y2, .int .u64 y3] 89)).alloc (.cells #[.int .u64 0, .int .u64 0, .int .u64 0, .int .u64 0] 89)).alloc (.cells #[.int .u64 0, .int .u64 0, .int .u64 0, .int .u64 0] 89) = W0 at *
  generalize w.heap.size = n at *
  go_loopw [6] (fun u6 wr => ∃ (k : Nat) (r0 r1 r2 r3 : Int), k ≤ 131 ∧ u6 = .int .i64 ((k : Int) - 1) ∧ PB w wr n x0 x1 x2 x3 y0 y1 y2 y3 r0 r1 r2 r3 ∧ Hid (PMod (val x0 x1 x2 x3 * ((V / PTwo k : Nat) : Int)) r0 r1 r2 r3)) (fun u6 _ => (intOf u6 + 1).toNat)
  case atStart => exact ⟨131, 0, 0, 0, 0, by omega, by go_num, HP0, HS⟩
  case round =>
    obtain ⟨k, r0, r1, r2, r3, hk, rfl, HP, HQ⟩ := hrel
    clear HP0 HS
    obtain ⟨⟨l5, a0, a1, a2, a3⟩, b0, b1, b2, b3⟩ := HP.2.2.2.1
    by_cases hk0 : k = 0
    · subst hk0
      have HF : Hid (PMod (val x0 x1 x2 x3 * val y0 y1 y2 y3) r0 r1 r2 r3) := by
        have h := HQ.out
        rw [show PTwo 0 = 1 from rfl, Nat.div_one, HVv.out] at h
        exact h
      obtain ⟨⟨lz, c0, c1, c2, c3⟩, f0, f1, f2, f3⟩ := HP.2.2.1
      have HE : Hid (Ext w wr) := HP.2.2.2.2
      go_wp2
      refine bodyPost_ret (v := .agg #[.int .u64 r0, .int .u64 r1, .int .u64 r2, .int .u64 r3]) (by simp [results, Tryd.results51, go_sem, c0, c1, c2, c3]) rfl ⟨r0, r1, r2, r3, rfl, HF, ?_⟩
      exact Ext.st HB (Ext.st HB (Ext.st HB (Ext.st HB HE.out)))
    · obtain ⟨i, rfl⟩ : ∃ i, k = i + 1 := ⟨k - 1, by omega⟩
      have hi : i < 131 := by omega
      have hz : (((i + 1 : Nat) : Int) - 1) = (i : Int) := by omega
      rw [hz]
      have hi0 : (0 : Int) ≤ (i : Int) := by omega
      go_wp2_with fail
      refine (refPAdd_any _ _ _ _ _ _ _ _ HQ.out.1 HQ.out.1 HQ.out.less HQ.out.less _).mono ?_
      rintro e wy ⟨s0, s1, s2, s3, rfl, HA, HX⟩
      have HP1 := HP.ext HX
      clear HX l5 a0 a1 a2 a3 b0 b1 b2 b3 HP
      obtain ⟨⟨l5, a0, a1, a2, a3⟩, b0, b1, b2, b3⟩ := HP1.2.2.2.1
      have HP2 := HP1.set (v0 := s0) (v1 := s1) (v2 := s2) (v3 := s3) HN
      obtain ⟨lx, x0', x1', x2', x3'⟩ := HP1.1
      obtain ⟨ly, y0', y1', y2', y3'⟩ := HP1.2.1
      have hsub : IntKind.i64.wrap ((i : Int) - 1) = ((i : Nat) : Int) - 1 := by rw [IntKind.wrap_i64]; omega
      have hs := HA.out.1
      have HSL : Hid (val s0 s1 s2 s3 < P13) := HA.out.less
      have HS1 : Hid (PBit V i = false → PMod (val x0 x1 x2 x3 * ((V / PTwo i : Nat) : Int)) s0 s1 s2 s3) := fun h => p_double HQ.out HA.out (by unfold PBit at h; have := of_decide_eq_false h; omega)
      have HS2 : Hid (PBit V i = true → ∀ t0 t1 t2 t3, PMod (val s0 s1 s2 s3 + val x0 x1 x2 x3) t0 t1 t2 t3 → PMod (val x0 x1 x2 x3 * ((V / PTwo i : Nat) : Int)) t0 t1 t2 t3) := fun h _ _ _ _ k => p_double1 HQ.out HA.out k (by unfold PBit at h; exact of_decide_eq_true h)
      have hne1 : n + 1 + 1 + 1 ≠ n := by omega
      have hne2 : n + 1 + 1 + 1 ≠ n + 1 := by omega
      clear HQ HA
      go_wp2_with fail
      refine (HLo.out i hi _).mono ?_
      rintro e wz ⟨rfl, HX2⟩
      have HP3 := HP2.ext HX2
      clear HX2 HP2 HP1 l5 a0 a1 a2 a3 b0 b1 b2 b3 lx x0' x1' x2' x3' ly y0' y1' y2' y3'
      cases hbit : PBit V i
      · have HF0 : Hid (PMod (val x0 x1 x2 x3 * ((V / PTwo i : Nat) : Int)) s0 s1 s2 s3) := HS1.out hbit
        go_wp2
        go_roundw
        case rel => exact ⟨i, s0, s1, s2, s3, by omega, rfl, HP3, HF0⟩
        case measure => simp [intOf]
      · have HF1 := HS2.out hbit
        have HF : Hid (∀ t0 t1 t2 t3, PMod (val s0 s1 s2 s3 + val x0 x1 x2 x3) t0 t1 t2 t3 → PMod (val x0 x1 x2 x3 * ((V / PTwo i : Nat) : Int)) t0 t1 t2 t3) := HF1
        clear HF1
        obtain ⟨⟨l5, a0, a1, a2, a3⟩, b0, b1, b2, b3⟩ := HP3.2.2.2.1
        obtain ⟨lx, x0', x1', x2', x3'⟩ := HP3.1
        go_wp2_with fail
        refine (refPAdd_any _ _ _ _ _ _ _ _ hs hx HSL.out HLX.out _).mono ?_
        rintro e wu ⟨t0, t1, t2, t3, rfl, HT, HX4⟩
        have HP4 := HP3.ext HX4
        clear l5 a0 a1 a2 a3 b0 b1 b2 b3 lx x0' x1' x2' x3'
        obtain ⟨⟨l5, a0, a1, a2, a3⟩, b0, b1, b2, b3⟩ := HP4.2.2.2.1
        go_wp2
        go_roundw
        case rel => exact ⟨i, t0, t1, t2, t3, by omega, rfl, HP4.set HN, HF.out _ _ _ _ HT.out⟩
        case measure => simp [intOf]
end Go.Proofs.YtbcgipapbamgfaaDoor
