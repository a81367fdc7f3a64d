/-
  Two arrays of four words compared by '==': true just where the two numbers are one.
  The document's sum (sandglassref01.Add), called; nothing old is turned.
  The document's difference (sandglassref01.Sub), called; nothing old is turned.
  The document's order (sandglassref01.Cmp), called; nothing old is turned.
  The document's bit of a number and its small number (sandglassref01.Bit, Small), called; nothing old is turned.
  The document's numbers modulo the order (sandglassref03.Order, Valid, Mod, Add, Sub), called: numbers modulo q; nothing old is turned.
-/
import Derived.Test.YtnaiccfdbapdpaaDoorLows
import Derived.Deep.QuietTactic
import Derived.BigQuiet
import Derived.Test.YtnaiccfdbapdpaaDoorMaths
import Derived.Deep.RegionHeld3
import Derived.Deep.DeepCutAuto
namespace Go.Proofs.YtnaiccfdbapdpaaDoor
open Go.RowKit
def eq4 (a0 a1 a2 a3 b0 b1 b2 b3 : Int) : Bool := a0 == b0 && (a1 == b1 && (a2 == b2 && a3 == b3))
theorem run_eq4 (a0 a1 a2 a3 b0 b1 b2 b3 : Int) (w : World) : (Op.equalIn 10000 26 (.agg #[.int .u64 a0, .int .u64 a1, .int .u64 a2, .int .u64 a3]) (.agg #[.int .u64 b0, .int .u64 b1, .int .u64 b2, .int .u64 b3])).run Tryd.prog w = .ok (eq4 a0 a1 a2 a3 b0 b1 b2 b3) w := by
  show (Op.equalIn (9998 + 1 + 1) 26 _ _).run Tryd.prog w = _
  rw [Op.equalIn]
  simp only [Sem.run_bind, run_underlying Tryd.underlying26, Result.andThen_ok]
  simp only [Std.Legacy.Range.forIn_eq_forIn_range', List.range', Std.Legacy.Range.size]
  simp [go_sem, run_equalIn_int, Tryd.underlying24]
  unfold eq4
  by_cases h0 : a0 = b0 <;> by_cases h1 : a1 = b1 <;> by_cases h2 : a2 = b2 <;> by_cases h3 : a3 = b3 <;> simp [h0, h1, h2, h3]
theorem eq4_iff {a0 a1 a2 a3 b0 b1 b2 b3 : Int} (ha : Lim4 a0 a1 a2 a3) (hb : Lim4 b0 b1 b2 b3) : (eq4 a0 a1 a2 a3 b0 b1 b2 b3 = true ↔ val a0 a1 a2 a3 = val b0 b1 b2 b3) := by
  constructor
  · intro h
    simp [eq4] at h
    obtain ⟨rfl, rfl, rfl, rfl⟩ := h
    rfl
  · intro h
    obtain ⟨rfl, rfl, rfl, rfl⟩ := val_inj ha hb h
    simp [eq4]
/-- -1, 0, 1, as the first is less than, is, is greater than the second. -/
def CmpP (a b n : Int) : Prop := (n = -1 ∧ a < b) ∨ (n = 0 ∧ a = b) ∨ (n = 1 ∧ b < a)
theorem cmp_of_sub {a0 a1 a2 a3 b0 b1 b2 b3 s0 s1 s2 s3 : Int} {c : Bool} (ha : Lim4 a0 a1 a2 a3) (hb : Lim4 b0 b1 b2 b3) (h : SubP a0 a1 a2 a3 b0 b1 b2 b3 s0 s1 s2 s3 c) : (c = true ↔ val a0 a1 a2 a3 < val b0 b1 b2 b3) := by
  obtain ⟨hs, he⟩ := h
  have h1 := val_bd ha
  have h2 := val_bd hb
  have h3 := val_bd hs
  cases c <;> simp at he ⊢ <;> omega
end Go.Proofs.YtnaiccfdbapdpaaDoor
namespace Go.Proofs.YtnaiccfdbapdpaaDoor
open Go.RowKit
/-- The sums of the first k words, the carries K between them. -/
def SumTo (A B W K : Nat → Int) (k : Nat) : Prop := K 0 = 0 ∧ ∀ j, j < k → Sum1 (A j) (B j) (K j) (W j) (K (j + 1))
theorem SumTo.step {A B W K : Nat → Int} {k : Nat} (h : SumTo A B W K k) {v c : Int} (hs : Sum1 (A k) (B k) (K k) v c) :
    SumTo A B (fun j => if j = k then v else W j) (fun j => if j = k + 1 then c else K j) (k + 1) := by
  refine ⟨by simp [h.1], fun j hj => ?_⟩
  by_cases e : j = k
  · subst e
    simpa using hs
  · have := h.2 j (by omega)
    simp only [e, if_false, show ¬ j = k + 1 from by omega, show ¬ j + 1 = k + 1 from by omega]
    exact this
theorem SumTo.bd {A B W K : Nat → Int} {k : Nat} (h : SumTo A B W K k) : 0 ≤ K k ∧ K k ≤ 1 := by
  cases k with
  | zero => rw [h.1]; omega
  | succ k => have := h.2 k (by omega); exact ⟨this.2.1, this.2.2.1⟩
theorem sum1_of {x y c : Int} (hx : Lim x) (hy : Lim y) (h0 : 0 ≤ c) (h1 : c ≤ 1) {s v d : Int} (hs : IntKind.u64.wrap (x + y) = s) (hv : IntKind.u64.wrap (s + c) = v) (hd : d = if s < x ∨ v < s then 1 else 0) : Sum1 x y c v d := by
  rw [IntKind.wrap_u64] at hs hv
  unfold Sum1 Lim at *
  split at hd <;> omega
theorem addP_of4 {a0 a1 a2 a3 b0 b1 b2 b3 : Int} {A B W K : Nat → Int} (hA : wd a0 a1 a2 a3 = A) (hB : wd b0 b1 b2 b3 = B) (h : SumTo A B W K 4) :
    Hid (AddP a0 a1 a2 a3 b0 b1 b2 b3 (W 0) (W 1) (W 2) (W 3) (K 4 == 1)) := by
  subst hA hB
  have h0 := h.2 0 (by omega)
  have h1 := h.2 1 (by omega)
  have h2 := h.2 2 (by omega)
  have h3 := h.2 3 (by omega)
  rw [h.1] at h0
  have hk : (K 4 == 1) = (K 4 != 0) := by
    have := h.bd
    have e : K 4 = 0 ∨ K 4 = 1 := by omega
    rcases e with e | e <;> rw [e] <;> rfl
  rw [hk]
  exact addP_of h0 h1 h2 h3
attribute [local go_sem] setCell_drewN alloc_drewN
set_option maxHeartbeats 1000000 in
theorem refAdd_raw (a0 a1 a2 a3 b0 b1 b2 b3 : Int) (ha : Lim4 a0 a1 a2 a3) (hb : Lim4 b0 b1 b2 b3) (w : World) :
    Calls Tryd.prog 43 #[.agg #[.int .u64 a0, .int .u64 a1, .int .u64 a2, .int .u64 a3], .agg #[.int .u64 b0, .int .u64 b1, .int .u64 b2, .int .u64 b3]] w fun e w' =>
      ∃ (s0 s1 s2 s3 : Int) (c : Bool), e = .returned (.tuple #[.agg #[.int .u64 s0, .int .u64 s1, .int .u64 s2, .int .u64 s3], .bool c]) ∧ Hid (AddP a0 a1 a2 a3 b0 b1 b2 b3 s0 s1 s2 s3 c) ∧ Ext w w' := by
  have HA : Hid (∀ i, Lim (wd a0 a1 a2 a3 i)) := wd_lim ha
  have HB : Hid (∀ i, Lim (wd b0 b1 b2 b3 i)) := wd_lim hb
  obtain ⟨Af, HAf⟩ : ∃ f, Hid (wd a0 a1 a2 a3 = f) := ⟨_, rfl⟩
  obtain ⟨Bf, HBf⟩ : ∃ f, Hid (wd b0 b1 b2 b3 = f) := ⟨_, rfl⟩
  have hga : Hid (∀ i, i < 4 → [Value.int .u64 a0, .int .u64 a1, .int .u64 a2, .int .u64 a3][i]? = some (.int .u64 (Af i))) := fun i hi => HAf.out ▸ wd_get a0 a1 a2 a3 i hi
  have hgb : Hid (∀ i, i < 4 → [Value.int .u64 b0, .int .u64 b1, .int .u64 b2, .int .u64 b3][i]? = some (.int .u64 (Bf i))) := fun i hi => HBf.out ▸ wd_get b0 b1 b2 b3 i hi
  rw [HAf.out] at HA
  rw [HBf.out] at HB
  clear ha hb
  go_enter Tryd.func43, Tryd.ntmps43
  go_wp2
  go_loopw [7, 8] (fun c i wr => ∃ (k : Nat) (W K : Nat → Int), k ≤ 4 ∧ i = .int .i64 k ∧ c = .int .u64 (K k) ∧ Hid (SumTo Af Bf W K k) ∧ ∃ n, wr = ((((w.alloc (.cells #[.int .u64 a0, .int .u64 a1, .int .u64 a2, .int .u64 a3] 26)).alloc (.cells #[.int .u64 b0, .int .u64 b1, .int .u64 b2, .int .u64 b3] 26)).alloc (.cells #[.int .u64 0, .int .u64 0, .int .u64 0, .int .u64 0] 26)).alloc (.cells (fa W) 26)).drewN n) (fun _ i _ => 4 - (intOf i).toNat)
  case atStart => exact ⟨0, fun _ => 0, fun _ => 0, Nat.zero_le _, rfl, rfl, ⟨rfl, fun j hj => by omega⟩, 0, rfl⟩
  case round =>
    obtain ⟨k, W, K, hk, rfl, rfl, HI, n, rfl⟩ := hrel
    by_cases hlt : k < 4
    · have ga := hga.out k hlt
      have gb := hgb.out k hlt
      have ga2 := get_some ga
      have gb2 := get_some gb
      have hk0 : (0 : Int) ≤ (k : Int) := by omega
      have hk1 : (k : Int) < 4 := by omega
      have gf := fa_get W k hlt
      have HS : Hid (∀ v, (fa W).setIfInBounds k (.int .u64 v) = fa (fun i => if i = k then v else W i)) := fun v => fa_set W k hlt v
      obtain ⟨s, hs⟩ : ∃ s, IntKind.u64.wrap (Af k + Bf k) = s := ⟨_, rfl⟩
      obtain ⟨v, hv⟩ : ∃ v, IntKind.u64.wrap (s + K k) = v := ⟨_, rfl⟩
      have HQ : Hid (∀ d, (d = if s < Af k ∨ v < s then 1 else 0) → Sum1 (Af k) (Bf k) (K k) v d) := fun d hd => sum1_of (HA.out k) (HB.out k) HI.out.bd.1 HI.out.bd.2 hs hv hd
      have HT : Hid (∀ d, Sum1 (Af k) (Bf k) (K k) v d → SumTo Af Bf (fun j => if j = k then v else W j) (fun j => if j = k + 1 then d else K j) (k + 1)) := fun d hd => HI.out.step hd
      have hfs : (fa W).size = 4 := rfl
      generalize Af k = ak at *
      generalize Bf k = bk at *
      generalize K k = ck at *
      by_cases t1 : s < ak
      · by_cases t2 : v < s
        · go_wp2
          go_quiet (fail)
          go_wp2
          exact ⟨⟨k + 1, _, _, hlt, by go_num, by simp, HT.out 1 (HQ.out 1 (by simp [t1])), n + nq, by rw [HS.out v]⟩, by simp [intOf]; omega⟩
        · go_wp2
          go_quiet (fail)
          go_wp2
          exact ⟨⟨k + 1, _, _, hlt, by go_num, by simp, HT.out 1 (HQ.out 1 (by simp [t1])), n + nq, by rw [HS.out v]⟩, by simp [intOf]; omega⟩
      · by_cases t2 : v < s
        · go_wp2
          go_quiet (fail)
          go_wp2
          exact ⟨⟨k + 1, _, _, hlt, by go_num, by simp, HT.out 1 (HQ.out 1 (by simp [t2])), n + nq, by rw [HS.out v]⟩, by simp [intOf]; omega⟩
        · go_wp2
          go_quiet (fail)
          go_wp2
          exact ⟨⟨k + 1, _, _, hlt, by go_num, by simp, HT.out 0 (HQ.out 0 (by simp; omega)), n + nq, by rw [HS.out v]⟩, by simp [intOf]; omega⟩
    · obtain rfl : k = 4 := by omega
      have HP := addP_of4 HAf.out HBf.out HI.out
      obtain ⟨s0, H0⟩ : ∃ x, Hid (W 0 = x) := ⟨_, rfl⟩
      obtain ⟨s1, H1⟩ : ∃ x, Hid (W 1 = x) := ⟨_, rfl⟩
      obtain ⟨s2, H2⟩ : ∃ x, Hid (W 2 = x) := ⟨_, rfl⟩
      obtain ⟨s3, H3⟩ : ∃ x, Hid (W 3 = x) := ⟨_, rfl⟩
      have hf : fa W = #[.int .u64 s0, .int .u64 s1, .int .u64 s2, .int .u64 s3] := by
        unfold fa; rw [H0.out, H1.out, H2.out, H3.out]
      rw [hf]
      rw [H0.out, H1.out, H2.out, H3.out] at HP
      clear hf
      generalize K 4 = ck at *
      go_wp2
      refine bodyPost_ret (v := .tuple #[.agg #[.int .u64 s0, .int .u64 s1, .int .u64 s2, .int .u64 s3], .bool (ck == 1)]) (by simp [results, Tryd.results43, go_sem]) rfl ⟨s0, s1, s2, s3, _, rfl, HP, ?_⟩
      exact (((((Ext.refl _).alloc _).alloc _).alloc _).alloc _).drewN _
end Go.Proofs.YtnaiccfdbapdpaaDoor
namespace Go.Proofs.YtnaiccfdbapdpaaDoor
open Go.RowKit
/-- The differences of the first k words, the borrows K between them. -/
def DifTo (A B W K : Nat → Int) (k : Nat) : Prop := K 0 = 0 ∧ ∀ j, j < k → Dif1 (A j) (B j) (K j) (W j) (K (j + 1))
theorem DifTo.step {A B W K : Nat → Int} {k : Nat} (h : DifTo A B W K k) {v c : Int} (hs : Dif1 (A k) (B k) (K k) v c) :
    DifTo A B (fun j => if j = k then v else W j) (fun j => if j = k + 1 then c else K j) (k + 1) := by
  refine ⟨by simp [h.1], fun j hj => ?_⟩
  by_cases e : j = k
  · subst e
    simpa using hs
  · have := h.2 j (by omega)
    simp only [e, if_false, show ¬ j = k + 1 from by omega, show ¬ j + 1 = k + 1 from by omega]
    exact this
theorem DifTo.bd {A B W K : Nat → Int} {k : Nat} (h : DifTo A B W K k) : 0 ≤ K k ∧ K k ≤ 1 := by
  cases k with
  | zero => rw [h.1]; omega
  | succ k => have := h.2 k (by omega); exact ⟨this.2.1, this.2.2.1⟩
theorem dif1_of {x y c : Int} (hx : Lim x) (hy : Lim y) (h0 : 0 ≤ c) (h1 : c ≤ 1) {s v d : Int} (hs : IntKind.u64.wrap (x - y) = s) (hv : IntKind.u64.wrap (s - c) = v) (hd : d = if x < y ∨ s < c then 1 else 0) : Dif1 x y c v d := by
  rw [IntKind.wrap_u64] at hs hv
  unfold Dif1 Lim at *
  split at hd <;> omega
theorem subP_of4 {a0 a1 a2 a3 b0 b1 b2 b3 : Int} {A B W K : Nat → Int} (hA : wd a0 a1 a2 a3 = A) (hB : wd b0 b1 b2 b3 = B) (h : DifTo A B W K 4) :
    Hid (SubP a0 a1 a2 a3 b0 b1 b2 b3 (W 0) (W 1) (W 2) (W 3) (K 4 == 1)) := by
  subst hA hB
  have h0 := h.2 0 (by omega)
  have h1 := h.2 1 (by omega)
  have h2 := h.2 2 (by omega)
  have h3 := h.2 3 (by omega)
  rw [h.1] at h0
  have hk : (K 4 == 1) = (K 4 != 0) := by
    have := h.bd
    have e : K 4 = 0 ∨ K 4 = 1 := by omega
    rcases e with e | e <;> rw [e] <;> rfl
  rw [hk]
  exact subP_of h0 h1 h2 h3
attribute [local go_sem] setCell_drewN alloc_drewN
set_option maxHeartbeats 1000000 in
theorem refSub_raw (a0 a1 a2 a3 b0 b1 b2 b3 : Int) (ha : Lim4 a0 a1 a2 a3) (hb : Lim4 b0 b1 b2 b3) (w : World) :
    Calls Tryd.prog 23 #[.agg #[.int .u64 a0, .int .u64 a1, .int .u64 a2, .int .u64 a3], .agg #[.int .u64 b0, .int .u64 b1, .int .u64 b2, .int .u64 b3]] w fun e w' =>
      ∃ (s0 s1 s2 s3 : Int) (c : Bool), e = .returned (.tuple #[.agg #[.int .u64 s0, .int .u64 s1, .int .u64 s2, .int .u64 s3], .bool c]) ∧ Hid (SubP a0 a1 a2 a3 b0 b1 b2 b3 s0 s1 s2 s3 c) ∧ Ext w w' := by
  have HA : Hid (∀ i, Lim (wd a0 a1 a2 a3 i)) := wd_lim ha
  have HB : Hid (∀ i, Lim (wd b0 b1 b2 b3 i)) := wd_lim hb
  obtain ⟨Af, HAf⟩ : ∃ f, Hid (wd a0 a1 a2 a3 = f) := ⟨_, rfl⟩
  obtain ⟨Bf, HBf⟩ : ∃ f, Hid (wd b0 b1 b2 b3 = f) := ⟨_, rfl⟩
  have hga : Hid (∀ i, i < 4 → [Value.int .u64 a0, .int .u64 a1, .int .u64 a2, .int .u64 a3][i]? = some (.int .u64 (Af i))) := fun i hi => HAf.out ▸ wd_get a0 a1 a2 a3 i hi
  have hgb : Hid (∀ i, i < 4 → [Value.int .u64 b0, .int .u64 b1, .int .u64 b2, .int .u64 b3][i]? = some (.int .u64 (Bf i))) := fun i hi => HBf.out ▸ wd_get b0 b1 b2 b3 i hi
  rw [HAf.out] at HA
  rw [HBf.out] at HB
  clear ha hb
  go_enter Tryd.func23, Tryd.ntmps23
  go_wp2
  go_loopw [7, 8] (fun c i wr => ∃ (k : Nat) (W K : Nat → Int), k ≤ 4 ∧ i = .int .i64 k ∧ c = .int .u64 (K k) ∧ Hid (DifTo Af Bf W K k) ∧ ∃ n, wr = ((((w.alloc (.cells #[.int .u64 a0, .int .u64 a1, .int .u64 a2, .int .u64 a3] 26)).alloc (.cells #[.int .u64 b0, .int .u64 b1, .int .u64 b2, .int .u64 b3] 26)).alloc (.cells #[.int .u64 0, .int .u64 0, .int .u64 0, .int .u64 0] 26)).alloc (.cells (fa W) 26)).drewN n) (fun _ i _ => 4 - (intOf i).toNat)
  case atStart => exact ⟨0, fun _ => 0, fun _ => 0, Nat.zero_le _, rfl, rfl, ⟨rfl, fun j hj => by omega⟩, 0, rfl⟩
  case round =>
    obtain ⟨k, W, K, hk, rfl, rfl, HI, n, rfl⟩ := hrel
    by_cases hlt : k < 4
    · have ga := hga.out k hlt
      have gb := hgb.out k hlt
      have ga2 := get_some ga
      have gb2 := get_some gb
      have hk0 : (0 : Int) ≤ (k : Int) := by omega
      have hk1 : (k : Int) < 4 := by omega
      have gf := fa_get W k hlt
      have HS : Hid (∀ v, (fa W).setIfInBounds k (.int .u64 v) = fa (fun i => if i = k then v else W i)) := fun v => fa_set W k hlt v
      obtain ⟨s, hs⟩ : ∃ s, IntKind.u64.wrap (Af k - Bf k) = s := ⟨_, rfl⟩
      obtain ⟨v, hv⟩ : ∃ v, IntKind.u64.wrap (s - K k) = v := ⟨_, rfl⟩
      have HQ : Hid (∀ d, (d = if Af k < Bf k ∨ s < K k then 1 else 0) → Dif1 (Af k) (Bf k) (K k) v d) := fun d hd => dif1_of (HA.out k) (HB.out k) HI.out.bd.1 HI.out.bd.2 hs hv hd
      have HT : Hid (∀ d, Dif1 (Af k) (Bf k) (K k) v d → DifTo Af Bf (fun j => if j = k then v else W j) (fun j => if j = k + 1 then d else K j) (k + 1)) := fun d hd => HI.out.step hd
      have hfs : (fa W).size = 4 := rfl
      generalize Af k = ak at *
      generalize Bf k = bk at *
      generalize K k = ck at *
      by_cases t1 : ak < bk
      · have t1d : decide (ak < bk) = true := by simpa using t1
        go_wp2
        go_quiet (fail)
        obtain ⟨q1, rfl⟩ : ∃ q, q = nq := ⟨_, rfl⟩
        go_wp2
        go_quiet (fail)
        go_wp2
        exact ⟨⟨k + 1, _, _, hlt, by go_num, by simp, HT.out 1 (HQ.out 1 (by simp [t1])), n + q1 + nq, by rw [HS.out v]⟩, by simp [intOf]; omega⟩
      · have t1d : decide (ak < bk) = false := by simpa using t1
        by_cases t2 : s < ck
        · have t2d : decide (s < ck) = true := by simpa using t2
          go_wp2
          go_quiet (fail)
          obtain ⟨q1, rfl⟩ : ∃ q, q = nq := ⟨_, rfl⟩
          go_wp2
          go_quiet (fail)
          go_wp2
          exact ⟨⟨k + 1, _, _, hlt, by go_num, by simp, HT.out 1 (HQ.out 1 (by simp [t2])), n + q1 + nq, by rw [HS.out v]⟩, by simp [intOf]; omega⟩
        · have t2d : decide (s < ck) = false := by simpa using t2
          go_wp2
          go_quiet (fail)
          obtain ⟨q1, rfl⟩ : ∃ q, q = nq := ⟨_, rfl⟩
          go_wp2
          go_quiet (fail)
          go_wp2
          exact ⟨⟨k + 1, _, _, hlt, by go_num, by simp, HT.out 0 (HQ.out 0 (by simp; omega)), n + q1 + nq, by rw [HS.out v]⟩, by simp [intOf]; omega⟩
    · obtain rfl : k = 4 := by omega
      have HP := subP_of4 HAf.out HBf.out HI.out
      obtain ⟨s0, H0⟩ : ∃ x, Hid (W 0 = x) := ⟨_, rfl⟩
      obtain ⟨s1, H1⟩ : ∃ x, Hid (W 1 = x) := ⟨_, rfl⟩
      obtain ⟨s2, H2⟩ : ∃ x, Hid (W 2 = x) := ⟨_, rfl⟩
      obtain ⟨s3, H3⟩ : ∃ x, Hid (W 3 = x) := ⟨_, rfl⟩
      have hf : fa W = #[.int .u64 s0, .int .u64 s1, .int .u64 s2, .int .u64 s3] := by
        unfold fa; rw [H0.out, H1.out, H2.out, H3.out]
      rw [hf]
      rw [H0.out, H1.out, H2.out, H3.out] at HP
      clear hf
      generalize K 4 = ck at *
      go_wp2
      refine bodyPost_ret (v := .tuple #[.agg #[.int .u64 s0, .int .u64 s1, .int .u64 s2, .int .u64 s3], .bool (ck == 1)]) (by simp [results, Tryd.results23, go_sem]) rfl ⟨s0, s1, s2, s3, _, rfl, HP, ?_⟩
      exact (((((Ext.refl _).alloc _).alloc _).alloc _).alloc _).drewN _
end Go.Proofs.YtnaiccfdbapdpaaDoor
namespace Go.Proofs.YtnaiccfdbapdpaaDoor
open Go.RowKit
theorem cmp_top {a0 a1 a2 a3 b0 b1 b2 b3 : Int} (ha : Lim4 a0 a1 a2 a3) (hb : Lim4 b0 b1 b2 b3) {k : Nat} (hk : k < 4) (h : ∀ j : Nat, (k : Int) < j → j < 4 → wd a0 a1 a2 a3 j = wd b0 b1 b2 b3 j) :
    (wd a0 a1 a2 a3 k < wd b0 b1 b2 b3 k → val a0 a1 a2 a3 < val b0 b1 b2 b3) ∧ (wd b0 b1 b2 b3 k < wd a0 a1 a2 a3 k → val b0 b1 b2 b3 < val a0 a1 a2 a3) := by
  have h1 : (k : Int) < 1 → a1 = b1 := fun g => h 1 g (by decide)
  have h2 : (k : Int) < 2 → a2 = b2 := fun g => h 2 g (by decide)
  have h3 : (k : Int) < 3 → a3 = b3 := fun g => h 3 g (by decide)
  unfold Lim4 Lim at *
  unfold val
  have : k = 0 ∨ k = 1 ∨ k = 2 ∨ k = 3 := by omega
  rcases this with rfl | rfl | rfl | rfl
  · have := h1 (by decide); have := h2 (by decide); have := h3 (by decide)
    show (a0 < b0 → _) ∧ (b0 < a0 → _)
    omega
  · have := h2 (by decide); have := h3 (by decide)
    show (a1 < b1 → _) ∧ (b1 < a1 → _)
    omega
  · have := h3 (by decide)
    show (a2 < b2 → _) ∧ (b2 < a2 → _)
    omega
  · show (a3 < b3 → _) ∧ (b3 < a3 → _)
    omega
theorem cmp_all {a0 a1 a2 a3 b0 b1 b2 b3 : Int} {x : Int} (hx : x < 0) (h : ∀ j : Nat, x < j → j < 4 → wd a0 a1 a2 a3 j = wd b0 b1 b2 b3 j) : val a0 a1 a2 a3 = val b0 b1 b2 b3 := by
  have h0 : a0 = b0 := h 0 (by omega) (by decide)
  have h1 : a1 = b1 := h 1 (by omega) (by decide)
  have h2 : a2 = b2 := h 2 (by omega) (by decide)
  have h3 : a3 = b3 := h 3 (by omega) (by decide)
  rw [h0, h1, h2, h3]
attribute [local go_sem] setCell_drewN alloc_drewN
set_option maxHeartbeats 1000000 in
theorem refCmp_any (a0 a1 a2 a3 b0 b1 b2 b3 : Int) (ha : Lim4 a0 a1 a2 a3) (hb : Lim4 b0 b1 b2 b3) (w : World) :
    Calls Tryd.prog 39 #[.agg #[.int .u64 a0, .int .u64 a1, .int .u64 a2, .int .u64 a3], .agg #[.int .u64 b0, .int .u64 b1, .int .u64 b2, .int .u64 b3]] w fun e w' =>
      ∃ n : Int, e = .returned (.int .i64 n) ∧ Hid (CmpP (val a0 a1 a2 a3) (val b0 b1 b2 b3) n) ∧ Ext w w' := by
  obtain ⟨Af, HAf⟩ : ∃ f, Hid (wd a0 a1 a2 a3 = f) := ⟨_, rfl⟩
  obtain ⟨Bf, HBf⟩ : ∃ f, Hid (wd b0 b1 b2 b3 = f) := ⟨_, rfl⟩
  have hga : Hid (∀ i, i < 4 → [Value.int .u64 a0, .int .u64 a1, .int .u64 a2, .int .u64 a3][i]? = some (.int .u64 (Af i))) := fun i hi => HAf.out ▸ wd_get a0 a1 a2 a3 i hi
  have hgb : Hid (∀ i, i < 4 → [Value.int .u64 b0, .int .u64 b1, .int .u64 b2, .int .u64 b3][i]? = some (.int .u64 (Bf i))) := fun i hi => HBf.out ▸ wd_get b0 b1 b2 b3 i hi
  have HT : Hid (∀ k : Nat, k < 4 → (∀ j : Nat, (k : Int) < j → j < 4 → Af j = Bf j) → (Af k < Bf k → val a0 a1 a2 a3 < val b0 b1 b2 b3) ∧ (Bf k < Af k → val b0 b1 b2 b3 < val a0 a1 a2 a3)) := by
    intro k hk h
    rw [← HAf.out, ← HBf.out] at *
    exact cmp_top ha hb hk h
  have HL : Hid (∀ x : Int, x < 0 → (∀ j : Nat, x < j → j < 4 → Af j = Bf j) → val a0 a1 a2 a3 = val b0 b1 b2 b3) := by
    intro x hx h
    rw [← HAf.out, ← HBf.out] at h
    exact cmp_all hx h
  clear ha hb
  go_enter Tryd.func39, Tryd.ntmps39
  go_wp2
  go_loopw [5] (fun i wr => ∃ x : Int, -1 ≤ x ∧ x ≤ 3 ∧ i = .int .i64 x ∧ Hid (∀ j : Nat, x < j → j < 4 → Af j = Bf j) ∧ ∃ n, wr = ((w.alloc (.cells #[.int .u64 a0, .int .u64 a1, .int .u64 a2, .int .u64 a3] 26)).alloc (.cells #[.int .u64 b0, .int .u64 b1, .int .u64 b2, .int .u64 b3] 26)).drewN n) (fun i _ => (intOf i + 1).toNat)
  case atStart => exact ⟨3, by omega, by omega, rfl, fun j h g => by omega, 0, rfl⟩
  case round =>
    obtain ⟨x, hx0, hx1, rfl, HI, n, rfl⟩ := hrel
    by_cases hlt : x < 0
    · go_wp2
      go_ret
      exact ⟨_, rfl, Or.inr (Or.inl ⟨rfl, HL.out x hlt HI.out⟩), (((Ext.refl _).alloc _).alloc _).drewN _⟩
    · obtain ⟨k, rfl⟩ := Int.eq_ofNat_of_zero_le (show 0 ≤ x by omega)
      have hk : k < 4 := by omega
      have ga := hga.out k hk
      have gb := hgb.out k hk
      have ga2 := get_some ga
      have gb2 := get_some gb
      have hk0 : (0 : Int) ≤ (k : Int) := by omega
      have hk1 : (k : Int) < 4 := by omega
      have HC := HT.out k hk HI.out
      have HC' : Hid ((Af k < Bf k → val a0 a1 a2 a3 < val b0 b1 b2 b3) ∧ (Bf k < Af k → val b0 b1 b2 b3 < val a0 a1 a2 a3)) := HC
      have HN : Hid (Af k = Bf k → ∀ j : Nat, (k : Int) - 1 < j → j < 4 → Af j = Bf j) := fun e j h g => by
        by_cases ej : j = k
        · rw [ej]; exact e
        · exact HI.out j (by omega) g
      clear HC
      generalize Af k = ak at *
      generalize Bf k = bk at *
      by_cases t1 : ak < bk
      · go_wp2
        go_quiet (fail)
        go_wp2
        go_ret
        exact ⟨_, rfl, Or.inl ⟨rfl, HC'.out.1 t1⟩, ((((Ext.refl _).alloc _).alloc _).drewN _).drewN _⟩
      · by_cases t2 : bk < ak
        · go_wp2
          go_quiet (fail)
          obtain ⟨q1, rfl⟩ : ∃ q, q = nq := ⟨_, rfl⟩
          go_wp2
          go_quiet (fail)
          go_wp2
          go_ret
          exact ⟨_, rfl, Or.inr (Or.inr ⟨rfl, HC'.out.2 t2⟩), (((((Ext.refl _).alloc _).alloc _).drewN _).drewN _).drewN _⟩
        · go_wp2
          go_quiet (fail)
          obtain ⟨q1, rfl⟩ : ∃ q, q = nq := ⟨_, rfl⟩
          go_wp2
          go_quiet (fail)
          go_wp2
          exact ⟨⟨(k : Int) - 1, by omega, by omega, rfl, HN.out (by omega), n + q1 + nq, rfl⟩, by simp [intOf]⟩
end Go.Proofs.YtnaiccfdbapdpaaDoor
namespace Go.Proofs.YtnaiccfdbapdpaaDoor
open Go.RowKit
/-- Bit number i, as the text reckons it. -/
def bitR (x : Int) (i : Nat) : Bool := bits BinOp.and IntKind.u64 (x / 2 ^ (i % 64)) 1 == 1
set_option maxHeartbeats 400000 in
theorem refBit_in (a0 a1 a2 a3 : Int) (i : Nat) (hi : i < 256) (w : World) :
    Calls Tryd.prog 57 #[.agg #[.int .u64 a0, .int .u64 a1, .int .u64 a2, .int .u64 a3], .int .i64 i] w fun e w' =>
      e = .returned (.bool (bitR (wd a0 a1 a2 a3 (i / 64)) i)) ∧ Ext w w' := by
  have ga := wd_get a0 a1 a2 a3 (i / 64) (by omega)
  have ga2 := get_some ga
  have HB : Hid (bitR (wd a0 a1 a2 a3 (i / 64)) i = (bits BinOp.and IntKind.u64 (wd a0 a1 a2 a3 (i / 64) / 2 ^ (i % 64)) 1 == 1)) := rfl
  generalize wd a0 a1 a2 a3 (i / 64) = x at *
  have h0 : (0 : Int) ≤ (i : Int) := by omega
  have h1 : (i : Int) < 256 := by omega
  have d0 : decide ((0 : Int) ≤ (i : Int)) = true := by simp
  have d1 : decide ((i : Int) < 256) = true := by simpa using h1
  go_enter Tryd.func57, Tryd.ntmps57
  go_wp2
  go_ret
  exact ⟨by rw [HB.out]; rfl, (Ext.refl _).alloc _⟩
set_option maxHeartbeats 400000 in
theorem refBit_out (a0 a1 a2 a3 : Int) (i : Int) (hi : i < 0 ∨ 255 < i) (w : World) :
    Calls Tryd.prog 57 #[.agg #[.int .u64 a0, .int .u64 a1, .int .u64 a2, .int .u64 a3], .int .i64 i] w fun e w' =>
      e = .returned (.bool false) ∧ Ext w w' := by
  by_cases h0 : 0 ≤ i
  · have h3 : ¬ i < 256 := by omega
    have d0 : decide (0 ≤ i) = true := by simpa using h0
    have d1 : decide (i < 256) = false := by simpa using h3
    go_enter Tryd.func57, Tryd.ntmps57
    go_wp2
    go_ret
    exact ⟨rfl, (Ext.refl _).alloc _⟩
  · have d0 : decide (0 ≤ i) = false := by simpa using h0
    go_enter Tryd.func57, Tryd.ntmps57
    go_wp2
    go_ret
    exact ⟨rfl, (Ext.refl _).alloc _⟩
set_option maxHeartbeats 400000 in
theorem refSmall_any (x : Int) (w : World) : Calls Tryd.prog 34 #[.int .u64 x] w fun e w' => e = .returned (.agg #[.int .u64 x, .int .u64 0, .int .u64 0, .int .u64 0]) ∧ Ext w w' := by
  go_enter Tryd.func34, Tryd.ntmps34
  go_wp2
  refine bodyPost_ret (v := .agg #[.int .u64 x, .int .u64 0, .int .u64 0, .int .u64 0]) (by simp [results, Tryd.results34, go_sem]) rfl ⟨rfl, ?_⟩
  exact (Ext.refl _).alloc _
theorem and1r (x : Int) (h : Lim x) : Go.bits BinOp.and IntKind.u64 x 1 = x % 2 := by
  have := bits_mask .u64 64 (by decide) (fun n p q => by rw [IntKind.wrap_u64]; have : (2 : Int) ^ 64 = 18446744073709551616 := by decide
                                                         omega) 1 (by decide) x h.1 (by rw [show (2 : Int) ^ 64 = 18446744073709551616 from by decide]; exact h.2)
  rw [show (2 : Int) ^ 1 - 1 = 1 from by decide, show (2 : Int) ^ 1 = 2 from by decide] at this
  exact this
theorem bit_nat (t s : Nat) (hs : s < 64) : t % 18446744073709551616 / 2 ^ s % 2 = t / 2 ^ s % 2 := by
  have h := Nat.testBit_mod_two_pow t 64 s
  rw [Nat.testBit_eq_decide_div_mod_eq, Nat.testBit_eq_decide_div_mod_eq, show (2 : Nat) ^ 64 = 18446744073709551616 from by decide] at h
  simp only [hs, decide_true, Bool.true_and, decide_eq_decide] at h
  generalize t % 18446744073709551616 / 2 ^ s = x at *
  generalize t / 2 ^ s = y at *
  omega
theorem wd_nat {a0 a1 a2 a3 : Int} (h : Lim4 a0 a1 a2 a3) (q : Nat) (hq : q < 4) : wd a0 a1 a2 a3 q = (((val a0 a1 a2 a3).toNat / 2 ^ (64 * q) % 18446744073709551616 : Nat) : Int) := by
  obtain ⟨⟨p0, q0⟩, ⟨p1, q1⟩, ⟨p2, q2⟩, ⟨p3, q3⟩⟩ := h
  have : q = 0 ∨ q = 1 ∨ q = 2 ∨ q = 3 := by omega
  unfold val wd
  rcases this with rfl | rfl | rfl | rfl <;> simp only [Nat.reduceMul, Nat.reducePow, if_true, Nat.one_ne_zero, if_false, Nat.reduceEqDiff] <;> omega
/-- Bit number i of four words is bit number i of the number. -/
theorem bitR_ok {a0 a1 a2 a3 : Int} (h : Lim4 a0 a1 a2 a3) (i : Nat) (hi : i < 256) : bitR (wd a0 a1 a2 a3 (i / 64)) i = decide ((val a0 a1 a2 a3).toNat / 2 ^ i % 2 = 1) := by
  have hl := wd_lim h (i / 64)
  have hw := wd_nat h (i / 64) (by omega)
  unfold bitR
  have h2 : (0 : Int) < 2 ^ (i % 64) := Int.pow_pos (by decide)
  rw [and1r _ (by
    unfold Lim at *
    exact ⟨Int.ediv_nonneg hl.1 (Int.le_of_lt h2), Int.lt_of_le_of_lt (Int.ediv_le_self _ hl.1) hl.2⟩), hw]
  have e : ∀ t : Nat, (t : Int) / 2 ^ (i % 64) % 2 = ((t / 2 ^ (i % 64) % 2 : Nat) : Int) := fun t => by
    push_cast
    rfl
  rw [e, bit_nat _ _ (by omega), Nat.div_div_eq_div_mul, ← Nat.pow_add, show 64 * (i / 64) + i % 64 = i from by omega]
  generalize (val a0 a1 a2 a3).toNat / 2 ^ i % 2 = z
  by_cases hz : z = 1
  · subst hz; rfl
  · simp [hz]
    omega
end Go.Proofs.YtnaiccfdbapdpaaDoor
namespace Go.Proofs.YtnaiccfdbapdpaaDoor
open Go.RowKit
set_option maxHeartbeats 400000 in
theorem refOrder_any (w : World) : Calls Tryd.prog 24 #[] w fun e w' => e = .returned (.agg #[.int .u64 17562291160714782033, .int .u64 13611842547513532036, .int .u64 18446744073709551615, .int .u64 18446744069414584320]) ∧ Ext w w' := by
  go_enter Tryd.func24, Tryd.ntmps24
  go_wp2
  refine bodyPost_ret (v := .agg #[.int .u64 17562291160714782033, .int .u64 13611842547513532036, .int .u64 18446744073709551615, .int .u64 18446744069414584320]) (by simp [results, Tryd.results24, go_sem]) rfl ⟨rfl, ?_⟩
  exact (Ext.refl _).alloc _
theorem cmp_lessq {a n : Int} (h : CmpP a FQ n) : decide (n < 0) = decide (a < FQ) := by
  unfold CmpP at h
  rcases h with ⟨rfl, h⟩ | ⟨rfl, h⟩ | ⟨rfl, h⟩ <;> simp <;> omega
set_option maxHeartbeats 1000000 in
theorem refSValid_any (x0 x1 x2 x3 : Int) (hx : Lim4 x0 x1 x2 x3) (w : World) :
    Calls Tryd.prog 21 #[.agg #[.int .u64 x0, .int .u64 x1, .int .u64 x2, .int .u64 x3]] w fun e w' => e = .returned (.bool (decide (val x0 x1 x2 x3 < FQ))) ∧ Ext w w' := by
  have R0 := Row.new w x0 x1 x2 x3
  have HE0 : Hid (Ext w (w.alloc (.cells #[.int .u64 x0, .int .u64 x1, .int .u64 x2, .int .u64 x3] 26))) := (Ext.refl _).alloc _
  have HM : Hid (∀ wx, Calls Tryd.prog 39 #[.agg #[.int .u64 x0, .int .u64 x1, .int .u64 x2, .int .u64 x3], .agg #[.int .u64 17562291160714782033, .int .u64 13611842547513532036, .int .u64 18446744073709551615, .int .u64 18446744069414584320]] wx fun e w' => ∃ n : Int, e = .returned (.int .i64 n) ∧ Hid (CmpP (val x0 x1 x2 x3) FQ n) ∧ Ext wx w') := fun wx => by
    have h := refCmp_any x0 x1 x2 x3 _ _ _ _ hx lim_FQ wx
    rw [val_FQ] at h
    exact h
  go_enter Tryd.func21, Tryd.ntmps21
  go_wp2_with fail
  generalize w.alloc (.cells #[.int .u64 x0, .int .u64 x1, .int .u64 x2, .int .u64 x3] 26) = W0 at *
  generalize w.heap.size = b at *
  go_region_held3 (fun wx : World => Ext W0 wx ∧ wx.cell? ⟨b, 0, none⟩ = some (.int .u64 x0) ∧ wx.cell? ⟨b, 1, none⟩ = some (.int .u64 x1) ∧ wx.cell? ⟨b, 2, none⟩ = some (.int .u64 x2) ∧ wx.cell? ⟨b, 3, none⟩ = some (.int .u64 x3)) (first | exact keep1 (Ext.drew (Ext.refl _)) R0 | exact keep1 (by assumption) R0) (first | (go_at_call 24; refine (refOrder_any _).mono ?_; rintro e wy ⟨rfl, HX⟩; have hEy : Ext W0 wy := (by refine Ext.trans ?_ HX; simp only [*])) | (go_at_call 39; refine (HM.out _).mono ?_; rintro e wy ⟨n, rfl, HC, HX⟩; have hEy : Ext W0 wy := (by refine Ext.trans ?_ HX; simp only [*])))
  go_wp2
  go_ret
  exact ⟨by rw [← cmp_lessq HC.out]; rfl, HE0.out.trans hEy⟩
theorem qmod_sub {x0 x1 x2 x3 d0 d1 d2 d3 : Int} {c : Bool} (hx : Lim4 x0 x1 x2 x3) (h : ¬ val x0 x1 x2 x3 < FQ) (hd : SubP x0 x1 x2 x3 17562291160714782033 13611842547513532036 18446744073709551615 18446744069414584320 d0 d1 d2 d3 c) : QMod (val x0 x1 x2 x3) d0 d1 d2 d3 := by
  obtain ⟨hl, he⟩ := hd
  rw [val_FQ] at he
  have b1 := val_bd hx
  have b2 := val_bd hl
  refine ⟨hl, ?_⟩
  unfold FQ B256 at *
  cases c <;> simp at he <;> omega
set_option maxHeartbeats 2000000 in
theorem refSMod_any (x0 x1 x2 x3 : Int) (hx : Lim4 x0 x1 x2 x3) (w : World) :
    Calls Tryd.prog 20 #[.agg #[.int .u64 x0, .int .u64 x1, .int .u64 x2, .int .u64 x3]] w fun e w' => ∃ r0 r1 r2 r3 : Int, e = .returned (.agg #[.int .u64 r0, .int .u64 r1, .int .u64 r2, .int .u64 r3]) ∧ Hid (QMod (val x0 x1 x2 x3) r0 r1 r2 r3) ∧ Ext w w' := by
  have RA := (Row.new w x0 x1 x2 x3).ext ((Ext.refl _).alloc (.cells #[.int .u64 0, .int .u64 0, .int .u64 0, .int .u64 0] 26))
  have RZ := RowF.new (w.alloc (.cells #[.int .u64 x0, .int .u64 x1, .int .u64 x2, .int .u64 x3] 26)) 0 0 0 0
  rw [show (w.alloc (.cells #[.int .u64 x0, .int .u64 x1, .int .u64 x2, .int .u64 x3] 26)).heap.size = w.heap.size + 1 from by simp] at RZ
  have HE0 : Hid (Ext w ((w.alloc (.cells #[.int .u64 x0, .int .u64 x1, .int .u64 x2, .int .u64 x3] 26)).alloc (.cells #[.int .u64 0, .int .u64 0, .int .u64 0, .int .u64 0] 26))) := ((Ext.refl _).alloc _).alloc _
  have HB : SizeLe w (w.heap.size + 1) := by unfold SizeLe; omega
  have HM : Hid (∀ wx, Calls Tryd.prog 23 #[.agg #[.int .u64 x0, .int .u64 x1, .int .u64 x2, .int .u64 x3], .agg #[.int .u64 17562291160714782033, .int .u64 13611842547513532036, .int .u64 18446744073709551615, .int .u64 18446744069414584320]] wx fun e w' => ∃ (s0 s1 s2 s3 : Int) (c : Bool), e = .returned (.tuple #[.agg #[.int .u64 s0, .int .u64 s1, .int .u64 s2, .int .u64 s3], .bool c]) ∧ Hid (SubP x0 x1 x2 x3 17562291160714782033 13611842547513532036 18446744073709551615 18446744069414584320 s0 s1 s2 s3 c) ∧ Ext wx w') := fun wx => refSub_raw x0 x1 x2 x3 _ _ _ _ hx lim_FQ wx
  go_enter Tryd.func20, Tryd.ntmps20
  go_wp2_with fail
  refine (refSValid_any _ _ _ _ hx _).mono ?_
  rintro e w1 ⟨rfl, HX⟩
  have R0 := RA.ext HX
  have HE1 : Hid (Ext w w1) := HE0.out.trans HX
  obtain ⟨⟨lz, c0, c1, c2, c3⟩, f0, f1, f2, f3⟩ := RZ.ext HX
  have RZ1 : RowF w1 (w.heap.size + 1) 0 0 0 0 := RZ.ext HX
  clear HX HE0 RA RZ
  generalize w.heap.size + 1 = bz at *
  generalize w.heap.size = b at *
  have R0' := R0
  obtain ⟨l0, a0, a1, a2, a3⟩ := R0
  by_cases hv : val x0 x1 x2 x3 < FQ
  · have HG : Hid (QMod (val x0 x1 x2 x3) x0 x1 x2 x3) := qmod_less hx hv
    have hd : decide (val x0 x1 x2 x3 < FQ) = true := by simpa using hv
    rw [hd]
    clear hv hd
    go_wp2
    refine bodyPost_ret (v := .agg #[.int .u64 x0, .int .u64 x1, .int .u64 x2, .int .u64 x3]) (by simp [results, Tryd.results20, go_sem, c0, c1, c2, c3]) rfl ⟨x0, x1, x2, x3, rfl, HG, ?_⟩
    exact Ext.st HB (Ext.st HB (Ext.st HB (Ext.st HB HE1.out)))
  · have HG : Hid (∀ d0 d1 d2 d3 c, SubP x0 x1 x2 x3 17562291160714782033 13611842547513532036 18446744073709551615 18446744069414584320 d0 d1 d2 d3 c → QMod (val x0 x1 x2 x3) d0 d1 d2 d3) := fun d0 d1 d2 d3 c h => qmod_sub hx hv h
    have hd : decide (val x0 x1 x2 x3 < FQ) = false := by simpa using hv
    rw [hd]
    clear hv hd
    go_wp2_with fail
    obtain ⟨W0, hW0⟩ : ∃ W0, W0 = w1 := ⟨_, rfl⟩
    subst hW0
    go_cut [3] (fun s3 wx => ∃ (b3 : Nat) (d0 d1 d2 d3 : Int), s3 = .pointer (some ⟨b3, 0, none⟩) ∧ Row wx b3 d0 d1 d2 d3 ∧ Hid (QMod (val x0 x1 x2 x3) d0 d1 d2 d3) ∧ Ext W0 wx)
    case first =>
      have R0 := R0'
      have hl0 : W0.heap.size ≤ W0.heap.size := Nat.le_refl _
      have hl1 : W0.heap.size ≤ W0.heap.size + 1 := Nat.le_succ _
      go_region_held3 (fun wx : World => Ext W0 wx ∧ wx.cell? ⟨b, 0, none⟩ = some (.int .u64 x0) ∧ wx.cell? ⟨b, 1, none⟩ = some (.int .u64 x1) ∧ wx.cell? ⟨b, 2, none⟩ = some (.int .u64 x2) ∧ wx.cell? ⟨b, 3, none⟩ = some (.int .u64 x3)) ((refine keep1 ?_ R0; simp (maxDischargeDepth := 30) only [extAlloc, extDrew, Ext.st, Ext.refl, *])) (first | (go_at_call 24; refine (refOrder_any _).mono ?_; rintro e wy ⟨rfl, HX⟩; have hEy : Ext W0 wy := (by refine Ext.trans ?_ HX; simp only [*]); have hz0 : W0.heap.size ≤ wy.heap.size := hEy.size; have hz1 : W0.heap.size ≤ wy.heap.size + 1 := Nat.le_succ_of_le hz0; have htr : ∀ b, b < _ → b < wy.heap.size := (fun b h => Nat.lt_of_lt_of_le h HX.size); have hsz := HX.size; (try simp at hsz); (try have hs1 := Nat.lt_of_succ_le hsz); (try have hs2 := Nat.lt_of_succ_lt (Nat.lt_of_succ_le hsz)); obtain ⟨hcc, hff⟩ := HX.cells; (try simp at hcc); (try simp at hff)) | (go_at_call 23; refine (HM.out _).mono ?_; rintro e wy ⟨d0, d1, d2, d3, c, rfl, HD, HX⟩; have hEy : Ext W0 wy := (by refine Ext.trans ?_ HX; simp only [*]); have hz0 : W0.heap.size ≤ wy.heap.size := hEy.size; have hz1 : W0.heap.size ≤ wy.heap.size + 1 := Nat.le_succ_of_le hz0; have htr : ∀ b, b < _ → b < wy.heap.size := (fun b h => Nat.lt_of_lt_of_le h HX.size); have hsz := HX.size; (try simp at hsz); (try have hs1 := Nat.lt_of_succ_le hsz); (try have hs2 := Nat.lt_of_succ_lt (Nat.lt_of_succ_le hsz)); obtain ⟨hcc, hff⟩ := HX.cells; (try simp at hcc); (try simp at hff)))
      all_goals
        go_wp2
        go_meet
        case rel => exact ⟨_, d0, d1, d2, d3, rfl, ⟨by simp [*], (by first | (go_simp; done) | (go_simp; exact World.cell?_setCell_same' _ _ _ (by go_simp))), (by first | (go_simp; done) | (go_simp; exact World.cell?_setCell_same' _ _ _ (by go_simp))), (by first | (go_simp; done) | (go_simp; exact World.cell?_setCell_same' _ _ _ (by go_simp))), (by first | (go_simp; done) | (go_simp; exact World.cell?_setCell_same' _ _ _ (by go_simp)))⟩, HG.out _ _ _ _ _ HD.out, by simp only [*]⟩
    case rest =>
      obtain ⟨b3, d0, d1, d2, d3, rfl, R3, HF, HXc⟩ := hcut
      obtain ⟨l3, e0, e1, e2, e3⟩ := R3
      clear c0 c1 c2 c3 f0 f1 f2 f3 lz l0 a0 a1 a2 a3
      obtain ⟨⟨lz, c0, c1, c2, c3⟩, f0, f1, f2, f3⟩ := RZ1.ext HXc
      have HE2 : Hid (Ext w wc) := HE1.out.trans HXc
      clear HXc
      go_wp2
      refine bodyPost_ret (v := .agg #[.int .u64 d0, .int .u64 d1, .int .u64 d2, .int .u64 d3]) (by simp [results, Tryd.results20, go_sem, c0, c1, c2, c3]) rfl ⟨d0, d1, d2, d3, rfl, HF, ?_⟩
      exact Ext.st HB (Ext.st HB (Ext.st HB (Ext.st HB HE2.out)))
theorem qadd_carry {a b x0 x1 x2 x3 y0 y1 y2 y3 s0 s1 s2 s3 d0 d1 d2 d3 : Int} {c : Bool} (hx : QMod a x0 x1 x2 x3) (hy : QMod b y0 y1 y2 y3) (hs : AddP x0 x1 x2 x3 y0 y1 y2 y3 s0 s1 s2 s3 true)
    (hd : SubP s0 s1 s2 s3 17562291160714782033 13611842547513532036 18446744073709551615 18446744069414584320 d0 d1 d2 d3 c) : QMod (a + b) d0 d1 d2 d3 := by
  obtain ⟨_, ex⟩ := hx
  obtain ⟨_, ey⟩ := hy
  obtain ⟨ls, es⟩ := hs
  obtain ⟨ld, ed⟩ := hd
  rw [val_FQ] at ed
  have b2 := val_bd ld
  have b3 := val_bd ls
  have hp : (0 : Int) < FQ := by decide
  have r1 := Int.emod_nonneg a (show FQ ≠ 0 by decide)
  have r2 := Int.emod_lt_of_pos a hp
  have r3 := Int.emod_nonneg b (show FQ ≠ 0 by decide)
  have r4 := Int.emod_lt_of_pos b hp
  refine ⟨ld, ?_⟩
  rw [Int.add_emod, ← ex, ← ey]
  rw [← ex] at r1 r2
  rw [← ey] at r3 r4
  have : (val x0 x1 x2 x3 + val y0 y1 y2 y3) % FQ = val x0 x1 x2 x3 + val y0 y1 y2 y3 - FQ := by
    unfold FQ B256 at *
    simp at es
    omega
  rw [this]
  unfold FQ B256 at *
  simp at es
  cases c <;> simp at ed <;> omega
theorem qadd_plain {a b x0 x1 x2 x3 y0 y1 y2 y3 s0 s1 s2 s3 r0 r1 r2 r3 : Int} (hx : QMod a x0 x1 x2 x3) (hy : QMod b y0 y1 y2 y3) (hs : AddP x0 x1 x2 x3 y0 y1 y2 y3 s0 s1 s2 s3 false) (hr : QMod (val s0 s1 s2 s3) r0 r1 r2 r3) : QMod (a + b) r0 r1 r2 r3 := by
  have es : val s0 s1 s2 s3 = val x0 x1 x2 x3 + val y0 y1 y2 y3 := by have := hs.2; simp at this; exact this
  refine ⟨hr.1, ?_⟩
  rw [hr.2, es, hx.2, hy.2, ← Int.add_emod]
/-- What stands behind the first statement of Add. -/
def SAddPre (a b s0 s1 s2 s3 : Int) (c : Bool) : Prop := ∃ x0 x1 x2 x3 y0 y1 y2 y3 : Int, QMod a x0 x1 x2 x3 ∧ QMod b y0 y1 y2 y3 ∧ AddP x0 x1 x2 x3 y0 y1 y2 y3 s0 s1 s2 s3 c
def SSubPre (a b s0 s1 s2 s3 : Int) (c : Bool) : Prop := ∃ x0 x1 x2 x3 y0 y1 y2 y3 : Int, QMod a x0 x1 x2 x3 ∧ QMod b y0 y1 y2 y3 ∧ SubP x0 x1 x2 x3 y0 y1 y2 y3 s0 s1 s2 s3 c
theorem qmod_rw {a b r0 r1 r2 r3 : Int} (h : a = b) (k : QMod a r0 r1 r2 r3) : QMod b r0 r1 r2 r3 := h ▸ k
set_option maxHeartbeats 4000000 in
theorem refSAdd_any (x0 x1 x2 x3 y0 y1 y2 y3 : Int) (hx : Lim4 x0 x1 x2 x3) (hy : Lim4 y0 y1 y2 y3) (w : World) :
    Calls Tryd.prog 29 #[.agg #[.int .u64 x0, .int .u64 x1, .int .u64 x2, .int .u64 x3], .agg #[.int .u64 y0, .int .u64 y1, .int .u64 y2, .int .u64 y3]] w fun e w' => ∃ r0 r1 r2 r3 : Int, e = .returned (.agg #[.int .u64 r0, .int .u64 r1, .int .u64 r2, .int .u64 r3]) ∧ Hid (QMod (val x0 x1 x2 x3 + val y0 y1 y2 y3) r0 r1 r2 r3) ∧ Ext w w' := by
  have RT := Row.two w x0 x1 x2 x3 y0 y1 y2 y3
  have R1 := RT.1.ext ((Ext.refl _).alloc (.cells #[.int .u64 0, .int .u64 0, .int .u64 0, .int .u64 0] 26))
  have R2 := RT.2.ext ((Ext.refl _).alloc (.cells #[.int .u64 0, .int .u64 0, .int .u64 0, .int .u64 0] 26))
  have RZ := RowF.new ((w.alloc (.cells #[.int .u64 x0, .int .u64 x1, .int .u64 x2, .int .u64 x3] 26)).alloc (.cells #[.int .u64 y0, .int .u64 y1, .int .u64 y2, .int .u64 y3] 26)) 0 0 0 0
  rw [show ((w.alloc (.cells #[.int .u64 x0, .int .u64 x1, .int .u64 x2, .int .u64 x3] 26)).alloc (.cells #[.int .u64 y0, .int .u64 y1, .int .u64 y2, .int .u64 y3] 26)).heap.size = w.heap.size + 1 + 1 from by simp] at RZ
  have HE0 : Hid (Ext w (((w.alloc (.cells #[.int .u64 x0, .int .u64 x1, .int .u64 x2, .int .u64 x3] 26)).alloc (.cells #[.int .u64 y0, .int .u64 y1, .int .u64 y2, .int .u64 y3] 26)).alloc (.cells #[.int .u64 0, .int .u64 0, .int .u64 0, .int .u64 0] 26))) := (((Ext.refl _).alloc _).alloc _).alloc _
  have HB : SizeLe w (w.heap.size + 1 + 1) := by unfold SizeLe; omega
  clear RT
  go_enter Tryd.func29, Tryd.ntmps29
  go_wp2_with fail
  generalize ((w.alloc (.cells #[.int .u64 x0, .int .u64 x1, .int .u64 x2, .int .u64 x3] 26)).alloc (.cells #[.int .u64 y0, .int .u64 y1, .int .u64 y2, .int .u64 y3] 26)).alloc (.cells #[.int .u64 0, .int .u64 0, .int .u64 0, .int .u64 0] 26) = W0 at *
  generalize w.heap.size + 1 + 1 = bz at *
  generalize w.heap.size + 1 = c at *
  generalize w.heap.size = b at *
  go_cut [5, 6] (fun s5 s6 wx => ∃ (b5 : Nat) (s0 s1 s2 s3 : Int) (k : Bool), s5 = .pointer (some ⟨b5, 0, none⟩) ∧ s6 = .bool k ∧ Row wx b5 s0 s1 s2 s3 ∧ Hid (SAddPre (val x0 x1 x2 x3) (val y0 y1 y2 y3) s0 s1 s2 s3 k) ∧ Ext W0 wx)
  case first =>
    have hl0 : W0.heap.size ≤ W0.heap.size := Nat.le_refl _
    have hl1 : W0.heap.size ≤ W0.heap.size + 1 := Nat.le_succ _
    go_region_held3 (fun wx : World => Ext W0 wx ∧ wx.cell? ⟨b, 0, none⟩ = some (.int .u64 x0) ∧ wx.cell? ⟨b, 1, none⟩ = some (.int .u64 x1) ∧ wx.cell? ⟨b, 2, none⟩ = some (.int .u64 x2) ∧ wx.cell? ⟨b, 3, none⟩ = some (.int .u64 x3) ∧ wx.cell? ⟨c, 0, none⟩ = some (.int .u64 y0) ∧ wx.cell? ⟨c, 1, none⟩ = some (.int .u64 y1) ∧ wx.cell? ⟨c, 2, none⟩ = some (.int .u64 y2) ∧ wx.cell? ⟨c, 3, none⟩ = some (.int .u64 y3)) ((refine keep2 ?_ R1 R2; simp (maxDischargeDepth := 30) only [extAlloc, extDrew, Ext.st, Ext.refl, *])) (first | (go_at_call 20; refine (refSMod_any _ _ _ _ (by assumption) _).mono ?_; rintro e wy ⟨m0, m1, m2, m3, rfl, HMod, HX⟩; have hL : Lim4 m0 m1 m2 m3 := HMod.out.1; have hEy : Ext W0 wy := (by refine Ext.trans ?_ HX; simp only [*]); have hz0 : W0.heap.size ≤ wy.heap.size := hEy.size; have hz1 : W0.heap.size ≤ wy.heap.size + 1 := Nat.le_succ_of_le hz0; have htr : ∀ b, b < _ → b < wy.heap.size := (fun b h => Nat.lt_of_lt_of_le h HX.size); have hsz := HX.size; (try simp at hsz); (try have hs1 := Nat.lt_of_succ_le hsz); (try have hs2 := Nat.lt_of_succ_lt (Nat.lt_of_succ_le hsz)); obtain ⟨hcc, hff⟩ := HX.cells; (try simp at hcc); (try simp at hff)) | (go_at_call 43; refine (refAdd_raw _ _ _ _ _ _ _ _ (by assumption) (by assumption) _).mono ?_; rintro e wy ⟨s0, s1, s2, s3, k, rfl, HA, HX⟩; have hEy : Ext W0 wy := (by refine Ext.trans ?_ HX; simp only [*]); have hz0 : W0.heap.size ≤ wy.heap.size := hEy.size; have hz1 : W0.heap.size ≤ wy.heap.size + 1 := Nat.le_succ_of_le hz0; have htr : ∀ b, b < _ → b < wy.heap.size := (fun b h => Nat.lt_of_lt_of_le h HX.size); have hsz := HX.size; (try simp at hsz); (try have hs1 := Nat.lt_of_succ_le hsz); (try have hs2 := Nat.lt_of_succ_lt (Nat.lt_of_succ_le hsz)); obtain ⟨hcc, hff⟩ := HX.cells; (try simp at hcc); (try simp at hff)))
    all_goals
      go_wp2
      go_meet
      case rel => exact ⟨_, s0, s1, s2, s3, k, rfl, rfl, ⟨by simp [*], (by first | (go_simp; done) | (go_simp; exact World.cell?_setCell_same' _ _ _ (by go_simp))), (by first | (go_simp; done) | (go_simp; exact World.cell?_setCell_same' _ _ _ (by go_simp))), (by first | (go_simp; done) | (go_simp; exact World.cell?_setCell_same' _ _ _ (by go_simp))), (by first | (go_simp; done) | (go_simp; exact World.cell?_setCell_same' _ _ _ (by go_simp)))⟩, ⟨_, _, _, _, _, _, _, _, by assumption, by assumption, HA.out⟩, by simp only [*]⟩
  case rest =>
    obtain ⟨b5, s0, s1, s2, s3, k, rfl, rfl, R5, HP, HXc⟩ := hcut
    have RZ1 := RZ.ext HXc
    have HE1 : Hid (Ext w wc) := HE0.out.trans HXc
    have hs : Lim4 s0 s1 s2 s3 := by obtain ⟨_, _, _, _, _, _, _, _, _, _, h⟩ := HP.out; exact h.1
    clear HXc HE0 RZ R1 R2
    clear W0
    obtain ⟨W0, hW0⟩ : ∃ W0, W0 = wc := ⟨_, rfl⟩
    subst hW0
    have R0 := R5
    obtain ⟨l5, e0, e1, e2, e3⟩ := R5
    cases k
    case true =>
      have HM : Hid (∀ wx, Calls Tryd.prog 23 #[.agg #[.int .u64 s0, .int .u64 s1, .int .u64 s2, .int .u64 s3], .agg #[.int .u64 17562291160714782033, .int .u64 13611842547513532036, .int .u64 18446744073709551615, .int .u64 18446744069414584320]] wx fun e w' => ∃ (d0 d1 d2 d3 : Int) (c : Bool), e = .returned (.tuple #[.agg #[.int .u64 d0, .int .u64 d1, .int .u64 d2, .int .u64 d3], .bool c]) ∧ Hid (SubP s0 s1 s2 s3 17562291160714782033 13611842547513532036 18446744073709551615 18446744069414584320 d0 d1 d2 d3 c) ∧ Ext wx w') := fun wx => refSub_raw s0 s1 s2 s3 _ _ _ _ hs lim_FQ wx
      have HG : Hid (∀ d0 d1 d2 d3 c, SubP s0 s1 s2 s3 17562291160714782033 13611842547513532036 18446744073709551615 18446744069414584320 d0 d1 d2 d3 c → QMod (val x0 x1 x2 x3 + val y0 y1 y2 y3) d0 d1 d2 d3) := fun d0 d1 d2 d3 c h => by
        obtain ⟨_, _, _, _, _, _, _, _, h1, h2, h3⟩ := HP.out
        exact qadd_carry h1 h2 h3 h
      clear HP
      go_wp2_with fail
      go_cut [7] (fun s7 wx => ∃ (b7 : Nat) (d0 d1 d2 d3 : Int), s7 = .pointer (some ⟨b7, 0, none⟩) ∧ Row wx b7 d0 d1 d2 d3 ∧ Hid (QMod (val x0 x1 x2 x3 + val y0 y1 y2 y3) d0 d1 d2 d3) ∧ Ext W0 wx)
      case first =>
        have hl0 : W0.heap.size ≤ W0.heap.size := Nat.le_refl _
        have hl1 : W0.heap.size ≤ W0.heap.size + 1 := Nat.le_succ _
        go_region_held3 (fun wx : World => Ext W0 wx ∧ wx.cell? ⟨b5, 0, none⟩ = some (.int .u64 s0) ∧ wx.cell? ⟨b5, 1, none⟩ = some (.int .u64 s1) ∧ wx.cell? ⟨b5, 2, none⟩ = some (.int .u64 s2) ∧ wx.cell? ⟨b5, 3, none⟩ = some (.int .u64 s3)) ((refine keep1 ?_ R0; simp (maxDischargeDepth := 30) only [extAlloc, extDrew, Ext.st, Ext.refl, *])) (first | (go_at_call 24; refine (refOrder_any _).mono ?_; rintro e wy ⟨rfl, HX⟩; have hEy : Ext W0 wy := (by refine Ext.trans ?_ HX; simp only [*]); have hz0 : W0.heap.size ≤ wy.heap.size := hEy.size; have hz1 : W0.heap.size ≤ wy.heap.size + 1 := Nat.le_succ_of_le hz0; have htr : ∀ b, b < _ → b < wy.heap.size := (fun b h => Nat.lt_of_lt_of_le h HX.size); have hsz := HX.size; (try simp at hsz); (try have hs1 := Nat.lt_of_succ_le hsz); (try have hs2 := Nat.lt_of_succ_lt (Nat.lt_of_succ_le hsz)); obtain ⟨hcc, hff⟩ := HX.cells; (try simp at hcc); (try simp at hff)) | (go_at_call 23; refine (HM.out _).mono ?_; rintro e wy ⟨d0, d1, d2, d3, q, rfl, HD, HX⟩; have hEy : Ext W0 wy := (by refine Ext.trans ?_ HX; simp only [*]); have hz0 : W0.heap.size ≤ wy.heap.size := hEy.size; have hz1 : W0.heap.size ≤ wy.heap.size + 1 := Nat.le_succ_of_le hz0; have htr : ∀ b, b < _ → b < wy.heap.size := (fun b h => Nat.lt_of_lt_of_le h HX.size); have hsz := HX.size; (try simp at hsz); (try have hs1 := Nat.lt_of_succ_le hsz); (try have hs2 := Nat.lt_of_succ_lt (Nat.lt_of_succ_le hsz)); obtain ⟨hcc, hff⟩ := HX.cells; (try simp at hcc); (try simp at hff)))
        all_goals
          go_wp2
          go_meet
          case rel => exact ⟨_, d0, d1, d2, d3, rfl, ⟨by simp [*], (by first | (go_simp; done) | (go_simp; exact World.cell?_setCell_same' _ _ _ (by go_simp))), (by first | (go_simp; done) | (go_simp; exact World.cell?_setCell_same' _ _ _ (by go_simp))), (by first | (go_simp; done) | (go_simp; exact World.cell?_setCell_same' _ _ _ (by go_simp))), (by first | (go_simp; done) | (go_simp; exact World.cell?_setCell_same' _ _ _ (by go_simp)))⟩, HG.out _ _ _ _ _ HD.out, by simp only [*]⟩
      case rest =>
        obtain ⟨b7, d0, d1, d2, d3, rfl, R7, HF, HXc⟩ := hcut
        obtain ⟨l7, a0, a1, a2, a3⟩ := R7
        clear l5 e0 e1 e2 e3
        obtain ⟨⟨lz, c0, c1, c2, c3⟩, f0, f1, f2, f3⟩ := RZ1.ext HXc
        have HE2 : Hid (Ext w wc) := HE1.out.trans HXc
        clear HXc
        go_wp2
        refine bodyPost_ret (v := .agg #[.int .u64 d0, .int .u64 d1, .int .u64 d2, .int .u64 d3]) (by simp [results, Tryd.results29, go_sem, c0, c1, c2, c3]) rfl ⟨d0, d1, d2, d3, rfl, HF, ?_⟩
        exact (Ext.st HB (Ext.st HB (Ext.st HB (Ext.st HB HE2.out))))
    case false =>
      go_wp2_with fail
      refine (refSMod_any _ _ _ _ hs _).mono ?_
      rintro e w2 ⟨r0, r1, r2, r3, rfl, HR, HX⟩
      have HF : Hid (QMod (val x0 x1 x2 x3 + val y0 y1 y2 y3) r0 r1 r2 r3) := by
        obtain ⟨_, _, _, _, _, _, _, _, h1, h2, h3⟩ := HP.out
        exact qadd_plain h1 h2 h3 HR.out
      obtain ⟨⟨lz, c0, c1, c2, c3⟩, f0, f1, f2, f3⟩ := RZ1.ext HX
      have HE2 : Hid (Ext w w2) := HE1.out.trans HX
      clear HX HR HP l5 e0 e1 e2 e3
      go_wp2
      refine bodyPost_ret (v := .agg #[.int .u64 r0, .int .u64 r1, .int .u64 r2, .int .u64 r3]) (by simp [results, Tryd.results29, go_sem, c0, c1, c2, c3]) rfl ⟨r0, r1, r2, r3, rfl, HF, ?_⟩
      exact (Ext.st HB (Ext.st HB (Ext.st HB (Ext.st HB HE2.out))))
theorem qsub_plain {a b x0 x1 x2 x3 y0 y1 y2 y3 s0 s1 s2 s3 : Int} (hx : QMod a x0 x1 x2 x3) (hy : QMod b y0 y1 y2 y3) (hs : SubP x0 x1 x2 x3 y0 y1 y2 y3 s0 s1 s2 s3 false) : QMod (a - b) s0 s1 s2 s3 := by
  obtain ⟨_, ex⟩ := hx
  obtain ⟨_, ey⟩ := hy
  obtain ⟨ls, es⟩ := hs
  have b3 := val_bd ls
  have hp : (0 : Int) < FQ := by decide
  have r2 := Int.emod_lt_of_pos a hp
  have r3 := Int.emod_nonneg b (show FQ ≠ 0 by decide)
  refine ⟨ls, ?_⟩
  simp at es
  rw [Int.sub_emod, ← ex, ← ey, ← es]
  rw [← ex] at r2
  rw [← ey] at r3
  exact (Int.emod_eq_of_lt b3.1 (by omega)).symm
theorem qsub_less {a b x0 x1 x2 x3 y0 y1 y2 y3 s0 s1 s2 s3 r0 r1 r2 r3 : Int} {c : Bool} (hx : QMod a x0 x1 x2 x3) (hy : QMod b y0 y1 y2 y3) (hs : SubP x0 x1 x2 x3 y0 y1 y2 y3 s0 s1 s2 s3 true)
    (hr : AddP s0 s1 s2 s3 17562291160714782033 13611842547513532036 18446744073709551615 18446744069414584320 r0 r1 r2 r3 c) : QMod (a - b) r0 r1 r2 r3 := by
  obtain ⟨_, ex⟩ := hx
  obtain ⟨_, ey⟩ := hy
  obtain ⟨ls, es⟩ := hs
  obtain ⟨lr, er⟩ := hr
  rw [val_FQ] at er
  have b2 := val_bd lr
  have b3 := val_bd ls
  have hp : (0 : Int) < FQ := by decide
  have q1 := Int.emod_nonneg a (show FQ ≠ 0 by decide)
  have q4 := Int.emod_lt_of_pos b hp
  refine ⟨lr, ?_⟩
  rw [Int.sub_emod, ← ex, ← ey]
  rw [← ex] at q1
  rw [← ey] at q4
  unfold FQ B256 at *
  simp at es
  cases c <;> simp at er <;> omega
set_option maxHeartbeats 4000000 in
theorem refSSub_any (x0 x1 x2 x3 y0 y1 y2 y3 : Int) (hx : Lim4 x0 x1 x2 x3) (hy : Lim4 y0 y1 y2 y3) (w : World) :
    Calls Tryd.prog 35 #[.agg #[.int .u64 x0, .int .u64 x1, .int .u64 x2, .int .u64 x3], .agg #[.int .u64 y0, .int .u64 y1, .int .u64 y2, .int .u64 y3]] w fun e w' => ∃ r0 r1 r2 r3 : Int, e = .returned (.agg #[.int .u64 r0, .int .u64 r1, .int .u64 r2, .int .u64 r3]) ∧ Hid (QMod (val x0 x1 x2 x3 - val y0 y1 y2 y3) r0 r1 r2 r3) ∧ Ext w w' := by
  have RT := Row.two w x0 x1 x2 x3 y0 y1 y2 y3
  have R1 := RT.1.ext ((Ext.refl _).alloc (.cells #[.int .u64 0, .int .u64 0, .int .u64 0, .int .u64 0] 26))
  have R2 := RT.2.ext ((Ext.refl _).alloc (.cells #[.int .u64 0, .int .u64 0, .int .u64 0, .int .u64 0] 26))
  have RZ := RowF.new ((w.alloc (.cells #[.int .u64 x0, .int .u64 x1, .int .u64 x2, .int .u64 x3] 26)).alloc (.cells #[.int .u64 y0, .int .u64 y1, .int .u64 y2, .int .u64 y3] 26)) 0 0 0 0
  rw [show ((w.alloc (.cells #[.int .u64 x0, .int .u64 x1, .int .u64 x2, .int .u64 x3] 26)).alloc (.cells #[.int .u64 y0, .int .u64 y1, .int .u64 y2, .int .u64 y3] 26)).heap.size = w.heap.size + 1 + 1 from by simp] at RZ
  have HE0 : Hid (Ext w (((w.alloc (.cells #[.int .u64 x0, .int .u64 x1, .int .u64 x2, .int .u64 x3] 26)).alloc (.cells #[.int .u64 y0, .int .u64 y1, .int .u64 y2, .int .u64 y3] 26)).alloc (.cells #[.int .u64 0, .int .u64 0, .int .u64 0, .int .u64 0] 26))) := (((Ext.refl _).alloc _).alloc _).alloc _
  have HB : SizeLe w (w.heap.size + 1 + 1) := by unfold SizeLe; omega
  clear RT
  go_enter Tryd.func35, Tryd.ntmps35
  go_wp2_with fail
  generalize ((w.alloc (.cells #[.int .u64 x0, .int .u64 x1, .int .u64 x2, .int .u64 x3] 26)).alloc (.cells #[.int .u64 y0, .int .u64 y1, .int .u64 y2, .int .u64 y3] 26)).alloc (.cells #[.int .u64 0, .int .u64 0, .int .u64 0, .int .u64 0] 26) = W0 at *
  generalize w.heap.size + 1 + 1 = bz at *
  generalize w.heap.size + 1 = c at *
  generalize w.heap.size = b at *
  go_cut [5, 6] (fun s5 s6 wx => ∃ (b5 : Nat) (s0 s1 s2 s3 : Int) (k : Bool), s5 = .pointer (some ⟨b5, 0, none⟩) ∧ s6 = .bool k ∧ RowF wx b5 s0 s1 s2 s3 ∧ Hid (SSubPre (val x0 x1 x2 x3) (val y0 y1 y2 y3) s0 s1 s2 s3 k) ∧ Ext W0 wx ∧ W0.heap.size ≤ b5)
  case first =>
    have hl0 : W0.heap.size ≤ W0.heap.size := Nat.le_refl _
    have hl1 : W0.heap.size ≤ W0.heap.size + 1 := Nat.le_succ _
    go_region_held3 (fun wx : World => Ext W0 wx ∧ wx.cell? ⟨b, 0, none⟩ = some (.int .u64 x0) ∧ wx.cell? ⟨b, 1, none⟩ = some (.int .u64 x1) ∧ wx.cell? ⟨b, 2, none⟩ = some (.int .u64 x2) ∧ wx.cell? ⟨b, 3, none⟩ = some (.int .u64 x3) ∧ wx.cell? ⟨c, 0, none⟩ = some (.int .u64 y0) ∧ wx.cell? ⟨c, 1, none⟩ = some (.int .u64 y1) ∧ wx.cell? ⟨c, 2, none⟩ = some (.int .u64 y2) ∧ wx.cell? ⟨c, 3, none⟩ = some (.int .u64 y3)) ((refine keep2 ?_ R1 R2; simp (maxDischargeDepth := 30) only [extAlloc, extDrew, Ext.st, Ext.refl, *])) (first | (go_at_call 20; refine (refSMod_any _ _ _ _ (by assumption) _).mono ?_; rintro e wy ⟨m0, m1, m2, m3, rfl, HMod, HX⟩; have hL : Lim4 m0 m1 m2 m3 := HMod.out.1; have hEy : Ext W0 wy := (by refine Ext.trans ?_ HX; simp only [*]); have hz0 : W0.heap.size ≤ wy.heap.size := hEy.size; have hz1 : W0.heap.size ≤ wy.heap.size + 1 := Nat.le_succ_of_le hz0; have htr : ∀ b, b < _ → b < wy.heap.size := (fun b h => Nat.lt_of_lt_of_le h HX.size); have hsz := HX.size; (try simp at hsz); (try have hs1 := Nat.lt_of_succ_le hsz); (try have hs2 := Nat.lt_of_succ_lt (Nat.lt_of_succ_le hsz)); obtain ⟨hcc, hff⟩ := HX.cells; (try simp at hcc); (try simp at hff)) | (go_at_call 23; refine (refSub_raw _ _ _ _ _ _ _ _ (by assumption) (by assumption) _).mono ?_; rintro e wy ⟨s0, s1, s2, s3, k, rfl, HA, HX⟩; have hEy : Ext W0 wy := (by refine Ext.trans ?_ HX; simp only [*]); have hz0 : W0.heap.size ≤ wy.heap.size := hEy.size; have hz1 : W0.heap.size ≤ wy.heap.size + 1 := Nat.le_succ_of_le hz0; have htr : ∀ b, b < _ → b < wy.heap.size := (fun b h => Nat.lt_of_lt_of_le h HX.size); have hsz := HX.size; (try simp at hsz); (try have hs1 := Nat.lt_of_succ_le hsz); (try have hs2 := Nat.lt_of_succ_lt (Nat.lt_of_succ_le hsz)); obtain ⟨hcc, hff⟩ := HX.cells; (try simp at hcc); (try simp at hff)))
    all_goals
      go_wp2
      go_meet
      case rel => exact ⟨_, s0, s1, s2, s3, k, rfl, rfl, ⟨⟨by simp [*], (by first | (go_simp; done) | (go_simp; exact World.cell?_setCell_same' _ _ _ (by go_simp))), (by first | (go_simp; done) | (go_simp; exact World.cell?_setCell_same' _ _ _ (by go_simp))), (by first | (go_simp; done) | (go_simp; exact World.cell?_setCell_same' _ _ _ (by go_simp))), (by first | (go_simp; done) | (go_simp; exact World.cell?_setCell_same' _ _ _ (by go_simp)))⟩, (by go_simp), (by go_simp), (by go_simp), (by go_simp)⟩, ⟨_, _, _, _, _, _, _, _, by assumption, by assumption, HA.out⟩, by simp only [*], by simp only [*]⟩
  case rest =>
    obtain ⟨b5, s0, s1, s2, s3, k, rfl, rfl, R5, HP, HXc, hb5⟩ := hcut
    have RZ1 := RZ.ext HXc
    have HE1 : Hid (Ext w wc) := HE0.out.trans HXc
    have hs : Lim4 s0 s1 s2 s3 := by obtain ⟨_, _, _, _, _, _, _, _, _, _, h⟩ := HP.out; exact h.1
    have hbz : bz < b5 := Nat.lt_of_lt_of_le RZ.1.1 hb5
    have HB5 : SizeLe w b5 := by unfold SizeLe at *; omega
    clear HXc HE0 RZ R1 R2 hb5
    clear W0
    obtain ⟨W0, hW0⟩ : ∃ W0, W0 = wc := ⟨_, rfl⟩
    subst hW0
    have R5k := R5
    obtain ⟨⟨l5, e0, e1, e2, e3⟩, g0, g1, g2, g3⟩ := R5
    cases k
    case true =>
      have HM : Hid (∀ wx, Calls Tryd.prog 43 #[.agg #[.int .u64 s0, .int .u64 s1, .int .u64 s2, .int .u64 s3], .agg #[.int .u64 17562291160714782033, .int .u64 13611842547513532036, .int .u64 18446744073709551615, .int .u64 18446744069414584320]] wx fun e w' => ∃ (d0 d1 d2 d3 : Int) (c : Bool), e = .returned (.tuple #[.agg #[.int .u64 d0, .int .u64 d1, .int .u64 d2, .int .u64 d3], .bool c]) ∧ Hid (AddP s0 s1 s2 s3 17562291160714782033 13611842547513532036 18446744073709551615 18446744069414584320 d0 d1 d2 d3 c) ∧ Ext wx w') := fun wx => refAdd_raw s0 s1 s2 s3 _ _ _ _ hs lim_FQ wx
      have HG : Hid (∀ d0 d1 d2 d3 c, AddP s0 s1 s2 s3 17562291160714782033 13611842547513532036 18446744073709551615 18446744069414584320 d0 d1 d2 d3 c → QMod (val x0 x1 x2 x3 - val y0 y1 y2 y3) d0 d1 d2 d3) := fun d0 d1 d2 d3 c h => by
        obtain ⟨_, _, _, _, _, _, _, _, h1, h2, h3⟩ := HP.out
        exact qsub_less h1 h2 h3 h
      clear HP
      go_wp2_with fail
      go_cut [] (fun wx => ∃ (d0 d1 d2 d3 : Int) (wy : World), Hid (QMod (val x0 x1 x2 x3 - val y0 y1 y2 y3) d0 d1 d2 d3) ∧ Hid (Ext W0 wy) ∧ wx = (((wy.setCell ⟨b5, 0, none⟩ (.int .u64 d0)).setCell ⟨b5, 1, none⟩ (.int .u64 d1)).setCell ⟨b5, 2, none⟩ (.int .u64 d2)).setCell ⟨b5, 3, none⟩ (.int .u64 d3))
      case first =>
        go_region_with (first | (go_at_call 24; refine (refOrder_any _).mono ?_; rintro e wy ⟨rfl, HX⟩; have R5y : RowF wy b5 s0 s1 s2 s3 := (by first | exact RowF.ext R5k (Ext.trans (Ext.drew (Ext.refl _)) HX) | exact RowF.ext (by assumption) HX); have hEy : Ext W0 wy := (by first | exact Ext.trans (Ext.drew (Ext.refl _)) HX | exact Ext.trans (by assumption) HX); have R5z := R5y; obtain ⟨⟨y5, u0, u1, u2, u3⟩, z0, z1, z2, z3⟩ := R5z) | (go_at_call 43; refine (HM.out _).mono ?_; rintro e wy ⟨d0, d1, d2, d3, q, rfl, HD, HX⟩; have R5y : RowF wy b5 s0 s1 s2 s3 := (by first | exact RowF.ext R5k (Ext.trans (Ext.drew (Ext.refl _)) HX) | exact RowF.ext (by assumption) HX); have hEy : Ext W0 wy := (by first | exact Ext.trans (Ext.drew (Ext.refl _)) HX | exact Ext.trans (by assumption) HX); have R5z := R5y; obtain ⟨⟨y5, u0, u1, u2, u3⟩, z0, z1, z2, z3⟩ := R5z))
        all_goals
          go_wp2
          go_meet
          case rel => exact ⟨d0, d1, d2, d3, wy, HG.out _ _ _ _ _ HD.out, hEy, rfl⟩
      case rest =>
        obtain ⟨d0, d1, d2, d3, wy, HF, HEy, rfl⟩ := hcut
        clear l5 e0 e1 e2 e3 g0 g1 g2 g3
        obtain ⟨⟨l5, e0, e1, e2, e3⟩, g0, g1, g2, g3⟩ := R5k.ext HEy.out
        obtain ⟨⟨lz, c0, c1, c2, c3⟩, f0, f1, f2, f3⟩ := RZ1.ext HEy.out
        have HE2 : Hid (Ext w wy) := HE1.out.trans HEy.out
        clear HEy
        go_wp2
        refine bodyPost_ret (v := .agg #[.int .u64 d0, .int .u64 d1, .int .u64 d2, .int .u64 d3]) (by simp [results, Tryd.results35, go_sem, c0, c1, c2, c3]) rfl ⟨d0, d1, d2, d3, rfl, HF, ?_⟩
        exact (Ext.st HB (Ext.st HB (Ext.st HB (Ext.st HB (Ext.st HB5 (Ext.st HB5 (Ext.st HB5 (Ext.st HB5 HE2.out))))))))
    case false =>
      have HF : Hid (QMod (val x0 x1 x2 x3 - val y0 y1 y2 y3) s0 s1 s2 s3) := by
        obtain ⟨_, _, _, _, _, _, _, _, h1, h2, h3⟩ := HP.out
        exact qsub_plain h1 h2 h3
      obtain ⟨⟨lz, c0, c1, c2, c3⟩, f0, f1, f2, f3⟩ := RZ1
      clear HP
      go_wp2
      refine bodyPost_ret (v := .agg #[.int .u64 s0, .int .u64 s1, .int .u64 s2, .int .u64 s3]) (by simp [results, Tryd.results35, go_sem, c0, c1, c2, c3]) rfl ⟨s0, s1, s2, s3, rfl, HF, ?_⟩
      exact (Ext.st HB (Ext.st HB (Ext.st HB (Ext.st HB HE1.out))))
end Go.Proofs.YtnaiccfdbapdpaaDoor
