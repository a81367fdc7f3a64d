/-
  The document's halves of a number's words (sandglassref01.Halves), called; nothing old is turned.
-/
import Derived.Test.YtnaiccfdbapdpaaDoorLows
import Derived.Test.YtnaiccfdbapdpaaDoorMaths
namespace Go.Proofs.YtnaiccfdbapdpaaDoor
open Go.RowKit
/-- The halves behind k rounds. -/
def hv (A : Nat → Int) : Nat → Nat → Int
  | 0, _ => 0
  | k + 1, i => if i = 2 * k + 1 then A k / 4294967296 else if i = 2 * k then bits BinOp.and IntKind.u64 (A k) 4294967295 else hv A k i
set_option maxHeartbeats 1000000 in
theorem halves_raw (a0 a1 a2 a3 : Int) (w : World) :
    Calls Tryd.prog 65 #[.agg #[.int .u64 a0, .int .u64 a1, .int .u64 a2, .int .u64 a3]] w fun e w' =>
      ∃ P : Nat → Int, e = .returned (.agg (f8 P)) ∧ Hid (P = hv (wd a0 a1 a2 a3) 4) ∧ Ext w w' := by
  obtain ⟨Af, HAf⟩ : ∃ f, Hid (wd a0 a1 a2 a3 = f) := ⟨_, rfl⟩
  have hga : Hid (∀ i, i < 4 → [Value.int .u64 a0, .int .u64 a1, .int .u64 a2, .int .u64 a3][i]? = some (.int .u64 (Af i))) := fun i hi => HAf.out ▸ wd_get a0 a1 a2 a3 i hi
  go_enter Tryd.func65, Tryd.ntmps65
  go_wp2
  go_loopw [4] (fun i wr => ∃ (k : Nat), k ≤ 4 ∧ i = .int .i64 k ∧ ∃ P, Hid (P = hv Af k) ∧ wr = (((w.alloc (.cells #[.int .u64 a0, .int .u64 a1, .int .u64 a2, .int .u64 a3] 26)).alloc (.cells #[.int .u64 0, .int .u64 0, .int .u64 0, .int .u64 0, .int .u64 0, .int .u64 0, .int .u64 0, .int .u64 0] 72)).alloc (.cells (f8 P) 72))) (fun i _ => 4 - (intOf i).toNat)
  case atStart => exact ⟨0, Nat.zero_le _, rfl, _, rfl, rfl⟩
  case round =>
    obtain ⟨k, hk, rfl, P, HP, rfl⟩ := hrel
    by_cases hlt : k < 4
    · have hk0 : (0 : Int) ≤ (k : Int) := by omega
      have hk1 : (k : Int) < 4 := by omega
      have ga := hga.out k hlt
      have ga2 := get_some ga
      have g0 := f8_get P (2 * k) (by omega)
      have g1 := f8_get P (2 * k + 1) (by omega)
      have HS : Hid (∀ u v, ((f8 P).setIfInBounds (2 * k) (.int .u64 u)).setIfInBounds (2 * k + 1) (.int .u64 v) = f8 (fun i => if i = 2 * k + 1 then v else if i = 2 * k then u else P i)) := fun u v => by
        rw [f8_set P (2 * k) (by omega), f8_set _ (2 * k + 1) (by omega)]
      have HN : Hid (hv Af (k + 1) = fun i => if i = 2 * k + 1 then Af k / 4294967296 else if i = 2 * k then bits BinOp.and IntKind.u64 (Af k) 4294967295 else P i) := by
        rw [HP.out]; rfl
      generalize Af k = ak at *
      go_wp2
      exact ⟨⟨k + 1, hlt, by go_num, _, HN.out.symm, by rw [HS.out]⟩, by simp [intOf]; omega⟩
    · obtain rfl : k = 4 := by omega
      obtain ⟨p0, H0⟩ : ∃ p, Hid (P 0 = p) := ⟨_, rfl⟩
      obtain ⟨p1, H1⟩ : ∃ p, Hid (P 1 = p) := ⟨_, rfl⟩
      obtain ⟨p2, H2⟩ : ∃ p, Hid (P 2 = p) := ⟨_, rfl⟩
      obtain ⟨p3, H3⟩ : ∃ p, Hid (P 3 = p) := ⟨_, rfl⟩
      obtain ⟨p4, H4⟩ : ∃ p, Hid (P 4 = p) := ⟨_, rfl⟩
      obtain ⟨p5, H5⟩ : ∃ p, Hid (P 5 = p) := ⟨_, rfl⟩
      obtain ⟨p6, H6⟩ : ∃ p, Hid (P 6 = p) := ⟨_, rfl⟩
      obtain ⟨p7, H7⟩ : ∃ p, Hid (P 7 = p) := ⟨_, rfl⟩
      have hf : f8 P = #[.int .u64 p0, .int .u64 p1, .int .u64 p2, .int .u64 p3, .int .u64 p4, .int .u64 p5, .int .u64 p6, .int .u64 p7] := by
        unfold f8; rw [H0.out, H1.out, H2.out, H3.out, H4.out, H5.out, H6.out, H7.out]
      have HF : Hid (f8 P = #[.int .u64 p0, .int .u64 p1, .int .u64 p2, .int .u64 p3, .int .u64 p4, .int .u64 p5, .int .u64 p6, .int .u64 p7]) := hf
      rw [hf]
      clear hf
      go_wp2
      refine bodyPost_ret (v := .agg #[.int .u64 p0, .int .u64 p1, .int .u64 p2, .int .u64 p3, .int .u64 p4, .int .u64 p5, .int .u64 p6, .int .u64 p7]) (by simp [results, Tryd.results65, go_sem]) rfl ⟨P, by rw [HF.out], by rw [HAf.out]; exact HP.out, ?_⟩
      exact (((Ext.refl _).alloc _).alloc _).alloc _
/-- The lower and the upper half of a word. -/
def lo32 (x : Int) : Int := x % 4294967296
def hi32 (x : Int) : Int := x / 4294967296
theorem halves_any (a0 a1 a2 a3 : Int) (ha : Lim4 a0 a1 a2 a3) (w : World) :
    Calls Tryd.prog 65 #[.agg #[.int .u64 a0, .int .u64 a1, .int .u64 a2, .int .u64 a3]] w fun e w' =>
      e = .returned (.agg #[.int .u64 (lo32 a0), .int .u64 (hi32 a0), .int .u64 (lo32 a1), .int .u64 (hi32 a1), .int .u64 (lo32 a2), .int .u64 (hi32 a2), .int .u64 (lo32 a3), .int .u64 (hi32 a3)]) ∧ Ext w w' := by
  refine (halves_raw a0 a1 a2 a3 w).mono fun e w' ⟨P, he, hP, hx⟩ => ⟨?_, hx⟩
  rw [he]
  have e0 : P 0 = lo32 a0 := by rw [hP.out]; exact and32 a0 ha.1
  have e1 : P 1 = hi32 a0 := by rw [hP.out]; rfl
  have e2 : P 2 = lo32 a1 := by rw [hP.out]; exact and32 a1 ha.2.1
  have e3 : P 3 = hi32 a1 := by rw [hP.out]; rfl
  have e4 : P 4 = lo32 a2 := by rw [hP.out]; exact and32 a2 ha.2.2.1
  have e5 : P 5 = hi32 a2 := by rw [hP.out]; rfl
  have e6 : P 6 = lo32 a3 := by rw [hP.out]; exact and32 a3 ha.2.2.2
  have e7 : P 7 = hi32 a3 := by rw [hP.out]; rfl
  unfold f8
  rw [e0, e1, e2, e3, e4, e5, e6, e7]
end Go.Proofs.YtnaiccfdbapdpaaDoor
