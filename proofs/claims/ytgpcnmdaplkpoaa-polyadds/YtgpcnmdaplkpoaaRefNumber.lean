/-
  The document's number of bytes (sandglassref10.number), called; nothing old is turned.
-/
import Derived.Test.YtgpcnmdaplkpoaaNumMath
import Derived.Test.YtgpcnmdaplkpoaaRowf
import Derived.Test.YtgpcnmdaplkpoaaPad
import Derived.Deep.QuietTactic
import Derived.BigQuiet
namespace Go.Proofs.Ytgpcnmdaplkpoaa
open Go.RowKit
theorem sb_at (s : ByteArray) {i : Nat} (h : i < s.size) : (s[i]'h).toNat = sb s i := by
  unfold sb
  rw [List.getD_eq_getElem?_getD]
  have h2 : i < s.data.toList.length := h
  rw [List.getElem?_eq_getElem h2]
  rfl
attribute [local go_sem] setCell_drewN alloc_drewN
set_option maxHeartbeats 1000000 in
theorem refnumber_any (s : ByteArray) (hs : s.size ≤ 32) (w : World) :
    Calls Try.prog 19 #[.string s] w fun e w' => e = .returned (.agg #[.int .u64 (nwI (sb s) s.size 0), .int .u64 (nwI (sb s) s.size 1), .int .u64 (nwI (sb s) s.size 2), .int .u64 (nwI (sb s) s.size 3)]) ∧ Ext w w' := by
  obtain ⟨L, hL⟩ : ∃ L, s.size = L := ⟨_, rfl⟩
  rw [hL] at hs ⊢
  have HL : Hid (s.size = L) := hL
  go_enter Try.func19, Try.ntmps19
  go_wp2
  go_loopw [4] (fun u4 wr => ∃ i : Nat, i ≤ L ∧ u4 = .int .i64 i ∧ ∃ n, wr = ((w.alloc (.cells #[.int .u64 0, .int .u64 0, .int .u64 0, .int .u64 0] 48)).alloc (.cells (fa (nwI (sb s) i)) 48)).drewN n) (fun u4 _ => L - (intOf u4).toNat)
  case atStart => exact ⟨0, Nat.zero_le _, rfl, 0, rfl⟩
  case round =>
    obtain ⟨i, hiL, rfl, n, rfl⟩ := hrel
    by_cases hlt : i < L
    · have hl1 : (i : Int) < (L : Int) := by omega
      have hi0 : (0 : Int) ≤ (i : Int) := by omega
      have his : i < s.size := by omega
      have eb := sb_at s his
      obtain ⟨q, k, z, x, b, eq, hq, hk, hb, hx, d1, r, d2, d3, d4, d5, d6, d7⟩ := num_step (sb_lt s) i (by omega)
      have gf := fa_get (nwI (sb s) i) q hq
      rw [hx] at gf
      have gf2 := (Array.getElem?_eq_some_iff.1 gf).2
      have hfs : (fa (nwI (sb s) i)).size = 4 := rfl
      have HS : Hid (∀ v, (fa (nwI (sb s) i)).setIfInBounds q (.int .u64 v) = fa (fun j => if j = q then v else nwI (sb s) i j)) := fun v => fa_set _ q hq v
      have HN : Hid ((fun j => if j = q then ((nw (sb s) i (i / 8) + sb s i * 2 ^ (8 * (i % 8)) : Nat) : Int) else nwI (sb s) i j) = nwI (sb s) (i + 1)) := by
        show _ = _
        rw [eq]
        exact nwI_step _ _
      rw [← hb] at eb
      have hq4 : (q : Int) < 4 := by omega
      have hqw : IntKind.i64.wrap (q : Int) = (q : Int) := by rw [IntKind.wrap_i64]; omega
      have hrw : IntKind.i64.wrap (r : Int) = (r : Int) := by rw [← d2, Int.tmod_eq_emod_of_nonneg (by omega), IntKind.wrap_i64]; omega
      have hq0 : (0 : Int) ≤ (q : Int) := by omega
      have hk0 : (0 : Int) ≤ (k : Int) := by omega
      generalize ((nw (sb s) i (i / 8) + sb s i * 2 ^ (8 * (i % 8)) : Nat) : Int) = v at *
      clear eq hb hx
      go_wp2
      go_region
      go_wp2
      exact ⟨⟨i + 1, hlt, by go_num, n + 1, by rw [HS.out v, HN.out]⟩, by simp [intOf]; omega⟩
    · obtain rfl : i = L := by omega
      have hnl : ¬ (i : Int) < (i : Int) := by omega
      obtain ⟨s0, H0⟩ : ∃ x, Hid (nwI (sb s) i 0 = x) := ⟨_, rfl⟩
      obtain ⟨s1, H1⟩ : ∃ x, Hid (nwI (sb s) i 1 = x) := ⟨_, rfl⟩
      obtain ⟨s2, H2⟩ : ∃ x, Hid (nwI (sb s) i 2 = x) := ⟨_, rfl⟩
      obtain ⟨s3, H3⟩ : ∃ x, Hid (nwI (sb s) i 3 = x) := ⟨_, rfl⟩
      have hf : fa (nwI (sb s) i) = #[.int .u64 s0, .int .u64 s1, .int .u64 s2, .int .u64 s3] := by
        unfold fa; rw [H0.out, H1.out, H2.out, H3.out]
      rw [hf]
      clear hf
      go_wp2
      refine bodyPost_ret (v := .agg #[.int .u64 s0, .int .u64 s1, .int .u64 s2, .int .u64 s3]) (by simp [results, Try.results19, go_sem]) rfl ⟨by rw [H0.out, H1.out, H2.out, H3.out], ?_⟩
      exact (((Ext.refl _).alloc _).alloc _).drewN _
end Go.Proofs.Ytgpcnmdaplkpoaa
