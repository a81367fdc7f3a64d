/-
  sandglassref08.Expand, called; nothing old is turned.
-/
import Derived.Test.YtfhglfldmboanaaDoorRefHWith
import Derived.Test.YtfhglfldmboanaaDoorExMath
namespace Go.Proofs.YtfhglfldmboanaaDoor
open Go.RowKit
theorem one_string (W : World) (q : Nat) : Sem.run Tryd.prog (convert 33 9 (.slice (some ⟨W.heap.size, 0, none⟩) 1 1)) (W.alloc (.cells #[.int .u8 (q : Int)] 5)) = .ok (.string (oneB q)) (W.alloc (.cells #[.int .u8 (q : Int)] 5)) := by
  refine run_lst_string Tryd.prog 5 33 9 Tryd.underlying33 Tryd.underlying5 Tryd.underlying9 _ (fun _ => q) 1 _ ?_ (by decide)
  refine .inr ⟨W.heap.size, 0, 1, by rw [lst_len], by simp, by rw [lst_len]; decide, fun j x hj => ?_⟩
  obtain ⟨hj1, rfl⟩ := lst_of hj
  obtain rfl : j = 0 := by omega
  simp
set_option maxHeartbeats 400000 in
theorem rexpand_bad (key info : ByteArray) (n : Int) (hn : n < 0 ∨ 8160 < n) (w : World) :
    Calls Tryd.prog 13 #[.string key, .string info, .int .i64 n] w fun e w' => e = .returned (.tuple #[.string ⟨#[]⟩, .int .i64 1]) ∧ Ext w w' := by
  rcases hn with h | h
  · go_enter Tryd.func13, Tryd.ntmps13
    go_wp2
    refine bodyPost_ret (v := .tuple #[.string ⟨#[]⟩, .int .i64 1]) (by simp [results, Tryd.results13, go_sem]) rfl ⟨rfl, Ext.refl _⟩
  · have h0 : ¬ n < 0 := by omega
    go_enter Tryd.func13, Tryd.ntmps13
    go_wp2
    refine bodyPost_ret (v := .tuple #[.string ⟨#[]⟩, .int .i64 1]) (by simp [results, Tryd.results13, go_sem]) rfl ⟨rfl, Ext.refl _⟩
set_option maxHeartbeats 400000 in
theorem rexpand_any (key info : ByteArray) (hk : key.size ≤ 100000) (hi : info.size ≤ 100000) (n : Nat) (hn : n ≤ 8160) (w : World) :
    Calls Tryd.prog 13 #[.string key, .string info, .int .i64 (n : Int)] w fun e w' => e = .returned (.tuple #[.string (expS key info n), .int .i64 0]) ∧ Ext w w' := by
  have h0 : ¬ (n : Int) < 0 := by omega
  have h1 : ¬ (8160 : Int) < (n : Int) := by omega
  go_enter Tryd.func13, Tryd.ntmps13
  go_wp2_with fail
  refine (refTable_any _).mono ?_
  rintro e w1 ⟨vh, vk, rfl, Hh, Hk, HX⟩
  obtain ⟨bh, oh, ch, rfl, _⟩ := Hh.form (by decide)
  obtain ⟨bk, ok, ck, rfl, _⟩ := Hk.form (by decide)
  have HX1 : Hid (Ext w w1) := HX
  have Hh1 : Hid (SlIs w1 (.slice (some ⟨bh, oh, none⟩) 8 ch) (lst .u32 (fun i => HH.getD i 0) 8)) := Hh
  have Hk1 : Hid (SlIs w1 (.slice (some ⟨bk, ok, none⟩) 64 ck) (lst .u32 (fun i => KK.getD i 0) 64)) := Hk
  clear HX Hh Hk
  have HWm : Hid (Ext w1 (w1.alloc (.cells #[.slice (some ⟨bh, oh, none⟩) 8 ch, .slice (some ⟨bk, ok, none⟩) 64 ck] 42))) := (Ext.refl _).alloc _
  have R0 : T2 (w1.alloc (.cells #[.slice (some ⟨bh, oh, none⟩) 8 ch, .slice (some ⟨bk, ok, none⟩) 64 ck] 42)) w1.heap.size (.slice (some ⟨bh, oh, none⟩) 8 ch) (.slice (some ⟨bk, ok, none⟩) 64 ck) := ⟨by rw [World.cell?_alloc_at _ _ _ _ rfl]; rfl, by rw [World.cell?_alloc_at _ _ _ _ rfl]; rfl⟩
  go_wp2
  generalize w1.alloc (.cells #[.slice (some ⟨bh, oh, none⟩) 8 ch, .slice (some ⟨bk, ok, none⟩) 64 ck] 42) = Wm at *
  have HE1 : Hid (Ext w Wm) := HX1.out.trans HWm.out
  have Hh2 : Hid (SlIs Wm (.slice (some ⟨bh, oh, none⟩) 8 ch) (lst .u32 (fun i => HH.getD i 0) 8)) := Hh1.out.ext HWm.out
  have Hk2 : Hid (SlIs Wm (.slice (some ⟨bk, ok, none⟩) 64 ck) (lst .u32 (fun i => KK.getD i 0) 64)) := Hk1.out.ext HWm.out
  clear HX1 Hh1 Hk1 HWm
  generalize w1.heap.size = b at *
  go_loopw [9, 10, 11] (fun u9 u10 u11 wr => ∃ (k : Nat), 32 * k ≤ n + 31 ∧ u9 = .string (expA key info k) ∧ u10 = .string (expT key info k) ∧ u11 = .int .i64 ((k + 1 : Nat) : Int) ∧ Hid (Ext Wm wr)) (fun _ _ u11 _ => 1000 - (intOf u11).toNat)
  case atStart => exact ⟨0, by omega, rfl, rfl, rfl, Ext.refl _⟩
  case round =>
    obtain ⟨k, hkn, rfl, rfl, rfl, HE⟩ := hrel
    have hsA := expA_size key info k
    have hsT := expT_size key info k
    by_cases hlt : 32 * k < n
    · have hl1 : ((32 * k : Nat) : Int) < (n : Int) := by omega
      have hk9 : k ≤ 255 := by omega
      have HSz : Hid ((oneB (k + 1)).size = 1) := mkS_size _ _
      have HNx : Hid (expT key info (k + 1) = macS key (expT key info k ++ info ++ oneB (k + 1))) := rfl
      have HNa : Hid (expA key info (k + 1) = expA key info k ++ expT key info (k + 1)) := rfl
      have HsN : Hid ((expT key info (k + 1)).size ≤ 32) := expT_size _ _ _
      obtain ⟨q, Hq⟩ : ∃ q, Hid (k + 1 = q) := ⟨_, rfl⟩
      have hq : q ≤ 255 := by have := Hq.out; omega
      rw [Hq.out] at HSz HNx HNa HsN ⊢
      have hcv : IntKind.u8.wrap (q : Int) = (q : Int) := by rw [IntKind.wrap_u8']; omega
      obtain ⟨TT, HTT⟩ : ∃ TT, Hid (expT key info k = TT) := ⟨_, rfl⟩
      obtain ⟨AA, HAA⟩ : ∃ AA, Hid (expA key info k = AA) := ⟨_, rfl⟩
      obtain ⟨TN, HTN⟩ : ∃ TN, Hid (expT key info q = TN) := ⟨_, rfl⟩
      have hcs := one_string wr q
      obtain ⟨OB, HOB⟩ : ∃ OB, Hid (oneB q = OB) := ⟨_, rfl⟩
      rw [HTT.out] at hsT
      rw [HAA.out] at hsA
      rw [HTT.out, HTN.out, HOB.out] at HNx
      rw [HTN.out, HAA.out] at HNa
      rw [HTN.out] at HsN
      rw [HOB.out] at HSz hcs
      rw [HTT.out, HAA.out]
      have hc1 : ¬ 9223372036854775807 < TT.size + info.size := by omega
      have hc2 : ¬ 9223372036854775807 < TT.size + info.size + OB.size := by have := HSz.out; omega
      have hc3 : ¬ 9223372036854775807 < AA.size + TN.size := by have := HsN.out; omega
      have hc4 : ¬ 9223372036854775807 < 32 * k + TN.size := by have := HsN.out; omega
      have hsL : (TT ++ info ++ OB).size < 4294967000 := by rw [ByteArray.size_append, ByteArray.size_append, HSz.out]; omega
      obtain ⟨r1, r2⟩ : T2 wr b _ _ := ⟨later HE.out R0.1, later HE.out R0.2⟩
      rw [← hsA] at hl1
      go_wp2_with fail
      have HE4 : Hid (Ext Wm (wr.alloc (.cells #[.int .u8 (q : Int)] 5))) := HE.out.alloc _
      refine (hwith_any key (TT ++ info ++ OB) (by omega) hsL _ _ _ (Hh2.out.ext HE4.out) (Hk2.out.ext HE4.out)).mono ?_
      rintro e w5 ⟨rfl, HX5⟩
      rw [← HNx.out]
      have HE5 : Hid (Ext Wm w5) := HE4.out.trans HX5
      clear HX5 HE4 HE hcs
      go_wp2
      go_roundw
      case rel => exact ⟨k + 1, by omega, by rw [Hq.out, HNa.out], by rw [Hq.out, HTN.out], by rw [← Hq.out]; go_num, HE5⟩
      case measure => have := Hq.out; simp [intOf]; omega
    · have hl1 : ¬ ((32 * k : Nat) : Int) < (n : Int) := by omega
      have hke : k = (n + 31) / 32 := by omega
      have HES : Hid (expS key info n = (expA key info k).extract 0 n) := by show _ = _; unfold expS; rw [← hke]
      obtain ⟨AA, HAA⟩ : ∃ AA, Hid (expA key info k = AA) := ⟨_, rfl⟩
      rw [HAA.out] at hsA HES
      rw [HAA.out]
      have HXe : Hid (Ext w wr) := HE1.out.trans HE.out
      rw [← hsA] at hl1
      go_wp2
      refine bodyPost_ret (v := .tuple #[.string (AA.extract 0 n), .int .i64 0]) (by simp [results, Tryd.results13, go_sem]) rfl ⟨by rw [HES.out], HXe.out⟩
end Go.Proofs.YtfhglfldmboanaaDoor
