/-
  sandglassref08.With, Mac, Extract, called; nothing old is turned.
-/
import Derived.Test.YtpfeakdpckmcgaaDoorRefPadded
import Derived.Test.YtpfeakdpckmcgaaDoorRefKs
import Derived.Deep.RegionHeld3
namespace Go.Proofs.YtpfeakdpckmcgaaDoor
set_option maxRecDepth 10000
open Go.RowKit
theorem padS_size (key : ByteArray) (x : Nat) : (padS key x).size = 64 := mkS_size _ _
theorem macS_size (key s : ByteArray) : (macS key s).size = 32 := shaS_size _
/-- The struct that came in lies in block b. -/
def T2 (W : World) (b : Nat) (vh vk : Value) : Prop := W.cell? ⟨b, 0, none⟩ = some vh ∧ W.cell? ⟨b, 1, none⟩ = some vk
theorem keepT {W0 wx : World} {b : Nat} {vh vk : Value} (h : Ext W0 wx) (r : T2 W0 b vh vk) : Ext W0 wx ∧ wx.cell? ⟨b, 0, none⟩ = some vh ∧ wx.cell? ⟨b, 1, none⟩ = some vk := ⟨h, later h r.1, later h r.2⟩
set_option maxHeartbeats 400000 in
theorem hwith_any (key s : ByteArray) (hk : key.size < 4294967296) (hs : s.size < 4294967000) (vh vk : Value) (w : World) (sh : SlIs w vh (lst .u32 (fun i => HH.getD i 0) 8)) (sk : SlIs w vk (lst .u32 (fun i => KK.getD i 0) 64)) :
    Calls Tryd.prog 34 #[.agg #[vh, vk], .string key, .string s] w fun e w' => e = .returned (.string (macS key s)) ∧ Ext w w' := by
  have HEW : Hid (Ext w (w.alloc (.cells #[vh, vk] 71))) := (Ext.refl _).alloc _
  have R0 : T2 (w.alloc (.cells #[vh, vk] 71)) w.heap.size vh vk := ⟨by rw [World.cell?_alloc_at _ _ _ _ rfl]; rfl, by rw [World.cell?_alloc_at _ _ _ _ rfl]; rfl⟩
  obtain ⟨P92, HP92⟩ : ∃ P92, Hid (padS key 92 = P92) := ⟨_, rfl⟩
  obtain ⟨P54, HP54⟩ : ∃ P54, Hid (padS key 54 = P54) := ⟨_, rfl⟩
  obtain ⟨I, HI⟩ : ∃ I, Hid (shaS (P54 ++ s) = I) := ⟨_, rfl⟩
  obtain ⟨O, HO⟩ : ∃ O, Hid (shaS (P92 ++ I) = O) := ⟨_, rfl⟩
  have HM : Hid (macS key s = O) := by show macS key s = O; unfold macS; rw [HP54.out, HI.out, HP92.out, HO.out]
  have hs1 : (P54 ++ s).size < 4294967296 := by rw [ByteArray.size_append, ← HP54.out, padS_size]; omega
  have hs2 : (P92 ++ I).size < 4294967296 := by rw [ByteArray.size_append, ← HP92.out, ← HI.out, padS_size, shaS_size]; decide
  have C1 : Hid (∀ W, Ext (w.alloc (.cells #[vh, vk] 71)) W → Calls Tryd.prog 40 #[.agg #[vh, vk], .string key, .int .u8 92] W fun e w' => e = .returned (.string P92) ∧ Ext W w') := fun W h => by
    have := padded_any key hk 92 (by decide) vh vk W (sh.ext (HEW.out.trans h)) (sk.ext (HEW.out.trans h))
    rw [HP92.out] at this; exact this
  have C2 : Hid (∀ W, Ext (w.alloc (.cells #[vh, vk] 71)) W → Calls Tryd.prog 40 #[.agg #[vh, vk], .string key, .int .u8 54] W fun e w' => e = .returned (.string P54) ∧ Ext W w') := fun W h => by
    have := padded_any key hk 54 (by decide) vh vk W (sh.ext (HEW.out.trans h)) (sk.ext (HEW.out.trans h))
    rw [HP54.out] at this; exact this
  have C3 : Hid (∀ W, Ext (w.alloc (.cells #[vh, vk] 71)) W → Calls Tryd.prog 39 #[.agg #[vh, vk], .string (P54 ++ s)] W fun e w' => e = .returned (.string I) ∧ Ext W w') := fun W h => by
    have := with_any (P54 ++ s) hs1 vh vk W (sh.ext (HEW.out.trans h)) (sk.ext (HEW.out.trans h))
    rw [HI.out] at this; exact this
  have C4 : Hid (∀ W, Ext (w.alloc (.cells #[vh, vk] 71)) W → Calls Tryd.prog 39 #[.agg #[vh, vk], .string (P92 ++ I)] W fun e w' => e = .returned (.string O) ∧ Ext W w') := fun W h => by
    have := with_any (P92 ++ I) hs2 vh vk W (sh.ext (HEW.out.trans h)) (sk.ext (HEW.out.trans h))
    rw [HO.out] at this; exact this
  have hc1 : ¬ 9223372036854775807 < P54.size + s.size := by rw [← HP54.out, padS_size]; omega
  have hc2 : ¬ 9223372036854775807 < P92.size + I.size := by rw [← HP92.out, ← HI.out, padS_size, shaS_size]; decide
  clear hs1 hs2 HP92 HP54 HI HO sh sk
  go_enter Tryd.func34, Tryd.ntmps34
  go_wp2_with fail
  generalize hW0 : w.alloc (.cells #[vh, vk] 71) = W0 at *
  generalize w.heap.size = b at *
  clear hW0
  go_region_held3 (fun wx : World => Ext W0 wx ∧ wx.cell? ⟨b, 0, none⟩ = some vh ∧ wx.cell? ⟨b, 1, none⟩ = some vk) (first | exact keepT (Ext.refl _) R0 | exact keepT (Ext.drew (Ext.refl _)) R0 | exact keepT (by assumption) R0) (first | (go_at_call 40; with_reducible refine (C1.out _ (by simp only [*])).mono ?_; rintro e wy ⟨rfl, HX⟩; have hEy : Ext W0 wy := (by refine Ext.trans ?_ HX; simp only [*])) | (go_at_call 40; with_reducible refine (C2.out _ (by simp only [*])).mono ?_; rintro e wy ⟨rfl, HX⟩; have hEy : Ext W0 wy := (by refine Ext.trans ?_ HX; simp only [*])) | (go_at_call 39; with_reducible refine (C3.out _ (by simp only [*])).mono ?_; rintro e wy ⟨rfl, HX⟩; have hEy : Ext W0 wy := (by refine Ext.trans ?_ HX; simp only [*])) | (go_at_call 39; with_reducible refine (C4.out _ (by simp only [*])).mono ?_; rintro e wy ⟨rfl, HX⟩; have hEy : Ext W0 wy := (by refine Ext.trans ?_ HX; simp only [*])))
  have HXe : Hid (Ext w wy) := HEW.out.trans hEy
  go_wp2
  go_ret
  exact ⟨by rw [HM.out]; rfl, HXe.out⟩
set_option maxHeartbeats 400000 in
theorem rmac_any (key s : ByteArray) (hk : key.size < 4294967296) (hs : s.size < 4294967000) (w : World) :
    Calls Tryd.prog 26 #[.string key, .string s] w fun e w' => e = .returned (.string (macS key s)) ∧ Ext w w' := by
  go_enter Tryd.func26, Tryd.ntmps26
  go_wp2_with fail
  refine (refTable_any _).mono ?_
  rintro e w1 ⟨vh, vk, rfl, Hh, Hk, HX⟩
  have HX1 : Hid (Ext w w1) := HX
  have Hh1 : Hid (SlIs w1 vh (lst .u32 (fun i => HH.getD i 0) 8)) := Hh
  have Hk1 : Hid (SlIs w1 vk (lst .u32 (fun i => KK.getD i 0) 64)) := Hk
  clear HX Hh Hk
  go_wp2_with fail
  refine (hwith_any key s hk hs vh vk _ Hh1.out Hk1.out).mono ?_
  rintro e w2 ⟨rfl, HX2⟩
  have HX3 : Hid (Ext w w2) := HX1.out.trans HX2
  clear HX2
  go_wp2
  go_ret
  exact ⟨rfl, HX3.out⟩
end Go.Proofs.YtpfeakdpckmcgaaDoor
