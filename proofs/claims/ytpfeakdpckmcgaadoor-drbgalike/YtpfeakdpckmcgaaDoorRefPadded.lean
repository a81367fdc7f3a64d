/-
  sandglassref08.padded, called; nothing old is turned.
-/
import Derived.Test.YtpfeakdpckmcgaaDoorPads
import Derived.Test.YtpfeakdpckmcgaaDoorRefWith
namespace Go.Proofs.YtpfeakdpckmcgaaDoor
set_option maxRecDepth 10000
open Go.RowKit
theorem OwnF.tab {w : World} {base n g cap : Nat} {kd : IntKind} {T : Nat → Nat} (h : OwnF w base kd (.slice (some ⟨g, 0, none⟩) n cap) n T) : TabN w g kd n T := by
  obtain ⟨g', cap', e, hb, hg, hn, hm, hc, hf⟩ := h
  injection e with e0 _ e2
  injection e0 with e0
  injection e0 with e0 _ _
  subst e0 e2
  exact ⟨hg, fun k hk => ⟨hc k hk, (hf k (by omega)).2⟩⟩
set_option maxHeartbeats 2000000 in
theorem padded_any (key : ByteArray) (hk : key.size < 4294967296) (x : Nat) (hx : x < 256) (vh vk : Value) (w : World) (sh : SlIs w vh (lst .u32 (fun i => HH.getD i 0) 8)) (sk : SlIs w vk (lst .u32 (fun i => KK.getD i 0) 64)) :
    Calls Tryd.prog 40 #[.agg #[vh, vk], .string key, .int .u8 (x : Int)] w fun e w' => e = .returned (.string (padS key x)) ∧ Ext w w' := by
  obtain ⟨i0, hi, hz0, hz1, hz2⟩ := info_parts Tryd.info5
  have HEW : Hid (Ext w (w.alloc (.cells #[vh, vk] 71))) := (Ext.refl _).alloc _
  by_cases h64 : 64 < key.size
  · have h65 : (64 : Int) < (key.size : Int) := by omega
    have HKK : Hid (keyS key = shaS key) := if_pos h64
    have HKs0 : Hid ((shaS key).size ≤ 64) := by show _ ≤ _; rw [shaS_size]; decide
    obtain ⟨K, HK⟩ : ∃ K, Hid (shaS key = K) := ⟨_, rfl⟩
    rw [HK.out] at HKK HKs0
    have HKs := HKs0
    go_enter Tryd.func40, Tryd.ntmps40
    go_wp2_with fail
    refine (with_any key hk vh vk _ (sh.ext HEW.out) (sk.ext HEW.out)).mono ?_
    rintro e w1 ⟨rfl, HXw⟩
    rw [HK.out]
    have HEW1 : Hid (Ext w w1) := HEW.out.trans HXw
    clear HEW HXw HKs0
    have HEW := HEW1
    clear HEW1
    have hcv := Lib.run_convert_string_bytes w1 9 62 5 K Tryd.underlying9 Tryd.underlying62 Tryd.underlying5
    have HX0 : Hid (Ext w1 (Lib.bytesWorld w1 5 K)) := bytes_ext _ _ _
    have HO0 : Hid (OwnF (Lib.bytesWorld w1 5 K) w1.heap.size .u8 (.slice (some ⟨w1.heap.size, 0, none⟩) K.size (grownCap w1 K.size 0 5)) K.size (sb K)) := bytes_own _ _ _ (by have := HKs.out; unfold maxLen; omega)
    obtain ⟨X, hX⟩ : ∃ X, Lib.bytesWorld w1 5 K = X := ⟨_, rfl⟩
    obtain ⟨c0, hc0⟩ : ∃ c0, grownCap w1 K.size 0 5 = c0 := ⟨_, rfl⟩
    rw [hX] at hcv HX0 HO0
    rw [hc0] at hcv HO0
    have HEX : Hid (Ext w X) := HEW.out.trans HX0.out
    have hB : w.heap.size ≤ w1.heap.size := HEW.out.size
    obtain ⟨n, hn⟩ : ∃ n, w1.heap.size = n := ⟨_, rfl⟩
    rw [hn] at hcv HO0 hB
    have HB : Hid (w.heap.size ≤ n ∧ n ≤ X.heap.size) := ⟨hB, by rw [← hn]; exact HX0.out.size⟩
    obtain ⟨L, hL⟩ : ∃ L, K.size = L := ⟨_, rfl⟩
    have hLs : L ≤ 64 := by rw [← hL]; exact HKs.out
    rw [hL] at hcv HO0
    obtain ⟨m, hm⟩ : ∃ m, 64 - L = m := ⟨_, rfl⟩
    have HM : Hid (L + m = 64) := (by omega : L + m = 64)
    have hsub : IntKind.i64.wrap (64 - (L : Int)) = (m : Int) := by rw [IntKind.wrap_i64]; omega
    have hm64 : m ≤ 64 := by omega
    have HPst : Hid (∀ j, L ≤ j → sb K j = 0) := fun j hj => sb_past (by rw [hL]; exact hj)
    clear hX hc0 hn hB hm HX0
    go_wp2_with (first | (at_builtin; refine wpList_append_zeros _ rfl _ _ 62 3 rfl n 5 i0 1 .i64 Tryd.underlying62 Tryd.underlying3 hi .u8 hz0 hz1 hz2 _ L (sb K) rfl HO0.out .i64 m rfl (fun j h1 _ => HPst.out j h1) (by have := HM.out; unfold maxLen; omega) (by have := HM.out; omega) HB.out.2 ?_))
    intro v2 w2 HO2 hgrow2
    rw [HM.out] at HO2
    have HX2 : Hid (Ext w w2) := ext_grown HEX.out hgrow2 (fun k hk => by have := HO0.out.at k hk; have := HB.out.1; omega)
    obtain ⟨g, cap, rfl, hb, hg, hn, hm, hc, hf⟩ := HO2
    have HT0 : TabN w2 g .u8 64 (xorF (sb K) x 0) := by rw [xorF_zero]; exact ⟨hg, fun k hk => ⟨hc k hk, (hf k (by omega)).2⟩⟩
    have HG : SizeLe w g := Nat.le_trans HB.out.1 hb
    clear hgrow2 HO0 hcv HEX HB hb hg hc hf HM hsub
    go_wp2
    go_loopw [8] (fun u8 wr => ∃ (i : Nat), i ≤ 64 ∧ u8 = .int .i64 i ∧ TabN wr g .u8 64 (xorF (sb K) x i) ∧ Hid (Ext w wr)) (fun u8 _ => 64 - (intOf u8).toNat)
    case atStart => exact ⟨0, by omega, rfl, HT0, HX2⟩
    case round =>
      clear HT0 HX2
      obtain ⟨i, hi64, rfl, HT, HE⟩ := hrel
      by_cases hlt : i < 64
      · have hi1 : (i : Int) < 64 := by omega
        have hi0 : (0 : Int) ≤ (i : Int) := by omega
        obtain ⟨gp, gf⟩ := HT.2 i hlt
        rw [xorF_at] at gp
        have HST := HT.set i (sb K i ^^^ x)
        rw [xorF_step] at HST
        have hxo := u8_xor_nat (sb K i) x (sb_lt _ _) hx
        generalize sb K i = bv at gp HST hxo
        generalize bv ^^^ x = r at HST hxo
        go_wp2
        go_roundw
        case rel => exact ⟨i + 1, hlt, by go_num, HST, Ext.st HG HE.out⟩
        case measure => simp [intOf]; omega
      · obtain rfl : i = 64 := by omega
        have hcs := run_lst_string Tryd.prog 5 62 9 Tryd.underlying62 Tryd.underlying5 Tryd.underlying9 wr (xorF (sb K) x 64) 64 (.slice (some ⟨g, 0, none⟩) 64 cap) (HT.slice (by decide)) (by decide)
        rw [padS_of HKK.out] at hcs
        obtain ⟨SS, HSS⟩ : ∃ SS, Hid (padS key x = SS) := ⟨_, rfl⟩
        rw [HSS.out] at hcs
        go_wp2
        go_ret
        exact ⟨by rw [HSS.out]; rfl, HE.out⟩
  · have h65 : ¬ (64 : Int) < (key.size : Int) := by omega
    have HKs : Hid (key.size ≤ 64) := (by omega : key.size ≤ 64)
    have HKK : Hid (keyS key = key) := if_neg h64
    have hcv := Lib.run_convert_string_bytes (w.alloc (.cells #[vh, vk] 71)) 9 62 5 key Tryd.underlying9 Tryd.underlying62 Tryd.underlying5
    have HX0 : Hid (Ext (w.alloc (.cells #[vh, vk] 71)) (Lib.bytesWorld (w.alloc (.cells #[vh, vk] 71)) 5 key)) := bytes_ext _ _ _
    have HO0 : Hid (OwnF (Lib.bytesWorld (w.alloc (.cells #[vh, vk] 71)) 5 key) (w.alloc (.cells #[vh, vk] 71)).heap.size .u8 (.slice (some ⟨(w.alloc (.cells #[vh, vk] 71)).heap.size, 0, none⟩) key.size (grownCap (w.alloc (.cells #[vh, vk] 71)) key.size 0 5)) key.size (sb key)) := bytes_own _ _ _ (by have := HKs.out; unfold maxLen; omega)
    obtain ⟨X, hX⟩ : ∃ X, Lib.bytesWorld (w.alloc (.cells #[vh, vk] 71)) 5 key = X := ⟨_, rfl⟩
    obtain ⟨c0, hc0⟩ : ∃ c0, grownCap (w.alloc (.cells #[vh, vk] 71)) key.size 0 5 = c0 := ⟨_, rfl⟩
    rw [hX] at hcv HX0 HO0
    rw [hc0] at hcv HO0
    have HEX : Hid (Ext w X) := HEW.out.trans HX0.out
    have hB : w.heap.size ≤ (w.alloc (.cells #[vh, vk] 71)).heap.size := HEW.out.size
    obtain ⟨n, hn⟩ : ∃ n, (w.alloc (.cells #[vh, vk] 71)).heap.size = n := ⟨_, rfl⟩
    rw [hn] at hcv HO0 hB
    have HB : Hid (w.heap.size ≤ n ∧ n ≤ X.heap.size) := ⟨hB, by rw [← hn]; exact HX0.out.size⟩
    obtain ⟨L, hL⟩ : ∃ L, key.size = L := ⟨_, rfl⟩
    have hLs : L ≤ 64 := by rw [← hL]; exact HKs.out
    rw [hL] at hcv HO0
    obtain ⟨m, hm⟩ : ∃ m, 64 - L = m := ⟨_, rfl⟩
    have HM : Hid (L + m = 64) := (by omega : L + m = 64)
    have hsub : IntKind.i64.wrap (64 - (L : Int)) = (m : Int) := by rw [IntKind.wrap_i64]; omega
    have hm64 : m ≤ 64 := by omega
    have HPst : Hid (∀ j, L ≤ j → sb key j = 0) := fun j hj => sb_past (by rw [hL]; exact hj)
    clear hX hc0 hn hB hm HX0
    go_enter Tryd.func40, Tryd.ntmps40
    go_wp2_with (first | (at_builtin; refine wpList_append_zeros _ rfl _ _ 62 3 rfl n 5 i0 1 .i64 Tryd.underlying62 Tryd.underlying3 hi .u8 hz0 hz1 hz2 _ L (sb key) rfl HO0.out .i64 m rfl (fun j h1 _ => HPst.out j h1) (by have := HM.out; unfold maxLen; omega) (by have := HM.out; omega) HB.out.2 ?_))
    intro v2 w2 HO2 hgrow2
    rw [HM.out] at HO2
    have HX2 : Hid (Ext w w2) := ext_grown HEX.out hgrow2 (fun k hk => by have := HO0.out.at k hk; have := HB.out.1; omega)
    obtain ⟨g, cap, rfl, hb, hg, hn, hm, hc, hf⟩ := HO2
    have HT0 : TabN w2 g .u8 64 (xorF (sb key) x 0) := by rw [xorF_zero]; exact ⟨hg, fun k hk => ⟨hc k hk, (hf k (by omega)).2⟩⟩
    have HG : SizeLe w g := Nat.le_trans HB.out.1 hb
    clear hgrow2 HO0 hcv HEX HB hb hg hc hf HM hsub
    go_wp2
    go_loopw [8] (fun u8 wr => ∃ (i : Nat), i ≤ 64 ∧ u8 = .int .i64 i ∧ TabN wr g .u8 64 (xorF (sb key) x i) ∧ Hid (Ext w wr)) (fun u8 _ => 64 - (intOf u8).toNat)
    case atStart => exact ⟨0, by omega, rfl, HT0, HX2⟩
    case round =>
      clear HT0 HX2
      obtain ⟨i, hi64, rfl, HT, HE⟩ := hrel
      by_cases hlt : i < 64
      · have hi1 : (i : Int) < 64 := by omega
        have hi0 : (0 : Int) ≤ (i : Int) := by omega
        obtain ⟨gp, gf⟩ := HT.2 i hlt
        rw [xorF_at] at gp
        have HST := HT.set i (sb key i ^^^ x)
        rw [xorF_step] at HST
        have hxo := u8_xor_nat (sb key i) x (sb_lt _ _) hx
        generalize sb key i = bv at gp HST hxo
        generalize bv ^^^ x = r at HST hxo
        go_wp2
        go_roundw
        case rel => exact ⟨i + 1, hlt, by go_num, HST, Ext.st HG HE.out⟩
        case measure => simp [intOf]; omega
      · obtain rfl : i = 64 := by omega
        have hcs := run_lst_string Tryd.prog 5 62 9 Tryd.underlying62 Tryd.underlying5 Tryd.underlying9 wr (xorF (sb key) x 64) 64 (.slice (some ⟨g, 0, none⟩) 64 cap) (HT.slice (by decide)) (by decide)
        rw [padS_of HKK.out] at hcs
        obtain ⟨SS, HSS⟩ : ∃ SS, Hid (padS key x = SS) := ⟨_, rfl⟩
        rw [HSS.out] at hcs
        go_wp2
        go_ret
        exact ⟨by rw [HSS.out]; rfl, HE.out⟩
end Go.Proofs.YtpfeakdpckmcgaaDoor
