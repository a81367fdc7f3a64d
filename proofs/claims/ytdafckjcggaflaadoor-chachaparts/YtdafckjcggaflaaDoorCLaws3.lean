/-
  The laws of layer 9, called (the last): true for every input; nothing old is turned.
-/
import Derived.Test.YtdafckjcggaflaaDoorCLaws2
import Derived.Deep.RegionHeld3
namespace Go.Proofs.YtdafckjcggaflaaDoor
open Go.RowKit
theorem keepK {W0 wx : World} {b : Nat} {key nonce : ByteArray} {n : Nat} (h : Ext W0 wx) (r : K3 W0 b key nonce n) : Ext W0 wx ∧ wx.cell? ⟨b, 0, none⟩ = some (.string key) ∧ wx.cell? ⟨b, 1, none⟩ = some (.string nonce) ∧ wx.cell? ⟨b, 2, none⟩ = some (.int .u32 (n : Int)) := ⟨h, r.ext h⟩
theorem xorR_parts (key nonce : ByteArray) (n : Nat) (s : ByteArray) (h : 64 ≤ s.size) : (xorR key nonce n s).1 = (xorR key nonce n (s.extract 0 64)).1 ++ (xorR key nonce ((n + 1) % 4294967296) (s.extract 64 s.size)).1 := by
  unfold xorR
  by_cases hk : key.size = 32 ∧ nonce.size = 12
  · rw [if_pos hk, if_pos hk, if_pos hk]; exact xorS_parts key nonce n s h
  · rw [if_neg hk, if_neg hk, if_neg hk]; rfl
set_option maxHeartbeats 1000000 in
theorem chachaParts_any (key nonce : ByteArray) (n : Nat) (hn : n < 4294967296) (s : ByteArray) (hs : s.size ≤ maxLen) (w : World) (hG : Gl w) :
    Calls Tryd.prog 6 #[.agg #[.string key, .string nonce, .int .u32 (n : Int)], .string s] w fun e w' => e = .returned (.bool true) ∧ Ext w w' := by
  unfold maxLen at hs
  have HW : Hid (Ext w (w.alloc (.cells #[.string key, .string nonce, .int .u32 (n : Int)] 31))) := (Ext.refl _).alloc _
  have R0 : Hid (K3 (w.alloc (.cells #[.string key, .string nonce, .int .u32 (n : Int)] 31)) w.heap.size key nonce n) := ⟨by rw [World.cell?_alloc_at _ _ _ _ rfl]; rfl, by rw [World.cell?_alloc_at _ _ _ _ rfl]; rfl, by rw [World.cell?_alloc_at _ _ _ _ rfl]; rfl⟩
  by_cases h5 : 3000 < s.size
  · have h6 : (3000 : Int) < (s.size : Int) := by omega
    go_enter Tryd.func6, Tryd.ntmps6
    go_wp2_with fail
    refine (awake_any _ (hG.ext HW.out)).mono ?_
    rintro e w2 ⟨rfl, HX⟩
    have HX2 : Hid (Ext w w2) := HW.out.trans HX
    clear HX
    go_wp2
    go_ret
    exact ⟨rfl, HX2.out⟩
  · have h6 : ¬ (3000 : Int) < (s.size : Int) := by omega
    by_cases h7 : s.size < 64
    · have h8 : (s.size : Int) < 64 := by omega
      go_enter Tryd.func6, Tryd.ntmps6
      go_wp2_with fail
      refine (awake_any _ (hG.ext HW.out)).mono ?_
      rintro e w2 ⟨rfl, HX⟩
      have HX2 : Hid (Ext w w2) := HW.out.trans HX
      clear HX
      go_wp2
      go_ret
      exact ⟨rfl, HX2.out⟩
    · have h8 : ¬ (s.size : Int) < 64 := by omega
      have hp := xorR_parts key nonce n s (by omega)
      have z1 := xorR_one_size key nonce n (s.extract 0 64)
      have z2 := xorR_one_size key nonce ((n + 1) % 4294967296) (s.extract 64 s.size)
      have s1 : (s.extract 0 64).size = 64 := by rw [ByteArray.size_extract]; omega
      have s2 : (s.extract 64 s.size).size ≤ 3000 := by rw [ByteArray.size_extract]; omega
      have hnn : (n + 1) % 4294967296 < 4294967296 := Nat.mod_lt _ (by decide)
      have hwn : IntKind.u32.wrap ((n : Int) + 1) = (((n + 1) % 4294967296 : Nat) : Int) := by rw [IntKind.wrap_u32']; omega
      have C1 : Hid (∀ W, Gl W → Calls Tryd.prog 10 #[.string key, .string nonce, .int .u32 (n : Int), .string s] W fun e w' => e = .returned (.tuple #[.string (xorR key nonce n s).1, .int .i64 (xorR key nonce n s).2]) ∧ Ext W w') := fun W g => cxor_any key nonce n s hn (by omega) W g
      have C2 : Hid (∀ W, Gl W → Calls Tryd.prog 10 #[.string key, .string nonce, .int .u32 (n : Int), .string (s.extract 0 64)] W fun e w' => e = .returned (.tuple #[.string (xorR key nonce n (s.extract 0 64)).1, .int .i64 (xorR key nonce n (s.extract 0 64)).2]) ∧ Ext W w') := fun W g => cxor_any key nonce n _ hn (by omega) W g
      have C3 : Hid (∀ W, Gl W → Calls Tryd.prog 10 #[.string key, .string nonce, .int .u32 (((n + 1) % 4294967296 : Nat) : Int), .string (s.extract 64 s.size)] W fun e w' => e = .returned (.tuple #[.string (xorR key nonce ((n + 1) % 4294967296) (s.extract 64 s.size)).1, .int .i64 (xorR key nonce ((n + 1) % 4294967296) (s.extract 64 s.size)).2]) ∧ Ext W w') := fun W g => cxor_any key nonce _ _ hnn s2 W g
      generalize (n + 1) % 4294967296 = nn at *
      generalize xorR key nonce n s = ra at *
      generalize xorR key nonce n (s.extract 0 64) = rb at *
      generalize xorR key nonce nn (s.extract 64 s.size) = rc at *
      obtain ⟨A, a2⟩ := ra
      obtain ⟨B, b2⟩ := rb
      obtain ⟨C, c2⟩ := rc
      simp only at hp z1 z2
      subst hp
      have hcc : ¬ 9223372036854775807 < B.size + C.size := by omega
      clear z1 z2 s1 s2 hnn
      go_enter Tryd.func6, Tryd.ntmps6
      go_wp2_with fail
      with_reducible refine (C1.out _ (hG.ext HW.out)).mono ?_
      rintro e w1 ⟨rfl, HX⟩
      have HX1 : Hid (Ext w w1) := HW.out.trans HX
      have R1 : Hid (K3 w1 w.heap.size key nonce n) := R0.out.ext HX
      obtain ⟨k1a, k1b, k1c⟩ := R1.out
      clear HX
      go_wp2_with fail
      go_region_held3 (fun wx : World => Ext w1 wx ∧ wx.cell? ⟨w.heap.size, 0, none⟩ = some (.string key) ∧ wx.cell? ⟨w.heap.size, 1, none⟩ = some (.string nonce) ∧ wx.cell? ⟨w.heap.size, 2, none⟩ = some (.int .u32 (n : Int))) (first | exact keepK (Ext.refl _) R1.out | exact keepK (Ext.drew (Ext.refl _)) R1.out | exact keepK (by assumption) R1.out) (first | (go_at_call 10; with_reducible refine (C2.out _ (hG.ext (Ext.trans HX1.out (by first | assumption | exact Ext.refl _ | exact Ext.drew (Ext.refl _))))).mono ?_; rintro e w2 ⟨rfl, HX⟩; have hEy : Ext w1 w2 := (by refine Ext.trans ?_ HX; first | assumption | exact Ext.refl _ | exact Ext.drew (Ext.refl _))))
      have HX2 : Hid (Ext w w2) := HX1.out.trans hEy
      have R2 : Hid (K3 w2 w.heap.size key nonce n) := R1.out.ext hEy
      obtain ⟨k2a, k2b, k2c⟩ := R2.out
      clear HX
      go_wp2_with fail
      go_region_held3 (fun wx : World => Ext w2 wx ∧ wx.cell? ⟨w.heap.size, 0, none⟩ = some (.string key) ∧ wx.cell? ⟨w.heap.size, 1, none⟩ = some (.string nonce) ∧ wx.cell? ⟨w.heap.size, 2, none⟩ = some (.int .u32 (n : Int))) (first | exact keepK (Ext.refl _) R2.out | exact keepK (Ext.drew (Ext.refl _)) R2.out | exact keepK (by assumption) R2.out) (first | (go_at_call 10; with_reducible refine (C3.out _ (hG.ext (Ext.trans HX2.out (by first | assumption | exact Ext.refl _ | exact Ext.drew (Ext.refl _))))).mono ?_; rintro e w3 ⟨rfl, HX⟩; have hEy : Ext w2 w3 := (by refine Ext.trans ?_ HX; first | assumption | exact Ext.refl _ | exact Ext.drew (Ext.refl _))))
      have HX3 : Hid (Ext w w3) := HX2.out.trans hEy
      have R3 : Hid (K3 w3 w.heap.size key nonce n) := R2.out.ext hEy
      obtain ⟨k3a, k3b, k3c⟩ := R3.out
      clear HX
      go_wp2_with fail
      refine (awake_any _ (hG.ext HX3.out)).mono ?_
      rintro e w4 ⟨rfl, HX⟩
      have HX4 : Hid (Ext w w4) := HX3.out.trans HX
      clear HX
      go_wp2
      go_ret
      exact ⟨rfl, HX4.out⟩
end Go.Proofs.YtdafckjcggaflaaDoor
