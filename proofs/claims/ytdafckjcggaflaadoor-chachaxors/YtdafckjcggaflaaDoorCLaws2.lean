/-
  The laws of layer 9, called (the other three): true for every input; nothing old is turned.
-/
import Derived.Test.YtdafckjcggaflaaDoorCLaws
namespace Go.Proofs.YtdafckjcggaflaaDoor
open Go.RowKit
/-- A key, a nonce, a number lie in block b. -/
def K3 (W : World) (b : Nat) (key nonce : ByteArray) (n : Nat) : Prop := W.cell? ⟨b, 0, none⟩ = some (.string key) ∧ W.cell? ⟨b, 1, none⟩ = some (.string nonce) ∧ W.cell? ⟨b, 2, none⟩ = some (.int .u32 (n : Int))
theorem K3.ext {w w' : World} {b : Nat} {key nonce : ByteArray} {n : Nat} (h : K3 w b key nonce n) (hx : Ext w w') : K3 w' b key nonce n := ⟨later hx h.1, later hx h.2.1, later hx h.2.2⟩
theorem xorR_one_size (key nonce : ByteArray) (n : Nat) (s : ByteArray) : (xorR key nonce n s).1.size ≤ s.size := by
  unfold xorR
  split
  · exact Nat.le_of_eq (xorS_size _ _ _ _)
  · exact Nat.zero_le _
set_option maxHeartbeats 1000000 in
theorem chachaXors_any (key nonce : ByteArray) (n : Nat) (hn : n < 4294967296) (s : ByteArray) (hs : s.size ≤ maxLen) (w : World) (hG : Gl w) :
    Calls Tryd.prog 4 #[.agg #[.string key, .string nonce, .int .u32 (n : Int)], .string s] w fun e w' => e = .returned (.bool true) ∧ Ext w w' := by
  unfold maxLen at hs
  have HW : Hid (Ext w (w.alloc (.cells #[.string key, .string nonce, .int .u32 (n : Int)] 31))) := (Ext.refl _).alloc _
  have R0 : Hid (K3 (w.alloc (.cells #[.string key, .string nonce, .int .u32 (n : Int)] 31)) w.heap.size key nonce n) := ⟨by rw [World.cell?_alloc_at _ _ _ _ rfl]; rfl, by rw [World.cell?_alloc_at _ _ _ _ rfl]; rfl, by rw [World.cell?_alloc_at _ _ _ _ rfl]; rfl⟩
  by_cases h5 : 3000 < s.size
  · have h6 : (3000 : Int) < (s.size : Int) := by omega
    go_enter Tryd.func4, Tryd.ntmps4
    go_wp2_with fail
    refine (awake_any _ (hG.ext HW.out)).mono ?_
    rintro e w2 ⟨rfl, HX⟩
    have HX2 : Hid (Ext w w2) := HW.out.trans HX
    clear HX
    go_wp2
    go_ret
    exact ⟨rfl, HX2.out⟩
  · have h6 : ¬ (3000 : Int) < (s.size : Int) := by omega
    have h2 := xorR_two key nonce n s
    have C1 : Hid (∀ W, Gl W → Calls Tryd.prog 10 #[.string key, .string nonce, .int .u32 (n : Int), .string s] W fun e w' => e = .returned (.tuple #[.string (xorR key nonce n s).1, .int .i64 (xorR key nonce n s).2]) ∧ Ext W w') := fun W g => cxor_any key nonce n s hn (by omega) W g
    have C2 : Hid (∀ W, Gl W → Calls Tryd.prog 11 #[.string key, .string nonce, .int .u32 (n : Int), .string s] W fun e w' => e = .returned (.tuple #[.string (xorR key nonce n s).1, .int .i64 (xorR key nonce n s).2]) ∧ Ext W w') := fun W _ => rxor_r key nonce n s hn (by omega) W
    generalize xorR key nonce n s = r at h2 C1 C2
    obtain ⟨r1, r2⟩ := r
    have hw : IntKind.i64.wrap r2 = r2 := by rw [IntKind.wrap_i64]; simp only at h2; omega
    clear h2
    go_enter Tryd.func4, Tryd.ntmps4
    go_wp2_with fail
    with_reducible refine (C1.out _ (hG.ext HW.out)).mono ?_
    rintro e w1 ⟨rfl, HX⟩
    have HX1 : Hid (Ext w w1) := HW.out.trans HX
    have R1 : Hid (K3 w1 w.heap.size key nonce n) := R0.out.ext HX
    obtain ⟨k1a, k1b, k1c⟩ := R1.out
    clear HX
    go_wp2_with fail
    with_reducible refine (C2.out _ (hG.ext HX1.out)).mono ?_
    rintro e w2 ⟨rfl, HX⟩
    have HX2 : Hid (Ext w w2) := HX1.out.trans HX
    have R2 : Hid (K3 w2 w.heap.size key nonce n) := R1.out.ext HX
    obtain ⟨k2a, k2b, k2c⟩ := R2.out
    clear HX
    go_wp2_with fail
    refine (awake_any _ (hG.ext HX2.out)).mono ?_
    rintro e w3 ⟨rfl, HX⟩
    have HX3 : Hid (Ext w w3) := HX2.out.trans HX
    clear HX
    go_wp2
    go_ret
    exact ⟨rfl, HX3.out⟩
set_option maxHeartbeats 1000000 in
theorem chachaTwice_any (key nonce : ByteArray) (n : Nat) (hn : n < 4294967296) (s : ByteArray) (hs : s.size ≤ maxLen) (w : World) (hG : Gl w) :
    Calls Tryd.prog 5 #[.agg #[.string key, .string nonce, .int .u32 (n : Int)], .string s] w fun e w' => e = .returned (.bool true) ∧ Ext w w' := by
  unfold maxLen at hs
  have HW : Hid (Ext w (w.alloc (.cells #[.string key, .string nonce, .int .u32 (n : Int)] 31))) := (Ext.refl _).alloc _
  have R0 : Hid (K3 (w.alloc (.cells #[.string key, .string nonce, .int .u32 (n : Int)] 31)) w.heap.size key nonce n) := ⟨by rw [World.cell?_alloc_at _ _ _ _ rfl]; rfl, by rw [World.cell?_alloc_at _ _ _ _ rfl]; rfl, by rw [World.cell?_alloc_at _ _ _ _ rfl]; rfl⟩
  by_cases h5 : 3000 < s.size
  · have h6 : (3000 : Int) < (s.size : Int) := by omega
    go_enter Tryd.func5, Tryd.ntmps5
    go_wp2_with fail
    refine (awake_any _ (hG.ext HW.out)).mono ?_
    rintro e w2 ⟨rfl, HX⟩
    have HX2 : Hid (Ext w w2) := HW.out.trans HX
    clear HX
    go_wp2
    go_ret
    exact ⟨rfl, HX2.out⟩
  · have h6 : ¬ (3000 : Int) < (s.size : Int) := by omega
    by_cases hko : key.size = 32 ∧ nonce.size = 12
    · have p1 : (key.size : Int) = 32 := by omega
      have p2 : (nonce.size : Int) = 12 := by omega
      obtain ⟨A, a1, HA⟩ : ∃ A : ByteArray, A.size = s.size ∧ Hid (xorS key nonce n s = A) := ⟨_, xorS_size _ _ _ _, rfl⟩
      have C1 : Hid (∀ W, Gl W → Calls Tryd.prog 10 #[.string key, .string nonce, .int .u32 (n : Int), .string s] W fun e w' => e = .returned (.tuple #[.string A, .int .i64 0]) ∧ Ext W w') := fun W g => by
        have := cxor_any key nonce n s hn (by omega) W g
        rw [xorR_ok hko.1 hko.2, HA.out] at this
        exact this
      have C2 : Hid (∀ W, Gl W → Calls Tryd.prog 10 #[.string key, .string nonce, .int .u32 (n : Int), .string A] W fun e w' => e = .returned (.tuple #[.string s, .int .i64 0]) ∧ Ext W w') := fun W g => by
        have := cxor_any key nonce n A hn (by omega) W g
        rw [xorR_ok hko.1 hko.2, ← HA.out, xorS_twice, HA.out] at this
        exact this
      go_enter Tryd.func5, Tryd.ntmps5
      go_wp2_with fail
      with_reducible refine (C1.out _ (hG.ext HW.out)).mono ?_
      rintro e w1 ⟨rfl, HX⟩
      have HX1 : Hid (Ext w w1) := HW.out.trans HX
      have R1 : Hid (K3 w1 w.heap.size key nonce n) := R0.out.ext HX
      obtain ⟨k1a, k1b, k1c⟩ := R1.out
      clear HX
      go_wp2_with fail
      with_reducible refine (C2.out _ (hG.ext HX1.out)).mono ?_
      rintro e w2 ⟨rfl, HX⟩
      have HX2 : Hid (Ext w w2) := HX1.out.trans HX
      have R2 : Hid (K3 w2 w.heap.size key nonce n) := R1.out.ext HX
      obtain ⟨k2a, k2b, k2c⟩ := R2.out
      clear HX
      go_wp2_with fail
      refine (awake_any _ (hG.ext HX2.out)).mono ?_
      rintro e w3 ⟨rfl, HX⟩
      have HX3 : Hid (Ext w w3) := HX2.out.trans HX
      clear HX
      go_wp2
      go_ret
      exact ⟨rfl, HX3.out⟩
    · have C1 : Hid (∀ (W : World) (t : ByteArray), t.size ≤ 3000 → Gl W → Calls Tryd.prog 10 #[.string key, .string nonce, .int .u32 (n : Int), .string t] W fun e w' => e = .returned (.tuple #[.string ⟨#[]⟩, .int .i64 2]) ∧ Ext W w') := fun W t ht g => by
        have := cxor_any key nonce n t hn ht W g
        rw [show xorR key nonce n t = (⟨#[]⟩, 2) from if_neg hko] at this
        exact this
      by_cases hk3 : key.size = 32
      · have p1 : (key.size : Int) = 32 := by omega
        have p2 : ¬ (nonce.size : Int) = 12 := by omega
        go_enter Tryd.func5, Tryd.ntmps5
        go_wp2_with fail
        with_reducible refine (C1.out _ s (by omega) (hG.ext HW.out)).mono ?_
        rintro e w1 ⟨rfl, HX⟩
        have HX1 : Hid (Ext w w1) := HW.out.trans HX
        have R1 : Hid (K3 w1 w.heap.size key nonce n) := R0.out.ext HX
        obtain ⟨k1a, k1b, k1c⟩ := R1.out
        clear HX
        go_wp2_with fail
        with_reducible refine (C1.out _ ⟨#[]⟩ (by decide) (hG.ext HX1.out)).mono ?_
        rintro e w2 ⟨rfl, HX⟩
        have HX2 : Hid (Ext w w2) := HX1.out.trans HX
        have R2 : Hid (K3 w2 w.heap.size key nonce n) := R1.out.ext HX
        obtain ⟨k2a, k2b, k2c⟩ := R2.out
        clear HX
        go_wp2_with fail
        refine (awake_any _ (hG.ext HX2.out)).mono ?_
        rintro e w3 ⟨rfl, HX⟩
        have HX3 : Hid (Ext w w3) := HX2.out.trans HX
        clear HX
        go_wp2
        go_ret
        exact ⟨rfl, HX3.out⟩
      · have p1 : ¬ (key.size : Int) = 32 := by omega
        go_enter Tryd.func5, Tryd.ntmps5
        go_wp2_with fail
        with_reducible refine (C1.out _ s (by omega) (hG.ext HW.out)).mono ?_
        rintro e w1 ⟨rfl, HX⟩
        have HX1 : Hid (Ext w w1) := HW.out.trans HX
        have R1 : Hid (K3 w1 w.heap.size key nonce n) := R0.out.ext HX
        obtain ⟨k1a, k1b, k1c⟩ := R1.out
        clear HX
        go_wp2_with fail
        with_reducible refine (C1.out _ ⟨#[]⟩ (by decide) (hG.ext HX1.out)).mono ?_
        rintro e w2 ⟨rfl, HX⟩
        have HX2 : Hid (Ext w w2) := HX1.out.trans HX
        have R2 : Hid (K3 w2 w.heap.size key nonce n) := R1.out.ext HX
        obtain ⟨k2a, k2b, k2c⟩ := R2.out
        clear HX
        go_wp2_with fail
        refine (awake_any _ (hG.ext HX2.out)).mono ?_
        rintro e w3 ⟨rfl, HX⟩
        have HX3 : Hid (Ext w w3) := HX2.out.trans HX
        clear HX
        go_wp2
        go_ret
        exact ⟨rfl, HX3.out⟩
end Go.Proofs.YtdafckjcggaflaaDoor
