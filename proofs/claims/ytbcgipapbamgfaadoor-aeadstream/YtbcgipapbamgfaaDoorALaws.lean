/-
  The laws AeadSeals, AeadOpens and AeadBack (sandglasslaw11), called: true, whatever the lock and the text.
-/
import Derived.Test.YtbcgipapbamgfaaDoorAAwake
import Derived.Test.YtbcgipapbamgfaaDoorRefAead
namespace Go.Proofs.YtbcgipapbamgfaaDoor
open Go.RowKit
/-- A lock in block b. -/
def K3 (W : World) (b : Nat) (key nonce more : ByteArray) : Prop := W.cell? ⟨b, 0, none⟩ = some (.string key) ∧ W.cell? ⟨b, 1, none⟩ = some (.string nonce) ∧ W.cell? ⟨b, 2, none⟩ = some (.string more)
theorem K3.ext {w w' : World} {b : Nat} {key nonce more : ByteArray} (h : K3 w b key nonce more) (hx : Ext w w') : K3 w' b key nonce more := ⟨later hx h.1, later hx h.2.1, later hx h.2.2⟩
theorem openR_le (key nonce s more : ByteArray) : (openR key nonce s more).1.size ≤ s.size := by
  unfold openR
  split
  · exact Nat.zero_le _
  · split
    · show (xorS _ _ _ _).size ≤ _
      rw [xorS_size, bodyS_size]
      omega
    · exact Nat.zero_le _
set_option maxRecDepth 10000 in
set_option maxHeartbeats 2000000 in
theorem aeadSeals_any (key nonce more : ByteArray) (s : ByteArray) (w : World) (hG : Gl w) :
    Calls Tryd.prog 3 #[.agg #[.string key, .string nonce, .string more], .string s] w fun e w' => e = .returned (.bool true) ∧ Ext w w' := by
  have HX0 : Hid (Ext w (w.alloc (.cells #[.string key, .string nonce, .string more] 23))) := (Ext.refl _).alloc _
  have R0 : Hid (K3 (w.alloc (.cells #[.string key, .string nonce, .string more] 23)) w.heap.size key nonce more) := ⟨by rw [World.cell?_alloc_at _ _ _ _ rfl]; rfl, by rw [World.cell?_alloc_at _ _ _ _ rfl]; rfl, by rw [World.cell?_alloc_at _ _ _ _ rfl]; rfl⟩
  have hG0 := hG.ext HX0.out
  have CA : Hid (∀ W, Gl W → Calls Tryd.prog 9 #[] W fun e w' => e = .returned (.bool true) ∧ Ext W w') := awake_any
  have CF : Hid (∀ W, Calls Tryd.prog 8 #[.agg #[.string key, .string nonce, .string more], .string s] W fun e w' => e = .returned (.bool (fewB more s)) ∧ Ext W w') := fun W => few_any key nonce more s W
  by_cases hf : more.size ≤ 1000 ∧ s.size ≤ 2000
  case neg =>
    rw [show fewB more s = false from decide_eq_false hf] at CF
    go_enter Tryd.func3, Tryd.ntmps3
    go_wp2_with fail
    with_reducible refine (CF.out _).mono ?_
    rintro e w1 ⟨rfl, HX⟩
    have HX1 : Hid (Ext w w1) := HX0.out.trans HX
    have hG1 := hG0.ext HX
    clear HX
    go_wp2_with fail
    with_reducible refine (CA.out _ hG1).mono ?_
    rintro e w2 ⟨rfl, HX⟩
    have HX2 : Hid (Ext w w2) := HX1.out.trans HX
    have hG2 := hG1.ext HX
    clear HX
    go_wp2
    go_ret
    exact ⟨rfl, HX2.out⟩
  case pos =>
    rw [show fewB more s = true from decide_eq_true hf] at CF
    obtain ⟨hf1, hf2⟩ := hf
    have C1 : Hid (∀ W, Gl W → Calls Tryd.prog 10 #[.string key, .string nonce, .string s, .string more] W fun e w' => e = .returned (.tuple #[.string (sealR key nonce s more).1, .int .i64 (sealR key nonce s more).2]) ∧ Ext W w') := fun W g => aseal_any key nonce s more hf1 (by omega) W g
    have C2 : Hid (∀ W, Calls Tryd.prog 11 #[.string key, .string nonce, .string s, .string more] W fun e w' => e = .returned (.tuple #[.string (sealR key nonce s more).1, .int .i64 (sealR key nonce s more).2]) ∧ Ext W w') := fun W => rseal_any key nonce s more hf1 (by omega) W
    generalize sealR key nonce s more = r at *
    obtain ⟨r1, r2⟩ := r
    go_enter Tryd.func3, Tryd.ntmps3
    go_wp2_with fail
    with_reducible refine (CF.out _).mono ?_
    rintro e w1 ⟨rfl, HX⟩
    have HX1 : Hid (Ext w w1) := HX0.out.trans HX
    have R1 : Hid (K3 w1 w.heap.size key nonce more) := R0.out.ext HX
    obtain ⟨k1a, k1b, k1c⟩ := R1.out
    have hG1 := hG0.ext HX
    clear HX
    go_wp2_with fail
    with_reducible refine (C1.out _ hG1).mono ?_
    rintro e w2 ⟨rfl, HX⟩
    have HX2 : Hid (Ext w w2) := HX1.out.trans HX
    have R2 : Hid (K3 w2 w.heap.size key nonce more) := R1.out.ext HX
    obtain ⟨k2a, k2b, k2c⟩ := R2.out
    have hG2 := hG1.ext HX
    clear HX
    go_wp2_with fail
    with_reducible refine (C2.out _).mono ?_
    rintro e w3 ⟨rfl, HX⟩
    have HX3 : Hid (Ext w w3) := HX2.out.trans HX
    have R3 : Hid (K3 w3 w.heap.size key nonce more) := R2.out.ext HX
    obtain ⟨k3a, k3b, k3c⟩ := R3.out
    have hG3 := hG2.ext HX
    clear HX
    go_wp2_with fail
    with_reducible refine (CA.out _ hG3).mono ?_
    rintro e w4 ⟨rfl, HX⟩
    have HX4 : Hid (Ext w w4) := HX3.out.trans HX
    have R4 : Hid (K3 w4 w.heap.size key nonce more) := R3.out.ext HX
    obtain ⟨k4a, k4b, k4c⟩ := R4.out
    have hG4 := hG3.ext HX
    clear HX
    go_wp2
    go_ret
    exact ⟨rfl, HX4.out⟩
set_option maxRecDepth 10000 in
set_option maxHeartbeats 2000000 in
theorem aeadOpens_any (key nonce more : ByteArray) (s : ByteArray) (w : World) (hG : Gl w) :
    Calls Tryd.prog 4 #[.agg #[.string key, .string nonce, .string more], .string s] w fun e w' => e = .returned (.bool true) ∧ Ext w w' := by
  have HX0 : Hid (Ext w (w.alloc (.cells #[.string key, .string nonce, .string more] 23))) := (Ext.refl _).alloc _
  have R0 : Hid (K3 (w.alloc (.cells #[.string key, .string nonce, .string more] 23)) w.heap.size key nonce more) := ⟨by rw [World.cell?_alloc_at _ _ _ _ rfl]; rfl, by rw [World.cell?_alloc_at _ _ _ _ rfl]; rfl, by rw [World.cell?_alloc_at _ _ _ _ rfl]; rfl⟩
  have hG0 := hG.ext HX0.out
  have CA : Hid (∀ W, Gl W → Calls Tryd.prog 9 #[] W fun e w' => e = .returned (.bool true) ∧ Ext W w') := awake_any
  have CF : Hid (∀ W, Calls Tryd.prog 8 #[.agg #[.string key, .string nonce, .string more], .string s] W fun e w' => e = .returned (.bool (fewB more s)) ∧ Ext W w') := fun W => few_any key nonce more s W
  by_cases hf : more.size ≤ 1000 ∧ s.size ≤ 2000
  case neg =>
    rw [show fewB more s = false from decide_eq_false hf] at CF
    go_enter Tryd.func4, Tryd.ntmps4
    go_wp2_with fail
    with_reducible refine (CF.out _).mono ?_
    rintro e w1 ⟨rfl, HX⟩
    have HX1 : Hid (Ext w w1) := HX0.out.trans HX
    have hG1 := hG0.ext HX
    clear HX
    go_wp2_with fail
    with_reducible refine (CA.out _ hG1).mono ?_
    rintro e w2 ⟨rfl, HX⟩
    have HX2 : Hid (Ext w w2) := HX1.out.trans HX
    have hG2 := hG1.ext HX
    clear HX
    go_wp2
    go_ret
    exact ⟨rfl, HX2.out⟩
  case pos =>
    rw [show fewB more s = true from decide_eq_true hf] at CF
    obtain ⟨hf1, hf2⟩ := hf
    have C1 : Hid (∀ W, Gl W → Calls Tryd.prog 12 #[.string key, .string nonce, .string s, .string more] W fun e w' => e = .returned (.tuple #[.string (openR key nonce s more).1, .int .i64 (openR key nonce s more).2]) ∧ Ext W w') := fun W g => aopen_any key nonce s more hf1 (by omega) W g
    have C2 : Hid (∀ W, Calls Tryd.prog 13 #[.string key, .string nonce, .string s, .string more] W fun e w' => e = .returned (.tuple #[.string (openR key nonce s more).1, .int .i64 (openR key nonce s more).2]) ∧ Ext W w') := fun W => ropen_any key nonce s more hf1 (by omega) W
    generalize openR key nonce s more = r at *
    obtain ⟨r1, r2⟩ := r
    go_enter Tryd.func4, Tryd.ntmps4
    go_wp2_with fail
    with_reducible refine (CF.out _).mono ?_
    rintro e w1 ⟨rfl, HX⟩
    have HX1 : Hid (Ext w w1) := HX0.out.trans HX
    have R1 : Hid (K3 w1 w.heap.size key nonce more) := R0.out.ext HX
    obtain ⟨k1a, k1b, k1c⟩ := R1.out
    have hG1 := hG0.ext HX
    clear HX
    go_wp2_with fail
    with_reducible refine (C1.out _ hG1).mono ?_
    rintro e w2 ⟨rfl, HX⟩
    have HX2 : Hid (Ext w w2) := HX1.out.trans HX
    have R2 : Hid (K3 w2 w.heap.size key nonce more) := R1.out.ext HX
    obtain ⟨k2a, k2b, k2c⟩ := R2.out
    have hG2 := hG1.ext HX
    clear HX
    go_wp2_with fail
    with_reducible refine (C2.out _).mono ?_
    rintro e w3 ⟨rfl, HX⟩
    have HX3 : Hid (Ext w w3) := HX2.out.trans HX
    have R3 : Hid (K3 w3 w.heap.size key nonce more) := R2.out.ext HX
    obtain ⟨k3a, k3b, k3c⟩ := R3.out
    have hG3 := hG2.ext HX
    clear HX
    go_wp2_with fail
    with_reducible refine (CA.out _ hG3).mono ?_
    rintro e w4 ⟨rfl, HX⟩
    have HX4 : Hid (Ext w w4) := HX3.out.trans HX
    have R4 : Hid (K3 w4 w.heap.size key nonce more) := R3.out.ext HX
    obtain ⟨k4a, k4b, k4c⟩ := R4.out
    have hG4 := hG3.ext HX
    clear HX
    go_wp2
    go_ret
    exact ⟨rfl, HX4.out⟩
set_option maxRecDepth 10000 in
set_option maxHeartbeats 2000000 in
theorem aeadBack_any (key nonce more : ByteArray) (s : ByteArray) (w : World) (hG : Gl w) :
    Calls Tryd.prog 5 #[.agg #[.string key, .string nonce, .string more], .string s] w fun e w' => e = .returned (.bool true) ∧ Ext w w' := by
  have HX0 : Hid (Ext w (w.alloc (.cells #[.string key, .string nonce, .string more] 23))) := (Ext.refl _).alloc _
  have R0 : Hid (K3 (w.alloc (.cells #[.string key, .string nonce, .string more] 23)) w.heap.size key nonce more) := ⟨by rw [World.cell?_alloc_at _ _ _ _ rfl]; rfl, by rw [World.cell?_alloc_at _ _ _ _ rfl]; rfl, by rw [World.cell?_alloc_at _ _ _ _ rfl]; rfl⟩
  have hG0 := hG.ext HX0.out
  have CA : Hid (∀ W, Gl W → Calls Tryd.prog 9 #[] W fun e w' => e = .returned (.bool true) ∧ Ext W w') := awake_any
  have CF : Hid (∀ W, Calls Tryd.prog 8 #[.agg #[.string key, .string nonce, .string more], .string s] W fun e w' => e = .returned (.bool (fewB more s)) ∧ Ext W w') := fun W => few_any key nonce more s W
  by_cases hf : more.size ≤ 1000 ∧ s.size ≤ 2000
  case neg =>
    rw [show fewB more s = false from decide_eq_false hf] at CF
    go_enter Tryd.func5, Tryd.ntmps5
    go_wp2_with fail
    with_reducible refine (CF.out _).mono ?_
    rintro e w1 ⟨rfl, HX⟩
    have HX1 : Hid (Ext w w1) := HX0.out.trans HX
    have hG1 := hG0.ext HX
    clear HX
    go_wp2_with fail
    with_reducible refine (CA.out _ hG1).mono ?_
    rintro e w2 ⟨rfl, HX⟩
    have HX2 : Hid (Ext w w2) := HX1.out.trans HX
    have hG2 := hG1.ext HX
    clear HX
    go_wp2
    go_ret
    exact ⟨rfl, HX2.out⟩
  case pos =>
    rw [show fewB more s = true from decide_eq_true hf] at CF
    obtain ⟨hf1, hf2⟩ := hf
    have CO : Hid (∀ W x, x.size ≤ 3000 → Gl W → Calls Tryd.prog 12 #[.string key, .string nonce, .string x, .string more] W fun e w' => e = .returned (.tuple #[.string (openR key nonce x more).1, .int .i64 (openR key nonce x more).2]) ∧ Ext W w') := fun W x hx g => aopen_any key nonce x more hf1 hx W g
    have CS : Hid (∀ W x, x.size ≤ 3000 → Gl W → Calls Tryd.prog 10 #[.string key, .string nonce, .string x, .string more] W fun e w' => e = .returned (.tuple #[.string (sealR key nonce x more).1, .int .i64 (sealR key nonce x more).2]) ∧ Ext W w') := fun W x hx g => aseal_any key nonce x more hf1 hx W g
    have hl := openR_le key nonce s more
    have C1 : Hid _ := fun W => CS.out W s (by omega)
    have C3 : Hid _ := fun W => CO.out W s (by omega)
    have C4 : Hid _ := fun W => CS.out W (openR key nonce s more).1 (by omega)
    have hb : IntKind.i64.wrap ((s.size : Int) + 16) = (s.size : Int) + 16 := by rw [IntKind.wrap_i64]; omega
    by_cases hg : key.size = 32 ∧ nonce.size = 12
    · have C2 : Hid _ := fun W => CO.out W (sealS key nonce s more) (by rw [sealS_size]; omega)
      rw [open_seal key nonce s more hg.1 hg.2] at C2
      rw [show sealR key nonce s more = (sealS key nonce s more, 0) from if_pos hg] at C1
      have ht : ((sealS key nonce s more).size : Int) = (s.size : Int) + 16 := by rw [sealS_size]; omega
      by_cases hp : (openR key nonce s more).2 = 0
      · have e1 := seal_open key nonce s more hp
        rw [e1] at C4
        obtain ⟨v, g⟩ : ∃ v, openR key nonce s more = (v, 0) := ⟨_, Prod.ext rfl hp⟩
        rw [g] at C3 C4
        generalize sealS key nonce s more = t at *
        clear e1 hp g hl CO CS
        go_enter Tryd.func5, Tryd.ntmps5
        go_wp2_with fail
        with_reducible refine (CF.out _).mono ?_
        rintro e w1 ⟨rfl, HX⟩
        have HX1 : Hid (Ext w w1) := HX0.out.trans HX
        have R1 : Hid (K3 w1 w.heap.size key nonce more) := R0.out.ext HX
        obtain ⟨k1a, k1b, k1c⟩ := R1.out
        have hG1 := hG0.ext HX
        clear HX
        go_wp2_with fail
        with_reducible refine (C1.out _ hG1).mono ?_
        rintro e w2 ⟨rfl, HX⟩
        have HX2 : Hid (Ext w w2) := HX1.out.trans HX
        have R2 : Hid (K3 w2 w.heap.size key nonce more) := R1.out.ext HX
        obtain ⟨k2a, k2b, k2c⟩ := R2.out
        have hG2 := hG1.ext HX
        clear HX
        go_wp2_with fail
        with_reducible refine (C2.out _ hG2).mono ?_
        rintro e w3 ⟨rfl, HX⟩
        have HX3 : Hid (Ext w w3) := HX2.out.trans HX
        have R3 : Hid (K3 w3 w.heap.size key nonce more) := R2.out.ext HX
        obtain ⟨k3a, k3b, k3c⟩ := R3.out
        have hG3 := hG2.ext HX
        clear HX
        go_wp2_with fail
        with_reducible refine (C3.out _ hG3).mono ?_
        rintro e w4 ⟨rfl, HX⟩
        have HX4 : Hid (Ext w w4) := HX3.out.trans HX
        have R4 : Hid (K3 w4 w.heap.size key nonce more) := R3.out.ext HX
        obtain ⟨k4a, k4b, k4c⟩ := R4.out
        have hG4 := hG3.ext HX
        clear HX
        go_wp2_with fail
        with_reducible refine (C4.out _ hG4).mono ?_
        rintro e w5 ⟨rfl, HX⟩
        have HX5 : Hid (Ext w w5) := HX4.out.trans HX
        have R5 : Hid (K3 w5 w.heap.size key nonce more) := R4.out.ext HX
        obtain ⟨k5a, k5b, k5c⟩ := R5.out
        have hG5 := hG4.ext HX
        clear HX
        go_wp2_with fail
        with_reducible refine (CA.out _ hG5).mono ?_
        rintro e w6 ⟨rfl, HX⟩
        have HX6 : Hid (Ext w w6) := HX5.out.trans HX
        have R6 : Hid (K3 w6 w.heap.size key nonce more) := R5.out.ext HX
        obtain ⟨k6a, k6b, k6c⟩ := R6.out
        have hG6 := hG5.ext HX
        clear HX
        go_wp2
        go_ret
        exact ⟨rfl, HX6.out⟩
      · obtain ⟨v, p, g, hp4⟩ : ∃ v p, openR key nonce s more = (v, p) ∧ p ≠ 0 := ⟨_, _, rfl, hp⟩
        rw [g] at C3 C4
        generalize sealR key nonce v more = q at *
        obtain ⟨q1, q2⟩ := q
        generalize sealS key nonce s more = t at *
        clear hp g hl CO CS
        go_enter Tryd.func5, Tryd.ntmps5
        go_wp2_with fail
        with_reducible refine (CF.out _).mono ?_
        rintro e w1 ⟨rfl, HX⟩
        have HX1 : Hid (Ext w w1) := HX0.out.trans HX
        have R1 : Hid (K3 w1 w.heap.size key nonce more) := R0.out.ext HX
        obtain ⟨k1a, k1b, k1c⟩ := R1.out
        have hG1 := hG0.ext HX
        clear HX
        go_wp2_with fail
        with_reducible refine (C1.out _ hG1).mono ?_
        rintro e w2 ⟨rfl, HX⟩
        have HX2 : Hid (Ext w w2) := HX1.out.trans HX
        have R2 : Hid (K3 w2 w.heap.size key nonce more) := R1.out.ext HX
        obtain ⟨k2a, k2b, k2c⟩ := R2.out
        have hG2 := hG1.ext HX
        clear HX
        go_wp2_with fail
        with_reducible refine (C2.out _ hG2).mono ?_
        rintro e w3 ⟨rfl, HX⟩
        have HX3 : Hid (Ext w w3) := HX2.out.trans HX
        have R3 : Hid (K3 w3 w.heap.size key nonce more) := R2.out.ext HX
        obtain ⟨k3a, k3b, k3c⟩ := R3.out
        have hG3 := hG2.ext HX
        clear HX
        go_wp2_with fail
        with_reducible refine (C3.out _ hG3).mono ?_
        rintro e w4 ⟨rfl, HX⟩
        have HX4 : Hid (Ext w w4) := HX3.out.trans HX
        have R4 : Hid (K3 w4 w.heap.size key nonce more) := R3.out.ext HX
        obtain ⟨k4a, k4b, k4c⟩ := R4.out
        have hG4 := hG3.ext HX
        clear HX
        go_wp2_with fail
        with_reducible refine (C4.out _ hG4).mono ?_
        rintro e w5 ⟨rfl, HX⟩
        have HX5 : Hid (Ext w w5) := HX4.out.trans HX
        have R5 : Hid (K3 w5 w.heap.size key nonce more) := R4.out.ext HX
        obtain ⟨k5a, k5b, k5c⟩ := R5.out
        have hG5 := hG4.ext HX
        clear HX
        go_wp2_with fail
        with_reducible refine (CA.out _ hG5).mono ?_
        rintro e w6 ⟨rfl, HX⟩
        have HX6 : Hid (Ext w w6) := HX5.out.trans HX
        have R6 : Hid (K3 w6 w.heap.size key nonce more) := R5.out.ext HX
        obtain ⟨k6a, k6b, k6c⟩ := R6.out
        have hG6 := hG5.ext HX
        clear HX
        go_wp2
        go_ret
        exact ⟨rfl, HX6.out⟩
    · have C2 : Hid _ := fun W => CO.out W ⟨#[]⟩ (by decide)
      rw [show openR key nonce ⟨#[]⟩ more = (⟨#[]⟩, 2) from if_pos (Or.inl (by decide))] at C2
      rw [show sealR key nonce s more = (⟨#[]⟩, 2) from if_neg hg] at C1
      have e0 : openR key nonce s more = (⟨#[]⟩, 2) := if_pos (Or.inr hg)
      rw [e0] at C3 C4
      rw [show sealR key nonce ⟨#[]⟩ more = (⟨#[]⟩, 2) from if_neg hg] at C4
      clear hl e0 CO CS
      go_enter Tryd.func5, Tryd.ntmps5
      go_wp2_with fail
      with_reducible refine (CF.out _).mono ?_
      rintro e w1 ⟨rfl, HX⟩
      have HX1 : Hid (Ext w w1) := HX0.out.trans HX
      have R1 : Hid (K3 w1 w.heap.size key nonce more) := R0.out.ext HX
      obtain ⟨k1a, k1b, k1c⟩ := R1.out
      have hG1 := hG0.ext HX
      clear HX
      go_wp2_with fail
      with_reducible refine (C1.out _ hG1).mono ?_
      rintro e w2 ⟨rfl, HX⟩
      have HX2 : Hid (Ext w w2) := HX1.out.trans HX
      have R2 : Hid (K3 w2 w.heap.size key nonce more) := R1.out.ext HX
      obtain ⟨k2a, k2b, k2c⟩ := R2.out
      have hG2 := hG1.ext HX
      clear HX
      go_wp2_with fail
      with_reducible refine (C2.out _ hG2).mono ?_
      rintro e w3 ⟨rfl, HX⟩
      have HX3 : Hid (Ext w w3) := HX2.out.trans HX
      have R3 : Hid (K3 w3 w.heap.size key nonce more) := R2.out.ext HX
      obtain ⟨k3a, k3b, k3c⟩ := R3.out
      have hG3 := hG2.ext HX
      clear HX
      go_wp2_with fail
      with_reducible refine (C3.out _ hG3).mono ?_
      rintro e w4 ⟨rfl, HX⟩
      have HX4 : Hid (Ext w w4) := HX3.out.trans HX
      have R4 : Hid (K3 w4 w.heap.size key nonce more) := R3.out.ext HX
      obtain ⟨k4a, k4b, k4c⟩ := R4.out
      have hG4 := hG3.ext HX
      clear HX
      go_wp2_with fail
      with_reducible refine (C4.out _ hG4).mono ?_
      rintro e w5 ⟨rfl, HX⟩
      have HX5 : Hid (Ext w w5) := HX4.out.trans HX
      have R5 : Hid (K3 w5 w.heap.size key nonce more) := R4.out.ext HX
      obtain ⟨k5a, k5b, k5c⟩ := R5.out
      have hG5 := hG4.ext HX
      clear HX
      go_wp2_with fail
      with_reducible refine (CA.out _ hG5).mono ?_
      rintro e w6 ⟨rfl, HX⟩
      have HX6 : Hid (Ext w w6) := HX5.out.trans HX
      have R6 : Hid (K3 w6 w.heap.size key nonce more) := R5.out.ext HX
      obtain ⟨k6a, k6b, k6c⟩ := R6.out
      have hG6 := hG5.ext HX
      clear HX
      go_wp2
      go_ret
      exact ⟨rfl, HX6.out⟩
end Go.Proofs.YtbcgipapbamgfaaDoor
