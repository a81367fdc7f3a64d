/-
  The law's own examples (sandglasslaw11.awake), called: true; nothing old is turned. And key, nonce, few.
-/
import Derived.Test.YtbcgipapbamgfaaDoorAFace
namespace Go.Proofs.YtbcgipapbamgfaaDoor
open Go.RowKit
set_option maxHeartbeats 400000 in
theorem key_any (w : World) : Calls Tryd.prog 14 #[] w fun e w' => e = .returned (.string (zS 32)) ∧ Ext w w' := by
  obtain ⟨i0, hi, hz0, hz1, hz2⟩ := info_parts Tryd.info5
  go_enter Tryd.func14, Tryd.ntmps14
  go_wp2_with (first | (at_make; refine wpList_make_full _ rfl _ _ 31 rfl w.heap.size 5 i0 (.int .u8 0) 1 Tryd.underlying31 hi hz0 hz1 _ _ _ _ 32 rfl rfl ?m1a ?m2a ?m3a ?m4a ?m5a ?_))
  any_goals (first | rfl | decide | exact Nat.le_refl _ | (rw [hz2]; decide))
  intro w1 hown hgrow
  have HT0 : TabN w1 w.heap.size .u8 32 (fun _ => 0) := own_tab (by rw [made_lst'] at hown; exact hown)
  have HE1 : Hid (Ext w w1) := ext_grown (Ext.refl _) hgrow (by simp)
  have hcs := run_lst_string Tryd.prog 5 31 9 Tryd.underlying31 Tryd.underlying5 Tryd.underlying9 w1 (fun _ => 0) 32 _ (HT0.slice (c := 32) (by decide)) (by decide)
  obtain ⟨Z, HZ⟩ : ∃ Z, Hid (zS 32 = Z) := ⟨_, rfl⟩
  rw [show mkS (fun _ => 0) 32 = Z from HZ.out] at hcs
  clear hown hgrow HT0
  go_wp2
  go_ret
  exact ⟨by rw [HZ.out]; rfl, HE1.out⟩
set_option maxHeartbeats 400000 in
theorem nonce_any (w : World) : Calls Tryd.prog 15 #[] w fun e w' => e = .returned (.string (zS 12)) ∧ Ext w w' := by
  obtain ⟨i0, hi, hz0, hz1, hz2⟩ := info_parts Tryd.info5
  go_enter Tryd.func15, Tryd.ntmps15
  go_wp2_with (first | (at_make; refine wpList_make_full _ rfl _ _ 31 rfl w.heap.size 5 i0 (.int .u8 0) 1 Tryd.underlying31 hi hz0 hz1 _ _ _ _ 12 rfl rfl ?m1a ?m2a ?m3a ?m4a ?m5a ?_))
  any_goals (first | rfl | decide | exact Nat.le_refl _ | (rw [hz2]; decide))
  intro w1 hown hgrow
  have HT0 : TabN w1 w.heap.size .u8 12 (fun _ => 0) := own_tab (by rw [made_lst'] at hown; exact hown)
  have HE1 : Hid (Ext w w1) := ext_grown (Ext.refl _) hgrow (by simp)
  have hcs := run_lst_string Tryd.prog 5 31 9 Tryd.underlying31 Tryd.underlying5 Tryd.underlying9 w1 (fun _ => 0) 12 _ (HT0.slice (c := 12) (by decide)) (by decide)
  obtain ⟨Z, HZ⟩ : ∃ Z, Hid (zS 12 = Z) := ⟨_, rfl⟩
  rw [show mkS (fun _ => 0) 12 = Z from HZ.out] at hcs
  clear hown hgrow HT0
  go_wp2
  go_ret
  exact ⟨by rw [HZ.out]; rfl, HE1.out⟩
set_option maxRecDepth 100000 in
theorem ab_xor : (xorS (zS 32) (zS 12) 1 ⟨#[97, 98, 99]⟩).data.toList ≠ [97, 98, 99] := by decide +kernel
set_option maxRecDepth 100000 in
theorem tag_apart : (tagS (zS 32) (zS 12) (xorS (zS 32) (zS 12) 1 ⟨#[97, 98, 99]⟩) ⟨#[120]⟩).data.toList ≠ (tagS (zS 32) (zS 12) (xorS (zS 32) (zS 12) 1 ⟨#[97, 98, 99]⟩) ⟨#[121]⟩).data.toList := by decide +kernel
theorem open_y : openR (zS 32) (zS 12) (sealS (zS 32) (zS 12) ⟨#[97, 98, 99]⟩ ⟨#[120]⟩) ⟨#[121]⟩ = (⟨#[]⟩, 4) := by
  unfold openR
  rw [if_neg (by rw [sealS_size, zS_size, zS_size]; omega), body_seal, tail_seal, if_neg (fun h => tag_apart (by rw [h]))]
theorem seal_abc : ((sealS (zS 32) (zS 12) ⟨#[97, 98, 99]⟩ ⟨#[120]⟩).extract 0 3).toList ≠ [97, 98, 99] := by
  have h := body_seal (zS 32) (zS 12) ⟨#[97, 98, 99]⟩ ⟨#[120]⟩
  unfold bodyS at h
  rw [sealS_size] at h
  have e : (sealS (zS 32) (zS 12) ⟨#[97, 98, 99]⟩ ⟨#[120]⟩).extract 0 3 = xorS (zS 32) (zS 12) 1 ⟨#[97, 98, 99]⟩ := h
  rw [e, ByteArray.toList_eq]
  exact ab_xor
set_option maxHeartbeats 1000000 in
theorem awake_any (w : World) (hG0 : Gl w) : Calls Tryd.prog 9 #[] w fun e w' => e = .returned (.bool true) ∧ Ext w w' := by
  have a1 : (sealS (zS 32) (zS 12) ⟨#[97, 98, 99]⟩ ⟨#[120]⟩).size = 19 := sealS_size _ _ _ _
  have a2 := beq_eq_false_iff_ne.2 seal_abc
  have C1 : Hid (∀ W, Calls Tryd.prog 14 #[] W fun e w' => e = .returned (.string (zS 32)) ∧ Ext W w') := key_any
  have C2 : Hid (∀ W, Calls Tryd.prog 15 #[] W fun e w' => e = .returned (.string (zS 12)) ∧ Ext W w') := nonce_any
  have C3 : Hid (∀ W, Gl W → Calls Tryd.prog 10 #[.string (zS 32), .string (zS 12), .string ⟨#[97, 98, 99]⟩, .string ⟨#[120]⟩] W fun e w' => e = .returned (.tuple #[.string (sealS (zS 32) (zS 12) ⟨#[97, 98, 99]⟩ ⟨#[120]⟩), .int .i64 0]) ∧ Ext W w') := fun W g => by
    have := aseal_any (zS 32) (zS 12) ⟨#[97, 98, 99]⟩ ⟨#[120]⟩ (by decide) (by decide) W g
    rw [show sealR (zS 32) (zS 12) ⟨#[97, 98, 99]⟩ ⟨#[120]⟩ = (sealS (zS 32) (zS 12) ⟨#[97, 98, 99]⟩ ⟨#[120]⟩, 0) from if_pos ⟨zS_size _, zS_size _⟩] at this
    exact this
  have C4 : Hid (∀ W, Gl W → Calls Tryd.prog 12 #[.string (zS 32), .string (zS 12), .string (sealS (zS 32) (zS 12) ⟨#[97, 98, 99]⟩ ⟨#[120]⟩), .string ⟨#[120]⟩] W fun e w' => e = .returned (.tuple #[.string ⟨#[97, 98, 99]⟩, .int .i64 0]) ∧ Ext W w') := fun W g => by
    have := aopen_any (zS 32) (zS 12) (sealS (zS 32) (zS 12) ⟨#[97, 98, 99]⟩ ⟨#[120]⟩) ⟨#[120]⟩ (by decide) (by rw [a1]; decide) W g
    rw [open_seal _ _ _ _ (zS_size _) (zS_size _)] at this
    exact this
  have C5 : Hid (∀ W, Gl W → Calls Tryd.prog 12 #[.string (zS 32), .string (zS 12), .string (sealS (zS 32) (zS 12) ⟨#[97, 98, 99]⟩ ⟨#[120]⟩), .string ⟨#[121]⟩] W fun e w' => e = .returned (.tuple #[.string ⟨#[]⟩, .int .i64 4]) ∧ Ext W w') := fun W g => by
    have := aopen_any (zS 32) (zS 12) (sealS (zS 32) (zS 12) ⟨#[97, 98, 99]⟩ ⟨#[120]⟩) ⟨#[121]⟩ (by decide) (by rw [a1]; decide) W g
    rw [open_y] at this
    exact this
  have C6 : Hid (∀ W, Gl W → Calls Tryd.prog 12 #[.string (zS 32), .string (zS 12), .string ⟨#[]⟩, .string ⟨#[]⟩] W fun e w' => e = .returned (.tuple #[.string ⟨#[]⟩, .int .i64 2]) ∧ Ext W w') := fun W g => by
    have := aopen_any (zS 32) (zS 12) ⟨#[]⟩ ⟨#[]⟩ (by decide) (by decide) W g
    rw [show openR (zS 32) (zS 12) ⟨#[]⟩ ⟨#[]⟩ = (⟨#[]⟩, 2) from if_pos (Or.inl (by decide))] at this
    exact this
  have C7 : Hid (∀ W, Gl W → Calls Tryd.prog 10 #[.string ⟨#[]⟩, .string ⟨#[]⟩, .string ⟨#[]⟩, .string ⟨#[]⟩] W fun e w' => e = .returned (.tuple #[.string ⟨#[]⟩, .int .i64 2]) ∧ Ext W w') := fun W g => by
    have := aseal_any ⟨#[]⟩ ⟨#[]⟩ ⟨#[]⟩ ⟨#[]⟩ (by decide) (by decide) W g
    rw [show sealR ⟨#[]⟩ ⟨#[]⟩ ⟨#[]⟩ ⟨#[]⟩ = (⟨#[]⟩, 2) from if_neg (by decide)] at this
    exact this
  have HX0 : Hid (Ext w w) := Ext.refl w
  generalize sealS (zS 32) (zS 12) ⟨#[97, 98, 99]⟩ ⟨#[120]⟩ = SS at *
  generalize zS 32 = Z1 at *
  generalize zS 12 = Z2 at *
  have a3 : (3 : Int) ≤ (SS.size : Int) := by omega
  go_enter Tryd.func9, Tryd.ntmps9
  go_wp2_with fail
  with_reducible refine (C1.out _).mono ?_
  rintro e w1 ⟨rfl, HX⟩
  have HX1 : Hid (Ext w w1) := HX0.out.trans HX
  have hG1 := hG0.ext HX
  clear HX
  go_wp2_with fail
  with_reducible refine (C2.out _).mono ?_
  rintro e w2 ⟨rfl, HX⟩
  have HX2 : Hid (Ext w w2) := HX1.out.trans HX
  have hG2 := hG1.ext HX
  clear HX
  go_wp2_with fail
  with_reducible refine (C3.out _ hG2).mono ?_
  rintro e w3 ⟨rfl, HX⟩
  have HX3 : Hid (Ext w w3) := HX2.out.trans HX
  have hG3 := hG2.ext HX
  clear HX
  go_wp2_with fail
  with_reducible refine (C1.out _).mono ?_
  rintro e w4 ⟨rfl, HX⟩
  have HX4 : Hid (Ext w w4) := HX3.out.trans HX
  have hG4 := hG3.ext HX
  clear HX
  go_wp2_with fail
  with_reducible refine (C2.out _).mono ?_
  rintro e w5 ⟨rfl, HX⟩
  have HX5 : Hid (Ext w w5) := HX4.out.trans HX
  have hG5 := hG4.ext HX
  clear HX
  go_wp2_with fail
  with_reducible refine (C4.out _ hG5).mono ?_
  rintro e w6 ⟨rfl, HX⟩
  have HX6 : Hid (Ext w w6) := HX5.out.trans HX
  have hG6 := hG5.ext HX
  clear HX
  go_wp2_with fail
  with_reducible refine (C1.out _).mono ?_
  rintro e w7 ⟨rfl, HX⟩
  have HX7 : Hid (Ext w w7) := HX6.out.trans HX
  have hG7 := hG6.ext HX
  clear HX
  go_wp2_with fail
  with_reducible refine (C2.out _).mono ?_
  rintro e w8 ⟨rfl, HX⟩
  have HX8 : Hid (Ext w w8) := HX7.out.trans HX
  have hG8 := hG7.ext HX
  clear HX
  go_wp2_with fail
  with_reducible refine (C5.out _ hG8).mono ?_
  rintro e w9 ⟨rfl, HX⟩
  have HX9 : Hid (Ext w w9) := HX8.out.trans HX
  have hG9 := hG8.ext HX
  clear HX
  go_wp2_with fail
  with_reducible refine (C1.out _).mono ?_
  rintro e w10 ⟨rfl, HX⟩
  have HX10 : Hid (Ext w w10) := HX9.out.trans HX
  have hG10 := hG9.ext HX
  clear HX
  go_wp2_with fail
  with_reducible refine (C2.out _).mono ?_
  rintro e w11 ⟨rfl, HX⟩
  have HX11 : Hid (Ext w w11) := HX10.out.trans HX
  have hG11 := hG10.ext HX
  clear HX
  go_wp2_with fail
  with_reducible refine (C6.out _ hG11).mono ?_
  rintro e w12 ⟨rfl, HX⟩
  have HX12 : Hid (Ext w w12) := HX11.out.trans HX
  have hG12 := hG11.ext HX
  clear HX
  go_wp2_with fail
  with_reducible refine (C7.out _ hG12).mono ?_
  rintro e w13 ⟨rfl, HX⟩
  have HX13 : Hid (Ext w w13) := HX12.out.trans HX
  have hG13 := hG12.ext HX
  clear HX
  go_wp2
  go_ret
  exact ⟨rfl, HX13.out⟩
def fewB (more s : ByteArray) : Bool := decide (more.size ≤ 1000 ∧ s.size ≤ 2000)
set_option maxHeartbeats 400000 in
theorem few_any (key nonce more s : ByteArray) (w : World) :
    Calls Tryd.prog 8 #[.agg #[.string key, .string nonce, .string more], .string s] w fun e w' => e = .returned (.bool (fewB more s)) ∧ Ext w w' := by
  have HW : Hid (Ext w (w.alloc (.cells #[.string key, .string nonce, .string more] 23))) := (Ext.refl _).alloc _
  by_cases h1 : more.size ≤ 1000
  · have h2 : (more.size : Int) ≤ 1000 := by omega
    by_cases h3 : s.size ≤ 2000
    · have h4 : (s.size : Int) ≤ 2000 := by omega
      rw [show fewB more s = true from decide_eq_true ⟨h1, h3⟩]
      go_enter Tryd.func8, Tryd.ntmps8
      go_wp2
      go_ret
      exact ⟨rfl, HW.out⟩
    · have h4 : ¬ (s.size : Int) ≤ 2000 := by omega
      rw [show fewB more s = false from decide_eq_false (fun h => h3 h.2)]
      go_enter Tryd.func8, Tryd.ntmps8
      go_wp2
      go_ret
      exact ⟨rfl, HW.out⟩
  · have h2 : ¬ (more.size : Int) ≤ 1000 := by omega
    rw [show fewB more s = false from decide_eq_false (fun h => h1 h.1)]
    go_enter Tryd.func8, Tryd.ntmps8
    go_wp2
    go_ret
    exact ⟨rfl, HW.out⟩
end Go.Proofs.YtbcgipapbamgfaaDoor
