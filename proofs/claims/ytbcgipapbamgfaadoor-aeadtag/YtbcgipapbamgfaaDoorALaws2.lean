/-
  The law AeadTag (sandglasslaw11), called: true, whatever the lock, the text and the bit.
-/
import Derived.Test.YtbcgipapbamgfaaDoorALaws
namespace Go.Proofs.YtbcgipapbamgfaaDoor
open Go.RowKit
theorem xor_self_zero {a b : Nat} (h : a ^^^ b = a) : b = 0 := by
  have e : a ^^^ (a ^^^ b) = b := by rw [← Nat.xor_assoc, Nat.xor_self, Nat.zero_xor]
  rw [h, Nat.xor_self] at e
  exact e.symm
theorem flip_open (key nonce s more : ByteArray) (hk : key.size = 32) (ho : nonce.size = 12) (j v : Nat) (h1 : s.size ≤ j) (h2 : j < s.size + 16) (h3 : v < 256) (h4 : v ≠ sb (sealS key nonce s more) j) :
    openR key nonce (mkS (put (sb (sealS key nonce s more)) j v) (sealS key nonce s more).size) more = (⟨#[]⟩, 4) := by
  have ht := sealS_size key nonce s more
  have hb := body_seal key nonce s more
  have htl := tail_seal key nonce s more
  generalize sealS key nonce s more = t at *
  have hlt : ∀ i, put (sb t) j v i < 256 := fun i => by unfold put; split; exact h3; exact sb_lt _ _
  have e1 : bodyS (mkS (put (sb t) j v) t.size) = xorS key nonce 1 s := by
    rw [← hb]
    unfold bodyS
    rw [mkS_size, mkS_take (by omega)]
    rw [← mkS_sb t, mkS_size]
    rw [mkS_take (by omega)]
    refine mkS_congr fun i hi => ?_
    unfold put
    rw [if_neg (by omega), mkS_sb]
  have e2 : tagS key nonce (xorS key nonce 1 s) more ≠ tailS (mkS (put (sb t) j v) t.size) := by
    intro h
    rw [← htl] at h
    apply h4
    have e3 : sb (tailS t) (j - s.size) = sb (tailS (mkS (put (sb t) j v) t.size)) (j - s.size) := by rw [h]
    unfold tailS at e3
    rw [sb_extract, sb_extract, mkS_size, ht, Nat.add_sub_cancel, show s.size + (j - s.size) = j by omega] at e3
    rw [e3, sb_mkS hlt (by omega)]
    unfold put
    rw [if_pos rfl]
  unfold openR
  rw [if_neg (by rw [mkS_size]; omega), e1, if_neg e2]
theorem tag_nums (a : Int) (n : Nat) (hn : n ≤ 2000) : ∃ A i q m j bt : Nat, IntKind.u64.wrap a = (A : Int) ∧ (A : Int).tmod 128 = (i : Int) ∧ IntKind.u64.wrap (i : Int) = (i : Int) ∧ IntKind.i64.wrap (i : Int) = (i : Int) ∧ (i : Int).tdiv 8 = (q : Int) ∧ IntKind.i64.wrap (q : Int) = (q : Int) ∧ IntKind.i64.wrap ((n : Int) + (q : Int)) = (j : Int) ∧ (i : Int).tmod 8 = (m : Int) ∧ IntKind.i64.wrap (m : Int) = (m : Int) ∧ IntKind.u64.wrap (m : Int) = (m : Int) ∧ IntKind.u8.wrap (2 ^ m) = (bt : Int) ∧ m < 8 ∧ (n ≤ j ∧ j < n + 16 ∧ bt < 256) ∧ bt ≠ 0 := by
  obtain ⟨A, hA⟩ : ∃ A : Nat, a % 18446744073709551616 = (A : Int) := ⟨(a % 18446744073709551616).toNat, by omega⟩
  have hm : A % 128 % 8 < 8 := Nat.mod_lt _ (by decide)
  refine ⟨A, A % 128, A % 128 / 8, A % 128 % 8, n + A % 128 / 8, 2 ^ (A % 128 % 8), ?_, rfl, ?_, ?_, rfl, ?_, ?_, rfl, ?_, ?_, ?_, hm, ⟨by omega, by omega, ?_⟩, ?_⟩
  · rw [IntKind.wrap_u64]; omega
  · rw [IntKind.wrap_u64]; omega
  · rw [IntKind.wrap_i64]; omega
  · rw [IntKind.wrap_i64]; omega
  · rw [IntKind.wrap_i64]; omega
  · rw [IntKind.wrap_i64]; omega
  · rw [IntKind.wrap_u64]; omega
  · generalize A % 128 % 8 = m at hm
    obtain rfl | rfl | rfl | rfl | rfl | rfl | rfl | rfl : m = 0 ∨ m = 1 ∨ m = 2 ∨ m = 3 ∨ m = 4 ∨ m = 5 ∨ m = 6 ∨ m = 7 := by omega
    all_goals rfl
  · generalize A % 128 % 8 = m at hm
    obtain rfl | rfl | rfl | rfl | rfl | rfl | rfl | rfl : m = 0 ∨ m = 1 ∨ m = 2 ∨ m = 3 ∨ m = 4 ∨ m = 5 ∨ m = 6 ∨ m = 7 := by omega
    all_goals decide
  · exact Nat.ne_of_gt (Nat.two_pow_pos _)
/-- A text turned to bytes. -/
theorem bytes_tab (w : World) (s : ByteArray) (hsm : s.size ≤ maxLen) : ∃ X c0, (convert 9 31 (.string s)).run Tryd.prog w = .ok (.slice (some ⟨w.heap.size, 0, none⟩) s.size c0) X ∧ TabN X w.heap.size .u8 s.size (sb s) ∧ Ext w X := by
  have hcv := Lib.run_convert_string_bytes w 9 31 5 s Tryd.underlying9 Tryd.underlying31 Tryd.underlying5
  have HO0 := bytes_own w 5 s hsm
  obtain ⟨g', cap', e, hb, hg, hcn, hm, hc, hf⟩ := HO0
  injection e with e0 _ e2
  injection e0 with e0
  injection e0 with e0 _ _
  refine ⟨_, _, hcv, ?_, bytes_ext _ _ _⟩
  rw [← e0] at hg hc hf
  exact ⟨hg, fun k hk2 => ⟨hc k hk2, (hf k (by omega)).2⟩⟩
theorem cell_lt {w : World} {b i : Nat} {v : Value} (h : w.cell? ⟨b, i, none⟩ = some v) : b < w.heap.size := by
  refine Decidable.byContradiction fun hn => ?_
  have e : w.heap[b]? = none := Array.getElem?_eq_none (by omega)
  simp [World.cell?, e] at h
theorem K3.past {w : World} {b g i : Nat} {v : Value} {key nonce more : ByteArray} (h : K3 w b key nonce more) (hb : b < g) : K3 (w.setCell ⟨g, i, none⟩ v) b key nonce more := by
  have e : ∀ k, (w.setCell ⟨g, i, none⟩ v).cell? ⟨b, k, none⟩ = w.cell? ⟨b, k, none⟩ := fun k => World.cell?_setCell_other _ _ _ _ (by intro e; injection e with e _ _; omega)
  exact ⟨(e 0).trans h.1, (e 1).trans h.2.1, (e 2).trans h.2.2⟩
set_option maxRecDepth 10000 in
set_option maxHeartbeats 2000000 in
theorem aeadTag_any (key nonce more : ByteArray) (s : ByteArray) (at_ : Int) (w : World) (hG : Gl w) :
    Calls Tryd.prog 6 #[.agg #[.string key, .string nonce, .string more], .string s, .int .i64 at_] w fun e w' => e = .returned (.bool true) ∧ Ext w w' := by
  have HX0 : Hid (Ext w (w.alloc (.cells #[.string key, .string nonce, .string more] 23))) := (Ext.refl _).alloc _
  have R0 : Hid (K3 (w.alloc (.cells #[.string key, .string nonce, .string more] 23)) w.heap.size key nonce more) := ⟨by rw [World.cell?_alloc_at _ _ _ _ rfl]; rfl, by rw [World.cell?_alloc_at _ _ _ _ rfl]; rfl, by rw [World.cell?_alloc_at _ _ _ _ rfl]; rfl⟩
  have hG0 := hG.ext HX0.out
  have CA : Hid (∀ W, Gl W → Calls Tryd.prog 9 #[] W fun e w' => e = .returned (.bool true) ∧ Ext W w') := awake_any
  have CF : Hid (∀ W, Calls Tryd.prog 8 #[.agg #[.string key, .string nonce, .string more], .string s] W fun e w' => e = .returned (.bool (fewB more s)) ∧ Ext W w') := fun W => few_any key nonce more s W
  by_cases hf : more.size ≤ 1000 ∧ s.size ≤ 2000
  case neg =>
    rw [show fewB more s = false from decide_eq_false hf] at CF
    go_enter Tryd.func6, Tryd.ntmps6
    go_wp2_with fail
    with_reducible refine (CF.out _).mono ?_
    rintro e w1 ⟨rfl, HX⟩
    have HX1 : Hid (Ext w w1) := HX0.out.trans HX
    have hG1 := hG0.ext HX
    clear HX
    go_wp2_with fail
    with_reducible refine (CA.out _ hG1).mono ?_
    rintro e w2 ⟨rfl, HX⟩
    have HX2 : Hid (Ext w w2) := HX1.out.trans HX
    have hG2 := hG1.ext HX
    clear HX
    go_wp2
    go_ret
    exact ⟨rfl, HX2.out⟩
  case pos =>
    rw [show fewB more s = true from decide_eq_true hf] at CF
    obtain ⟨hf1, hf2⟩ := hf
    have C1 : Hid (∀ W, Gl W → Calls Tryd.prog 10 #[.string key, .string nonce, .string s, .string more] W fun e w' => e = .returned (.tuple #[.string (sealR key nonce s more).1, .int .i64 (sealR key nonce s more).2]) ∧ Ext W w') := fun W g => aseal_any key nonce s more hf1 (by omega) W g
    by_cases hg : key.size = 32 ∧ nonce.size = 12
    · rw [show sealR key nonce s more = (sealS key nonce s more, 0) from if_pos hg] at C1
      have ht : (sealS key nonce s more).size = s.size + 16 := sealS_size _ _ _ _
      have hb : IntKind.i64.wrap ((s.size : Int) + 16) = ((sealS key nonce s more).size : Int) := by rw [IntKind.wrap_i64, ht]; omega
      have HFl : Hid (∀ j v, s.size ≤ j → j < (sealS key nonce s more).size → v < 256 → v ≠ sb (sealS key nonce s more) j → openR key nonce (mkS (put (sb (sealS key nonce s more)) j v) (sealS key nonce s more).size) more = (⟨#[]⟩, 4)) := fun j v h1 h2 h3 h4 => flip_open key nonce s more hg.1 hg.2 j v h1 (by rw [← ht]; exact h2) h3 h4
      obtain ⟨A, i, q, m, j, bt, f1, f2, f3, f4, f5, f6, f7, f8, f9, fa, fb, fc, fd, fe⟩ := tag_nums at_ s.size hf2
      generalize hS : sealS key nonce s more = t at *
      clear hS
      obtain ⟨L, hL⟩ : ∃ L, t.size = L := ⟨_, rfl⟩
      rw [hL] at ht hb HFl
      have HL : Hid (L = s.size + 16) := ht
      clear ht
      go_enter Tryd.func6, Tryd.ntmps6
      go_wp2_with fail
      with_reducible refine (CF.out _).mono ?_
      rintro e w1 ⟨rfl, HX⟩
      have HX1 : Hid (Ext w w1) := HX0.out.trans HX
      have R1 : Hid (K3 w1 w.heap.size key nonce more) := R0.out.ext HX
      obtain ⟨k1a, k1b, k1c⟩ := R1.out
      have hG1 := hG0.ext HX
      clear HX
      go_wp2_with fail
      with_reducible refine (C1.out _ hG1).mono ?_
      rintro e w2 ⟨rfl, HX⟩
      have HX2 : Hid (Ext w w2) := HX1.out.trans HX
      have R2 : Hid (K3 w2 w.heap.size key nonce more) := R1.out.ext HX
      obtain ⟨k2a, k2b, k2c⟩ := R2.out
      have hG2 := hG1.ext HX
      clear HX
      obtain ⟨X, c0, hcv, HT0, HXX⟩ := bytes_tab w2 t (by have := HL.out; unfold maxLen; omega)
      rw [hL] at hcv HT0
      have HX3 : Hid (Ext w X) := HX2.out.trans HXX
      have R3 : Hid (K3 X w.heap.size key nonce more) := R2.out.ext HXX
      have hgw : Hid (w.heap.size < w2.heap.size) := cell_lt k2a
      have hjt : j < L := by have := HL.out; omega
      obtain ⟨gp, gfz⟩ := HT0.2 j hjt
      have j0 : (0 : Int) ≤ (j : Int) := by omega
      have j1 : (j : Int) < (L : Int) := by omega
      obtain ⟨v, hv⟩ : ∃ v, sb t j ^^^ bt = v := ⟨_, rfl⟩
      have ex : bits BinOp.xor IntKind.u8 (sb t j : Int) (bt : Int) = (v : Int) := by rw [u8_xor_nat _ _ (sb_lt _ _) (by omega), hv]
      have hv8 : v < 256 := hv ▸ Nat.xor_lt_two_pow (n := 8) (sb_lt _ _) (by omega)
      have hne : v ≠ sb t j := fun h => fe (xor_self_zero (hv.trans h))
      have hop := HFl.out j v (by omega) hjt hv8 hne
      have HT1 : TabN (X.setCell ⟨w2.heap.size, j, none⟩ (.int .u8 (v : Int))) w2.heap.size .u8 L (put (sb t) j v) := HT0.set j v
      have HX4 : Hid (Ext w (X.setCell ⟨w2.heap.size, j, none⟩ (.int .u8 (v : Int)))) := Ext.st (i := j) (v := .int .u8 (v : Int)) HX2.out.size HX3.out
      have R4 : Hid (K3 (X.setCell ⟨w2.heap.size, j, none⟩ (.int .u8 (v : Int))) w.heap.size key nonce more) := R3.out.past hgw.out
      obtain ⟨k4a, k4b, k4c⟩ := R4.out
      have hcs := lst_string (put (sb t) j v) L w2.heap.size c0 _ HT1 (by have := HL.out; unfold maxLen; omega)
      have C2 : Hid (∀ W, Gl W → Calls Tryd.prog 12 #[.string key, .string nonce, .string (mkS (put (sb t) j v) L), .string more] W fun e w' => e = .returned (.tuple #[.string ⟨#[]⟩, .int .i64 4]) ∧ Ext W w') := fun W g => by
        have := aopen_any key nonce (mkS (put (sb t) j v) L) more hf1 (by have := HL.out; rw [mkS_size]; omega) W g
        rw [hop] at this
        exact this
      have hG4 := hG.ext HX4.out
      generalize mkS (put (sb t) j v) L = SS at *
      generalize sb t j = tb at *
      clear hv hop HT0 HT1 HFl hne HXX
      go_wp2_with fail
      with_reducible refine (C2.out _ hG4).mono ?_
      rintro e w5 ⟨rfl, HX⟩
      have HX5 : Hid (Ext w w5) := HX4.out.trans HX
      have R5 : Hid (K3 w5 w.heap.size key nonce more) := R4.out.ext HX
      obtain ⟨k5a, k5b, k5c⟩ := R5.out
      have hG5 := hG4.ext HX
      clear HX
      go_wp2_with fail
      with_reducible refine (CA.out _ hG5).mono ?_
      rintro e w6 ⟨rfl, HX⟩
      have HX6 : Hid (Ext w w6) := HX5.out.trans HX
      have R6 : Hid (K3 w6 w.heap.size key nonce more) := R5.out.ext HX
      obtain ⟨k6a, k6b, k6c⟩ := R6.out
      have hG6 := hG5.ext HX
      clear HX
      go_wp2
      go_ret
      exact ⟨rfl, HX6.out⟩
    · rw [show sealR key nonce s more = (⟨#[]⟩, 2) from if_neg hg] at C1
      go_enter Tryd.func6, Tryd.ntmps6
      go_wp2_with fail
      with_reducible refine (CF.out _).mono ?_
      rintro e w1 ⟨rfl, HX⟩
      have HX1 : Hid (Ext w w1) := HX0.out.trans HX
      have R1 : Hid (K3 w1 w.heap.size key nonce more) := R0.out.ext HX
      obtain ⟨k1a, k1b, k1c⟩ := R1.out
      have hG1 := hG0.ext HX
      clear HX
      go_wp2_with fail
      with_reducible refine (C1.out _ hG1).mono ?_
      rintro e w2 ⟨rfl, HX⟩
      have HX2 : Hid (Ext w w2) := HX1.out.trans HX
      have R2 : Hid (K3 w2 w.heap.size key nonce more) := R1.out.ext HX
      obtain ⟨k2a, k2b, k2c⟩ := R2.out
      have hG2 := hG1.ext HX
      clear HX
      go_wp2_with fail
      with_reducible refine (CA.out _ hG2).mono ?_
      rintro e w3 ⟨rfl, HX⟩
      have HX3 : Hid (Ext w w3) := HX2.out.trans HX
      have R3 : Hid (K3 w3 w.heap.size key nonce more) := R2.out.ext HX
      obtain ⟨k3a, k3b, k3c⟩ := R3.out
      have hG3 := hG2.ext HX
      clear HX
      go_wp2
      go_ret
      exact ⟨rfl, HX3.out⟩
end Go.Proofs.YtbcgipapbamgfaaDoor
