/-
  The law AeadStream (sandglasslaw11), called: true, whatever the lock and the texts.
-/
import Derived.Test.YtbcgipapbamgfaaDoorALaws
namespace Go.Proofs.YtbcgipapbamgfaaDoor
open Go.RowKit
theorem sb_seal (key nonce s more : ByteArray) (i : Nat) (h : i < s.size) : sb (sealS key nonce s more) i = sb s i ^^^ strB key nonce 1 i := by
  unfold sealS
  rw [sb_append, if_pos (by rw [xorS_size]; exact h)]
  exact sb_mkS (fun j => Nat.xor_lt_two_pow (n := 8) (sb_lt s j) (strB_lt key nonce 1 j)) h
theorem seal_xor (key nonce s t m1 m2 : ByteArray) (i : Nat) (h1 : i < s.size) (h2 : i < t.size) : sb (sealS key nonce s m1) i ^^^ sb (sealS key nonce t m2) i = sb s i ^^^ sb t i := by
  rw [sb_seal _ _ _ _ _ h1, sb_seal _ _ _ _ _ h2, Nat.xor_assoc, Nat.xor_comm (sb t i), ← Nat.xor_assoc (strB key nonce 1 i), Nat.xor_self, Nat.zero_xor]
set_option maxRecDepth 10000 in
set_option maxHeartbeats 2000000 in
theorem aeadStream_any (key nonce more : ByteArray) (s t : ByteArray) (w : World) (hG : Gl w) :
    Calls Tryd.prog 7 #[.agg #[.string key, .string nonce, .string more], .string s, .string t] w fun e w' => e = .returned (.bool true) ∧ Ext w w' := by
  have HX0 : Hid (Ext w (w.alloc (.cells #[.string key, .string nonce, .string more] 23))) := (Ext.refl _).alloc _
  have R0 : Hid (K3 (w.alloc (.cells #[.string key, .string nonce, .string more] 23)) w.heap.size key nonce more) := ⟨by rw [World.cell?_alloc_at _ _ _ _ rfl]; rfl, by rw [World.cell?_alloc_at _ _ _ _ rfl]; rfl, by rw [World.cell?_alloc_at _ _ _ _ rfl]; rfl⟩
  have hG0 := hG.ext HX0.out
  have CA : Hid (∀ W, Gl W → Calls Tryd.prog 9 #[] W fun e w' => e = .returned (.bool true) ∧ Ext W w') := awake_any
  have CF : Hid (∀ W, Calls Tryd.prog 8 #[.agg #[.string key, .string nonce, .string more], .string s] W fun e w' => e = .returned (.bool (fewB more s)) ∧ Ext W w') := fun W => few_any key nonce more s W
  by_cases hf : more.size ≤ 1000 ∧ s.size ≤ 2000
  case neg =>
    rw [show fewB more s = false from decide_eq_false hf] at CF
    go_enter Tryd.func7, Tryd.ntmps7
    go_wp2_with fail
    with_reducible refine (CF.out _).mono ?_
    rintro e w1 ⟨rfl, HX⟩
    have HX1 : Hid (Ext w w1) := HX0.out.trans HX
    have hG1 := hG0.ext HX
    clear HX
    go_wp2_with fail
    with_reducible refine (CA.out _ hG1).mono ?_
    rintro e w2 ⟨rfl, HX⟩
    have HX2 : Hid (Ext w w2) := HX1.out.trans HX
    have hG2 := hG1.ext HX
    clear HX
    go_wp2
    go_ret
    exact ⟨rfl, HX2.out⟩
  case pos =>
    rw [show fewB more s = true from decide_eq_true hf] at CF
    obtain ⟨hf1, hf2⟩ := hf
    by_cases hl : t.size = s.size
    · have C1 : Hid (∀ W, Gl W → Calls Tryd.prog 10 #[.string key, .string nonce, .string s, .string more] W fun e w' => e = .returned (.tuple #[.string (sealR key nonce s more).1, .int .i64 (sealR key nonce s more).2]) ∧ Ext W w') := fun W g => aseal_any key nonce s more hf1 (by omega) W g
      have C2 : Hid (∀ W, Gl W → Calls Tryd.prog 10 #[.string key, .string nonce, .string t, .string ⟨#[]⟩] W fun e w' => e = .returned (.tuple #[.string (sealR key nonce t ⟨#[]⟩).1, .int .i64 (sealR key nonce t ⟨#[]⟩).2]) ∧ Ext W w') := fun W g => aseal_any key nonce t ⟨#[]⟩ (by decide) (by omega) W g
      obtain ⟨L, hL⟩ : ∃ L, s.size = L := ⟨_, rfl⟩
      have hLt : t.size = L := hl.trans hL
      by_cases hg : key.size = 32 ∧ nonce.size = 12
      · rw [show sealR key nonce s more = (sealS key nonce s more, 0) from if_pos hg] at C1
        rw [show sealR key nonce t ⟨#[]⟩ = (sealS key nonce t ⟨#[]⟩, 0) from if_pos hg] at C2
        obtain ⟨M, hM⟩ : ∃ M, L + 16 = M := ⟨_, rfl⟩
        have ha : (sealS key nonce s more).size = M := by rw [sealS_size]; omega
        have hb : (sealS key nonce t ⟨#[]⟩).size = M := by rw [sealS_size]; omega
        have hw : IntKind.i64.wrap ((L : Int) + 16) = (M : Int) := by rw [IntKind.wrap_i64]; omega
        have HXr : Hid (∀ i, i < L → sb (sealS key nonce s more) i ^^^ sb (sealS key nonce t ⟨#[]⟩) i = sb s i ^^^ sb t i) := fun i hi => seal_xor key nonce s t more ⟨#[]⟩ i (by omega) (by omega)
        generalize sealS key nonce s more = a at *
        generalize sealS key nonce t ⟨#[]⟩ = b at *
        have HM : Hid (L + 16 = M) := hM
        have HLl : Hid (L ≤ 2000) := hL ▸ hf2
        clear hM hl
        go_enter Tryd.func7, Tryd.ntmps7
        go_wp2_with fail
        with_reducible refine (CF.out _).mono ?_
        rintro e w1 ⟨rfl, HX⟩
        have HX1 : Hid (Ext w w1) := HX0.out.trans HX
        have R1 : Hid (K3 w1 w.heap.size key nonce more) := R0.out.ext HX
        obtain ⟨k1a, k1b, k1c⟩ := R1.out
        have hG1 := hG0.ext HX
        clear HX
        go_wp2_with fail
        with_reducible refine (C1.out _ hG1).mono ?_
        rintro e w2 ⟨rfl, HX⟩
        have HX2 : Hid (Ext w w2) := HX1.out.trans HX
        have R2 : Hid (K3 w2 w.heap.size key nonce more) := R1.out.ext HX
        obtain ⟨k2a, k2b, k2c⟩ := R2.out
        have hG2 := hG1.ext HX
        clear HX
        go_wp2_with fail
        with_reducible refine (C2.out _ hG2).mono ?_
        rintro e w3 ⟨rfl, HX⟩
        have HX3 : Hid (Ext w w3) := HX2.out.trans HX
        have R3 : Hid (K3 w3 w.heap.size key nonce more) := R2.out.ext HX
        obtain ⟨k3a, k3b, k3c⟩ := R3.out
        have hG3 := hG2.ext HX
        clear HX
        go_wp2_with fail
        go_loopw [11] (fun u11 wr => ∃ (i : Nat), i ≤ L ∧ u11 = .int .i64 i ∧ Hid (Ext w wr)) (fun u11 _ => L - (intOf u11).toNat)
        case atStart => exact ⟨0, Nat.zero_le _, rfl, HX3⟩
        case round =>
          obtain ⟨i, hiL, rfl, HXr2⟩ := hrel
          by_cases hlt : i < L
          · have hi1 : (i : Int) < (L : Int) := lt_int hlt
            have hi0 : (0 : Int) ≤ (i : Int) := by omega
            have hiM : (i : Int) < (M : Int) := by have := HM.out; omega
            have la : i < a.size := by have := HM.out; omega
            have lb : i < b.size := by have := HM.out; omega
            have ls : i < s.size := by omega
            have lt : i < t.size := by omega
            have na : (i : Int) < (a.size : Int) := lt_int la
            have nb : (i : Int) < (b.size : Int) := lt_int lb
            have ns : (i : Int) < (s.size : Int) := lt_int ls
            have nt : (i : Int) < (t.size : Int) := lt_int lt
            obtain ⟨x, hx⟩ : ∃ x, sb s i ^^^ sb t i = x := ⟨_, rfl⟩
            have e1 : bits BinOp.xor IntKind.u8 ((a[i]'la).toNat : Int) ((b[i]'lb).toNat : Int) = (x : Int) := by rw [sb_at a la, sb_at b lb, u8_xor_nat _ _ (sb_lt _ _) (sb_lt _ _), HXr.out i hlt, hx]
            have e2 : bits BinOp.xor IntKind.u8 ((s[i]'ls).toNat : Int) ((t[i]'lt).toNat : Int) = (x : Int) := by rw [sb_at s ls, sb_at t lt, u8_xor_nat _ _ (sb_lt _ _) (sb_lt _ _), hx]
            have HX4 : Hid (Ext w wr.drew) := HXr2.out.drew
            have i1 : IntKind.i64.wrap ((i : Int) + 1) = ((i + 1 : Nat) : Int) := by rw [IntKind.wrap_i64]; have := HLl.out; omega
            clear hx
            go_wp2_with fail
            refine wp_region_noPanic ?_
            refine wp_region_any (by kernel_rfl) ?_
            rw [show ({ wr with drawn := wr.drawn + 1 } : World) = wr.drew from rfl]
            generalize wr.drew = w4 at *
            refine any_take (i := 0) (v := ?v0) rfl (by kernel_rfl) (by kernel_rfl) (by kernel_rfl) (fun _ _ _ h => h) rfl ?hy0 ?rest0
            case hy0 => (intro w; go_simp; try with_reducible rfl)
            try simp only [Act.put, List.setIfInBounds_toArray, List.set_cons_zero, List.set_cons_succ]
            refine any_take (i := 1) (v := ?v1) rfl (by kernel_rfl) (by kernel_rfl) (by kernel_rfl) (fun _ _ _ h => h) rfl ?hy1 ?rest1
            case hy1 => (intro w; go_simp; try with_reducible rfl)
            try simp only [Act.put, List.setIfInBounds_toArray, List.set_cons_zero, List.set_cons_succ]
            refine any_take (i := 2) (v := ?v2) rfl (by kernel_rfl) (by kernel_rfl) (by kernel_rfl) (fun _ _ _ h => h) rfl ?hy2 ?rest2
            case hy2 => (intro w; go_simp; try with_reducible rfl)
            try simp only [Act.put, List.setIfInBounds_toArray, List.set_cons_zero, List.set_cons_succ]
            refine any_take (i := 3) (v := ?v3) rfl (by kernel_rfl) (by kernel_rfl) (by kernel_rfl) (fun _ _ _ h => h) rfl ?hy3 ?rest3
            case hy3 => (intro w; go_simp; try with_reducible rfl)
            try simp only [Act.put, List.setIfInBounds_toArray, List.set_cons_zero, List.set_cons_succ]
            refine any_take (i := 4) (v := ?v4) rfl (by kernel_rfl) (by kernel_rfl) (by kernel_rfl) (fun _ _ _ h => h) rfl ?hy4 ?rest4
            case hy4 => (intro w; go_simp; try with_reducible rfl)
            try simp only [Act.put, List.setIfInBounds_toArray, List.set_cons_zero, List.set_cons_succ]
            refine any_take (i := 5) (v := ?v5) rfl (by kernel_rfl) (by kernel_rfl) (by kernel_rfl) (fun _ _ _ h => h) rfl ?hy5 ?rest5
            case hy5 => (intro w; go_simp; try with_reducible rfl)
            try simp only [Act.put, List.setIfInBounds_toArray, List.set_cons_zero, List.set_cons_succ]
            refine any_take (i := 6) (v := ?v6) rfl (by kernel_rfl) (by kernel_rfl) (by kernel_rfl) (fun _ _ _ h => h) rfl ?hy6 ?rest6
            case hy6 => (intro w; go_simp; try with_reducible rfl)
            try simp only [Act.put, List.setIfInBounds_toArray, List.set_cons_zero, List.set_cons_succ]
            refine any_take (i := 7) (v := ?v7) rfl (by kernel_rfl) (by kernel_rfl) (by kernel_rfl) (fun _ _ _ h => h) rfl ?hy7 ?rest7
            case hy7 => (intro w; go_simp; try with_reducible rfl)
            try simp only [Act.put, List.setIfInBounds_toArray, List.set_cons_zero, List.set_cons_succ]
            refine any_take (i := 8) (v := ?v8) rfl (by kernel_rfl) (by kernel_rfl) (by kernel_rfl) (fun _ _ _ h => h) rfl ?hy8 ?rest8
            case hy8 => (intro w; go_simp; try with_reducible rfl)
            try simp only [Act.put, List.setIfInBounds_toArray, List.set_cons_zero, List.set_cons_succ]
            refine any_take (i := 9) (v := ?v9) rfl (by kernel_rfl) (by kernel_rfl) (by kernel_rfl) (fun _ _ _ h => h) rfl ?hy9 ?rest9
            case hy9 => (intro w; go_simp; try with_reducible rfl)
            try simp only [Act.put, List.setIfInBounds_toArray, List.set_cons_zero, List.set_cons_succ]
            refine any_take (i := 10) (v := ?v10) rfl (by kernel_rfl) (by kernel_rfl) (by kernel_rfl) (fun _ _ _ h => h) rfl ?hy10 ?rest10
            case hy10 => (intro w; go_simp; try with_reducible rfl)
            try simp only [Act.put, List.setIfInBounds_toArray, List.set_cons_zero, List.set_cons_succ]
            refine any_take (i := 11) (v := ?v11) rfl (by kernel_rfl) (by kernel_rfl) (by kernel_rfl) (fun _ _ _ h => h) rfl ?hy11 ?rest11
            case hy11 => (intro w; go_simp; try with_reducible rfl)
            try simp only [Act.put, List.setIfInBounds_toArray, List.set_cons_zero, List.set_cons_succ]
            refine any_take (i := 12) (v := ?v12) rfl (by kernel_rfl) (by kernel_rfl) (by kernel_rfl) (fun _ _ _ h => h) rfl ?hy12 ?rest12
            case hy12 => (intro w; go_simp; try with_reducible rfl)
            try simp only [Act.put, List.setIfInBounds_toArray, List.set_cons_zero, List.set_cons_succ]
            refine any_take (i := 13) (v := ?v13) rfl (by kernel_rfl) (by kernel_rfl) (by kernel_rfl) (fun _ _ _ h => h) rfl ?hy13 ?rest13
            case hy13 => (intro w; go_simp; try with_reducible rfl)
            try simp only [Act.put, List.setIfInBounds_toArray, List.set_cons_zero, List.set_cons_succ]
            refine any_take (i := 14) (v := ?v14) rfl (by kernel_rfl) (by kernel_rfl) (by kernel_rfl) (fun _ _ _ h => h) rfl ?hy14 ?rest14
            case hy14 => (intro w; go_simp; try with_reducible rfl)
            try simp only [Act.put, List.setIfInBounds_toArray, List.set_cons_zero, List.set_cons_succ]
            refine wpAny_done (by kernel_rfl) ?_ _
            refine NoPanic.normal ?_
            clear e1 e2
            go_wp2_with fail
            go_roundw
            case rel => exact ⟨i + 1, hlt, rfl, HX4⟩
            case measure => simp [intOf]; omega
          · have hni : ¬ (i : Int) < (L : Int) := by omega
            have hG4 := hG.ext HXr2.out
            go_wp2_with fail
            with_reducible refine (CA.out _ hG4).mono ?_
            rintro e w5 ⟨rfl, HX⟩
            have HX5 : Hid (Ext w w5) := HXr2.out.trans HX
            clear HX
            go_wp2
            go_ret
            exact ⟨rfl, HX5.out⟩
      · rw [show sealR key nonce s more = (⟨#[]⟩, 2) from if_neg hg] at C1
        rw [show sealR key nonce t ⟨#[]⟩ = (⟨#[]⟩, 2) from if_neg hg] at C2
        clear hl
        go_enter Tryd.func7, Tryd.ntmps7
        go_wp2_with fail
        with_reducible refine (CF.out _).mono ?_
        rintro e w1 ⟨rfl, HX⟩
        have HX1 : Hid (Ext w w1) := HX0.out.trans HX
        have R1 : Hid (K3 w1 w.heap.size key nonce more) := R0.out.ext HX
        obtain ⟨k1a, k1b, k1c⟩ := R1.out
        have hG1 := hG0.ext HX
        clear HX
        go_wp2_with fail
        with_reducible refine (C1.out _ hG1).mono ?_
        rintro e w2 ⟨rfl, HX⟩
        have HX2 : Hid (Ext w w2) := HX1.out.trans HX
        have R2 : Hid (K3 w2 w.heap.size key nonce more) := R1.out.ext HX
        obtain ⟨k2a, k2b, k2c⟩ := R2.out
        have hG2 := hG1.ext HX
        clear HX
        go_wp2_with fail
        with_reducible refine (C2.out _ hG2).mono ?_
        rintro e w3 ⟨rfl, HX⟩
        have HX3 : Hid (Ext w w3) := HX2.out.trans HX
        have R3 : Hid (K3 w3 w.heap.size key nonce more) := R2.out.ext HX
        obtain ⟨k3a, k3b, k3c⟩ := R3.out
        have hG3 := hG2.ext HX
        clear HX
        go_wp2_with fail
        with_reducible refine (CA.out _ hG3).mono ?_
        rintro e w4 ⟨rfl, HX⟩
        have HX4 : Hid (Ext w w4) := HX3.out.trans HX
        have R4 : Hid (K3 w4 w.heap.size key nonce more) := R3.out.ext HX
        obtain ⟨k4a, k4b, k4c⟩ := R4.out
        have hG4 := hG3.ext HX
        clear HX
        go_wp2
        go_ret
        exact ⟨rfl, HX4.out⟩
    · have hl1 : ¬ (t.size : Int) = (s.size : Int) := by omega
      go_enter Tryd.func7, Tryd.ntmps7
      go_wp2_with fail
      with_reducible refine (CF.out _).mono ?_
      rintro e w1 ⟨rfl, HX⟩
      have HX1 : Hid (Ext w w1) := HX0.out.trans HX
      have hG1 := hG0.ext HX
      clear HX
      go_wp2_with fail
      with_reducible refine (CA.out _ hG1).mono ?_
      rintro e w2 ⟨rfl, HX⟩
      have HX2 : Hid (Ext w w2) := HX1.out.trans HX
      have hG2 := hG1.ext HX
      clear HX
      go_wp2
      go_ret
      exact ⟨rfl, HX2.out⟩
end Go.Proofs.YtbcgipapbamgfaaDoor
