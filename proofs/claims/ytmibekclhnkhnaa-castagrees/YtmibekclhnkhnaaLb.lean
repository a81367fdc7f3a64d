/-
  sandglasslaw20.awake, CastQuorums, CastNone, called: true; nothing old is turned.
-/
import Derived.Test.YtmibekclhnkhnaaLa
namespace Go.Proofs.Ytmibekclhnkhnaa
open Go.RowKit
theorem qI41 : qI 4 1 = 3 := by decide
set_option maxRecDepth 10000 in
set_option maxHeartbeats 4000000 in
theorem awake_any (w : World) : Calls Try.prog 10 #[] w fun e w' => e = .returned (.bool true) ∧ Ext w w' := by
  have C0 : Hid (Calls Try.prog 12 #[.int .i64 4, .int .i64 1, .int .i64 1] w fun e w' => ∃ a G, e = .returned (.pointer (some a)) ∧ Cs w (.pointer (some a)) 4 1 1 st0 G w' ∧ From G w.heap.size ∧ Ext w w') := lnew_any 4 1 1 (by decide) w w (Ext.refl w)
  have C1 : Hid (∀ W, Calls Try.prog 8 #[.int .i64 4, .int .i64 1] W fun e w' => e = .returned (.int .i64 3) ∧ w' = W) := fun W => by
    have := quorum_any 4 1 W
    rw [qI41] at this
    exact this
  have C2 : Hid (∀ W, Calls Try.prog 12 #[.int .i64 3, .int .i64 1, .int .i64 1] W fun e w' => e = .returned (.pointer none) ∧ Ext W w') := fun W => cnew_bad 3 1 1 (by decide) W
  have C3 : Hid (∀ W a G, Cs w (.pointer (some a)) 4 1 1 st0 G W → Calls Try.prog 17 #[.pointer (some a), .agg #[.int .i64 1, .int .i64 1, .string ⟨#[120]⟩]] W fun e w' => ∃ a1 c1, e = .returned (.slice a1 1 c1) ∧ w'.ownsRow W.heap.size 38 3 (.slice a1 1 c1) 1 (mcs [⟨2, 0, exX⟩]) ∧ Cs w (.pointer (some a)) 4 1 1 (awE 0) G w') := fun W a G h => by
    refine (ltake_any ⟨1, 1, exX⟩ (Nat.zero_le _) h).mono ?_
    rintro e w' ⟨a1, c1, rfl, q1, q2, _⟩
    rw [aw_send] at q1 ⊢
    exact ⟨a1, c1, rfl, q1, q2⟩
  have C4 : Hid (∀ W a G, Cs w (.pointer (some a)) 4 1 1 (awE 0) G W → Calls Try.prog 16 #[.pointer (some a)] W fun e w' => e = .returned (.tuple #[.string ((awE 0).tb.getD ⟨#[]⟩), .bool false]) ∧ Ext W w') := fun W a G h => by
    have := ltold_any h
    rw [aw_no] at this
    exact this
  have C5 : Hid (∀ j W a G, j ≤ 3 → Cs w (.pointer (some a)) 4 1 1 (awE j) G W → Calls Try.prog 17 #[.pointer (some a), .agg #[.int .i64 2, .int .i64 ((j : Int) + 1), .string ⟨#[120]⟩]] W fun e w' => ∃ a1 c1, e = .returned (.slice a1 (awO j) c1) ∧ Cs w (.pointer (some a)) 4 1 1 (awE (j + 1)) G w' ∧ Chg G W w') := fun j W a G hj h => by
    refine (ltake_any ⟨2, (j : Int) + 1, exX⟩ (by have := awE_len j; omega) h).mono ?_
    rintro e w' ⟨a1, c1, rfl, _, q2, q3⟩
    exact ⟨a1, c1, rfl, q2, q3⟩
  have C6 : Hid (∀ j W a G, j ≤ 3 → Cs w (.pointer (some a)) 4 1 1 (awR j) G W → Calls Try.prog 17 #[.pointer (some a), .agg #[.int .i64 3, .int .i64 ((j : Int) + 1), .string ⟨#[120]⟩]] W fun e w' => ∃ a1 n1 c1, e = .returned (.slice a1 n1 c1) ∧ Cs w (.pointer (some a)) 4 1 1 (awR (j + 1)) G w' ∧ Chg G W w') := fun j W a G hj h => by
    refine (ltake_any ⟨3, (j : Int) + 1, exX⟩ (by have := awR_len j; omega) h).mono ?_
    rintro e w' ⟨a1, c1, rfl, _, q2, q3⟩
    exact ⟨a1, _, c1, rfl, q2, q3⟩
  have C7 : Hid (∀ W a G, Cs w (.pointer (some a)) 4 1 1 (awR 3) G W → Calls Try.prog 16 #[.pointer (some a)] W fun e w' => e = .returned (.tuple #[.string ⟨#[120]⟩, .bool true]) ∧ Ext W w') := fun W a G h => by
    have := ltold_any h
    rw [awR_3.1, awR_3.2] at this
    exact this
  go_enter Try.func10, Try.ntmps10
  go_wp2_with fail
  refine C0.out.mono ?_
  rintro e w1 ⟨pa, G, rfl, hs1, _, _⟩
  have HS1 : Hid (Cs w (.pointer (some pa)) 4 1 1 st0 G w1) := hs1
  clear hs1 C0
  go_wp2_with fail
  refine (C1.out _).mono ?_
  rintro e w2 ⟨rfl, ew⟩
  subst w2
  clear C1
  go_wp2_with fail
  refine (C2.out _).mono ?_
  rintro e w2 ⟨rfl, HX⟩
  have HS2 : Hid (Cs w (.pointer (some pa)) 4 1 1 st0 G w2) := HS1.out.ext HX
  clear HX HS1 C2
  go_wp2_with fail
  refine (C3.out _ _ _ HS2.out).mono ?_
  rintro e w3 ⟨a1, c1, rfl, ho, hs3⟩
  have HO3 : Hid (w3.ownsRow w2.heap.size 38 3 (.slice a1 1 c1) 1 (mcs [⟨2, 0, exX⟩])) := ho
  have HS3 : Hid (Cs w (.pointer (some pa)) 4 1 1 (awE 0) G w3) := hs3
  have HGb : Hid (∀ k, G k → k < w2.heap.size) := HS2.out.2.2.2.1
  clear ho hs3 HS2 C3
  go_wp2_with fail
  refine (C4.out _ _ _ HS3.out).mono ?_
  rintro e w4 ⟨rfl, HX⟩
  have HS4 : Hid (Cs w (.pointer (some pa)) 4 1 1 (awE 0) G w4) := HS3.out.ext HX
  have HO4 : Hid (w4.ownsRow w2.heap.size 38 3 (.slice a1 1 c1) 1 (mcs [⟨2, 0, exX⟩])) := own_ext HO3.out HX
  have HKeep : Hid (∀ W W', W.ownsRow w2.heap.size 38 3 (.slice a1 1 c1) 1 (mcs [⟨2, 0, exX⟩]) → Chg G W W' → W'.ownsRow w2.heap.size 38 3 (.slice a1 1 c1) 1 (mcs [⟨2, 0, exX⟩])) := fun W W' h1 h2 => own_keep h1 (fun k z => h2.block k (h1.lt k z).2 (fun q => by have := HGb.out k q; have := (h1.lt k z).1; omega))
  clear HX HS3 HO3 HGb C4
  go_wp2_with fail
  go_loopw [5, 6] (fun u5 u6 wr => ∃ j : Nat, j ≤ 3 ∧ u6 = .int .i64 ((j : Int) + 1) ∧ u5 = .int .i64 (awN j : Nat) ∧ Hid (Cs w (.pointer (some pa)) 4 1 1 (awE j) G wr) ∧ Hid (wr.ownsRow w2.heap.size 38 3 (.slice a1 1 c1) 1 (mcs [⟨2, 0, exX⟩]))) (fun _ u6 _ => 4 - (intOf u6).toNat)
  case atStart => exact ⟨0, Nat.zero_le _, rfl, rfl, HS4, HO4⟩
  case round =>
    obtain ⟨j, hj, rfl, rfl, HS, HO⟩ := hrel
    clear HS4 HO4
    by_cases hlt : j < 3
    · have q1 : (j : Int) + 1 ≤ 3 := by omega
      have qw : IntKind.i64.wrap ((j : Int) + 1 + 1) = (j : Int) + 1 + 1 := by rw [IntKind.wrap_i64]; omega
      have qn : IntKind.i64.wrap ((awN j : Int) + (awO j : Int)) = (awN j : Int) + (awO j : Int) := by have := awN_le j hj; rw [IntKind.wrap_i64]; omega
      have HNn : Hid (((awN (j + 1) : Nat) : Int) = (awN j : Int) + (awO j : Int)) := by show _ = _; show (((awN j + awO j : Nat)) : Int) = _; omega
      go_wp2_with fail
      refine (C5.out j _ _ _ hj HS.out).mono ?_
      rintro e w6 ⟨a6, c6, rfl, hs6, hg6⟩
      have HS6 : Hid (Cs w (.pointer (some pa)) 4 1 1 (awE (j + 1)) G w6) := hs6
      have HO6 : Hid (w6.ownsRow w2.heap.size 38 3 (.slice a1 1 c1) 1 (mcs [⟨2, 0, exX⟩])) := HKeep.out _ _ HO.out hg6
      clear hs6 hg6 HS HO
      go_wp2
      go_roundw
      case rel => exact ⟨j + 1, hlt, by push_cast; rfl, by rw [HNn.out], HS6, HO6⟩
      case measure => simp [intOf]; omega
    · have q1 : ¬ (j : Int) + 1 ≤ 3 := by omega
      have hj3 : j = 3 := by omega
      obtain ⟨c, HC⟩ : ∃ c, Hid (awN j = c) := ⟨_, rfl⟩
      rw [HC.out]
      have HC1 : Hid (c = 1) := by show _ = _; rw [← HC.out, hj3, awN_3]
      have HS7 : Hid (Cs w (.pointer (some pa)) 4 1 1 (awR 0) G wr) := by rw [hj3] at HS; exact HS.out
      have HO7 : Hid (wr.ownsRow w2.heap.size 38 3 (.slice a1 1 c1) 1 (mcs [⟨2, 0, exX⟩])) := HO
      clear HS HO C5 hj3 HC hlt hj
      rename World => wz
      go_wp2_with fail
      go_loopw [7] (fun u7 wr => ∃ i : Nat, i ≤ 3 ∧ u7 = .int .i64 ((i : Int) + 1) ∧ Hid (Cs w (.pointer (some pa)) 4 1 1 (awR i) G wr) ∧ Hid (wr.ownsRow w2.heap.size 38 3 (.slice a1 1 c1) 1 (mcs [⟨2, 0, exX⟩]))) (fun u7 _ => 4 - (intOf u7).toNat)
      case atStart => exact ⟨0, Nat.zero_le _, rfl, HS7, HO7⟩
      case round =>
        obtain ⟨i, hi, rfl, HS, HO⟩ := hrel
        clear HS7 HO7
        by_cases hlt : i < 3
        · have q2 : (i : Int) + 1 ≤ 3 := by omega
          have qw : IntKind.i64.wrap ((i : Int) + 1 + 1) = (i : Int) + 1 + 1 := by rw [IntKind.wrap_i64]; omega
          go_wp2_with fail
          refine (C6.out i _ _ _ hi HS.out).mono ?_
          rintro e w6 ⟨a6, n6, c6, rfl, hs6, hg6⟩
          have HS6 : Hid (Cs w (.pointer (some pa)) 4 1 1 (awR (i + 1)) G w6) := hs6
          have HO6 : Hid (w6.ownsRow w2.heap.size 38 3 (.slice a1 1 c1) 1 (mcs [⟨2, 0, exX⟩])) := HKeep.out _ _ HO.out hg6
          clear hs6 hg6 HS HO
          go_wp2
          go_roundw
          case rel => exact ⟨i + 1, hlt, by push_cast; rfl, HS6, HO6⟩
          case measure => simp [intOf]; omega
        · have q2 : ¬ (i : Int) + 1 ≤ 3 := by omega
          have hi3 : i = 3 := by omega
          have HS8 : Hid (Cs w (.pointer (some pa)) 4 1 1 (awR 3) G wr) := by rw [hi3] at HS; exact HS.out
          clear HS hi3
          go_wp2_with fail
          refine (C7.out _ _ _ HS8.out).mono ?_
          rintro e w8 ⟨rfl, HX⟩
          have HE : Hid (Ext w w8) := HS8.out.old.trans HX
          obtain ⟨g, o, ha, hbl, hd0, hd1, hd2⟩ := MsIs.get (L := [⟨2, 0, exX⟩]) (own_ms (own_ext HO.out HX)) (j := 0) rfl
          subst ha
          replace hd0 : w8.cell? ⟨g, o, none⟩ = some (.int .i64 2) := hd0
          replace hd2 : w8.cell? ⟨g, o + 2, none⟩ = some (.string ⟨#[120]⟩) := by have := hd2; simp only [Nat.zero_mul, Nat.add_zero] at this; exact this
          have bb : ((⟨#[120]⟩ : ByteArray).toList == (⟨#[120]⟩ : ByteArray).toList) = true := beq_self_eq_true _
          clear HX HS8 HO hd1
          have hc1 := HC1.out
          subst hc1
          go_wp2
          go_ret
          exact ⟨rfl, HE.out⟩
set_option maxHeartbeats 1000000 in
theorem castNone_any (k f : Int) (B : ByteArray) (w : World) : Calls Try.prog 7 #[.agg #[.int .i64 k, .int .i64 f, .string B]] w fun e w' => e = .returned (.bool true) ∧ Ext w w' := by
  have HE0 : Hid (Ext w w) := Ext.refl w
  have bb : ((⟨#[]⟩ : ByteArray).toList == (⟨#[]⟩ : ByteArray).toList) = true := beq_self_eq_true _
  go_enter Try.func7, Try.ntmps7
  go_wp2_with fail
  refine (ctold_nil _).mono ?_
  rintro e w1 ⟨rfl, HX⟩
  have HE1 : Hid (Ext w w1) := (HE0.out.alloc _).trans HX
  have hx0 : w1.cell? ⟨w.heap.size, 0, none⟩ = some (.int .i64 k) := later HX (by rw [World.cell?_alloc_at _ _ _ _ rfl]; rfl)
  have hx1 : w1.cell? ⟨w.heap.size, 1, none⟩ = some (.int .i64 f) := later HX (by rw [World.cell?_alloc_at _ _ _ _ rfl]; rfl)
  have hx2 : w1.cell? ⟨w.heap.size, 2, none⟩ = some (.string B) := later HX (by rw [World.cell?_alloc_at _ _ _ _ rfl]; rfl)
  have hxl : w.heap.size < w1.heap.size := by have := HX.size; simp at this; omega
  clear HX
  go_wp2_with fail
  refine (ctake_nil k f B _).mono ?_
  rintro e w2 ⟨rfl, HX⟩
  have HE2 : Hid (Ext w w2) := HE1.out.trans HX
  clear HX hx0 hx1 hx2 hxl
  go_wp2_with fail
  refine (awake_any _).mono ?_
  rintro e w3 ⟨rfl, HX⟩
  have HE3 : Hid (Ext w w3) := HE2.out.trans HX
  clear HX
  go_wp2
  go_ret
  exact ⟨rfl, HE3.out⟩
set_option maxHeartbeats 1000000 in
theorem castQuorums_any (n t : Int) (w : World) : Calls Try.prog 3 #[.int .i64 n, .int .i64 t] w fun e w' => e = .returned (.bool true) ∧ Ext w w' := by
  have HE0 : Hid (Ext w w) := Ext.refl w
  have HC1 : Hid (∀ W, Calls Try.prog 8 #[.int .i64 n, .int .i64 t] W fun e w' => e = .returned (.int .i64 (qI n t)) ∧ w' = W) := fun W => quorum_any n t W
  have HC2 : Hid (∀ W, Calls Try.prog 9 #[.int .i64 n, .int .i64 t] W fun e w' => e = .returned (.int .i64 (qI n t)) ∧ w' = W) := fun W => rquorum_any n t W
  obtain ⟨q, Hq⟩ : ∃ q, Hid (qI n t = q) := ⟨_, rfl⟩
  rw [Hq.out] at HC1 HC2
  have bq : (q == q) = true := beq_self_eq_true _
  by_cases h : hasQ n t
  · have b0 : (q == 0) = false := by rw [← Hq.out]; simpa using q_pos h
    have e1 : q = (n + t) / 2 + 1 := by rw [← Hq.out]; exact if_pos h
    obtain ⟨h1, h2, h3, h4⟩ := h
    have g1 : IntKind.i64.wrap (2 * q) = 2 * q := by rw [IntKind.wrap_i64]; omega
    have g2 : IntKind.i64.wrap (2 * q - n) = 2 * q - n := by rw [IntKind.wrap_i64]; omega
    have g3 : IntKind.i64.wrap (n - t) = n - t := by rw [IntKind.wrap_i64]; omega
    have g4 : decide (t < 2 * q - n) = true := decide_eq_true (by omega)
    have g5 : decide (q ≤ n - t) = true := decide_eq_true (by omega)
    clear e1 h1 h2 h3 h4
    go_enter Try.func3, Try.ntmps3
    go_wp2_with fail
    refine (HC1.out _).mono ?_
    rintro e w1 ⟨rfl, ew⟩
    subst w1
    go_wp2_with fail
    refine (HC2.out _).mono ?_
    rintro e w1 ⟨rfl, ew⟩
    subst w1
    go_wp2_with fail
    refine (awake_any _).mono ?_
    rintro e w3 ⟨rfl, HX⟩
    have HE3 : Hid (Ext w w3) := HE0.out.trans HX
    clear HX
    go_wp2
    go_ret
    exact ⟨rfl, HE3.out⟩
  · have b0 : (q == 0) = true := by rw [← Hq.out, show qI n t = 0 from if_neg h]; rfl
    clear h
    go_enter Try.func3, Try.ntmps3
    go_wp2_with fail
    refine (HC1.out _).mono ?_
    rintro e w1 ⟨rfl, ew⟩
    subst w1
    go_wp2_with fail
    refine (HC2.out _).mono ?_
    rintro e w1 ⟨rfl, ew⟩
    subst w1
    go_wp2_with fail
    refine (awake_any _).mono ?_
    rintro e w3 ⟨rfl, HX⟩
    have HE3 : Hid (Ext w w3) := HE0.out.trans HX
    clear HX
    go_wp2
    go_ret
    exact ⟨rfl, HE3.out⟩
end Go.Proofs.Ytmibekclhnkhnaa
