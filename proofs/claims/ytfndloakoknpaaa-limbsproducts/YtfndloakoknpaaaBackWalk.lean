/-
  The walk of the statement LimbsBack: true, whatever the two numbers; nothing old is turned.
-/
import Derived.Test.YtfndloakoknpaaaAwake
namespace Go.Proofs.Ytfndloakoknpaaa
open Go.RowKit
theorem back_math {a0 a1 a2 a3 b0 b1 b2 b3 s0 s1 s2 s3 d0 d1 d2 d3 : Int} {c l : Bool} (ha : Lim4 a0 a1 a2 a3) (hb : Lim4 b0 b1 b2 b3)
    (h : AddP a0 a1 a2 a3 b0 b1 b2 b3 s0 s1 s2 s3 c) (k : SubP s0 s1 s2 s3 b0 b1 b2 b3 d0 d1 d2 d3 l) :
    (d0 = a0 ∧ d1 = a1 ∧ d2 = a2 ∧ d3 = a3) ∧ l = c := by
  have va := val_bd ha
  have vb := val_bd hb
  have vd := val_bd k.1
  have e1 := h.2
  have e2 := k.2
  have hv : val d0 d1 d2 d3 = val a0 a1 a2 a3 ∧ l = c := by
    unfold B256 at *
    cases l <;> cases c <;> simp at e1 e2 ⊢ <;> omega
  exact ⟨val_inj k.1 ha hv.1, hv.2⟩
theorem back_cmp {a0 a1 a2 a3 b0 b1 b2 b3 s0 s1 s2 s3 n : Int} {c : Bool} (hb : Lim4 b0 b1 b2 b3)
    (h : AddP a0 a1 a2 a3 b0 b1 b2 b3 s0 s1 s2 s3 c) (k : CmpP (val s0 s1 s2 s3) (val a0 a1 a2 a3) n) : decide (n < 0) = c := by
  have vb := val_bd hb
  have e1 := h.2
  unfold CmpP at k
  unfold B256 at *
  cases c <;> simp at e1 ⊢ <;> omega
theorem byteAt_bd (a0 a1 a2 a3 : Int) (k : Nat) : 0 ≤ byteAt a0 a1 a2 a3 k ∧ byteAt a0 a1 a2 a3 k < 256 := by
  unfold byteAt; omega
theorem bt_bs (B : Nat → Int) (h : ∀ k, 0 ≤ B k ∧ B k < 256) (j : Nat) (hj : j < 32) : bt (bs B) j = B (31 - j) := by
  have key : ∀ n : Int, 0 ≤ n ∧ n < 256 → (((UInt8.ofNat n.toNat).toNat : Nat) : Int) = n := by
    intro n hn
    rw [UInt8.toNat_ofNat']
    omega
  unfold bt bs nsOf
  have : j = 0 ∨ j = 1 ∨ j = 2 ∨ j = 3 ∨ j = 4 ∨ j = 5 ∨ j = 6 ∨ j = 7 ∨ j = 8 ∨ j = 9 ∨ j = 10 ∨ j = 11 ∨ j = 12 ∨ j = 13 ∨ j = 14 ∨ j = 15 ∨ j = 16 ∨ j = 17 ∨ j = 18 ∨ j = 19 ∨ j = 20 ∨ j = 21 ∨ j = 22 ∨ j = 23 ∨ j = 24 ∨ j = 25 ∨ j = 26 ∨ j = 27 ∨ j = 28 ∨ j = 29 ∨ j = 30 ∨ j = 31 := by omega
  rcases this with rfl | rfl | rfl | rfl | rfl | rfl | rfl | rfl | rfl | rfl | rfl | rfl | rfl | rfl | rfl | rfl | rfl | rfl | rfl | rfl | rfl | rfl | rfl | rfl | rfl | rfl | rfl | rfl | rfl | rfl | rfl | rfl <;> exact key _ (h _)
theorem w8_of (x : Int) (h : Lim x) : w8 (x / 2 ^ (7 * 8) % 256) (x / 2 ^ (6 * 8) % 256) (x / 2 ^ (5 * 8) % 256) (x / 2 ^ (4 * 8) % 256) (x / 2 ^ (3 * 8) % 256) (x / 2 ^ (2 * 8) % 256) (x / 2 ^ (1 * 8) % 256) (x / 2 ^ (0 * 8) % 256) = x := by
  unfold Lim at h
  unfold w8
  omega
theorem frW_back {a0 a1 a2 a3 : Int} (ha : Lim4 a0 a1 a2 a3) : frW (bt (bs (byteAt a0 a1 a2 a3))) 0 = a0 ∧ frW (bt (bs (byteAt a0 a1 a2 a3))) 1 = a1 ∧ frW (bt (bs (byteAt a0 a1 a2 a3))) 2 = a2 ∧ frW (bt (bs (byteAt a0 a1 a2 a3))) 3 = a3 := by
  have e : ∀ j, j < 32 → bt (bs (byteAt a0 a1 a2 a3)) j = byteAt a0 a1 a2 a3 (31 - j) := fun j hj => bt_bs _ (byteAt_bd a0 a1 a2 a3) j hj
  unfold frW
  refine ⟨?_, ?_, ?_, ?_⟩
  · rw [e _ (by decide), e _ (by decide), e _ (by decide), e _ (by decide), e _ (by decide), e _ (by decide), e _ (by decide), e _ (by decide)]
    exact w8_of a0 ha.1
  · rw [e _ (by decide), e _ (by decide), e _ (by decide), e _ (by decide), e _ (by decide), e _ (by decide), e _ (by decide), e _ (by decide)]
    exact w8_of a1 ha.2.1
  · rw [e _ (by decide), e _ (by decide), e _ (by decide), e _ (by decide), e _ (by decide), e _ (by decide), e _ (by decide), e _ (by decide)]
    exact w8_of a2 ha.2.2.1
  · rw [e _ (by decide), e _ (by decide), e _ (by decide), e _ (by decide), e _ (by decide), e _ (by decide), e _ (by decide), e _ (by decide)]
    exact w8_of a3 ha.2.2.2
/-- Four words in block b, from its first cell on. -/
def Row (w : World) (b : Nat) (x0 x1 x2 x3 : Int) : Prop := b < w.heap.size ∧ w.cell? ⟨b, 0, none⟩ = some (.int .u64 x0) ∧ w.cell? ⟨b, 1, none⟩ = some (.int .u64 x1) ∧ w.cell? ⟨b, 2, none⟩ = some (.int .u64 x2) ∧ w.cell? ⟨b, 3, none⟩ = some (.int .u64 x3)
theorem Row.new (w : World) (x0 x1 x2 x3 : Int) : Row (w.alloc (.cells #[.int .u64 x0, .int .u64 x1, .int .u64 x2, .int .u64 x3] 24)) w.heap.size x0 x1 x2 x3 :=
  ⟨by simp, row_new w _ _ _ _ 24⟩
theorem Row.ext {w w' : World} {b : Nat} {x0 x1 x2 x3 : Int} (h : Row w b x0 x1 x2 x3) (hx : Ext w w') : Row w' b x0 x1 x2 x3 :=
  ⟨Nat.lt_of_lt_of_le h.1 hx.size, later hx h.2.1, later hx h.2.2.1, later hx h.2.2.2.1, later hx h.2.2.2.2⟩
theorem Row.two (w : World) (x0 x1 x2 x3 y0 y1 y2 y3 : Int) :
    Row ((w.alloc (.cells #[.int .u64 x0, .int .u64 x1, .int .u64 x2, .int .u64 x3] 24)).alloc (.cells #[.int .u64 y0, .int .u64 y1, .int .u64 y2, .int .u64 y3] 24)) w.heap.size x0 x1 x2 x3 ∧
    Row ((w.alloc (.cells #[.int .u64 x0, .int .u64 x1, .int .u64 x2, .int .u64 x3] 24)).alloc (.cells #[.int .u64 y0, .int .u64 y1, .int .u64 y2, .int .u64 y3] 24)) (w.heap.size + 1) y0 y1 y2 y3 := by
  refine ⟨(Row.new w x0 x1 x2 x3).ext ((Ext.refl _).alloc _), ?_⟩
  have := Row.new (w.alloc (.cells #[.int .u64 x0, .int .u64 x1, .int .u64 x2, .int .u64 x3] 24)) y0 y1 y2 y3
  rwa [show (w.alloc (.cells #[.int .u64 x0, .int .u64 x1, .int .u64 x2, .int .u64 x3] 24)).heap.size = w.heap.size + 1 from by simp] at this
attribute [local go_sem] run_eq4
set_option maxHeartbeats 1000000 in
theorem back_any (a0 a1 a2 a3 b0 b1 b2 b3 : Int) (ha : Lim4 a0 a1 a2 a3) (hb : Lim4 b0 b1 b2 b3) (w : World) :
    Calls Try.prog 6 #[.agg #[.int .u64 a0, .int .u64 a1, .int .u64 a2, .int .u64 a3], .agg #[.int .u64 b0, .int .u64 b1, .int .u64 b2, .int .u64 b3]] w fun e w' =>
      e = .returned (.bool true) ∧ Ext w w' := by
  obtain ⟨S, HS⟩ : ∃ S, Hid (bs (byteAt a0 a1 a2 a3) = S) := ⟨_, rfl⟩
  have HZ : Hid (S.size = 32) := by rw [← HS.out]; rfl
  have HF : Hid (frW (bt S) 0 = a0 ∧ frW (bt S) 1 = a1 ∧ frW (bt S) 2 = a2 ∧ frW (bt S) 3 = a3) := by rw [← HS.out]; exact frW_back ha
  have q1 : eq4 a0 a1 a2 a3 a0 a1 a2 a3 = true := by simp [eq4]
  have R0 := Row.two w a0 a1 a2 a3 b0 b1 b2 b3
  have HE0 : Hid (Ext w ((w.alloc (.cells #[.int .u64 a0, .int .u64 a1, .int .u64 a2, .int .u64 a3] 24)).alloc (.cells #[.int .u64 b0, .int .u64 b1, .int .u64 b2, .int .u64 b3] 24))) := ((Ext.refl _).alloc _).alloc _
  go_enter Try.func6, Try.ntmps6
  go_wp2_with fail
  refine (add_any _ _ _ _ _ _ _ _ ha hb _).mono ?_
  rintro e w1 ⟨s0, s1, s2, s3, c, rfl, HA, HX⟩
  have HE1 : Hid (Ext w w1) := HE0.out.trans HX
  have RA1 := R0.1.ext HX
  have RB1 := R0.2.ext HX
  clear HX HE0 R0
  generalize w.heap.size + 1 = bb at *
  generalize w.heap.size = ba at *
  obtain ⟨z1, x1, x2, x3, x4⟩ := RA1
  obtain ⟨z2, y1, y2, y3, y4⟩ := RB1
  have RA1 : Row w1 ba a0 a1 a2 a3 := ⟨z1, x1, x2, x3, x4⟩
  go_wp2_with fail
  refine (sub_any _ _ _ _ _ _ _ _ HA.out.1 hb _).mono ?_
  rintro e w2 ⟨d0, d1, d2, d3, l, rfl, HD, HX⟩
  obtain ⟨⟨rfl, rfl, rfl, rfl⟩, rfl⟩ := back_math ha hb HA.out HD.out
  have HE2 : Hid (Ext w w2) := (HE1.out.alloc _).trans HX
  have RA2 := RA1.ext (((Ext.refl _).alloc _).trans HX)
  have RS2 := (Row.new w1 s0 s1 s2 s3).ext HX
  clear HX HE1 RA1 z1 z2 x1 x2 x3 x4 y1 y2 y3 y4 HD
  generalize w1.heap.size = bS at *
  obtain ⟨z1, x1, x2, x3, x4⟩ := RA2
  have RA2 : Row w2 ba d0 d1 d2 d3 := ⟨z1, x1, x2, x3, x4⟩
  go_wp2_with fail
  refine (bytes_any _ _ _ _ _).mono ?_
  rw [HS.out]
  rintro e w3 ⟨rfl, HX⟩
  have HE3 : Hid (Ext w w3) := (HE2.out.alloc _).trans HX
  have RA3 := RA2.ext (((Ext.refl _).alloc _).trans HX)
  have RS3 := RS2.ext (((Ext.refl _).alloc _).trans HX)
  have RD3 := (Row.new w2 d0 d1 d2 d3).ext HX
  clear HX HE2 RA2 RS2 z1 x1 x2 x3 x4
  generalize w2.heap.size = bD at *
  go_wp2_with fail
  refine (from_any _ HZ.out _).mono ?_
  obtain ⟨f0, f1, f2, f3⟩ := HF.out
  rw [f0, f1, f2, f3]
  clear f0 f1 f2 f3
  rintro e w4 ⟨rfl, HX⟩
  have HE4 : Hid (Ext w w4) := HE3.out.trans HX
  have RA4 := RA3.ext HX
  have RS4 := RS3.ext HX
  have RD4 := RD3.ext HX
  clear HX HE3 RA3 RS3 RD3
  obtain ⟨z1, x1, x2, x3, x4⟩ := RA4
  obtain ⟨z2, y1, y2, y3, y4⟩ := RD4
  obtain ⟨z3, v1, v2, v3, v4⟩ := RS4
  go_wp2_with fail
  refine (cmp_any _ _ _ _ _ _ _ _ HA.out.1 ha _).mono ?_
  rintro e w5 ⟨n, rfl, HC, HX⟩
  have hn : decide (n < 0) = l := back_cmp hb HA.out HC.out
  have HE5 : Hid (Ext w w5) := (HE4.out.alloc _).trans HX
  clear HX HE4 HC z1 z2 z3 x1 x2 x3 x4 y1 y2 y3 y4 v1 v2 v3 v4
  go_wp2_with fail
  refine (long_any _).mono ?_
  rintro e w6 ⟨rfl, HX⟩
  have HE6 : Hid (Ext w w6) := HE5.out.trans HX
  clear HX HE5
  go_wp2_with fail
  refine (awake_any _).mono ?_
  rintro e w7 ⟨rfl, HX⟩
  have HE7 : Hid (Ext w w7) := HE6.out.trans HX
  clear HX HE6
  go_wp2
  go_ret
  exact ⟨rfl, HE7.out⟩
end Go.Proofs.Ytfndloakoknpaaa
