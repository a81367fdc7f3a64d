/-
  The document's num and Eval (sandglassref13), called: a polynomial at a place; nothing old is turned.
-/
import Derived.Test.YtnaiccfdbapdpaaDoorRefSInv
import Derived.Test.YtnaiccfdbapdpaaDoorUntil
import Derived.Test.YtnaiccfdbapdpaaDoorLagInt
import Derived.Test.YtnaiccfdbapdpaaDoorSl
namespace Go.Proofs.YtnaiccfdbapdpaaDoor
open Go.RowKit
/-- A place as a number. -/
def plc (x : Int) : Int := if x < 0 then 0 else x
def I64 (x : Int) : Prop := -9223372036854775808 ≤ x ∧ x ≤ 9223372036854775807
theorem plc_lim {x : Int} (h : I64 x) : Lim (plc x) := by unfold plc Lim; unfold I64 at h; split <;> omega
theorem lim_one {x : Int} (h : Lim x) : Lim4 x 0 0 0 := ⟨h, lim_of _ rfl, lim_of _ rfl, lim_of _ rfl⟩
theorem val_one (x : Int) : val x 0 0 0 = x := by unfold val; omega
theorem num_any (x : Int) (hx : I64 x) (w : World) :
    Calls Tryd.prog 31 #[.int .i64 x] w fun e w' => e = .returned (.agg #[.int .u64 (plc x), .int .u64 0, .int .u64 0, .int .u64 0]) ∧ Ext w w' := by
  have HB : SizeLe w w.heap.size := Nat.le_refl _
  have RZ := RowF.new w 0 0 0 0
  have HE0 : Hid (Ext w (w.alloc (.cells #[.int .u64 0, .int .u64 0, .int .u64 0, .int .u64 0] 26))) := (Ext.refl _).alloc _
  have hw : IntKind.u64.wrap (plc x) = plc x := by
    have := plc_lim hx
    rw [IntKind.wrap_u64]; unfold Lim at this; omega
  go_enter Tryd.func31, Tryd.ntmps31
  by_cases h : x < 0
  · have e : plc x = 0 := by unfold plc; rw [if_pos h]
    rw [e]
    go_wp2_with fail
    refine (refSmall_any _ _).mono ?_
    rintro e wy ⟨rfl, HX⟩
    obtain ⟨⟨lz, c0, c1, c2, c3⟩, f0, f1, f2, f3⟩ := RZ.ext HX
    have HE2 : Hid (Ext w wy) := HE0.out.trans HX
    clear HX
    go_wp2
    refine bodyPost_ret (v := .agg #[.int .u64 0, .int .u64 0, .int .u64 0, .int .u64 0]) (by simp [results, Tryd.results31, go_sem, c0, c1, c2, c3]) rfl ⟨rfl, ?_⟩
    exact Ext.st HB (Ext.st HB (Ext.st HB (Ext.st HB HE2.out)))
  · have e : plc x = x := by unfold plc; rw [if_neg h]
    rw [e] at hw ⊢
    have h' : ¬ x < 0 := h
    go_wp2_with fail
    refine (refSmall_any _ _).mono ?_
    rintro e wy ⟨rfl, HX⟩
    obtain ⟨⟨lz, c0, c1, c2, c3⟩, f0, f1, f2, f3⟩ := RZ.ext HX
    have HE2 : Hid (Ext w wy) := HE0.out.trans HX
    clear HX
    go_wp2
    refine bodyPost_ret (v := .agg #[.int .u64 x, .int .u64 0, .int .u64 0, .int .u64 0]) (by simp [results, Tryd.results31, go_sem, c0, c1, c2, c3]) rfl ⟨rfl, ?_⟩
    exact Ext.st HB (Ext.st HB (Ext.st HB (Ext.st HB HE2.out)))
/-- Horner's sum: the last j of n coefficients. -/
def evD (c : Nat → Int) (x : Int) (n : Nat) : Nat → Int
  | 0 => 0
  | j + 1 => c (n - (j + 1)) + x * evD c x n j
theorem evD_evL (c : Nat → Int) (x : Int) (n : Nat) : ∀ j, j ≤ n → evD c x n j = evL (((List.range n).map c).drop (n - j)) x
  | 0, _ => by
    rw [Nat.sub_zero, List.drop_eq_nil_of_le (by simp)]; rfl
  | j + 1, h => by
    have e : ((List.range n).map c).drop (n - (j + 1)) = c (n - (j + 1)) :: ((List.range n).map c).drop (n - j) := by
      rw [List.drop_eq_getElem_cons (by simp; omega)]
      rw [show n - (j + 1) + 1 = n - j from by omega]
      simp
    rw [e]
    show c (n - (j + 1)) + x * evD c x n j = c (n - (j + 1)) + x * evL _ x
    rw [evD_evL c x n j (by omega)]
/-- The coefficients as a list. -/
def cfs (f : Nat → Nat → Int) (n : Nat) : List Int := (List.range n).map fun i => val (f i 0) (f i 1) (f i 2) (f i 3)
/-- Number i of a slice of numbers, word by word. -/
def nc (f : Nat → Nat → Int) (k : Nat) : Value := .int .u64 (f (k / 4) (k % 4))
theorem nc_at (f : Nat → Nat → Int) (i j : Nat) (h : j < 4) : nc f (i * 4 + j) = .int .u64 (f i j) := by
  unfold nc; rw [show (i * 4 + j) / 4 = i from by omega, show (i * 4 + j) % 4 = j from by omega]
theorem Lies.num {w : World} {a : Option Addr} {n cap : Nat} {f : Nat → Nat → Int} (h : Lies w (.slice a n cap) n 4 (nc f)) {i : Nat} (hi : i < n) :
    ∃ b o, a = some ⟨b, o, none⟩ ∧ b < w.heap.size ∧ w.cell? ⟨b, o + i * 4, none⟩ = some (.int .u64 (f i 0)) ∧ w.cell? ⟨b, o + i * 4 + 1, none⟩ = some (.int .u64 (f i 1)) ∧ w.cell? ⟨b, o + i * 4 + 2, none⟩ = some (.int .u64 (f i 2)) ∧ w.cell? ⟨b, o + i * 4 + 3, none⟩ = some (.int .u64 (f i 3)) := by
  obtain ⟨a', cap', e, h⟩ := h
  cases e
  obtain ⟨b, o, ha, hb, hc⟩ := h (by omega)
  refine ⟨b, o, ha, hb, ?_, ?_, ?_, ?_⟩
  · have := hc (i * 4 + 0) (by omega); rwa [nc_at f i 0 (by omega), ← Nat.add_assoc] at this
  · have := hc (i * 4 + 1) (by omega); rwa [nc_at f i 1 (by omega), ← Nat.add_assoc] at this
  · have := hc (i * 4 + 2) (by omega); rwa [nc_at f i 2 (by omega), ← Nat.add_assoc] at this
  · have := hc (i * 4 + 3) (by omega); rwa [nc_at f i 3 (by omega), ← Nat.add_assoc] at this
def ES (w : World) (g : Nat) (r0 r1 r2 r3 : Int) (b o : Nat) (x0 x1 x2 x3 : Int) (wx : World) : Prop :=
  Row wx g r0 r1 r2 r3 ∧ wx.cell? ⟨b, o, none⟩ = some (.int .u64 x0) ∧ wx.cell? ⟨b, o + 1, none⟩ = some (.int .u64 x1) ∧ wx.cell? ⟨b, o + 2, none⟩ = some (.int .u64 x2) ∧ wx.cell? ⟨b, o + 3, none⟩ = some (.int .u64 x3) ∧ Ext w wx
theorem ES.ext {w wx wy : World} {g b o : Nat} {r0 r1 r2 r3 x0 x1 x2 x3 : Int} (h : ES w g r0 r1 r2 r3 b o x0 x1 x2 x3 wx) (hx : Ext wx wy) : ES w g r0 r1 r2 r3 b o x0 x1 x2 x3 wy :=
  ⟨h.1.ext hx, later hx h.2.1, later hx h.2.2.1, later hx h.2.2.2.1, later hx h.2.2.2.2.1, h.2.2.2.2.2.trans hx⟩
def LimN (f : Nat → Nat → Int) (n : Nat) : Prop := ∀ i, i < n → Lim4 (f i 0) (f i 1) (f i 2) (f i 3)
set_option maxHeartbeats 4000000 in
set_option maxRecDepth 10000 in
theorem reval_any (v : Value) (n : Nat) (f : Nat → Nat → Int) (x : Int) (hx : I64 x) (hn : n ≤ 1000) (hl : LimN f n) (w : World) (hL : Lies w v n 4 (nc f)) :
    Calls Tryd.prog 10 #[v, .int .i64 x] w fun e w' => ∃ r0 r1 r2 r3 : Int, e = .returned (.agg #[.int .u64 r0, .int .u64 r1, .int .u64 r2, .int .u64 r3]) ∧ Hid (QMod (evL (cfs f n) (plc x)) r0 r1 r2 r3) ∧ Ext w w' := by
  obtain ⟨a, cap, rfl, hL'⟩ := hL
  have HL : Hid (Lies w (.slice a n cap) n 4 (nc f)) := ⟨a, cap, rfl, hL'⟩
  clear hL'
  have HLi : Hid (LimN f n) := hl
  have HNum : Hid (∀ W, Calls Tryd.prog 31 #[.int .i64 x] W fun e w' => e = .returned (.agg #[.int .u64 (plc x), .int .u64 0, .int .u64 0, .int .u64 0]) ∧ Ext W w') := fun W => num_any x hx W
  have HPl : Hid (Lim4 (plc x) 0 0 0) := lim_one (plc_lim hx)
  have HSt : Hid (∀ j r0 r1 r2 r3 m0 m1 m2 m3 s0 s1 s2 s3, j < n → QMod (evD (fun i => val (f i 0) (f i 1) (f i 2) (f i 3)) (plc x) n (n - (j + 1))) r0 r1 r2 r3 → QMod (val r0 r1 r2 r3 * val (plc x) 0 0 0) m0 m1 m2 m3 → QMod (val m0 m1 m2 m3 + val (f j 0) (f j 1) (f j 2) (f j 3)) s0 s1 s2 s3 → QMod (evD (fun i => val (f i 0) (f i 1) (f i 2) (f i 3)) (plc x) n (n - j)) s0 s1 s2 s3) := by
    intro j r0 r1 r2 r3 m0 m1 m2 m3 s0 s1 s2 s3 hj h1 h2 h3
    refine h3.cong ?_
    rw [show n - j = (n - (j + 1)) + 1 from by omega]
    show _ = (val (f (n - (n - (j + 1) + 1)) 0) (f (n - (n - (j + 1) + 1)) 1) (f (n - (n - (j + 1) + 1)) 2) (f (n - (n - (j + 1) + 1)) 3) + plc x * evD _ (plc x) n (n - (j + 1))) % FQ
    rw [show n - (n - (j + 1) + 1) = j from by omega, Int.add_emod, h2.2, h1.2, val_one, Int.emod_emod_of_dvd _ (Int.dvd_refl _), modq_mul_mod, ← Int.add_emod, Int.add_comm, Int.mul_comm]
  have HF : Hid (evD (fun i => val (f i 0) (f i 1) (f i 2) (f i 3)) (plc x) n n = evL (cfs f n) (plc x)) := by
    show _ = _
    rw [evD_evL _ _ _ _ (Nat.le_refl n), Nat.sub_self, List.drop_zero]; rfl
  have HR0 : Hid (QMod (evD (fun i => val (f i 0) (f i 1) (f i 2) (f i 3)) (plc x) n (n - n)) 0 0 0 0) := by
    show QMod _ _ _ _ _
    rw [Nat.sub_self]
    exact ⟨⟨lim_of _ rfl, lim_of _ rfl, lim_of _ rfl, lim_of _ rfl⟩, show val 0 0 0 0 = 0 % FQ by decide⟩
  obtain ⟨EV, hEV⟩ : ∃ EV, Hid (evD (fun i => val (f i 0) (f i 1) (f i 2) (f i 3)) (plc x) n = EV) := ⟨_, rfl⟩
  rw [hEV.out] at HSt HF HR0
  clear hEV hl
  have HB1 : SizeLe w w.heap.size := Nat.le_refl _
  have HB : SizeLe w (w.heap.size + 1) := Nat.le_succ _
  have RZ := (RowF.new w 0 0 0 0).ext ((Ext.refl _).alloc (.cells #[.int .u64 0, .int .u64 0, .int .u64 0, .int .u64 0] 26))
  have RV := RowF.new (w.alloc (.cells #[.int .u64 0, .int .u64 0, .int .u64 0, .int .u64 0] 26)) 0 0 0 0
  rw [show (w.alloc (.cells #[.int .u64 0, .int .u64 0, .int .u64 0, .int .u64 0] 26)).heap.size = w.heap.size + 1 from by simp] at RV
  have HE0 : Hid (Ext w ((w.alloc (.cells #[.int .u64 0, .int .u64 0, .int .u64 0, .int .u64 0] 26)).alloc (.cells #[.int .u64 0, .int .u64 0, .int .u64 0, .int .u64 0] 26))) := ((Ext.refl _).alloc _).alloc _
  have hwr : IntKind.i64.wrap ((n : Int) - 1) = (n : Int) - 1 := by rw [IntKind.wrap_i64]; omega
  go_enter Tryd.func10, Tryd.ntmps10
  go_wp2
  generalize (w.alloc (.cells #[.int .u64 0, .int .u64 0, .int .u64 0, .int .u64 0] 26)).alloc (.cells #[.int .u64 0, .int .u64 0, .int .u64 0, .int .u64 0] 26) = W0 at *
  generalize hg : w.heap.size + 1 = g at *
  generalize hz : w.heap.size = z at *
  go_loopw [6] (fun u6 wr => ∃ (k : Nat) (r0 r1 r2 r3 : Int), k ≤ n ∧ u6 = .int .i64 ((k : Int) - 1) ∧ RowF wr z 0 0 0 0 ∧ RowF wr g r0 r1 r2 r3 ∧ Hid (QMod (EV (n - k)) r0 r1 r2 r3) ∧ Hid (Ext w wr)) (fun u6 _ => (intOf u6 + 1).toNat)
  case atStart => exact ⟨n, 0, 0, 0, 0, Nat.le_refl _, rfl, RZ, RV, HR0, HE0⟩
  case round =>
    obtain ⟨k, r0, r1, r2, r3, hk, rfl, Rz, Ra, HR, HE⟩ := hrel
    clear RZ RV HE0 HR0
    cases k with
    | zero =>
      have h0 : ¬ (0 : Int) ≤ ((0 : Nat) : Int) - 1 := by decide
      have HQ : Hid (QMod (EV n) r0 r1 r2 r3) := HR
      obtain ⟨⟨la, y0, y1, y2, y3⟩, f0, f1, f2, f3⟩ := Ra
      obtain ⟨⟨lz, z0, z1, z2, z3⟩, e0, e1, e2, e3⟩ := Rz
      have HFq : Hid (QMod (evL (cfs f n) (plc x)) r0 r1 r2 r3) := HF.out ▸ HQ.out
      go_wp2
      refine bodyPost_ret (v := .agg #[.int .u64 r0, .int .u64 r1, .int .u64 r2, .int .u64 r3]) (by simp [results, Tryd.results10, go_sem, z0, z1, z2, z3]) rfl ⟨r0, r1, r2, r3, rfl, HFq, ?_⟩
      exact Ext.st HB1 (Ext.st HB1 (Ext.st HB1 (Ext.st HB1 HE.out)))
    | succ i =>
      have e6 : (((i + 1 : Nat)) : Int) - 1 = (i : Int) := by omega
      have hi : i < n := by omega
      rw [e6]
      have h0 : (0 : Int) ≤ (i : Int) := by omega
      have hin : (i : Int) < (n : Int) := by omega
      obtain ⟨b, o, rfl, hb, x0, x1, x2, x3⟩ := HL.out.num hi
      have hS0 : ES w g r0 r1 r2 r3 b (o + i * 4) (f i 0) (f i 1) (f i 2) (f i 3) wr.drew := ⟨Ra.1.ext (Ext.drew (Ext.refl _)), later HE.out.drew x0, later HE.out.drew x1, later HE.out.drew x2, later HE.out.drew x3, HE.out.drew⟩
      have Ra0 := Ra
      have hzg : z ≠ g := by omega
      have hwi : IntKind.i64.wrap ((i : Int) - 1) = (i : Int) - 1 := by rw [IntKind.wrap_i64]; omega
      go_wp2_with fail
      refine wp_region_noPanic ?_
      refine wp_region_until (X := 9) (S := ES w g r0 r1 r2 r3 b (o + i * 4) (f i 0) (f i 1) (f i 2) (f i 3)) (by kernel_rfl) ?_
      refine until_take (i := 0) (v := ?v0) rfl (by kernel_rfl) (by kernel_rfl) (by kernel_rfl) (by kernel_rfl) (by kernel_rfl) (fun _ _ _ h => h) rfl ?hy0 hS0 ?rest0
      case hy0 => (intro w hSw; obtain ⟨⟨_, y0, y1, y2, y3⟩, x0, x1, x2, x3, _⟩ := hSw; go_simp; try with_reducible rfl)
      try simp only [Act.put, List.setIfInBounds_toArray, List.set_cons_zero, List.set_cons_succ]
      refine until_take (i := 1) (v := ?v1) rfl (by kernel_rfl) (by kernel_rfl) (by kernel_rfl) (by kernel_rfl) (by kernel_rfl) (fun _ _ _ h => h) rfl ?hy1 hS0 ?rest1
      case hy1 => (intro w hSw; obtain ⟨⟨_, y0, y1, y2, y3⟩, x0, x1, x2, x3, _⟩ := hSw; go_simp; try with_reducible rfl)
      try simp only [Act.put, List.setIfInBounds_toArray, List.set_cons_zero, List.set_cons_succ]
      refine until_take (i := 4) (v := ?v4) rfl (by kernel_rfl) (by kernel_rfl) (by kernel_rfl) (by kernel_rfl) (by kernel_rfl) (fun _ _ _ h => h) rfl ?hy4 hS0 ?rest4
      case hy4 => (intro w hSw; obtain ⟨⟨_, y0, y1, y2, y3⟩, x0, x1, x2, x3, _⟩ := hSw; go_simp; try with_reducible rfl)
      try simp only [Act.put, List.setIfInBounds_toArray, List.set_cons_zero, List.set_cons_succ]
      refine until_take (i := 5) (v := ?v5) rfl (by kernel_rfl) (by kernel_rfl) (by kernel_rfl) (by kernel_rfl) (by kernel_rfl) (fun _ _ _ h => h) rfl ?hy5 hS0 ?rest5
      case hy5 => (intro w hSw; obtain ⟨⟨_, y0, y1, y2, y3⟩, x0, x1, x2, x3, _⟩ := hSw; go_simp; try with_reducible rfl)
      try simp only [Act.put, List.setIfInBounds_toArray, List.set_cons_zero, List.set_cons_succ]
      refine until_take (i := 6) (v := ?v6) rfl (by kernel_rfl) (by kernel_rfl) (by kernel_rfl) (by kernel_rfl) (by kernel_rfl) (fun _ _ _ h => h) rfl ?hy6 hS0 ?rest6
      case hy6 => (intro w hSw; obtain ⟨⟨_, y0, y1, y2, y3⟩, x0, x1, x2, x3, _⟩ := hSw; go_simp; try with_reducible rfl)
      try simp only [Act.put, List.setIfInBounds_toArray, List.set_cons_zero, List.set_cons_succ]
      refine until_take (i := 7) (v := ?v7) rfl (by kernel_rfl) (by kernel_rfl) (by kernel_rfl) (by kernel_rfl) (by kernel_rfl) (fun _ _ _ h => h) rfl ?hy7 hS0 ?rest7
      case hy7 => (intro w hSw; obtain ⟨⟨_, y0, y1, y2, y3⟩, x0, x1, x2, x3, _⟩ := hSw; go_simp; try with_reducible rfl)
      try simp only [Act.put, List.setIfInBounds_toArray, List.set_cons_zero, List.set_cons_succ]
      refine until_one (i := 2) (by kernel_rfl) (by kernel_rfl) rfl rfl (fun K hK => ?_)
      go_simp
      refine (HNum.out _).mono ?_
      rintro e w3 ⟨rfl, HX3⟩
      have hS3 := hS0.ext HX3
      go_simp
      refine hK.out _ _ hS3 ?_
      clear hK K
      try simp only [Act.put, List.setIfInBounds_toArray, List.set_cons_zero, List.set_cons_succ]
      refine until_one (i := 3) (by kernel_rfl) (by kernel_rfl) rfl rfl (fun K hK => ?_)
      go_simp
      refine (refSMul_any _ _ _ _ _ _ _ _ HR.out.1 HPl.out _).mono ?_
      rintro e w4 ⟨m0, m1, m2, m3, rfl, HM, HX4⟩
      have hS4 := hS3.ext HX4
      go_simp
      refine hK.out _ _ hS4 ?_
      clear hK K
      try simp only [Act.put, List.setIfInBounds_toArray, List.set_cons_zero, List.set_cons_succ]
      refine until_one (i := 8) (by kernel_rfl) (by kernel_rfl) rfl rfl (fun K hK => ?_)
      go_simp
      refine (refSAdd_any _ _ _ _ _ _ _ _ HM.out.1 (HLi.out i hi) _).mono ?_
      rintro e w5 ⟨s0, s1, s2, s3, rfl, HA, HX5⟩
      have hS5 := hS4.ext HX5
      go_simp
      refine hK.out _ _ hS5 ?_
      clear hK K
      try simp only [Act.put, List.setIfInBounds_toArray, List.set_cons_zero, List.set_cons_succ]
      refine until_last (by kernel_rfl) (by kernel_rfl) rfl rfl (fun K hK => ?_)
      have Ram : RowF w5 g r0 r1 r2 r3 := Ra0.ext ((Ext.refl _).drew.trans (HX3.trans (HX4.trans HX5)))
      have HE5 : Hid (Ext w w5) := hS5.2.2.2.2.2
      have Rzm : RowF w5 z 0 0 0 0 := Rz.ext ((Ext.refl _).drew.trans (HX3.trans (HX4.trans HX5)))
      have Ram2 := Ram
      clear hS0 hS3 hS4 hS5 HX3 HX4 HX5
      obtain ⟨⟨la, y0, y1, y2, y3⟩, f0, f1, f2, f3⟩ := Ram2
      go_simp
      refine hK.out _ _ (NoPanic.normal ?_)
      clear hK K
      try simp only [Act.put, List.setIfInBounds_toArray, List.set_cons_zero, List.set_cons_succ]
      go_wp2
      go_roundw
      case rel => exact ⟨i, s0, s1, s2, s3, by omega, rfl, Rzm.other hzg |>.other hzg |>.other hzg |>.other hzg, RowF.set Ram, HSt.out i _ _ _ _ _ _ _ _ _ _ _ _ hi HR.out HM.out HA.out, Ext.st HB (Ext.st HB (Ext.st HB (Ext.st HB HE5.out)))⟩
      case measure => simp [intOf]
end Go.Proofs.YtnaiccfdbapdpaaDoor
