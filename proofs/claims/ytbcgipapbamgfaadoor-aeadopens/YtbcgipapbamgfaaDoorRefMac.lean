/-
  The document's Mac (sandglassref10.Mac), called; nothing old is turned.
-/
import Derived.Test.YtbcgipapbamgfaaDoorPNums
import Derived.Test.YtbcgipapbamgfaaDoorUntils
namespace Go.Proofs.YtbcgipapbamgfaaDoor
open Go.RowKit
set_option maxHeartbeats 400000 in
theorem rmac_bad (key s : ByteArray) (h : key.size ≠ 32) (w : World) :
    Calls Tryd.prog 26 #[.string key, .string s] w fun e w' => e = .returned (.tuple #[.string ⟨#[]⟩, .int .i64 2]) ∧ Ext w w' := by
  have h1 : ¬ (key.size : Int) = 32 := by omega
  go_enter Tryd.func26, Tryd.ntmps26
  go_wp2
  refine bodyPost_ret (v := .tuple #[.string ⟨#[]⟩, .int .i64 2]) (by simp [results, Tryd.results26, go_sem]) rfl ⟨rfl, Ext.refl _⟩
theorem keepR {w : World} {g : Nat} {r0 r1 r2 r3 : Int} (h : Row w g r0 r1 r2 r3) : w.cell? ⟨g, 0, none⟩ = some (.int .u64 r0) ∧ w.cell? ⟨g, 1, none⟩ = some (.int .u64 r1) ∧ w.cell? ⟨g, 2, none⟩ = some (.int .u64 r2) ∧ w.cell? ⟨g, 3, none⟩ = some (.int .u64 r3) := h.2
theorem Tryd.info5m : (Tryd.prog.info? 5).map (fun i => (i.zero, i.size, i.bytes)) = some (some (.int .u8 0), 1, 1) := by kernel_rfl
theorem news1m (w : World) (v : Value) {t : TypeId} : ∀ j u, [v][j]? = some u → (w.alloc (.cells #[v] t)).cell? ((⟨w.heap.size, 0, none⟩ : Addr).add j) = some u := by
  intro j u hj
  match j, hj with
  | 0, hj => simp at hj; subst hj; simp [Addr.add]
theorem news_onem (n : Int) {kd : IntKind} : ∀ u ∈ [Value.int kd n], u.oneCell' = true := by
  intro u hu; simp at hu; subst hu; rfl
/-- What the round's region reads, and what it stands on. -/
def MS (g : Nat) (r0 r1 r2 r3 a0 a1 a2 a3 : Int) (w : World) (wx : World) : Prop := Row wx g r0 r1 r2 r3 ∧ Row wx (g + 1) a0 a1 a2 a3 ∧ Ext w wx
theorem MS.ext {g : Nat} {r0 r1 r2 r3 a0 a1 a2 a3 : Int} {w wx wy : World} (h : MS g r0 r1 r2 r3 a0 a1 a2 a3 w wx) (hx : Ext wx wy) : MS g r0 r1 r2 r3 a0 a1 a2 a3 w wy := ⟨h.1.ext hx, h.2.1.ext hx, h.2.2.trans hx⟩
set_option maxRecDepth 10000 in
set_option maxHeartbeats 4000000 in
theorem rmac_any (key s : ByteArray) (hk : key.size = 32) (hs : s.size ≤ 100000) (w : World) :
    Calls Tryd.prog 26 #[.string key, .string s] w fun e w' => e = .returned (.tuple #[.string (macS key s), .int .i64 0]) ∧ Ext w w' := by
  have h1 : (key.size : Int) = 32 := by omega
  have HC : Hid (∀ W, Calls Tryd.prog 49 #[.string (key.extract 0 16)] W fun e w' => e = .returned (.tuple #[.string (clS (key.extract 0 16)), .int .i64 0]) ∧ Ext W w') := fun W => rclamp_any _ (by rw [size_ext (by omega)]) W
  have HN : Hid (∀ W, NumCall 50 #[.string (clS (key.extract 0 16))] (keyR key) W) := key_call key hk
  have HEn : Hid (∀ W, NumCall 50 #[.string (key.extract 16 32)] (keyA key) W) := by have h := fun W => end_call key hk W; rw [hk] at h; exact h
  obtain ⟨L, hL⟩ : ∃ L, s.size = L := ⟨_, rfl⟩
  have HL : Hid (s.size = L) := hL
  have HBn : Hid (∀ q P E : Nat, 16 * q < L → P = 16 * q → E = P + blkM L q → ∀ W, NumCall 50 #[.string (s.extract P E ++ ⟨#[1]⟩)] (blkN (sb s) L q) W) := fun q P E h1 h2 h3 W => blk_call s q L P E hL h1 h2 h3 W
  have HBl : Hid (∀ q, blkN (sb s) L q < P13n) := fun q => blkN_lt (sb_lt s) L q
  have HRl : Hid (keyR key < 340282366920938463463374607431768211456) := keyR_lt key
  have HAl : Hid (keyA key < 340282366920938463463374607431768211456) := keyA_lt key
  have HF : Hid (macV key s = pacc (sb s) L (keyR key) ((L + 15) / 16) + keyA key) := by rw [← hL]; rfl
  obtain ⟨T, hT⟩ : ∃ T, Hid (pacc (sb s) L (keyR key) = T) := ⟨_, rfl⟩
  rw [hT.out] at HF
  have HT0 : Hid (T 0 = 0) := by rw [← hT.out]; rfl
  have HTs : Hid (∀ q, T (q + 1) = (T q + blkN (sb s) L q) * keyR key % P13n) := fun q => by rw [← hT.out]; rfl
  have HTl : Hid (∀ q, T q < P13n) := fun q => by rw [← hT.out]; exact pacc_lt _ _ _ _
  clear hT
  rw [hL] at hs
  generalize keyR key = R at *
  generalize keyA key = KA at *
  generalize blkN (sb s) L = BN at *
  go_enter Tryd.func26, Tryd.ntmps26
  go_wp2_with fail
  refine (HC.out _).mono ?_
  rintro e w1 ⟨rfl, HX⟩
  have HE1 : Hid (Ext w w1) := HX
  clear HX HC
  generalize clS (key.extract 0 16) = c at *
  go_wp2_with fail
  refine (HN.out _).mono ?_
  rintro e w2 ⟨r0, r1, r2, r3, rfl, HR, HX⟩
  have HE2 : Hid (Ext w w2) := HE1.out.trans HX
  clear HX HE1 HN
  go_wp2
  have HRr := (Row.new w2 r0 r1 r2 r3).ext ((Ext.refl _).alloc (.cells #[.int .u64 0, .int .u64 0, .int .u64 0, .int .u64 0] 89))
  have HRa := RowF.new (w2.alloc (.cells #[.int .u64 r0, .int .u64 r1, .int .u64 r2, .int .u64 r3] 89)) 0 0 0 0
  rw [show (w2.alloc (.cells #[.int .u64 r0, .int .u64 r1, .int .u64 r2, .int .u64 r3] 89)).heap.size = w2.heap.size + 1 from by simp] at HRa
  have HE3 : Hid (Ext w ((w2.alloc (.cells #[.int .u64 r0, .int .u64 r1, .int .u64 r2, .int .u64 r3] 89)).alloc (.cells #[.int .u64 0, .int .u64 0, .int .u64 0, .int .u64 0] 89))) := (HE2.out.alloc _).alloc _
  have HB : SizeLe w (w2.heap.size + 1) := Nat.le_succ_of_le HE2.out.size
  generalize (w2.alloc (.cells #[.int .u64 r0, .int .u64 r1, .int .u64 r2, .int .u64 r3] 89)).alloc (.cells #[.int .u64 0, .int .u64 0, .int .u64 0, .int .u64 0] 89) = W0 at *
  clear HE2
  generalize w2.heap.size = g at *
  have HA0 : Hid (Lim4 0 0 0 0 ∧ val 0 0 0 0 = ((T 0 : Nat) : Int)) := by
    show _ ∧ _
    rw [HT0.out]
    exact ⟨by unfold Lim4 Lim; decide, by decide⟩
  clear HT0
  go_loopw [10] (fun u10 wr => ∃ (q P : Nat) (a0 a1 a2 a3 : Int), P = 16 * q ∧ P ≤ L + 15 ∧ u10 = .int .i64 P ∧ Row wr g r0 r1 r2 r3 ∧ RowF wr (g + 1) a0 a1 a2 a3 ∧ Hid (Lim4 a0 a1 a2 a3 ∧ val a0 a1 a2 a3 = ((T q : Nat) : Int)) ∧ Hid (Ext w wr)) (fun u10 _ => L + 16 - (intOf u10).toNat)
  case atStart => exact ⟨0, 0, 0, 0, 0, 0, rfl, by omega, rfl, HRr, HRa, HA0, HE3⟩
  case round =>
    obtain ⟨q, P, a0, a1, a2, a3, hPq, hPL, rfl, Rr, Ra, HA, HE⟩ := hrel
    clear HRr HRa HE3 HA0
    by_cases hlt : P < L
    · obtain ⟨P', P2, E, eP, eP2, eE, hPl, d1, d2, d3, d4, d5, d6, d7, d8, d9⟩ := pblk_nums q L (by omega) hs
      obtain rfl : P = P' := by omega
      have hl1 : (P : Int) < (L : Int) := by omega
      have hes : E ≤ s.size := by omega
      have e1 : (s.extract P E).size = E - P := size_ext hes
      have hcat : ¬ 9223372036854775807 < (s.extract P E).size + (⟨#[1]⟩ : ByteArray).size := by rw [e1]; show ¬ 9223372036854775807 < E - P + 1; omega
      have hcat2 : ¬ 9223372036854775807 < E - P + 1 := by omega
      have HNb : Hid (∀ W, NumCall 50 #[.string (s.extract P E ++ ⟨#[1]⟩)] (BN q) W) := HBn.out q P E (by omega) eP eE
      have HNx : Hid (P2 = 16 * (q + 1) ∧ P2 ≤ L + 15 ∧ P2 = P + 16) := ⟨eP2, d8, d9⟩
      have HAd : Hid (∀ b0 b1 b2 b3, Hid (Lim4 b0 b1 b2 b3 ∧ val b0 b1 b2 b3 = ((BN q : Nat) : Int)) → ∀ W, Calls Tryd.prog 52 #[.agg #[.int .u64 a0, .int .u64 a1, .int .u64 a2, .int .u64 a3], .agg #[.int .u64 b0, .int .u64 b1, .int .u64 b2, .int .u64 b3]] W fun e w' => ∃ d0 d1 d2 d3 : Int, e = .returned (.agg #[.int .u64 d0, .int .u64 d1, .int .u64 d2, .int .u64 d3]) ∧ Hid (PMod (val a0 a1 a2 a3 + val b0 b1 b2 b3) d0 d1 d2 d3) ∧ Ext W w') := fun _ _ _ _ h W => add_call HA.out h.out (HTl.out q) (HBl.out q) W
      have HMu : Hid (∀ X d0 d1 d2 d3, Hid (PMod X d0 d1 d2 d3) → ∀ W, Calls Tryd.prog 51 #[.agg #[.int .u64 d0, .int .u64 d1, .int .u64 d2, .int .u64 d3], .agg #[.int .u64 r0, .int .u64 r1, .int .u64 r2, .int .u64 r3]] W fun e w' => ∃ m0 m1 m2 m3 : Int, e = .returned (.agg #[.int .u64 m0, .int .u64 m1, .int .u64 m2, .int .u64 m3]) ∧ Hid (PMod (val d0 d1 d2 d3 * val r0 r1 r2 r3) m0 m1 m2 m3) ∧ Ext W w') := fun _ _ _ _ _ h W => mul_call h.out HR.out HRl.out W
      have HSt : Hid (∀ b0 b1 b2 b3 d0 d1 d2 d3 m0 m1 m2 m3, Hid (Lim4 b0 b1 b2 b3 ∧ val b0 b1 b2 b3 = ((BN q : Nat) : Int)) → Hid (PMod (val a0 a1 a2 a3 + val b0 b1 b2 b3) d0 d1 d2 d3) → Hid (PMod (val d0 d1 d2 d3 * val r0 r1 r2 r3) m0 m1 m2 m3) → Hid (Lim4 m0 m1 m2 m3 ∧ val m0 m1 m2 m3 = ((T (q + 1) : Nat) : Int))) := fun _ _ _ _ _ _ _ _ _ _ _ _ h1 h2 h3 => by
        rw [HTs.out q]
        exact mac_step HA.out.2 h1.out.2 HR.out.2 h2.out h3.out
      have HS0 : Hid (s.size = L) := HL
      have hne : g ≠ g + 1 := by omega
      clear HL HBn HBl HRl HTs HTl HEn HAl HF eP eP2 eE d8 d9 hPq hPl hlt HA
      have d10 : (0 : Int) ≤ (E : Int) := by omega
      have Rr0 := Rr
      have Ra0 := Ra
      have hE : ((L : Int) < (P2 : Int) ∧ L = E) ∨ (¬ (L : Int) < (P2 : Int) ∧ P2 = E) := by
        by_cases h : (L : Int) < (P2 : Int)
        · rw [if_pos h] at d2; exact Or.inl ⟨h, by omega⟩
        · rw [if_neg h] at d2; exact Or.inr ⟨h, by omega⟩
      clear d2
      obtain ⟨lr, x0, x1, x2, x3⟩ := Rr
      obtain ⟨⟨la, y0, y1, y2, y3⟩, f0, f1, f2, f3⟩ := Ra
      rcases hE with ⟨hmn, rfl⟩ | ⟨hmn, rfl⟩
      · have hmn2 : L < P2 := by omega
        have hS0 : MS g r0 r1 r2 r3 a0 a1 a2 a3 w wr.drew := ⟨Rr0.ext (Ext.drew (Ext.refl _)), (Ra0.ext (Ext.drew (Ext.refl _))).1, HE.out.drew⟩
        go_wp2_with fail
        refine wp_region_noPanic ?_
        refine wp_region_until (X := 14) (S := MS g r0 r1 r2 r3 a0 a1 a2 a3 w) (by kernel_rfl) ?_
        refine until_take (i := 0) (v := ?v0) rfl (by kernel_rfl) (by kernel_rfl) (by kernel_rfl) (by kernel_rfl) (by kernel_rfl) (fun _ _ _ h => h) rfl ?hy0 hS0 ?rest0
        case hy0 => (intro w hSw; obtain ⟨⟨_, x0, x1, x2, x3⟩, ⟨_, y0, y1, y2, y3⟩, _⟩ := hSw; go_simp; try with_reducible rfl)
        try simp only [Act.put, List.setIfInBounds_toArray, List.set_cons_zero, List.set_cons_succ]
        refine until_take (i := 1) (v := ?v1) rfl (by kernel_rfl) (by kernel_rfl) (by kernel_rfl) (by kernel_rfl) (by kernel_rfl) (fun _ _ _ h => h) rfl ?hy1 hS0 ?rest1
        case hy1 => (intro w hSw; obtain ⟨⟨_, x0, x1, x2, x3⟩, ⟨_, y0, y1, y2, y3⟩, _⟩ := hSw; go_simp; try with_reducible rfl)
        try simp only [Act.put, List.setIfInBounds_toArray, List.set_cons_zero, List.set_cons_succ]
        refine until_take (i := 2) (v := ?v2) rfl (by kernel_rfl) (by kernel_rfl) (by kernel_rfl) (by kernel_rfl) (by kernel_rfl) (fun _ _ _ h => h) rfl ?hy2 hS0 ?rest2
        case hy2 => (intro w hSw; obtain ⟨⟨_, x0, x1, x2, x3⟩, ⟨_, y0, y1, y2, y3⟩, _⟩ := hSw; go_simp; try with_reducible rfl)
        try simp only [Act.put, List.setIfInBounds_toArray, List.set_cons_zero, List.set_cons_succ]
        refine until_take (i := 3) (v := ?v3) rfl (by kernel_rfl) (by kernel_rfl) (by kernel_rfl) (by kernel_rfl) (by kernel_rfl) (fun _ _ _ h => h) rfl ?hy3 hS0 ?rest3
        case hy3 => (intro w hSw; obtain ⟨⟨_, x0, x1, x2, x3⟩, ⟨_, y0, y1, y2, y3⟩, _⟩ := hSw; go_simp; try with_reducible rfl)
        try simp only [Act.put, List.setIfInBounds_toArray, List.set_cons_zero, List.set_cons_succ]
        refine until_take (i := 4) (v := ?v4) rfl (by kernel_rfl) (by kernel_rfl) (by kernel_rfl) (by kernel_rfl) (by kernel_rfl) (fun _ _ _ h => h) rfl ?hy4 hS0 ?rest4
        case hy4 => (intro w hSw; obtain ⟨⟨_, x0, x1, x2, x3⟩, ⟨_, y0, y1, y2, y3⟩, _⟩ := hSw; go_simp; try with_reducible rfl)
        try simp only [Act.put, List.setIfInBounds_toArray, List.set_cons_zero, List.set_cons_succ]
        refine until_take (i := 5) (v := ?v5) rfl (by kernel_rfl) (by kernel_rfl) (by kernel_rfl) (by kernel_rfl) (by kernel_rfl) (fun _ _ _ h => h) rfl ?hy5 hS0 ?rest5
        case hy5 => (intro w hSw; obtain ⟨⟨_, x0, x1, x2, x3⟩, ⟨_, y0, y1, y2, y3⟩, _⟩ := hSw; go_simp; try with_reducible rfl)
        try simp only [Act.put, List.setIfInBounds_toArray, List.set_cons_zero, List.set_cons_succ]
        refine until_take (i := 6) (v := ?v6) rfl (by kernel_rfl) (by kernel_rfl) (by kernel_rfl) (by kernel_rfl) (by kernel_rfl) (fun _ _ _ h => h) rfl ?hy6 hS0 ?rest6
        case hy6 => (intro w hSw; obtain ⟨⟨_, x0, x1, x2, x3⟩, ⟨_, y0, y1, y2, y3⟩, _⟩ := hSw; go_simp; try with_reducible rfl)
        try simp only [Act.put, List.setIfInBounds_toArray, List.set_cons_zero, List.set_cons_succ]
        refine until_take (i := 7) (v := ?v7) rfl (by kernel_rfl) (by kernel_rfl) (by kernel_rfl) (by kernel_rfl) (by kernel_rfl) (fun _ _ _ h => h) rfl ?hy7 hS0 ?rest7
        case hy7 => (intro w hSw; obtain ⟨⟨_, x0, x1, x2, x3⟩, ⟨_, y0, y1, y2, y3⟩, _⟩ := hSw; go_simp; try with_reducible rfl)
        try simp only [Act.put, List.setIfInBounds_toArray, List.set_cons_zero, List.set_cons_succ]
        refine until_take (i := 8) (v := ?v8) rfl (by kernel_rfl) (by kernel_rfl) (by kernel_rfl) (by kernel_rfl) (by kernel_rfl) (fun _ _ _ h => h) rfl ?hy8 hS0 ?rest8
        case hy8 => (intro w hSw; obtain ⟨⟨_, x0, x1, x2, x3⟩, ⟨_, y0, y1, y2, y3⟩, _⟩ := hSw; go_simp; try with_reducible rfl)
        try simp only [Act.put, List.setIfInBounds_toArray, List.set_cons_zero, List.set_cons_succ]
        refine until_take (i := 9) (v := ?v9) rfl (by kernel_rfl) (by kernel_rfl) (by kernel_rfl) (by kernel_rfl) (by kernel_rfl) (fun _ _ _ h => h) rfl ?hy9 hS0 ?rest9
        case hy9 => (intro w hSw; obtain ⟨⟨_, x0, x1, x2, x3⟩, ⟨_, y0, y1, y2, y3⟩, _⟩ := hSw; go_simp; try with_reducible rfl)
        try simp only [Act.put, List.setIfInBounds_toArray, List.set_cons_zero, List.set_cons_succ]
        refine until_take (i := 12) (v := ?v12) rfl (by kernel_rfl) (by kernel_rfl) (by kernel_rfl) (by kernel_rfl) (by kernel_rfl) (fun _ _ _ h => h) rfl ?hy12 hS0 ?rest12
        case hy12 => (intro w hSw; obtain ⟨⟨_, x0, x1, x2, x3⟩, ⟨_, y0, y1, y2, y3⟩, _⟩ := hSw; go_simp; try with_reducible rfl)
        try simp only [Act.put, List.setIfInBounds_toArray, List.set_cons_zero, List.set_cons_succ]
        refine until_one (i := 10) (by kernel_rfl) (by kernel_rfl) rfl rfl (fun K hK => ?_)
        go_simp
        refine (HNb.out _).mono ?_
        rintro e w3 ⟨b0, b1, b2, b3, rfl, HBv, HX3⟩
        have hS3 := hS0.ext HX3
        have HW3 : Hid (Ext _ w3) := HX3
        clear HX3
        go_simp
        refine hK.out _ _ hS3 ?_
        clear hK K
        try simp only [Act.put, List.setIfInBounds_toArray, List.set_cons_zero, List.set_cons_succ]
        refine until_one (i := 11) (by kernel_rfl) (by kernel_rfl) rfl rfl (fun K hK => ?_)
        go_simp
        refine (HAd.out _ _ _ _ HBv _).mono ?_
        rintro e w4 ⟨d0, d1, d2, d3, rfl, HDv, HX4⟩
        have hS4 := hS3.ext HX4
        have HW4 : Hid (Ext w3 w4) := HX4
        clear HX4
        go_simp
        refine hK.out _ _ hS4 ?_
        clear hK K
        try simp only [Act.put, List.setIfInBounds_toArray, List.set_cons_zero, List.set_cons_succ]
        refine until_one (i := 13) (by kernel_rfl) (by kernel_rfl) rfl rfl (fun K hK => ?_)
        go_simp
        refine (HMu.out _ _ _ _ _ HDv _).mono ?_
        rintro e w5 ⟨m0, m1, m2, m3, rfl, HMv, HX5⟩
        have hS5 := hS4.ext HX5
        have HRF : RowF w5 (g + 1) a0 a1 a2 a3 := Ra0.ext ((Ext.refl _).drew.trans (HW3.out.trans (HW4.out.trans HX5)))
        clear HX5
        go_simp
        refine hK.out _ _ hS5 ?_
        clear hK K
        try simp only [Act.put, List.setIfInBounds_toArray, List.set_cons_zero, List.set_cons_succ]
        refine until_last (by kernel_rfl) (by kernel_rfl) rfl rfl (fun K hK => ?_)
        obtain ⟨Rrm, _, HE5⟩ := hS5
        have Ram := HRF
        have HE5 : Hid (Ext w w5) := HE5
        obtain ⟨⟨la, y0, y1, y2, y3⟩, f0, f1, f2, f3⟩ := HRF
        go_simp
        refine hK.out _ _ (NoPanic.normal ?_)
        clear hK K
        try simp only [Act.put, List.setIfInBounds_toArray, List.set_cons_zero, List.set_cons_succ]
        go_wp2
        go_roundw
        case rel => exact ⟨q + 1, P2, m0, m1, m2, m3, HNx.out.1, HNx.out.2.1, rfl, Rrm.other hne |>.other hne |>.other hne |>.other hne, RowF.set Ram, HSt.out _ _ _ _ _ _ _ _ _ _ _ _ HBv HDv HMv, Ext.st HB (Ext.st HB (Ext.st HB (Ext.st HB HE5.out)))⟩
        case measure => simp [intOf]; have := HNx.out.2.2; omega
      · have hmn2 : ¬ L < P2 := by omega
        have hS0 : MS g r0 r1 r2 r3 a0 a1 a2 a3 w wr.drew := ⟨Rr0.ext (Ext.drew (Ext.refl _)), (Ra0.ext (Ext.drew (Ext.refl _))).1, HE.out.drew⟩
        go_wp2_with fail
        refine wp_region_noPanic ?_
        refine wp_region_until (X := 14) (S := MS g r0 r1 r2 r3 a0 a1 a2 a3 w) (by kernel_rfl) ?_
        refine until_take (i := 0) (v := ?vb0) rfl (by kernel_rfl) (by kernel_rfl) (by kernel_rfl) (by kernel_rfl) (by kernel_rfl) (fun _ _ _ h => h) rfl ?hyb0 hS0 ?restb0
        case hyb0 => (intro w hSw; obtain ⟨⟨_, x0, x1, x2, x3⟩, ⟨_, y0, y1, y2, y3⟩, _⟩ := hSw; go_simp; try with_reducible rfl)
        try simp only [Act.put, List.setIfInBounds_toArray, List.set_cons_zero, List.set_cons_succ]
        refine until_take (i := 1) (v := ?vb1) rfl (by kernel_rfl) (by kernel_rfl) (by kernel_rfl) (by kernel_rfl) (by kernel_rfl) (fun _ _ _ h => h) rfl ?hyb1 hS0 ?restb1
        case hyb1 => (intro w hSw; obtain ⟨⟨_, x0, x1, x2, x3⟩, ⟨_, y0, y1, y2, y3⟩, _⟩ := hSw; go_simp; try with_reducible rfl)
        try simp only [Act.put, List.setIfInBounds_toArray, List.set_cons_zero, List.set_cons_succ]
        refine until_take (i := 2) (v := ?vb2) rfl (by kernel_rfl) (by kernel_rfl) (by kernel_rfl) (by kernel_rfl) (by kernel_rfl) (fun _ _ _ h => h) rfl ?hyb2 hS0 ?restb2
        case hyb2 => (intro w hSw; obtain ⟨⟨_, x0, x1, x2, x3⟩, ⟨_, y0, y1, y2, y3⟩, _⟩ := hSw; go_simp; try with_reducible rfl)
        try simp only [Act.put, List.setIfInBounds_toArray, List.set_cons_zero, List.set_cons_succ]
        refine until_take (i := 3) (v := ?vb3) rfl (by kernel_rfl) (by kernel_rfl) (by kernel_rfl) (by kernel_rfl) (by kernel_rfl) (fun _ _ _ h => h) rfl ?hyb3 hS0 ?restb3
        case hyb3 => (intro w hSw; obtain ⟨⟨_, x0, x1, x2, x3⟩, ⟨_, y0, y1, y2, y3⟩, _⟩ := hSw; go_simp; try with_reducible rfl)
        try simp only [Act.put, List.setIfInBounds_toArray, List.set_cons_zero, List.set_cons_succ]
        refine until_take (i := 4) (v := ?vb4) rfl (by kernel_rfl) (by kernel_rfl) (by kernel_rfl) (by kernel_rfl) (by kernel_rfl) (fun _ _ _ h => h) rfl ?hyb4 hS0 ?restb4
        case hyb4 => (intro w hSw; obtain ⟨⟨_, x0, x1, x2, x3⟩, ⟨_, y0, y1, y2, y3⟩, _⟩ := hSw; go_simp; try with_reducible rfl)
        try simp only [Act.put, List.setIfInBounds_toArray, List.set_cons_zero, List.set_cons_succ]
        refine until_take (i := 5) (v := ?vb5) rfl (by kernel_rfl) (by kernel_rfl) (by kernel_rfl) (by kernel_rfl) (by kernel_rfl) (fun _ _ _ h => h) rfl ?hyb5 hS0 ?restb5
        case hyb5 => (intro w hSw; obtain ⟨⟨_, x0, x1, x2, x3⟩, ⟨_, y0, y1, y2, y3⟩, _⟩ := hSw; go_simp; try with_reducible rfl)
        try simp only [Act.put, List.setIfInBounds_toArray, List.set_cons_zero, List.set_cons_succ]
        refine until_take (i := 6) (v := ?vb6) rfl (by kernel_rfl) (by kernel_rfl) (by kernel_rfl) (by kernel_rfl) (by kernel_rfl) (fun _ _ _ h => h) rfl ?hyb6 hS0 ?restb6
        case hyb6 => (intro w hSw; obtain ⟨⟨_, x0, x1, x2, x3⟩, ⟨_, y0, y1, y2, y3⟩, _⟩ := hSw; go_simp; try with_reducible rfl)
        try simp only [Act.put, List.setIfInBounds_toArray, List.set_cons_zero, List.set_cons_succ]
        refine until_take (i := 7) (v := ?vb7) rfl (by kernel_rfl) (by kernel_rfl) (by kernel_rfl) (by kernel_rfl) (by kernel_rfl) (fun _ _ _ h => h) rfl ?hyb7 hS0 ?restb7
        case hyb7 => (intro w hSw; obtain ⟨⟨_, x0, x1, x2, x3⟩, ⟨_, y0, y1, y2, y3⟩, _⟩ := hSw; go_simp; try with_reducible rfl)
        try simp only [Act.put, List.setIfInBounds_toArray, List.set_cons_zero, List.set_cons_succ]
        refine until_take (i := 8) (v := ?vb8) rfl (by kernel_rfl) (by kernel_rfl) (by kernel_rfl) (by kernel_rfl) (by kernel_rfl) (fun _ _ _ h => h) rfl ?hyb8 hS0 ?restb8
        case hyb8 => (intro w hSw; obtain ⟨⟨_, x0, x1, x2, x3⟩, ⟨_, y0, y1, y2, y3⟩, _⟩ := hSw; go_simp; try with_reducible rfl)
        try simp only [Act.put, List.setIfInBounds_toArray, List.set_cons_zero, List.set_cons_succ]
        refine until_take (i := 9) (v := ?vb9) rfl (by kernel_rfl) (by kernel_rfl) (by kernel_rfl) (by kernel_rfl) (by kernel_rfl) (fun _ _ _ h => h) rfl ?hyb9 hS0 ?restb9
        case hyb9 => (intro w hSw; obtain ⟨⟨_, x0, x1, x2, x3⟩, ⟨_, y0, y1, y2, y3⟩, _⟩ := hSw; go_simp; try with_reducible rfl)
        try simp only [Act.put, List.setIfInBounds_toArray, List.set_cons_zero, List.set_cons_succ]
        refine until_take (i := 12) (v := ?vb12) rfl (by kernel_rfl) (by kernel_rfl) (by kernel_rfl) (by kernel_rfl) (by kernel_rfl) (fun _ _ _ h => h) rfl ?hyb12 hS0 ?restb12
        case hyb12 => (intro w hSw; obtain ⟨⟨_, x0, x1, x2, x3⟩, ⟨_, y0, y1, y2, y3⟩, _⟩ := hSw; go_simp; try with_reducible rfl)
        try simp only [Act.put, List.setIfInBounds_toArray, List.set_cons_zero, List.set_cons_succ]
        refine until_one (i := 10) (by kernel_rfl) (by kernel_rfl) rfl rfl (fun K hK => ?_)
        go_simp
        refine (HNb.out _).mono ?_
        rintro e w3 ⟨b0, b1, b2, b3, rfl, HBv, HX3⟩
        have hS3 := hS0.ext HX3
        have HW3 : Hid (Ext _ w3) := HX3
        clear HX3
        go_simp
        refine hK.out _ _ hS3 ?_
        clear hK K
        try simp only [Act.put, List.setIfInBounds_toArray, List.set_cons_zero, List.set_cons_succ]
        refine until_one (i := 11) (by kernel_rfl) (by kernel_rfl) rfl rfl (fun K hK => ?_)
        go_simp
        refine (HAd.out _ _ _ _ HBv _).mono ?_
        rintro e w4 ⟨d0, d1, d2, d3, rfl, HDv, HX4⟩
        have hS4 := hS3.ext HX4
        have HW4 : Hid (Ext w3 w4) := HX4
        clear HX4
        go_simp
        refine hK.out _ _ hS4 ?_
        clear hK K
        try simp only [Act.put, List.setIfInBounds_toArray, List.set_cons_zero, List.set_cons_succ]
        refine until_one (i := 13) (by kernel_rfl) (by kernel_rfl) rfl rfl (fun K hK => ?_)
        go_simp
        refine (HMu.out _ _ _ _ _ HDv _).mono ?_
        rintro e w5 ⟨m0, m1, m2, m3, rfl, HMv, HX5⟩
        have hS5 := hS4.ext HX5
        have HRF : RowF w5 (g + 1) a0 a1 a2 a3 := Ra0.ext ((Ext.refl _).drew.trans (HW3.out.trans (HW4.out.trans HX5)))
        clear HX5
        go_simp
        refine hK.out _ _ hS5 ?_
        clear hK K
        try simp only [Act.put, List.setIfInBounds_toArray, List.set_cons_zero, List.set_cons_succ]
        refine until_last (by kernel_rfl) (by kernel_rfl) rfl rfl (fun K hK => ?_)
        obtain ⟨Rrm, _, HE5⟩ := hS5
        have Ram := HRF
        have HE5 : Hid (Ext w w5) := HE5
        obtain ⟨⟨la, y0, y1, y2, y3⟩, f0, f1, f2, f3⟩ := HRF
        go_simp
        refine hK.out _ _ (NoPanic.normal ?_)
        clear hK K
        try simp only [Act.put, List.setIfInBounds_toArray, List.set_cons_zero, List.set_cons_succ]
        go_wp2
        go_roundw
        case rel => exact ⟨q + 1, P2, m0, m1, m2, m3, HNx.out.1, HNx.out.2.1, rfl, Rrm.other hne |>.other hne |>.other hne |>.other hne, RowF.set Ram, HSt.out _ _ _ _ _ _ _ _ _ _ _ _ HBv HDv HMv, Ext.st HB (Ext.st HB (Ext.st HB (Ext.st HB HE5.out)))⟩
        case measure => simp [intOf]; have := HNx.out.2.2; omega
    · have hnl : ¬ (P : Int) < (L : Int) := by omega
      have HQ : Hid (q = (L + 15) / 16) := (by omega : q = (L + 15) / 16)
      have HAl2 := HAl.out
      obtain ⟨V, HVq⟩ : ∃ V, Hid (T q + KA = V) := ⟨_, rfl⟩
      have HV : Hid (macV key s = V) := by rw [← HVq.out, HQ.out]; exact HF.out
      have HTq := HTl.out q
      have HSm : Hid (∀ b0 b1 b2 b3 s0 s1 s2 s3 (c : Bool), Hid (Lim4 b0 b1 b2 b3 ∧ val b0 b1 b2 b3 = ((KA : Nat) : Int)) → Hid (AddP a0 a1 a2 a3 b0 b1 b2 b3 s0 s1 s2 s3 c) → Hid (Lim4 s0 s1 s2 s3 ∧ val s0 s1 s2 s3 = ((V : Nat) : Int))) := fun _ _ _ _ _ _ _ _ _ hb h => by rw [← HVq.out]; exact mac_sum HA.out.2 hb.out.2 HTq HAl2 h.out
      have HAdd : Hid (∀ b0 b1 b2 b3, Hid (Lim4 b0 b1 b2 b3 ∧ val b0 b1 b2 b3 = ((KA : Nat) : Int)) → ∀ W, Calls Tryd.prog 53 #[.agg #[.int .u64 a0, .int .u64 a1, .int .u64 a2, .int .u64 a3], .agg #[.int .u64 b0, .int .u64 b1, .int .u64 b2, .int .u64 b3]] W fun e w' => ∃ (s0 s1 s2 s3 : Int) (c : Bool), e = .returned (.tuple #[.agg #[.int .u64 s0, .int .u64 s1, .int .u64 s2, .int .u64 s3], .bool c]) ∧ Hid (AddP a0 a1 a2 a3 b0 b1 b2 b3 s0 s1 s2 s3 c) ∧ Ext W w') := fun _ _ _ _ hb W => refAdd_raw _ _ _ _ _ _ _ _ HA.out.1 hb.out.1 W
      obtain ⟨MB, HMB⟩ : ∃ MB : Nat → Nat, Hid (MB = macB key s) := ⟨_, rfl⟩
      have HMv : Hid (∀ i, MB i = V / 2 ^ (8 * i) % 256) := fun i => by rw [HMB.out, ← HV.out]; rfl
      obtain ⟨SS, HSS⟩ : ∃ SS, Hid (mkS MB 16 = SS) := ⟨_, rfl⟩
      have HRes : Hid (macS key s = SS) := by show _ = _; rw [← HSS.out, HMB.out]; rfl
      have Ra0 := Ra
      obtain ⟨⟨la, y0, y1, y2, y3⟩, f0, f1, f2, f3⟩ := Ra
      obtain ⟨i0, hi, hz0, hz1, hz2⟩ := info_parts Tryd.info5m
      clear HL HBn HBl HRl HTs HTl HAl HF HQ HAl2 HTq HVq HV HMB HA Rr hPL hPq hlt
      go_wp2_with fail
      go_region_with (first | (go_at_call 50; go_must ((with_reducible refine (HEn.out _).mono ?_); rintro e w3 ⟨b0, b1, b2, b3, rfl, HBv, HX3⟩; have hW : Ext wr w3 := Ext.trans (Ext.drew (Ext.refl _)) HX3; have Ra3 := Ra0.ext hW; have HE3 : Hid (Ext w w3) := HE.out.trans hW; clear hW HX3 la y0 y1 y2 y3 f0 f1 f2 f3; have Rak := Ra3; obtain ⟨⟨la, y0, y1, y2, y3⟩, f0, f1, f2, f3⟩ := Ra3)) | (go_at_call 53; go_must ((with_reducible refine (HAdd.out _ _ _ _ HBv _).mono ?_); rintro e w4 ⟨s0, s1, s2, s3, cc, rfl, HDv, HX4⟩; have Ra4 := Rak.ext HX4; have HE4 : Hid (Ext w w4) := HE3.out.trans HX4; clear HX4 la y0 y1 y2 y3 f0 f1 f2 f3; have Ral := Ra4; obtain ⟨⟨la, y0, y1, y2, y3⟩, f0, f1, f2, f3⟩ := Ra4)))
      all_goals
        have Ram := (RowF.set (v0 := s0) (v1 := s1) (v2 := s2) (v3 := s3) Ral).1
        have HE5 : Hid (Ext w ((((w4.setCell ⟨g + 1, 0, none⟩ (.int .u64 s0)).setCell ⟨g + 1, 1, none⟩ (.int .u64 s1)).setCell ⟨g + 1, 2, none⟩ (.int .u64 s2)).setCell ⟨g + 1, 3, none⟩ (.int .u64 s3))) := Ext.st HB (Ext.st HB (Ext.st HB (Ext.st HB HE4.out)))
        have HSv := HSm.out _ _ _ _ _ _ _ _ _ HBv HDv
        clear HSm HAdd HEn HE3 HE4 HBv HDv Ral Rak y0 y1 y2 y3 f0 f1 f2 f3 la Ra0
        generalize ((((w4.setCell ⟨g + 1, 0, none⟩ (.int .u64 s0)).setCell ⟨g + 1, 1, none⟩ (.int .u64 s1)).setCell ⟨g + 1, 2, none⟩ (.int .u64 s2)).setCell ⟨g + 1, 3, none⟩ (.int .u64 s3)) = W3 at *
        go_wp2
        go_loopw [11, 12] (fun u11 u12 wq => ∃ (i : Nat), i ≤ 16 ∧ u12 = .int .i64 i ∧ Hid (wq.ownsRow W3.heap.size 5 1 u11 i (lst .u8 MB i)) ∧ Hid (Ext W3 wq)) (fun _ u12 _ => 16 - (intOf u12).toNat)
        case atStart => exact ⟨0, by omega, rfl, World.ownsRow_nil _ _ _ _, Ext.refl _⟩
        case round =>
          obtain ⟨i, hi16, rfl, HW, HX2⟩ := hrel
          by_cases hlt : i < 16
          · have hi1 : (i : Int) < 16 := by omega
            have hi0 : (0 : Int) ≤ (i : Int) := by omega
            obtain ⟨qd, rm, k, x, bv, hq2, hx, hk64, e1, e2, e3, e4, e5, e6, e7, e8, hx64⟩ := mac_byte HSv.out.1 HSv.out.2 i hlt
            have HBV : Hid (MB i = bv) := by show _ = _; rw [HMv.out, e8]
            have cq : wr.cell? ⟨g + 1, qd, none⟩ = some (.int .u64 (x : Int)) := by
              obtain ⟨_, z0, z1, _, _⟩ := Ram.ext HX2.out
              rcases hx with ⟨rfl, hx⟩ | ⟨rfl, hx⟩
              · rw [← hx]; exact z0
              · rw [← hx]; exact z1
            have q0 : (0 : Int) ≤ (qd : Int) := by omega
            have q4 : (qd : Int) < 4 := by omega
            have k0 : (0 : Int) ≤ (k : Int) := by omega
            have HW2 : Hid ((wr.alloc (.cells #[.int .u8 (bv : Int)] 5)).ownsRow W3.heap.size 5 1 u11 i (lst .u8 MB i)) := own_ext HW.out ((Ext.refl _).alloc _)
            have HB4 : Hid (W3.heap.size ≤ (wr.alloc (.cells #[.int .u8 (bv : Int)] 5)).heap.size) := ((HX2.out).alloc _).size
            have HXa : Hid (Ext W3 (wr.alloc (.cells #[.int .u8 (bv : Int)] 5))) := (HX2.out).alloc _
            clear e8 hx hq2
            go_wp2_with (first | (at_builtin; refine wpList_append_lies _ rfl _ _ 31 rfl W3.heap.size 5 i0 (.int .u8 0) 1 1 Tryd.underlying31 hi hz0 hz1 hz2 rfl (by decide) u11 i _ rfl HW2.out ⟨_, 0, none⟩ 1 1 [.int .u8 (bv : Int)] rfl rfl (news1m _ _) (news_onem _) (by decide) (by unfold maxLen; omega) (by omega) HB4.out _ rfl ?_))
            intro g5 cap5 w5 hown5 hgrow5 hat5 hlt5
            have HW5 : Hid (w5.ownsRow W3.heap.size 5 1 (.slice (some ⟨g5, 0, none⟩) (i + 1) cap5) (i + 1) (lst .u8 MB (i + 1))) := by
              rw [lst_succ, HBV.out]
              exact hown5
            have HX5 : Hid (Ext W3 w5) := ext_grown HXa.out hgrow5 (own_at HW2.out)
            clear hown5 hgrow5 hat5 hlt5 HXa HB4 HW2 HW HX2
            go_wp2
            go_roundw
            case rel => exact ⟨i + 1, hlt, by go_num, HW5, HX5⟩
            case measure => simp [intOf]; omega
          · have HI : Hid (i = 16) := (by omega : i = 16)
            have hni : ¬ (i : Int) < 16 := by omega
            have HSl : SlIs wr u11 (lst .u8 MB 16) := by
              have h := HW.out
              rw [HI.out] at h
              exact own_read h
            have hcv := run_lst_string Tryd.prog 5 31 9 Tryd.underlying31 Tryd.underlying5 Tryd.underlying9 wr MB 16 u11 HSl (by decide)
            rw [HSS.out] at hcv
            have HEf : Hid (Ext w wr) := HE5.out.trans HX2.out
            clear HSl
            go_wp2
            refine bodyPost_ret (v := .tuple #[.string SS, .int .i64 0]) (by simp [results, Tryd.results26, go_sem]) rfl ⟨by rw [HRes.out], HEf.out⟩
end Go.Proofs.YtbcgipapbamgfaaDoor
