/-
  sandglassref29.again, update, New, Reseed, called; nothing old is turned.
-/
import Derived.Test.YtpfeakdpckmcgaaDoorGMath
import Derived.Test.YtpfeakdpckmcgaaDoorRefHWith
namespace Go.Proofs.YtpfeakdpckmcgaaDoor
set_option maxRecDepth 10000
open Go.RowKit
/-- The first i bytes are b. -/
def agF (b i : Nat) : Nat → Nat := fun j => if j < i then b else 0
theorem agF_step (b i : Nat) : put (agF b i) i b = agF b (i + 1) := by
  funext j
  unfold put agF
  by_cases e : j = i
  · subst e; simp
  · rw [if_neg e]
    by_cases h : j < i
    · rw [if_pos h, if_pos (by omega)]
    · rw [if_neg h, if_neg (by omega)]
theorem agF_all (b : Nat) : mkS (agF b 32) 32 = agS b := by
  unfold mkS agS mkS
  congr 2
theorem Tryd.info5b : (Tryd.prog.info? 5).map (fun i => (i.zero, i.size, i.bytes)) = some (some (.int .u8 0), 1, 1) := by kernel_rfl
theorem make32 (w : World) : ∃ Zc : Array Value, (Instr.makeSlice 62 (.int .i64 32) (.int .i64 32)).run Tryd.prog w = .ok (.slice (some ⟨w.heap.size, 0, none⟩) 32 32) (w.alloc (.cells Zc 5)) ∧ TabN (w.alloc (.cells Zc 5)) w.heap.size .u8 32 (fun _ => 0) := by
  obtain ⟨i0, hi, hz0, hz1, hz2⟩ := info_parts Tryd.info5b
  refine ⟨madeCells #[.int .u8 0] 32, ?_, by simp, fun j hj => ⟨?_, World.frozen?_alloc_at _ _ _ _ rfl⟩⟩
  · have := run_make (P := Tryd.prog) w 62 5 i0 (.int .u8 0) Tryd.underlying62 hi hz0 .i64 .i64 ((32 : Nat) : Int) ((32 : Nat) : Int) (by omega) (by omega) (by rw [hz2]; omega) (by omega)
    rw [Int.toNat_natCast, hz1, Nat.mul_one] at this
    exact this
  · rw [World.cell?_alloc_at _ _ _ _ rfl]
    have := lst_get (kd := .u8) (T := fun _ => 0) (n := 32) (i := j) hj
    rw [← made_lst'] at this
    simpa using this
set_option maxHeartbeats 1000000 in
theorem ragain_any (b : Nat) (w : World) : Calls Tryd.prog 25 #[.int .u8 (b : Int), .int .i64 32] w fun e w' => e = .returned (.string (agS b)) ∧ Ext w w' := by
  obtain ⟨Zc, hmk, HT⟩ := make32 w
  have HT0 : Hid (TabN (w.alloc (.cells Zc 5)) w.heap.size .u8 32 (agF b 0)) := HT
  have HE0 : Hid (Ext w (w.alloc (.cells Zc 5))) := (Ext.refl _).alloc _
  have HG : SizeLe w w.heap.size := Nat.le_refl _
  clear HT
  go_enter Tryd.func25, Tryd.ntmps25
  go_wp2
  clear hmk
  generalize w.alloc (.cells Zc 5) = W0 at *
  generalize w.heap.size = g at *
  go_loopw [6] (fun u6 wr => ∃ (i : Nat), i ≤ 32 ∧ u6 = .int .i64 i ∧ TabN wr g .u8 32 (agF b i) ∧ Hid (Ext w wr)) (fun u6 _ => 32 - (intOf u6).toNat)
  case atStart => exact ⟨0, by omega, rfl, HT0.out, HE0⟩
  case round =>
    obtain ⟨i, hi, rfl, HT, HE⟩ := hrel
    by_cases hlt : i < 32
    · have hi1 : (i : Int) < 32 := by omega
      have hi0 : (0 : Int) ≤ (i : Int) := by omega
      obtain ⟨gp, gf⟩ := HT.2 i hlt
      have HST := HT.set i b
      rw [agF_step] at HST
      go_wp2
      go_roundw
      case rel => exact ⟨i + 1, hlt, by go_num, HST, Ext.st HG HE.out⟩
      case measure => simp [intOf]; omega
    · obtain rfl : i = 32 := by omega
      have hcs := run_lst_string Tryd.prog 5 62 9 Tryd.underlying62 Tryd.underlying5 Tryd.underlying9 wr (agF b 32) 32 (.slice (some ⟨g, 0, none⟩) 32 32) (HT.slice (by decide)) (by decide)
      rw [agF_all] at hcs
      go_wp2
      go_ret
      exact ⟨rfl, HE.out⟩
theorem toList_nil {s : ByteArray} (h : s.size = 0) : s.toList = [] := by
  rw [ByteArray.toList_eq]
  exact List.eq_nil_of_length_eq_zero h
theorem isEmpty_nil {s : ByteArray} (h : s.size = 0) : s.toList.isEmpty = true := by rw [toList_nil h]; rfl
theorem isEmpty_some {s : ByteArray} (h : s.size ≠ 0) : s.toList.isEmpty = false := by
  cases hl : s.toList with
  | nil =>
    rw [ByteArray.toList_eq] at hl
    exact absurd (congrArg List.length hl) h
  | cons a l => rfl
/-- A generator as a value. -/
def gdV (K V : ByteArray) (A : Int) : Value := .agg #[.string K, .string V, .int .i64 A]
/-- The cells of one. -/
def GB3 (w : World) (b : Nat) (K V : ByteArray) (A : Int) : Prop := b < w.heap.size ∧ (w.cell? ⟨b, 0, none⟩ = some (.string K) ∧ w.cell? ⟨b, 1, none⟩ = some (.string V) ∧ w.cell? ⟨b, 2, none⟩ = some (.int .i64 A)) ∧ (w.frozen? ⟨b, 0, none⟩ = false ∧ w.frozen? ⟨b, 1, none⟩ = false ∧ w.frozen? ⟨b, 2, none⟩ = false)
theorem GB3.ext {w w' : World} {b : Nat} {K V : ByteArray} {A : Int} (h : GB3 w b K V A) (hx : Ext w w') : GB3 w' b K V A := by
  obtain ⟨h0, ⟨c0, c1, c2⟩, f0, f1, f2⟩ := h
  exact ⟨Nat.lt_of_lt_of_le h0 hx.size, ⟨later hx c0, later hx c1, later hx c2⟩, (hx.cells.2 b 0 h0).trans f0, (hx.cells.2 b 1 h0).trans f1, (hx.cells.2 b 2 h0).trans f2⟩
theorem GB3.new (w : World) (K V : ByteArray) (A : Int) (t : TypeId) : GB3 (w.alloc (.cells #[.string K, .string V, .int .i64 A] t)) w.heap.size K V A :=
  ⟨by simp, ⟨by rw [World.cell?_alloc_at _ _ _ _ rfl]; rfl, by rw [World.cell?_alloc_at _ _ _ _ rfl]; rfl, by rw [World.cell?_alloc_at _ _ _ _ rfl]; rfl⟩, World.frozen?_alloc_at _ _ _ _ rfl, World.frozen?_alloc_at _ _ _ _ rfl, World.frozen?_alloc_at _ _ _ _ rfl⟩
theorem GB3.setK {w : World} {b : Nat} {K V : ByteArray} {A : Int} (h : GB3 w b K V A) (K' : ByteArray) : GB3 (w.setCell ⟨b, 0, none⟩ (.string K')) b K' V A := by
  obtain ⟨h0, ⟨c0, c1, c2⟩, f0, f1, f2⟩ := h
  exact ⟨by simpa using h0, ⟨by simp [World.cell?_setCell_same, c0], by simp [World.cell?_setCell_other, c1], by simp [World.cell?_setCell_other, c2]⟩, by simpa using f0, by simpa using f1, by simpa using f2⟩
theorem GB3.setV {w : World} {b : Nat} {K V : ByteArray} {A : Int} (h : GB3 w b K V A) (V' : ByteArray) : GB3 (w.setCell ⟨b, 1, none⟩ (.string V')) b K V' A := by
  obtain ⟨h0, ⟨c0, c1, c2⟩, f0, f1, f2⟩ := h
  exact ⟨by simpa using h0, ⟨by simp [World.cell?_setCell_other, c0], by simp [World.cell?_setCell_same, c1], by simp [World.cell?_setCell_other, c2]⟩, by simpa using f0, by simpa using f1, by simpa using f2⟩
theorem GB3.setA {w : World} {b : Nat} {K V : ByteArray} {A : Int} (h : GB3 w b K V A) (A' : Int) : GB3 (w.setCell ⟨b, 2, none⟩ (.int .i64 A')) b K V A' := by
  obtain ⟨h0, ⟨c0, c1, c2⟩, f0, f1, f2⟩ := h
  exact ⟨by simpa using h0, ⟨by simp [World.cell?_setCell_other, c0], by simp [World.cell?_setCell_other, c1], by simp [World.cell?_setCell_same, c2]⟩, by simpa using f0, by simpa using f1, by simpa using f2⟩
theorem GB3.other {w : World} {b c i : Nat} {K V : ByteArray} {A : Int} {v : Value} (hne : c ≠ b) (h : GB3 w b K V A) : GB3 (w.setCell ⟨c, i, none⟩ v) b K V A := by
  obtain ⟨h0, ⟨c0, c1, c2⟩, f0, f1, f2⟩ := h
  have k : ∀ j : Nat, (⟨c, i, none⟩ : Addr) ≠ ⟨b, j, none⟩ := fun j q => hne (by injection q)
  exact ⟨by simpa using h0, ⟨by rw [World.cell?_setCell_other _ _ _ _ (k 0)]; exact c0, by rw [World.cell?_setCell_other _ _ _ _ (k 1)]; exact c1, by rw [World.cell?_setCell_other _ _ _ _ (k 2)]; exact c2⟩, by simpa using f0, by simpa using f1, by simpa using f2⟩
set_option maxHeartbeats 1000000 in
theorem rupdate_any (K V s : ByteArray) (A : Int) (hK : K.size = 32) (hV : V.size = 32) (hs : s.size ≤ 5000) (w : World) :
    Calls Tryd.prog 24 #[gdV K V A, .string s] w fun e w' => e = .returned (gdV (upK K V s) (upV K V s) A) ∧ Ext w w' := by
  have HU1 : Hid (macS K (V ++ ⟨#[0]⟩ ++ s) = k1 K V s) := rfl
  have HU2 : Hid (macS (k1 K V s) V = v1 K V s) := rfl
  have HU3 : Hid (macS (k1 K V s) (v1 K V s ++ ⟨#[1]⟩ ++ s) = k2 K V s) := rfl
  have HU4 : Hid (macS (k2 K V s) (v1 K V s) = v2 K V s) := rfl
  have HZ1 : Hid ((k1 K V s).size = 32) := k1_size K V s
  have hZ2 : (v1 K V s).size = 32 := v1_size K V s
  have HZ3 : Hid ((k2 K V s).size = 32) := k2_size K V s
  have hb0 : (⟨#[0]⟩ : ByteArray).size = 1 := rfl
  have hb1 : (⟨#[1]⟩ : ByteArray).size = 1 := rfl
  have hc1 : ¬ 9223372036854775807 < V.size + 1 := by omega
  have hc2 : ¬ 9223372036854775807 < V.size + 1 + s.size := by omega
  have hc3 : ¬ 9223372036854775807 < (v1 K V s).size + 1 := by omega
  have hc4 : ¬ 9223372036854775807 < (v1 K V s).size + 1 + s.size := by omega
  have R0 : Hid (GB3 ((w.alloc (.cells #[.string K, .string V, .int .i64 A] 28)).alloc (.cells #[.string ⟨#[]⟩, .string ⟨#[]⟩, .int .i64 0] 28)) w.heap.size K V A) := (GB3.new _ _ _ _ _).ext ((Ext.refl _).alloc _)
  have Z0 : Hid (GB3 ((w.alloc (.cells #[.string K, .string V, .int .i64 A] 28)).alloc (.cells #[.string ⟨#[]⟩, .string ⟨#[]⟩, .int .i64 0] 28)) (w.heap.size + 1) ⟨#[]⟩ ⟨#[]⟩ 0) := by
    have := GB3.new (w.alloc (.cells #[.string K, .string V, .int .i64 A] 28)) ⟨#[]⟩ ⟨#[]⟩ 0 28
    rw [World.size_alloc] at this
    exact this
  have HUK : Hid (upK K V s = if s.size = 0 then k1 K V s else k2 K V s) := rfl
  have HUV : Hid (upV K V s = if s.size = 0 then v1 K V s else v2 K V s) := rfl
  have HL1 : Hid ((V ++ ⟨#[0]⟩ ++ s).size < 4294967000) := by show _ < _; rw [ByteArray.size_append, ByteArray.size_append]; omega
  have HL2 : Hid ((v1 K V s ++ ⟨#[1]⟩ ++ s).size < 4294967000) := by show _ < _; rw [ByteArray.size_append, ByteArray.size_append]; omega
  have HKs : Hid (K.size < 4294967296) := (by omega : K.size < 4294967296)
  have HVs : Hid (V.size < 4294967000) := (by omega : V.size < 4294967000)
  have HYs : Hid ((v1 K V s).size < 4294967000) := (by omega : (v1 K V s).size < 4294967000)
  generalize upK K V s = UK at *
  generalize upV K V s = UV at *
  generalize k1 K V s = x1 at *
  generalize v1 K V s = y1 at *
  generalize k2 K V s = x2 at *
  generalize v2 K V s = y2 at *
  have HX1s : Hid (x1.size < 4294967296) := by show _ < _; rw [HZ1.out]; omega
  have HX2s : Hid (x2.size < 4294967296) := by show _ < _; rw [HZ3.out]; omega
  clear hZ2 hK hV HZ1 HZ3
  unfold gdV
  have HA0 : Hid (Ext w ((w.alloc (.cells #[.string K, .string V, .int .i64 A] 28)).alloc (.cells #[.string ⟨#[]⟩, .string ⟨#[]⟩, .int .i64 0] 28))) := ((Ext.refl _).alloc _).alloc _
  have hG : SizeLe w w.heap.size := Nat.le_refl _
  have hG1 : SizeLe w (w.heap.size + 1) := Nat.le_succ _
  go_enter Tryd.func24, Tryd.ntmps24
  go_wp2_with fail
  generalize (w.alloc (.cells #[.string K, .string V, .int .i64 A] 28)).alloc (.cells #[.string ⟨#[]⟩, .string ⟨#[]⟩, .int .i64 0] 28) = W0 at *
  obtain ⟨c, hc⟩ : ∃ c, w.heap.size + 1 = c := ⟨_, rfl⟩
  have hcb : w.heap.size ≠ c := by omega
  have hcb2 : c ≠ w.heap.size := by omega
  rw [hc] at Z0 hG1 ⊢
  clear hc
  generalize w.heap.size = b at *
  refine (rmac_any _ _ HKs.out HL1.out _).mono ?_
  rintro e w1 ⟨rfl, HX⟩
  rw [HU1.out]
  have R1 : GB3 w1 b K V A := R0.out.ext HX
  have Z1 : GB3 w1 c ⟨#[]⟩ ⟨#[]⟩ 0 := Z0.out.ext HX
  have HA1 : Hid (Ext w w1) := HA0.out.trans HX
  clear HX R0 HA0 Z0
  have R1' : Hid (GB3 (w1.setCell ⟨b, 0, none⟩ (.string x1)) b x1 V A) := R1.setK x1
  have Z1' : Hid (GB3 (w1.setCell ⟨b, 0, none⟩ (.string x1)) c ⟨#[]⟩ ⟨#[]⟩ 0) := Z1.other hcb
  obtain ⟨h0, ⟨c0, c1, c2⟩, f0, f1, f2⟩ := R1
  clear Z1
  go_wp2_with fail
  refine (rmac_any _ _ HX1s.out HVs.out _).mono ?_
  rintro e w2 ⟨rfl, HX⟩
  rw [HU2.out]
  have R2 : GB3 w2 b x1 V A := R1'.out.ext HX
  have Z2 : GB3 w2 c ⟨#[]⟩ ⟨#[]⟩ 0 := Z1'.out.ext HX
  have HA2 : Hid (Ext w w2) := (Ext.st hG HA1.out).trans HX
  have R2' : Hid (GB3 (w2.setCell ⟨b, 1, none⟩ (.string y1)) b x1 y1 A) := R2.setV y1
  have Z2' : Hid (GB3 (w2.setCell ⟨b, 1, none⟩ (.string y1)) c ⟨#[]⟩ ⟨#[]⟩ 0) := Z2.other hcb
  have HA2' : Hid (Ext w (w2.setCell ⟨b, 1, none⟩ (.string y1))) := Ext.st hG HA2.out
  clear HX R1' HA1 h0 c0 c1 c2 f0 f1 f2 Z1'
  obtain ⟨h0, ⟨c0, c1, c2⟩, f0, f1, f2⟩ := R2
  obtain ⟨e0, ⟨d0, d1, d2⟩, g0, g1, g2⟩ := Z2
  by_cases hz : s.size = 0
  · have hs0 := isEmpty_nil hz
    rw [if_pos hz] at HUK HUV
    clear hz HA2
    go_wp2
    refine bodyPost_ret (v := .agg #[.string x1, .string y1, .int .i64 A]) (by simp [results, Tryd.results24, go_sem, d0, d1, d2]) rfl ⟨by rw [HUK.out, HUV.out], ?_⟩
    exact Ext.st hG1 (Ext.st hG1 (Ext.st hG1 HA2'.out))
  · have hs0 := isEmpty_some hz
    rw [if_neg hz] at HUK HUV
    clear hz HA2
    go_wp2_with fail
    generalize w2.setCell ⟨b, 1, none⟩ (.string y1) = W2 at *
    clear h0 c0 c1 c2 f0 f1 f2 e0 d0 d1 d2 g0 g1 g2
    refine (rmac_any _ _ HX1s.out HL2.out _).mono ?_
    rintro e w3 ⟨rfl, HX⟩
    rw [HU3.out]
    have R3 := R2'.out.ext HX
    have Z3 := Z2'.out.ext HX
    have HA3 : Hid (Ext w w3) := HA2'.out.trans HX
    clear HX R2' HA2' Z2'
    have R3' : Hid (GB3 (w3.setCell ⟨b, 0, none⟩ (.string x2)) b x2 y1 A) := R3.setK x2
    have Z3' : Hid (GB3 (w3.setCell ⟨b, 0, none⟩ (.string x2)) c ⟨#[]⟩ ⟨#[]⟩ 0) := Z3.other hcb
    obtain ⟨h0, ⟨c0, c1, c2⟩, f0, f1, f2⟩ := R3
    clear Z3
    go_wp2_with fail
    refine (rmac_any _ _ HX2s.out HYs.out _).mono ?_
    rintro e w4 ⟨rfl, HX⟩
    rw [HU4.out]
    have R4 := R3'.out.ext HX
    have Z4 := Z3'.out.ext HX
    have HA4 : Hid (Ext w w4) := (Ext.st hG HA3.out).trans HX
    clear HX R3' HA3 h0 c0 c1 c2 f0 f1 f2 Z3'
    obtain ⟨h0, ⟨c0, c1, c2⟩, f0, f1, f2⟩ := R4
    obtain ⟨e0, ⟨d0, d1, d2⟩, g0, g1, g2⟩ := Z4
    go_wp2
    refine bodyPost_ret (v := .agg #[.string x2, .string y2, .int .i64 A]) (by simp [results, Tryd.results24, go_sem, d0, d1, d2]) rfl ⟨by rw [HUK.out, HUV.out], ?_⟩
    exact Ext.st hG1 (Ext.st hG1 (Ext.st hG1 (Ext.st hG HA4.out)))
theorem rnew_any (s : ByteArray) (hs : s.size ≤ 5000) (w : World) :
    Calls Tryd.prog 11 #[.string s] w fun e w' => e = .returned (gdV (upK (agS 0) (agS 1) s) (upV (agS 0) (agS 1) s) 0) ∧ Ext w w' := by
  have HU : Hid (∀ W, Calls Tryd.prog 24 #[gdV (agS 0) (agS 1) 0, .string s] W fun e w' => e = .returned (gdV (upK (agS 0) (agS 1) s) (upV (agS 0) (agS 1) s) 0) ∧ Ext W w') := fun W => rupdate_any _ _ s 0 (mkS_size _ _) (mkS_size _ _) hs W
  have HA0 : Hid (∀ W, Calls Tryd.prog 25 #[.int .u8 0, .int .i64 32] W fun e w' => e = .returned (.string (agS 0)) ∧ Ext W w') := fun W => ragain_any 0 W
  have HA1 : Hid (∀ W, Calls Tryd.prog 25 #[.int .u8 1, .int .i64 32] W fun e w' => e = .returned (.string (agS 1)) ∧ Ext W w') := fun W => ragain_any 1 W
  generalize upK (agS 0) (agS 1) s = UK at *
  generalize upV (agS 0) (agS 1) s = UV at *
  generalize agS 0 = a0 at *
  generalize agS 1 = a1 at *
  have Z0 : Hid (GB3 (w.alloc (.cells #[.string ⟨#[]⟩, .string ⟨#[]⟩, .int .i64 0] 28)) w.heap.size ⟨#[]⟩ ⟨#[]⟩ 0) := GB3.new _ _ _ _ _
  have HE0 : Hid (Ext w (w.alloc (.cells #[.string ⟨#[]⟩, .string ⟨#[]⟩, .int .i64 0] 28))) := (Ext.refl _).alloc _
  have hG : SizeLe w w.heap.size := Nat.le_refl _
  unfold gdV at *
  go_enter Tryd.func11, Tryd.ntmps11
  go_wp2_with fail
  generalize w.alloc (.cells #[.string ⟨#[]⟩, .string ⟨#[]⟩, .int .i64 0] 28) = W0 at *
  generalize w.heap.size = b at *
  refine (HA0.out _).mono ?_
  rintro e w1 ⟨rfl, HX1⟩
  go_wp2_with fail
  refine (HA1.out _).mono ?_
  rintro e w2 ⟨rfl, HX2⟩
  go_wp2_with fail
  refine (HU.out _).mono ?_
  rintro e w3 ⟨rfl, HX3⟩
  have HX : Ext W0 w3 := (Ext.trans HX1 HX2).trans HX3
  have HE : Hid (Ext w w3) := HE0.out.trans HX
  obtain ⟨e0, ⟨d0, d1, d2⟩, g0, g1, g2⟩ := Z0.out.ext HX
  clear HX HX1 HX2 HX3 Z0
  go_wp2
  refine bodyPost_ret (v := .agg #[.string UK, .string UV, .int .i64 0]) (by simp [results, Tryd.results11, go_sem, d0, d1, d2]) rfl ⟨rfl, ?_⟩
  exact Ext.st hG (Ext.st hG (Ext.st hG HE.out))
theorem rreseed_any (K V s : ByteArray) (A : Int) (hK : K.size = 32) (hV : V.size = 32) (hs : s.size ≤ 5000) (w : World) :
    Calls Tryd.prog 19 #[gdV K V A, .string s] w fun e w' => e = .returned (gdV (upK K V s) (upV K V s) A) ∧ Ext w w' := by
  have HU : Hid (∀ W, Calls Tryd.prog 24 #[gdV K V A, .string s] W fun e w' => e = .returned (gdV (upK K V s) (upV K V s) A) ∧ Ext W w') := fun W => rupdate_any K V s A hK hV hs W
  generalize upK K V s = UK at *
  generalize upV K V s = UV at *
  have Z0 : Hid (GB3 ((w.alloc (.cells #[.string K, .string V, .int .i64 A] 28)).alloc (.cells #[.string ⟨#[]⟩, .string ⟨#[]⟩, .int .i64 0] 28)) (w.heap.size + 1) ⟨#[]⟩ ⟨#[]⟩ 0) := by
    have := GB3.new (w.alloc (.cells #[.string K, .string V, .int .i64 A] 28)) ⟨#[]⟩ ⟨#[]⟩ 0 28
    rw [World.size_alloc] at this
    exact this
  have HE0 : Hid (Ext w ((w.alloc (.cells #[.string K, .string V, .int .i64 A] 28)).alloc (.cells #[.string ⟨#[]⟩, .string ⟨#[]⟩, .int .i64 0] 28))) := ((Ext.refl _).alloc _).alloc _
  have hG : SizeLe w (w.heap.size + 1) := Nat.le_succ _
  unfold gdV at *
  go_enter Tryd.func19, Tryd.ntmps19
  go_wp2_with fail
  generalize (w.alloc (.cells #[.string K, .string V, .int .i64 A] 28)).alloc (.cells #[.string ⟨#[]⟩, .string ⟨#[]⟩, .int .i64 0] 28) = W0 at *
  generalize w.heap.size + 1 = b at *
  refine (HU.out _).mono ?_
  rintro e w3 ⟨rfl, HX⟩
  have HE : Hid (Ext w w3) := HE0.out.trans HX
  obtain ⟨e0, ⟨d0, d1, d2⟩, g0, g1, g2⟩ := Z0.out.ext HX
  clear HX Z0
  go_wp2
  refine bodyPost_ret (v := .agg #[.string UK, .string UV, .int .i64 A]) (by simp [results, Tryd.results19, go_sem, d0, d1, d2]) rfl ⟨rfl, ?_⟩
  exact Ext.st hG (Ext.st hG (Ext.st hG HE.out))
end Go.Proofs.YtpfeakdpckmcgaaDoor
