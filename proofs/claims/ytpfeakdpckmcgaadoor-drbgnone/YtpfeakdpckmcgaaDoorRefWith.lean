/-
  sandglassref07.With, called: the sum of a text; nothing old is turned.
-/
import Derived.Test.YtpfeakdpckmcgaaDoorRefBlock
import Derived.Test.YtpfeakdpckmcgaaDoorPads
namespace Go.Proofs.YtpfeakdpckmcgaaDoor
open Go.RowKit
/-- The struct that came in lies in block n. -/
def TP (w wr : World) (n : Nat) (vh vk : Value) : Prop := wr.cell? ⟨n, 0, none⟩ = some vh ∧ wr.cell? ⟨n, 1, none⟩ = some vk ∧ n < wr.heap.size ∧ Ext w wr ∧ w.heap.size ≤ n
theorem TP.ext {w wr wy : World} {n : Nat} {vh vk : Value} (h : TP w wr n vh vk) (hx : Ext wr wy) : TP w wy n vh vk := ⟨later hx h.1, later hx h.2.1, Nat.lt_of_lt_of_le h.2.2.1 hx.size, h.2.2.2.1.trans hx, h.2.2.2.2⟩
theorem TP.grown {w wr wy : World} {n : Nat} {vh vk : Value} {row : Option Nat} (h : TP w wr n vh vk) (hg : wr.grownBy wy row) (hrow : ∀ k, row = some k → n < k) : TP w wy n vh vk :=
  ⟨(hg.cell_far ⟨n, 0, none⟩ h.2.2.1 (fun e => by have := hrow n e.symm; omega)).trans h.1, (hg.cell_far ⟨n, 1, none⟩ h.2.2.1 (fun e => by have := hrow n e.symm; omega)).trans h.2.1, Nat.lt_of_lt_of_le h.2.2.1 hg.size, ext_grown h.2.2.2.1 hg (fun k hk => by have := hrow k hk; have := h.2.2.2.2; omega), h.2.2.2.2⟩
theorem Tryd.info5 : (Tryd.prog.info? 5).map (fun i => (i.zero, i.size, i.bytes)) = some (some (.int .u8 0), 1, 1) := by kernel_rfl
theorem news_f {w : World} {kd : IntKind} {T : Nat → Nat} {n : Nat} {x : Nat} {t : TypeId} (h : T n = x) : ∀ j u, (newsL kd T n 1)[j]? = some u → (w.alloc (.cells #[.int kd (x : Int)] t)).cell? ((⟨w.heap.size, 0, none⟩ : Addr).add j) = some u := by
  intro j u hj
  obtain ⟨hk, rfl⟩ := lst_of hj
  obtain rfl : j = 0 := by omega
  simp [Addr.add, h]
theorem news4 (w : World) (v0 v1 v2 v3 : Value) {t : TypeId} : ∀ j u, [v0, v1, v2, v3][j]? = some u → (w.alloc (.cells #[v0, v1, v2, v3] t)).cell? ((⟨w.heap.size, 0, none⟩ : Addr).add j) = some u := by
  intro j u hj
  have hadd : (⟨w.heap.size, 0, none⟩ : Addr).add j = ⟨w.heap.size, j, none⟩ := by unfold Addr.add; split <;> simp_all
  rw [hadd]
  rw [World.cell?_alloc_at _ _ _ _ rfl]
  simpa using hj
theorem news_one4 (a b c d : Int) {kd : IntKind} : ∀ u ∈ [Value.int kd a, .int kd b, .int kd c, .int kd d], u.oneCell' = true := by
  intro u hu; simp at hu; rcases hu with rfl | rfl | rfl | rfl <;> rfl
theorem HH_lim : ∀ x ∈ HH, x < 4294967296 := by decide
theorem zip_lim (a b : List Nat) : ∀ x ∈ List.zipWith (fun x y => (x + y) % 4294967296) a b, x < 4294967296 := by
  intro x hx
  obtain ⟨i, hi, rfl⟩ := List.mem_iff_getElem.1 hx
  rw [List.getElem_zipWith]
  exact Nat.mod_lt _ (by decide)
theorem hash_len (s : Nat → Nat) (n k : Nat) : (hashF s n k).length = 8 ∧ ∀ x ∈ hashF s n k, x < 4294967296 := by
  induction k with
  | zero => exact ⟨rfl, HH_lim⟩
  | succ k ih =>
    refine ⟨?_, zip_lim _ _⟩
    show (blockF _ _ _).length = 8
    unfold blockF
    rw [List.length_zipWith, ih.1, (rd_len ih.1 ih.2 64).1]
    rfl
theorem byte_shift (M e : Nat) : (M : Int) / 2 ^ e % 256 = ((M / 2 ^ e % 256 : Nat) : Int) := by
  rw [show (2 : Int) ^ e = ((2 ^ e : Nat) : Int) from (Int.natCast_pow 2 e).symm]
  generalize (2 : Nat) ^ e = p
  rw [← Int.natCast_ediv]
  omega
theorem pow_256 (k : Nat) : 256 ^ k = 2 ^ (8 * k) := by rw [Nat.pow_mul]
def lenOf : Value → Nat | .slice _ n _ => n | _ => 0
set_option maxRecDepth 100000 in
set_option maxHeartbeats 2000000 in
theorem with_any (s : ByteArray) (hs : s.size < 4294967296) (vh vk : Value) (w : World) (sh : SlIs w vh (lst .u32 (fun i => HH.getD i 0) 8)) (sk : SlIs w vk (lst .u32 (fun i => KK.getD i 0) 64)) :
    Calls Tryd.prog 39 #[.agg #[vh, vk], .string s] w fun e w' => e = .returned (.string (shaS s)) ∧ Ext w w' := by
  obtain ⟨i0, hi, hz0, hz1, hz2⟩ := info_parts Tryd.info5
  have hcv := Lib.run_convert_string_bytes (w.alloc (.cells #[vh, vk] 71)) 9 62 5 s Tryd.underlying9 Tryd.underlying62 Tryd.underlying5
  have HX0 : Hid (Ext (w.alloc (.cells #[vh, vk] 71)) (Lib.bytesWorld (w.alloc (.cells #[vh, vk] 71)) 5 s)) := bytes_ext _ _ _
  have HO0 : Hid (OwnF (Lib.bytesWorld (w.alloc (.cells #[vh, vk] 71)) 5 s) (w.alloc (.cells #[vh, vk] 71)).heap.size .u8 (.slice (some ⟨(w.alloc (.cells #[vh, vk] 71)).heap.size, 0, none⟩) s.size (grownCap (w.alloc (.cells #[vh, vk] 71)) s.size 0 5)) s.size (pb s)) := (bytes_own _ _ _ (by unfold maxLen; omega)).congr fun j hj => (pb_text hj).symm
  have HE0 : Hid (Ext w (w.alloc (.cells #[vh, vk] 71))) := (Ext.refl _).alloc _
  have HT0 : Hid ((w.alloc (.cells #[vh, vk] 71)).cell? ⟨w.heap.size, 0, none⟩ = some vh ∧ (w.alloc (.cells #[vh, vk] 71)).cell? ⟨w.heap.size, 1, none⟩ = some vk) := ⟨by rw [World.cell?_alloc_at _ _ _ _ rfl]; rfl, by rw [World.cell?_alloc_at _ _ _ _ rfl]; rfl⟩
  have hsz : (w.alloc (.cells #[vh, vk] 71)).heap.size = w.heap.size + 1 := by simp
  rw [hsz] at hcv HO0
  obtain ⟨X, hX⟩ : ∃ X, Lib.bytesWorld (w.alloc (.cells #[vh, vk] 71)) 5 s = X := ⟨_, rfl⟩
  obtain ⟨c0, hc0⟩ : ∃ c0, grownCap (w.alloc (.cells #[vh, vk] 71)) s.size 0 5 = c0 := ⟨_, rfl⟩
  rw [hX] at hcv HX0 HO0
  rw [hc0] at hcv HO0
  have HEX : Hid (Ext w X) := HE0.out.trans HX0.out
  have HTX : Hid (X.cell? ⟨w.heap.size, 0, none⟩ = some vh ∧ X.cell? ⟨w.heap.size, 1, none⟩ = some vk ∧ w.heap.size < X.heap.size) := ⟨later HX0.out HT0.out.1, later HX0.out HT0.out.2, by have := HX0.out.size; rw [hsz] at this; omega⟩
  have HBX : Hid (w.heap.size + 1 ≤ (X.alloc (.cells #[.int .u8 128] 5)).heap.size) := by have := HTX.out.2.2; show _ ≤ _; simp; omega
  clear hX hc0 hsz HT0
  go_enter Tryd.func39, Tryd.ntmps39
  go_wp2_with (first | (at_builtin; refine wpList_append_f _ rfl _ _ 62 rfl (w.heap.size + 1) 5 i0 (.int .u8 0) 1 Tryd.underlying62 hi hz0 hz1 hz2 rfl .u8 _ s.size (pb s) rfl (HO0.out.ext ((Ext.refl _).alloc _)) ⟨_, 0, none⟩ 1 1 rfl (news_f (pb_mark s)) (by decide) (by unfold maxLen; omega) (by omega) HBX.out ?_))
  intro v1 w1 HO1 hgrow1
  have HP0 : TP w (X.alloc (.cells #[.int .u8 128] 5)) w.heap.size vh vk := ⟨later ((Ext.refl _).alloc _) HTX.out.1, later ((Ext.refl _).alloc _) HTX.out.2.1, by have := HTX.out.2.2; simp; omega, HEX.out.alloc _, Nat.le_refl _⟩
  have HP1 := HP0.grown hgrow1 (fun k hk => by have := HO0.out.at k hk; omega)
  have HB1 : Hid (w.heap.size + 1 ≤ w1.heap.size) := Nat.le_trans HBX.out hgrow1.size
  have HO1 : Hid (OwnF w1 (w.heap.size + 1) .u8 v1 (s.size + 1) (pb s)) := HO1
  have HS : Hid (s.size < 4294967296) := hs
  obtain ⟨N, HN⟩ : ∃ N, Hid (64 * nblk s.size = N) := ⟨_, rfl⟩
  have HNs : Hid (s.size + 9 ≤ N ∧ N % 64 = 0 ∧ N ≤ s.size + 72 ∧ N ≤ 8589934592) := by
    show _ ∧ _
    rw [← HN.out]
    unfold nblk
    omega
  clear hgrow1 HP0 HTX HBX HEX HX0 HO0 HE0 hcv
  generalize hn : w.heap.size = n at *
  have HNn : Hid (w.heap.size = n) := hn
  clear hn
  go_wp2
  go_loopw [5] (fun u5 wr => ∃ (L : Nat), s.size + 1 ≤ L ∧ L + 8 ≤ N ∧ Hid (OwnF wr (n + 1) .u8 u5 L (pb s)) ∧ Hid (TP w wr n vh vk) ∧ Hid (n + 1 ≤ wr.heap.size)) (fun u5 _ => N - lenOf u5)
  case atStart => exact ⟨s.size + 1, by omega, by have := HNs.out; omega, HO1, HP1, HB1⟩
  case round =>
    clear HO1 HP1 HB1
    obtain ⟨L, hL1, hL2, HO, HP, HB⟩ := hrel
    obtain ⟨g, cap, rfl, _⟩ := id HO.out
    have hrem : (L : Int).tmod 64 = ((L % 64 : Nat) : Int) := by rw [Int.tmod_eq_emod_of_nonneg (by omega)]; omega
    by_cases hq : L % 64 = 56
    · have HLN : Hid (L + 8 = N) := (by have := HNs.out; omega : L + 8 = N)
      have hne : (((L % 64 : Nat) : Int) != 56) = false := by rw [hq]; rfl
      obtain ⟨M, HM⟩ : ∃ M, Hid (s.size * 8 = M) := ⟨_, rfl⟩
      have hM : IntKind.u64.wrap ((s.size : Int) * 8) = (M : Int) := by have := HS.out; have := HM.out; rw [IntKind.wrap_u64]; omega
      generalize L % 64 = r at *
      go_wp2
      go_loopw [5, 7] (fun u5 u7 wr => ∃ (j : Nat), j ≤ 8 ∧ u7 = .int .i64 (7 - (j : Int)) ∧ Hid (OwnF wr (n + 1) .u8 u5 (L + j) (pb s)) ∧ Hid (TP w wr n vh vk) ∧ Hid (n + 1 ≤ wr.heap.size)) (fun _ u7 _ => (intOf u7 + 1).toNat)
      case atStart => exact ⟨0, by omega, by go_num, HO, HP, HB⟩
      case round =>
        clear HO HP HB
        obtain ⟨j, hj, rfl, HO, HP, HB⟩ := hrel
        obtain ⟨g2, cap2, rfl, _⟩ := id HO.out
        by_cases hj8 : j < 8
        · obtain ⟨k, hk⟩ : ∃ k : Nat, (7 : Int) - (j : Int) = (k : Int) := ⟨7 - j, by omega⟩
          have hk8 : k < 8 := by omega
          have hk0 : (0 : Int) ≤ (k : Int) := by omega
          have hm8 : IntKind.i64.wrap (8 * (k : Int)) = ((8 * k : Nat) : Int) := by rw [IntKind.wrap_i64]; omega
          have hsub : IntKind.i64.wrap ((k : Int) - 1) = 7 - ((j + 1 : Nat) : Int) := by rw [IntKind.wrap_i64]; omega
          have HKJ : Hid (k = 7 - j) := (by omega : k = 7 - j)
          rw [hk]
          clear hk
          obtain ⟨e8, he8⟩ : ∃ e, 8 * k = e := ⟨_, rfl⟩
          rw [he8] at hm8
          have he64 : e8 < 64 := by omega
          obtain ⟨bv, HBV⟩ : ∃ bv, Hid (pb s (L + j) = bv) := ⟨_, rfl⟩
          have hval : (M : Int) / 2 ^ e8 % 256 = (bv : Int) := by
            rw [byte_shift, ← HBV.out, show L + j = 64 * nblk s.size - 8 + j from by have := HLN.out; have := HN.out; omega, pb_len hj8, HM.out, ← HKJ.out, pow_256, he8]
          have HBa : Hid (n + 1 ≤ (wr.alloc (.cells #[.int .u8 (bv : Int)] 5)).heap.size) := Nat.le_trans HB.out ((Ext.refl wr).alloc _).size
          clear he8
          go_wp2_with (first | (at_builtin; refine wpList_append_f _ rfl _ _ 62 rfl (n + 1) 5 i0 (.int .u8 0) 1 Tryd.underlying62 hi hz0 hz1 hz2 rfl .u8 _ (L + j) (pb s) rfl (HO.out.ext ((Ext.refl _).alloc _)) ⟨_, 0, none⟩ 1 1 rfl (news_f HBV.out) (by decide) (by have := HNs.out; unfold maxLen; omega) (by have := HNs.out; omega) HBa.out ?_))
          intro v2 w2 HO2 hgrow2
          have HP2 : Hid (TP w w2 n vh vk) := (HP.out.ext ((Ext.refl _).alloc _)).grown hgrow2 (fun k hk => by have := HO.out.at k hk; omega)
          have HB2 : Hid (n + 1 ≤ w2.heap.size) := Nat.le_trans HBa.out hgrow2.size
          have HO3 : Hid (OwnF w2 (n + 1) .u8 v2 (L + (j + 1)) (pb s)) := HO2
          obtain ⟨g3, cap3, rfl, _⟩ := id HO2
          clear HO2 hgrow2 HO HP HB HBa
          go_wp2
          go_roundw
          case rel => exact ⟨j + 1, hj8, rfl, HO3, HP2, HB2⟩
          case measure => have := HKJ.out; simp [intOf]; omega
        · have HJ : Hid (j = 8) := (by omega : j = 8)
          have hz : (7 : Int) - (j : Int) = -1 := by omega
          rw [hz]
          have HOb : Hid (OwnF wr (n + 1) .u8 (.slice (some ⟨g2, 0, none⟩) (L + j) cap2) N (pb s)) := by
            have h := HO.out
            rw [show L + j = N from by have := HLN.out; have := HJ.out; omega] at h ⊢
            exact h
          obtain ⟨LJ, hLJ⟩ : ∃ q, L + j = q := ⟨_, rfl⟩
          have HLJ : Hid (LJ = N) := (by have := HLN.out; have := HJ.out; omega : LJ = N)
          rw [hLJ] at HOb HO
          rw [hLJ]
          clear hLJ
          have c0' := HP.out.1
          have hcap : LJ ≤ cap2 := by
            obtain ⟨g', cap', e', _, _, hle, _⟩ := HOb.out
            injection e' with _ e1 e2
            subst e2
            have := HLJ.out
            omega
          have HCb : Hid (∀ j, j < LJ → wr.cell? ⟨g2, j, none⟩ = some (.int .u8 ((pb s j : Nat) : Int))) := fun j hj => by
            obtain ⟨g', cap', e', _, _, _, _, hc, _⟩ := HOb.out
            injection e' with e0 _ _
            injection e0 with e0
            injection e0 with e0 _ _
            subst e0
            exact hc j (by have := HLJ.out; omega)
          have hg2 : Hid (g2 < wr.heap.size) := by
            obtain ⟨g', cap', e', _, hlt, _⟩ := HOb.out
            injection e' with e0 _ _
            injection e0 with e0
            injection e0 with e0 _ _
            subst e0
            exact hlt
          have HSk : Hid (SlIs wr vk (lst .u32 (fun i => KK.getD i 0) 64)) := sk.ext HP.out.2.2.2.1
          have HSh : Hid (SlIs wr vh (lst .u32 (fun i => (hashF (sb s) s.size 0).getD i 0) 8)) := sh.ext HP.out.2.2.2.1
          have HLl : Hid (LJ < 8589934593) := (by have := HNs.out; have := HLJ.out; omega : LJ < 8589934593)
          have HE1 : Hid (Ext w wr) := HP.out.2.2.2.1
          have HCk : Hid (wr.cell? ⟨n, 1, none⟩ = some vk) := HP.out.2.1
          have hlj : LJ < 8589934593 := HLl.out
          clear HO HOb HB sh sk
          generalize wr = W1 at *
          go_wp2
          go_loopw [8, 9] (fun u8 u9 wr => ∃ (k : Nat), 64 * k ≤ LJ ∧ u9 = .int .i64 ((64 * k : Nat) : Int) ∧ Hid (SlIs wr u8 (lst .u32 (fun i => (hashF (sb s) s.size k).getD i 0) 8)) ∧ Hid (Ext W1 wr)) (fun _ u9 _ => LJ - (intOf u9).toNat)
          case atStart => exact ⟨0, by omega, rfl, HSh, Ext.refl _⟩
          case round =>
            clear HSh c0'
            obtain ⟨k, hk, rfl, HS1, HX⟩ := hrel
            have hLJ64 : Hid (LJ % 64 = 0) := (by have := HNs.out; have := HLJ.out; omega : LJ % 64 = 0)
            obtain ⟨i, hik⟩ : ∃ i, 64 * k = i := ⟨_, rfl⟩
            have HIK : Hid (64 * k = i) := hik
            rw [hik] at hk
            rw [hik]
            clear hik
            by_cases hlt : i < LJ
            · have h1 : (i : Int) < (LJ : Int) := by omega
              have h0 : (0 : Int) ≤ (i : Int) := by omega
              have hi64 : Hid (i + 64 ≤ LJ) := (by have := hLJ64.out; have := HIK.out; omega : i + 64 ≤ LJ)
              have ha : IntKind.i64.wrap ((i : Int) + 64) = (i : Int) + 64 := by rw [IntKind.wrap_i64]; omega
              have h2 : (i : Int) ≤ (i : Int) + 64 := by omega
              have h3 : (i : Int) + 64 ≤ (cap2 : Int) := by have := hi64.out; omega
              have h4 : (i : Int) < (cap2 : Int) := by omega
              have ck := later HX.out HCk.out
              have h5 : ¬ cap2 = i := by omega
              have h6 : ((i : Int) + 64).toNat = i + 64 := by omega
              have h7 : IntKind.i64.wrap ((i : Int) + 64) = ((64 * (k + 1) : Nat) : Int) := by rw [ha]; have := HIK.out; omega
              have HCall : Hid (∀ wx, Ext W1 wx → SlIs wx u8 (lst .u32 (fun i => (hashF (sb s) s.size k).getD i 0) 8) → Calls Tryd.prog 46 #[u8, vk, .slice (some ⟨g2, i, none⟩) 64 (cap2 - i)] wx fun e w' => ∃ v, e = .returned v ∧ SlIs w' v (lst .u32 (fun i => (hashF (sb s) s.size (k + 1)).getD i 0) 8) ∧ Ext wx w') := fun wx hx hh => by
                have hsl : SlIs wx (.slice (some ⟨g2, i, none⟩) 64 (cap2 - i)) (lst .u8 (fun j => pb s (i + j)) 64) := .inr ⟨g2, i, cap2 - i, by rw [lst_len], Nat.lt_of_lt_of_le hg2.out hx.size, by rw [lst_len]; decide, fun j x hj => by
                  obtain ⟨hj2, rfl⟩ := lst_of hj
                  exact later hx (HCb.out (i + j) (by have := hi64.out; omega))⟩
                have hhl := hash_len (sb s) s.size k
                have hc := block_any (hashF (sb s) s.size k) (fun j => pb s (i + j)) u8 vk _ hhl.1 hhl.2 (fun j => pb_lt s (i + j)) wx hh (HSk.out.ext hx) hsl
                have e : blockF KK (fun t => word4 (fun j => pb s (i + j)) (4 * t)) (hashF (sb s) s.size k) = hashF (sb s) s.size (k + 1) := by
                  show _ = blockF KK (fun t => word4 (padB (sb s) s.size) (64 * k + 4 * t)) (hashF (sb s) s.size k)
                  rw [HIK.out]
                  rfl
                rw [e] at hc
                exact hc
              go_wp2_with fail
              go_region_with (go_at_call 46; refine (HCall.out _ (HX.out.drew) (HS1.out.ext (Ext.drew (Ext.refl _)))).mono ?_; rintro e w5 ⟨v5, rfl, HS5, HX5⟩)
              all_goals
                have HS6 : Hid (SlIs w5 v5 (lst .u32 (fun i => (hashF (sb s) s.size (k + 1)).getD i 0) 8)) := HS5
                have HX6 : Hid (Ext W1 w5) := HX.out.drew.trans HX5
                clear HS5 HX5 HS1 HX
                go_wp2
                go_roundw
                case rel => exact ⟨k + 1, by have := hi64.out; have := HIK.out; omega, by first | rfl | go_num, HS6, HX6⟩
                case measure => have := hi64.out; have := HIK.out; simp [intOf]; omega
            · have HKN : Hid (k = nblk s.size) := (by have := HIK.out; have := HLJ.out; have := HN.out; omega : k = nblk s.size)
              have hnl : ¬ (i : Int) < (LJ : Int) := by omega
              obtain ⟨bh2, oh2, ch2, rfl, hbh2, Hh2⟩ := HS1.out.form (by decide)
              rw [HKN.out] at Hh2
              have Hh2 : Hid (∀ j, j < 8 → wr.cell? ⟨bh2, oh2 + j, none⟩ = some (.int .u32 (((hashF (sb s) s.size (nblk s.size)).getD j 0 : Nat) : Int))) := Hh2
              have HE2 : Hid (Ext w wr) := HE1.out.trans HX.out
              clear HS1
              generalize wr = W2 at *
              obtain ⟨SB, HSB⟩ : ∃ SB : Nat → Nat, Hid (SB = shaB (sb s) s.size) := ⟨_, rfl⟩
              go_wp2
              go_loopw [10, 11] (fun u10 u11 wq => ∃ (i : Nat), i ≤ 8 ∧ u11 = .int .i64 i ∧ Hid (wq.ownsRow W2.heap.size 5 1 u10 (4 * i) (lst .u8 SB (4 * i))) ∧ Hid (Ext W2 wq)) (fun _ u11 _ => 8 - (intOf u11).toNat)
              case atStart => exact ⟨0, by omega, rfl, World.ownsRow_nil _ _ _ _, Ext.refl _⟩
              case round =>
                obtain ⟨i, hi8, rfl, HW, HX2⟩ := hrel
                by_cases hlt8 : i < 8
                · have hi1 : (i : Int) < 8 := by omega
                  have hi0 : (0 : Int) ≤ (i : Int) := by omega
                  have cHW := Hh2.out i hlt8
                  have cH := later HX2.out cHW
                  obtain ⟨hv, hhv⟩ : ∃ hv, (hashF (sb s) s.size (nblk s.size)).getD i 0 = hv := ⟨_, rfl⟩
                  rw [hhv] at cH cHW
                  obtain ⟨b0, e0⟩ : ∃ x, SB (4 * i) = x := ⟨_, rfl⟩
                  obtain ⟨b1, e1⟩ : ∃ x, SB (4 * i + 1) = x := ⟨_, rfl⟩
                  obtain ⟨b2, e2⟩ : ∃ x, SB (4 * i + 2) = x := ⟨_, rfl⟩
                  obtain ⟨b3, e3⟩ : ∃ x, SB (4 * i + 3) = x := ⟨_, rfl⟩
                  have f0 : IntKind.u8.wrap ((hv : Int) / 16777216) = (b0 : Int) := by
                    rw [IntKind.wrap_u8']
                    have h := shaB_at (sb s) s.size i 0 (by decide)
                    rw [← HSB.out, Nat.add_zero, e0, hhv, show (256 : Nat) ^ (3 - 0) = 16777216 from by decide] at h
                    omega
                  have f1 : IntKind.u8.wrap ((hv : Int) / 65536) = (b1 : Int) := by
                    rw [IntKind.wrap_u8']
                    have h := shaB_at (sb s) s.size i 1 (by decide)
                    rw [← HSB.out, e1, hhv, show (256 : Nat) ^ (3 - 1) = 65536 from by decide] at h
                    omega
                  have f2 : IntKind.u8.wrap ((hv : Int) / 256) = (b2 : Int) := by
                    rw [IntKind.wrap_u8']
                    have h := shaB_at (sb s) s.size i 2 (by decide)
                    rw [← HSB.out, e2, hhv, show (256 : Nat) ^ (3 - 2) = 256 from by decide] at h
                    omega
                  have f3 : IntKind.u8.wrap (hv : Int) = (b3 : Int) := by
                    rw [IntKind.wrap_u8']
                    have h := shaB_at (sb s) s.size i 3 (by decide)
                    rw [← HSB.out, e3, hhv, show (256 : Nat) ^ (3 - 3) = 1 from by decide] at h
                    omega
                  have HNl : Hid ([.int .u8 (b0 : Int), .int .u8 (b1 : Int), .int .u8 (b2 : Int), .int .u8 (b3 : Int)] = newsL .u8 SB (4 * i) 4) := by
                    show _ = _
                    unfold newsL lst
                    simp [List.range, List.range.loop, e0, e1, e2, e3]
                  clear e0 e1 e2 e3 hhv
                  have HW2 : Hid ((wr.alloc (.cells #[.int .u8 (b0 : Int), .int .u8 (b1 : Int), .int .u8 (b2 : Int), .int .u8 (b3 : Int)] 5)).drew.ownsRow W2.heap.size 5 1 u10 (4 * i) (lst .u8 SB (4 * i))) := own_ext HW.out (((Ext.refl _).alloc _).drew)
                  have HB4 : Hid (W2.heap.size ≤ (wr.alloc (.cells #[.int .u8 (b0 : Int), .int .u8 (b1 : Int), .int .u8 (b2 : Int), .int .u8 (b3 : Int)] 5)).drew.heap.size) := (((HX2.out).alloc _).drew).size
                  have HXa : Hid (Ext W2 (wr.alloc (.cells #[.int .u8 (b0 : Int), .int .u8 (b1 : Int), .int .u8 (b2 : Int), .int .u8 (b3 : Int)] 5)).drew) := (((HX2.out).alloc _).drew)
                  go_wp2_with fail
                  go_region_held3 (fun wx : World => wx.cell? ⟨bh2, oh2 + i, none⟩ = some (.int .u32 (hv : Int))) (first | exact cH | exact later ((Ext.refl _).alloc _) cH | go_keep) (first | (refine step_append_lies _ rfl _ _ 62 rfl W2.heap.size 5 i0 (.int .u8 0) 1 1 Tryd.underlying62 hi hz0 hz1 hz2 rfl (by decide) u10 (4 * i) _ rfl HW2.out ⟨_, 0, none⟩ 4 4 [.int .u8 (b0 : Int), .int .u8 (b1 : Int), .int .u8 (b2 : Int), .int .u8 (b3 : Int)] rfl rfl (news4 _ _ _ _ _) (news_one4 _ _ _ _) (by decide) (by unfold maxLen; omega) (by omega) HB4.out _ rfl ?_; intro g5 cap5 w5 hown5 hgrow5 hat5 hlt5; have cH5 : w5.cell? ⟨bh2, oh2 + i, none⟩ = some (.int .u32 (hv : Int)) := later (ext_grown HXa.out hgrow5 (own_at HW2.out)) cHW))
                  all_goals
                    have HW5 : Hid (w5.ownsRow W2.heap.size 5 1 (.slice (some ⟨g5, 0, none⟩) (4 * i + 4) cap5) (4 * (i + 1)) (lst .u8 SB (4 * (i + 1)))) := by
                      have h := hown5
                      rw [HNl.out, lst_app] at h
                      exact h
                    have HX5 : Hid (Ext W2 w5) := ext_grown HXa.out hgrow5 (own_at HW2.out)
                    clear hown5 hgrow5 hat5 hlt5 HXa HB4 HW2 HW HX2 cH
                    go_wp2
                    go_roundw
                    case rel => exact ⟨i + 1, hlt8, by go_num, HW5, HX5⟩
                    case measure => simp [intOf]; omega
                · have HI8 : Hid (i = 8) := (by omega : i = 8)
                  have hni : ¬ (i : Int) < 8 := by omega
                  have HSl : SlIs wr u10 (lst .u8 SB 32) := by
                    have h := HW.out
                    rw [HI8.out] at h
                    exact own_read h
                  have hcv := run_lst_string Tryd.prog 5 62 9 Tryd.underlying62 Tryd.underlying5 Tryd.underlying9 wr SB 32 u10 HSl (by decide)
                  obtain ⟨SS, HSS⟩ : ∃ SS, Hid (mkS SB 32 = SS) := ⟨_, rfl⟩
                  rw [HSS.out] at hcv
                  clear HSl
                  go_wp2
                  go_ret
                  exact ⟨by unfold shaS; rw [← HSB.out, HSS.out]; rfl, HE2.out.trans HX2.out⟩
    · have hne : (((L % 64 : Nat) : Int) != 56) = true := by simp; omega
      have hlt : L + 8 < N := by have := HNs.out; omega
      have HZ : Hid (pb s L = 0) := pb_zero (by omega) (by rw [HN.out]; omega)
      have HBa : Hid (n + 1 ≤ (wr.alloc (.cells #[.int .u8 ((0 : Nat) : Int)] 5)).heap.size) := Nat.le_trans HB.out ((Ext.refl wr).alloc _).size
      generalize L % 64 = r at *
      go_wp2_with (first | (at_builtin; refine wpList_append_f _ rfl _ _ 62 rfl (n + 1) 5 i0 (.int .u8 0) 1 Tryd.underlying62 hi hz0 hz1 hz2 rfl .u8 _ L (pb s) rfl (HO.out.ext ((Ext.refl _).alloc _)) ⟨_, 0, none⟩ 1 1 rfl (news_f HZ.out) (by decide) (by have := HNs.out; unfold maxLen; omega) (by have := HNs.out; omega) HBa.out ?_))
      intro v2 w2 HO2 hgrow2
      have HP2 : Hid (TP w w2 n vh vk) := (HP.out.ext ((Ext.refl _).alloc _)).grown hgrow2 (fun k hk => by have := HO.out.at k hk; omega)
      have HB2 : Hid (n + 1 ≤ w2.heap.size) := Nat.le_trans HBa.out hgrow2.size
      have HO3 : Hid (OwnF w2 (n + 1) .u8 v2 (L + 1) (pb s)) := HO2
      obtain ⟨g2, cap2, rfl, _⟩ := id HO2
      clear HO2 hgrow2 HO HP HB HBa
      go_wp2
      go_roundw
      case rel => exact ⟨L + 1, by omega, by omega, HO3, HP2, HB2⟩
      case measure => simp [lenOf]; omega
end Go.Proofs.YtpfeakdpckmcgaaDoor
