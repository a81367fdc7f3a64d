/-
  sandglassref29.Poly, called; nothing old is turned.
-/
import Derived.Test.YtpfeakdpckmcgaaDoorRgC
import Derived.Test.YtpfeakdpckmcgaaDoorNSl
namespace Go.Proofs.YtpfeakdpckmcgaaDoor
set_option maxRecDepth 10000
open Go.RowKit
/-- So many scalars. -/
def pcn (m : Int) : Nat := if m < 0 then 0 else if 8 < m then 8 else m.toNat
theorem pcn_le (m : Int) : pcn m ≤ 8 := by unfold pcn; split <;> (try split) <;> omega
theorem pcn_lt {m : Int} {k : Nat} : k < pcn m ↔ (k : Int) < m ∧ k < 8 := by unfold pcn; split <;> (try split) <;> omega
/-- Word j of scalar i. -/
def psW (x : Gs) (i j : Nat) : Int := scW (gR (gSs i x)) j
theorem gSs_succ (x : Gs) (j : Nat) : gSs (j + 1) x = gS (gSs j x) := rfl
theorem psW_mk (x : Gs) (i : Nat) : nmV (gR (gSs i x)) = .agg #[.int .u64 (psW x i 0), .int .u64 (psW x i 1), .int .u64 (psW x i 2), .int .u64 (psW x i 3)] := rfl
theorem GB3.grown {w w' : World} {b : Nat} {K V : ByteArray} {A : Int} {r : Option Nat} (h : GB3 w b K V A) (hg : w.grownBy w' r) (hne : some b ≠ r) : GB3 w' b K V A := by
  obtain ⟨h0, ⟨c0, c1, c2⟩, f0, f1, f2⟩ := h
  have hb := hg.block b h0 (fun q => hne q)
  exact ⟨Nat.lt_of_lt_of_le h0 hg.size, ⟨hg.cell c0 hne, hg.cell c1 hne, hg.cell c2 hne⟩, (World.frozen?_of_block (a := ⟨b, 0, none⟩) hb).trans f0, (World.frozen?_of_block (a := ⟨b, 1, none⟩) hb).trans f1, (World.frozen?_of_block (a := ⟨b, 2, none⟩) hb).trans f2⟩
set_option maxHeartbeats 2000000 in
theorem rpoly_any (x : Gs) (m : Int) (hx : GOk x 80000000) (w : World) :
    Calls Tryd.prog 16 #[gdX x, .int .i64 m] w fun e w' => ∃ u, e = .returned (.tuple #[gdX (gSs (pcn m) x), u]) ∧ w'.ownsRow (w.heap.size + 1 + 1) 39 4 u (pcn m) (nmw (psW x) (pcn m)) ∧ Ext w w' := by
  obtain ⟨i0, hi0, hz0, hz1, hz2⟩ := info_parts Tryd.info39
  have HS : Hid (∀ k : Nat, k < 8 → ∀ W, Calls Tryd.prog 14 #[gdX (gSs k x)] W fun e w' => e = .returned (.tuple #[gdX (gSs (k + 1) x), nmV (gR (gSs k x))]) ∧ Ext W w') := by
    intro k hk W
    rw [gSs_succ]
    exact rscalar_any (gSs k x) ((gSs_ok hx k).mono (by omega)) W
  have HC : Hid (∀ k : Nat, k < pcn m ↔ (k : Int) < m ∧ k < 8) := fun k => pcn_lt
  have HC8 : Hid (pcn m ≤ 8) := pcn_le m
  obtain ⟨xs, hxs⟩ : ∃ f : Nat → Gs, Hid (∀ k, gSs k x = f k) := ⟨fun k => gSs k x, fun k => rfl⟩
  obtain ⟨F, hF⟩ : ∃ F : Nat → Nat → Int, Hid (psW x = F) := ⟨_, rfl⟩
  replace HS : Hid (∀ k : Nat, k < 8 → ∀ W, Calls Tryd.prog 14 #[.agg #[.string (xs k).1, .string (xs k).2.1, .int .i64 ((xs k).2.2 : Nat)]] W fun e w' => e = .returned (.tuple #[.agg #[.string (xs (k + 1)).1, .string (xs (k + 1)).2.1, .int .i64 ((xs (k + 1)).2.2 : Nat)], .agg #[.int .u64 (F k 0), .int .u64 (F k 1), .int .u64 (F k 2), .int .u64 (F k 3)]]) ∧ Ext W w') := by
    intro k hk W
    have := HS.out k hk W
    rw [psW_mk, hF.out, hxs.out, hxs.out] at this
    exact this
  have hx0 : gdX x = .agg #[.string (xs 0).1, .string (xs 0).2.1, .int .i64 ((xs 0).2.2 : Nat)] := by rw [← hxs.out 0]; rfl
  rw [hx0, hxs.out, hF.out]
  clear hxs hF hx hx0
  generalize pcn m = c at *
  unfold gdX gdV
  have R0 : Hid (GB3 ((w.alloc (.cells #[.string (xs 0).1, .string (xs 0).2.1, .int .i64 ((xs 0).2.2 : Nat)] 28)).alloc (.cells #[.string ⟨#[]⟩, .string ⟨#[]⟩, .int .i64 0] 28)) w.heap.size (xs 0).1 (xs 0).2.1 ((xs 0).2.2 : Nat)) := (GB3.new _ _ _ _ _).ext ((Ext.refl _).alloc _)
  have Z0 : Hid (GB3 ((w.alloc (.cells #[.string (xs 0).1, .string (xs 0).2.1, .int .i64 ((xs 0).2.2 : Nat)] 28)).alloc (.cells #[.string ⟨#[]⟩, .string ⟨#[]⟩, .int .i64 0] 28)) (w.heap.size + 1) ⟨#[]⟩ ⟨#[]⟩ 0) := by
    have := GB3.new (w.alloc (.cells #[.string (xs 0).1, .string (xs 0).2.1, .int .i64 ((xs 0).2.2 : Nat)] 28)) ⟨#[]⟩ ⟨#[]⟩ 0 28
    rw [World.size_alloc] at this
    exact this
  have HE0 : Hid (Ext w ((w.alloc (.cells #[.string (xs 0).1, .string (xs 0).2.1, .int .i64 ((xs 0).2.2 : Nat)] 28)).alloc (.cells #[.string ⟨#[]⟩, .string ⟨#[]⟩, .int .i64 0] 28))) := ((Ext.refl _).alloc _).alloc _
  go_enter Tryd.func16, Tryd.ntmps16
  go_wp2_with fail
  have hG0 : SizeLe w w.heap.size := Nat.le_refl _
  have hG1 : SizeLe w (w.heap.size + 1) := Nat.le_succ _
  have HG2 : Hid (w.heap.size ≤ w.heap.size + 1 + 1) := (by omega : w.heap.size ≤ w.heap.size + 1 + 1)
  generalize (w.alloc (.cells #[.string (xs 0).1, .string (xs 0).2.1, .int .i64 ((xs 0).2.2 : Nat)] 28)).alloc (.cells #[.string ⟨#[]⟩, .string ⟨#[]⟩, .int .i64 0] 28) = W0 at *
  have hO0 : Hid (W0.ownsRow (w.heap.size + 1 + 1) 39 4 (.slice none 0 0) 0 (nmw F 0)) := World.ownsRow_nil _ _ _ _
  obtain ⟨d, hd⟩ : ∃ d, w.heap.size + 1 + 1 = d := ⟨_, rfl⟩
  obtain ⟨c2, hc⟩ : ∃ c, w.heap.size + 1 = c := ⟨_, rfl⟩
  have hcb : w.heap.size ≠ c2 := by omega
  have hdb : Hid (w.heap.size < d) := (by omega : w.heap.size < d)
  have hdc : Hid (d = c2 + 1) := (by omega : d = c2 + 1)
  have hDw : Hid (w.heap.size ≤ d) := (by omega : w.heap.size ≤ d)
  have HD : Hid (w.heap.size + 1 + 1 = d) := hd
  rw [hd] at hO0 HG2
  rw [hc] at Z0 hG1 ⊢
  clear hc hd
  generalize hbb : w.heap.size = b at *
  go_loopw [6, 7] (fun u6 u7 wr => ∃ k : Nat, k ≤ c ∧ u7 = .int .i64 (k : Int) ∧ Hid (wr.ownsRow d 39 4 u6 k (nmw F k)) ∧ Hid (GB3 wr b (xs k).1 (xs k).2.1 ((xs k).2.2 : Nat)) ∧ Hid (GB3 wr c2 ⟨#[]⟩ ⟨#[]⟩ 0) ∧ Hid (Ext w wr)) (fun _ u7 _ => 9 - (intOf u7).toNat)
  case atStart => exact ⟨0, Nat.zero_le _, rfl, hO0, R0, Z0, HE0⟩
  case round =>
    clear hO0 R0 Z0 HE0
    obtain ⟨k, hk, rfl, HO, R, Z, HE⟩ := hrel
    have hk8 : k ≤ 8 := Nat.le_trans hk HC8.out
    by_cases hlt : k < c
    · obtain ⟨h1, h2⟩ := (HC.out k).1 hlt
      have h3 : (k : Int) < 8 := by omega
      have HSk : Hid (∀ W, Calls Tryd.prog 14 #[.agg #[.string (xs k).1, .string (xs k).2.1, .int .i64 ((xs k).2.2 : Nat)]] W fun e w' => e = .returned (.tuple #[.agg #[.string (xs (k + 1)).1, .string (xs (k + 1)).2.1, .int .i64 ((xs (k + 1)).2.2 : Nat)], .agg #[.int .u64 (F k 0), .int .u64 (F k 1), .int .u64 (F k 2), .int .u64 (F k 3)]]) ∧ Ext W w') := fun W => HS.out k h2 W
      obtain ⟨y, hy⟩ : ∃ y, Hid (xs (k + 1) = y) := ⟨_, rfl⟩
      rw [hy.out] at HSk
      generalize xs k = x0 at *
      obtain ⟨r0, ⟨c0, c1, c2'⟩, f0, f1, f2⟩ := id R.out
      go_wp2_with fail
      refine (HSk.out _).mono ?_
      rintro e w1 ⟨rfl, HX⟩
      clear r0 c0 c1 c2' f0 f1 f2
      have R1 := R.out.ext HX
      have Z1 := Z.out.ext HX
      have HO1 : Hid (w1.ownsRow d 39 4 u6 k (nmw F k)) := own_ext HO.out HX
      have HE1 : Hid (Ext w w1) := HE.out.trans HX
      clear HX R Z HO HE
      go_upto_region 6 with fail
      have T1 : GB3 ((w1.alloc (.cells #[.string y.1, .string y.2.1, .int .i64 (y.2.2 : Nat)] 28)).alloc (.cells #[.int .u64 (F k 0), .int .u64 (F k 1), .int .u64 (F k 2), .int .u64 (F k 3)] 39)) w1.heap.size y.1 y.2.1 (y.2.2 : Nat) := (GB3.new w1 _ _ _ 28).ext ((Ext.refl _).alloc _)
      have N1 : Row ((w1.alloc (.cells #[.string y.1, .string y.2.1, .int .i64 (y.2.2 : Nat)] 28)).alloc (.cells #[.int .u64 (F k 0), .int .u64 (F k 1), .int .u64 (F k 2), .int .u64 (F k 3)] 39)) (w1.heap.size + 1) (F k 0) (F k 1) (F k 2) (F k 3) := by
        have := Row.new (w1.alloc (.cells #[.string y.1, .string y.2.1, .int .i64 (y.2.2 : Nat)] 28)) (F k 0) (F k 1) (F k 2) (F k 3)
        rw [World.size_alloc] at this
        exact this
      have hbg : w1.heap.size ≠ b := by have := R1.1; omega
      have hbn : w1.heap.size + 1 ≠ b := by have := R1.1; omega
      have hgb := hbg.symm
      have hnb := hbn.symm
      replace R1 : GB3 ((w1.alloc (.cells #[.string y.1, .string y.2.1, .int .i64 (y.2.2 : Nat)] 28)).alloc (.cells #[.int .u64 (F k 0), .int .u64 (F k 1), .int .u64 (F k 2), .int .u64 (F k 3)] 39)) b x0.1 x0.2.1 (x0.2.2 : Nat) := R1.ext (((Ext.refl w1).alloc _).alloc _)
      replace Z1 : GB3 ((w1.alloc (.cells #[.string y.1, .string y.2.1, .int .i64 (y.2.2 : Nat)] 28)).alloc (.cells #[.int .u64 (F k 0), .int .u64 (F k 1), .int .u64 (F k 2), .int .u64 (F k 3)] 39)) c2 ⟨#[]⟩ ⟨#[]⟩ 0 := Z1.ext (((Ext.refl w1).alloc _).alloc _)
      replace HO1 : Hid (((w1.alloc (.cells #[.string y.1, .string y.2.1, .int .i64 (y.2.2 : Nat)] 28)).alloc (.cells #[.int .u64 (F k 0), .int .u64 (F k 1), .int .u64 (F k 2), .int .u64 (F k 3)] 39)).ownsRow d 39 4 u6 k (nmw F k)) := own_ext HO1.out (((Ext.refl w1).alloc _).alloc _)
      replace HE1 : Hid (Ext w ((w1.alloc (.cells #[.string y.1, .string y.2.1, .int .i64 (y.2.2 : Nat)] 28)).alloc (.cells #[.int .u64 (F k 0), .int .u64 (F k 1), .int .u64 (F k 2), .int .u64 (F k 3)] 39))) := HE1.out.trans (((Ext.refl w1).alloc _).alloc _)
      generalize ((w1.alloc (.cells #[.string y.1, .string y.2.1, .int .i64 (y.2.2 : Nat)] 28)).alloc (.cells #[.int .u64 (F k 0), .int .u64 (F k 1), .int .u64 (F k 2), .int .u64 (F k 3)] 39)) = W1 at *
      generalize w1.heap.size + 1 = n at *
      generalize w1.heap.size = g at *
      have R2 : Hid (GB3 (((W1.setCell ⟨b, 0, none⟩ (.string y.1)).setCell ⟨b, 1, none⟩ (.string y.2.1)).setCell ⟨b, 2, none⟩ (.int .i64 (y.2.2 : Nat))) b y.1 y.2.1 (y.2.2 : Nat)) := ((R1.setK _).setV _).setA _
      have Z2 : Hid (GB3 (((W1.setCell ⟨b, 0, none⟩ (.string y.1)).setCell ⟨b, 1, none⟩ (.string y.2.1)).setCell ⟨b, 2, none⟩ (.int .i64 (y.2.2 : Nat))) c2 ⟨#[]⟩ ⟨#[]⟩ 0) := ((Z1.other hcb).other hcb).other hcb
      have N2 : Hid (Row (((W1.setCell ⟨b, 0, none⟩ (.string y.1)).setCell ⟨b, 1, none⟩ (.string y.2.1)).setCell ⟨b, 2, none⟩ (.int .i64 (y.2.2 : Nat))) n (F k 0) (F k 1) (F k 2) (F k 3)) := ((N1.other hbn).other hbn).other hbn
      have hno : u6.ownBlock ≠ some b := fun q => by have := (HO1.out.lt b q).1; have := hdb.out; omega
      have HO2 : Hid ((((W1.setCell ⟨b, 0, none⟩ (.string y.1)).setCell ⟨b, 1, none⟩ (.string y.2.1)).setCell ⟨b, 2, none⟩ (.int .i64 (y.2.2 : Nat))).ownsRow d 39 4 u6 k (nmw F k)) := own_setCell (own_setCell (own_setCell HO1.out hno) hno) hno
      have HE2 : Hid (Ext w (((W1.setCell ⟨b, 0, none⟩ (.string y.1)).setCell ⟨b, 1, none⟩ (.string y.2.1)).setCell ⟨b, 2, none⟩ (.int .i64 (y.2.2 : Nat)))) := Ext.st hG0 (Ext.st hG0 (Ext.st hG0 HE1.out))
      obtain ⟨r0, ⟨c0, c1, c2'⟩, f0, f1, f2⟩ := R1
      obtain ⟨t0, ⟨d0, d1, d2⟩, g0, g1, g2⟩ := T1
      go_upto_region 7 with fail
      clear r0 c0 c1 c2' f0 f1 f2 t0 d0 d1 d2 g0 g1 g2 N1 Z1 HO1 HE1 hno
      generalize ((W1.setCell ⟨b, 0, none⟩ (.string y.1)).setCell ⟨b, 1, none⟩ (.string y.2.1)).setCell ⟨b, 2, none⟩ (.int .i64 (y.2.2 : Nat)) = W2 at *
      obtain ⟨n0, n1, n2, n3, n4⟩ := id N2.out
      go_wp2_with (first | (at_builtin; refine wpList_append_lies _ rfl _ _ 43 rfl d 39 i0 (.agg #[.int .u64 0, .int .u64 0, .int .u64 0, .int .u64 0]) 4 32 Tryd.underlying43 hi0 hz0 hz1 hz2 rfl (by decide) u6 k (nmw F k) rfl (HO2.out.alloc _) ⟨W2.heap.size, 0, none⟩ 1 1 [.int .u64 (F k 0), .int .u64 (F k 1), .int .u64 (F k 2), .int .u64 (F k 3)] rfl rfl ?c1 (num_one _ _ _ _) (by decide) (by unfold maxLen; omega) (by omega) ?c2 _ rfl ?_))
      case c1 => exact news4n W2
      case c2 => (have := Z2.out.1; have := hdc.out; simp; omega)
      intro gg cp w3 hown hgrow _ _
      have HO3 : Hid (w3.ownsRow d 39 4 (.slice (some ⟨gg, 0, none⟩) (k + 1) cp) (k + 1) (nmw F (k + 1))) := hown
      have hnb2 : some b ≠ u6.ownBlock := fun q => by have := (HO2.out.lt b q.symm).1; have := hdb.out; omega
      have hnc2 : some c2 ≠ u6.ownBlock := fun q => by have := (HO2.out.lt c2 q.symm).1; have := hdc.out; omega
      have HE3 : Hid (Ext w w3) := Ext.grown (HE2.out.alloc _) (HO2.out.alloc _) (by rw [hbb]; exact hDw.out) hgrow
      have R3 : Hid (GB3 w3 b y.1 y.2.1 (y.2.2 : Nat)) := (R2.out.ext ((Ext.refl _).alloc _)).grown hgrow hnb2
      have Z3 : Hid (GB3 w3 c2 ⟨#[]⟩ ⟨#[]⟩ 0) := (Z2.out.ext ((Ext.refl _).alloc _)).grown hgrow hnc2
      clear hown hgrow HO2 HE2 R2 Z2
      have hw : IntKind.i64.wrap ((k : Int) + 1) = (k : Int) + 1 := by rw [IntKind.wrap_i64]; omega
      go_wp2
      go_roundw
      case rel => exact ⟨k + 1, hlt, by push_cast; rfl, HO3, by rw [hy.out]; exact R3, Z3, HE3⟩
      case measure => simp [intOf]; omega
    · obtain rfl : k = c := by omega
      have hfin : ¬ ((k : Int) < m ∧ (k : Int) < 8) := fun h => hlt ((HC.out k).2 ⟨h.1, by omega⟩)
      have hcb' := hcb.symm
      have ZZ : Hid (GB3 (((wr.setCell ⟨c2, 0, none⟩ (.string (xs k).1)).setCell ⟨c2, 1, none⟩ (.string (xs k).2.1)).setCell ⟨c2, 2, none⟩ (.int .i64 ((xs k).2.2 : Nat))) c2 (xs k).1 (xs k).2.1 ((xs k).2.2 : Nat)) := ((Z.out.setK _).setV _).setA _
      have hno : u6.ownBlock ≠ some c2 := fun q => by have := (HO.out.lt c2 q).1; have := hdc.out; omega
      have HOO : Hid ((((wr.setCell ⟨c2, 0, none⟩ (.string (xs k).1)).setCell ⟨c2, 1, none⟩ (.string (xs k).2.1)).setCell ⟨c2, 2, none⟩ (.int .i64 ((xs k).2.2 : Nat))).ownsRow d 39 4 u6 k (nmw F k)) := own_setCell (own_setCell (own_setCell HO.out hno) hno) hno
      have HEE : Hid (Ext w (((wr.setCell ⟨c2, 0, none⟩ (.string (xs k).1)).setCell ⟨c2, 1, none⟩ (.string (xs k).2.1)).setCell ⟨c2, 2, none⟩ (.int .i64 ((xs k).2.2 : Nat)))) := Ext.st hG1 (Ext.st hG1 (Ext.st hG1 HE.out))
      obtain ⟨y, hyk⟩ : ∃ y, Hid (xs k = y) := ⟨_, rfl⟩
      rw [hyk.out] at ZZ HOO HEE
      rw [hyk.out] at R
      have key : ∀ wz, wz = (((wr.setCell ⟨c2, 0, none⟩ (.string y.1)).setCell ⟨c2, 1, none⟩ (.string y.2.1)).setCell ⟨c2, 2, none⟩ (.int .i64 (y.2.2 : Nat))) → GB3 wz c2 y.1 y.2.1 (y.2.2 : Nat) ∧ wz.ownsRow d 39 4 u6 k (nmw F k) ∧ Ext w wz := fun wz h => by subst h; exact ⟨ZZ.out, HOO.out, HEE.out⟩
      replace key : Hid _ := key
      clear ZZ HOO HEE
      obtain ⟨r0, ⟨c0, c1, c2'⟩, f0, f1, f2⟩ := id R.out
      obtain ⟨z0, ⟨d0, d1, d2⟩, g0, g1, g2⟩ := id Z.out
      by_cases hm : (k : Int) < m
      · have h2 : ¬ (k : Int) < 8 := fun h => hfin ⟨hm, h⟩
        go_wp2
        clear r0 c0 c1 c2' f0 f1 f2 z0 d0 d1 d2 g0 g1 g2
        obtain ⟨Z9, O9, E9⟩ := key.out _ rfl
        generalize (((wr.setCell ⟨c2, 0, none⟩ (.string y.1)).setCell ⟨c2, 1, none⟩ (.string y.2.1)).setCell ⟨c2, 2, none⟩ (.int .i64 (y.2.2 : Nat))) = W9 at *
        obtain ⟨z0, ⟨d0, d1, d2⟩, g0, g1, g2⟩ := Z9
        refine bodyPost_ret (v := .tuple #[.agg #[.string y.1, .string y.2.1, .int .i64 (y.2.2 : Nat)], u6]) (by simp [results, Tryd.results16, go_sem, d0, d1, d2]) rfl ⟨u6, by rw [hyk.out], by rw [HD.out]; exact O9, E9⟩
      · go_wp2
        clear r0 c0 c1 c2' f0 f1 f2 z0 d0 d1 d2 g0 g1 g2
        obtain ⟨Z9, O9, E9⟩ := key.out _ rfl
        generalize (((wr.setCell ⟨c2, 0, none⟩ (.string y.1)).setCell ⟨c2, 1, none⟩ (.string y.2.1)).setCell ⟨c2, 2, none⟩ (.int .i64 (y.2.2 : Nat))) = W9 at *
        obtain ⟨z0, ⟨d0, d1, d2⟩, g0, g1, g2⟩ := Z9
        refine bodyPost_ret (v := .tuple #[.agg #[.string y.1, .string y.2.1, .int .i64 (y.2.2 : Nat)], u6]) (by simp [results, Tryd.results16, go_sem, d0, d1, d2]) rfl ⟨u6, by rw [hyk.out], by rw [HD.out]; exact O9, E9⟩
end Go.Proofs.YtpfeakdpckmcgaaDoor
