/-
  DrbgPlays, called: true; nothing old is turned.
-/
import Derived.Test.YtpfeakdpckmcgaaDoorGAsk
import Derived.Test.YtpfeakdpckmcgaaDoorGLaws2
namespace Go.Proofs.YtpfeakdpckmcgaaDoor
set_option maxRecDepth 10000
open Go.RowKit
/-- A generator behind an ask. -/
def ask (k m : Int) (t : ByteArray) (y : Gs) : Gs := if k = 0 then byX m y else if k = 1 then gS y else if k = 2 then gSs (pcn m) y else gU t y
theorem ask_ok {k m : Int} {t : ByteArray} {y : Gs} {b : Nat} (h : GOk y b) : GOk (ask k m t y) (b + 20000) := by
  unfold ask
  split
  · exact (byX_ok h).mono (by omega)
  split
  · exact (gS_ok h).mono (by omega)
  split
  · have := pcn_le m
    exact (gSs_ok h (pcn m)).mono (by omega)
  · exact (gU_ok t h).mono (by omega)
/-- Behind the first i asks. -/
def aks (s : ByteArray) (k m : Nat → Int) (x : Nat → ByteArray) : Nat → Gs
  | 0 => gNew s
  | i + 1 => ask (k i) (m i) (x i) (aks s k m x i)
theorem aks_ok (s : ByteArray) (k m : Nat → Int) (x : Nat → ByteArray) (i : Nat) : GOk (aks s k m x i) (20000 * i) := by
  induction i with
  | zero => exact gNew_ok s
  | succ i ih => exact (ask_ok ih).mono (by omega)
/-- The law's own ask in block h. -/
def Ak (w : World) (h : Nat) (k m : Int) (x : ByteArray) : Prop := h < w.heap.size ∧ w.cell? ⟨h, 0, none⟩ = some (.int .i64 k) ∧ w.cell? ⟨h, 1, none⟩ = some (.int .i64 m) ∧ w.cell? ⟨h, 2, none⟩ = some (.string x)
theorem Ak.ext {w w' : World} {h : Nat} {k m : Int} {x : ByteArray} (H : Ak w h k m x) (hx : Ext w w') : Ak w' h k m x := ⟨Nat.lt_of_lt_of_le H.1 hx.size, later hx H.2.1, later hx H.2.2.1, later hx H.2.2.2⟩
theorem Ak.new (w : World) (k m : Int) (x : ByteArray) (t : TypeId) : Ak (w.alloc (.cells #[.int .i64 k, .int .i64 m, .string x] t)) w.heap.size k m x :=
  ⟨by simp, by rw [World.cell?_alloc_at _ _ _ _ rfl]; rfl, by rw [World.cell?_alloc_at _ _ _ _ rfl]; rfl, by rw [World.cell?_alloc_at _ _ _ _ rfl]; rfl⟩
theorem Ak.other {w : World} {h g i : Nat} {k m : Int} {x : ByteArray} {v : Value} (hne : g ≠ h) (H : Ak w h k m x) : Ak (w.setCell ⟨g, i, none⟩ v) h k m x := by
  have q : ∀ j : Nat, (⟨g, i, none⟩ : Addr) ≠ ⟨h, j, none⟩ := fun j q => hne (by injection q)
  exact ⟨by simpa using H.1, by rw [World.cell?_setCell_other _ _ _ _ (q 0)]; exact H.2.1, by rw [World.cell?_setCell_other _ _ _ _ (q 1)]; exact H.2.2.1, by rw [World.cell?_setCell_other _ _ _ _ (q 2)]; exact H.2.2.2⟩
/-- A generator beside the document's and one block more, which is as it was in W0. -/
def PlW (w : World) (v : Value) (g : Nat) (x y : Gs) (q : Nat) (W0 wr : World) : Prop := ∃ F, DAt wr v x F ∧ From F w.heap.size ∧ Ext w wr ∧ ¬ F g ∧ w.heap.size ≤ g ∧ GB3 wr g y.1 y.2.1 (y.2.2 : Nat) ∧ ¬ F q ∧ q ≠ g ∧ q < wr.heap.size ∧ wr.heap[q]? = W0.heap[q]?
section
variable {w W W0 : World} {v : Value} {g q : Nat} {x y : Gs}
theorem PlW.of {W' : World} (h : PlX w v g x y W) (hx : Ext W W') (h1 : W.heap.size ≤ q) (h2 : q < W'.heap.size) : PlW w v g x y q W' W' := by
  obtain ⟨F, a1, a2, a3, a4, a5, a6⟩ := h
  exact ⟨F, a1.ext hx, a2, a3.trans hx, a4, a5, a6.ext hx, fun p => by have := a1.lt _ p; omega, fun p => by have := a6.1; omega, h2, rfl⟩
theorem PlW.plx (h : PlW w v g x y q W0 W) : PlX w v g x y W := by
  obtain ⟨F, a1, a2, a3, a4, a5, a6, -⟩ := h
  exact ⟨F, a1, a2, a3, a4, a5, a6⟩
theorem PlW.same (h : PlW w v g x y q W0 W) : q < W.heap.size ∧ W.heap[q]? = W0.heap[q]? := by
  obtain ⟨F, a1, a2, a3, a4, a5, a6, a7, a8, a9, a10⟩ := h
  exact ⟨a9, a10⟩
theorem PlW.ext {wy : World} (h : PlW w v g x y q W0 W) (hx : Ext W wy) : PlW w v g x y q W0 wy := by
  obtain ⟨F, a1, a2, a3, a4, a5, a6, a7, a8, a9, a10⟩ := h
  exact ⟨F, a1.ext hx, a2, a3.trans hx, a4, a5, a6.ext hx, a7, a8, Nat.lt_of_lt_of_le a9 hx.size, (Below.block hx q a9).trans a10⟩
theorem PlW.put (h : PlW w v g x y q W0 W) (z : Gs) : PlW w v g x z q W0 (((W.setCell ⟨g, 0, none⟩ (.string z.1)).setCell ⟨g, 1, none⟩ (.string z.2.1)).setCell ⟨g, 2, none⟩ (.int .i64 (z.2.2 : Nat))) := by
  obtain ⟨F, a1, a2, a3, a4, a5, a6, a7, a8, a9, a10⟩ := h
  have c0 : Chg (fun k => k = g) W (((W.setCell ⟨g, 0, none⟩ (.string z.1)).setCell ⟨g, 1, none⟩ (.string z.2.1)).setCell ⟨g, 2, none⟩ (.int .i64 (z.2.2 : Nat))) := Chg.st (F := fun k => k = g) (.inl rfl) (Chg.st (F := fun k => k = g) (.inl rfl) (Chg.st (F := fun k => k = g) (.inl rfl) (Chg.refl _ W)))
  exact ⟨F, a1.far c0 (fun k a b => by have b : k = g := b; subst b; exact a4 a), a2, c0.ext a3 (fun k a => by have a : k = g := a; omega), a4, a5, ((a6.setK _).setV _).setA _, a7, a8, Nat.lt_of_lt_of_le a9 c0.size, (c0.block q a9 a8).trans a10⟩
theorem PlW.step (h : PlW w v g x y q W0 W) : ∃ F, DAt W v x F ∧ ∀ x' w', Stp W v x' F w' → PlW w v g x' y q W0 w' := by
  obtain ⟨F, a1, a2, a3, a4, a5, a6, a7, a8, a9, a10⟩ := h
  refine ⟨F, a1, ?_⟩
  rintro x' w' ⟨F', HD, HS, HC⟩
  obtain ⟨h0, ⟨c0, c1, c2⟩, f0, f1, f2⟩ := a6
  refine ⟨F', HD, HS.from a2 a3.size, HC.ext a3 a2, fun p => ?_, a5, ⟨Nat.lt_of_lt_of_le h0 HC.size, ⟨(HC.cell h0 a4).trans c0, (HC.cell h0 a4).trans c1, (HC.cell h0 a4).trans c2⟩, (HC.frozen h0 a4).trans f0, (HC.frozen h0 a4).trans f1, (HC.frozen h0 a4).trans f2⟩, fun p => ?_, a8, Nat.lt_of_lt_of_le a9 HC.size, (HC.block q a9 a7).trans a10⟩
  · rcases HS g p with r | r
    · exact a4 r
    · omega
  · rcases HS q p with r | r
    · exact a7 r
    · omega
end
theorem Row.same {w w' : World} {b : Nat} {x0 x1 x2 x3 : Int} (h : Row w b x0 x1 x2 x3) (hb : b < w'.heap.size ∧ w'.heap[b]? = w.heap[b]?) : Row w' b x0 x1 x2 x3 :=
  have c : ∀ j : Nat, w'.cell? ⟨b, j, none⟩ = w.cell? ⟨b, j, none⟩ := fun j => World.cell?_of_block (a := ⟨b, j, none⟩) hb.2
  ⟨hb.1, (c 0).trans h.2.1, (c 1).trans h.2.2.1, (c 2).trans h.2.2.2.1, (c 3).trans h.2.2.2.2⟩
theorem SlB.same {w w' : World} {v : Value} {n sz : Nat} {g : Nat → Value} {blk : Nat} (h : SlB w v n sz g blk) (hb : blk < w'.heap.size ∧ w'.heap[blk]? = w.heap[blk]?) : SlB w' v n sz g blk := by
  obtain ⟨a, cap, rfl, h⟩ := h
  refine ⟨a, cap, rfl, fun h0 => ?_⟩
  obtain ⟨o, ha, hlt, hc⟩ := h h0
  exact ⟨o, ha, hb.1, fun k hk => (World.cell?_of_block (a := ⟨blk, o + k, none⟩) hb.2).trans (hc k hk)⟩
theorem own_slb2 {w : World} {B : Nat} {e : TypeId} {u : Value} {n : Nat} {F : Nat → Nat → Int} (h : w.ownsRow (B + 1 + 1) e 4 u n (nmw F n)) (hb : B ≤ w.heap.size) : ∃ q, B ≤ q ∧ q ≤ w.heap.size ∧ SlB w u n 4 (nc F) q := by
  obtain ⟨a, cap, rfl, hl⟩ := Lies.own h (nmw_at F n)
  by_cases h0 : 0 < n
  · obtain ⟨b, o, rfl, hlt, hc⟩ := hl h0
    have hk : B + 1 + 1 ≤ b := by
      rcases h.2 with ⟨e1, e2⟩ | ⟨b', cap', cur, e1, hbb, _⟩
      · omega
      · injection e1 with e1 _ _
        injection e1 with e1
        injection e1 with e1 _ _
        omega
    exact ⟨b, by omega, Nat.le_of_lt hlt, _, cap, rfl, fun _ => ⟨o, rfl, hlt, hc⟩⟩
  · exact ⟨w.heap.size, hb, Nat.le_refl _, a, cap, rfl, fun q => absurd q h0⟩
set_option maxHeartbeats 4000000 in
set_option maxRecDepth 10000 in
theorem drbgPlays_any (s : ByteArray) (v : Value) (n : Nat) (k m : Nat → Int) (x : Nat → ByteArray) (w : World) (hG : Gl w) (hL : AsksIs w v n k m x) :
    Calls Tryd.prog 3 #[.string s, v] w fun e w' => e = .returned (.bool true) ∧ Ext w w' := by
  have HA : Hid (∀ W, Ext w W → Calls Tryd.prog 9 #[] W fun e w' => e = .returned (.bool true) ∧ Ext W w') := fun W hW => awake_any W (hG.ext hW)
  have HL : Hid (AsksIs w v n k m x) := hL
  have HF : Hid (Calls Tryd.prog 8 #[.string s, v] w fun e w' => FewP s x n w e w') := few_any s v n k m x w hL
  obtain ⟨a, cap, rfl, _⟩ := hL
  go_enter Tryd.func3, Tryd.ntmps3
  go_wp2_with fail
  refine HF.out.mono ?_
  rintro e w1 ⟨b, rfl, hb, HX⟩
  have HE1 : Hid (Ext w w1) := HX
  clear HX HF
  cases b with
  | false =>
    go_wp2_with fail
    refine (HA.out _ HE1.out).mono ?_
    rintro e w2 ⟨rfl, HX⟩
    have HE2 : Hid (Ext w w2) := HE1.out.trans HX
    clear HX
    go_wp2
    go_ret
    exact ⟨rfl, HE2.out⟩
  | true =>
    have hs : s.size ≤ 1000 := (hb rfl).1
    have Hn : Hid (n ≤ 12) := (hb rfl).2.1
    have Hx : Hid (∀ i, i < n → (x i).size ≤ 1000) := (hb rfl).2.2
    clear hb
    have HOk : Hid (∀ i, i ≤ 12 → GOk (aks s k m x i) 800000) := fun i hi => (aks_ok s k m x i).mono (by omega)
    have HN : Hid (∀ i, aks s k m x (i + 1) = ask (k i) (m i) (x i) (aks s k m x i)) := fun i => rfl
    have H0 : Hid (gNew s = aks s k m x 0) := rfl
    obtain ⟨y, hy⟩ : ∃ y : Nat → Gs, Hid (aks s k m x = y) := ⟨_, rfl⟩
    rw [hy.out] at HOk HN H0
    clear hy
    go_wp2_with fail
    refine (PlD.new (w := w) s hs hG HE1.out).mono ?_
    rintro e w2 ⟨da, rfl, HP⟩
    rw [H0.out] at HP
    have HPa : Hid (PlD w (.pointer (some da)) (y 0) w2) := HP
    clear HP HE1
    have HR0 : Hid (∀ W, Calls Tryd.prog 11 #[.string s] W fun e w' => e = .returned (.agg #[.string (y 0).1, .string (y 0).2.1, .int .i64 ((y 0).2.2 : Nat)]) ∧ Ext W w') := fun W => by
      have := rnew_any s (by omega) W
      rw [← H0.out]
      exact this
    go_wp2_with fail
    refine (HR0.out _).mono ?_
    rintro e w3 ⟨rfl, HX⟩
    have HPb : Hid (PlD w (.pointer (some da)) (y 0) w3) := HPa.out.ext HX
    clear HX HPa HR0
    have HPx : Hid (PlX w (.pointer (some da)) w3.heap.size (y 0) (y 0) (w3.alloc (.cells #[.string (y 0).1, .string (y 0).2.1, .int .i64 ((y 0).2.2 : Nat)] 28))) := PlX.new HPb.out _ _
    clear HPb
    go_wp2_with fail
    generalize w3.alloc (.cells #[.string (y 0).1, .string (y 0).2.1, .int .i64 ((y 0).2.2 : Nat)] 28) = w4 at *
    generalize w3.heap.size = g at *
    go_loopw [7] (fun u7 wr => ∃ j : Nat, j ≤ n ∧ u7 = .int .i64 j ∧ Hid (PlX w (.pointer (some da)) g (y j) (y j) wr)) (fun u7 _ => n - (intOf u7).toNat)
    case atStart => exact ⟨0, Nat.zero_le _, rfl, HPx⟩
    case round =>
      clear HPx
      obtain ⟨j, hj, rfl, HP⟩ := hrel
      by_cases hlt : j < n
      · obtain ⟨q1, q0, qw⟩ := lp_nums j n hlt (by have := Hn.out; omega)
        obtain ⟨lb, lo, rfl, lb0, hc0, hc1, hc2⟩ := (HL.out.ext HP.out.old).get hlt
        have hyo : Hid (GOk (y j) 800000) := HOk.out j (by have := Hn.out; omega)
        have hny : Hid (y (j + 1) = ask (k j) (m j) (x j) (y j)) := HN.out j
        have hxs : Hid ((x j).size ≤ 1000) := Hx.out j hlt
        have AK0 : Ak (wr.alloc (.cells #[.int .i64 (k j), .int .i64 (m j), .string (x j)] 31)) wr.heap.size (k j) (m j) (x j) := Ak.new wr _ _ _ _
        have HP1 : Hid (PlX w (.pointer (some da)) g (y j) (y j) (wr.alloc (.cells #[.int .i64 (k j), .int .i64 (m j), .string (x j)] 31))) := HP.out.ext ((Ext.refl _).alloc _)
        have hgh : g ≠ wr.heap.size := by have := HP.out.cells.2.1; omega
        go_upto_region 8 with fail
        generalize wr.alloc (.cells #[.int .i64 (k j), .int .i64 (m j), .string (x j)] 31) = W1 at *
        clear HP hc0 hc1 hc2 lb0
        generalize wr.heap.size = h at *
        obtain ⟨z, hz⟩ : ∃ z, Hid (y (j + 1) = z) := ⟨_, rfl⟩
        rw [hz.out] at hny
        generalize y j = yj at *
        generalize k j = kk at *
        generalize m j = mm at *
        generalize x j = xx at *
        have HGe : Hid (∀ W, Ext w W → Gl W) := fun W hW => hG.ext hW
        by_cases e0 : kk = 0
        · subst e0
          have hzx : Hid (byX mm yj = z) := by
            show byX mm yj = z
            rw [hny.out]; unfold ask; rw [if_pos rfl]
          obtain ⟨T, hT⟩ : ∃ x, Hid (byT mm yj = x) := ⟨_, rfl⟩
          obtain ⟨E, hE⟩ : ∃ x, Hid (byE mm = x) := ⟨_, rfl⟩
          have HR : Hid (∀ W, Calls Tryd.prog 12 #[.agg #[.string yj.1, .string yj.2.1, .int .i64 (yj.2.2 : Nat)], .int .i64 mm] W fun e w' => e = .returned (.tuple #[.agg #[.string z.1, .string z.2.1, .int .i64 (z.2.2 : Nat)], .string T, .int .i64 E]) ∧ Ext W w') := fun W => by
            have := rbytes_all mm yj (hyo.out.mono (by omega)) W
            rw [hzx.out, hT.out, hE.out] at this
            exact this
          obtain ⟨-, r0, ⟨c0, c1, c2⟩, f0, f1, f2⟩ := HP1.out.cells
          obtain ⟨k0, k1, k2, k3⟩ := id AK0
          go_wp2_with fail
          refine (HR.out _).mono ?_
          rintro e w5 ⟨rfl, HX⟩
          clear r0 c0 c1 c2 f0 f1 f2 k0 k1 k2 k3
          have hgt : w5.heap.size ≠ g := by have := (HP1.out.ext HX).cells.2.1; omega
          have T6 : GB3 (w5.alloc (.cells #[.string z.1, .string z.2.1, .int .i64 (z.2.2 : Nat)] 28)) w5.heap.size z.1 z.2.1 (z.2.2 : Nat) := GB3.new w5 _ _ _ _
          have HP6 : Hid (PlX w (.pointer (some da)) g yj yj (w5.alloc (.cells #[.string z.1, .string z.2.1, .int .i64 (z.2.2 : Nat)] 28))) := (HP1.out.ext HX).ext ((Ext.refl _).alloc _)
          have AK6 : Ak (w5.alloc (.cells #[.string z.1, .string z.2.1, .int .i64 (z.2.2 : Nat)] 28)) h 0 mm xx := (AK0.ext HX).ext ((Ext.refl _).alloc _)
          clear HX HP1 AK0
          go_upto_region 13 with fail
          generalize w5.alloc (.cells #[.string z.1, .string z.2.1, .int .i64 (z.2.2 : Nat)] 28) = W5 at *
          generalize w5.heap.size = t at *
          have HP7 : Hid (PlX w (.pointer (some da)) g yj z (((W5.setCell ⟨g, 0, none⟩ (.string z.1)).setCell ⟨g, 1, none⟩ (.string z.2.1)).setCell ⟨g, 2, none⟩ (.int .i64 (z.2.2 : Nat)))) := HP6.out.put z
          have AK7 : Ak (((W5.setCell ⟨g, 0, none⟩ (.string z.1)).setCell ⟨g, 1, none⟩ (.string z.2.1)).setCell ⟨g, 2, none⟩ (.int .i64 (z.2.2 : Nat))) h 0 mm xx := ((AK6.other hgh).other hgh).other hgh
          obtain ⟨-, r0, ⟨c0, c1, c2⟩, f0, f1, f2⟩ := HP6.out.cells
          obtain ⟨t0, ⟨d0, d1, d2⟩, g0, g1, g2⟩ := T6
          go_upto_region 14 with fail
          clear r0 c0 c1 c2 f0 f1 f2 t0 d0 d1 d2 g0 g1 g2 HP6 AK6
          generalize (((W5.setCell ⟨g, 0, none⟩ (.string z.1)).setCell ⟨g, 1, none⟩ (.string z.2.1)).setCell ⟨g, 2, none⟩ (.int .i64 (z.2.2 : Nat))) = W7 at *
          obtain ⟨k0, k1, k2, k3⟩ := AK7
          obtain ⟨F, hD, -, hst⟩ := HP7.out.step
          replace hst : Hid _ := hst
          have hGw := HGe.out _ HP7.out.old
          go_wp2_with fail
          refine (dbytes_all mm (hyo.out.mono (by omega)) hGw hD).mono ?_
          rintro e W8 ⟨rfl, hs8⟩
          have HP8 := hst.out _ _ hs8
          rw [hzx.out] at HP8
          rw [hT.out, hE.out]
          replace HP8 : Hid (PlX w (.pointer (some da)) g z z W8) := HP8
          clear hst hs8 hD HP7 k0 k1 k2 k3 hGw HR
          have hTT : (T.toList == T.toList) = true := beq_self_eq_true _
          have hEE : decide (E = E) = true := decide_eq_true rfl
          go_upto_region 27 with fail
          obtain ⟨-, -, ⟨-, -, c2⟩, -⟩ := HP8.out.cells
          have HPd : Hid (PlX w (.pointer (some da)) g z z W8.drew) := HP8.out.ext ((Ext.refl _).drew)
          have hS8 : Ext W8 W8.drew := (Ext.refl _).drew
          obtain ⟨F9, hD9, -, -⟩ := HPd.out.step
          clear HP8
          refine wp_region_noPanic ?_
          refine wp_region_held (S := fun wx => Ext W8 wx) (by kernel_rfl) ?_
          rw [show ({ W8 with drawn := W8.drawn + 1 } : World) = W8.drew from rfl]
          refine held_take (i := 0) (v := ?vtb0) rfl (by kernel_rfl) (by kernel_rfl) (by kernel_rfl) (fun _ _ _ h => h) rfl ?hytb0 hS8 ?resttb0
          case hytb0 => (intro wx hSx; have c2x := later hSx c2; go_simp; try with_reducible rfl)
          try simp only [Act.put, List.setIfInBounds_toArray, List.set_cons_zero, List.set_cons_succ]
          refine held_take (i := 2) (v := ?vtb2) rfl (by kernel_rfl) (by kernel_rfl) (by kernel_rfl) (fun _ _ _ h => h) rfl ?hytb2 hS8 ?resttb2
          case hytb2 => (intro wx hSx; have c2x := later hSx c2; go_simp; try with_reducible rfl)
          try simp only [Act.put, List.setIfInBounds_toArray, List.set_cons_zero, List.set_cons_succ]
          refine held_take (i := 3) (v := ?vtb3) rfl (by kernel_rfl) (by kernel_rfl) (by kernel_rfl) (fun _ _ _ h => h) rfl ?hytb3 hS8 ?resttb3
          case hytb3 => (intro wx hSx; have c2x := later hSx c2; go_simp; try with_reducible rfl)
          try simp only [Act.put, List.setIfInBounds_toArray, List.set_cons_zero, List.set_cons_succ]
          refine held_one (i := 1) (by kernel_rfl) rfl rfl (fun K hK => ?_)
          go_simp
          refine (dasked_any hD9).mono ?_
          rintro e w9 ⟨rfl, HX⟩
          have HP9 : Hid (PlX w (.pointer (some da)) g z z w9) := HPd.out.ext HX
          have hS9 : Ext W8 w9 := hS8.trans HX
          clear HX
          try go_simp
          refine hK.out _ _ ⟨hS9, ?_⟩
          clear hK K
          try simp only [Act.put, List.setIfInBounds_toArray, List.set_cons_zero, List.set_cons_succ]
          refine held_take (i := 4) (v := ?vtb4) rfl (by kernel_rfl) (by kernel_rfl) (by kernel_rfl) (fun _ _ _ h => h) rfl ?hytb4 hS9 ?resttb4
          case hytb4 => (intro wx hSx; have c2x := later hSx c2; go_simp; try with_reducible rfl)
          try simp only [Act.put, List.setIfInBounds_toArray, List.set_cons_zero, List.set_cons_succ]
          refine wpAnyH_done (by kernel_rfl) ?_ _
          refine NoPanic.normal ?_
          clear hS8 hS9 HPd hD9 c2
          go_wp2_with fail
          go_roundw
          case rel => exact ⟨j + 1, hlt, by push_cast; rfl, by rw [hz.out]; exact HP9⟩
          case measure => exact lp_meas hlt
        by_cases e1 : kk = 1
        · subst e1
          have hzx : Hid (gS yj = z) := by
            show gS yj = z
            rw [hny.out]; unfold ask; rw [if_neg e0, if_pos rfl]
          obtain ⟨n0, n1, n2, n3, hNM⟩ : ∃ n0 n1 n2 n3 : Int, Hid (nmV (gR yj) = .agg #[.int .u64 n0, .int .u64 n1, .int .u64 n2, .int .u64 n3]) := ⟨_, _, _, _, rfl⟩
          have HR : Hid (∀ W, Calls Tryd.prog 14 #[.agg #[.string yj.1, .string yj.2.1, .int .i64 (yj.2.2 : Nat)]] W fun e w' => e = .returned (.tuple #[.agg #[.string z.1, .string z.2.1, .int .i64 (z.2.2 : Nat)], .agg #[.int .u64 n0, .int .u64 n1, .int .u64 n2, .int .u64 n3]]) ∧ Ext W w') := fun W => by
            have := rscalar_any yj (hyo.out.mono (by omega)) W
            rw [hzx.out, hNM.out] at this
            exact this
          obtain ⟨-, r0, ⟨c0, c1, c2⟩, f0, f1, f2⟩ := HP1.out.cells
          obtain ⟨k0, k1, k2, k3⟩ := id AK0
          go_wp2_with fail
          refine (HR.out _).mono ?_
          rintro e w5 ⟨rfl, HX⟩
          clear r0 c0 c1 c2 f0 f1 f2 k0 k1 k2 k3
          have hX5 : Ext W1 ((w5.alloc (.cells #[.string z.1, .string z.2.1, .int .i64 (z.2.2 : Nat)] 28)).alloc (.cells #[.int .u64 n0, .int .u64 n1, .int .u64 n2, .int .u64 n3] 39)) := (HX.alloc _).alloc _
          have hgt : w5.heap.size ≠ g := by have := (HP1.out.ext HX).cells.2.1; omega
          have hgq : g ≠ w5.heap.size + 1 := by have := (HP1.out.ext HX).cells.2.1; omega
          have T6 : GB3 ((w5.alloc (.cells #[.string z.1, .string z.2.1, .int .i64 (z.2.2 : Nat)] 28)).alloc (.cells #[.int .u64 n0, .int .u64 n1, .int .u64 n2, .int .u64 n3] 39)) w5.heap.size z.1 z.2.1 (z.2.2 : Nat) := (GB3.new w5 _ _ _ _).ext ((Ext.refl _).alloc _)
          have Q6 : Row ((w5.alloc (.cells #[.string z.1, .string z.2.1, .int .i64 (z.2.2 : Nat)] 28)).alloc (.cells #[.int .u64 n0, .int .u64 n1, .int .u64 n2, .int .u64 n3] 39)) (w5.heap.size + 1) n0 n1 n2 n3 := by
            have := Row.new (w5.alloc (.cells #[.string z.1, .string z.2.1, .int .i64 (z.2.2 : Nat)] 28)) n0 n1 n2 n3
            rw [World.size_alloc] at this
            exact this
          have HPW6 : Hid (PlW w (.pointer (some da)) g yj yj (w5.heap.size + 1) ((w5.alloc (.cells #[.string z.1, .string z.2.1, .int .i64 (z.2.2 : Nat)] 28)).alloc (.cells #[.int .u64 n0, .int .u64 n1, .int .u64 n2, .int .u64 n3] 39)) ((w5.alloc (.cells #[.string z.1, .string z.2.1, .int .i64 (z.2.2 : Nat)] 28)).alloc (.cells #[.int .u64 n0, .int .u64 n1, .int .u64 n2, .int .u64 n3] 39))) := PlW.of HP1.out hX5 (Nat.le_trans HX.size (Nat.le_succ _)) Q6.1
          clear HX HP1 AK0 hX5
          go_upto_region 19 with fail
          generalize (w5.alloc (.cells #[.string z.1, .string z.2.1, .int .i64 (z.2.2 : Nat)] 28)).alloc (.cells #[.int .u64 n0, .int .u64 n1, .int .u64 n2, .int .u64 n3] 39) = W5 at *
          generalize w5.heap.size + 1 = q at *
          generalize w5.heap.size = t at *
          have HQ5 : Hid (Row W5 q n0 n1 n2 n3) := Q6
          have HPW7 : Hid (PlW w (.pointer (some da)) g yj z q W5 (((W5.setCell ⟨g, 0, none⟩ (.string z.1)).setCell ⟨g, 1, none⟩ (.string z.2.1)).setCell ⟨g, 2, none⟩ (.int .i64 (z.2.2 : Nat)))) := HPW6.out.put z
          obtain ⟨-, r0, ⟨c0, c1, c2⟩, f0, f1, f2⟩ := HPW6.out.plx.cells
          obtain ⟨t0, ⟨d0, d1, d2⟩, g0, g1, g2⟩ := T6
          go_upto_region 20 with fail
          clear r0 c0 c1 c2 f0 f1 f2 t0 d0 d1 d2 g0 g1 g2 HPW6 Q6
          generalize (((W5.setCell ⟨g, 0, none⟩ (.string z.1)).setCell ⟨g, 1, none⟩ (.string z.2.1)).setCell ⟨g, 2, none⟩ (.int .i64 (z.2.2 : Nat))) = W7 at *
          have HPWd : Hid (PlW w (.pointer (some da)) g yj z q W5 W7.drew) := HPW7.out.ext ((Ext.refl _).drew)
          have hS7 : Row W7.drew q n0 n1 n2 n3 := HQ5.out.same HPWd.out.same
          obtain ⟨F, hD, hst⟩ := HPWd.out.step
          replace hst : Hid _ := hst
          have hGw := HGe.out _ HPWd.out.plx.old
          have hself := eq4_self n0 n1 n2 n3
          refine wp_region_noPanic ?_
          refine wp_region_held (S := fun wx => Row wx q n0 n1 n2 n3) (by kernel_rfl) ?_
          rw [show ({ W7 with drawn := W7.drawn + 1 } : World) = W7.drew from rfl]
          refine held_take (i := 0) (v := ?vb0) rfl (by kernel_rfl) (by kernel_rfl) (by kernel_rfl) (fun _ _ _ h => h) rfl ?hyb0 hS7 ?restb0
          case hyb0 => (intro wx hSx; obtain ⟨-, x0, x1, x2, x3⟩ := hSx; go_simp; try with_reducible rfl)
          try simp only [Act.put, List.setIfInBounds_toArray, List.set_cons_zero, List.set_cons_succ]
          refine held_take (i := 2) (v := ?vb2) rfl (by kernel_rfl) (by kernel_rfl) (by kernel_rfl) (fun _ _ _ h => h) rfl ?hyb2 hS7 ?restb2
          case hyb2 => (intro wx hSx; obtain ⟨-, x0, x1, x2, x3⟩ := hSx; go_simp; try with_reducible rfl)
          try simp only [Act.put, List.setIfInBounds_toArray, List.set_cons_zero, List.set_cons_succ]
          refine held_one (i := 1) (by kernel_rfl) rfl rfl (fun K hK => ?_)
          go_simp
          refine (dscalar_any (hyo.out.mono (by omega)) hGw hD).mono ?_
          rintro e W8 ⟨rfl, hs8⟩
          have HPW8 := hst.out _ _ hs8
          rw [hzx.out] at HPW8
          rw [hNM.out]
          have hS8b : Row W8 q n0 n1 n2 n3 := HQ5.out.same HPW8.same
          have HP8 : Hid (PlX w (.pointer (some da)) g z z W8) := HPW8.plx
          clear hst hs8 hD HPW8
          try go_simp
          refine hK.out _ _ ⟨hS8b, ?_⟩
          clear hK K
          try simp only [Act.put, List.setIfInBounds_toArray, List.set_cons_zero, List.set_cons_succ]
          refine held_take (i := 3) (v := ?vb3) rfl (by kernel_rfl) (by kernel_rfl) (by kernel_rfl) (fun _ _ _ h => h) rfl ?hyb3 hS8b ?restb3
          case hyb3 => (intro wx hSx; obtain ⟨-, x0, x1, x2, x3⟩ := hSx; refine (exec_neq4 (i := 82) (j := 83) rfl rfl rfl).trans ?_; rw [hself, Bool.not_true])
          try simp only [Act.put, List.setIfInBounds_toArray, List.set_cons_zero, List.set_cons_succ]
          refine wpAnyH_done (by kernel_rfl) ?_ _
          refine NoPanic.normal ?_
          clear hS7 hS8b HQ5 hGw HR HPW7 HPWd
          go_upto_region 27 with fail
          obtain ⟨-, -, ⟨-, -, c2⟩, -⟩ := HP8.out.cells
          have HPd : Hid (PlX w (.pointer (some da)) g z z W8.drew) := HP8.out.ext ((Ext.refl _).drew)
          have hS8 : Ext W8 W8.drew := (Ext.refl _).drew
          obtain ⟨F9, hD9, -, -⟩ := HPd.out.step
          clear HP8
          refine wp_region_noPanic ?_
          refine wp_region_held (S := fun wx => Ext W8 wx) (by kernel_rfl) ?_
          rw [show ({ W8 with drawn := W8.drawn + 1 } : World) = W8.drew from rfl]
          refine held_take (i := 0) (v := ?vtd0) rfl (by kernel_rfl) (by kernel_rfl) (by kernel_rfl) (fun _ _ _ h => h) rfl ?hytd0 hS8 ?resttd0
          case hytd0 => (intro wx hSx; have c2x := later hSx c2; go_simp; try with_reducible rfl)
          try simp only [Act.put, List.setIfInBounds_toArray, List.set_cons_zero, List.set_cons_succ]
          refine held_take (i := 2) (v := ?vtd2) rfl (by kernel_rfl) (by kernel_rfl) (by kernel_rfl) (fun _ _ _ h => h) rfl ?hytd2 hS8 ?resttd2
          case hytd2 => (intro wx hSx; have c2x := later hSx c2; go_simp; try with_reducible rfl)
          try simp only [Act.put, List.setIfInBounds_toArray, List.set_cons_zero, List.set_cons_succ]
          refine held_take (i := 3) (v := ?vtd3) rfl (by kernel_rfl) (by kernel_rfl) (by kernel_rfl) (fun _ _ _ h => h) rfl ?hytd3 hS8 ?resttd3
          case hytd3 => (intro wx hSx; have c2x := later hSx c2; go_simp; try with_reducible rfl)
          try simp only [Act.put, List.setIfInBounds_toArray, List.set_cons_zero, List.set_cons_succ]
          refine held_one (i := 1) (by kernel_rfl) rfl rfl (fun K hK => ?_)
          go_simp
          refine (dasked_any hD9).mono ?_
          rintro e w9 ⟨rfl, HX⟩
          have HP9 : Hid (PlX w (.pointer (some da)) g z z w9) := HPd.out.ext HX
          have hS9 : Ext W8 w9 := hS8.trans HX
          clear HX
          try go_simp
          refine hK.out _ _ ⟨hS9, ?_⟩
          clear hK K
          try simp only [Act.put, List.setIfInBounds_toArray, List.set_cons_zero, List.set_cons_succ]
          refine held_take (i := 4) (v := ?vtd4) rfl (by kernel_rfl) (by kernel_rfl) (by kernel_rfl) (fun _ _ _ h => h) rfl ?hytd4 hS9 ?resttd4
          case hytd4 => (intro wx hSx; have c2x := later hSx c2; go_simp; try with_reducible rfl)
          try simp only [Act.put, List.setIfInBounds_toArray, List.set_cons_zero, List.set_cons_succ]
          refine wpAnyH_done (by kernel_rfl) ?_ _
          refine NoPanic.normal ?_
          clear hS8 hS9 HPd hD9 c2
          go_wp2_with fail
          go_roundw
          case rel => exact ⟨j + 1, hlt, by push_cast; rfl, by rw [hz.out]; exact HP9⟩
          case measure => exact lp_meas hlt
        by_cases e2 : kk = 2
        · subst e2
          have hzx : Hid (gSs (pcn mm) yj = z) := by
            show gSs (pcn mm) yj = z
            rw [hny.out]; unfold ask; rw [if_neg e0, if_neg e1, if_pos rfl]
          obtain ⟨F, hF⟩ : ∃ x, Hid (psW yj = x) := ⟨_, rfl⟩
          obtain ⟨c, hc⟩ : ∃ x, Hid (pcn mm = x) := ⟨_, rfl⟩
          have Hc8 : Hid (c ≤ 8) := by show c ≤ 8; rw [← hc.out]; exact pcn_le mm
          have HR : Hid (∀ W, Calls Tryd.prog 16 #[.agg #[.string yj.1, .string yj.2.1, .int .i64 (yj.2.2 : Nat)], .int .i64 mm] W fun e w' => ∃ u, e = .returned (.tuple #[.agg #[.string z.1, .string z.2.1, .int .i64 (z.2.2 : Nat)], u]) ∧ w'.ownsRow (W.heap.size + 1 + 1) 39 4 u c (nmw F c) ∧ Ext W w') := fun W => by
            have := rpoly_any yj mm (hyo.out.mono (by omega)) W
            rw [hzx.out, hF.out, hc.out] at this
            exact this
          obtain ⟨-, r0, ⟨c0, c1, c2⟩, f0, f1, f2⟩ := HP1.out.cells
          obtain ⟨k0, k1, k2, k3⟩ := id AK0
          go_wp2_with fail
          refine (HR.out _).mono ?_
          rintro e w5 ⟨u, rfl, hown, HX⟩
          clear r0 c0 c1 c2 f0 f1 f2 k0 k1 k2 k3
          obtain ⟨q, hq1, hq2, hq3⟩ : ∃ q, W1.heap.size ≤ q ∧ q ≤ w5.heap.size ∧ SlB w5 u c 4 (nc F) q := own_slb2 hown HX.size
          have hgt : w5.heap.size ≠ g := by have := (HP1.out.ext HX).cells.2.1; omega
          have T6 : GB3 (w5.alloc (.cells #[.string z.1, .string z.2.1, .int .i64 (z.2.2 : Nat)] 28)) w5.heap.size z.1 z.2.1 (z.2.2 : Nat) := GB3.new w5 _ _ _ _
          have AK6 : Ak (w5.alloc (.cells #[.string z.1, .string z.2.1, .int .i64 (z.2.2 : Nat)] 28)) h 2 mm xx := (AK0.ext HX).ext ((Ext.refl _).alloc _)
          have HPW6 : Hid (PlW w (.pointer (some da)) g yj yj q (w5.alloc (.cells #[.string z.1, .string z.2.1, .int .i64 (z.2.2 : Nat)] 28)) (w5.alloc (.cells #[.string z.1, .string z.2.1, .int .i64 (z.2.2 : Nat)] 28))) := PlW.of HP1.out (HX.alloc _) hq1 (by simp; omega)
          have HSq : Hid (SlB (w5.alloc (.cells #[.string z.1, .string z.2.1, .int .i64 (z.2.2 : Nat)] 28)) u c 4 (nc F) q) := hq3.ext ((Ext.refl _).alloc _)
          clear HX HP1 AK0 hq1 hq2 hq3 hown
          go_upto_region 24 with fail
          generalize w5.alloc (.cells #[.string z.1, .string z.2.1, .int .i64 (z.2.2 : Nat)] 28) = W5 at *
          generalize w5.heap.size = t at *
          have HPW7 : Hid (PlW w (.pointer (some da)) g yj z q W5 (((W5.setCell ⟨g, 0, none⟩ (.string z.1)).setCell ⟨g, 1, none⟩ (.string z.2.1)).setCell ⟨g, 2, none⟩ (.int .i64 (z.2.2 : Nat)))) := HPW6.out.put z
          have AK7 : Ak (((W5.setCell ⟨g, 0, none⟩ (.string z.1)).setCell ⟨g, 1, none⟩ (.string z.2.1)).setCell ⟨g, 2, none⟩ (.int .i64 (z.2.2 : Nat))) h 2 mm xx := ((AK6.other hgh).other hgh).other hgh
          obtain ⟨-, r0, ⟨c0, c1, c2⟩, f0, f1, f2⟩ := HPW6.out.plx.cells
          obtain ⟨t0, ⟨d0, d1, d2⟩, g0, g1, g2⟩ := T6
          go_upto_region 25 with fail
          clear r0 c0 c1 c2 f0 f1 f2 t0 d0 d1 d2 g0 g1 g2 HPW6 AK6
          generalize (((W5.setCell ⟨g, 0, none⟩ (.string z.1)).setCell ⟨g, 1, none⟩ (.string z.2.1)).setCell ⟨g, 2, none⟩ (.int .i64 (z.2.2 : Nat))) = W7 at *
          obtain ⟨k0, k1, k2, k3⟩ := AK7
          obtain ⟨G, hD, hst⟩ := HPW7.out.step
          replace hst : Hid _ := hst
          have hGw := HGe.out _ HPW7.out.plx.old
          go_wp2_with fail
          refine (dpoly_any mm (hyo.out.mono (by omega)) hGw hD).mono ?_
          rintro e w8 ⟨u2, blk2, rfl, hu2, -, hs8⟩
          have HPW8 := hst.out _ _ hs8
          rw [hc.out] at HPW8 hu2
          rw [hF.out] at hu2
          rw [← hc.out, hzx.out] at HPW8
          have hSu := HSq.out.same HPW8.same
          have HP8' : Hid (PlX w (.pointer (some da)) g z z w8) := HPW8.plx
          clear hst hs8 hD HPW7 HPW8 k0 k1 k2 k3 hGw HR
          go_wp2_with fail
          refine (rnums_any _ _ c F (by have := Hc8.out; omega) _ hu2.lies hSu.lies).mono ?_
          rintro e W8 ⟨rfl, HX⟩
          have HP8 : Hid (PlX w (.pointer (some da)) g z z W8) := HP8'.out.ext HX
          clear HX HP8' hu2 hSu HSq
          go_upto_region 27 with fail
          obtain ⟨-, -, ⟨-, -, c2⟩, -⟩ := HP8.out.cells
          have HPd : Hid (PlX w (.pointer (some da)) g z z W8.drew) := HP8.out.ext ((Ext.refl _).drew)
          have hS8 : Ext W8 W8.drew := (Ext.refl _).drew
          obtain ⟨F9, hD9, -, -⟩ := HPd.out.step
          clear HP8
          refine wp_region_noPanic ?_
          refine wp_region_held (S := fun wx => Ext W8 wx) (by kernel_rfl) ?_
          rw [show ({ W8 with drawn := W8.drawn + 1 } : World) = W8.drew from rfl]
          refine held_take (i := 0) (v := ?vte0) rfl (by kernel_rfl) (by kernel_rfl) (by kernel_rfl) (fun _ _ _ h => h) rfl ?hyte0 hS8 ?restte0
          case hyte0 => (intro wx hSx; have c2x := later hSx c2; go_simp; try with_reducible rfl)
          try simp only [Act.put, List.setIfInBounds_toArray, List.set_cons_zero, List.set_cons_succ]
          refine held_take (i := 2) (v := ?vte2) rfl (by kernel_rfl) (by kernel_rfl) (by kernel_rfl) (fun _ _ _ h => h) rfl ?hyte2 hS8 ?restte2
          case hyte2 => (intro wx hSx; have c2x := later hSx c2; go_simp; try with_reducible rfl)
          try simp only [Act.put, List.setIfInBounds_toArray, List.set_cons_zero, List.set_cons_succ]
          refine held_take (i := 3) (v := ?vte3) rfl (by kernel_rfl) (by kernel_rfl) (by kernel_rfl) (fun _ _ _ h => h) rfl ?hyte3 hS8 ?restte3
          case hyte3 => (intro wx hSx; have c2x := later hSx c2; go_simp; try with_reducible rfl)
          try simp only [Act.put, List.setIfInBounds_toArray, List.set_cons_zero, List.set_cons_succ]
          refine held_one (i := 1) (by kernel_rfl) rfl rfl (fun K hK => ?_)
          go_simp
          refine (dasked_any hD9).mono ?_
          rintro e w9 ⟨rfl, HX⟩
          have HP9 : Hid (PlX w (.pointer (some da)) g z z w9) := HPd.out.ext HX
          have hS9 : Ext W8 w9 := hS8.trans HX
          clear HX
          try go_simp
          refine hK.out _ _ ⟨hS9, ?_⟩
          clear hK K
          try simp only [Act.put, List.setIfInBounds_toArray, List.set_cons_zero, List.set_cons_succ]
          refine held_take (i := 4) (v := ?vte4) rfl (by kernel_rfl) (by kernel_rfl) (by kernel_rfl) (fun _ _ _ h => h) rfl ?hyte4 hS9 ?restte4
          case hyte4 => (intro wx hSx; have c2x := later hSx c2; go_simp; try with_reducible rfl)
          try simp only [Act.put, List.setIfInBounds_toArray, List.set_cons_zero, List.set_cons_succ]
          refine wpAnyH_done (by kernel_rfl) ?_ _
          refine NoPanic.normal ?_
          clear hS8 hS9 HPd hD9 c2
          go_wp2_with fail
          go_roundw
          case rel => exact ⟨j + 1, hlt, by push_cast; rfl, by rw [hz.out]; exact HP9⟩
          case measure => exact lp_meas hlt
        · have d0 : decide (kk = 0) = false := decide_eq_false e0
          have d1 : decide (kk = 1) = false := decide_eq_false e1
          have d2 : decide (kk = 2) = false := decide_eq_false e2
          have hzx : Hid (gU xx yj = z) := by
            show gU xx yj = z
            rw [hny.out]; unfold ask; rw [if_neg e0, if_neg e1, if_neg e2]
          have HR : Hid (∀ W, Calls Tryd.prog 19 #[.agg #[.string yj.1, .string yj.2.1, .int .i64 (yj.2.2 : Nat)], .string xx] W fun e w' => e = .returned (.agg #[.string z.1, .string z.2.1, .int .i64 (z.2.2 : Nat)]) ∧ Ext W w') := fun W => by
            have := rreseed_any yj.1 yj.2.1 xx yj.2.2 hyo.out.1 hyo.out.2.1 (by have := hxs.out; omega) W
            rw [← hzx.out]
            exact this
          obtain ⟨-, r0, ⟨c0, c1, c2⟩, f0, f1, f2⟩ := HP1.out.cells
          obtain ⟨k0, k1, k2, k3⟩ := id AK0
          go_wp2_with fail
          refine (HR.out _).mono ?_
          rintro e W5 ⟨rfl, HX⟩
          clear r0 c0 c1 c2 f0 f1 f2 k0 k1 k2 k3
          have HP6 : Hid (PlX w (.pointer (some da)) g yj yj W5) := HP1.out.ext HX
          have AK6 : Ak W5 h kk mm xx := AK0.ext HX
          clear HX HP1 AK0
          have HP7 : Hid (PlX w (.pointer (some da)) g yj z (((W5.setCell ⟨g, 0, none⟩ (.string z.1)).setCell ⟨g, 1, none⟩ (.string z.2.1)).setCell ⟨g, 2, none⟩ (.int .i64 (z.2.2 : Nat)))) := HP6.out.put z
          have AK7 : Ak (((W5.setCell ⟨g, 0, none⟩ (.string z.1)).setCell ⟨g, 1, none⟩ (.string z.2.1)).setCell ⟨g, 2, none⟩ (.int .i64 (z.2.2 : Nat))) h kk mm xx := ((AK6.other hgh).other hgh).other hgh
          obtain ⟨-, r0, ⟨c0, c1, c2⟩, f0, f1, f2⟩ := HP6.out.cells
          go_upto_region 10 with fail
          clear r0 c0 c1 c2 f0 f1 f2 HP6 AK6
          generalize (((W5.setCell ⟨g, 0, none⟩ (.string z.1)).setCell ⟨g, 1, none⟩ (.string z.2.1)).setCell ⟨g, 2, none⟩ (.int .i64 (z.2.2 : Nat))) = W7 at *
          obtain ⟨k0, k1, k2, k3⟩ := AK7
          obtain ⟨F, hD, -, hst⟩ := HP7.out.step
          replace hst : Hid _ := hst
          have hGw := HGe.out _ HP7.out.old
          go_wp2_with fail
          refine (dreseed_any xx hxs.out (hyo.out.mono (by omega)) hGw hD).mono ?_
          rintro e W8 ⟨rfl, hs8⟩
          have HP8 := hst.out _ _ hs8
          rw [hzx.out] at HP8
          replace HP8 : Hid (PlX w (.pointer (some da)) g z z W8) := HP8
          clear hst hs8 hD HP7 k0 k1 k2 k3 hGw HR
          go_upto_region 27 with fail
          obtain ⟨-, -, ⟨-, -, c2⟩, -⟩ := HP8.out.cells
          have HPd : Hid (PlX w (.pointer (some da)) g z z W8.drew) := HP8.out.ext ((Ext.refl _).drew)
          have hS8 : Ext W8 W8.drew := (Ext.refl _).drew
          obtain ⟨F9, hD9, -, -⟩ := HPd.out.step
          clear HP8
          refine wp_region_noPanic ?_
          refine wp_region_held (S := fun wx => Ext W8 wx) (by kernel_rfl) ?_
          rw [show ({ W8 with drawn := W8.drawn + 1 } : World) = W8.drew from rfl]
          refine held_take (i := 0) (v := ?vtc0) rfl (by kernel_rfl) (by kernel_rfl) (by kernel_rfl) (fun _ _ _ h => h) rfl ?hytc0 hS8 ?resttc0
          case hytc0 => (intro wx hSx; have c2x := later hSx c2; go_simp; try with_reducible rfl)
          try simp only [Act.put, List.setIfInBounds_toArray, List.set_cons_zero, List.set_cons_succ]
          refine held_take (i := 2) (v := ?vtc2) rfl (by kernel_rfl) (by kernel_rfl) (by kernel_rfl) (fun _ _ _ h => h) rfl ?hytc2 hS8 ?resttc2
          case hytc2 => (intro wx hSx; have c2x := later hSx c2; go_simp; try with_reducible rfl)
          try simp only [Act.put, List.setIfInBounds_toArray, List.set_cons_zero, List.set_cons_succ]
          refine held_take (i := 3) (v := ?vtc3) rfl (by kernel_rfl) (by kernel_rfl) (by kernel_rfl) (fun _ _ _ h => h) rfl ?hytc3 hS8 ?resttc3
          case hytc3 => (intro wx hSx; have c2x := later hSx c2; go_simp; try with_reducible rfl)
          try simp only [Act.put, List.setIfInBounds_toArray, List.set_cons_zero, List.set_cons_succ]
          refine held_one (i := 1) (by kernel_rfl) rfl rfl (fun K hK => ?_)
          go_simp
          refine (dasked_any hD9).mono ?_
          rintro e w9 ⟨rfl, HX⟩
          have HP9 : Hid (PlX w (.pointer (some da)) g z z w9) := HPd.out.ext HX
          have hS9 : Ext W8 w9 := hS8.trans HX
          clear HX
          try go_simp
          refine hK.out _ _ ⟨hS9, ?_⟩
          clear hK K
          try simp only [Act.put, List.setIfInBounds_toArray, List.set_cons_zero, List.set_cons_succ]
          refine held_take (i := 4) (v := ?vtc4) rfl (by kernel_rfl) (by kernel_rfl) (by kernel_rfl) (fun _ _ _ h => h) rfl ?hytc4 hS9 ?resttc4
          case hytc4 => (intro wx hSx; have c2x := later hSx c2; go_simp; try with_reducible rfl)
          try simp only [Act.put, List.setIfInBounds_toArray, List.set_cons_zero, List.set_cons_succ]
          refine wpAnyH_done (by kernel_rfl) ?_ _
          refine NoPanic.normal ?_
          clear hS8 hS9 HPd hD9 c2
          go_wp2_with fail
          go_roundw
          case rel => exact ⟨j + 1, hlt, by push_cast; rfl, by rw [hz.out]; exact HP9⟩
          case measure => exact lp_meas hlt
      · obtain rfl : j = n := by omega
        have hnl : ¬ (j : Int) < (j : Int) := by omega
        have HE3 : Hid (Ext w wr) := HP.out.old
        clear HP
        go_wp2_with fail
        refine (HA.out _ HE3.out).mono ?_
        rintro e w5 ⟨rfl, HX⟩
        have HE4 : Hid (Ext w w5) := HE3.out.trans HX
        clear HX
        go_wp2
        go_ret
        exact ⟨rfl, HE4.out⟩
end Go.Proofs.YtpfeakdpckmcgaaDoor
