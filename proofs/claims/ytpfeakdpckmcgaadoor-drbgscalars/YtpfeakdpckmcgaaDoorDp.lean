/-
  Poly, called.
-/
import Derived.Test.YtpfeakdpckmcgaaDoorDs
import Derived.Test.YtpfeakdpckmcgaaDoorRgD
namespace Go.Proofs.YtpfeakdpckmcgaaDoor
set_option maxRecDepth 10000
open Go.RowKit
theorem made4 (w : World) (n : Nat) : (w.alloc (.cells (madeCells #[.int .u64 0, .int .u64 0, .int .u64 0, .int .u64 0] (n * 4)) 39)).rowIs w.heap.size 39 (n * 4) (fun _ => .int .u64 0) := by
  have h := World.rowIs_alloc w (madeCells #[.int .u64 0, .int .u64 0, .int .u64 0, .int .u64 0] (n * 4)) 39 (fun _ => .int .u64 0) (fun i hi => by
    rw [size_madeCells] at hi
    simp only [madeCells, Array.getElem?_map, Array.getElem?_range, hi, if_true, Option.map_some, Option.some.injEq]
    have h4 : i % 4 = 0 ∨ i % 4 = 1 ∨ i % 4 = 2 ∨ i % 4 = 3 := by omega
    show #[Value.int .u64 0, .int .u64 0, .int .u64 0, .int .u64 0][i % 4]! = .int .u64 0
    rcases h4 with h | h | h | h <;> rw [h] <;> rfl)
  rwa [size_madeCells] at h
theorem make43 (n : Nat) (hn : n ≤ 1000) (w : World) : (Instr.makeSlice 43 (.int .i64 (n : Int)) (.int .i64 (n : Int))).run Tryd.prog w = .ok (.slice (some ⟨w.heap.size, 0, none⟩) n n) (w.alloc (.cells (madeCells #[.int .u64 0, .int .u64 0, .int .u64 0, .int .u64 0] (n * 4)) 39)) := by
  obtain ⟨i0, hi0, hz0, hz1, hz2⟩ := info_parts Tryd.info39
  have h := run_make (P := Tryd.prog) w 43 39 i0 _ Tryd.underlying43 hi0 hz0 .i64 .i64 n n (by omega) (Int.le_refl _) (by rw [hz2]; omega) (by omega)
  simp only [Int.toNat_natCast, hz1] at h
  exact h
theorem rowIs_far {w w' : World} {b : Nat} {t : TypeId} {n : Nat} {f : Nat → Value} {G : Nat → Prop} (h : w.rowIs b t n f) (hc : Chg G w w') (hn : ¬ G b) : w'.rowIs b t n f := h.of_block (hc.block b h.lt hn)
/-- The first i of n numbers are there. -/
def Wts (F : Nat → Nat → Int) (i : Nat) (k : Nat) : Value := if k < i * 4 then nc F k else .int .u64 0
theorem wts_step (F : Nat → Nat → Int) (i n : Nat) {w : World} {b : Nat} (_hi : i < n) (h : w.rowIs b 39 (n * 4) (Wts F i)) :
    ((((w.setCell ⟨b, i * 4, none⟩ (.int .u64 (F i 0))).setCell ⟨b, i * 4 + 1, none⟩ (.int .u64 (F i 1))).setCell ⟨b, i * 4 + 2, none⟩ (.int .u64 (F i 2))).setCell ⟨b, i * 4 + 3, none⟩ (.int .u64 (F i 3))).rowIs b 39 (n * 4) (Wts F (i + 1)) := by
  refine ((((h.set (i * 4) _).set (i * 4 + 1) _).set (i * 4 + 2) _).set (i * 4 + 3) _).congr fun k hk => ?_
  have e0 := nc_at F i 0 (by omega)
  have e1 := nc_at F i 1 (by omega)
  have e2 := nc_at F i 2 (by omega)
  have e3 := nc_at F i 3 (by omega)
  unfold Wts
  by_cases h3 : k = i * 4 + 3
  · rw [if_pos h3, if_pos (by omega), h3, e3]
  · rw [if_neg h3]
    by_cases h2 : k = i * 4 + 2
    · rw [if_pos h2, if_pos (by omega), h2, e2]
    · rw [if_neg h2]
      by_cases h1 : k = i * 4 + 1
      · rw [if_pos h1, if_pos (by omega), h1, e1]
      · rw [if_neg h1]
        by_cases h0 : k = i * 4
        · rw [if_pos h0, if_pos (by omega), h0]; exact e0.symm
        · rw [if_neg h0]
          by_cases hlt : k < i * 4
          · rw [if_pos hlt, if_pos (by omega)]
          · rw [if_neg hlt, if_neg (by omega)]
set_option maxHeartbeats 2000000 in
theorem kpoly_any (x : Gs) (b : Nat) (m : Int) (hx : GOk x 1000000) (w : World) (hG : SGl w) (hO : OGl w) (h : KB w b x.1 x.2.1 ((x.2.2 : Nat) : Int)) :
    Calls Tryd.prog 18 #[.pointer (some ⟨b, 0, none⟩), .int .i64 m] w fun e w' => ∃ g, e = .returned (.slice (some ⟨g, 0, none⟩) (pcn m) (pcn m)) ∧ w'.rowIs g 39 (pcn m * 4) (Wts (psW x) (pcn m)) ∧ w.heap.size ≤ g ∧ KB w' b (gSs (pcn m) x).1 (gSs (pcn m) x).2.1 (((gSs (pcn m) x).2.2 : Nat) : Int) ∧ Chg (fun k => k = b) w w' := by
  have HGs : Hid (∀ W, Chg (fun k => k = b) w W → SGl W ∧ OGl W) := fun W hc => ⟨hG.chg h hc, hO.chg h hc⟩
  have HS : Hid (∀ i, i < 8 → ∀ W, SGl W → OGl W → KB W b (gSs i x).1 (gSs i x).2.1 (((gSs i x).2.2 : Nat) : Int) → Calls Tryd.prog 15 #[.pointer (some ⟨b, 0, none⟩)] W fun e w' => e = .returned (nmV (gR (gSs i x))) ∧ KB w' b (gSs (i + 1) x).1 (gSs (i + 1) x).2.1 (((gSs (i + 1) x).2.2 : Nat) : Int) ∧ Chg (fun k => k = b) W w') := by
    intro i hi W h1 h2 h3
    rw [gSs_succ]
    exact kscalar_any (gSs i x) b ((gSs_ok hx i).mono (by omega)) W h1 h2 h3
  have HC8 : Hid (pcn m ≤ 8) := pcn_le m
  have HCm : Hid (m < 0 ∧ pcn m = 0 ∨ 0 ≤ m ∧ m ≤ 8 ∧ (pcn m : Int) = m ∨ 8 < m ∧ pcn m = 8) := by unfold pcn; show _ ∨ _; split <;> (try split) <;> omega
  obtain ⟨xs, hxs⟩ : ∃ f : Nat → Gs, Hid (∀ k, gSs k x = f k) := ⟨fun k => gSs k x, fun k => rfl⟩
  obtain ⟨F, hF⟩ : ∃ F : Nat → Nat → Int, Hid (psW x = F) := ⟨_, rfl⟩
  replace HS : Hid (∀ i, i < 8 → ∀ W, SGl W → OGl W → KB W b (xs i).1 (xs i).2.1 (((xs i).2.2 : Nat) : Int) → Calls Tryd.prog 15 #[.pointer (some ⟨b, 0, none⟩)] W fun e w' => e = .returned (.agg #[.int .u64 (F i 0), .int .u64 (F i 1), .int .u64 (F i 2), .int .u64 (F i 3)]) ∧ KB w' b (xs (i + 1)).1 (xs (i + 1)).2.1 (((xs (i + 1)).2.2 : Nat) : Int) ∧ Chg (fun k => k = b) W w') := by
    intro i hi W h1 h2 h3
    have := HS.out i hi W h1 h2 (by rw [hxs.out]; exact h3)
    rw [psW_mk, hF.out, hxs.out] at this
    exact this
  have h0 : KB w b (xs 0).1 (xs 0).2.1 (((xs 0).2.2 : Nat) : Int) := by rw [← hxs.out 0]; exact h
  have hw := h.lt
  rw [hxs.out, hF.out]
  clear hxs hF hx h hG hO
  generalize pcn m = c at *
  have hmk := make43 c (by have := HC8.out; omega) w
  have Rm := made4 w c
  have hE0 : Ext w (w.alloc (.cells (madeCells #[.int .u64 0, .int .u64 0, .int .u64 0, .int .u64 0] (c * 4)) 39)) := (Ext.refl _).alloc _
  have R0 : Hid ((w.alloc (.cells (madeCells #[.int .u64 0, .int .u64 0, .int .u64 0, .int .u64 0] (c * 4)) 39)).rowIs w.heap.size 39 (c * 4) (Wts F 0)) := Rm.congr fun k _ => by unfold Wts; rw [if_neg (by omega)]
  have HB0 : Hid (KB (w.alloc (.cells (madeCells #[.int .u64 0, .int .u64 0, .int .u64 0, .int .u64 0] (c * 4)) 39)) b (xs 0).1 (xs 0).2.1 (((xs 0).2.2 : Nat) : Int)) := h0.ext hE0
  have HC0 : Hid (Chg (fun k => k = b) w (w.alloc (.cells (madeCells #[.int .u64 0, .int .u64 0, .int .u64 0, .int .u64 0] (c * 4)) 39))) := Chg.of_ext _ hE0
  have hgb : ¬ w.heap.size = b := by omega
  have hmm : min (max m 0) 8 = (c : Int) := by have := HCm.out; omega
  clear hE0 Rm h0 hw
  go_enter Tryd.func18, Tryd.ntmps18
  go_wp2_with fail
  clear hmk hmm
  generalize w.alloc (.cells (madeCells #[.int .u64 0, .int .u64 0, .int .u64 0, .int .u64 0] (c * 4)) 39) = W0 at *
  obtain ⟨g, hg⟩ : ∃ g, w.heap.size = g := ⟨_, rfl⟩
  rw [hg] at R0 hgb ⊢
  have HD : Hid (w.heap.size ≤ g) := Nat.le_of_eq hg
  clear hg
  go_loopw [15] (fun u15 wr => ∃ i : Nat, i ≤ c ∧ u15 = .int .i64 (i : Int) ∧ Hid (wr.rowIs g 39 (c * 4) (Wts F i)) ∧ Hid (KB wr b (xs i).1 (xs i).2.1 (((xs i).2.2 : Nat) : Int)) ∧ Hid (Chg (fun k => k = b) w wr)) (fun u15 _ => c - (intOf u15).toNat)
  case atStart => exact ⟨0, Nat.zero_le _, rfl, R0, HB0, HC0⟩
  case round =>
    obtain ⟨i, hi, rfl, HR, HB, HC⟩ := hrel
    clear R0 HB0 HC0
    by_cases hlt : i < c
    · have h1 : (i : Int) < (c : Int) := by omega
      have h0 : (0 : Int) ≤ (i : Int) := by omega
      have hwr : IntKind.i64.wrap ((i : Int) + 1) = (i : Int) + 1 := by have := HC8.out; rw [IntKind.wrap_i64]; omega
      go_wp2_with fail
      refine (HS.out i (by have := HC8.out; omega) _ (HGs.out _ HC.out).1 (HGs.out _ HC.out).2 HB.out).mono ?_
      rintro e w2 ⟨rfl, hB2, hC2⟩
      have HR2 : Hid (w2.rowIs g 39 (c * 4) (Wts F i)) := rowIs_far HR.out hC2 hgb
      have HB2 : Hid (KB w2 b (xs (i + 1)).1 (xs (i + 1)).2.1 (((xs (i + 1)).2.2 : Nat) : Int)) := hB2
      have HC2 : Hid (Chg (fun k => k = b) w w2) := HC.out.trans hC2 (fun _ q => .inl q)
      clear hB2 hC2 HR HB HC
      have hbg : b ≠ g := fun e => hgb e.symm
      have HB3 : Hid _ := (((HB2.out.other (i := i * 4) (v := .int .u64 (F i 0)) hbg).other (i := i * 4 + 1) (v := .int .u64 (F i 1)) hbg).other (i := i * 4 + 2) (v := .int .u64 (F i 2)) hbg).other (i := i * 4 + 3) (v := .int .u64 (F i 3)) hbg
      have HC3 : Hid _ := Chg.st (i := i * 4 + 3) (v := .int .u64 (F i 3)) (.inr HD.out) (Chg.st (i := i * 4 + 2) (v := .int .u64 (F i 2)) (.inr HD.out) (Chg.st (i := i * 4 + 1) (v := .int .u64 (F i 1)) (.inr HD.out) (Chg.st (i := i * 4) (v := .int .u64 (F i 0)) (.inr HD.out) HC2.out)))
      have y0 := HR2.out.cell (i := i * 4) (by omega)
      have y1 := HR2.out.cell (i := i * 4 + 1) (by omega)
      have y2 := HR2.out.cell (i := i * 4 + 2) (by omega)
      have y3 := HR2.out.cell (i := i * 4 + 3) (by omega)
      have f0 := HR2.out.frozen (i * 4)
      have f1 := HR2.out.frozen (i * 4 + 1)
      have f2 := HR2.out.frozen (i * 4 + 2)
      have f3 := HR2.out.frozen (i * 4 + 3)
      clear HB2 HC2
      go_wp2
      go_roundw
      case rel => exact ⟨i + 1, hlt, by push_cast; rfl, wts_step F i c hlt HR2.out, HB3, HC3⟩
      case measure => simp [intOf]; omega
    · obtain rfl : i = c := by omega
      go_wp2
      go_ret
      exact ⟨g, rfl, HR.out, HD.out, HB.out, HC.out⟩
end Go.Proofs.YtpfeakdpckmcgaaDoor
