/-
  sandglassref18.crash, called; nothing old is turned.
-/
import Derived.Test.YtbkdjpialjbhnaaDMath
import Derived.Deep.QuietTactic
import Derived.BigQuiet
namespace Go.Proofs.Ytbkdjpialjbhnaa
open Go.RowKit
/-- A slice of n bytes of a table, 0 too, as a text. -/
theorem run_tab_string (P : Program) (t5 t33 t9 : TypeId) (h33 : P.underlying t33 = some (.slice t5)) (h5 : P.underlying t5 = some (.int .u8)) (h9 : P.underlying t9 = some .string) (w : World) (T : Nat → Nat) (n m b c : Nat) (h : TabN w b .u8 m T) (hn : n ≤ m) :
    (convert t33 t9 (.slice (some ⟨b, 0, none⟩) n c)).run P w = .ok (.string (mkS T n)) w := by
  rw [run_convert_bytes_string _ t33 t9 t5 _ _ _ h33 h5 h9]
  rw [run_bytesToString _ _ _ _ ((List.range n).map fun i => ((T i : Nat) : Int))]
  · have := foldl_push ((List.range n).map fun i => ((T i : Nat) : Int)) []
    rw [show (ByteArray.empty : ByteArray) = ⟨([] : List UInt8).toArray⟩ from rfl, this]
    unfold mkS
    simp
  · have := run_loadCells_list (P := P) (w := w) ⟨b, 0, none⟩ (((List.range n).map fun i => ((T i : Nat) : Int)).map (Value.int .u8)) (by
      intro j v hv
      have hj : j < n := by
        have := (List.getElem?_eq_some_iff.1 hv).1
        simpa using this
      have e : (((List.range n).map fun i => ((T i : Nat) : Int)).map (Value.int .u8))[j]? = some (.int .u8 ((T j : Nat) : Int)) := by simp [hj]
      rw [e] at hv
      have hadd : (⟨b, 0, none⟩ : Addr).add j = ⟨b, j, none⟩ := by unfold Addr.add; split <;> simp_all
      rw [hadd, ← hv]
      exact (h.2 j (by omega)).1)
    simpa using this
theorem dbyte_start (B : Nat → Nat) (K y i : Nat) : dbyte B K y y i = B i := if_neg (by omega)
theorem dbyte_keep {B : Nat → Nat} {K y m : Nat} (h : kept K y m = true) : dbyte B K y (m + 1) = dbyte B K y m := by
  funext i
  unfold dbyte
  by_cases e : i = m
  · subst e
    rw [if_neg (by rw [h]; simp), if_neg (by omega)]
  · by_cases q : y ≤ i ∧ i < m ∧ kept K y i = false
    · rw [if_pos q, if_pos ⟨q.1, by omega, q.2.2⟩]
    · rw [if_neg q, if_neg (fun r => q ⟨r.1, by omega, r.2.2⟩)]
theorem dbyte_drop {B : Nat → Nat} {K y m : Nat} (hm : y ≤ m) (h : kept K y m = false) : dbyte B K y (m + 1) = put (dbyte B K y m) m 0 := by
  funext i
  by_cases e : i = m
  · subst e
    rw [put_same]
    unfold dbyte
    rw [if_pos ⟨hm, by omega, h⟩]
  · rw [put_other _ _ e]
    unfold dbyte
    by_cases q : y ≤ i ∧ i < m ∧ kept K y i = false
    · rw [if_pos q, if_pos ⟨q.1, by omega, q.2.2⟩]
    · rw [if_neg q, if_neg (fun r => q ⟨r.1, by omega, r.2.2⟩)]
/-- The numbers of a round. -/
theorem cr_nums (a y S : Nat) (hya : y ≤ a) (ha : a < S) (hS : S ≤ 65536) : (0 : Int) ≤ (a : Int) ∧ (a : Int) < (S : Int) ∧ IntKind.i64.wrap ((a : Int) + 1) = (a : Int) + 1 ∧ ((a / 64 - y / 64 < 64 → (a : Int) / 64 - (y : Int) / 64 < 64) ∧ (¬ a / 64 - y / 64 < 64 → ¬ (a : Int) / 64 - (y : Int) / 64 < 64)) := by
  have hq : y / 64 ≤ a / 64 := Nat.div_le_div_right hya
  refine ⟨by omega, by omega, ?_, fun h => by omega, fun h => by omega⟩
  rw [IntKind.wrap_i64]; omega
theorem cr_bit (K q : Nat) (hK : K < 18446744073709551616) : (bits .and .u64 ((K : Int) / 2 ^ q) 1 == 1) = decide (K / 2 ^ q % 2 = 1) := by
  have e : (K : Int) / 2 ^ q = ((K / 2 ^ q : Nat) : Int) := by rw [Int.natCast_ediv, Int.natCast_pow]; rfl
  have := u64_and_nat (K / 2 ^ q) 1 (Nat.lt_of_le_of_lt (Nat.div_le_self _ _) hK) (by omega)
  rw [Nat.and_one_is_mod] at this
  rw [e, show (1 : Int) = ((1 : Nat) : Int) from rfl, this]
  by_cases h : K / 2 ^ q % 2 = 1
  · rw [h]; rfl
  · have h0 : K / 2 ^ q % 2 = 0 := by have : K / 2 ^ q % 2 < 2 := Nat.mod_lt _ (by decide); omega
    rw [h0]; rfl
theorem cr_meas {a S : Nat} (h : a < S) : S - (intOf (.int .i64 ((a : Int) + 1))).toNat < S - (intOf (.int .i64 (a : Int))).toNat := by simp [intOf]; omega
/-- A text and a number lie in block b, and may be written. -/
def C2 (w : World) (b : Nat) : Prop := w.cell? ⟨b, 0, none⟩ = some (.string ⟨#[]⟩) ∧ w.cell? ⟨b, 1, none⟩ = some (.int .i64 0) ∧ w.frozen? ⟨b, 0, none⟩ = false ∧ w.frozen? ⟨b, 1, none⟩ = false
theorem C2.st {w : World} {b c i : Nat} {v : Value} (h : C2 w b) (hne : c ≠ b) : C2 (w.setCell ⟨c, i, none⟩ v) b := by
  obtain ⟨h0, h1, h2, h3⟩ := h
  refine ⟨?_, ?_, by simpa using h2, by simpa using h3⟩
  · rw [World.cell?_setCell_far _ _ _ _ (fun q => hne q)]; exact h0
  · rw [World.cell?_setCell_far _ _ _ _ (fun q => hne q)]; exact h1
set_option maxHeartbeats 4000000 in
theorem rcrash_any (T : ByteArray) (y K : Nat) (hk : dOk T y) (hK : K < 18446744073709551616) (w : World) :
    Calls Try.prog 32 #[.agg #[.string T, .int .i64 (y : Int)], .int .u64 (K : Int)] w fun e w' => e = .returned (.agg #[.string (dcrash T K y), .int .i64 ((dcrash T K y).size : Int)]) ∧ Ext w w' := by
  obtain ⟨h1, h2⟩ := hk
  have HEw : Hid (Ext w ((w.alloc (.cells #[.string T, .int .i64 (y : Int)] 28)).alloc (.cells #[.string ⟨#[]⟩, .int .i64 0] 28))) := ((Ext.refl w).alloc _).alloc _
  obtain ⟨W0, hW0⟩ : ∃ W0, (w.alloc (.cells #[.string T, .int .i64 (y : Int)] 28)).alloc (.cells #[.string ⟨#[]⟩, .int .i64 0] 28) = W0 := ⟨_, rfl⟩
  have x0 : W0.cell? ⟨w.heap.size, 0, none⟩ = some (.string T) := by rw [← hW0]; simp
  have x1 : W0.cell? ⟨w.heap.size, 1, none⟩ = some (.int .i64 (y : Int)) := by rw [← hW0]; simp
  have x2 : W0.cell? ⟨w.heap.size + 1, 0, none⟩ = some (.string ⟨#[]⟩) := by rw [← hW0, World.cell?_alloc_at _ _ _ _ (by simp)]; rfl
  have x3 : W0.cell? ⟨w.heap.size + 1, 1, none⟩ = some (.int .i64 0) := by rw [← hW0, World.cell?_alloc_at _ _ _ _ (by simp)]; rfl
  have x4 : W0.frozen? ⟨w.heap.size + 1, 0, none⟩ = false := by rw [← hW0]; exact World.frozen?_alloc_at _ _ _ _ (by simp)
  have x5 : W0.frozen? ⟨w.heap.size + 1, 1, none⟩ = false := by rw [← hW0]; exact World.frozen?_alloc_at _ _ _ _ (by simp)
  have hz0 : W0.heap.size = w.heap.size + 2 := by rw [← hW0]; simp
  rw [hW0] at HEw
  have hsm : T.size ≤ maxLen := by unfold maxLen; omega
  have hcv := Lib.run_convert_string_bytes W0 9 67 5 T Try.underlying9 Try.underlying67 Try.underlying5
  have HX0 : Ext W0 (Lib.bytesWorld W0 5 T) := bytes_ext _ _ _
  have HO0 := bytes_own W0 5 T hsm
  obtain ⟨X, hX⟩ : ∃ X, Lib.bytesWorld W0 5 T = X := ⟨_, rfl⟩
  obtain ⟨c0, hc0⟩ : ∃ c0, grownCap W0 T.size 0 5 = c0 := ⟨_, rfl⟩
  rw [hX] at hcv HX0 HO0
  rw [hc0] at hcv HO0
  obtain ⟨g', cap', e, hb, hg, hcn, hm, hc, hf⟩ := HO0
  injection e with e0 _ e2
  injection e0 with e0
  injection e0 with e0 _ _
  have hc0n : T.size ≤ c0 := by omega
  have HT0 : Hid (TabN X W0.heap.size .u8 T.size (dbyte (sb T) K y y)) := by
    show TabN _ _ _ _ _
    rw [← e0] at hg hc hf
    rw [show dbyte (sb T) K y y = sb T from funext fun i => dbyte_start _ _ _ i]
    exact ⟨hg, fun k hk2 => ⟨hc k hk2, (hf k (by omega)).2⟩⟩
  have HG : SizeLe w W0.heap.size := by show w.heap.size ≤ W0.heap.size; omega
  have hlt0 : w.heap.size < W0.heap.size := by omega
  have hlt1 : w.heap.size + 1 < W0.heap.size := by omega
  have y0 := later HX0 x0
  have y1 := later HX0 x1
  have HC2 : Hid (X.cell? ⟨w.heap.size + 1, 0, none⟩ = some (.string ⟨#[]⟩) ∧ X.cell? ⟨w.heap.size + 1, 1, none⟩ = some (.int .i64 0) ∧ X.frozen? ⟨w.heap.size + 1, 0, none⟩ = false ∧ X.frozen? ⟨w.heap.size + 1, 1, none⟩ = false) := ⟨later HX0 x2, later HX0 x3, (HX0.cells.2 _ 0 hlt1).trans x4, (HX0.cells.2 _ 1 hlt1).trans x5⟩
  have HXX : Hid (Ext w X) := HEw.out.trans HX0
  have hgX : W0.heap.size < X.heap.size := by have := HT0.out.1; exact this
  clear x1 x2 x3 x4 x5 HX0 hX hc0 e0 e2 hb hg hcn hm hc hf HEw hz0
  obtain ⟨g, Hg⟩ : ∃ g, Hid (W0.heap.size = g) := ⟨_, rfl⟩
  obtain ⟨b0, Hb0⟩ : ∃ b0, Hid (w.heap.size = b0) := ⟨_, rfl⟩
  rw [Hg.out] at hcv HT0 HG hlt0 hlt1 hgX
  obtain ⟨S, HS⟩ : ∃ S, Hid (T.size = S) := ⟨_, rfl⟩
  have hS : T.size = S := HS.out
  rw [hS] at hcv HT0 h1 h2 hc0n
  have hy0 : (y : Int).tdiv 64 = ((y / 64 : Nat) : Int) := rfl
  have hy1 : IntKind.i64.wrap ((y / 64 : Nat) : Int) = ((y / 64 : Nat) : Int) := by rw [IntKind.wrap_i64]; omega
  go_enter Try.func32, Try.ntmps32
  go_wp2_with fail
  go_loopw [7, 8] (fun u7 u8 wr => ∃ a : Nat, y ≤ a ∧ a ≤ S ∧ u8 = .int .i64 a ∧ u7 = .int .i64 (dendF K y (a - y)) ∧ TabN wr g .u8 S (dbyte (sb T) K y a) ∧ Hid (Ext w wr) ∧ Hid (C2 wr (w.heap.size + 1)) ∧ g < wr.heap.size) (fun _ u8 _ => S - (intOf u8).toNat)
  case atStart => exact ⟨y, Nat.le_refl _, h1, rfl, by rw [Nat.sub_self]; rfl, HT0.out, HXX, HC2, hgX⟩
  case round =>
    obtain ⟨a, hya, haS, rfl, rfl, HT, HE, HC, hgr⟩ := hrel
    clear HT0 HXX HC2 hgX hcv y0 y1
    by_cases hlt : a < S
    · obtain ⟨n0, n1, n2, n6, n7⟩ := cr_nums a y S hya hlt h2
      obtain ⟨gp, gfz⟩ := HT.2 a hlt
      have Hd : Hid (dendF K y (a + 1 - y) = if kept K y a = true then a + 1 else dendF K y (a - y)) := by
        show _ = _
        rw [show a + 1 - y = (a - y) + 1 from by omega]
        show (if kept K y (y + (a - y)) = true then y + (a - y) + 1 else _) = _
        rw [show y + (a - y) = a from by omega]
      have hbq := cr_bit K (a / 64 - y / 64) hK
      by_cases h64 : a / 64 - y / 64 < 64
      · have m1 := n6 h64
        have hkq : kept K y a = decide (K / 2 ^ (a / 64 - y / 64) % 2 = 1) := by unfold kept; simp [h64]
        by_cases hbit : K / 2 ^ (a / 64 - y / 64) % 2 = 1
        · have hkt : kept K y a = true := by rw [hkq]; exact decide_eq_true hbit
          rw [decide_eq_true hbit] at hbq
          clear hkq hbit n6 n7
          rw [hkt, if_pos rfl] at Hd
          have HTn : Hid (TabN wr g .u8 S (dbyte (sb T) K y (a + 1))) := by show TabN _ _ _ _ _; rw [dbyte_keep hkt]; exact HT
          clear hkt HT gp
          go_wp2
          go_roundw
          case rel => exact ⟨a + 1, by omega, hlt, by push_cast; rfl, by rw [Hd.out]; push_cast; rfl, HTn.out, HE, HC, hgr⟩
          case measure => exact cr_meas hlt
        · have hkt : kept K y a = false := by rw [hkq]; exact decide_eq_false hbit
          rw [decide_eq_false hbit] at hbq
          clear hkq hbit n6 n7
          rw [hkt, if_neg (by decide)] at Hd
          have HTn : Hid (TabN (wr.setCell ⟨g, a, none⟩ (.int .u8 0)) g .u8 S (dbyte (sb T) K y (a + 1))) := by
            show TabN _ _ _ _ _
            rw [dbyte_drop hya hkt]
            exact HT.set a 0
          have HEn : Hid (Ext w (wr.setCell ⟨g, a, none⟩ (.int .u8 0))) := Ext.st HG HE.out
          have HCn : Hid (C2 (wr.setCell ⟨g, a, none⟩ (.int .u8 0)) (w.heap.size + 1)) := HC.out.st (by omega)
          clear hkt HT HE HC
          go_wp2
          go_roundw
          case rel => exact ⟨a + 1, by omega, hlt, by push_cast; rfl, by rw [Hd.out], HTn.out, HEn, HCn, by simpa using hgr⟩
          case measure => exact cr_meas hlt
      · have m1 := n7 h64
        have hkt : kept K y a = false := by unfold kept; simp [h64]
        clear n6 n7 hbq
        rw [hkt, if_neg (by decide)] at Hd
        have HTn : Hid (TabN (wr.setCell ⟨g, a, none⟩ (.int .u8 0)) g .u8 S (dbyte (sb T) K y (a + 1))) := by
          show TabN _ _ _ _ _
          rw [dbyte_drop hya hkt]
          exact HT.set a 0
        have HEn : Hid (Ext w (wr.setCell ⟨g, a, none⟩ (.int .u8 0))) := Ext.st HG HE.out
        have HCn : Hid (C2 (wr.setCell ⟨g, a, none⟩ (.int .u8 0)) (w.heap.size + 1)) := HC.out.st (by omega)
        clear hkt HT HE HC
        go_wp2
        go_roundw
        case rel => exact ⟨a + 1, by omega, hlt, by push_cast; rfl, by rw [Hd.out], HTn.out, HEn, HCn, by simpa using hgr⟩
        case measure => exact cr_meas hlt
    · obtain rfl : a = S := by omega
      have hnl : ¬ (a : Int) < (a : Int) := by omega
      obtain ⟨E, HEe⟩ : ∃ E, Hid (dendF K y (a - y) = E) := ⟨_, rfl⟩
      have hE : E ≤ a := by have := (dendF_le K y (a - y)).2; rw [HEe.out] at this; omega
      have HR : Hid (dcrash T K y = mkS (dbyte (sb T) K y a) E) := by show dcrash T K y = _; unfold dcrash; rw [HS.out, HEe.out]
      have HRz : Hid ((dcrash T K y).size = E) := by show (dcrash T K y).size = _; rw [HR.out, mkS_len]
      have hcs := run_tab_string Try.prog 5 67 9 Try.underlying67 Try.underlying5 Try.underlying9 wr (dbyte (sb T) K y a) E a g c0 HT hE
      have e1 : (0 : Int) ≤ (E : Int) := by omega
      have e2 : (E : Int) ≤ (c0 : Int) := by omega
      obtain ⟨z0, z1, z2, z3⟩ := HC.out
      have hb1 : w.heap.size + 1 < wr.heap.size := by omega
      rw [HEe.out]
      obtain ⟨RR, HRR⟩ : ∃ RR, Hid (mkS (dbyte (sb T) K y a) E = RR) := ⟨_, rfl⟩
      rw [HRR.out] at hcs
      clear HT HC
      go_wp2
      refine bodyPost_ret (v := .agg #[.string RR, .int .i64 (E : Int)]) (by simp [results, Try.results32, go_sem, z0, z1]) rfl ⟨by rw [HRz.out, HR.out, HRR.out], Ext.st (by omega) (Ext.st (by omega) HE.out)⟩
end Go.Proofs.Ytbkdjpialjbhnaa
