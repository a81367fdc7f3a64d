/-
  What a tag is made of, as the program writes it: writeLength, told.
-/
import Derived.Test.YtbcgipapbamgfaaDoorAMath
import Derived.Test.YtbcgipapbamgfaaDoorBld
import Derived.Test.YtbcgipapbamgfaaDoorCFace
namespace Go.Proofs.YtbcgipapbamgfaaDoor
open Go.RowKit
/-- A builder in block b that holds bs; all below b is as it was. -/
def TI (b : Nat) (w wr : World) (bs : List Value) : Prop := Lib.BuilderAt 59 5 b b (.pointer (some ⟨b, 0, none⟩)) bs wr ∧ Below b w wr ∧ b ≤ wr.heap.size
theorem TI.step {b : Nat} {w wr w2 : World} {bs cs : List Value} (h : TI b w wr bs) (hb : Lib.BuilderAt 59 5 b b (.pointer (some ⟨b, 0, none⟩)) cs w2) (hx : Below b wr w2) : TI b w w2 cs :=
  ⟨hb, h.2.1.trans hx, Nat.le_trans h.2.2 hx.size⟩
theorem lst_zero (k : IntKind) (T : Nat → Nat) : lst k T 0 = [] := rfl
theorem len_byte2 (n i : Nat) (hn : n ≤ 100000) (hi : i < 8) : ∃ k x v : Nat, IntKind.i64.wrap (8 * (i : Int)) = (k : Int) ∧ (k : Int) < 64 ∧ (0 : Int) ≤ (k : Int) ∧ k < 64 ∧ (n : Int) / 2 ^ k = (x : Int) ∧ IntKind.u64.wrap (x : Int) = (x : Int) ∧ IntKind.u8.wrap (x : Int) = (v : Int) ∧ lenB n i = v := by
  refine ⟨8 * i, n / 2 ^ (8 * i), n / 2 ^ (8 * i) % 256, ?_, by omega, by omega, by omega, ?_, ?_, ?_, rfl⟩
  · rw [IntKind.wrap_i64]; omega
  · rw [Int.natCast_ediv, Int.natCast_pow]; rfl
  · have h : n / 2 ^ (8 * i) ≤ n := Nat.div_le_self _ _
    generalize n / 2 ^ (8 * i) = x at h ⊢
    rw [IntKind.wrap_u64]; omega
  · generalize n / 2 ^ (8 * i) = x
    rw [IntKind.wrap_u8]; omega
set_option maxRecDepth 10000 in
set_option maxHeartbeats 1000000 in
/-- writeLength: a text's length in 8 bytes, the lowest first, behind what the builder holds. -/
theorem wlen_any (b : Nat) (bs : List Value) (s : ByteArray) (w0 w : World) (hs : s.size ≤ 100000) (hl : bs.length ≤ 1000000) (h : TI b w0 w bs) :
    Calls Tryd.prog 46 #[.pointer (some ⟨b, 0, none⟩), .string s] w fun e w' => e = .returned (.tuple #[]) ∧ TI b w0 w' (bs ++ lst .u8 (lenB s.size) 8) := by
  have HI0 : Hid (TI b w0 w (bs ++ lst .u8 (lenB s.size) 0)) := by rw [lst_zero, List.append_nil]; exact h
  clear h
  obtain ⟨n, hn⟩ : ∃ n, s.size = n := ⟨_, rfl⟩
  have c1 : IntKind.u64.wrap (n : Int) = (n : Int) := by rw [IntKind.wrap_u64]; omega
  have HB : Hid (∀ i, i < 8 → _) := fun i hi => len_byte2 n i (by omega) hi
  rw [hn] at HI0 ⊢
  go_enter Tryd.func46, Tryd.ntmps46
  go_wp2_with fail
  go_loopw [9] (fun u9 wr => ∃ (i : Nat), i ≤ 8 ∧ u9 = .int .i64 i ∧ Hid (TI b w0 wr (bs ++ lst .u8 (lenB n) i))) (fun u9 _ => 8 - (intOf u9).toNat)
  case atStart => exact ⟨0, by omega, rfl, HI0⟩
  case round =>
    clear HI0
    obtain ⟨i, hi8, rfl, HI⟩ := hrel
    by_cases hlt : i < 8
    · have hi1 : (i : Int) < 8 := by omega
      obtain ⟨k, x, v, e1, e3, e4, e5, e6, e7, e8, e9⟩ := HB.out i hlt
      have HV : Hid (lenB n i = v) := e9
      clear e9
      have HC := bbyte_any b b _ (v : Int) wr (Or.inr HI.out.1) (by rw [List.length_append, lst_len]; omega) HI.out.2.2
      go_wp2_with fail
      refine HC.mono ?_
      rintro e w2 ⟨rfl, HB2, HE2⟩
      have HI2 : Hid (TI b w0 w2 (bs ++ lst .u8 (lenB n) (i + 1))) := by
        rw [lst_succ, HV.out, ← List.append_assoc]
        exact HI.out.step HB2 HE2
      clear HC HI HB2 HE2
      go_wp2
      go_roundw
      case rel => exact ⟨i + 1, hlt, by go_num, HI2⟩
      case measure => simp [intOf]; omega
    · have HI8 : Hid (i = 8) := (by omega : i = 8)
      have hni : ¬ (i : Int) < 8 := by omega
      rw [HI8.out] at HI
      go_wp2
      go_end0
      exact ⟨rfl, HI.out⟩
/-- A part of it: a text, and 0s to a multiple of 16. -/
def seg (p : ByteArray) : List Value := Lib.strCells p ++ lst .u8 (fun _ => 0) (z16 p.size)
def tl (more s : ByteArray) : Nat → List Value
  | 0 => []
  | 1 => seg more
  | _ => seg more ++ seg s
theorem tl_step0 (more s : ByteArray) : tl more s 1 = tl more s 0 ++ (Lib.strCells more ++ lst .u8 (fun _ => 0) (z16 more.size)) := rfl
theorem tl_step1 (more s : ByteArray) : tl more s 2 = tl more s 1 ++ (Lib.strCells s ++ lst .u8 (fun _ => 0) (z16 s.size)) := rfl
theorem seg_len (p : ByteArray) : (seg p).length = p.size + z16 p.size := by unfold seg; rw [List.length_append, lst_len, Lib.strCells_length]
theorem tl_len (more s : ByteArray) (k : Nat) (h1 : more.size ≤ 3000) (h2 : s.size ≤ 3000) : (tl more s k).length ≤ 10000 := by
  have := z16_lt more.size
  have := z16_lt s.size
  match k with
  | 0 => exact Nat.zero_le _
  | 1 => show (seg more).length ≤ _; rw [seg_len]; omega
  | _ + 2 => show (seg more ++ seg s).length ≤ _; rw [List.length_append, seg_len, seg_len]; omega
theorem strCells_mk {T : Nat → Nat} (hT : ∀ i, T i < 256) (n : Nat) : Lib.strCells (mkS T n) = lst .u8 T n := (lst_bytes hT n).symm
theorem strCells_app (x y : ByteArray) : Lib.strCells (x ++ y) = Lib.strCells x ++ Lib.strCells y := by
  unfold Lib.strCells
  rw [ByteArray.data_append, Array.toList_append, List.map_append]
/-- All of it. -/
theorem told_cells (more s : ByteArray) : tl more s 2 ++ lst .u8 (lenB more.size) 8 ++ lst .u8 (lenB s.size) 8 = Lib.byteCells (toldS more s).data.toList := by
  show _ = Lib.strCells (toldS more s)
  unfold toldS zS lenS
  simp only [strCells_app, strCells_mk (fun _ => (by decide : (0 : Nat) < 256)), strCells_mk (lenB_lt _)]
  show seg more ++ seg s ++ _ ++ _ = _
  unfold seg
  simp only [List.append_assoc]
theorem idx2_0 (x y : ByteArray) (w : World) : Sem.run Tryd.prog (Instr.index 82 (.agg #[.string x, .string y]) (.int .i64 0)) w = .ok (.string x) w := by kernel_rfl
theorem idx2_1 (x y : ByteArray) (w : World) : Sem.run Tryd.prog (Instr.index 82 (.agg #[.string x, .string y]) (.int .i64 1)) w = .ok (.string y) w := by kernel_rfl
set_option maxRecDepth 10000 in
set_option maxHeartbeats 2000000 in
/-- told: all that a tag is made of. -/
theorem told_any (more s : ByteArray) (h1 : more.size ≤ 3000) (h2 : s.size ≤ 3000) (w : World) :
    Calls Tryd.prog 24 #[.string s, .string more] w fun e w' => e = .returned (.string (toldS more s)) ∧ Ext w w' := by
  obtain ⟨L, hL⟩ : ∃ L, more.size + s.size + 48 = L := ⟨_, rfl⟩
  have g1 : IntKind.i64.wrap ((more.size : Int) + (s.size : Int)) = ((more.size + s.size : Nat) : Int) := by rw [IntKind.wrap_i64]; omega
  have g2 : IntKind.i64.wrap (((more.size + s.size : Nat) : Int) + 32) = ((more.size + s.size + 32 : Nat) : Int) := by rw [IntKind.wrap_i64]; omega
  have g3 : IntKind.i64.wrap (((more.size + s.size + 32 : Nat) : Int) + 16) = (L : Int) := by rw [IntKind.wrap_i64]; omega
  generalize ((more.size + s.size : Nat) : Int) = q1 at *
  generalize ((more.size + s.size + 32 : Nat) : Int) = q2 at *
  have hbk : (w.alloc (Obj.cells #[.pointer none, .slice none 0 0] 59)).heap[w.heap.size]? = some (.cells #[.pointer none, .slice none 0 0] 59 (0, 0)) := heap_alloc_new w _
  have HC := bgrow_fresh w.heap.size w.heap.size L _ (Nat.le_refl _) hbk (by simp) (by omega)
  have HE0 : Hid (Ext w (w.alloc (Obj.cells #[.pointer none, .slice none 0 0] 59))) := (Ext.refl w).alloc _
  have Hb : Hid (w.heap.size ≤ (w.alloc (Obj.cells #[.pointer none, .slice none 0 0] 59)).heap.size) := HE0.out.size
  clear hbk hL
  go_enter Tryd.func24, Tryd.ntmps24
  go_wp2_with fail
  refine HC.mono ?_
  rintro e w1 ⟨rfl, HB1, HE1⟩
  clear HC g1 g2 g3
  generalize w.alloc (Obj.cells #[.pointer none, .slice none 0 0] 59) = w0 at *
  have HF : Hid (∀ wr, Below w.heap.size w0 wr → Ext w wr) := fun wr h => Below.trans HE0.out h
  generalize w.heap.size = b at *
  have HI0 : Hid (TI b w0 w1 (tl more s 0)) := ⟨HB1, HE1, Nat.le_trans Hb.out HE1.size⟩
  clear HB1 HE1 HE0 Hb
  go_wp2_with fail
  go_loopw [20] (fun u20 wr => ∃ (k : Nat), k ≤ 2 ∧ u20 = .int .i64 k ∧ Hid (TI b w0 wr (tl more s k))) (fun u20 _ => 2 - (intOf u20).toNat)
  case atStart => exact ⟨0, by decide, rfl, HI0⟩
  case round =>
    clear HI0
    obtain ⟨k, hk2, rfl, HI⟩ := hrel
    by_cases hlt : k < 2
    · obtain rfl | rfl : k = 0 ∨ k = 1 := by omega
      · obtain ⟨n, hn⟩ : ∃ n, more.size = n := ⟨_, rfl⟩
        have hz : n ≤ 3000 := by omega
        have HN : Hid (more.size = n) := hn
        have HC := bwrites_any b b _ more wr (Or.inr HI.out.1) (by have := tl_len more s 0 h1 h2; omega) HI.out.2.2
        have hix := idx2_0 more s wr
        rw [hn] at HC
        clear hn
        go_wp2_with fail
        refine HC.mono ?_
        rintro e w2 ⟨rfl, HB2, HE2⟩
        have HI2 : Hid (TI b w0 w2 (tl more s 0 ++ Lib.strCells more ++ lst .u8 (fun _ => 0) 0)) := by
          rw [lst_zero, List.append_nil]
          exact HI.out.step HB2 HE2
        clear HC HI HB2 HE2
        go_wp2_with fail
        go_loopw [8] (fun u8 wq => ∃ (j t : Nat), j ≤ z16 n ∧ n + j = t ∧ u8 = .int .i64 (t : Int) ∧ Hid (TI b w0 wq (tl more s 0 ++ Lib.strCells more ++ lst .u8 (fun _ => 0) j))) (fun u8 _ => n + 16 - (intOf u8).toNat)
        case atStart => exact ⟨0, n, Nat.zero_le _, rfl, by rw [HN.out], HI2⟩
        case round =>
          clear HI2
          obtain ⟨j, t, hj, ht, rfl, HI⟩ := hrel
          have hj16 := z16_lt n
          obtain ⟨r, hr⟩ : ∃ r, t % 16 = r := ⟨_, rfl⟩
          have e1 : (t : Int).tmod 16 = (r : Int) := by rw [← hr]; rfl
          have e2 : IntKind.i64.wrap (r : Int) = (r : Int) := by rw [IntKind.wrap_i64]; omega
          by_cases hr0 : r = 0
          · have HJ : Hid (j = z16 n) := by show j = z16 n; unfold z16 at *; omega
            have HI3 : Hid (TI b w0 wr (tl more s 1)) := by
              rw [tl_step0, HN.out, ← HJ.out, ← List.append_assoc]
              exact HI.out
            have hr1 : (r : Int) = 0 := by omega
            clear HJ HI hj ht hr hr0 hj16 e2
            go_wp2
            go_roundw
            case rel => exact ⟨1, by decide, rfl, HI3⟩
            case measure => simp [intOf]
          · have HJ : Hid (j + 1 ≤ z16 n) := by show j + 1 ≤ z16 n; unfold z16 at *; omega
            have hr1 : ¬ (r : Int) = 0 := by omega
            have HC := bbyte_any b b _ 0 wr (Or.inr HI.out.1) (by have := tl_len more s 0 h1 h2; have := HN.out; rw [List.length_append, List.length_append, lst_len, Lib.strCells_length]; omega) HI.out.2.2
            have e3 : IntKind.i64.wrap ((t : Int) + 1) = ((t + 1 : Nat) : Int) := by rw [IntKind.wrap_i64]; omega
            clear hr hr0 hj
            go_wp2_with fail
            refine HC.mono ?_
            rintro e w3 ⟨rfl, HB3, HE3⟩
            have HI3 : Hid (TI b w0 w3 (tl more s 0 ++ Lib.strCells more ++ lst .u8 (fun _ => 0) (j + 1))) := by
              rw [lst_succ, ← List.append_assoc]
              exact HI.out.step HB3 HE3
            clear HC HI HB3 HE3
            go_wp2
            go_roundw
            case rel => exact ⟨j + 1, t + 1, HJ.out, by omega, rfl, HI3⟩
            case measure =>
              have := HJ.out
              simp [intOf]
              omega
      · obtain ⟨n, hn⟩ : ∃ n, s.size = n := ⟨_, rfl⟩
        have hz : n ≤ 3000 := by omega
        have HN : Hid (s.size = n) := hn
        have HC := bwrites_any b b _ s wr (Or.inr HI.out.1) (by have := tl_len more s 1 h1 h2; omega) HI.out.2.2
        have hix := idx2_1 more s wr
        rw [hn] at HC
        clear hn
        go_wp2_with fail
        refine HC.mono ?_
        rintro e w2 ⟨rfl, HB2, HE2⟩
        have HI2 : Hid (TI b w0 w2 (tl more s 1 ++ Lib.strCells s ++ lst .u8 (fun _ => 0) 0)) := by
          rw [lst_zero, List.append_nil]
          exact HI.out.step HB2 HE2
        clear HC HI HB2 HE2
        go_wp2_with fail
        go_loopw [8] (fun u8 wq => ∃ (j t : Nat), j ≤ z16 n ∧ n + j = t ∧ u8 = .int .i64 (t : Int) ∧ Hid (TI b w0 wq (tl more s 1 ++ Lib.strCells s ++ lst .u8 (fun _ => 0) j))) (fun u8 _ => n + 16 - (intOf u8).toNat)
        case atStart => exact ⟨0, n, Nat.zero_le _, rfl, by rw [HN.out], HI2⟩
        case round =>
          clear HI2
          obtain ⟨j, t, hj, ht, rfl, HI⟩ := hrel
          have hj16 := z16_lt n
          obtain ⟨r, hr⟩ : ∃ r, t % 16 = r := ⟨_, rfl⟩
          have e1 : (t : Int).tmod 16 = (r : Int) := by rw [← hr]; rfl
          have e2 : IntKind.i64.wrap (r : Int) = (r : Int) := by rw [IntKind.wrap_i64]; omega
          by_cases hr0 : r = 0
          · have HJ : Hid (j = z16 n) := by show j = z16 n; unfold z16 at *; omega
            have HI3 : Hid (TI b w0 wr (tl more s 2)) := by
              rw [tl_step1, HN.out, ← HJ.out, ← List.append_assoc]
              exact HI.out
            have hr1 : (r : Int) = 0 := by omega
            clear HJ HI hj ht hr hr0 hj16 e2
            go_wp2
            go_roundw
            case rel => exact ⟨2, by decide, rfl, HI3⟩
            case measure => simp [intOf]
          · have HJ : Hid (j + 1 ≤ z16 n) := by show j + 1 ≤ z16 n; unfold z16 at *; omega
            have hr1 : ¬ (r : Int) = 0 := by omega
            have HC := bbyte_any b b _ 0 wr (Or.inr HI.out.1) (by have := tl_len more s 1 h1 h2; have := HN.out; rw [List.length_append, List.length_append, lst_len, Lib.strCells_length]; omega) HI.out.2.2
            have e3 : IntKind.i64.wrap ((t : Int) + 1) = ((t + 1 : Nat) : Int) := by rw [IntKind.wrap_i64]; omega
            clear hr hr0 hj
            go_wp2_with fail
            refine HC.mono ?_
            rintro e w3 ⟨rfl, HB3, HE3⟩
            have HI3 : Hid (TI b w0 w3 (tl more s 1 ++ Lib.strCells s ++ lst .u8 (fun _ => 0) (j + 1))) := by
              rw [lst_succ, ← List.append_assoc]
              exact HI.out.step HB3 HE3
            clear HC HI HB3 HE3
            go_wp2
            go_roundw
            case rel => exact ⟨j + 1, t + 1, HJ.out, by omega, rfl, HI3⟩
            case measure =>
              have := HJ.out
              simp [intOf]
              omega
    · have HK : Hid (k = 2) := (by omega : k = 2)
      have hni : ¬ (k : Int) < 2 := by omega
      rw [HK.out] at HI
      have hl2 : (tl more s 2).length ≤ 1000000 := Nat.le_trans (tl_len more s 2 h1 h2) (by decide)
      have HCm := wlen_any b _ more w0 wr (by omega) hl2 HI.out
      clear HI hlt HK
      go_wp2_with fail
      refine HCm.mono ?_
      rintro e w2 ⟨rfl, HI2⟩
      have HCs := wlen_any b _ s w0 w2 (by omega) (by rw [List.length_append, lst_len]; have := tl_len more s 2 h1 h2; omega) HI2
      clear HCm HI2 hl2
      go_wp2_with fail
      refine HCs.mono ?_
      rintro e w3 ⟨rfl, HI3⟩
      rw [told_cells] at HI3
      have HCt := bstring_any b b _ w3 (Or.inr HI3.1) HI3.2.2
      have HE3 : Hid (Ext w w3) := HF.out _ HI3.2.1
      have HE3b : Hid (Below b w0 w3) := HI3.2.1
      clear HCs HI3
      go_wp2_with fail
      refine HCt.mono ?_
      rintro e w4 ⟨rfl, HX4⟩
      have HE4 : Hid (Ext w w4) := HF.out _ (HE3b.out.trans HX4)
      have HS : Hid ((⟨(toldS more s).data.toList.toArray⟩ : ByteArray) = toldS more s) := by show _ = _; rw [Array.toArray_toList]
      generalize (⟨(toldS more s).data.toList.toArray⟩ : ByteArray) = SS at *
      clear HX4 HCt
      go_wp2
      go_ret
      exact ⟨by rw [← HS.out]; rfl, HE4.out⟩
end Go.Proofs.YtbcgipapbamgfaaDoor
