/-
  wire.writeLength, Texts, Text, called; nothing old is turned.
-/
import Derived.Test.YtbkdjpialjbhnaaBld
import Derived.Deep.Heap
namespace Go.Proofs.Ytbkdjpialjbhnaa
open Go.RowKit
/-- Texts, one behind the other. -/
def txN (L : Nat → ByteArray) (n : Nat) : ByteArray := txs (lsT L n)
theorem txN_succ (L : Nat → ByteArray) (n : Nat) : txN L (n + 1) = txN L n ++ txt (L n) := by unfold txN; rw [lsT_succ, txs_snoc]
theorem txN_size (L : Nat → ByteArray) (n : Nat) : (txN L (n + 1)).size = (txN L n).size + ((L n).size + 4) := by rw [txN_succ, ByteArray.size_append, txt_size]
theorem txN_mono (L : Nat → ByteArray) {k n : Nat} (h : k ≤ n) : (txN L k).size ≤ (txN L n).size := by
  induction n with
  | zero => obtain rfl : k = 0 := by omega
            exact Nat.le_refl _
  | succ n ih =>
    by_cases e : k = n + 1
    · subst e; exact Nat.le_refl _
    · have := ih (by omega); rw [txN_size]; omega
theorem txN_len (L : Nat → ByteArray) (n : Nat) : n * 4 ≤ (txN L n).size := by
  induction n with
  | zero => omega
  | succ n ih => rw [txN_size]; omega
/-- A builder in block b that holds bs; all below b is as it was. -/
def TI (b : Nat) (w wr : World) (bs : List Value) : Prop := Lib.BuilderAt 84 5 b b (.pointer (some ⟨b, 0, none⟩)) bs wr ∧ Below b w wr ∧ b ≤ wr.heap.size
theorem TI.step {b : Nat} {w wr w2 : World} {bs cs : List Value} (h : TI b w wr bs) (hb : Lib.BuilderAt 84 5 b b (.pointer (some ⟨b, 0, none⟩)) cs w2) (hx : Below b wr w2) : TI b w w2 cs :=
  ⟨hb, h.2.1.trans hx, Nat.le_trans h.2.2 hx.size⟩
theorem lst_zero (k : IntKind) (T : Nat → Nat) : lst k T 0 = [] := rfl
/-- Byte i of four, the highest first. -/
def beT (n i : Nat) : Nat := n / 256 ^ (3 - i) % 256
theorem be_byte (n i : Nat) (hn : n ≤ 200000) (hi : i < 4) : ∃ k x v : Nat, (3 : Int) - (i : Int) = ((3 - i : Nat) : Int) ∧ IntKind.i64.wrap ((3 - i : Nat) : Int) = ((3 - i : Nat) : Int) ∧ IntKind.i64.wrap (8 * ((3 - i : Nat) : Int)) = (k : Int) ∧ (k : Int) < 32 ∧ (0 : Int) ≤ (k : Int) ∧ k < 32 ∧ (n : Int) / 2 ^ k = (x : Int) ∧ IntKind.u32.wrap (x : Int) = (x : Int) ∧ IntKind.u8.wrap (x : Int) = (v : Int) ∧ beT n i = v := by
  refine ⟨8 * (3 - i), n / 2 ^ (8 * (3 - i)), n / 2 ^ (8 * (3 - i)) % 256, by omega, ?_, ?_, by omega, by omega, by omega, ?_, ?_, ?_, ?_⟩
  · rw [IntKind.wrap_i64]; omega
  · rw [IntKind.wrap_i64]; omega
  · rw [Int.natCast_ediv, Int.natCast_pow]; rfl
  · have h : n / 2 ^ (8 * (3 - i)) ≤ n := Nat.div_le_self _ _
    generalize n / 2 ^ (8 * (3 - i)) = x at h ⊢
    rw [IntKind.wrap_u32']; omega
  · generalize n / 2 ^ (8 * (3 - i)) = x
    rw [IntKind.wrap_u8]; omega
  · unfold beT; rw [show (256 : Nat) = 2 ^ 8 from rfl, ← Nat.pow_mul]
set_option maxHeartbeats 1000000 in
/-- writeLength: a length in 4 bytes, the highest first, behind what the builder holds. -/
theorem wlen_any (b : Nat) (bs : List Value) (n : Nat) (w0 w : World) (hn : n ≤ 200000) (hl : bs.length ≤ 1000000) (h : TI b w0 w bs) :
    Calls Try.prog 45 #[.pointer (some ⟨b, 0, none⟩), .int .u32 (n : Int)] w fun e w' => e = .returned (.tuple #[]) ∧ TI b w0 w' (bs ++ lst .u8 (beT n) 4) := by
  have HI0 : Hid (TI b w0 w (bs ++ lst .u8 (beT n) 0)) := by rw [lst_zero, List.append_nil]; exact h
  clear h
  have HB : Hid (∀ i, i < 4 → _) := fun i hi => be_byte n i hn hi
  go_enter Try.func45, Try.ntmps45
  go_wp2_with fail
  go_loopw [5] (fun u5 wr => ∃ (i : Nat), i ≤ 4 ∧ u5 = .int .i64 i ∧ Hid (TI b w0 wr (bs ++ lst .u8 (beT n) i))) (fun u5 _ => 4 - (intOf u5).toNat)
  case atStart => exact ⟨0, by omega, rfl, HI0⟩
  case round =>
    clear HI0
    obtain ⟨i, hi8, rfl, HI⟩ := hrel
    by_cases hlt : i < 4
    · have hi1 : (i : Int) < 4 := by omega
      have hw1 : IntKind.i64.wrap ((i : Int) + 1) = (i : Int) + 1 := by rw [IntKind.wrap_i64]; omega
      obtain ⟨k, x, v, e0, e00, e1, e3, e4, e5, e6, e7, e8, e9⟩ := HB.out i hlt
      generalize ((3 - i : Nat) : Int) = d at *
      have HV : Hid (beT n i = v) := e9
      clear e9
      have HC := bbyte_any b b _ (v : Int) wr (Or.inr HI.out.1) (by rw [List.length_append, lst_len]; omega) HI.out.2.2
      go_wp2_with fail
      refine HC.mono ?_
      rintro e w2 ⟨rfl, HB2, HE2⟩
      have HI2 : Hid (TI b w0 w2 (bs ++ lst .u8 (beT n) (i + 1))) := by
        rw [lst_succ, HV.out, ← List.append_assoc]
        exact HI.out.step HB2 HE2
      clear HC HI HB2 HE2
      go_wp2
      go_roundw
      case rel => exact ⟨i + 1, hlt, by push_cast; rfl, HI2⟩
      case measure => simp [intOf]; omega
    · have HI8 : Hid (i = 4) := (by omega : i = 4)
      have hni : ¬ (i : Int) < 4 := by omega
      rw [HI8.out] at HI
      go_wp2
      go_end0
      exact ⟨rfl, HI.out⟩
theorem strCells_app (x y : ByteArray) : Lib.strCells (x ++ y) = Lib.strCells x ++ Lib.strCells y := by
  unfold Lib.strCells
  rw [ByteArray.data_append, Array.toList_append, List.map_append]
theorem strCells_be4 (n : Nat) : Lib.strCells (be4 n) = lst .u8 (beT n) 4 := by
  unfold Lib.strCells be4
  rw [mkS_list]
  simp only [List.map_map]
  unfold lst
  apply List.map_congr_left
  intro i _
  simp [beT]
theorem strCells_txt (s : ByteArray) (bs : List Value) : bs ++ lst .u8 (beT s.size) 4 ++ Lib.strCells s = bs ++ Lib.strCells (txt s) := by
  unfold txt
  rw [strCells_app, strCells_be4, List.append_assoc]
set_option maxHeartbeats 1000000 in
theorem wtexts_big (v : Value) (n : Nat) (L : Nat → ByteArray) (hz : (txN L n).size ≤ 200000) (w : World) (hL : LiesT w v n L) :
    Calls Try.prog 42 #[v] w fun e w' => e = .returned (.string (txN L n)) ∧ Ext w w' := by
  obtain ⟨a, cap, rfl, hc⟩ := hL
  have hn : n ≤ 50000 := by have := txN_len L n; omega
  have HC : Hid (0 < n → ∃ b o, a = some ⟨b, o, none⟩ ∧ b < w.heap.size ∧ ∀ k, k < n * 1 → w.cell? ⟨b, o + k, none⟩ = some (.string (L k))) := hc
  have HZ : Hid (∀ k, k < n → (txN L k).size + ((L k).size + 4) ≤ 200000) := fun k hk => by
    have := txN_mono L (show k + 1 ≤ n from hk); rw [txN_size] at this; omega
  obtain ⟨S, HS⟩ : ∃ S, Hid ((txN L n).size = S) := ⟨_, rfl⟩
  have hS : S ≤ 200000 := by rw [← HS.out]; exact hz
  clear hc hz
  go_enter Try.func42, Try.ntmps42
  go_wp2_with fail
  go_loopw [3, 11] (fun u3 u11 wr => ∃ k : Nat, k ≤ n ∧ u11 = .int .i64 k ∧ u3 = .int .i64 ((txN L k).size : Nat) ∧ wr = w) (fun _ u11 _ => n - (intOf u11).toNat)
  case atStart => exact ⟨0, Nat.zero_le _, rfl, rfl, rfl⟩
  case round =>
    obtain ⟨k, hk, rfl, rfl, rfl⟩ := hrel
    by_cases hlt : k < n
    · obtain ⟨b, o, rfl, hb, hcell⟩ := HC.out (by omega)
      have hz := HZ.out k hlt
      have hx := hcell k (by omega)
      have h1 : (k : Int) < (n : Int) := by omega
      have h0 : (0 : Int) ≤ (k : Int) := by omega
      have hw : IntKind.i64.wrap ((k : Int) + 1) = (k : Int) + 1 := by rw [IntKind.wrap_i64]; omega
      have hw2 : IntKind.i64.wrap (4 + ((L k).size : Int)) = 4 + ((L k).size : Int) := by rw [IntKind.wrap_i64]; omega
      have hw3 : IntKind.i64.wrap (((txN L k).size : Int) + (4 + ((L k).size : Int))) = ((txN L k).size : Int) + (4 + ((L k).size : Int)) := by rw [IntKind.wrap_i64]; omega
      have HN : Hid ((txN L (k + 1)).size = (txN L k).size + ((L k).size + 4)) := txN_size L k
      clear hcell
      go_wp2
      go_roundw
      case rel => exact ⟨k + 1, hlt, by push_cast; rfl, by rw [HN.out]; congr 1; omega, trivial⟩
      case measure => simp [intOf]; omega
    · have HKn : Hid (k = n) := (by omega : k = n)
      have hnl : ¬ (k : Int) < (n : Int) := by omega
      have hsz : ((txN L k).size : Int) = (S : Int) := by rw [HKn.out, HS.out]
      rename World => W0
      have HE0 : Hid (Ext W0 (W0.alloc (.cells #[.pointer none, .slice none 0 0] 84))) := (Ext.refl W0).alloc _
      have HG : Hid (∀ W : World, W = W0.alloc (.cells #[.pointer none, .slice none 0 0] 84) → Calls Try.prog 44 #[.pointer (some ⟨W0.heap.size, 0, none⟩), .int .i64 (S : Nat)] W fun e w' => e = .returned (.tuple #[]) ∧ (Lib.BuilderAt 84 5 W0.heap.size W0.heap.size (.pointer (some ⟨W0.heap.size, 0, none⟩)) [] w' ∧ Below W0.heap.size W w')) := fun W hW =>
        bgrow_fresh W0.heap.size W0.heap.size S W (Nat.le_refl _) (by rw [hW]; exact Deep.blk_alloc_new _ _) (by rw [hW]; simp) (by omega)
      go_wp2_with fail
      refine (HG.out _ rfl).mono ?_
      rintro e w1 ⟨rfl, HB1, HX1⟩
      have HI1 : Hid (TI W0.heap.size W0 w1 (Lib.strCells (txN L 0))) := ⟨HB1, Below.trans (show Below W0.heap.size W0 _ from HE0.out) HX1, Nat.le_trans HE0.out.size HX1.size⟩
      have HKb : Hid (W0.heap.size = W0.heap.size) := rfl
      clear HG HE0 HB1 HX1
      obtain ⟨b, HBw⟩ : ∃ b, Hid (W0.heap.size = b) := ⟨_, rfl⟩
      rw [HBw.out] at HI1
      simp only [HBw.out]
      clear HKb
      go_wp2_with fail
      go_loopw [25] (fun u25 wx => ∃ k : Nat, k ≤ n ∧ u25 = .int .i64 k ∧ Hid (TI b W0 wx (Lib.strCells (txN L k)))) (fun u25 _ => n - (intOf u25).toNat)
      case atStart => exact ⟨0, Nat.zero_le _, rfl, HI1⟩
      case round =>
        clear HI1
        obtain ⟨j, hj, rfl, HI⟩ := hrel
        by_cases hlt : j < n
        · obtain ⟨g, o, rfl, hb, hcell⟩ := HC.out (by omega)
          have hz := HZ.out j hlt
          have hx0 := hcell j (by omega)
          have hEx : Ext W0 wr := show Below W0.heap.size W0 wr from HBw.out ▸ HI.out.2.1
          have hx := later hEx hx0
          have h1 : (j : Int) < (n : Int) := by omega
          have h0 : (0 : Int) ≤ (j : Int) := by omega
          have hw : IntKind.i64.wrap ((j : Int) + 1) = (j : Int) + 1 := by rw [IntKind.wrap_i64]; omega
          have hw2 : IntKind.u32.wrap ((L j).size : Int) = ((L j).size : Int) := by rw [IntKind.wrap_u32']; omega
          have HA : Hid (∀ W bs, bs.length ≤ 1000000 → TI b W0 W bs → _) := fun W bs hl h => wlen_any b bs (L j).size W0 W (by omega) hl h
          have HT : Hid (Lib.strCells (txN L (j + 1)) = Lib.strCells (txN L j) ++ lst .u8 (beT (L j).size) 4 ++ Lib.strCells (L j)) := by
            show _ = _
            rw [txN_succ, strCells_txt, strCells_app]
          have hlen : (Lib.strCells (txN L j)).length ≤ 200000 := by rw [Lib.strCells_length]; omega
          clear hcell hx0 hEx
          go_wp2_with fail
          refine (HA.out _ _ (by omega) HI.out).mono ?_
          rintro e w2 ⟨rfl, HI2⟩
          have HW := bwrites_any b b _ (L j) w2 (Or.inr HI2.1) (by rw [List.length_append, lst_len]; omega) HI2.2.2
          have HI2' : Hid (TI b W0 w2 _) := HI2
          clear HI HI2 HA hx
          go_wp2_with fail
          refine HW.mono ?_
          rintro e w3 ⟨rfl, HB3, HX3⟩
          have HI3 : Hid (TI b W0 w3 (Lib.strCells (txN L (j + 1)))) := by rw [HT.out]; exact HI2'.out.step HB3 HX3
          clear HW HB3 HX3 HI2' HT
          go_wp2
          go_roundw
          case rel => exact ⟨j + 1, hlt, by push_cast; rfl, HI3⟩
          case measure => simp [intOf]; omega
        · have HJn : Hid (j = n) := (by omega : j = n)
          have hnl : ¬ (j : Int) < (n : Int) := by omega
          rw [HJn.out] at HI
          have HSt := bstring_any b b (txN L n).data.toList _ (Or.inr HI.out.1) HI.out.2.2
          go_wp2_with fail
          refine HSt.mono ?_
          rintro e w2 ⟨rfl, HX2⟩
          have HE2 : Hid (Ext W0 w2) := show Below W0.heap.size W0 w2 from HBw.out ▸ HI.out.2.1.trans HX2
          clear HX2 HSt
          go_wp2
          go_ret
          exact ⟨rfl, HE2.out⟩
theorem wtexts_any (v : Value) (n : Nat) (L : Nat → ByteArray) (hz : (txN L n).size ≤ 100000) (w : World) (hL : LiesT w v n L) :
    Calls Try.prog 42 #[v] w fun e w' => e = .returned (.string (txN L n)) ∧ Ext w w' := wtexts_big v n L (by omega) w hL
set_option maxHeartbeats 400000 in
theorem wtext_any (s : ByteArray) (hs : s.size ≤ 100000) (w : World) :
    Calls Try.prog 37 #[.string s] w fun e w' => e = .returned (.string (txt s)) ∧ Ext w w' := by
  have HT : Hid (Calls Try.prog 42 #[.slice (some ⟨w.heap.size, 0, none⟩) 1 1] (w.alloc (.cells #[.string s] 9)) fun e w' => e = .returned (.string (txt s)) ∧ Ext (w.alloc (.cells #[.string s] 9)) w') := by
    have e1 : txN (fun _ => s) 1 = txt s := by rw [txN_succ]; exact nil_app _
    have := wtexts_big (.slice (some ⟨w.heap.size, 0, none⟩) 1 1) 1 (fun _ => s) (by rw [e1, txt_size]; omega) (w.alloc (.cells #[.string s] 9)) ⟨_, _, rfl, fun _ => ⟨w.heap.size, 0, rfl, by simp, fun k hk => by
      obtain rfl : k = 0 := by omega
      rw [World.cell?_alloc_at _ _ _ _ rfl]; rfl⟩⟩
    rw [e1] at this
    exact this
  go_enter Try.func37, Try.ntmps37
  go_wp2_with fail
  refine HT.out.mono ?_
  rintro e w1 ⟨rfl, HX⟩
  have HX1 : Hid (Ext w w1) := ((Ext.refl w).alloc _).trans HX
  clear HX HT
  go_wp2
  go_ret
  exact ⟨rfl, HX1.out⟩
end Go.Proofs.Ytbkdjpialjbhnaa
