/-
  THE FACE of package chacha: the contracts that the laws' walks ask for.
-/
import Derived.Test.YtbcgipapbamgfaaDoorRefCXor
import Derived.Test.YtbcgipapbamgfaaDoorCm
import Derived.Test.YtbcgipapbamgfaaDoorCb
import Derived.Test.YtbcgipapbamgfaaDoorCSet
import Derived.Test.YtbcgipapbamgfaaDoorBld
namespace Go.Proofs.YtbcgipapbamgfaaDoor
open Go.RowKit
/-- What Block answers: a text, an error's number. -/
def blkR (key nonce : ByteArray) (n : Nat) : ByteArray × Int := if key.size = 32 ∧ nonce.size = 12 then (blkS key nonce n, 0) else (⟨#[]⟩, 2)
def xorR (key nonce : ByteArray) (n : Nat) (s : ByteArray) : ByteArray × Int := if key.size = 32 ∧ nonce.size = 12 then (xorS key nonce n s, 0) else (⟨#[]⟩, 2)
theorem rblock_r (key nonce : ByteArray) (n : Nat) (hn : n < 4294967296) (w : World) :
    Calls Tryd.prog 25 #[.string key, .string nonce, .int .u32 (n : Int)] w fun e w' => e = .returned (.tuple #[.string (blkR key nonce n).1, .int .i64 (blkR key nonce n).2]) ∧ Ext w w' := by
  unfold blkR
  by_cases h : key.size = 32 ∧ nonce.size = 12
  · rw [if_pos h]; exact rblock_any key nonce n h.1 h.2 hn w
  · rw [if_neg h]; exact rblock_bad key nonce n (by omega) w
theorem rxor_r (key nonce : ByteArray) (n : Nat) (s : ByteArray) (hn : n < 4294967296) (hs : s.size ≤ 100000) (w : World) :
    Calls Tryd.prog 18 #[.string key, .string nonce, .int .u32 (n : Int), .string s] w fun e w' => e = .returned (.tuple #[.string (xorR key nonce n s).1, .int .i64 (xorR key nonce n s).2]) ∧ Ext w w' := by
  unfold xorR
  by_cases h : key.size = 32 ∧ nonce.size = 12
  · rw [if_pos h]; exact rxor_any key nonce n s h.1 h.2 hn hs w
  · rw [if_neg h]; exact rxor_bad key nonce n s (by omega) w
theorem blkR_two (key nonce : ByteArray) (n : Nat) : (blkR key nonce n).2 = 0 ∨ (blkR key nonce n).2 = 2 := by unfold blkR; split <;> simp
theorem xorR_two (key nonce : ByteArray) (n : Nat) (s : ByteArray) : (xorR key nonce n s).2 = 0 ∨ (xorR key nonce n s).2 = 2 := by unfold xorR; split <;> simp
theorem state_ok (key nonce : ByteArray) {n : Nat} (hn : n < 4294967296) : W16 (state (sb key) (sb nonce) n) := by
  rw [← fill_state]
  exact fillN_ok (sb_lt key) (sb_lt nonce) hn 3
theorem blk_of {st : List Nat} (hst : W16 st) (W : World) (hG : Gl W) :
    Calls Tryd.prog 31 #[.agg (lst .u32 (gf st) 16).toArray] W fun e w' => e = .returned (.agg (lst .u8 (blkB st) 64).toArray) ∧ Ext W w' := blk_any st (fun X hX => mix_any st hst X hX) W hG
/-- Byte i of the answer. -/
def xF (key nonce : ByteArray) (n : Nat) (s : ByteArray) (i : Nat) : Nat := sb s i ^^^ strB key nonce n i
theorem xF_lt (key nonce : ByteArray) (n : Nat) (s : ByteArray) (i : Nat) : xF key nonce n s i < 256 := Nat.xor_lt_two_pow (n := 8) (sb_lt s i) (blkB_lt _ _)
/-- The first i bytes of a block xored with the text's from P on. -/
def xP (B T : Nat → Nat) (P i j : Nat) : Nat := if j < i then B j ^^^ T (P + j) else B j
theorem xP_step (B T : Nat → Nat) (P i : Nat) : put (xP B T P i) i (B i ^^^ T (P + i)) = xP B T P (i + 1) := by
  funext j
  unfold put xP
  by_cases e : j = i
  · rw [if_pos e, if_pos (by omega), e]
  · rw [if_neg e]
    by_cases h : j < i
    · rw [if_pos h, if_pos (by omega)]
    · rw [if_neg h, if_neg (by omega)]
theorem xP_at (B T : Nat → Nat) (P i : Nat) : xP B T P i i = B i := if_neg (by omega)
theorem xP_zero (B T : Nat → Nat) (P : Nat) : xP B T P 0 = B := by
  funext j
  exact if_neg (by omega)
theorem lst_bytes {T : Nat → Nat} (hT : ∀ i, T i < 256) (L : Nat) : lst .u8 T L = Lib.byteCells ((List.range L).map fun i => UInt8.ofNat (T i)) := by
  unfold lst Lib.byteCells
  rw [List.map_map]
  apply List.map_congr_left
  intro i _
  show _ = Value.int .u8 ((UInt8.ofNat (T i)).toNat : Int)
  rw [UInt8.toNat_ofNat', Nat.mod_eq_of_lt (hT i)]
theorem state_put (key nonce : Nat → Nat) {n : Nat} (v : Nat) (h : W16 (state key nonce n)) : put (gf (state key nonce n)) 12 v = gf (state key nonce v) := by
  rw [gf_set h (by decide)]
  rfl
theorem bld_ext {w w' : World} {T e : TypeId} {B b : Nat} {p : Value} {bs : List Value} (h : Lib.BuilderAt T e B b p bs w) (hx : Ext w w') : Lib.BuilderAt T e B b p bs w' := by
  obtain ⟨hB, v, hbk, hown, hne⟩ := h
  exact ⟨hB, v, (Below.block hx b (Array.getElem?_eq_some_iff.1 hbk).1).trans hbk, own_ext hown hx, hne⟩
/-- What Xor holds: the state in block nb, the builder behind it. -/
def XI (w wr : World) (nb : Nat) (F : Nat → Nat) (bs : List Value) : Prop := RowH wr nb 54 .u32 16 F ∧ Lib.BuilderAt 59 5 (nb + 1) (nb + 1) (.pointer (some ⟨nb + 1, 0, none⟩)) bs wr ∧ Ext w wr ∧ Gl wr ∧ w.heap.size ≤ nb
theorem XI.ext {w wr w2 : World} {nb : Nat} {F : Nat → Nat} {bs : List Value} (h : XI w wr nb F bs) (hx : Ext wr w2) : XI w w2 nb F bs := ⟨h.1.ext hx, bld_ext h.2.1 hx, h.2.2.1.trans hx, h.2.2.2.1.ext hx, h.2.2.2.2⟩
theorem XI.below {w wr w2 : World} {nb : Nat} {F : Nat → Nat} {bs cs : List Value} (hG : Gl w) (h : XI w wr nb F bs) (hx : Below (nb + 1) wr w2) (hb : Lib.BuilderAt 59 5 (nb + 1) (nb + 1) (.pointer (some ⟨nb + 1, 0, none⟩)) cs w2) : XI w w2 nb F cs :=
  have hE : Ext w w2 := Below.trans h.2.2.1 (Below.mono hx (Nat.le_succ_of_le h.2.2.2.2))
  ⟨(hx.block nb (Nat.lt_succ_self _)).trans h.1, hb, hE, hG.ext hE, h.2.2.2.2⟩
theorem XI.count {w wr : World} {nb : Nat} {F : Nat → Nat} {bs : List Value} (h : XI w wr nb F bs) (v : Nat) : XI w (wr.setCell ⟨nb, 12, none⟩ (.int .u32 (v : Int))) nb (put F 12 v) bs := by
  obtain ⟨h1, h2, h3, h4, h5⟩ := h
  obtain ⟨hB, u, hbk, hown, hne⟩ := h2
  have hE := Ext.st (i := 12) (v := .int .u32 (v : Int)) h5 h3
  refine ⟨h1.set 12 v, ⟨hB, u, ?_, ownsRow_setCell_below hown (a := ⟨nb, 12, none⟩) (Nat.lt_succ_self _) _, hne⟩, hE, ?_, h5⟩
  · rw [← hbk]
    simp [World.setCell, Array.getElem?_modify]
  · obtain ⟨t, fr, h0⟩ := h4
    have h0n : (0 : Nat) ≠ nb := fun e => by
      rw [← e] at h1
      unfold RowH at h1
      rw [h0] at h1
      injection h1 with h1
      injection h1 with h1 _ _
      have := congrArg Array.size h1
      simp [lst_len] at this
    refine ⟨t, fr, ?_⟩
    rw [← h0]
    simp [World.setCell, Array.getElem?_modify, h0n.symm]
set_option maxRecDepth 10000 in
set_option maxHeartbeats 4000000 in
theorem cxor_good (key nonce : ByteArray) (n : Nat) (s : ByteArray) (hk : key.size = 32) (ho : nonce.size = 12) (hn : n < 4294967296) (hs : s.size ≤ 3000) (w : World) (hG : Gl w) :
    Calls Tryd.prog 21 #[.string key, .string nonce, .int .u32 (n : Int), .string s] w fun e w' => e = .returned (.tuple #[.string (xorS key nonce n s), .int .i64 0]) ∧ Ext w w' := by
  have HC := begin_any key nonce n hk ho w
  have HSz : Hid (∀ q, W16 (state (sb key) (sb nonce) ((n + q) % 4294967296))) := fun q => state_ok key nonce (Nat.mod_lt _ (by decide))
  have e0 : state (sb key) (sb nonce) n = state (sb key) (sb nonce) ((n + 0) % 4294967296) := by rw [Nat.add_zero, Nat.mod_eq_of_lt hn]
  rw [e0] at HC
  clear e0
  obtain ⟨L, hL⟩ : ∃ L, s.size = L := ⟨_, rfl⟩
  have HL : Hid (s.size = L) := hL
  rw [hL] at hs
  clear hk ho
  go_enter Tryd.func21, Tryd.ntmps21
  go_wp2_with fail
  refine HC.mono ?_
  rintro e w1 ⟨rfl, HX1⟩
  generalize HF : gf (state (sb key) (sb nonce) ((n + 0) % 4294967296)) = F0 at *
  have HA : RowH (w1.alloc (Obj.cells #[.int .u32 0, .int .u32 0, .int .u32 0, .int .u32 0, .int .u32 0, .int .u32 0, .int .u32 0, .int .u32 0, .int .u32 0, .int .u32 0, .int .u32 0, .int .u32 0, .int .u32 0, .int .u32 0, .int .u32 0, .int .u32 0] 54)) w1.heap.size 54 .u32 16 (fun _ => 0) := RowH.new w1 .u32 16 54
  have HR := HA.row F0
  have HX2 : Ext w ((w1.alloc (Obj.cells #[.int .u32 0, .int .u32 0, .int .u32 0, .int .u32 0, .int .u32 0, .int .u32 0, .int .u32 0, .int .u32 0, .int .u32 0, .int .u32 0, .int .u32 0, .int .u32 0, .int .u32 0, .int .u32 0, .int .u32 0, .int .u32 0] 54)).setRow w1.heap.size (lst .u32 F0 16).toArray) := HX1.trans (((Ext.refl w1).alloc _).row (Nat.le_refl _) _)
  have hsz : ((w1.alloc (Obj.cells #[.int .u32 0, .int .u32 0, .int .u32 0, .int .u32 0, .int .u32 0, .int .u32 0, .int .u32 0, .int .u32 0, .int .u32 0, .int .u32 0, .int .u32 0, .int .u32 0, .int .u32 0, .int .u32 0, .int .u32 0, .int .u32 0] 54)).setRow w1.heap.size (lst .u32 F0 16).toArray).heap.size = w1.heap.size + 1 := by simp [World.setRow]
  have hnb : w.heap.size ≤ w1.heap.size := HX1.size
  clear HX1 HC
  go_wp2_with (first | (refine wpList_store_row rfl 54 _ _ rfl w1.heap.size (lst .u32 F0 16).toArray rfl rfl 54 _ HA (by rw [Tryd.size54]; simp [lst_len]) (by simp [lst_len]) (lst_one _ _ _) ?_))
  generalize (w1.alloc (Obj.cells #[.int .u32 0, .int .u32 0, .int .u32 0, .int .u32 0, .int .u32 0, .int .u32 0, .int .u32 0, .int .u32 0, .int .u32 0, .int .u32 0, .int .u32 0, .int .u32 0, .int .u32 0, .int .u32 0, .int .u32 0, .int .u32 0] 54)).setRow w1.heap.size (lst .u32 F0 16).toArray = W2 at *
  generalize w1.heap.size = nb at *
  clear HA
  have hbk : (W2.alloc (Obj.cells #[.pointer none, .slice none 0 0] 59)).heap[nb + 1]? = some (.cells #[.pointer none, .slice none 0 0] 59 (0, 0)) := by
    rw [← hsz]
    exact heap_alloc_new W2 _
  refine (bgrow_fresh (nb + 1) (nb + 1) L _ (Nat.le_refl _) hbk (by simp; omega) (by omega)).mono ?_
  rintro e w3 ⟨rfl, HBd, HBe⟩
  have HI0 : Hid (XI w w3 nb (gf (state (sb key) (sb nonce) ((n + 0) % 4294967296))) (lst .u8 (xF key nonce n s) 0)) := by
    have hE : Ext w w3 := Below.trans (HX2.alloc _) (Below.mono HBe (by omega))
    rw [HF]
    exact ⟨(HBe.block nb (Nat.lt_succ_self _)).trans (HR.ext ((Ext.refl _).alloc _)), HBd, hE, hG.ext hE, hnb⟩
  clear HBd HBe hbk HR HX2 hsz HF hnb
  go_wp2_with fail
  go_loopw [13] (fun u13 wr => ∃ (q P : Nat), P = 64 * q ∧ P ≤ L + 63 ∧ u13 = .int .i64 P ∧ Hid (XI w wr nb (gf (state (sb key) (sb nonce) ((n + q) % 4294967296))) (lst .u8 (xF key nonce n s) (min P L)))) (fun u13 _ => L + 64 - (intOf u13).toNat)
  case atStart => exact ⟨0, 0, rfl, by omega, rfl, by rw [Nat.zero_min]; exact HI0⟩
  case round =>
    clear HI0
    obtain ⟨q, P, hPq, hPL, rfl, HI⟩ := hrel
    have HPq : Hid (P = 64 * q) := hPq
    clear hPq
    by_cases hlt : P < L
    · have hl1 : (P : Int) < (L : Int) := lt_int hlt
      have hst := HSz.out q
      rw [Nat.min_eq_left (Nat.le_of_lt hlt)] at HI
      have HSn : Hid (∀ v, put (gf (state (sb key) (sb nonce) ((n + q) % 4294967296))) 12 v = gf (state (sb key) (sb nonce) v)) := fun v => state_put _ _ v hst
      have HKb : Hid (∀ j, j < 64 → blkB (state (sb key) (sb nonce) ((n + q) % 4294967296)) j ^^^ sb s (P + j) = xF key nonce n s (P + j)) := fun j hj => by
        unfold xF strB
        have e := HPq.out
        rw [show (P + j) / 64 = q by omega, show (P + j) % 64 = j by omega, Nat.xor_comm]
      have H12 : Hid (gf (state (sb key) (sb nonce) ((n + q) % 4294967296)) 12 = (n + q) % 4294967296) := rfl
      generalize state (sb key) (sb nonce) ((n + q) % 4294967296) = st at *
      have HRn := HI.out.1
      go_wp2_with (first | (refine wpList_load_row rfl 54 _ rfl nb rfl 54 (lst .u32 (gf st) 16).toArray (0, 0) _ HRn Tryd.underlying54 rfl (by rw [Tryd.size54]; simp [lst_len]) ?_))
      refine (blk_of hst wr HI.out.2.2.2.1).mono ?_
      rintro e w4 ⟨rfl, HX4⟩
      have HI4 := HI.out.ext HX4
      have HB : RowH (w4.alloc (Obj.cells #[.int .u8 0, .int .u8 0, .int .u8 0, .int .u8 0, .int .u8 0, .int .u8 0, .int .u8 0, .int .u8 0, .int .u8 0, .int .u8 0, .int .u8 0, .int .u8 0, .int .u8 0, .int .u8 0, .int .u8 0, .int .u8 0, .int .u8 0, .int .u8 0, .int .u8 0, .int .u8 0, .int .u8 0, .int .u8 0, .int .u8 0, .int .u8 0, .int .u8 0, .int .u8 0, .int .u8 0, .int .u8 0, .int .u8 0, .int .u8 0, .int .u8 0, .int .u8 0, .int .u8 0, .int .u8 0, .int .u8 0, .int .u8 0, .int .u8 0, .int .u8 0, .int .u8 0, .int .u8 0, .int .u8 0, .int .u8 0, .int .u8 0, .int .u8 0, .int .u8 0, .int .u8 0, .int .u8 0, .int .u8 0, .int .u8 0, .int .u8 0, .int .u8 0, .int .u8 0, .int .u8 0, .int .u8 0, .int .u8 0, .int .u8 0, .int .u8 0, .int .u8 0, .int .u8 0, .int .u8 0, .int .u8 0, .int .u8 0, .int .u8 0, .int .u8 0] 61)) w4.heap.size 61 .u8 64 (fun _ => 0) := RowH.new w4 .u8 64 61
      have HB5 := HB.row (blkB st)
      have HX5 : Ext w4 ((w4.alloc (Obj.cells #[.int .u8 0, .int .u8 0, .int .u8 0, .int .u8 0, .int .u8 0, .int .u8 0, .int .u8 0, .int .u8 0, .int .u8 0, .int .u8 0, .int .u8 0, .int .u8 0, .int .u8 0, .int .u8 0, .int .u8 0, .int .u8 0, .int .u8 0, .int .u8 0, .int .u8 0, .int .u8 0, .int .u8 0, .int .u8 0, .int .u8 0, .int .u8 0, .int .u8 0, .int .u8 0, .int .u8 0, .int .u8 0, .int .u8 0, .int .u8 0, .int .u8 0, .int .u8 0, .int .u8 0, .int .u8 0, .int .u8 0, .int .u8 0, .int .u8 0, .int .u8 0, .int .u8 0, .int .u8 0, .int .u8 0, .int .u8 0, .int .u8 0, .int .u8 0, .int .u8 0, .int .u8 0, .int .u8 0, .int .u8 0, .int .u8 0, .int .u8 0, .int .u8 0, .int .u8 0, .int .u8 0, .int .u8 0, .int .u8 0, .int .u8 0, .int .u8 0, .int .u8 0, .int .u8 0, .int .u8 0, .int .u8 0, .int .u8 0, .int .u8 0, .int .u8 0] 61)).setRow w4.heap.size (lst .u8 (blkB st) 64).toArray) := ((Ext.refl w4).alloc _).row (Nat.le_refl _) _
      have hc0 : w4.heap.size ≤ w4.heap.size := Nat.le_refl _
      obtain ⟨d, hd⟩ : ∃ d, L - P = d := ⟨_, rfl⟩
      have hd1 : IntKind.i64.wrap ((L : Int) - (P : Int)) = (d : Int) := by rw [IntKind.wrap_i64]; omega
      obtain ⟨m, hm⟩ : ∃ m, min 64 d = m := ⟨_, rfl⟩
      have hm1 : min (64 : Int) (d : Int) = (m : Int) := by omega
      have Hm : Hid (m ≤ 64 ∧ P + m ≤ L ∧ P + m = min (P + 64) L) := ⟨by omega, by omega, by omega⟩
      clear HRn HX4 HI hst
      go_wp2_with (first | (refine wpList_store_row rfl 61 _ _ rfl w4.heap.size (lst .u8 (blkB st) 64).toArray rfl rfl 61 _ HB (by rw [Tryd.size61]; simp [lst_len]) (by simp [lst_len]) (lst_one _ _ _) ?_))
      generalize (w4.alloc (Obj.cells #[.int .u8 0, .int .u8 0, .int .u8 0, .int .u8 0, .int .u8 0, .int .u8 0, .int .u8 0, .int .u8 0, .int .u8 0, .int .u8 0, .int .u8 0, .int .u8 0, .int .u8 0, .int .u8 0, .int .u8 0, .int .u8 0, .int .u8 0, .int .u8 0, .int .u8 0, .int .u8 0, .int .u8 0, .int .u8 0, .int .u8 0, .int .u8 0, .int .u8 0, .int .u8 0, .int .u8 0, .int .u8 0, .int .u8 0, .int .u8 0, .int .u8 0, .int .u8 0, .int .u8 0, .int .u8 0, .int .u8 0, .int .u8 0, .int .u8 0, .int .u8 0, .int .u8 0, .int .u8 0, .int .u8 0, .int .u8 0, .int .u8 0, .int .u8 0, .int .u8 0, .int .u8 0, .int .u8 0, .int .u8 0, .int .u8 0, .int .u8 0, .int .u8 0, .int .u8 0, .int .u8 0, .int .u8 0, .int .u8 0, .int .u8 0, .int .u8 0, .int .u8 0, .int .u8 0, .int .u8 0, .int .u8 0, .int .u8 0, .int .u8 0, .int .u8 0] 61)).setRow w4.heap.size (lst .u8 (blkB st) 64).toArray = W5 at *
      obtain ⟨c, hc⟩ : ∃ c, w4.heap.size = c := ⟨_, rfl⟩
      rw [hc] at HB5 ⊢
      have Hc : Hid (w4.heap.size ≤ c) := Nat.le_of_eq hc
      have HB6 : Hid (RowH W5 c 61 .u8 64 (xP (blkB st) (sb s) P 0)) := by
        show RowH _ _ _ _ _ _
        rw [xP_zero]
        exact HB5
      have HX6 : Hid (Ext w4 W5) := HX5
      clear HB HB5 HX5 hc0 hd hd1 hm hm1 hc
      go_loopw [44] (fun u44 wr => ∃ (i : Nat), i ≤ m ∧ u44 = .int .i64 i ∧ Hid (RowH wr c 61 .u8 64 (xP (blkB st) (sb s) P i)) ∧ Hid (Ext w4 wr)) (fun u44 _ => m - (intOf u44).toNat)
      case atStart => exact ⟨0, by omega, rfl, HB6, HX6⟩
      case round =>
        clear HB6 HX6
        obtain ⟨i, him, rfl, HB, HX⟩ := hrel
        by_cases hil : i < m
        · have hi1 : (i : Int) < (m : Int) := lt_int hil
          have hi0 : (0 : Int) ≤ (i : Int) := by omega
          have hi64 : i < 64 := by have := Hm.out; omega
          have hi2 : (i : Int) < 64 := by omega
          obtain ⟨t, ht⟩ : ∃ t, P + i = t := ⟨_, rfl⟩
          have htl : t < s.size := by have := Hm.out; omega
          have m3 : IntKind.i64.wrap ((P : Int) + (i : Int)) = (t : Int) := by rw [IntKind.wrap_i64]; omega
          have t0 : (0 : Int) ≤ (t : Int) := by omega
          have t1 : (t : Int) < (L : Int) := by omega
          have t2 : (t : Int) < (s.size : Int) := by omega
          obtain ⟨g, f⟩ := HB.out.tab.2 i hi64
          rw [xP_at] at g
          obtain ⟨v, hv⟩ : ∃ v, blkB st i ^^^ sb s (P + i) = v := ⟨_, rfl⟩
          have ex : bits BinOp.xor IntKind.u8 (blkB st i : Int) ((s[t]'htl).toNat : Int) = (v : Int) := by
            rw [sb_at s htl, u8_xor_nat _ _ (blkB_lt _ _) (sb_lt _ _), ← hv, ht]
          have HB2 : Hid (RowH (wr.setCell ⟨c, i, none⟩ (.int .u8 (v : Int))).drew c 61 .u8 64 (xP (blkB st) (sb s) P (i + 1))) := by
            have h := (HB.out.set i v).ext (Ext.drew (Ext.refl _))
            rw [← hv, xP_step] at h
            rw [← hv]
            exact h
          have HX2 : Hid (Ext w4 (wr.setCell ⟨c, i, none⟩ (.int .u8 (v : Int))).drew) := (Ext.st Hc.out HX.out).drew
          clear hv ht HB HX
          generalize blkB st i = bb at g ex
          go_wp2_with fail
          go_region
          clear g f ex
          go_wp2
          go_roundw
          case rel => exact ⟨i + 1, hil, by go_num, HB2, HX2⟩
          case measure => simp [intOf]; omega
        · have HIm : Hid (i = m) := (by omega : i = m)
          have hni : ¬ (i : Int) < (m : Int) := by omega
          rw [HIm.out] at HB
          have HI5 := HI4.ext HX.out
          have m0 : (0 : Int) ≤ (m : Int) := by omega
          have m64 : (m : Int) ≤ 64 := by have := Hm.out; omega
          have HW := bwrite_any (nb + 1) (nb + 1) (lst .u8 (xF key nonce n s) P) ⟨c, 0, none⟩ m 64 (lst .u8 (fun j => xF key nonce n s (P + j)) m) wr HI5.2.1 (lst_len _ _ _) (fun j u hj => by
            obtain ⟨hjm, rfl⟩ := lst_of hj
            have hj64 : j < 64 := by have := Hm.out; omega
            have h := (HB.out.tab.2 j hj64).1
            rw [show xP (blkB st) (sb s) P m j = xF key nonce n s (P + j) from (if_pos hjm).trans (HKb.out j hj64)] at h
            rw [← h]
            simp only [Addr.add, Nat.zero_add]
            by_cases e : j = 0
            · rw [if_pos e, e]
            · rw [if_neg e]) (fun u hu => by
            obtain ⟨j, hj⟩ := List.getElem?_of_mem hu
            obtain ⟨_, rfl⟩ := lst_of hj
            rfl) (by rw [lst_len]; have := Hm.out; omega) (Nat.le_of_lt (Lib.BuilderAt.lt HI5.2.1))
          rw [show lst .u8 (xF key nonce n s) P ++ lst .u8 (fun j => xF key nonce n s (P + j)) m = lst .u8 (xF key nonce n s) (P + m) from lst_app _ _ _ _] at HW
          clear HB HX
          go_wp2_with fail
          refine HW.mono ?_
          rintro e w6 ⟨rfl, HBd, HBe⟩
          have HI6 := HI5.below hG HBe HBd
          obtain ⟨g12, f12⟩ := HI6.1.tab.2 12 (by decide)
          rw [H12.out] at g12
          obtain ⟨v0, hv0⟩ : ∃ v0, (n + q) % 4294967296 = v0 := ⟨_, rfl⟩
          obtain ⟨v1, hv1⟩ : ∃ v1, (n + (q + 1)) % 4294967296 = v1 := ⟨_, rfl⟩
          have hw1 : IntKind.u32.wrap ((v0 : Int) + 1) = (v1 : Int) := by rw [IntKind.wrap_u32']; omega
          rw [hv0] at g12
          have HI7 : Hid (XI w (w6.setCell ⟨nb, 12, none⟩ (.int .u32 (v1 : Int))) nb (gf (state (sb key) (sb nonce) v1)) (lst .u8 (xF key nonce n s) (min (P + 64) L))) := by
            have h := HI6.count v1
            rw [HSn.out, Hm.out.2.2] at h
            exact h
          have HV1 : Hid ((n + (q + 1)) % 4294967296 = v1) := hv1
          have hP64 : IntKind.i64.wrap ((P : Int) + 64) = ((P + 64 : Nat) : Int) := by rw [IntKind.wrap_i64]; omega
          clear HI6 HBd HBe hv0 hv1 HW HI5
          go_wp2
          go_roundw
          case rel => exact ⟨q + 1, P + 64, by have := HPq.out; omega, by omega, by go_num, by rw [HV1.out]; exact HI7⟩
          case measure => simp [intOf]; omega
    · have hnl : ¬ (P : Int) < (L : Int) := by omega
      have HI5 := HI.out
      rw [Nat.min_eq_right (by omega : L ≤ P), lst_bytes (xF_lt key nonce n s) L] at HI5
      have HC := bstring_any (nb + 1) (nb + 1) ((List.range L).map fun i => UInt8.ofNat (xF key nonce n s i)) wr (Or.inr HI5.2.1) (Nat.le_of_lt (Lib.BuilderAt.lt HI5.2.1))
      have HQ : Hid ((⟨((List.range L).map fun i => UInt8.ofNat (xF key nonce n s i)).toArray⟩ : ByteArray) = xorS key nonce n s) := by
        show _ = _
        rw [← HL.out]
        rfl
      rw [HQ.out] at HC
      obtain ⟨SS, HSS⟩ : ∃ SS, Hid (xorS key nonce n s = SS) := ⟨_, rfl⟩
      rw [HSS.out] at HC
      go_wp2_with fail
      refine HC.mono ?_
      rintro e w6 ⟨rfl, HBe⟩
      have HE6 : Ext w w6 := Below.trans HI5.2.2.1 (Below.mono HBe (Nat.le_succ_of_le HI5.2.2.2.2))
      clear HC HI5 HI HBe
      go_wp2
      exact bodyPost_ret (v := .tuple #[.string SS, .int .i64 0]) (by simp [results, Tryd.results21, go_sem]) rfl ⟨by rw [HSS.out], HE6⟩
set_option maxRecDepth 10000 in
set_option maxHeartbeats 1000000 in
theorem cxor_any (key nonce : ByteArray) (n : Nat) (s : ByteArray) (hn : n < 4294967296) (hs : s.size ≤ 3000) (w : World) (hG : Gl w) :
    Calls Tryd.prog 21 #[.string key, .string nonce, .int .u32 (n : Int), .string s] w fun e w' => e = .returned (.tuple #[.string (xorR key nonce n s).1, .int .i64 (xorR key nonce n s).2]) ∧ Ext w w' := by
  unfold xorR
  by_cases h : key.size = 32 ∧ nonce.size = 12
  · rw [if_pos h]
    exact cxor_good key nonce n s h.1 h.2 hn hs w hG
  · rw [if_neg h]
    have HC := begin_bad key nonce n (by omega) w
    go_enter Tryd.func21, Tryd.ntmps21
    go_wp2_with fail
    refine HC.mono ?_
    rintro e w1 ⟨rfl, HX1⟩
    have HA : RowH (w1.alloc (Obj.cells #[.int .u32 0, .int .u32 0, .int .u32 0, .int .u32 0, .int .u32 0, .int .u32 0, .int .u32 0, .int .u32 0, .int .u32 0, .int .u32 0, .int .u32 0, .int .u32 0, .int .u32 0, .int .u32 0, .int .u32 0, .int .u32 0] 54)) w1.heap.size 54 .u32 16 (fun _ => 0) := RowH.new w1 .u32 16 54
    have HX2 : Ext w ((w1.alloc (Obj.cells #[.int .u32 0, .int .u32 0, .int .u32 0, .int .u32 0, .int .u32 0, .int .u32 0, .int .u32 0, .int .u32 0, .int .u32 0, .int .u32 0, .int .u32 0, .int .u32 0, .int .u32 0, .int .u32 0, .int .u32 0, .int .u32 0] 54)).setRow w1.heap.size (lst .u32 (fun _ => 0) 16).toArray) := HX1.trans (((Ext.refl w1).alloc _).row (Nat.le_refl _) _)
    clear HX1 HC
    go_wp2_with (first | (refine wpList_store_row rfl 54 _ _ rfl w1.heap.size (lst .u32 (fun _ => 0) 16).toArray rfl rfl 54 _ HA (by rw [Tryd.size54]; simp [lst_len]) (by simp [lst_len]) (lst_one _ _ _) ?_))
    exact bodyPost_ret (v := .tuple #[.string ⟨#[]⟩, .int .i64 2]) (by simp [results, Tryd.results21, go_sem]) rfl ⟨rfl, HX2⟩
end Go.Proofs.YtbcgipapbamgfaaDoor
