/-
  chacha.block, called.
-/
import Derived.Test.YtbcgipapbamgfaaDoorCParts
import Derived.Deep.QuietTactic
import Derived.BigQuiet
namespace Go.Proofs.YtbcgipapbamgfaaDoor
open Go.RowKit
/-- The bytes that are made, the rest 0. -/
def bpart (st : List Nat) (t j : Nat) : Nat := if j < t then blkB st j else 0
theorem bpart_step (st : List Nat) (t : Nat) : put (bpart st t) t (blkB st t) = bpart st (t + 1) := by
  funext i
  unfold put bpart
  by_cases e : i = t
  · rw [if_pos e, if_pos (by omega), e]
  · rw [if_neg e]
    by_cases h : i < t
    · rw [if_pos h, if_pos (by omega)]
    · rw [if_neg h, if_neg (by omega)]
def MixC (st : List Nat) : Prop := ∀ W, Gl W → Calls Tryd.prog 57 #[.agg (lst .u32 (gf st) 16).toArray] W fun e w' => e = .returned (.agg (lst .u32 (gf (rnd st 10)) 16).toArray) ∧ Ext W w'
theorem byte_num (st : List Nat) (i k : Nat) (hi : i < 16) (hk : k < 4) : ∃ e t b : Nat, IntKind.i64.wrap (8 * (k : Int)) = (e : Int) ∧ IntKind.i64.wrap (4 * (i : Int)) = 4 * (i : Int) ∧ IntKind.i64.wrap (4 * (i : Int) + (k : Int)) = (t : Int) ∧ t = 4 * i + k ∧ t < 64 ∧ (outW st i : Int) / 2 ^ (min e 32) % 256 = (b : Int) ∧ b = blkB st t := by
  refine ⟨8 * k, 4 * i + k, blkB st (4 * i + k), ?_, ?_, ?_, rfl, by omega, ?_, rfl⟩
  · rw [IntKind.wrap_i64]; omega
  · rw [IntKind.wrap_i64]; omega
  · rw [IntKind.wrap_i64]; omega
  · rw [blkB_at st i k hk, Nat.min_eq_left (by omega : 8 * k ≤ 32), show (2 : Int) ^ (8 * k) = ((256 ^ k : Nat) : Int) by rw [Int.natCast_pow, Int.pow_mul]; rfl]
    generalize 256 ^ k = z
    rw [← Int.natCast_ediv]
    omega
/-- What block holds: the state in block n, the answer's block behind it, the mixed state in block p, the bytes behind it. -/
def BS (w wr : World) (n p : Nat) (st : List Nat) (F : Nat → Nat) : Prop := RowH wr n 54 .u32 16 (gf st) ∧ RowH wr (n + 1) 61 .u8 64 (fun _ => 0) ∧ RowH wr p 54 .u32 16 (gf (rnd st 10)) ∧ RowH wr (p + 1) 61 .u8 64 F ∧ Ext w wr ∧ n + 1 < p ∧ w.heap.size ≤ n
theorem BS.drewN {w wr : World} {n p : Nat} {st : List Nat} {F : Nat → Nat} (h : BS w wr n p st F) (q : Nat) : BS w (wr.drewN q) n p st F :=
  have hx : Ext wr (wr.drewN q) := (Ext.refl _).drewN q
  ⟨h.1.ext hx, h.2.1.ext hx, h.2.2.1.ext hx, h.2.2.2.1.ext hx, h.2.2.2.2.1.trans hx, h.2.2.2.2.2⟩
theorem BS.set {w wr : World} {n p : Nat} {st : List Nat} {F : Nat → Nat} (h : BS w wr n p st F) (t b : Nat) : BS w (wr.setCell ⟨p + 1, t, none⟩ (.int .u8 (b : Int))) n p st (put F t b) := by
  obtain ⟨h1, h2, h3, h4, h5, h6, h7⟩ := h
  exact ⟨RowH.other (by omega) h1 ⟨_, _, _, h4⟩, RowH.other (by omega) h2 ⟨_, _, _, h4⟩, RowH.other (by omega) h3 ⟨_, _, _, h4⟩, h4.set t b, Ext.st (by omega) h5, h6, h7⟩
set_option maxHeartbeats 2000000 in
theorem blk_any (st : List Nat) (HMix : MixC st) (w : World) (hG : Gl w) :
    Calls Tryd.prog 31 #[.agg (lst .u32 (gf st) 16).toArray] w fun e w' => e = .returned (.agg (lst .u8 (blkB st) 64).toArray) ∧ Ext w w' := by
  have HN : SizeLe w w.heap.size := Nat.le_refl _
  have HE0 : Ext w ((w.alloc (Obj.cells (lst IntKind.u32 (gf st) 16).toArray 54)).alloc (Obj.cells #[.int .u8 0, .int .u8 0, .int .u8 0, .int .u8 0, .int .u8 0, .int .u8 0, .int .u8 0, .int .u8 0, .int .u8 0, .int .u8 0, .int .u8 0, .int .u8 0, .int .u8 0, .int .u8 0, .int .u8 0, .int .u8 0, .int .u8 0, .int .u8 0, .int .u8 0, .int .u8 0, .int .u8 0, .int .u8 0, .int .u8 0, .int .u8 0, .int .u8 0, .int .u8 0, .int .u8 0, .int .u8 0, .int .u8 0, .int .u8 0, .int .u8 0, .int .u8 0, .int .u8 0, .int .u8 0, .int .u8 0, .int .u8 0, .int .u8 0, .int .u8 0, .int .u8 0, .int .u8 0, .int .u8 0, .int .u8 0, .int .u8 0, .int .u8 0, .int .u8 0, .int .u8 0, .int .u8 0, .int .u8 0, .int .u8 0, .int .u8 0, .int .u8 0, .int .u8 0, .int .u8 0, .int .u8 0, .int .u8 0, .int .u8 0, .int .u8 0, .int .u8 0, .int .u8 0, .int .u8 0, .int .u8 0, .int .u8 0, .int .u8 0, .int .u8 0] 61)) := ((Ext.refl _).alloc _).alloc _
  have HR0 : RowH ((w.alloc (Obj.cells (lst IntKind.u32 (gf st) 16).toArray 54)).alloc (Obj.cells #[.int .u8 0, .int .u8 0, .int .u8 0, .int .u8 0, .int .u8 0, .int .u8 0, .int .u8 0, .int .u8 0, .int .u8 0, .int .u8 0, .int .u8 0, .int .u8 0, .int .u8 0, .int .u8 0, .int .u8 0, .int .u8 0, .int .u8 0, .int .u8 0, .int .u8 0, .int .u8 0, .int .u8 0, .int .u8 0, .int .u8 0, .int .u8 0, .int .u8 0, .int .u8 0, .int .u8 0, .int .u8 0, .int .u8 0, .int .u8 0, .int .u8 0, .int .u8 0, .int .u8 0, .int .u8 0, .int .u8 0, .int .u8 0, .int .u8 0, .int .u8 0, .int .u8 0, .int .u8 0, .int .u8 0, .int .u8 0, .int .u8 0, .int .u8 0, .int .u8 0, .int .u8 0, .int .u8 0, .int .u8 0, .int .u8 0, .int .u8 0, .int .u8 0, .int .u8 0, .int .u8 0, .int .u8 0, .int .u8 0, .int .u8 0, .int .u8 0, .int .u8 0, .int .u8 0, .int .u8 0, .int .u8 0, .int .u8 0, .int .u8 0, .int .u8 0] 61)) w.heap.size 54 .u32 16 (gf st) := by
    unfold RowH
    rw [heap_alloc_old _ _ (by simp), heap_alloc_new]
  have HZ0 : RowH ((w.alloc (Obj.cells (lst IntKind.u32 (gf st) 16).toArray 54)).alloc (Obj.cells #[.int .u8 0, .int .u8 0, .int .u8 0, .int .u8 0, .int .u8 0, .int .u8 0, .int .u8 0, .int .u8 0, .int .u8 0, .int .u8 0, .int .u8 0, .int .u8 0, .int .u8 0, .int .u8 0, .int .u8 0, .int .u8 0, .int .u8 0, .int .u8 0, .int .u8 0, .int .u8 0, .int .u8 0, .int .u8 0, .int .u8 0, .int .u8 0, .int .u8 0, .int .u8 0, .int .u8 0, .int .u8 0, .int .u8 0, .int .u8 0, .int .u8 0, .int .u8 0, .int .u8 0, .int .u8 0, .int .u8 0, .int .u8 0, .int .u8 0, .int .u8 0, .int .u8 0, .int .u8 0, .int .u8 0, .int .u8 0, .int .u8 0, .int .u8 0, .int .u8 0, .int .u8 0, .int .u8 0, .int .u8 0, .int .u8 0, .int .u8 0, .int .u8 0, .int .u8 0, .int .u8 0, .int .u8 0, .int .u8 0, .int .u8 0, .int .u8 0, .int .u8 0, .int .u8 0, .int .u8 0, .int .u8 0, .int .u8 0, .int .u8 0, .int .u8 0] 61)) (w.heap.size + 1) 61 .u8 64 (fun _ => 0) := by
    have := RowH.new (w.alloc (Obj.cells (lst IntKind.u32 (gf st) 16).toArray 54)) .u8 64 61
    rw [show (w.alloc (Obj.cells (lst IntKind.u32 (gf st) 16).toArray 54)).heap.size = w.heap.size + 1 by simp] at this
    exact this
  have hG0 := hG.ext HE0
  have HMx : Hid (MixC st) := HMix
  clear HMix hG
  go_enter Tryd.func31, Tryd.ntmps31
  go_wp2_with (first | (refine wpList_load_row rfl 54 _ rfl w.heap.size rfl 54 (lst .u32 (gf st) 16).toArray (0, 0) _ HR0 Tryd.underlying54 rfl (by rw [Tryd.size54]; simp [lst_len]) ?_))
  generalize ((w.alloc (Obj.cells (lst IntKind.u32 (gf st) 16).toArray 54)).alloc (Obj.cells #[.int .u8 0, .int .u8 0, .int .u8 0, .int .u8 0, .int .u8 0, .int .u8 0, .int .u8 0, .int .u8 0, .int .u8 0, .int .u8 0, .int .u8 0, .int .u8 0, .int .u8 0, .int .u8 0, .int .u8 0, .int .u8 0, .int .u8 0, .int .u8 0, .int .u8 0, .int .u8 0, .int .u8 0, .int .u8 0, .int .u8 0, .int .u8 0, .int .u8 0, .int .u8 0, .int .u8 0, .int .u8 0, .int .u8 0, .int .u8 0, .int .u8 0, .int .u8 0, .int .u8 0, .int .u8 0, .int .u8 0, .int .u8 0, .int .u8 0, .int .u8 0, .int .u8 0, .int .u8 0, .int .u8 0, .int .u8 0, .int .u8 0, .int .u8 0, .int .u8 0, .int .u8 0, .int .u8 0, .int .u8 0, .int .u8 0, .int .u8 0, .int .u8 0, .int .u8 0, .int .u8 0, .int .u8 0, .int .u8 0, .int .u8 0, .int .u8 0, .int .u8 0, .int .u8 0, .int .u8 0, .int .u8 0, .int .u8 0, .int .u8 0, .int .u8 0] 61)) = W0 at *
  generalize hn : w.heap.size = n at *
  clear hn
  refine (HMx.out W0 hG0).mono ?_
  rintro e w1 ⟨rfl, HX1⟩
  have HR1 := HR0.ext HX1
  have HZ1 := HZ0.ext HX1
  have HE1 := HE0.trans HX1
  clear HX1 HMx hG0 HR0 HZ0 HE0
  have hpn : n + 1 < w1.heap.size := HZ1.lt
  have HA : RowH (w1.alloc (Obj.cells #[.int .u32 0, .int .u32 0, .int .u32 0, .int .u32 0, .int .u32 0, .int .u32 0, .int .u32 0, .int .u32 0, .int .u32 0, .int .u32 0, .int .u32 0, .int .u32 0, .int .u32 0, .int .u32 0, .int .u32 0, .int .u32 0] 54)) w1.heap.size 54 .u32 16 (fun _ => 0) := RowH.new w1 .u32 16 54
  have HB0 : Hid (BS w (((w1.alloc (Obj.cells #[.int .u32 0, .int .u32 0, .int .u32 0, .int .u32 0, .int .u32 0, .int .u32 0, .int .u32 0, .int .u32 0, .int .u32 0, .int .u32 0, .int .u32 0, .int .u32 0, .int .u32 0, .int .u32 0, .int .u32 0, .int .u32 0] 54)).setRow w1.heap.size (lst .u32 (gf (rnd st 10)) 16).toArray).alloc (Obj.cells #[.int .u8 0, .int .u8 0, .int .u8 0, .int .u8 0, .int .u8 0, .int .u8 0, .int .u8 0, .int .u8 0, .int .u8 0, .int .u8 0, .int .u8 0, .int .u8 0, .int .u8 0, .int .u8 0, .int .u8 0, .int .u8 0, .int .u8 0, .int .u8 0, .int .u8 0, .int .u8 0, .int .u8 0, .int .u8 0, .int .u8 0, .int .u8 0, .int .u8 0, .int .u8 0, .int .u8 0, .int .u8 0, .int .u8 0, .int .u8 0, .int .u8 0, .int .u8 0, .int .u8 0, .int .u8 0, .int .u8 0, .int .u8 0, .int .u8 0, .int .u8 0, .int .u8 0, .int .u8 0, .int .u8 0, .int .u8 0, .int .u8 0, .int .u8 0, .int .u8 0, .int .u8 0, .int .u8 0, .int .u8 0, .int .u8 0, .int .u8 0, .int .u8 0, .int .u8 0, .int .u8 0, .int .u8 0, .int .u8 0, .int .u8 0, .int .u8 0, .int .u8 0, .int .u8 0, .int .u8 0, .int .u8 0, .int .u8 0, .int .u8 0, .int .u8 0] 61)) n w1.heap.size st (bpart st 0)) := by
    have hx1 : Ext w1 ((w1.alloc (Obj.cells #[.int .u32 0, .int .u32 0, .int .u32 0, .int .u32 0, .int .u32 0, .int .u32 0, .int .u32 0, .int .u32 0, .int .u32 0, .int .u32 0, .int .u32 0, .int .u32 0, .int .u32 0, .int .u32 0, .int .u32 0, .int .u32 0] 54)).setRow w1.heap.size (lst .u32 (gf (rnd st 10)) 16).toArray) := ((Ext.refl w1).alloc _).row (Nat.le_refl _) _
    have hx2 := hx1.alloc (Obj.cells #[.int .u8 0, .int .u8 0, .int .u8 0, .int .u8 0, .int .u8 0, .int .u8 0, .int .u8 0, .int .u8 0, .int .u8 0, .int .u8 0, .int .u8 0, .int .u8 0, .int .u8 0, .int .u8 0, .int .u8 0, .int .u8 0, .int .u8 0, .int .u8 0, .int .u8 0, .int .u8 0, .int .u8 0, .int .u8 0, .int .u8 0, .int .u8 0, .int .u8 0, .int .u8 0, .int .u8 0, .int .u8 0, .int .u8 0, .int .u8 0, .int .u8 0, .int .u8 0, .int .u8 0, .int .u8 0, .int .u8 0, .int .u8 0, .int .u8 0, .int .u8 0, .int .u8 0, .int .u8 0, .int .u8 0, .int .u8 0, .int .u8 0, .int .u8 0, .int .u8 0, .int .u8 0, .int .u8 0, .int .u8 0, .int .u8 0, .int .u8 0, .int .u8 0, .int .u8 0, .int .u8 0, .int .u8 0, .int .u8 0, .int .u8 0, .int .u8 0, .int .u8 0, .int .u8 0, .int .u8 0, .int .u8 0, .int .u8 0, .int .u8 0, .int .u8 0] 61)
    have hN := RowH.new ((w1.alloc (Obj.cells #[.int .u32 0, .int .u32 0, .int .u32 0, .int .u32 0, .int .u32 0, .int .u32 0, .int .u32 0, .int .u32 0, .int .u32 0, .int .u32 0, .int .u32 0, .int .u32 0, .int .u32 0, .int .u32 0, .int .u32 0, .int .u32 0] 54)).setRow w1.heap.size (lst .u32 (gf (rnd st 10)) 16).toArray) .u8 64 61
    rw [show ((w1.alloc (Obj.cells #[.int .u32 0, .int .u32 0, .int .u32 0, .int .u32 0, .int .u32 0, .int .u32 0, .int .u32 0, .int .u32 0, .int .u32 0, .int .u32 0, .int .u32 0, .int .u32 0, .int .u32 0, .int .u32 0, .int .u32 0, .int .u32 0] 54)).setRow w1.heap.size (lst .u32 (gf (rnd st 10)) 16).toArray).heap.size = w1.heap.size + 1 by simp [World.setRow]] at hN
    exact ⟨HR1.ext hx2, HZ1.ext hx2, (HA.row _).ext ((Ext.refl _).alloc _), hN, HE1.trans hx2, hpn, HN⟩
  go_wp2_with (first | (refine wpList_store_row rfl 54 _ _ rfl w1.heap.size (lst .u32 (gf (rnd st 10)) 16).toArray rfl rfl 54 _ HA (by rw [Tryd.size54]; simp [lst_len]) (by simp [lst_len]) (lst_one _ _ _) ?_))
  clear HR1 HZ1 HE1 HA hpn
  generalize ((w1.alloc (Obj.cells #[.int .u32 0, .int .u32 0, .int .u32 0, .int .u32 0, .int .u32 0, .int .u32 0, .int .u32 0, .int .u32 0, .int .u32 0, .int .u32 0, .int .u32 0, .int .u32 0, .int .u32 0, .int .u32 0, .int .u32 0, .int .u32 0] 54)).setRow w1.heap.size (lst .u32 (gf (rnd st 10)) 16).toArray).alloc (Obj.cells #[.int .u8 0, .int .u8 0, .int .u8 0, .int .u8 0, .int .u8 0, .int .u8 0, .int .u8 0, .int .u8 0, .int .u8 0, .int .u8 0, .int .u8 0, .int .u8 0, .int .u8 0, .int .u8 0, .int .u8 0, .int .u8 0, .int .u8 0, .int .u8 0, .int .u8 0, .int .u8 0, .int .u8 0, .int .u8 0, .int .u8 0, .int .u8 0, .int .u8 0, .int .u8 0, .int .u8 0, .int .u8 0, .int .u8 0, .int .u8 0, .int .u8 0, .int .u8 0, .int .u8 0, .int .u8 0, .int .u8 0, .int .u8 0, .int .u8 0, .int .u8 0, .int .u8 0, .int .u8 0, .int .u8 0, .int .u8 0, .int .u8 0, .int .u8 0, .int .u8 0, .int .u8 0, .int .u8 0, .int .u8 0, .int .u8 0, .int .u8 0, .int .u8 0, .int .u8 0, .int .u8 0, .int .u8 0, .int .u8 0, .int .u8 0, .int .u8 0, .int .u8 0, .int .u8 0, .int .u8 0, .int .u8 0, .int .u8 0, .int .u8 0, .int .u8 0] 61) = W2 at *
  generalize w1.heap.size = p at *
  clear w1
  go_loopw [10] (fun u10 wr => ∃ (i t : Nat), i ≤ 16 ∧ t = 4 * i ∧ u10 = .int .i64 i ∧ Hid (BS w wr n p st (bpart st t))) (fun u10 _ => 16 - (intOf u10).toNat)
  case atStart => exact ⟨0, 0, by omega, rfl, rfl, HB0⟩
  case round =>
    clear HB0
    obtain ⟨i, t0, hi16, ht0, rfl, HB⟩ := hrel
    have HT0 : Hid (t0 = 4 * i) := ht0
    clear ht0
    by_cases hil : i < 16
    · have hi1 : (i : Int) < 16 := by omega
      have hi0 : (0 : Int) ≤ (i : Int) := by omega
      have c1 := (HB.out.1.tab.2 i hil).1
      have c2 := (HB.out.2.2.1.tab.2 i hil).1
      obtain ⟨wd, hwd⟩ : ∃ wd, outW st i = wd := ⟨_, rfl⟩
      have hsum : IntKind.u32.wrap ((gf (rnd st 10) i : Int) + (gf st i : Int)) = (wd : Int) := by
        rw [← hwd, IntKind.wrap_u32']
        show _ = (((gf st i + gf (rnd st 10) i) % 4294967296 : Nat) : Int)
        omega
      have HWd : Hid (outW st i = wd) := hwd
      clear hwd
      generalize gf st i = vx at c1 hsum
      generalize gf (rnd st 10) i = vy at c2 hsum
      go_wp2_with fail
      go_quiet (fail)
      have HB1 : Hid (BS w (wr.drewN nq) n p st (bpart st t0)) := HB.out.drewN nq
      clear HB c1 c2 hsum
      generalize wr.drewN nq = W3 at *
      go_wp2_with fail
      go_loopw [20] (fun u20 wr => ∃ (k t : Nat), k ≤ 4 ∧ t = t0 + k ∧ u20 = .int .i64 k ∧ Hid (BS w wr n p st (bpart st t))) (fun u20 _ => 4 - (intOf u20).toNat)
      case atStart => exact ⟨0, t0, by omega, rfl, rfl, HB1⟩
      case round =>
        clear HB1
        obtain ⟨k, t, hk4, ht, rfl, HB⟩ := hrel
        have HT : Hid (t = t0 + k) := ht
        clear ht
        by_cases hkl : k < 4
        · have hk1 : (k : Int) < 4 := by omega
          obtain ⟨e, t', b, m1, m2, m3, et, lt, mb, eb⟩ := byte_num st i k hil hkl
          obtain rfl : t = t' := by have := HT.out; have := HT0.out; omega
          rw [HWd.out] at mb
          have hz := (HB.out.2.2.2.1.tab.2 t lt).2
          have gz := (HB.out.2.2.2.1.tab.2 t lt).1
          have HB2 : Hid (BS w (wr.setCell ⟨p + 1, t, none⟩ (.int .u8 (b : Int))) n p st (bpart st (t + 1))) := by
            have h := HB.out.set t b
            rw [eb, bpart_step] at h
            rw [eb]
            exact h
          have e0 : (0 : Int) ≤ (e : Int) := by omega
          have l0 : (0 : Int) ≤ (t : Int) := by omega
          have l1 : (t : Int) < 64 := by omega
          clear et lt eb HB
          go_wp2_with fail
          go_roundw
          case rel => exact ⟨k + 1, t + 1, hkl, by have := HT.out; omega, by go_num, HB2⟩
          case measure => simp [intOf]; omega
        · have HK4 : Hid (k = 4) := (by omega : k = 4)
          have hnk : ¬ (k : Int) < 4 := by omega
          go_wp2
          go_roundw
          case rel => exact ⟨i + 1, t, hil, by have := HT.out; have := HT0.out; have := HK4.out; omega, by go_num, HB⟩
          case measure => simp [intOf]; omega
    · have HI16 : Hid (t0 = 64) := (by have := HT0.out; omega : t0 = 64)
      have hni : ¬ (i : Int) < 16 := by omega
      rw [HI16.out] at HB
      have HBl : lst .u8 (bpart st 64) 64 = lst .u8 (blkB st) 64 := lst_congr (fun k hk => if_pos hk)
      have HRa := HB.out.2.2.2.1
      unfold RowH at HRa
      rw [HBl] at HRa
      have HRz := HB.out.2.1
      have HE := Ext.row HB.out.2.2.2.2.1 (b := n + 1) (Nat.le_succ_of_le HN) (lst .u8 (blkB st) 64).toArray
      have HRr := HRz.row (blkB st)
      clear HBl
      go_wp2_with (first | (refine wpList_load_row rfl 61 _ rfl (p + 1) rfl 61 (lst .u8 (blkB st) 64).toArray (0, 0) _ HRa Tryd.underlying61 rfl (by rw [Tryd.size61]; simp [lst_len]) ?_) | (refine wpList_store_row rfl 61 _ _ rfl (n + 1) (lst .u8 (blkB st) 64).toArray rfl rfl 61 _ HRz (by rw [Tryd.size61]; simp [lst_len]) (by simp [lst_len]) (lst_one _ _ _) ?_))
      refine bodyPost_ret (v := .agg (lst .u8 (blkB st) 64).toArray) (results_cell_row Tryd.results31 _ _ (n + 1) 61 _ (0, 0) _ rfl HRr Tryd.underlying61 rfl (by rw [Tryd.size61]; simp [lst_len])) rfl ⟨rfl, HE⟩
end Go.Proofs.YtbcgipapbamgfaaDoor
