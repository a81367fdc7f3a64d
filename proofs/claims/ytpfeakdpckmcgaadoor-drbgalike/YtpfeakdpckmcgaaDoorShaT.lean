/-
  sha.text, called: the 32 bytes of eight words; nothing old is turned.
-/
import Derived.Test.YtpfeakdpckmcgaaDoorShaB
namespace Go.Proofs.YtpfeakdpckmcgaaDoor
set_option maxRecDepth 10000
open Go.RowKit
/-- Byte j of eight words, of each the highest first. -/
def wB (h : Nat → Nat) (j : Nat) : Nat := h (j / 4) / 256 ^ (3 - j % 4) % 256
/-- The first m bytes are laid. -/
def wT (h : Nat → Nat) (m : Nat) : Nat → Nat := fun j => if j < m then wB h j else 0
theorem wT_zero (h : Nat → Nat) : wT h 0 = fun _ => 0 := by funext j; unfold wT; rw [if_neg (by omega)]
theorem wT_step (h : Nat → Nat) (m : Nat) : put (wT h m) m (wB h m) = wT h (m + 1) := by
  funext j
  unfold put wT
  by_cases e : j = m
  · rw [if_pos e, if_pos (by omega), e]
  · rw [if_neg e]
    by_cases h1 : j < m
    · rw [if_pos h1, if_pos (by omega)]
    · rw [if_neg h1, if_neg (by omega)]
/-- The state of text's run: the bytes in block n + 1. -/
def TS (w wr : World) (n : Nat) (T : Nat → Nat) : Prop := RowH wr (n + 1) 57 .u8 32 T ∧ Ext w wr ∧ w.heap.size ≤ n
theorem TS.ext {w wr wy : World} {n : Nat} {T : Nat → Nat} (h : TS w wr n T) (hx : Ext wr wy) : TS w wy n T := ⟨h.1.ext hx, h.2.1.trans hx, h.2.2⟩
theorem TS.put {w wr : World} {n : Nat} {T : Nat → Nat} (h : TS w wr n T) (o v : Nat) : TS w (wr.setCell ⟨n + 1, o, none⟩ (.int .u8 (v : Int))) n (put T o v) :=
  ⟨h.1.set o v, Ext.st (by have := h.2.2; omega) h.2.1, h.2.2⟩
theorem lst8t (T : Nat → Nat) : (lst .u32 T 8).toArray = #[.int .u32 (T 0 : Int), .int .u32 (T 1 : Int), .int .u32 (T 2 : Int), .int .u32 (T 3 : Int), .int .u32 (T 4 : Int), .int .u32 (T 5 : Int), .int .u32 (T 6 : Int), .int .u32 (T 7 : Int)] := rfl
theorem Tryd.cells80 : Tryd.prog.cellsOf 80 = 1 := by kernel_rfl
theorem Tryd.size80 : (Tryd.prog.info? 80).map (·.size) = some 1 := by kernel_rfl
theorem run_index8 (h : Nat → Nat) (i : Nat) (hi : i < 8) (w : World) : (Instr.index 98 (.agg #[.int .u32 (h 0 : Int), .int .u32 (h 1 : Int), .int .u32 (h 2 : Int), .int .u32 (h 3 : Int), .int .u32 (h 4 : Int), .int .u32 (h 5 : Int), .int .u32 (h 6 : Int), .int .u32 (h 7 : Int)]) (.int .i64 (i : Int))).run Tryd.prog w = .ok (.int .u32 (h i : Int)) w := by
  have : i = 0 ∨ i = 1 ∨ i = 2 ∨ i = 3 ∨ i = 4 ∨ i = 5 ∨ i = 6 ∨ i = 7 := by omega
  have hs := Tryd.size80
  cases hq : Tryd.prog.info? 80 with
  | none => simp [hq] at hs
  | some t =>
    simp [hq] at hs
    rcases this with rfl | rfl | rfl | rfl | rfl | rfl | rfl | rfl <;> simp [Instr.index, run_underlying Tryd.underlying98, asIntOf, go_sem, sizeOf, typeInfo, hq, hs]
set_option maxRecDepth 100000 in
set_option maxHeartbeats 2000000 in
theorem text_any (h : Nat → Nat) (w : World) :
    Calls Tryd.prog 61 #[.agg (lst .u32 h 8).toArray] w fun e w' => e = .returned (.string (mkS (wB h) 32)) ∧ Ext w w' := by
  rw [lst8t]
  obtain ⟨SS, HSS⟩ : ∃ SS, Hid (mkS (wB h) 32 = SS) := ⟨_, rfl⟩
  rw [HSS.out]
  have h2 := RowH.new (w.alloc (.cells #[.int .u32 (h 0 : Int), .int .u32 (h 1 : Int), .int .u32 (h 2 : Int), .int .u32 (h 3 : Int), .int .u32 (h 4 : Int), .int .u32 (h 5 : Int), .int .u32 (h 6 : Int), .int .u32 (h 7 : Int)] 98)) .u8 32 57
  have s1 : (w.alloc (.cells #[.int .u32 (h 0 : Int), .int .u32 (h 1 : Int), .int .u32 (h 2 : Int), .int .u32 (h 3 : Int), .int .u32 (h 4 : Int), .int .u32 (h 5 : Int), .int .u32 (h 6 : Int), .int .u32 (h 7 : Int)] 98)).heap.size = w.heap.size + 1 := by simp
  rw [s1] at h2
  have HS0 : Hid (TS w ((w.alloc (.cells #[.int .u32 (h 0 : Int), .int .u32 (h 1 : Int), .int .u32 (h 2 : Int), .int .u32 (h 3 : Int), .int .u32 (h 4 : Int), .int .u32 (h 5 : Int), .int .u32 (h 6 : Int), .int .u32 (h 7 : Int)] 98)).alloc (.cells #[.int .u8 0, .int .u8 0, .int .u8 0, .int .u8 0, .int .u8 0, .int .u8 0, .int .u8 0, .int .u8 0, .int .u8 0, .int .u8 0, .int .u8 0, .int .u8 0, .int .u8 0, .int .u8 0, .int .u8 0, .int .u8 0, .int .u8 0, .int .u8 0, .int .u8 0, .int .u8 0, .int .u8 0, .int .u8 0, .int .u8 0, .int .u8 0, .int .u8 0, .int .u8 0, .int .u8 0, .int .u8 0, .int .u8 0, .int .u8 0, .int .u8 0, .int .u8 0] 57)) w.heap.size (wT h 0)) := by rw [wT_zero]; exact ⟨h2, ((Ext.refl _).alloc _).alloc _, Nat.le_refl _⟩
  clear h2 s1
  go_enter Tryd.func61, Tryd.ntmps61
  go_wp2
  generalize ((w.alloc (.cells #[.int .u32 (h 0 : Int), .int .u32 (h 1 : Int), .int .u32 (h 2 : Int), .int .u32 (h 3 : Int), .int .u32 (h 4 : Int), .int .u32 (h 5 : Int), .int .u32 (h 6 : Int), .int .u32 (h 7 : Int)] 98)).alloc (.cells #[.int .u8 0, .int .u8 0, .int .u8 0, .int .u8 0, .int .u8 0, .int .u8 0, .int .u8 0, .int .u8 0, .int .u8 0, .int .u8 0, .int .u8 0, .int .u8 0, .int .u8 0, .int .u8 0, .int .u8 0, .int .u8 0, .int .u8 0, .int .u8 0, .int .u8 0, .int .u8 0, .int .u8 0, .int .u8 0, .int .u8 0, .int .u8 0, .int .u8 0, .int .u8 0, .int .u8 0, .int .u8 0, .int .u8 0, .int .u8 0, .int .u8 0, .int .u8 0] 57)) = W0 at *
  generalize w.heap.size = n at *
  go_loopw [8] (fun u8 wr => ∃ (i : Nat), i ≤ 8 ∧ u8 = .int .i64 i ∧ Hid (TS w wr n (wT h (4 * i)))) (fun u8 _ => 8 - (intOf u8).toNat)
  case atStart => exact ⟨0, by omega, rfl, HS0⟩
  case round =>
    clear HS0
    obtain ⟨i, hi, rfl, HS⟩ := hrel
    by_cases hlt : i < 8
    · have h1 : (i : Int) < 8 := by omega
      have h0 : (0 : Int) ≤ (i : Int) := by omega
      have ha := fun wx => run_index8 h i hlt wx
      obtain ⟨p, hp⟩ : ∃ p, 4 * i = p := ⟨_, rfl⟩
      have hpw : IntKind.i64.wrap (4 * (i : Int)) = (p : Int) := by rw [IntKind.wrap_i64]; omega
      rw [hp] at HS
      have HP : Hid (4 * i = p) := hp
      have hp32 : p + 4 ≤ 32 := by omega
      clear hp
      obtain ⟨hv, HHV⟩ : ∃ hv, Hid (h i = hv) := ⟨_, rfl⟩
      simp only [HHV.out] at ha
      go_wp2
      go_loopw [12] (fun u12 wr => ∃ (k : Nat), k ≤ 4 ∧ u12 = .int .i64 k ∧ Hid (TS w wr n (wT h (p + k)))) (fun u12 _ => 4 - (intOf u12).toNat)
      case atStart => exact ⟨0, by omega, rfl, HS⟩
      case round =>
        clear HS
        obtain ⟨k, hk, rfl, HS⟩ := hrel
        by_cases hlt4 : k < 4
        · have a1 : (k : Int) < 4 := by omega
          have a0 : (0 : Int) ≤ (k : Int) := by omega
          obtain ⟨q, hq⟩ : ∃ q, p + k = q := ⟨_, rfl⟩
          have hqw : IntKind.i64.wrap ((p : Int) + (k : Int)) = (q : Int) := by rw [IntKind.wrap_i64]; omega
          have q0 : (0 : Int) ≤ (q : Int) := by omega
          have q1 : (q : Int) < 32 := by omega
          obtain ⟨g8, hg8⟩ : ∃ g8, 8 * k = g8 := ⟨_, rfl⟩
          have b1 : IntKind.i64.wrap (8 * (k : Int)) = (g8 : Int) := by rw [IntKind.wrap_i64]; omega
          obtain ⟨e8, he8⟩ : ∃ e8, 24 - g8 = e8 := ⟨_, rfl⟩
          have b2 : IntKind.i64.wrap (24 - (g8 : Int)) = (e8 : Int) := by rw [IntKind.wrap_i64]; omega
          have b3 : (0 : Int) ≤ (e8 : Int) := by omega
          have b4 : e8 < 32 := by omega
          obtain ⟨bv, HBV⟩ : ∃ bv, Hid (wB h q = bv) := ⟨_, rfl⟩
          have hval : (hv : Int) / 2 ^ e8 % 256 = (bv : Int) := by
            rw [byte_sh, ← HBV.out]
            unfold wB
            rw [show q / 4 = i from by have := HP.out; omega, HHV.out, pow_256b, show 8 * (3 - q % 4) = e8 from by have := HP.out; omega]
          have hvalw : IntKind.u8.wrap ((hv : Int) / 2 ^ e8) = (bv : Int) := by rw [IntKind.wrap_u8']; exact hval
          rw [hq] at HS
          obtain ⟨gc, gf⟩ := HS.out.1.tab.2 q (by omega)
          have HS3 : Hid (TS w (wr.setCell ⟨n + 1, q, none⟩ (.int .u8 (bv : Int))) n (wT h (p + (k + 1)))) := by
            have h := HS.out.put q bv
            rw [← HBV.out, wT_step] at h
            rw [show p + (k + 1) = q + 1 from by omega, ← HBV.out]
            exact h
          clear HS hq hg8 he8
          go_wp2
          go_roundw
          case rel => exact ⟨k + 1, hlt4, by go_num, HS3⟩
          case measure => simp [intOf]; omega
        · have HT : Hid (k = 4) := (by omega : k = 4)
          have hnl : ¬ (k : Int) < 4 := by omega
          have HS4 : Hid (TS w wr n (wT h (4 * (i + 1)))) := by
            have h := HS.out
            rwa [show p + k = 4 * (i + 1) from by have := HP.out; have := HT.out; omega] at h
          clear HS
          go_wp2
          go_roundw
          case rel => exact ⟨i + 1, hlt, by go_num, HS4⟩
          case measure => simp [intOf]; omega
    · have HT : Hid (i = 8) := (by omega : i = 8)
      have hnl : ¬ (i : Int) < 8 := by omega
      have HSl : SlIs wr (.slice (some ⟨n + 1, 0, none⟩) 32 32) (lst .u8 (wB h) 32) := by
        have h3 := HS.out.1
        rw [HT.out] at h3
        have h4 := (h3.congr (S := wB h) fun j hj => if_pos hj).tab
        exact h4.slice (by decide)
      have hcv := run_lst_string Tryd.prog 5 62 9 Tryd.underlying62 Tryd.underlying5 Tryd.underlying9 wr (wB h) 32 _ HSl (by decide)
      rw [HSS.out] at hcv
      have HE : Hid (Ext w wr) := HS.out.2.1
      clear HSl HS
      go_wp2
      go_ret
      exact ⟨rfl, HE.out⟩
end Go.Proofs.YtpfeakdpckmcgaaDoor
