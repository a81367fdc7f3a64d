/-
  hmac.masked, called: the key's 64 bytes, each xored; nothing old is turned.
-/
import Derived.Test.YtpfeakdpckmcgaaDoorShaT
import Derived.Test.YtpfeakdpckmcgaaDoorPads
namespace Go.Proofs.YtpfeakdpckmcgaaDoor
open Go.RowKit
/-- The state of masked's run: the bytes in block n. -/
def MS (w wr : World) (n : Nat) (T : Nat → Nat) : Prop := RowH wr n 89 .u8 64 T ∧ Ext w wr ∧ w.heap.size ≤ n
theorem MS.put {w wr : World} {n : Nat} {T : Nat → Nat} (h : MS w wr n T) (o v : Nat) : MS w (wr.setCell ⟨n, o, none⟩ (.int .u8 (v : Int))) n (put T o v) :=
  ⟨h.1.set o v, Ext.st h.2.2 h.2.1, h.2.2⟩
theorem MS.lay (w : World) (T : Nat → Nat) : MS w (w.alloc (.cells (lst .u8 T 64).toArray 89)) w.heap.size T := ⟨heap_alloc_new w _, (Ext.refl _).alloc _, Nat.le_refl _⟩
set_option maxRecDepth 100000 in
set_option maxHeartbeats 2000000 in
theorem masked_any (T : Nat → Nat) (hT : ∀ j, T j < 256) (x : Nat) (hx : x < 256) (w : World) :
    Calls Tryd.prog 55 #[.agg (lst .u8 T 64).toArray, .int .u8 (x : Int)] w fun e w' => e = .returned (.string (mkS (fun i => T i ^^^ x) 64)) ∧ Ext w w' := by
  obtain ⟨SS, HSS⟩ : ∃ SS, Hid (mkS (fun i => T i ^^^ x) 64 = SS) := ⟨_, rfl⟩
  rw [HSS.out]
  have HS0 : Hid (MS w (w.alloc (.cells (lst .u8 T 64).toArray 89)) w.heap.size T) := MS.lay w T
  have HL : Hid (∀ j, T j < 256) := hT
  clear hT
  go_enter Tryd.func55, Tryd.ntmps55
  go_wp2
  generalize w.alloc (.cells (lst .u8 T 64).toArray 89) = W0 at *
  generalize w.heap.size = n at *
  go_loopw [6] (fun u6 wr => ∃ (i : Nat), i ≤ 64 ∧ u6 = .int .i64 i ∧ Hid (MS w wr n (xorF T x i))) (fun u6 _ => 64 - (intOf u6).toNat)
  case atStart => exact ⟨0, by omega, rfl, by rw [xorF_zero]; exact HS0⟩
  case round =>
    clear HS0
    obtain ⟨i, hi, rfl, HS⟩ := hrel
    by_cases hlt : i < 64
    · have h1 : (i : Int) < 64 := by omega
      have h0 : (0 : Int) ≤ (i : Int) := by omega
      obtain ⟨gc, gf⟩ := HS.out.1.tab.2 i hlt
      rw [xorF_at] at gc
      have hxo := u8_xor_nat (T i) x (HL.out i) hx
      have HS3 : Hid (MS w (wr.setCell ⟨n, i, none⟩ (.int .u8 ((T i ^^^ x : Nat) : Int))) n (xorF T x (i + 1))) := by
        have h := HS.out.put i (T i ^^^ x)
        rw [xorF_step] at h
        exact h
      clear HS
      generalize T i ^^^ x = r at *
      generalize T i = bv at *
      go_wp2
      go_roundw
      case rel => exact ⟨i + 1, hlt, by go_num, HS3⟩
      case measure => simp [intOf]; omega
    · have HT : Hid (i = 64) := (by omega : i = 64)
      have hnl : ¬ (i : Int) < 64 := by omega
      have HSl : SlIs wr (.slice (some ⟨n, 0, none⟩) 64 64) (lst .u8 (fun j => T j ^^^ x) 64) := by
        have h3 := HS.out.1
        rw [HT.out] at h3
        have h4 := (h3.congr (S := fun j => T j ^^^ x) fun j hj => if_pos hj).tab
        exact h4.slice (by decide)
      have hcv := run_lst_string Tryd.prog 5 62 9 Tryd.underlying62 Tryd.underlying5 Tryd.underlying9 wr (fun j => T j ^^^ x) 64 _ HSl (by decide)
      rw [HSS.out] at hcv
      have HE : Hid (Ext w wr) := HS.out.2.1
      clear HSl HS
      go_wp2
      go_ret
      exact ⟨rfl, HE.out⟩
end Go.Proofs.YtpfeakdpckmcgaaDoor
