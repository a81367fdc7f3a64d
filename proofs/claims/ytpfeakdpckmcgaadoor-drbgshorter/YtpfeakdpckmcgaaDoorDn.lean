/-
  New, called.
-/
import Derived.Test.YtpfeakdpckmcgaaDoorDw
namespace Go.Proofs.YtpfeakdpckmcgaaDoor
set_option maxRecDepth 10000
open Go.RowKit
theorem sb_mkS {T : Nat → Nat} {n i : Nat} (hi : i < n) (hT : T i < 256) : sb (mkS T n) i = T i := by
  show ((((List.range n).map fun i => UInt8.ofNat (T i)).toArray.toList.getD i 0).toNat) = T i
  rw [List.getD_eq_getElem?_getD, List.getElem?_eq_getElem (by simpa using hi)]
  simp
  omega
def z59 : Array Value := (lst .u8 (fun _ => 0) 64 ++ [Value.int .i64 0]).toArray
theorem z59_run (w : World) : (zeroValue 59).run Tryd.prog w = .ok (.agg z59) w := by kernel_rfl
theorem z59_cells : Tryd.zeroCells59 = z59 := by kernel_rfl
theorem z59_size : z59.size = 65 := by kernel_rfl
theorem z59_ne : z59 ≠ #[] := fun e => by have := congrArg Array.size e; rw [z59_size] at this; cases this
theorem z59_at (j : Nat) (h : j < 65) : z59[j]? = some (if j < 64 then .int .u8 0 else .int .i64 0) := by
  unfold z59
  rw [List.getElem?_toArray]
  by_cases e : j < 64
  · rw [if_pos e, List.getElem?_append_left (by rw [lst_len]; exact e), lst_get e]; rfl
  · rw [if_neg e, List.getElem?_append_right (by rw [lst_len]; omega), lst_len, show j - 64 = 0 from by omega]; rfl
theorem KB.new (w : World) (t : TypeId) : KB (w.alloc (.cells z59 t)) w.heap.size (agS 0) (agS 0) 0 := by
  have hc : ∀ j, j < 65 → (w.alloc (.cells z59 t)).cell? ⟨w.heap.size, j, none⟩ = some (if j < 64 then .int .u8 0 else .int .i64 0) := fun j hj => by
    rw [World.cell?_alloc_at _ _ _ _ rfl]
    exact z59_at j hj
  have hz : ∀ j, kvT (agS 0) (agS 0) j = 0 := fun j => by
    have hs : ∀ i, sb (agS 0) i = 0 := fun i => by
      by_cases hi : i < 32
      · unfold agS
        exact sb_mkS hi (by decide)
      · exact sb_past (by show (mkS _ 32).size ≤ i; rw [mkS_size]; omega)
    unfold kvT
    split
    · exact hs _
    · exact hs _
  refine ⟨⟨by simp, fun k hk => ⟨?_, World.frozen?_alloc_at _ _ _ _ rfl⟩⟩, ?_, World.frozen?_alloc_at _ _ _ _ rfl⟩
  · rw [hc k (by omega), if_pos hk, hz]; rfl
  · rw [hc 64 (by omega), if_neg (by omega)]
attribute [local go_sem] z59_cells z59_run z59_size z59_ne
/-- Of the value the first i bytes are 1. -/
def oneT (i : Nat) : Nat → Nat := fun j => if 32 ≤ j ∧ j < 32 + i then 1 else 0
theorem oneT_step (i : Nat) : put (oneT i) (32 + i) 1 = oneT (i + 1) := by
  funext j
  unfold put oneT
  by_cases e : j = 32 + i
  · subst e; rw [if_pos rfl, if_pos (by omega)]
  · rw [if_neg e]
    by_cases h : 32 ≤ j ∧ j < 32 + i
    · rw [if_pos h, if_pos (by omega)]
    · rw [if_neg h, if_neg (by omega)]
theorem oneT_all (j : Nat) (hj : j < 64) : oneT 32 j = kvT (agS 0) (agS 1) j := by
  unfold oneT kvT agS
  by_cases h : j < 32
  · rw [if_neg (by omega), if_pos h, sb_mkS h (by decide)]
  · rw [if_pos (by omega), if_neg h, sb_mkS (by omega) (by decide)]
theorem oneT_zero (j : Nat) : oneT 0 j = 0 := by unfold oneT; rw [if_neg (by omega)]
set_option maxHeartbeats 2000000 in
theorem new_any (s : ByteArray) (hs : s.size ≤ 1000) (w : World) (hG : SGl w) :
    Calls Tryd.prog 10 #[.string s] w fun e w' => ∃ b, e = .returned (.pointer (some ⟨b, 0, none⟩)) ∧ KB w' b (upK (agS 0) (agS 1) s) (upV (agS 0) (agS 1) s) 0 ∧ w.heap.size ≤ b ∧ Ext w w' := by
  have HU : Hid (∀ W b, SGl W → KB W b (agS 0) (agS 1) 0 → Calls Tryd.prog 23 #[.pointer (some ⟨b, 0, none⟩), .string s] W fun e w' => e = .returned (.tuple #[]) ∧ KB w' b (upK (agS 0) (agS 1) s) (upV (agS 0) (agS 1) s) 0 ∧ Chg (fun k => k = b) W w') := fun W b hW hB => update_any _ _ s 0 b (mkS_size _ _) (mkS_size _ _) hs W hW hB
  generalize upK (agS 0) (agS 1) s = UK at *
  generalize upV (agS 0) (agS 1) s = UV at *
  have hN := KB.new w 59
  have HT : Hid (TabN (w.alloc (.cells z59 59)) w.heap.size .u8 64 (oneT 0)) := ⟨hN.1.1, fun k hk => ⟨by rw [(hN.1.2 k hk).1, oneT_zero]; unfold kvT agS; split <;> rw [sb_mkS (by omega) (by decide)], (hN.1.2 k hk).2⟩⟩
  have HA : Hid ((w.alloc (.cells z59 59)).cell? ⟨w.heap.size, 64, none⟩ = some (.int .i64 0) ∧ (w.alloc (.cells z59 59)).frozen? ⟨w.heap.size, 64, none⟩ = false) := hN.2
  have HE0 : Hid (Ext w (w.alloc (.cells z59 59))) := (Ext.refl _).alloc _
  clear hN
  have hGb : SizeLe w w.heap.size := Nat.le_refl _
  have HGb : Hid (w.heap.size ≤ w.heap.size) := Nat.le_refl _
  go_enter Tryd.func10, Tryd.ntmps10
  go_upto_region 3 with fail
  generalize w.alloc (.cells z59 59) = W0 at *
  generalize hb : w.heap.size = b at *
  go_loopw [7] (fun u7 wr => ∃ i : Nat, i ≤ 32 ∧ u7 = .int .i64 (i : Int) ∧ Hid (TabN wr b .u8 64 (oneT i)) ∧ Hid (wr.cell? ⟨b, 64, none⟩ = some (.int .i64 0) ∧ wr.frozen? ⟨b, 64, none⟩ = false) ∧ Hid (Ext w wr)) (fun u7 _ => 32 - (intOf u7).toNat)
  case atStart => exact ⟨0, Nat.zero_le _, rfl, HT, HA, HE0⟩
  case round =>
    clear HT HA HE0
    obtain ⟨i, hi, rfl, HT, HA, HE⟩ := hrel
    by_cases hlt : i < 32
    · have hi1 : (i : Int) < 32 := by omega
      have hi0 : (0 : Int) ≤ (i : Int) := by omega
      have hw : IntKind.i64.wrap ((i : Int) + 1) = (i : Int) + 1 := by rw [IntKind.wrap_i64]; omega
      obtain ⟨gp, gf⟩ := HT.out.2 (32 + i) (by omega)
      have HST : Hid (TabN (wr.setCell ⟨b, 32 + i, none⟩ (.int .u8 1)) b .u8 64 (oneT (i + 1))) := by
        have := HT.out.set (32 + i) 1
        rw [oneT_step] at this
        exact this
      have HAT : Hid ((wr.setCell ⟨b, 32 + i, none⟩ (.int .u8 1)).cell? ⟨b, 64, none⟩ = some (.int .i64 0) ∧ (wr.setCell ⟨b, 32 + i, none⟩ (.int .u8 1)).frozen? ⟨b, 64, none⟩ = false) := by
        refine ⟨?_, by simpa using HA.out.2⟩
        rw [World.cell?_setCell_other _ _ _ _ (fun q => by injection q with _ q _; omega)]
        exact HA.out.1
      have HES : Hid (Ext w (wr.setCell ⟨b, 32 + i, none⟩ (.int .u8 1))) := Ext.st hGb HE.out
      go_wp2
      go_roundw
      case rel => exact ⟨i + 1, hlt, by push_cast; rfl, HST, HAT, HES⟩
      case measure => simp [intOf]; omega
    · obtain rfl : i = 32 := by omega
      have hB : KB wr b (agS 0) (agS 1) 0 := ⟨⟨HT.out.1, fun k hk => ⟨by rw [(HT.out.2 k hk).1, oneT_all k hk], (HT.out.2 k hk).2⟩⟩, HA.out.1, HA.out.2⟩
      have hGr := hG.ext HE.out
      go_wp2_with fail
      refine (HU.out _ _ hGr hB).mono ?_
      rintro e w3 ⟨rfl, hB3, hC3⟩
      have HE3 : Hid (Ext w w3) := hC3.ext HE.out (fun k hk => by have hk : k = b := hk; omega)
      have HB3 : Hid (KB w3 b UK UV 0) := hB3
      clear hB3 hC3 hB
      go_wp2
      go_ret
      exact ⟨b, rfl, HB3.out, by omega, HE3.out⟩
end Go.Proofs.YtpfeakdpckmcgaaDoor
