/-
  sandglassref07.K, called: the round numbers; nothing old is turned.
-/
import Derived.Test.YtfhglfldmboanaaDoorRowh
import Derived.Test.YtfhglfldmboanaaDoorRefRoot
import Derived.Test.YtfhglfldmboanaaDoorRefPrimes
import Derived.Test.YtfhglfldmboanaaDoorTabs
namespace Go.Proofs.YtfhglfldmboanaaDoor
open Go.RowKit
/-- The first i round numbers are laid. -/
def Kfun (i : Nat) : Nat → Nat := fun k => if k < i then KK.getD k 0 else 0
theorem Kfun_step (i : Nat) : put (Kfun i) i (KK.getD i 0) = Kfun (i + 1) := by
  funext k
  unfold put Kfun
  by_cases e : k = i
  · subst e; simp
  · rw [if_neg e]
    by_cases h : k < i
    · rw [if_pos h, if_pos (by omega)]
    · rw [if_neg h, if_neg (by omega)]
theorem own_cells {w : World} {base : Nat} {e : TypeId} {v : Value} {l : List Nat} {n : Nat} (h : w.ownsRow base e 1 v n (u64s l)) (hl : l.length = n) (hn : 0 < n := by decide) : ∃ g c, v = .slice (some ⟨g, 0, none⟩) n c ∧ base ≤ g ∧ ∀ j, j < n → w.cell? ⟨g, j, none⟩ = some (.int .u64 ((l.getD j 0 : Nat) : Int)) := by
  subst hl
  obtain ⟨p, c, rfl, HF⟩ := own_form h
  obtain ⟨g, rfl, _⟩ := HF 0 _ (u64s_get hn)
  refine ⟨g, c, rfl, own_at h g rfl, fun j hj => ?_⟩
  obtain ⟨g', e1, e2⟩ := HF j _ (u64s_get hj)
  injection e1 with e1
  injection e1 with e1 _ _
  subst e1
  rw [e2, List.getD_eq_getElem?_getD, List.getElem?_eq_getElem hj]
  rfl
theorem Tryd.size52 : (Tryd.prog.info? 52).map (·.size) = some 64 := by kernel_rfl
set_option maxHeartbeats 1000000 in
theorem refK_any (w : World) :
    Calls Tryd.prog 26 #[] w fun e w' => e = .returned (.agg (lst .u32 (fun i => KK.getD i 0) 64).toArray) ∧ Ext w w' := by
  have HN : Hid (RowH (w.alloc (.cells (Array.replicate 64 (.int .u32 0)) 52)) w.heap.size 52 .u32 64 (fun _ => 0)) := RowH.new w .u32 64 52
  have HN1 : Hid (RowH ((w.alloc (.cells (Array.replicate 64 (.int .u32 0)) 52)).alloc (.cells (Array.replicate 64 (.int .u32 0)) 52)) (w.heap.size + 1) 52 .u32 64 (fun _ => 0)) := by
    have := RowH.new (w.alloc (.cells (Array.replicate 64 (.int .u32 0)) 52)) .u32 64 52
    rwa [show (w.alloc (.cells (Array.replicate 64 (.int .u32 0)) 52)).heap.size = w.heap.size + 1 from by simp] at this
  have HN0 : Hid (RowH ((w.alloc (.cells (Array.replicate 64 (.int .u32 0)) 52)).alloc (.cells (Array.replicate 64 (.int .u32 0)) 52)) w.heap.size 52 .u32 64 (fun _ => 0)) := HN.out.ext ((Ext.refl _).alloc _)
  have HE0 : Hid (Ext w ((w.alloc (.cells (Array.replicate 64 (.int .u32 0)) 52)).alloc (.cells (Array.replicate 64 (.int .u32 0)) 52))) := ((Ext.refl _).alloc _).alloc _
  clear HN
  go_enter Tryd.func26, Tryd.ntmps26
  go_wp2_with fail
  refine (primes_any 64 (by decide) _).mono ?_
  rintro e w1 ⟨k, v, rfl, hlen, hown, HX⟩
  have HR0 : RowH w1 w.heap.size 52 .u32 64 (fun _ => 0) := HN0.out.ext HX
  have HR1 : RowH w1 (w.heap.size + 1) 52 .u32 64 (Kfun 0) := HN1.out.ext HX
  have HE1 : Hid (Ext w w1) := HE0.out.trans HX
  have HO := own_base (b2 := w.heap.size + 1 + 1) hown (by simp)
  clear hown HX HN0 HN1 HE0
  obtain ⟨g, c, rfl, hg, HC0⟩ := own_cells HO hlen
  have HC : Hid (∀ j, j < 64 → w1.cell? ⟨g, j, none⟩ = some (.int .u64 (((sieve k).getD j 0 : Nat) : Int))) := HC0
  clear HC0
  have HS : Hid (∀ i, i < 64 → (sieve k).getD i 0 < 1000 ∧ rootN ((sieve k).getD i 0) 3 40 % BW = KK.getD i 0) := fun i hi => by
    obtain ⟨e1, e2⟩ := sieve_pre_get hlen (by decide) hi
    exact ⟨e2, by rw [e1]; exact KK_root hi⟩
  have HB1 : SizeLe w (w.heap.size + 1) := by unfold SizeLe; omega
  have HB0 : SizeLe w w.heap.size := Nat.le_refl _
  clear hlen HO
  generalize w.heap.size = n at *
  generalize sieve k = L at *
  go_wp2
  go_loopw [3] (fun u3 wr => ∃ (i : Nat), i ≤ 64 ∧ u3 = .int .i64 i ∧ RowH wr n 52 .u32 64 (fun _ => 0) ∧ RowH wr (n + 1) 52 .u32 64 (Kfun i) ∧ Hid (∀ j, j < 64 → wr.cell? ⟨g, j, none⟩ = some (.int .u64 ((L.getD j 0 : Nat) : Int))) ∧ g < wr.heap.size ∧ Hid (Ext w wr)) (fun u3 _ => 64 - (intOf u3).toNat)
  case atStart => exact ⟨0, by omega, rfl, HR0, HR1, HC, by exact World.block_lt_of_cell? w1 _ (HC.out 0 (by decide)), HE1⟩
  case round =>
    clear HR0 HR1 HC HE1
    obtain ⟨i, hi, rfl, HR0, HR1, HC, hgl, HE⟩ := hrel
    by_cases hlt : i < 64
    · have h1 : (i : Int) < 64 := by omega
      have h0 : (0 : Int) ≤ (i : Int) := by omega
      have hc := HC.out i hlt
      obtain ⟨hx, hr⟩ := HS.out i hlt
      have HR : Hid (rootN (L.getD i 0) 3 40 % BW = KK.getD i 0) := hr
      clear hr
      generalize L.getD i 0 = x at *
      go_wp2_with fail
      refine (root3_any x hx _).mono ?_
      rintro e w2 ⟨rfl, HX2⟩
      rw [HR.out]
      have HR1' := HR1.ext HX2
      have HR0' := HR0.ext HX2
      obtain ⟨gc, gf⟩ := HR1'.tab.2 i hlt
      have HR2 : Hid (RowH (w2.setCell ⟨n + 1, i, none⟩ (.int .u32 ((KK.getD i 0 : Nat) : Int))) (n + 1) 52 .u32 64 (Kfun (i + 1))) := by
        have := HR1'.set i (KK.getD i 0)
        rwa [Kfun_step] at this
      have HR3 : Hid (RowH (w2.setCell ⟨n + 1, i, none⟩ (.int .u32 ((KK.getD i 0 : Nat) : Int))) n 52 .u32 64 (fun _ => 0)) := HR0'.other (by omega) ⟨_, _, _, HR1'⟩
      have HC2 : Hid (∀ j, j < 64 → (w2.setCell ⟨n + 1, i, none⟩ (.int .u32 ((KK.getD i 0 : Nat) : Int))).cell? ⟨g, j, none⟩ = some (.int .u64 ((L.getD j 0 : Nat) : Int))) := fun j hj => by
        rw [World.cell?_setCell_far _ _ _ _ (by show n + 1 ≠ g; omega)]
        exact later HX2 (HC.out j hj)
      have HE2 : Hid (Ext w (w2.setCell ⟨n + 1, i, none⟩ (.int .u32 ((KK.getD i 0 : Nat) : Int)))) := Ext.st HB1 (HE.out.trans HX2)
      have hg2 : Hid (g < w2.heap.size) := Nat.lt_of_lt_of_le hgl HX2.size
      clear HR0 HR1 HR0' HR1' hc HX2
      generalize KK.getD i 0 = kv at *
      go_wp2
      go_roundw
      case rel => exact ⟨i + 1, hlt, by go_num, HR3.out, HR2.out, HC2, by simpa using hg2.out, HE2⟩
      case measure => simp [intOf]; omega
    · obtain rfl : i = 64 := by omega
      have HA : Hid (lst .u32 (fun i => KK.getD i 0) 64 = lst .u32 (Kfun 64) 64) := lst_congr fun k hk => by unfold Kfun; rw [if_pos hk]
      have HE2 : Hid (Ext w (wr.setRow n (lst .u32 (Kfun 64) 64).toArray)) := HE.out.row HB0 _
      have hz : ((64 : Nat) : Int) = 64 := rfl
      rw [hz]
      go_wp2_with (first | (refine wpList_load_row rfl 52 _ rfl (n + 1) rfl 52 (lst .u32 (Kfun 64) 64).toArray (0, 0) _ HR1 Tryd.underlying52 rfl (by rw [Tryd.size52]; simp [lst_len]) ?_) | (refine wpList_store_row rfl 52 _ _ rfl n (lst .u32 (Kfun 64) 64).toArray rfl rfl 52 _ HR0 (by rw [Tryd.size52]; simp [lst_len]) (by simp [lst_len]) (lst_one _ _ _) ?_))
      refine bodyPost_ret (v := .agg (lst .u32 (Kfun 64) 64).toArray) ?_ rfl ⟨by rw [HA.out], HE2.out⟩
      exact results_cell_row Tryd.results26 _ _ n 52 _ (0, 0) _ rfl (HR0.row (Kfun 64)) Tryd.underlying52 rfl (by rw [Tryd.size52]; simp [lst_len])
end Go.Proofs.YtfhglfldmboanaaDoor
