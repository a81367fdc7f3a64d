/-
  hmac.fit, called: the key as a block of 64 bytes; nothing old is turned.
-/
import Derived.Test.YtpfeakdpckmcgaaDoorShaFace
import Derived.Test.YtpfeakdpckmcgaaDoorPads
namespace Go.Proofs.YtpfeakdpckmcgaaDoor
set_option maxRecDepth 10000
open Go.RowKit
/-- The bytes of the key's block: its own, then 0s. -/
def fitB (key : ByteArray) : Nat → Nat := fun j => sb (keyS key) j
theorem fit_text {key K : ByteArray} (h : keyS key = K) : (fun j => if j < K.size then sb K j else (fun _ => 0) j) = fitB key := by
  funext j
  unfold fitB
  rw [h]
  by_cases hj : j < K.size
  · rw [if_pos hj]
  · rw [if_neg hj, sb_past (by omega)]
theorem fitB_lt (key : ByteArray) (j : Nat) : fitB key j < 256 := sb_lt _ _
set_option maxRecDepth 100000 in
set_option maxHeartbeats 2000000 in
theorem fit_any (key : ByteArray) (hk : key.size ≤ 5000) (w : World) (hG : SGl w) :
    Calls Tryd.prog 50 #[.string key] w fun e w' => e = .returned (.agg (lst .u8 (fitB key) 64).toArray) ∧ Ext w w' := by
  obtain ⟨FT, HFT⟩ : ∃ FT : Nat → Nat, Hid (FT = fitB key) := ⟨_, rfl⟩
  rw [← HFT.out]
  have HN : Hid (RowH (w.alloc (.cells #[.int .u8 0, .int .u8 0, .int .u8 0, .int .u8 0, .int .u8 0, .int .u8 0, .int .u8 0, .int .u8 0, .int .u8 0, .int .u8 0, .int .u8 0, .int .u8 0, .int .u8 0, .int .u8 0, .int .u8 0, .int .u8 0, .int .u8 0, .int .u8 0, .int .u8 0, .int .u8 0, .int .u8 0, .int .u8 0, .int .u8 0, .int .u8 0, .int .u8 0, .int .u8 0, .int .u8 0, .int .u8 0, .int .u8 0, .int .u8 0, .int .u8 0, .int .u8 0, .int .u8 0, .int .u8 0, .int .u8 0, .int .u8 0, .int .u8 0, .int .u8 0, .int .u8 0, .int .u8 0, .int .u8 0, .int .u8 0, .int .u8 0, .int .u8 0, .int .u8 0, .int .u8 0, .int .u8 0, .int .u8 0, .int .u8 0, .int .u8 0, .int .u8 0, .int .u8 0, .int .u8 0, .int .u8 0, .int .u8 0, .int .u8 0, .int .u8 0, .int .u8 0, .int .u8 0, .int .u8 0, .int .u8 0, .int .u8 0, .int .u8 0, .int .u8 0] 89)) w.heap.size 89 .u8 64 (fun _ => 0)) := RowH.new w .u8 64 89
  have HE0 : Hid (Ext w (w.alloc (.cells #[.int .u8 0, .int .u8 0, .int .u8 0, .int .u8 0, .int .u8 0, .int .u8 0, .int .u8 0, .int .u8 0, .int .u8 0, .int .u8 0, .int .u8 0, .int .u8 0, .int .u8 0, .int .u8 0, .int .u8 0, .int .u8 0, .int .u8 0, .int .u8 0, .int .u8 0, .int .u8 0, .int .u8 0, .int .u8 0, .int .u8 0, .int .u8 0, .int .u8 0, .int .u8 0, .int .u8 0, .int .u8 0, .int .u8 0, .int .u8 0, .int .u8 0, .int .u8 0, .int .u8 0, .int .u8 0, .int .u8 0, .int .u8 0, .int .u8 0, .int .u8 0, .int .u8 0, .int .u8 0, .int .u8 0, .int .u8 0, .int .u8 0, .int .u8 0, .int .u8 0, .int .u8 0, .int .u8 0, .int .u8 0, .int .u8 0, .int .u8 0, .int .u8 0, .int .u8 0, .int .u8 0, .int .u8 0, .int .u8 0, .int .u8 0, .int .u8 0, .int .u8 0, .int .u8 0, .int .u8 0, .int .u8 0, .int .u8 0, .int .u8 0, .int .u8 0] 89))) := (Ext.refl _).alloc _
  have HNw : Hid (w.heap.size ≤ w.heap.size) := Nat.le_refl _
  by_cases h64 : 64 < key.size
  · have h65 : (64 : Int) < (key.size : Int) := by omega
    have HKK : Hid (keyS key = shaS key) := if_pos h64
    obtain ⟨K, HK⟩ : ∃ K, Hid (shaS key = K) := ⟨_, rfl⟩
    rw [HK.out] at HKK
    have HG0 : Hid (SGl (w.alloc (.cells #[.int .u8 0, .int .u8 0, .int .u8 0, .int .u8 0, .int .u8 0, .int .u8 0, .int .u8 0, .int .u8 0, .int .u8 0, .int .u8 0, .int .u8 0, .int .u8 0, .int .u8 0, .int .u8 0, .int .u8 0, .int .u8 0, .int .u8 0, .int .u8 0, .int .u8 0, .int .u8 0, .int .u8 0, .int .u8 0, .int .u8 0, .int .u8 0, .int .u8 0, .int .u8 0, .int .u8 0, .int .u8 0, .int .u8 0, .int .u8 0, .int .u8 0, .int .u8 0, .int .u8 0, .int .u8 0, .int .u8 0, .int .u8 0, .int .u8 0, .int .u8 0, .int .u8 0, .int .u8 0, .int .u8 0, .int .u8 0, .int .u8 0, .int .u8 0, .int .u8 0, .int .u8 0, .int .u8 0, .int .u8 0, .int .u8 0, .int .u8 0, .int .u8 0, .int .u8 0, .int .u8 0, .int .u8 0, .int .u8 0, .int .u8 0, .int .u8 0, .int .u8 0, .int .u8 0, .int .u8 0, .int .u8 0, .int .u8 0, .int .u8 0, .int .u8 0] 89))) := hG.ext HE0.out
    go_enter Tryd.func50, Tryd.ntmps50
    go_wp2_with fail
    refine (ssum_any key hk _ HG0.out).mono ?_
    rintro e w1 ⟨rfl, HX⟩
    rw [HK.out]
    have HN1 : Hid (RowH w1 w.heap.size 89 .u8 64 (fun _ => 0)) := HN.out.ext HX
    have HE1 : Hid (Ext w w1) := HE0.out.trans HX
    clear HX HN HE0 HG0
    generalize hnn : w.heap.size = n at *
    replace HNw : Hid (w.heap.size ≤ n) := Nat.le_of_eq hnn
    clear hnn
    go_wp2_with fail
    have HM2 : Hid (RowH (w1.alloc (.cells #[.int .u8 0, .int .u8 0, .int .u8 0, .int .u8 0, .int .u8 0, .int .u8 0, .int .u8 0, .int .u8 0, .int .u8 0, .int .u8 0, .int .u8 0, .int .u8 0, .int .u8 0, .int .u8 0, .int .u8 0, .int .u8 0, .int .u8 0, .int .u8 0, .int .u8 0, .int .u8 0, .int .u8 0, .int .u8 0, .int .u8 0, .int .u8 0, .int .u8 0, .int .u8 0, .int .u8 0, .int .u8 0, .int .u8 0, .int .u8 0, .int .u8 0, .int .u8 0, .int .u8 0, .int .u8 0, .int .u8 0, .int .u8 0, .int .u8 0, .int .u8 0, .int .u8 0, .int .u8 0, .int .u8 0, .int .u8 0, .int .u8 0, .int .u8 0, .int .u8 0, .int .u8 0, .int .u8 0, .int .u8 0, .int .u8 0, .int .u8 0, .int .u8 0, .int .u8 0, .int .u8 0, .int .u8 0, .int .u8 0, .int .u8 0, .int .u8 0, .int .u8 0, .int .u8 0, .int .u8 0, .int .u8 0, .int .u8 0, .int .u8 0, .int .u8 0] 89)) w1.heap.size 89 .u8 64 (fun _ => 0)) := RowH.new w1 .u8 64 89
    have HN2 : Hid (RowH (w1.alloc (.cells #[.int .u8 0, .int .u8 0, .int .u8 0, .int .u8 0, .int .u8 0, .int .u8 0, .int .u8 0, .int .u8 0, .int .u8 0, .int .u8 0, .int .u8 0, .int .u8 0, .int .u8 0, .int .u8 0, .int .u8 0, .int .u8 0, .int .u8 0, .int .u8 0, .int .u8 0, .int .u8 0, .int .u8 0, .int .u8 0, .int .u8 0, .int .u8 0, .int .u8 0, .int .u8 0, .int .u8 0, .int .u8 0, .int .u8 0, .int .u8 0, .int .u8 0, .int .u8 0, .int .u8 0, .int .u8 0, .int .u8 0, .int .u8 0, .int .u8 0, .int .u8 0, .int .u8 0, .int .u8 0, .int .u8 0, .int .u8 0, .int .u8 0, .int .u8 0, .int .u8 0, .int .u8 0, .int .u8 0, .int .u8 0, .int .u8 0, .int .u8 0, .int .u8 0, .int .u8 0, .int .u8 0, .int .u8 0, .int .u8 0, .int .u8 0, .int .u8 0, .int .u8 0, .int .u8 0, .int .u8 0, .int .u8 0, .int .u8 0, .int .u8 0, .int .u8 0] 89)) n 89 .u8 64 (fun _ => 0)) := HN1.out.ext ((Ext.refl _).alloc _)
    have HE2 : Hid (Ext w (w1.alloc (.cells #[.int .u8 0, .int .u8 0, .int .u8 0, .int .u8 0, .int .u8 0, .int .u8 0, .int .u8 0, .int .u8 0, .int .u8 0, .int .u8 0, .int .u8 0, .int .u8 0, .int .u8 0, .int .u8 0, .int .u8 0, .int .u8 0, .int .u8 0, .int .u8 0, .int .u8 0, .int .u8 0, .int .u8 0, .int .u8 0, .int .u8 0, .int .u8 0, .int .u8 0, .int .u8 0, .int .u8 0, .int .u8 0, .int .u8 0, .int .u8 0, .int .u8 0, .int .u8 0, .int .u8 0, .int .u8 0, .int .u8 0, .int .u8 0, .int .u8 0, .int .u8 0, .int .u8 0, .int .u8 0, .int .u8 0, .int .u8 0, .int .u8 0, .int .u8 0, .int .u8 0, .int .u8 0, .int .u8 0, .int .u8 0, .int .u8 0, .int .u8 0, .int .u8 0, .int .u8 0, .int .u8 0, .int .u8 0, .int .u8 0, .int .u8 0, .int .u8 0, .int .u8 0, .int .u8 0, .int .u8 0, .int .u8 0, .int .u8 0, .int .u8 0, .int .u8 0] 89))) := HE1.out.alloc _
    have HNM : Hid (n < w1.heap.size) := HN1.out.lt
    generalize w1.alloc (.cells #[.int .u8 0, .int .u8 0, .int .u8 0, .int .u8 0, .int .u8 0, .int .u8 0, .int .u8 0, .int .u8 0, .int .u8 0, .int .u8 0, .int .u8 0, .int .u8 0, .int .u8 0, .int .u8 0, .int .u8 0, .int .u8 0, .int .u8 0, .int .u8 0, .int .u8 0, .int .u8 0, .int .u8 0, .int .u8 0, .int .u8 0, .int .u8 0, .int .u8 0, .int .u8 0, .int .u8 0, .int .u8 0, .int .u8 0, .int .u8 0, .int .u8 0, .int .u8 0, .int .u8 0, .int .u8 0, .int .u8 0, .int .u8 0, .int .u8 0, .int .u8 0, .int .u8 0, .int .u8 0, .int .u8 0, .int .u8 0, .int .u8 0, .int .u8 0, .int .u8 0, .int .u8 0, .int .u8 0, .int .u8 0, .int .u8 0, .int .u8 0, .int .u8 0, .int .u8 0, .int .u8 0, .int .u8 0, .int .u8 0, .int .u8 0, .int .u8 0, .int .u8 0, .int .u8 0, .int .u8 0, .int .u8 0, .int .u8 0, .int .u8 0, .int .u8 0] 89) = W2 at *
    generalize w1.heap.size = m at *
    have hcp := run_copy_text (P := Tryd.prog) W2 62 9 3 5 89 m 64 64 K (fun _ => 0) Tryd.underlying62 Tryd.size5 HM2.out
    rw [fit_text HKK.out, ← HFT.out] at hcp
    have HM3 : RowH (W2.setRow m (lst .u8 FT 64).toArray) m 89 .u8 64 FT := HM2.out.row FT
    have HN3 : RowH (W2.setRow m (lst .u8 FT 64).toArray) n 89 .u8 64 (fun _ => 0) := (setRow_other W2 m n _ (by have := HNM.out; omega)).trans HN2.out
    have HE3 : Hid (Ext w (W2.setRow m (lst .u8 FT 64).toArray)) := HE2.out.row (by have := HNM.out; have := HNw.out; omega) _
    generalize W2.setRow m (lst .u8 FT 64).toArray = W3 at *
    have HE4 : Hid (Ext w (W3.setRow n (lst .u8 FT 64).toArray)) := HE3.out.row HNw.out _
    clear HM2 HN2 HE2 HE1 HN1
    rw [hcp]
    clear hcp
    go_wp2_with (first | (refine wpList_load_row rfl 89 _ rfl m rfl 89 (lst .u8 FT 64).toArray (0, 0) _ HM3 Tryd.underlying89 rfl (by rw [Tryd.size89]; simp [lst_len]) ?_) | (refine wpList_store_row rfl 89 _ _ rfl n (lst .u8 FT 64).toArray rfl rfl 89 _ HN3 (by rw [Tryd.size89]; simp [lst_len]) (by simp [lst_len]) (lst_one _ _ _) ?_))
    refine bodyPost_ret (v := .agg (lst .u8 FT 64).toArray) ?_ rfl ⟨rfl, HE4.out⟩
    exact results_cell_row Tryd.results50 _ _ n 89 _ (0, 0) _ rfl (HN3.row FT) Tryd.underlying89 rfl (by rw [Tryd.size89]; simp [lst_len])
  · have h65 : ¬ (64 : Int) < (key.size : Int) := by omega
    have HKK : Hid (keyS key = key) := if_neg h64
    have hsz : (w.alloc (.cells #[.int .u8 0, .int .u8 0, .int .u8 0, .int .u8 0, .int .u8 0, .int .u8 0, .int .u8 0, .int .u8 0, .int .u8 0, .int .u8 0, .int .u8 0, .int .u8 0, .int .u8 0, .int .u8 0, .int .u8 0, .int .u8 0, .int .u8 0, .int .u8 0, .int .u8 0, .int .u8 0, .int .u8 0, .int .u8 0, .int .u8 0, .int .u8 0, .int .u8 0, .int .u8 0, .int .u8 0, .int .u8 0, .int .u8 0, .int .u8 0, .int .u8 0, .int .u8 0, .int .u8 0, .int .u8 0, .int .u8 0, .int .u8 0, .int .u8 0, .int .u8 0, .int .u8 0, .int .u8 0, .int .u8 0, .int .u8 0, .int .u8 0, .int .u8 0, .int .u8 0, .int .u8 0, .int .u8 0, .int .u8 0, .int .u8 0, .int .u8 0, .int .u8 0, .int .u8 0, .int .u8 0, .int .u8 0, .int .u8 0, .int .u8 0, .int .u8 0, .int .u8 0, .int .u8 0, .int .u8 0, .int .u8 0, .int .u8 0, .int .u8 0, .int .u8 0] 89)).heap.size = w.heap.size + 1 := by simp
    go_enter Tryd.func50, Tryd.ntmps50
    go_wp2_with fail
    generalize hnn : w.heap.size = n at *
    replace HNw : Hid (w.heap.size ≤ n) := Nat.le_of_eq hnn
    have HN1 := HN
    have HE1 := HE0
    clear hnn HN HE0
    generalize w.alloc (.cells #[.int .u8 0, .int .u8 0, .int .u8 0, .int .u8 0, .int .u8 0, .int .u8 0, .int .u8 0, .int .u8 0, .int .u8 0, .int .u8 0, .int .u8 0, .int .u8 0, .int .u8 0, .int .u8 0, .int .u8 0, .int .u8 0, .int .u8 0, .int .u8 0, .int .u8 0, .int .u8 0, .int .u8 0, .int .u8 0, .int .u8 0, .int .u8 0, .int .u8 0, .int .u8 0, .int .u8 0, .int .u8 0, .int .u8 0, .int .u8 0, .int .u8 0, .int .u8 0, .int .u8 0, .int .u8 0, .int .u8 0, .int .u8 0, .int .u8 0, .int .u8 0, .int .u8 0, .int .u8 0, .int .u8 0, .int .u8 0, .int .u8 0, .int .u8 0, .int .u8 0, .int .u8 0, .int .u8 0, .int .u8 0, .int .u8 0, .int .u8 0, .int .u8 0, .int .u8 0, .int .u8 0, .int .u8 0, .int .u8 0, .int .u8 0, .int .u8 0, .int .u8 0, .int .u8 0, .int .u8 0, .int .u8 0, .int .u8 0, .int .u8 0, .int .u8 0] 89) = w1 at *
    rw [← hsz]
    clear hsz
    have HM2 : Hid (RowH (w1.alloc (.cells #[.int .u8 0, .int .u8 0, .int .u8 0, .int .u8 0, .int .u8 0, .int .u8 0, .int .u8 0, .int .u8 0, .int .u8 0, .int .u8 0, .int .u8 0, .int .u8 0, .int .u8 0, .int .u8 0, .int .u8 0, .int .u8 0, .int .u8 0, .int .u8 0, .int .u8 0, .int .u8 0, .int .u8 0, .int .u8 0, .int .u8 0, .int .u8 0, .int .u8 0, .int .u8 0, .int .u8 0, .int .u8 0, .int .u8 0, .int .u8 0, .int .u8 0, .int .u8 0, .int .u8 0, .int .u8 0, .int .u8 0, .int .u8 0, .int .u8 0, .int .u8 0, .int .u8 0, .int .u8 0, .int .u8 0, .int .u8 0, .int .u8 0, .int .u8 0, .int .u8 0, .int .u8 0, .int .u8 0, .int .u8 0, .int .u8 0, .int .u8 0, .int .u8 0, .int .u8 0, .int .u8 0, .int .u8 0, .int .u8 0, .int .u8 0, .int .u8 0, .int .u8 0, .int .u8 0, .int .u8 0, .int .u8 0, .int .u8 0, .int .u8 0, .int .u8 0] 89)) w1.heap.size 89 .u8 64 (fun _ => 0)) := RowH.new w1 .u8 64 89
    have HN2 : Hid (RowH (w1.alloc (.cells #[.int .u8 0, .int .u8 0, .int .u8 0, .int .u8 0, .int .u8 0, .int .u8 0, .int .u8 0, .int .u8 0, .int .u8 0, .int .u8 0, .int .u8 0, .int .u8 0, .int .u8 0, .int .u8 0, .int .u8 0, .int .u8 0, .int .u8 0, .int .u8 0, .int .u8 0, .int .u8 0, .int .u8 0, .int .u8 0, .int .u8 0, .int .u8 0, .int .u8 0, .int .u8 0, .int .u8 0, .int .u8 0, .int .u8 0, .int .u8 0, .int .u8 0, .int .u8 0, .int .u8 0, .int .u8 0, .int .u8 0, .int .u8 0, .int .u8 0, .int .u8 0, .int .u8 0, .int .u8 0, .int .u8 0, .int .u8 0, .int .u8 0, .int .u8 0, .int .u8 0, .int .u8 0, .int .u8 0, .int .u8 0, .int .u8 0, .int .u8 0, .int .u8 0, .int .u8 0, .int .u8 0, .int .u8 0, .int .u8 0, .int .u8 0, .int .u8 0, .int .u8 0, .int .u8 0, .int .u8 0, .int .u8 0, .int .u8 0, .int .u8 0, .int .u8 0] 89)) n 89 .u8 64 (fun _ => 0)) := HN1.out.ext ((Ext.refl _).alloc _)
    have HE2 : Hid (Ext w (w1.alloc (.cells #[.int .u8 0, .int .u8 0, .int .u8 0, .int .u8 0, .int .u8 0, .int .u8 0, .int .u8 0, .int .u8 0, .int .u8 0, .int .u8 0, .int .u8 0, .int .u8 0, .int .u8 0, .int .u8 0, .int .u8 0, .int .u8 0, .int .u8 0, .int .u8 0, .int .u8 0, .int .u8 0, .int .u8 0, .int .u8 0, .int .u8 0, .int .u8 0, .int .u8 0, .int .u8 0, .int .u8 0, .int .u8 0, .int .u8 0, .int .u8 0, .int .u8 0, .int .u8 0, .int .u8 0, .int .u8 0, .int .u8 0, .int .u8 0, .int .u8 0, .int .u8 0, .int .u8 0, .int .u8 0, .int .u8 0, .int .u8 0, .int .u8 0, .int .u8 0, .int .u8 0, .int .u8 0, .int .u8 0, .int .u8 0, .int .u8 0, .int .u8 0, .int .u8 0, .int .u8 0, .int .u8 0, .int .u8 0, .int .u8 0, .int .u8 0, .int .u8 0, .int .u8 0, .int .u8 0, .int .u8 0, .int .u8 0, .int .u8 0, .int .u8 0, .int .u8 0] 89))) := HE1.out.alloc _
    have HNM : Hid (n < w1.heap.size) := HN1.out.lt
    generalize w1.alloc (.cells #[.int .u8 0, .int .u8 0, .int .u8 0, .int .u8 0, .int .u8 0, .int .u8 0, .int .u8 0, .int .u8 0, .int .u8 0, .int .u8 0, .int .u8 0, .int .u8 0, .int .u8 0, .int .u8 0, .int .u8 0, .int .u8 0, .int .u8 0, .int .u8 0, .int .u8 0, .int .u8 0, .int .u8 0, .int .u8 0, .int .u8 0, .int .u8 0, .int .u8 0, .int .u8 0, .int .u8 0, .int .u8 0, .int .u8 0, .int .u8 0, .int .u8 0, .int .u8 0, .int .u8 0, .int .u8 0, .int .u8 0, .int .u8 0, .int .u8 0, .int .u8 0, .int .u8 0, .int .u8 0, .int .u8 0, .int .u8 0, .int .u8 0, .int .u8 0, .int .u8 0, .int .u8 0, .int .u8 0, .int .u8 0, .int .u8 0, .int .u8 0, .int .u8 0, .int .u8 0, .int .u8 0, .int .u8 0, .int .u8 0, .int .u8 0, .int .u8 0, .int .u8 0, .int .u8 0, .int .u8 0, .int .u8 0, .int .u8 0, .int .u8 0, .int .u8 0] 89) = W2 at *
    generalize w1.heap.size = m at *
    have hcp := run_copy_text (P := Tryd.prog) W2 62 9 3 5 89 m 64 64 key (fun _ => 0) Tryd.underlying62 Tryd.size5 HM2.out
    rw [fit_text HKK.out, ← HFT.out] at hcp
    have HM3 : RowH (W2.setRow m (lst .u8 FT 64).toArray) m 89 .u8 64 FT := HM2.out.row FT
    have HN3 : RowH (W2.setRow m (lst .u8 FT 64).toArray) n 89 .u8 64 (fun _ => 0) := (setRow_other W2 m n _ (by have := HNM.out; omega)).trans HN2.out
    have HE3 : Hid (Ext w (W2.setRow m (lst .u8 FT 64).toArray)) := HE2.out.row (by have := HNM.out; have := HNw.out; omega) _
    generalize W2.setRow m (lst .u8 FT 64).toArray = W3 at *
    have HE4 : Hid (Ext w (W3.setRow n (lst .u8 FT 64).toArray)) := HE3.out.row HNw.out _
    clear HM2 HN2 HE2 HE1 HN1
    rw [hcp]
    clear hcp
    go_wp2_with (first | (refine wpList_load_row rfl 89 _ rfl m rfl 89 (lst .u8 FT 64).toArray (0, 0) _ HM3 Tryd.underlying89 rfl (by rw [Tryd.size89]; simp [lst_len]) ?_) | (refine wpList_store_row rfl 89 _ _ rfl n (lst .u8 FT 64).toArray rfl rfl 89 _ HN3 (by rw [Tryd.size89]; simp [lst_len]) (by simp [lst_len]) (lst_one _ _ _) ?_))
    refine bodyPost_ret (v := .agg (lst .u8 FT 64).toArray) ?_ rfl ⟨rfl, HE4.out⟩
    exact results_cell_row Tryd.results50 _ _ n 89 _ (0, 0) _ rfl (HN3.row FT) Tryd.underlying89 rfl (by rw [Tryd.size89]; simp [lst_len])
end Go.Proofs.YtpfeakdpckmcgaaDoor
