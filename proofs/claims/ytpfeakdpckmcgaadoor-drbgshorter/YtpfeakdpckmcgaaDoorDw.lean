/-
  mac, step, half, update, called.
-/
import Derived.Test.YtpfeakdpckmcgaaDoorKv
import Derived.Test.YtpfeakdpckmcgaaDoorHMac
import Derived.Test.YtpfeakdpckmcgaaDoorRgA
import Derived.Test.YtpfeakdpckmcgaaDoorTills
namespace Go.Proofs.YtpfeakdpckmcgaaDoor
set_option maxRecDepth 10000
open Go.RowKit
theorem Tryd.info5c : (Tryd.prog.info? 5).map (·.size) = some 1 := by kernel_rfl
theorem size_u8 (w : World) : (Go.sizeOf 5).run Tryd.prog w = .ok 1 w := by
  have h := Tryd.info5c
  cases hq : Tryd.prog.info? 5 with
  | none => simp [hq] at h
  | some i =>
    simp [hq] at h
    simp [sizeOf, typeInfo, hq, h]
/-- A copy of 32 bytes into one of both. -/
theorem copy32 {w : World} {b o : Nat} {K V M : ByteArray} {A : Int} (ho : o ≤ 32) (hM : M.size = 32) (hB : KB w b K V A) : (Builtin.copy_ #[62, 9] 3 #[.slice (some ⟨b, o, none⟩) 32 32, .string M]).run Tryd.prog w = .ok (.int .i64 32) (w.setCells b o (byS M)) := by
  have := Go.run_copy_string (P := Tryd.prog) w 62 9 3 5 b o 32 32 M Tryd.underlying62 size_u8 (by omega) (fun j hj => (hB.there ho).1 j (by omega)) (fun j hj => (hB.there ho).2 j (by omega))
  refine this.trans ?_
  rw [show ((M.size : Nat) : Int) = 32 from by rw [hM]; rfl]
  rfl
/-- The package's variables lie elsewhere. -/
theorem SGl.chg {w w' : World} {b : Nat} {K V : ByteArray} {A : Int} (hG : SGl w) (h : KB w b K V A) (hc : Chg (fun k => k = b) w w') : SGl w' := by
  have h0 := (h.1.2 0 (by decide)).1
  have n1 : ∀ g (x : Int), w.cell? ⟨g, 0, none⟩ = some (.int .u32 x) → ¬ g = b := fun g x hx e => by
    subst e
    rw [hx] at h0
    injection h0 with h0
    injection h0 with h0 _
    cases h0
  have m1 := n1 _ _ (hG.2.1 0 (by decide))
  have m2 := n1 _ _ (hG.2.2 0 (by decide))
  exact ⟨Nat.lt_of_lt_of_le hG.1 hc.size, fun k hk => (hc.cell (by have := hG.1; omega) m1).trans (hG.2.1 k hk), fun k hk => (hc.cell (by have := hG.1; omega) m2).trans (hG.2.2 k hk)⟩
set_option maxHeartbeats 1000000 in
theorem dmac_any (K V s : ByteArray) (A : Int) (b : Nat) (hK : K.size = 32) (hs : s.size ≤ 2000) (w : World) (hG : SGl w) (h : KB w b K V A) :
    Calls Tryd.prog 36 #[.pointer (some ⟨b, 0, none⟩), .string s] w fun e w' => e = .returned (.string (macS K s)) ∧ Ext w w' := by
  have HKx : Hid (∀ wx, Ext w wx → (convert 62 9 (.slice (some ⟨b, 0, none⟩) 32 32)).run Tryd.prog wx = .ok (.string K) wx) := fun wx hx => by
    have := run_lst_string Tryd.prog 5 62 9 Tryd.underlying62 Tryd.underlying5 Tryd.underlying9 wx (sb K) 32 _ (h.ext hx).key (by decide)
    rwa [mkS_sb hK] at this
  have HH : Hid (∀ W, SGl W → Calls Tryd.prog 44 #[.string K, .string s] W fun e w' => e = .returned (.string (macS K s)) ∧ Ext W w') := fun W hW => hmac_any K s (by omega) (by omega) W hW
  have kx := HKx.out w (Ext.refl w)
  generalize macS K s = M at *
  clear h
  go_enter Tryd.func36, Tryd.ntmps36
  go_wp2_with fail
  refine (HH.out _ hG).mono ?_
  rintro e w1 ⟨rfl, HX⟩
  have HX1 : Hid (Ext w w1) := HX
  clear HX
  go_wp2
  go_ret
  exact ⟨rfl, HX1.out⟩
set_option maxHeartbeats 2000000 in
theorem step_any (K V : ByteArray) (A : Int) (b : Nat) (hK : K.size = 32) (hV : V.size = 32) (w : World) (hG : SGl w) (h : KB w b K V A) :
    Calls Tryd.prog 27 #[.pointer (some ⟨b, 0, none⟩)] w fun e w' => e = .returned (.tuple #[]) ∧ KB w' b K (macS K V) A ∧ Chg (fun k => k = b) w w' := by
  have HVx : Hid (∀ wx, Ext w wx → (convert 62 9 (.slice (some ⟨b, 32, none⟩) 32 32)).run Tryd.prog wx = .ok (.string V) wx) := fun wx hx => by
    have := run_lst_string Tryd.prog 5 62 9 Tryd.underlying62 Tryd.underlying5 Tryd.underlying9 wx (sb V) 32 _ (h.ext hx).val (by decide)
    rwa [mkS_sb hV] at this
  have hM : (macS K V).size = 32 := mac_size _ _
  have hS0 : Ext w w.drew := (Ext.refl _).drew
  have HH : Hid (∀ W, SGl W → KB W b K V A → Calls Tryd.prog 36 #[.pointer (some ⟨b, 0, none⟩), .string V] W fun e w' => e = .returned (.string (macS K V)) ∧ Ext W w') := fun W hW hB => dmac_any K V V A b hK (by omega) W hW hB
  generalize macS K V = M at *
  go_enter Tryd.func27, Tryd.ntmps27
  go_upto_region 0 with fail
  have vx := HVx.out _ hS0
  refine wp_region_noPanic ?_
  refine wp_region_held (S := fun _ => True) (by kernel_rfl) ?_
  rw [show ({ w with drawn := w.drawn + 1 } : World) = w.drew from rfl]
  refine held_take (i := 0) (v := ?vs0) rfl (by kernel_rfl) (by kernel_rfl) (by kernel_rfl) (fun _ _ _ h => h) rfl ?hys0 trivial ?rests0
  case hys0 => (intro wx hSx; go_simp; try with_reducible rfl)
  try simp only [Act.put, List.setIfInBounds_toArray, List.set_cons_zero, List.set_cons_succ]
  refine held_take (i := 1) (v := ?vs1) rfl (by kernel_rfl) (by kernel_rfl) (by kernel_rfl) (fun _ _ _ h => h) rfl ?hys1 trivial ?rests1
  case hys1 => (intro wx hSx; go_simp; try with_reducible rfl)
  try simp only [Act.put, List.setIfInBounds_toArray, List.set_cons_zero, List.set_cons_succ]
  refine held_take (i := 2) (v := ?vs2) rfl (by kernel_rfl) (by kernel_rfl) (by kernel_rfl) (fun _ _ _ h => h) rfl ?hys2 trivial ?rests2
  case hys2 => (intro wx hSx; go_simp; try with_reducible rfl)
  try simp only [Act.put, List.setIfInBounds_toArray, List.set_cons_zero, List.set_cons_succ]
  refine held_take (i := 3) (v := ?vs3) rfl (by kernel_rfl) (by kernel_rfl) (by kernel_rfl) (fun _ _ _ h => h) rfl ?hys3 trivial ?rests3
  case hys3 => (intro wx hSx; go_simp; try with_reducible rfl)
  try simp only [Act.put, List.setIfInBounds_toArray, List.set_cons_zero, List.set_cons_succ]
  refine held_take (i := 4) (v := ?vs4) rfl (by kernel_rfl) (by kernel_rfl) (by kernel_rfl) (fun _ _ _ h => h) rfl ?hys4 trivial ?rests4
  case hys4 => (intro wx hSx; go_simp; try with_reducible rfl)
  try simp only [Act.put, List.setIfInBounds_toArray, List.set_cons_zero, List.set_cons_succ]
  refine held_take (i := 5) (v := ?vs5) rfl (by kernel_rfl) (by kernel_rfl) (by kernel_rfl) (fun _ _ _ h => h) rfl ?hys5 trivial ?rests5
  case hys5 => (intro wx hSx; go_simp; try with_reducible rfl)
  try simp only [Act.put, List.setIfInBounds_toArray, List.set_cons_zero, List.set_cons_succ]
  refine held_take (i := 6) (v := ?vs6) rfl (by kernel_rfl) (by kernel_rfl) (by kernel_rfl) (fun _ _ _ h => h) rfl ?hys6 trivial ?rests6
  case hys6 => (intro wx hSx; go_simp; try with_reducible rfl)
  try simp only [Act.put, List.setIfInBounds_toArray, List.set_cons_zero, List.set_cons_succ]
  refine held_take (i := 7) (v := ?vs7) rfl (by kernel_rfl) (by kernel_rfl) (by kernel_rfl) (fun _ _ _ h => h) rfl ?hys7 trivial ?rests7
  case hys7 => (intro wx hSx; go_simp; try with_reducible rfl)
  try simp only [Act.put, List.setIfInBounds_toArray, List.set_cons_zero, List.set_cons_succ]
  refine held_take (i := 8) (v := ?vs8) rfl (by kernel_rfl) (by kernel_rfl) (by kernel_rfl) (fun _ _ _ h => h) rfl ?hys8 trivial ?rests8
  case hys8 => (intro wx hSx; go_simp; try with_reducible rfl)
  try simp only [Act.put, List.setIfInBounds_toArray, List.set_cons_zero, List.set_cons_succ]
  refine held_one (i := 9) (by kernel_rfl) rfl rfl (fun K hK => ?_)
  go_simp
  try go_simp
  refine hK.out _ _ ⟨trivial, ?_⟩
  clear hK K
  try simp only [Act.put, List.setIfInBounds_toArray, List.set_cons_zero, List.set_cons_succ]
  refine held_one (i := 10) (by kernel_rfl) rfl rfl (fun K hK => ?_)
  go_simp
  refine (HH.out _ (hG.ext hS0) (h.ext hS0)).mono ?_
  rintro e w1 ⟨rfl, HX⟩
  have hS1 : Ext w w1 := hS0.trans HX
  clear HX
  try go_simp
  refine hK.out _ _ ⟨trivial, ?_⟩
  clear hK K
  try simp only [Act.put, List.setIfInBounds_toArray, List.set_cons_zero, List.set_cons_succ]
  refine held_one (i := 11) (by kernel_rfl) rfl rfl (fun K hK => ?_)
  have hB1 := h.ext hS1
  have hcp : (Builtin.copy_ #[62, 9] 3 #[.slice (some ⟨b, 32, none⟩) 32 32, .string M]).run Tryd.prog w1 = .ok (.int .i64 32) (w1.setCells b 32 (byS M)) := copy32 (by decide) hM hB1
  go_simp
  try go_simp
  refine hK.out _ _ ⟨trivial, ?_⟩
  clear hK K
  try simp only [Act.put, List.setIfInBounds_toArray, List.set_cons_zero, List.set_cons_succ]
  refine wpAnyH_done (by kernel_rfl) ?_ _
  refine NoPanic.normal ?_
  go_wp2
  refine bodyPost_end (v := .tuple #[]) (by simp [results, Tryd.results27, go_sem]) rfl ?_
  exact ⟨rfl, hB1.putV hM, Chg.sts (F := fun k => k = b) (.inl rfl) (Chg.of_ext _ hS1) _ _⟩
theorem one_get (m : Nat) (MB : ByteArray) (h : MB = mkS (fun _ => m) 1) (W : World) : (convert 62 9 (.slice (some ⟨W.heap.size, 0, none⟩) 1 1)).run Tryd.prog (W.alloc (.cells #[.int .u8 (m : Int)] 5)) = .ok (.string MB) (W.alloc (.cells #[.int .u8 (m : Int)] 5)) := by
  rw [h]
  refine run_lst_string Tryd.prog 5 62 9 Tryd.underlying62 Tryd.underlying5 Tryd.underlying9 _ (fun _ => m) 1 _ (.inr ⟨W.heap.size, 0, 1, by rw [lst_len], by simp, by rw [lst_len]; decide, fun j x hj => ?_⟩) (by decide)
  obtain ⟨hk, rfl⟩ := lst_of hj
  obtain rfl : j = 0 := by omega
  rw [World.cell?_alloc_at _ _ _ _ rfl]
  rfl
set_option maxHeartbeats 2000000 in
theorem half_any (K V s MB : ByteArray) (m : Nat) (hMB : MB = mkS (fun _ => m) 1) (A : Int) (b : Nat) (hK : K.size = 32) (hV : V.size = 32) (hs : s.size ≤ 1500) (w : World) (hG : SGl w) (h : KB w b K V A) :
    Calls Tryd.prog 33 #[.pointer (some ⟨b, 0, none⟩), .int .u8 (m : Int), .string s] w fun e w' => e = .returned (.tuple #[]) ∧ KB w' b (macS K (V ++ MB ++ s)) (macS (macS K (V ++ MB ++ s)) V) A ∧ Chg (fun k => k = b) w w' := by
  have HVx : Hid (∀ wx, Ext w wx → (convert 62 9 (.slice (some ⟨b, 32, none⟩) 32 32)).run Tryd.prog wx = .ok (.string V) wx) := fun wx hx => by
    have := run_lst_string Tryd.prog 5 62 9 Tryd.underlying62 Tryd.underlying5 Tryd.underlying9 wx (sb V) 32 _ (h.ext hx).val (by decide)
    rwa [mkS_sb hV] at this
  have hM : (macS K (V ++ MB ++ s)).size = 32 := mac_size _ _
  have hz : MB.size = 1 := by rw [hMB]; exact mkS_size _ _
  have HCV : Hid (∀ W : World, (convert 62 9 (.slice (some ⟨W.heap.size, 0, none⟩) 1 1)).run Tryd.prog (W.alloc (.cells #[.int .u8 (m : Int)] 5)) = .ok (.string MB) (W.alloc (.cells #[.int .u8 (m : Int)] 5))) := one_get m MB hMB
  have hc2 : ¬ 9223372036854775807 < 33 + s.size := by omega
  have hS0 : Ext w w.drew := (Ext.refl _).drew
  have HH : Hid (∀ W, SGl W → KB W b K V A → Calls Tryd.prog 36 #[.pointer (some ⟨b, 0, none⟩), .string (V ++ MB ++ s)] W fun e w' => e = .returned (.string (macS K (V ++ MB ++ s))) ∧ Ext W w') := fun W hW hB => dmac_any K V (V ++ MB ++ s) A b hK (by rw [ByteArray.size_append, ByteArray.size_append]; omega) W hW hB
  have HS2 : Hid (∀ W, SGl W → KB W b (macS K (V ++ MB ++ s)) V A → Calls Tryd.prog 27 #[.pointer (some ⟨b, 0, none⟩)] W fun e w' => e = .returned (.tuple #[]) ∧ KB w' b (macS K (V ++ MB ++ s)) (macS (macS K (V ++ MB ++ s)) V) A ∧ Chg (fun k => k = b) W w') := fun W hW hB => step_any _ V A b hM hV W hW hB
  generalize macS K (V ++ MB ++ s) = M at *
  generalize macS M V = M2 at *
  clear hMB
  go_enter Tryd.func33, Tryd.ntmps33
  go_upto_region 0 with fail
  refine wp_region_noPanic ?_
  refine wp_region_held (S := fun wx => (convert 62 9 (.slice (some ⟨b, 32, none⟩) 32 32)).run Tryd.prog wx = .ok (.string V) wx) (by kernel_rfl) ?_
  rw [show ({ w with drawn := w.drawn + 1 } : World) = w.drew from rfl]
  generalize w.drew = W0 at *
  refine held_take (i := 0) (v := ?vh0) rfl (by kernel_rfl) (by kernel_rfl) (by kernel_rfl) (fun _ _ _ h => h) rfl ?hyh0 (HVx.out _ hS0) ?resth0
  case hyh0 => (intro wx hSx; go_simp; try with_reducible rfl)
  try simp only [Act.put, List.setIfInBounds_toArray, List.set_cons_zero, List.set_cons_succ]
  refine held_take (i := 1) (v := ?vh1) rfl (by kernel_rfl) (by kernel_rfl) (by kernel_rfl) (fun _ _ _ h => h) rfl ?hyh1 (HVx.out _ hS0) ?resth1
  case hyh1 => (intro wx hSx; go_simp; try with_reducible rfl)
  try simp only [Act.put, List.setIfInBounds_toArray, List.set_cons_zero, List.set_cons_succ]
  refine held_take (i := 2) (v := ?vh2) rfl (by kernel_rfl) (by kernel_rfl) (by kernel_rfl) (fun _ _ _ h => h) rfl ?hyh2 (HVx.out _ hS0) ?resth2
  case hyh2 => (intro wx hSx; go_simp; try with_reducible rfl)
  try simp only [Act.put, List.setIfInBounds_toArray, List.set_cons_zero, List.set_cons_succ]
  refine held_take (i := 3) (v := ?vh3) rfl (by kernel_rfl) (by kernel_rfl) (by kernel_rfl) (fun _ _ _ h => h) rfl ?hyh3 (HVx.out _ hS0) ?resth3
  case hyh3 => (intro wx hSx; go_simp; try with_reducible rfl)
  try simp only [Act.put, List.setIfInBounds_toArray, List.set_cons_zero, List.set_cons_succ]
  refine held_take (i := 4) (v := ?vh4) rfl (by kernel_rfl) (by kernel_rfl) (by kernel_rfl) (fun _ _ _ h => h) rfl ?hyh4 (HVx.out _ hS0) ?resth4
  case hyh4 => (intro wx hSx; go_simp; try with_reducible rfl)
  try simp only [Act.put, List.setIfInBounds_toArray, List.set_cons_zero, List.set_cons_succ]
  refine held_take (i := 5) (v := ?vh5) rfl (by kernel_rfl) (by kernel_rfl) (by kernel_rfl) (fun _ _ _ h => h) rfl ?hyh5 (HVx.out _ hS0) ?resth5
  case hyh5 => (intro wx hSx; go_simp; try with_reducible rfl)
  try simp only [Act.put, List.setIfInBounds_toArray, List.set_cons_zero, List.set_cons_succ]
  refine held_take (i := 6) (v := ?vh6) rfl (by kernel_rfl) (by kernel_rfl) (by kernel_rfl) (fun _ _ _ h => h) rfl ?hyh6 (HVx.out _ hS0) ?resth6
  case hyh6 => (intro wx hSx; go_simp; try with_reducible rfl)
  try simp only [Act.put, List.setIfInBounds_toArray, List.set_cons_zero, List.set_cons_succ]
  refine held_take (i := 7) (v := ?vh7) rfl (by kernel_rfl) (by kernel_rfl) (by kernel_rfl) (fun _ _ _ h => h) rfl ?hyh7 (HVx.out _ hS0) ?resth7
  case hyh7 => (intro wx hSx; go_simp; try with_reducible rfl)
  try simp only [Act.put, List.setIfInBounds_toArray, List.set_cons_zero, List.set_cons_succ]
  refine held_take (i := 8) (v := ?vh8) rfl (by kernel_rfl) (by kernel_rfl) (by kernel_rfl) (fun _ _ _ h => h) rfl ?hyh8 (HVx.out _ hS0) ?resth8
  case hyh8 => (intro wx hSx; go_simp; try with_reducible rfl)
  try simp only [Act.put, List.setIfInBounds_toArray, List.set_cons_zero, List.set_cons_succ]
  refine held_take (i := 9) (v := ?vh9) rfl (by kernel_rfl) (by kernel_rfl) (by kernel_rfl) (fun _ _ _ h => h) rfl ?hyh9 (HVx.out _ hS0) ?resth9
  case hyh9 => (intro wx hSx; have vx : (convert 62 9 (.slice (some ⟨b, 32, none⟩) 32 32)).run Tryd.prog wx = .ok (.string V) wx := hSx; go_simp; try with_reducible rfl)
  try simp only [Act.put, List.setIfInBounds_toArray, List.set_cons_zero, List.set_cons_succ]
  refine held_take (i := 10) (v := ?vh10) rfl (by kernel_rfl) (by kernel_rfl) (by kernel_rfl) (fun _ _ _ h => h) rfl ?hyh10 (HVx.out _ hS0) ?resth10
  case hyh10 => (intro wx hSx; go_simp; try with_reducible rfl)
  try simp only [Act.put, List.setIfInBounds_toArray, List.set_cons_zero, List.set_cons_succ]
  refine held_take (i := 14) (v := ?vh14) rfl (by kernel_rfl) (by kernel_rfl) (by kernel_rfl) (fun _ _ _ h => h) rfl ?hyh14 (HVx.out _ hS0) ?resth14
  case hyh14 => (intro wx hSx; go_simp; try with_reducible rfl)
  try simp only [Act.put, List.setIfInBounds_toArray, List.set_cons_zero, List.set_cons_succ]
  refine held_one (i := 11) (by kernel_rfl) rfl rfl (fun K hK => ?_)
  go_simp
  have hSa : Ext w (W0.alloc (.cells #[.int .u8 (m : Int)] 5)) := hS0.alloc _
  have hcv := HCV.out W0
  try go_simp
  refine hK.out _ _ ⟨(HVx.out _ hSa), ?_⟩
  clear hK K
  try simp only [Act.put, List.setIfInBounds_toArray, List.set_cons_zero, List.set_cons_succ]
  refine held_one (i := 12) (by kernel_rfl) rfl rfl (fun K hK => ?_)
  go_simp
  try go_simp
  refine hK.out _ _ ⟨(HVx.out _ hSa), ?_⟩
  clear hK K
  try simp only [Act.put, List.setIfInBounds_toArray, List.set_cons_zero, List.set_cons_succ]
  clear hcv
  refine held_take (i := 13) (v := ?vh13) rfl (by kernel_rfl) (by kernel_rfl) (by kernel_rfl) (fun _ _ _ h => h) rfl ?hyh13 (HVx.out _ hSa) ?resth13
  case hyh13 => (intro wx hSx; go_simp; try with_reducible rfl)
  try simp only [Act.put, List.setIfInBounds_toArray, List.set_cons_zero, List.set_cons_succ]
  refine held_take (i := 15) (v := ?vh15) rfl (by kernel_rfl) (by kernel_rfl) (by kernel_rfl) (fun _ _ _ h => h) rfl ?hyh15 (HVx.out _ hSa) ?resth15
  case hyh15 => (intro wx hSx; go_simp; try with_reducible rfl)
  try simp only [Act.put, List.setIfInBounds_toArray, List.set_cons_zero, List.set_cons_succ]
  refine held_one (i := 16) (by kernel_rfl) rfl rfl (fun K hK => ?_)
  go_simp
  refine (HH.out _ (hG.ext hSa) (h.ext hSa)).mono ?_
  rintro e w1 ⟨rfl, HX⟩
  have hS1 : Ext w w1 := hSa.trans HX
  clear HX
  try go_simp
  refine hK.out _ _ ⟨(HVx.out _ hS1), ?_⟩
  clear hK K
  try simp only [Act.put, List.setIfInBounds_toArray, List.set_cons_zero, List.set_cons_succ]
  refine held_one (i := 17) (by kernel_rfl) rfl rfl (fun K hK => ?_)
  have hB1 := h.ext hS1
  have hB2 : KB (w1.setCells b 0 (byS M)) b M V A := hB1.putK hM
  have HVy : Hid ((convert 62 9 (.slice (some ⟨b, 32, none⟩) 32 32)).run Tryd.prog (w1.setCells b 0 (byS M)) = .ok (.string V) (w1.setCells b 0 (byS M))) := by
    have := run_lst_string Tryd.prog 5 62 9 Tryd.underlying62 Tryd.underlying5 Tryd.underlying9 _ (sb V) 32 _ hB2.val (by decide)
    rwa [mkS_sb hV] at this
  have hcp : (Builtin.copy_ #[62, 9] 3 #[.slice (some ⟨b, 0, none⟩) 32 32, .string M]).run Tryd.prog w1 = .ok (.int .i64 32) (w1.setCells b 0 (byS M)) := copy32 (by decide) hM hB1
  go_simp
  try go_simp
  refine hK.out _ _ ⟨(HVy.out), ?_⟩
  clear hK K
  try simp only [Act.put, List.setIfInBounds_toArray, List.set_cons_zero, List.set_cons_succ]
  refine wpAnyH_done (by kernel_rfl) ?_ _
  refine NoPanic.normal ?_
  have hC2 : Chg (fun k => k = b) w (w1.setCells b 0 (byS M)) := Chg.sts (F := fun k => k = b) (.inl rfl) (Chg.of_ext _ hS1) _ _
  have hG2 : SGl (w1.setCells b 0 (byS M)) := hG.chg h hC2
  clear hcp HVy
  generalize w1.setCells b 0 (byS M) = w2 at *
  go_wp2_with fail
  refine (HS2.out _ hG2 hB2).mono ?_
  rintro e w3 ⟨rfl, hB3, hC3⟩
  have HB3 : Hid (KB w3 b M M2 A ∧ Chg (fun k => k = b) w w3) := ⟨hB3, hC2.trans hC3 (fun _ q => .inl q)⟩
  clear hB3 hC3 hC2 hB2
  go_wp2
  refine bodyPost_end (v := .tuple #[]) (by simp [results, Tryd.results33, go_sem]) rfl ?_
  exact ⟨rfl, HB3.out⟩
theorem KB.gl {w w' : World} {b : Nat} {K V : ByteArray} {A : Int} (h : KB w b K V A) (hc : Chg (fun k => k = b) w w') (hG : SGl w) : SGl w' := hG.chg h hc
set_option maxHeartbeats 2000000 in
theorem update_any (K V s : ByteArray) (A : Int) (b : Nat) (hK : K.size = 32) (hV : V.size = 32) (hs : s.size ≤ 1000) (w : World) (hG : SGl w) (h : KB w b K V A) :
    Calls Tryd.prog 23 #[.pointer (some ⟨b, 0, none⟩), .string s] w fun e w' => e = .returned (.tuple #[]) ∧ KB w' b (upK K V s) (upV K V s) A ∧ Chg (fun k => k = b) w w' := by
  have HM1 : Hid (Calls Tryd.prog 33 #[.pointer (some ⟨b, 0, none⟩), .int .u8 0, .string s] w fun e w' => e = .returned (.tuple #[]) ∧ KB w' b (k1 K V s) (v1 K V s) A ∧ Chg (fun k => k = b) w w') :=
    half_any K V s b0S 0 (by decide) A b hK hV (by omega) w hG h
  have HM2 : Hid (∀ W, SGl W → KB W b (k1 K V s) (v1 K V s) A → Calls Tryd.prog 33 #[.pointer (some ⟨b, 0, none⟩), .int .u8 1, .string s] W fun e w' => e = .returned (.tuple #[]) ∧ KB w' b (k2 K V s) (v2 K V s) A ∧ Chg (fun k => k = b) W w') := fun W hW hB =>
    half_any (k1 K V s) (v1 K V s) s b1S 1 (by decide) A b (k1_size _ _ _) (v1_size _ _ _) (by omega) W hW hB
  have HUK : Hid (upK K V s = if s.size = 0 then k1 K V s else k2 K V s) := rfl
  have HUV : Hid (upV K V s = if s.size = 0 then v1 K V s else v2 K V s) := rfl
  generalize upK K V s = UK at *
  generalize upV K V s = UV at *
  generalize k1 K V s = K1 at *
  generalize v1 K V s = V1 at *
  generalize k2 K V s = K2 at *
  generalize v2 K V s = V2 at *
  go_enter Tryd.func23, Tryd.ntmps23
  go_wp2_with fail
  refine HM1.out.mono ?_
  rintro e w1 ⟨rfl, hB1, hC1⟩
  have hG1 := h.gl hC1 hG
  by_cases h0 : s.size = 0
  · have he : s.toList.isEmpty = true := isEmpty_nil h0
    go_wp2
    refine bodyPost_end (v := .tuple #[]) (by simp [results, Tryd.results23, go_sem]) rfl ?_
    exact ⟨rfl, by rw [HUK.out, HUV.out, if_pos h0, if_pos h0]; exact hB1, hC1⟩
  · have he : s.toList.isEmpty = false := isEmpty_some h0
    go_wp2_with fail
    refine (HM2.out _ hG1 hB1).mono ?_
    rintro e w2 ⟨rfl, hB2, hC2⟩
    go_wp2
    refine bodyPost_end (v := .tuple #[]) (by simp [results, Tryd.results23, go_sem]) rfl ?_
    exact ⟨rfl, by rw [HUK.out, HUV.out, if_neg h0, if_neg h0]; exact hB2, hC1.trans hC2 (fun _ q => .inl q)⟩
end Go.Proofs.YtpfeakdpckmcgaaDoor
