/-
  (*cast.Cast).count, tell, Told, called.
-/
import Derived.Test.YtmibekclhnkhnaaCc
namespace Go.Proofs.Ytmibekclhnkhnaa
open Go.RowKit
/-- One more of a kind and a body. -/
def bump (f : Int → ByteArray → Nat) (k : Int) (B : ByteArray) : Int → ByteArray → Nat := fun j C => if j = k ∧ C = B then f k B + 1 else f j C
/-- While the voices are counted. -/
def VS (b bm : Nat) (g : Nat → Value) (f : Int → ByteArray → Nat) (wx : World) : Prop := Blk wx b 39 g ∧ ∃ n, Vo wx bm n f
theorem VS.ext {b bm : Nat} {g : Nat → Value} {f : Int → ByteArray → Nat} {w w' : World} (h : VS b bm g f w) (hx : Ext w w') : VS b bm g f w' := by
  obtain ⟨h1, n, h2⟩ := h
  exact ⟨h1.ext hx, n, h2.ext hx⟩
theorem VS.look {b bm : Nat} {g : Nat → Value} {f : Int → ByteArray → Nat} {w : World} (h : VS b bm g f w) {k : Int} {B : ByteArray} (hk : (Lit.int .i64 k).wf = true) (hB : B.size ≤ maxLen) : (Instr.lookup 56 (.map (some bm)) (.agg #[.int .i64 k, .string B]) false).run Try.prog w = .ok (.int .i64 (f k B : Int)) w := by
  obtain ⟨h1, n, h2⟩ := h
  exact h2.look hk hB
theorem VS.map {b bm : Nat} {N T F : Nat} {s : St} {f : Int → ByteArray → Nat} {w : World} (h : VS b bm (cg N T F s (some bm)) f w) : w.cell? ⟨b, 35, none⟩ = some (.map (some bm)) := (h.1.2 35 (by decide)).1
theorem wf_small {c : Nat} (h : c ≤ 100000) : (Lit.int .i64 (c : Int)).wf = true := WalkArith.wf_i64 (by omega)
theorem wrap_small {c : Nat} (h : c ≤ 100000) : IntKind.i64.wrap ((c : Int) + 1) = ((c + 1 : Nat) : Int) := by rw [IntKind.wrap_i64]; omega
set_option maxHeartbeats 2000000 in
theorem count_any {b bm n : Nat} {f : Int → ByteArray → Nat} {N T F : Nat} {s : St} (k : Int) (B : ByteArray) (hk : (Lit.int .i64 k).wf = true) (hB : B.size ≤ 4096) (hn : n ≤ 1000) (hf : f k B ≤ 1000) (w : World) (hb : Blk w b 39 (cg N T F s (some bm))) (hne : bm ≠ b) (hv : Vo w bm n f) :
    Calls Try.prog 24 #[.pointer (some ⟨b, 0, none⟩), .int .i64 k, .string B] w fun e w' => e = .returned (.tuple #[.int .i64 (bump f k B 2 B : Int), .int .i64 (bump f k B 3 B : Int)]) ∧ Vo w' bm (n + 1) (bump f k B) ∧ Chg (fun x => x = bm) w w' := by
  have HB : Hid (B.size ≤ maxLen) := Nat.le_trans hB (by decide)
  have HK : Hid ((Lit.int .i64 k).wf = true) := hk
  have HV : Hid (Vo w bm n f) := hv
  have HC : Hid (Blk w b 39 (cg N T F s (some bm))) := hb
  have HS : VS b bm (cg N T F s (some bm)) f w.drew := VS.ext ⟨hb, n, hv⟩ (Ext.refl w).drew
  have hwr := wrap_small (c := f k B) (by omega)
  have HF : Hid (f k B ≤ 1000) := hf
  clear hk hv hf hb
  go_enter Try.func24, Try.ntmps24
  go_wp2_with fail
  refine wp_region_noPanic ?_
  refine wp_region_until (X := 12) (S := VS b bm (cg N T F s (some bm)) f) (by kernel_rfl) ?_
  obtain ⟨y0, hy0⟩ : ∃ y0, w.drew = y0 := ⟨_, rfl⟩
  rw [hy0] at HS ⊢
  have HX0 : Hid (Ext w y0) := by rw [← hy0]; exact (Ext.refl w).drew
  clear hy0
  refine until_take (i := 0) (v := ?va0) rfl (by kernel_rfl) (by kernel_rfl) (by kernel_rfl) (by kernel_rfl) (by kernel_rfl) (fun _ _ _ h => h) rfl ?hya0 HS ?resta0
  case hya0 => (intro w hSw; go_simp; try with_reducible rfl)
  try simp only [Act.put, List.setIfInBounds_toArray, List.set_cons_zero, List.set_cons_succ]
  refine until_take (i := 1) (v := ?va1) rfl (by kernel_rfl) (by kernel_rfl) (by kernel_rfl) (by kernel_rfl) (by kernel_rfl) (fun _ _ _ h => h) rfl ?hya1 HS ?resta1
  case hya1 => (intro w hSw; go_simp; try with_reducible rfl)
  try simp only [Act.put, List.setIfInBounds_toArray, List.set_cons_zero, List.set_cons_succ]
  refine until_take (i := 2) (v := ?va2) rfl (by kernel_rfl) (by kernel_rfl) (by kernel_rfl) (by kernel_rfl) (by kernel_rfl) (fun _ _ _ h => h) rfl ?hya2 HS ?resta2
  case hya2 => (intro w hSw; go_simp; try with_reducible rfl)
  try simp only [Act.put, List.setIfInBounds_toArray, List.set_cons_zero, List.set_cons_succ]
  refine until_take (i := 3) (v := ?va3) rfl (by kernel_rfl) (by kernel_rfl) (by kernel_rfl) (by kernel_rfl) (by kernel_rfl) (fun _ _ _ h => h) rfl ?hya3 HS ?resta3
  case hya3 => (intro w hSw; have c35 := hSw.map; go_simp; try with_reducible rfl)
  try simp only [Act.put, List.setIfInBounds_toArray, List.set_cons_zero, List.set_cons_succ]
  refine until_take (i := 4) (v := ?va4) rfl (by kernel_rfl) (by kernel_rfl) (by kernel_rfl) (by kernel_rfl) (by kernel_rfl) (fun _ _ _ h => h) rfl ?hya4 HS ?resta4
  case hya4 => (intro w hSw; go_simp; try with_reducible rfl)
  try simp only [Act.put, List.setIfInBounds_toArray, List.set_cons_zero, List.set_cons_succ]
  refine until_take (i := 5) (v := ?va5) rfl (by kernel_rfl) (by kernel_rfl) (by kernel_rfl) (by kernel_rfl) (by kernel_rfl) (fun _ _ _ h => h) rfl ?hya5 HS ?resta5
  case hya5 => (intro w hSw; go_simp; try with_reducible rfl)
  try simp only [Act.put, List.setIfInBounds_toArray, List.set_cons_zero, List.set_cons_succ]
  refine until_one (i := 6) (by kernel_rfl) (by kernel_rfl) rfl rfl (fun K hK => ?_)
  go_simp
  refine (clone_any B (by omega) _).mono ?_
  rintro e y1 ⟨rfl, HX⟩
  have HS1 := HS.ext HX
  go_simp
  refine hK.out _ _ HS1 ?_
  clear hK K
  try simp only [Act.put, List.setIfInBounds_toArray, List.set_cons_zero, List.set_cons_succ]
  have HX1 : Hid (Ext w y1) := HX0.out.trans HX
  clear HX HX0
  refine until_take (i := 7) (v := ?va7) rfl (by kernel_rfl) (by kernel_rfl) (by kernel_rfl) (by kernel_rfl) (by kernel_rfl) (fun _ _ _ h => h) rfl ?hya7 HS1 ?resta7
  case hya7 => (intro w hSw; go_simp; try with_reducible rfl)
  try simp only [Act.put, List.setIfInBounds_toArray, List.set_cons_zero, List.set_cons_succ]
  refine until_take (i := 8) (v := ?va8) rfl (by kernel_rfl) (by kernel_rfl) (by kernel_rfl) (by kernel_rfl) (by kernel_rfl) (fun _ _ _ h => h) rfl ?hya8 HS1 ?resta8
  case hya8 => (intro w hSw; have hl := hSw.look HK.out HB.out; go_simp; try with_reducible rfl)
  try simp only [Act.put, List.setIfInBounds_toArray, List.set_cons_zero, List.set_cons_succ]
  refine until_take (i := 9) (v := ?va9) rfl (by kernel_rfl) (by kernel_rfl) (by kernel_rfl) (by kernel_rfl) (by kernel_rfl) (fun _ _ _ h => h) rfl ?hya9 HS1 ?resta9
  case hya9 => (intro w hSw; go_simp; first | done | (rw [hwr]; with_reducible rfl) | (with_reducible rfl))
  try simp only [Act.put, List.setIfInBounds_toArray, List.set_cons_zero, List.set_cons_succ]
  have HV1 : Hid (Vo y1 bm n f) := HV.out.ext HX1.out
  obtain ⟨v0, st, W1, hme, hg1, hV1, W2, hst, hg2, hs2, hV2⟩ := HV1.out.store (c := f k B + 1) (Nat.lt_of_le_of_lt hn (by decide)) HK.out HB.out (wf_small (by have := HF.out; omega)) (wf_small (by have := HF.out; omega))
  have HW2 : Hid (Vo W2 bm (n + 1) (bump f k B)) := hV2
  have HG2 : Hid (Chg (fun x => x = bm) w W2) := (Chg.of_ext _ HX1.out).grown hg2 (fun z q => .inl (by cases q; rfl))
  have HS2 : VS b bm (cg N T F s (some bm)) f W1 := ⟨HS1.1.grown hg1 (fun q => hne (by cases q; rfl)), n + 1, hV1⟩
  clear hV2 hg2 hs2 hV1 hg1 HV1 HX1
  refine until_one (i := 10) (by kernel_rfl) (by kernel_rfl) rfl rfl (fun K hK => ?_)
  go_simp
  refine hK.out _ _ HS2 ?_
  clear hK K
  try simp only [Act.put, List.setIfInBounds_toArray, List.set_cons_zero, List.set_cons_succ]
  rw [show ((f k B + 1 : Nat) : Int) = (f k B : Int) + 1 from by omega] at hst
  simp only [goInt] at hst
  clear hme
  refine until_take (i := 11) (v := ?va11) rfl (by kernel_rfl) (by kernel_rfl) (by kernel_rfl) (by kernel_rfl) (by kernel_rfl) (fun _ _ _ h => h) rfl ?hya11 HS2 ?resta11
  case hya11 => (intro w hSw; go_simp; try with_reducible rfl)
  try simp only [Act.put, List.setIfInBounds_toArray, List.set_cons_zero, List.set_cons_succ]
  refine until_last (by kernel_rfl) (by kernel_rfl) rfl rfl (fun K hK => ?_)
  go_simp
  refine hK.out _ _ (NoPanic.normal ?_)
  clear hK K
  try simp only [Act.put, List.setIfInBounds_toArray, List.set_cons_zero, List.set_cons_succ]
  have HS3 : VS b bm (cg N T F s (some bm)) (bump f k B) W2.drew := VS.ext ⟨HC.out.keep HG2.out.size (HG2.out.block b HC.out.1 (fun q => hne q.symm)), n + 1, HW2.out⟩ (Ext.refl W2).drew
  clear hst HS2 HS1 HS hwr HF HV HC
  have w2 : (Lit.int .i64 2).wf = true := by decide
  have w3 : (Lit.int .i64 3).wf = true := by decide
  go_wp2_with fail
  refine wp_region_noPanic ?_
  refine wp_region_held (S := VS b bm (cg N T F s (some bm)) (bump f k B)) (by kernel_rfl) ?_
  rw [show ({ W2 with drawn := W2.drawn + 1 } : World) = W2.drew from rfl]
  refine held_take (i := 0) (v := ?vc0) rfl (by kernel_rfl) (by kernel_rfl) (by kernel_rfl) (fun _ _ _ h => h) rfl ?hyc0 HS3 ?restc0
  case hyc0 => (intro wx hSx; have c35 := hSx.map; have l2 := hSx.look w2 HB.out; have l3 := hSx.look w3 HB.out; go_simp; try with_reducible rfl)
  try simp only [Act.put, List.setIfInBounds_toArray, List.set_cons_zero, List.set_cons_succ]
  refine held_take (i := 1) (v := ?vc1) rfl (by kernel_rfl) (by kernel_rfl) (by kernel_rfl) (fun _ _ _ h => h) rfl ?hyc1 HS3 ?restc1
  case hyc1 => (intro wx hSx; have c35 := hSx.map; have l2 := hSx.look w2 HB.out; have l3 := hSx.look w3 HB.out; go_simp; try with_reducible rfl)
  try simp only [Act.put, List.setIfInBounds_toArray, List.set_cons_zero, List.set_cons_succ]
  refine held_take (i := 2) (v := ?vc2) rfl (by kernel_rfl) (by kernel_rfl) (by kernel_rfl) (fun _ _ _ h => h) rfl ?hyc2 HS3 ?restc2
  case hyc2 => (intro wx hSx; have c35 := hSx.map; have l2 := hSx.look w2 HB.out; have l3 := hSx.look w3 HB.out; go_simp; try with_reducible rfl)
  try simp only [Act.put, List.setIfInBounds_toArray, List.set_cons_zero, List.set_cons_succ]
  refine held_take (i := 3) (v := ?vc3) rfl (by kernel_rfl) (by kernel_rfl) (by kernel_rfl) (fun _ _ _ h => h) rfl ?hyc3 HS3 ?restc3
  case hyc3 => (intro wx hSx; have c35 := hSx.map; have l2 := hSx.look w2 HB.out; have l3 := hSx.look w3 HB.out; go_simp; try with_reducible rfl)
  try simp only [Act.put, List.setIfInBounds_toArray, List.set_cons_zero, List.set_cons_succ]
  refine held_take (i := 4) (v := ?vc4) rfl (by kernel_rfl) (by kernel_rfl) (by kernel_rfl) (fun _ _ _ h => h) rfl ?hyc4 HS3 ?restc4
  case hyc4 => (intro wx hSx; have c35 := hSx.map; have l2 := hSx.look w2 HB.out; have l3 := hSx.look w3 HB.out; go_simp; try with_reducible rfl)
  try simp only [Act.put, List.setIfInBounds_toArray, List.set_cons_zero, List.set_cons_succ]
  refine held_take (i := 5) (v := ?vc5) rfl (by kernel_rfl) (by kernel_rfl) (by kernel_rfl) (fun _ _ _ h => h) rfl ?hyc5 HS3 ?restc5
  case hyc5 => (intro wx hSx; have c35 := hSx.map; have l2 := hSx.look w2 HB.out; have l3 := hSx.look w3 HB.out; go_simp; try with_reducible rfl)
  try simp only [Act.put, List.setIfInBounds_toArray, List.set_cons_zero, List.set_cons_succ]
  refine held_take (i := 6) (v := ?vc6) rfl (by kernel_rfl) (by kernel_rfl) (by kernel_rfl) (fun _ _ _ h => h) rfl ?hyc6 HS3 ?restc6
  case hyc6 => (intro wx hSx; have c35 := hSx.map; have l2 := hSx.look w2 HB.out; have l3 := hSx.look w3 HB.out; go_simp; try with_reducible rfl)
  try simp only [Act.put, List.setIfInBounds_toArray, List.set_cons_zero, List.set_cons_succ]
  refine held_take (i := 7) (v := ?vc7) rfl (by kernel_rfl) (by kernel_rfl) (by kernel_rfl) (fun _ _ _ h => h) rfl ?hyc7 HS3 ?restc7
  case hyc7 => (intro wx hSx; have c35 := hSx.map; have l2 := hSx.look w2 HB.out; have l3 := hSx.look w3 HB.out; go_simp; try with_reducible rfl)
  try simp only [Act.put, List.setIfInBounds_toArray, List.set_cons_zero, List.set_cons_succ]
  refine held_take (i := 8) (v := ?vc8) rfl (by kernel_rfl) (by kernel_rfl) (by kernel_rfl) (fun _ _ _ h => h) rfl ?hyc8 HS3 ?restc8
  case hyc8 => (intro wx hSx; have c35 := hSx.map; have l2 := hSx.look w2 HB.out; have l3 := hSx.look w3 HB.out; go_simp; try with_reducible rfl)
  try simp only [Act.put, List.setIfInBounds_toArray, List.set_cons_zero, List.set_cons_succ]
  refine held_take (i := 9) (v := ?vc9) rfl (by kernel_rfl) (by kernel_rfl) (by kernel_rfl) (fun _ _ _ h => h) rfl ?hyc9 HS3 ?restc9
  case hyc9 => (intro wx hSx; have c35 := hSx.map; have l2 := hSx.look w2 HB.out; have l3 := hSx.look w3 HB.out; go_simp; try with_reducible rfl)
  try simp only [Act.put, List.setIfInBounds_toArray, List.set_cons_zero, List.set_cons_succ]
  refine held_take (i := 10) (v := ?vc10) rfl (by kernel_rfl) (by kernel_rfl) (by kernel_rfl) (fun _ _ _ h => h) rfl ?hyc10 HS3 ?restc10
  case hyc10 => (intro wx hSx; have c35 := hSx.map; have l2 := hSx.look w2 HB.out; have l3 := hSx.look w3 HB.out; go_simp; try with_reducible rfl)
  try simp only [Act.put, List.setIfInBounds_toArray, List.set_cons_zero, List.set_cons_succ]
  refine held_take (i := 11) (v := ?vc11) rfl (by kernel_rfl) (by kernel_rfl) (by kernel_rfl) (fun _ _ _ h => h) rfl ?hyc11 HS3 ?restc11
  case hyc11 => (intro wx hSx; have c35 := hSx.map; have l2 := hSx.look w2 HB.out; have l3 := hSx.look w3 HB.out; go_simp; try with_reducible rfl)
  try simp only [Act.put, List.setIfInBounds_toArray, List.set_cons_zero, List.set_cons_succ]
  refine held_take (i := 12) (v := ?vc12) rfl (by kernel_rfl) (by kernel_rfl) (by kernel_rfl) (fun _ _ _ h => h) rfl ?hyc12 HS3 ?restc12
  case hyc12 => (intro wx hSx; have c35 := hSx.map; have l2 := hSx.look w2 HB.out; have l3 := hSx.look w3 HB.out; go_simp; try with_reducible rfl)
  try simp only [Act.put, List.setIfInBounds_toArray, List.set_cons_zero, List.set_cons_succ]
  refine held_take (i := 13) (v := ?vc13) rfl (by kernel_rfl) (by kernel_rfl) (by kernel_rfl) (fun _ _ _ h => h) rfl ?hyc13 HS3 ?restc13
  case hyc13 => (intro wx hSx; have c35 := hSx.map; have l2 := hSx.look w2 HB.out; have l3 := hSx.look w3 HB.out; go_simp; try with_reducible rfl)
  try simp only [Act.put, List.setIfInBounds_toArray, List.set_cons_zero, List.set_cons_succ]
  refine held_take (i := 14) (v := ?vc14) rfl (by kernel_rfl) (by kernel_rfl) (by kernel_rfl) (fun _ _ _ h => h) rfl ?hyc14 HS3 ?restc14
  case hyc14 => (intro wx hSx; have c35 := hSx.map; have l2 := hSx.look w2 HB.out; have l3 := hSx.look w3 HB.out; go_simp; try with_reducible rfl)
  try simp only [Act.put, List.setIfInBounds_toArray, List.set_cons_zero, List.set_cons_succ]
  refine held_take (i := 15) (v := ?vc15) rfl (by kernel_rfl) (by kernel_rfl) (by kernel_rfl) (fun _ _ _ h => h) rfl ?hyc15 HS3 ?restc15
  case hyc15 => (intro wx hSx; have c35 := hSx.map; have l2 := hSx.look w2 HB.out; have l3 := hSx.look w3 HB.out; go_simp; try with_reducible rfl)
  try simp only [Act.put, List.setIfInBounds_toArray, List.set_cons_zero, List.set_cons_succ]
  refine wpAnyH_done (by kernel_rfl) ?_ _
  refine NoPanic.normal ?_
  go_wp2
  refine bodyPost_ret (v := .tuple #[.int .i64 (bump f k B 2 B : Int), .int .i64 (bump f k B 3 B : Int)]) (by simp [results, Try.results24, go_sem]) rfl ⟨rfl, HW2.out.ext (Ext.refl W2).drew, HG2.out.drew⟩
set_option maxHeartbeats 1000000 in
theorem tell_any {b : Nat} {N T F : Nat} {s : St} {mv : Option Nat} (B : ByteArray) (hB : B.size ≤ 4096) (w : World) (hb : Blk w b 39 (cg N T F s mv)) (h0 : s.tb = none) :
    Calls Try.prog 25 #[.pointer (some ⟨b, 0, none⟩), .string B] w fun e w' => e = .returned (.tuple #[]) ∧ Blk w' b 39 (cg N T F ⟨s.L, s.rb, some B⟩ none) ∧ Chg (fun x => x = b) w w' := by
  have HC : Hid (Blk w b 39 (cg N T F s mv)) := hb
  clear hb
  go_enter Try.func25, Try.ntmps25
  go_wp2_with fail
  refine (clone_any B (by omega) _).mono ?_
  rintro e w1 ⟨rfl, HX⟩
  have HC1 : Hid (Blk w1 b 39 (cg N T F s mv)) := HC.out.ext HX
  have HX1 : Hid (Ext w w1) := HX
  have hlt := HC1.out.1
  have c35 : w1.cell? ⟨b, 35, none⟩ = some (.map mv) := (HC1.out.2 35 (by decide)).1
  have c37 : w1.cell? ⟨b, 37, none⟩ = some (.bool s.tb.isSome) := (HC1.out.2 37 (by decide)).1
  have c38 : w1.cell? ⟨b, 38, none⟩ = some (.string (s.tb.getD ⟨#[]⟩)) := (HC1.out.2 38 (by decide)).1
  have z35 := (HC1.out.2 35 (by decide)).2
  have z37 := (HC1.out.2 37 (by decide)).2
  have z38 := (HC1.out.2 38 (by decide)).2
  clear HX HC
  go_wp2
  refine bodyPost_end (v := .tuple #[]) (by simp [results, Try.results25, go_sem]) rfl ⟨rfl, ?_, ?_⟩
  · refine (((HC1.out.put (i := 37) (by decide) (.bool true)).put (i := 38) (by decide) (.string B)).put (i := 35) (by decide) (.map none)).congr fun j hj => ?_
    unfold cg
    by_cases e0 : j = 35
    · subst e0; rfl
    by_cases e1 : j = 38
    · subst e1; rfl
    by_cases e2 : j = 37
    · subst e2; rfl
    simp only [e0, e1, e2, if_false]
    repeat' split
    all_goals first | rfl | omega
  · exact Chg.st (.inl rfl) (Chg.st (.inl rfl) (Chg.st (.inl rfl) (Chg.of_ext _ HX1.out)))
set_option maxHeartbeats 1000000 in
theorem ctold_any {N T F : Nat} {s : St} {G : Nat → Prop} {v : Value} (hs : ∀ B, s.tb = some B → B.size ≤ 100000) (w : World) (h : CAt w v N T F s G) :
    Calls Try.prog 16 #[v] w fun e w' => e = .returned (.tuple #[.string (s.tb.getD ⟨#[]⟩), .bool s.tb.isSome]) ∧ Ext w w' := by
  obtain ⟨b, mv, rfl, hb, hm, rfl⟩ := h
  have HC : Hid (Blk w b 39 (cg N T F s mv)) := hb
  have HL : Hid ((s.tb.getD ⟨#[]⟩).size ≤ 100000) := by
    show _ ≤ _
    cases e : s.tb with
    | none => exact Nat.zero_le _
    | some B => exact hs B e
  have HS : Ext w w.drew := (Ext.refl w).drew
  clear hb hm hs
  go_enter Try.func16, Try.ntmps16
  go_wp2_with fail
  refine wp_region_noPanic ?_
  refine wp_region_held (S := Ext w) (by kernel_rfl) ?_
  rw [show ({ w with drawn := w.drawn + 1 } : World) = w.drew from rfl]
  generalize w.drew = y0 at *
  refine held_take (i := 0) (v := ?vd0) rfl (by kernel_rfl) (by kernel_rfl) (by kernel_rfl) (fun _ _ _ h => h) rfl ?hyd0 HS ?restd0
  case hyd0 => (intro wx hSx; have hb := HC.out.ext hSx; have hlt := hb.1; have c37 : wx.cell? ⟨b, 37, none⟩ = some (.bool s.tb.isSome) := (hb.2 37 (by decide)).1; have c38 : wx.cell? ⟨b, 38, none⟩ = some (.string (s.tb.getD ⟨#[]⟩)) := (hb.2 38 (by decide)).1; clear hb; go_simp; try with_reducible rfl)
  try simp only [Act.put, List.setIfInBounds_toArray, List.set_cons_zero, List.set_cons_succ]
  refine held_take (i := 1) (v := ?vd1) rfl (by kernel_rfl) (by kernel_rfl) (by kernel_rfl) (fun _ _ _ h => h) rfl ?hyd1 HS ?restd1
  case hyd1 => (intro wx hSx; have hb := HC.out.ext hSx; have hlt := hb.1; have c37 : wx.cell? ⟨b, 37, none⟩ = some (.bool s.tb.isSome) := (hb.2 37 (by decide)).1; have c38 : wx.cell? ⟨b, 38, none⟩ = some (.string (s.tb.getD ⟨#[]⟩)) := (hb.2 38 (by decide)).1; clear hb; go_simp; try with_reducible rfl)
  try simp only [Act.put, List.setIfInBounds_toArray, List.set_cons_zero, List.set_cons_succ]
  refine held_take (i := 2) (v := ?vd2) rfl (by kernel_rfl) (by kernel_rfl) (by kernel_rfl) (fun _ _ _ h => h) rfl ?hyd2 HS ?restd2
  case hyd2 => (intro wx hSx; have hb := HC.out.ext hSx; have hlt := hb.1; have c37 : wx.cell? ⟨b, 37, none⟩ = some (.bool s.tb.isSome) := (hb.2 37 (by decide)).1; have c38 : wx.cell? ⟨b, 38, none⟩ = some (.string (s.tb.getD ⟨#[]⟩)) := (hb.2 38 (by decide)).1; clear hb; go_simp; try with_reducible rfl)
  try simp only [Act.put, List.setIfInBounds_toArray, List.set_cons_zero, List.set_cons_succ]
  refine held_take (i := 3) (v := ?vd3) rfl (by kernel_rfl) (by kernel_rfl) (by kernel_rfl) (fun _ _ _ h => h) rfl ?hyd3 HS ?restd3
  case hyd3 => (intro wx hSx; have hb := HC.out.ext hSx; have hlt := hb.1; have c37 : wx.cell? ⟨b, 37, none⟩ = some (.bool s.tb.isSome) := (hb.2 37 (by decide)).1; have c38 : wx.cell? ⟨b, 38, none⟩ = some (.string (s.tb.getD ⟨#[]⟩)) := (hb.2 38 (by decide)).1; clear hb; go_simp; try with_reducible rfl)
  try simp only [Act.put, List.setIfInBounds_toArray, List.set_cons_zero, List.set_cons_succ]
  refine held_take (i := 5) (v := ?vd5) rfl (by kernel_rfl) (by kernel_rfl) (by kernel_rfl) (fun _ _ _ h => h) rfl ?hyd5 HS ?restd5
  case hyd5 => (intro wx hSx; have hb := HC.out.ext hSx; have hlt := hb.1; have c37 : wx.cell? ⟨b, 37, none⟩ = some (.bool s.tb.isSome) := (hb.2 37 (by decide)).1; have c38 : wx.cell? ⟨b, 38, none⟩ = some (.string (s.tb.getD ⟨#[]⟩)) := (hb.2 38 (by decide)).1; clear hb; go_simp; try with_reducible rfl)
  try simp only [Act.put, List.setIfInBounds_toArray, List.set_cons_zero, List.set_cons_succ]
  refine held_take (i := 6) (v := ?vd6) rfl (by kernel_rfl) (by kernel_rfl) (by kernel_rfl) (fun _ _ _ h => h) rfl ?hyd6 HS ?restd6
  case hyd6 => (intro wx hSx; have hb := HC.out.ext hSx; have hlt := hb.1; have c37 : wx.cell? ⟨b, 37, none⟩ = some (.bool s.tb.isSome) := (hb.2 37 (by decide)).1; have c38 : wx.cell? ⟨b, 38, none⟩ = some (.string (s.tb.getD ⟨#[]⟩)) := (hb.2 38 (by decide)).1; clear hb; go_simp; try with_reducible rfl)
  try simp only [Act.put, List.setIfInBounds_toArray, List.set_cons_zero, List.set_cons_succ]
  refine held_take (i := 7) (v := ?vd7) rfl (by kernel_rfl) (by kernel_rfl) (by kernel_rfl) (fun _ _ _ h => h) rfl ?hyd7 HS ?restd7
  case hyd7 => (intro wx hSx; have hb := HC.out.ext hSx; have hlt := hb.1; have c37 : wx.cell? ⟨b, 37, none⟩ = some (.bool s.tb.isSome) := (hb.2 37 (by decide)).1; have c38 : wx.cell? ⟨b, 38, none⟩ = some (.string (s.tb.getD ⟨#[]⟩)) := (hb.2 38 (by decide)).1; clear hb; go_simp; try with_reducible rfl)
  try simp only [Act.put, List.setIfInBounds_toArray, List.set_cons_zero, List.set_cons_succ]
  refine held_take (i := 8) (v := ?vd8) rfl (by kernel_rfl) (by kernel_rfl) (by kernel_rfl) (fun _ _ _ h => h) rfl ?hyd8 HS ?restd8
  case hyd8 => (intro wx hSx; have hb := HC.out.ext hSx; have hlt := hb.1; have c37 : wx.cell? ⟨b, 37, none⟩ = some (.bool s.tb.isSome) := (hb.2 37 (by decide)).1; have c38 : wx.cell? ⟨b, 38, none⟩ = some (.string (s.tb.getD ⟨#[]⟩)) := (hb.2 38 (by decide)).1; clear hb; go_simp; try with_reducible rfl)
  try simp only [Act.put, List.setIfInBounds_toArray, List.set_cons_zero, List.set_cons_succ]
  refine held_one (i := 4) (by kernel_rfl) rfl rfl (fun K hK => ?_)
  go_simp
  refine (clone_any _ HL.out _).mono ?_
  rintro e y1 ⟨rfl, HX⟩
  have HS1 := HS.trans HX
  clear HX
  try go_simp
  refine hK.out _ _ ⟨HS1, ?_⟩
  clear hK K
  try simp only [Act.put, List.setIfInBounds_toArray, List.set_cons_zero, List.set_cons_succ]
  refine held_take (i := 9) (v := ?vd9) rfl (by kernel_rfl) (by kernel_rfl) (by kernel_rfl) (fun _ _ _ h => h) rfl ?hyd9 HS1 ?restd9
  case hyd9 => (intro wx hSx; have hb := HC.out.ext hSx; have hlt := hb.1; have c37 : wx.cell? ⟨b, 37, none⟩ = some (.bool s.tb.isSome) := (hb.2 37 (by decide)).1; have c38 : wx.cell? ⟨b, 38, none⟩ = some (.string (s.tb.getD ⟨#[]⟩)) := (hb.2 38 (by decide)).1; clear hb; go_simp; try with_reducible rfl)
  try simp only [Act.put, List.setIfInBounds_toArray, List.set_cons_zero, List.set_cons_succ]
  refine held_take (i := 10) (v := ?vd10) rfl (by kernel_rfl) (by kernel_rfl) (by kernel_rfl) (fun _ _ _ h => h) rfl ?hyd10 HS1 ?restd10
  case hyd10 => (intro wx hSx; have hb := HC.out.ext hSx; have hlt := hb.1; have c37 : wx.cell? ⟨b, 37, none⟩ = some (.bool s.tb.isSome) := (hb.2 37 (by decide)).1; have c38 : wx.cell? ⟨b, 38, none⟩ = some (.string (s.tb.getD ⟨#[]⟩)) := (hb.2 38 (by decide)).1; clear hb; go_simp; try with_reducible rfl)
  try simp only [Act.put, List.setIfInBounds_toArray, List.set_cons_zero, List.set_cons_succ]
  refine wpAnyH_done (by kernel_rfl) ?_ _
  refine NoPanic.normal ?_
  go_wp2
  refine bodyPost_ret (v := .tuple #[.string (s.tb.getD ⟨#[]⟩), .bool s.tb.isSome]) (by simp [results, Try.results16, go_sem]) rfl ⟨rfl, HS1⟩
end Go.Proofs.Ytmibekclhnkhnaa
