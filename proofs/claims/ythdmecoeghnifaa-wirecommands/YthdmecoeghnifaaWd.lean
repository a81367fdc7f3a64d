/-
  The function literals of wire.commandFields and wordFields, called: the texts of a value, the value of texts; nothing old is turned.
-/
import Derived.Test.YthdmecoeghnifaaRefG
import Derived.Test.YthdmecoeghnifaaWa
namespace Go.Proofs.Ythdmecoeghnifaa
open Go.RowKit
theorem T4.ext {W W' : World} {b : Nat} {x0 x1 x2 x3 : Value} (h : T4 W b x0 x1 x2 x3) (hx : Ext W W') : T4 W' b x0 x1 x2 x3 := (keepT4 hx h).2
theorem T5.ext {W W' : World} {b : Nat} {x0 x1 x2 x3 x4 : Value} (h : T5 W b x0 x1 x2 x3 x4) (hx : Ext W W') : T5 W' b x0 x1 x2 x3 x4 := (keepT5 hx h).2
theorem LS4.ext {g o : Nat} {a b c d : ByteArray} {w w' : World} (h : LS4 g o a b c d w) (hx : Ext w w') : LS4 g o a b c d w' := ⟨later hx h.1, later hx h.2.1, later hx h.2.2.1, later hx h.2.2.2⟩
theorem LS5.ext {g o : Nat} {a b c d x : ByteArray} {w w' : World} (h : LS5 g o a b c d x w) (hx : Ext w w') : LS5 g o a b c d x w' := ⟨later hx h.1, later hx h.2.1, later hx h.2.2.1, later hx h.2.2.2.1, later hx h.2.2.2.2⟩
theorem tnum_wrap (s : ByteArray) : IntKind.i64.wrap (tnum s - 1) = tnum s - 1 := by
  unfold tnum
  have := sb_lt s 0
  split <;> (rw [IntKind.wrap_i64]; omega)
set_option maxHeartbeats 2000000 in
theorem wtxC_any (k e : Int) (nm bd : ByteArray) (w : World) :
    Calls Try.prog 45 #[.agg #[.int .i64 k, .int .i64 e, .string nm, .string bd]] w fun ex w' => ∃ u, ex = .returned u ∧ LiesT w' u 4 (fun i => [oneB k, oneB e, nm, bd].getD i ⟨#[]⟩) ∧ Ext w w' := by
  have HR0 : Hid (T4 (w.alloc (.cells #[.int .i64 k, .int .i64 e, .string nm, .string bd] 36)) w.heap.size (.int .i64 k) (.int .i64 e) (.string nm) (.string bd)) := ⟨by rw [World.cell?_alloc_at _ _ _ _ rfl]; rfl, by rw [World.cell?_alloc_at _ _ _ _ rfl]; rfl, by rw [World.cell?_alloc_at _ _ _ _ rfl]; rfl, by rw [World.cell?_alloc_at _ _ _ _ rfl]; rfl⟩
  have HE0 : Hid (Ext w (w.alloc (.cells #[.int .i64 k, .int .i64 e, .string nm, .string bd] 36))) := (Ext.refl w).alloc _
  go_enter Try.func45, Try.ntmps45
  go_wp2_with fail
  obtain ⟨bk, Hb⟩ : ∃ bk, Hid (w.heap.size = bk) := ⟨_, rfl⟩
  rw [Hb.out] at HR0 ⊢
  generalize w.alloc (.cells #[.int .i64 k, .int .i64 e, .string nm, .string bd] 36) = W at *
  have hS0 : T4 W.drew bk (.int .i64 k) (.int .i64 e) (.string nm) (.string bd) := HR0.out.ext (Ext.refl W).drew
  have HE1 : Hid (Ext w W.drew) := HE0.out.drew
  clear HR0 HE0
  refine wp_region_noPanic ?_
  refine wp_region_until (X := 11) (S := fun wx => T4 wx bk (.int .i64 k) (.int .i64 e) (.string nm) (.string bd)) (by kernel_rfl) ?_
  refine until_take (i := 0) (v := ?vc0) rfl (by kernel_rfl) (by kernel_rfl) (by kernel_rfl) (by kernel_rfl) (by kernel_rfl) (fun _ _ _ h => h) rfl ?hyc0 hS0 ?restc0
  case hyc0 => (intro w hSw; obtain ⟨z0, z1, z2, z3⟩ := hSw; go_simp; try with_reducible rfl)
  try simp only [Act.put, List.setIfInBounds_toArray, List.set_cons_zero, List.set_cons_succ]
  refine until_take (i := 1) (v := ?vc1) rfl (by kernel_rfl) (by kernel_rfl) (by kernel_rfl) (by kernel_rfl) (by kernel_rfl) (fun _ _ _ h => h) rfl ?hyc1 hS0 ?restc1
  case hyc1 => (intro w hSw; obtain ⟨z0, z1, z2, z3⟩ := hSw; go_simp; try with_reducible rfl)
  try simp only [Act.put, List.setIfInBounds_toArray, List.set_cons_zero, List.set_cons_succ]
  refine until_take (i := 3) (v := ?vc3) rfl (by kernel_rfl) (by kernel_rfl) (by kernel_rfl) (by kernel_rfl) (by kernel_rfl) (fun _ _ _ h => h) rfl ?hyc3 hS0 ?restc3
  case hyc3 => (intro w hSw; obtain ⟨z0, z1, z2, z3⟩ := hSw; go_simp; try with_reducible rfl)
  try simp only [Act.put, List.setIfInBounds_toArray, List.set_cons_zero, List.set_cons_succ]
  refine until_take (i := 4) (v := ?vc4) rfl (by kernel_rfl) (by kernel_rfl) (by kernel_rfl) (by kernel_rfl) (by kernel_rfl) (fun _ _ _ h => h) rfl ?hyc4 hS0 ?restc4
  case hyc4 => (intro w hSw; obtain ⟨z0, z1, z2, z3⟩ := hSw; go_simp; try with_reducible rfl)
  try simp only [Act.put, List.setIfInBounds_toArray, List.set_cons_zero, List.set_cons_succ]
  refine until_take (i := 6) (v := ?vc6) rfl (by kernel_rfl) (by kernel_rfl) (by kernel_rfl) (by kernel_rfl) (by kernel_rfl) (fun _ _ _ h => h) rfl ?hyc6 hS0 ?restc6
  case hyc6 => (intro w hSw; obtain ⟨z0, z1, z2, z3⟩ := hSw; go_simp; try with_reducible rfl)
  try simp only [Act.put, List.setIfInBounds_toArray, List.set_cons_zero, List.set_cons_succ]
  refine until_take (i := 7) (v := ?vc7) rfl (by kernel_rfl) (by kernel_rfl) (by kernel_rfl) (by kernel_rfl) (by kernel_rfl) (fun _ _ _ h => h) rfl ?hyc7 hS0 ?restc7
  case hyc7 => (intro w hSw; obtain ⟨z0, z1, z2, z3⟩ := hSw; go_simp; try with_reducible rfl)
  try simp only [Act.put, List.setIfInBounds_toArray, List.set_cons_zero, List.set_cons_succ]
  refine until_take (i := 8) (v := ?vc8) rfl (by kernel_rfl) (by kernel_rfl) (by kernel_rfl) (by kernel_rfl) (by kernel_rfl) (fun _ _ _ h => h) rfl ?hyc8 hS0 ?restc8
  case hyc8 => (intro w hSw; obtain ⟨z0, z1, z2, z3⟩ := hSw; go_simp; try with_reducible rfl)
  try simp only [Act.put, List.setIfInBounds_toArray, List.set_cons_zero, List.set_cons_succ]
  refine until_take (i := 9) (v := ?vc9) rfl (by kernel_rfl) (by kernel_rfl) (by kernel_rfl) (by kernel_rfl) (by kernel_rfl) (fun _ _ _ h => h) rfl ?hyc9 hS0 ?restc9
  case hyc9 => (intro w hSw; obtain ⟨z0, z1, z2, z3⟩ := hSw; go_simp; try with_reducible rfl)
  try simp only [Act.put, List.setIfInBounds_toArray, List.set_cons_zero, List.set_cons_succ]
  refine until_one (i := 2) (by kernel_rfl) (by kernel_rfl) rfl rfl (fun K hK => ?_)
  go_simp
  refine (wone_any k _).mono ?_
  rintro ex w2 ⟨rfl, HX0⟩
  have hS1 := (T4.ext hS0 HX0 : T4 w2 bk (.int .i64 k) (.int .i64 e) (.string nm) (.string bd))
  go_simp
  refine hK.out _ _ hS1 ?_
  clear hK K
  try simp only [Act.put, List.setIfInBounds_toArray, List.set_cons_zero, List.set_cons_succ]
  have HE2 : Hid (Ext w w2) := HE1.out.trans HX0
  clear HX0 HE1
  refine until_one (i := 5) (by kernel_rfl) (by kernel_rfl) rfl rfl (fun K hK => ?_)
  go_simp
  refine (wone_any e _).mono ?_
  rintro ex w3 ⟨rfl, HX1⟩
  have hS2 := (T4.ext hS1 HX1 : T4 w3 bk (.int .i64 k) (.int .i64 e) (.string nm) (.string bd))
  go_simp
  refine hK.out _ _ hS2 ?_
  clear hK K
  try simp only [Act.put, List.setIfInBounds_toArray, List.set_cons_zero, List.set_cons_succ]
  have HE3 : Hid (Ext w w3) := HE2.out.trans HX1
  clear HX1 HE2
  refine until_one (i := 10) (by kernel_rfl) (by kernel_rfl) rfl rfl (fun K hK => ?_)
  go_simp
  have hSl := T4.ext hS2 ((Ext.refl w3).alloc (.cells #[.string (oneB k), .string (oneB e), .string nm, .string bd] 9))
  refine hK.out _ _ hSl ?_
  clear hK K
  try simp only [Act.put, List.setIfInBounds_toArray, List.set_cons_zero, List.set_cons_succ]
  refine until_last (by kernel_rfl) (by kernel_rfl) rfl rfl (fun K hK => ?_)
  go_simp
  refine hK.out _ _ (NoPanic.normal ?_)
  clear hK K
  try simp only [Act.put, List.setIfInBounds_toArray, List.set_cons_zero, List.set_cons_succ]
  have HL : Hid (LiesT (w3.alloc (.cells #[.string (oneB k), .string (oneB e), .string nm, .string bd] 9)) (.slice (some ⟨w3.heap.size, 0, none⟩) 4 4) 4 (fun i => [oneB k, oneB e, nm, bd].getD i ⟨#[]⟩)) := lies_lit w3 [oneB k, oneB e, nm, bd] 9 4 _ rfl
  have HEl : Hid (Ext w (w3.alloc (.cells #[.string (oneB k), .string (oneB e), .string nm, .string bd] 9))) := HE3.out.alloc _
  clear hSl
  go_wp2
  go_ret
  exact ⟨_, rfl, HL.out, HEl.out⟩
set_option maxHeartbeats 2000000 in
theorem wvlC_any (a b c d : ByteArray) (u : Value) (w : World) (hu : LiesT w u [a, b, c, d].length (fun k => [a, b, c, d].getD k ⟨#[]⟩)) :
    Calls Try.prog 47 #[u] w fun ex w' => ex = .returned (.agg #[.int .i64 (tnum a), .int .i64 (tnum b), .string c, .string d]) ∧ Ext w w' := by
  obtain ⟨g, o, cap, rfl, hg, y0, y1, y2, y3⟩ := liesT4 hu
  clear hu
  have hS00 : LS4 g o a b c d w := ⟨y0, y1, y2, y3⟩
  have HR0 : Hid (T4 (w.alloc (.cells #[.int .i64 0, .int .i64 0, .string ⟨#[]⟩, .string ⟨#[]⟩] 36)) w.heap.size (.int .i64 0) (.int .i64 0) (.string ⟨#[]⟩) (.string ⟨#[]⟩)) := ⟨by rw [World.cell?_alloc_at _ _ _ _ rfl]; rfl, by rw [World.cell?_alloc_at _ _ _ _ rfl]; rfl, by rw [World.cell?_alloc_at _ _ _ _ rfl]; rfl, by rw [World.cell?_alloc_at _ _ _ _ rfl]; rfl⟩
  have HE0 : Hid (Ext w (w.alloc (.cells #[.int .i64 0, .int .i64 0, .string ⟨#[]⟩, .string ⟨#[]⟩] 36))) := (Ext.refl w).alloc _
  have hS0' := hS00.ext HE0.out
  have HF : Hid (∀ i, (w.alloc (.cells #[.int .i64 0, .int .i64 0, .string ⟨#[]⟩, .string ⟨#[]⟩] 36)).frozen? ⟨w.heap.size, i, none⟩ = false) := fun i => World.frozen?_alloc_at _ _ _ _ rfl
  have HBk : Hid (w.heap.size < (w.alloc (.cells #[.int .i64 0, .int .i64 0, .string ⟨#[]⟩, .string ⟨#[]⟩] 36)).heap.size) := by show _ < _; simp
  have HW0 : Hid (w.heap.size ≤ w.heap.size) := Nat.le_refl _
  clear hS00 y0 y1 y2 y3
  go_enter Try.func47, Try.ntmps47
  go_wp2_with fail
  obtain ⟨bk, Hb⟩ : ∃ bk, Hid (w.heap.size = bk) := ⟨_, rfl⟩
  have HB : Hid (w.heap.size ≤ bk) := by rw [Hb.out]; exact Nat.le_refl bk
  rw [Hb.out] at HR0 HF HBk ⊢
  generalize w.alloc (.cells #[.int .i64 0, .int .i64 0, .string ⟨#[]⟩, .string ⟨#[]⟩] 36) = W at *
  have hS0 : LS4 g o a b c d W.drew := hS0'.ext (Ext.refl W).drew
  have HE1 : Hid (Ext W W.drew) := (Ext.refl W).drew
  clear hS0' HW0
  refine wp_region_noPanic ?_
  refine wp_region_until (X := 15) (S := LS4 g o a b c d) (by kernel_rfl) ?_
  refine until_take (i := 0) (v := ?vd0) rfl (by kernel_rfl) (by kernel_rfl) (by kernel_rfl) (by kernel_rfl) (by kernel_rfl) (fun _ _ _ h => h) rfl ?hyd0 hS0 ?restd0
  case hyd0 => (intro w hSw; obtain ⟨y0, y1, y2, y3⟩ := hSw; go_simp; try with_reducible rfl)
  try simp only [Act.put, List.setIfInBounds_toArray, List.set_cons_zero, List.set_cons_succ]
  refine until_take (i := 1) (v := ?vd1) rfl (by kernel_rfl) (by kernel_rfl) (by kernel_rfl) (by kernel_rfl) (by kernel_rfl) (fun _ _ _ h => h) rfl ?hyd1 hS0 ?restd1
  case hyd1 => (intro w hSw; obtain ⟨y0, y1, y2, y3⟩ := hSw; go_simp; try with_reducible rfl)
  try simp only [Act.put, List.setIfInBounds_toArray, List.set_cons_zero, List.set_cons_succ]
  refine until_take (i := 2) (v := ?vd2) rfl (by kernel_rfl) (by kernel_rfl) (by kernel_rfl) (by kernel_rfl) (by kernel_rfl) (fun _ _ _ h => h) rfl ?hyd2 hS0 ?restd2
  case hyd2 => (intro w hSw; obtain ⟨y0, y1, y2, y3⟩ := hSw; go_simp; try with_reducible rfl)
  try simp only [Act.put, List.setIfInBounds_toArray, List.set_cons_zero, List.set_cons_succ]
  refine until_take (i := 4) (v := ?vd4) rfl (by kernel_rfl) (by kernel_rfl) (by kernel_rfl) (by kernel_rfl) (by kernel_rfl) (fun _ _ _ h => h) rfl ?hyd4 hS0 ?restd4
  case hyd4 => (intro w hSw; obtain ⟨y0, y1, y2, y3⟩ := hSw; go_simp; try with_reducible rfl)
  try simp only [Act.put, List.setIfInBounds_toArray, List.set_cons_zero, List.set_cons_succ]
  refine until_take (i := 5) (v := ?vd5) rfl (by kernel_rfl) (by kernel_rfl) (by kernel_rfl) (by kernel_rfl) (by kernel_rfl) (fun _ _ _ h => h) rfl ?hyd5 hS0 ?restd5
  case hyd5 => (intro w hSw; obtain ⟨y0, y1, y2, y3⟩ := hSw; go_simp; try with_reducible rfl)
  try simp only [Act.put, List.setIfInBounds_toArray, List.set_cons_zero, List.set_cons_succ]
  refine until_take (i := 6) (v := ?vd6) rfl (by kernel_rfl) (by kernel_rfl) (by kernel_rfl) (by kernel_rfl) (by kernel_rfl) (fun _ _ _ h => h) rfl ?hyd6 hS0 ?restd6
  case hyd6 => (intro w hSw; obtain ⟨y0, y1, y2, y3⟩ := hSw; go_simp; try with_reducible rfl)
  try simp only [Act.put, List.setIfInBounds_toArray, List.set_cons_zero, List.set_cons_succ]
  refine until_take (i := 8) (v := ?vd8) rfl (by kernel_rfl) (by kernel_rfl) (by kernel_rfl) (by kernel_rfl) (by kernel_rfl) (fun _ _ _ h => h) rfl ?hyd8 hS0 ?restd8
  case hyd8 => (intro w hSw; obtain ⟨y0, y1, y2, y3⟩ := hSw; go_simp; try with_reducible rfl)
  try simp only [Act.put, List.setIfInBounds_toArray, List.set_cons_zero, List.set_cons_succ]
  refine until_take (i := 9) (v := ?vd9) rfl (by kernel_rfl) (by kernel_rfl) (by kernel_rfl) (by kernel_rfl) (by kernel_rfl) (fun _ _ _ h => h) rfl ?hyd9 hS0 ?restd9
  case hyd9 => (intro w hSw; obtain ⟨y0, y1, y2, y3⟩ := hSw; go_simp; try with_reducible rfl)
  try simp only [Act.put, List.setIfInBounds_toArray, List.set_cons_zero, List.set_cons_succ]
  refine until_take (i := 10) (v := ?vd10) rfl (by kernel_rfl) (by kernel_rfl) (by kernel_rfl) (by kernel_rfl) (by kernel_rfl) (fun _ _ _ h => h) rfl ?hyd10 hS0 ?restd10
  case hyd10 => (intro w hSw; obtain ⟨y0, y1, y2, y3⟩ := hSw; go_simp; try with_reducible rfl)
  try simp only [Act.put, List.setIfInBounds_toArray, List.set_cons_zero, List.set_cons_succ]
  refine until_take (i := 11) (v := ?vd11) rfl (by kernel_rfl) (by kernel_rfl) (by kernel_rfl) (by kernel_rfl) (by kernel_rfl) (fun _ _ _ h => h) rfl ?hyd11 hS0 ?restd11
  case hyd11 => (intro w hSw; obtain ⟨y0, y1, y2, y3⟩ := hSw; go_simp; try with_reducible rfl)
  try simp only [Act.put, List.setIfInBounds_toArray, List.set_cons_zero, List.set_cons_succ]
  refine until_take (i := 12) (v := ?vd12) rfl (by kernel_rfl) (by kernel_rfl) (by kernel_rfl) (by kernel_rfl) (by kernel_rfl) (fun _ _ _ h => h) rfl ?hyd12 hS0 ?restd12
  case hyd12 => (intro w hSw; obtain ⟨y0, y1, y2, y3⟩ := hSw; go_simp; try with_reducible rfl)
  try simp only [Act.put, List.setIfInBounds_toArray, List.set_cons_zero, List.set_cons_succ]
  refine until_take (i := 13) (v := ?vd13) rfl (by kernel_rfl) (by kernel_rfl) (by kernel_rfl) (by kernel_rfl) (by kernel_rfl) (fun _ _ _ h => h) rfl ?hyd13 hS0 ?restd13
  case hyd13 => (intro w hSw; obtain ⟨y0, y1, y2, y3⟩ := hSw; go_simp; try with_reducible rfl)
  try simp only [Act.put, List.setIfInBounds_toArray, List.set_cons_zero, List.set_cons_succ]
  refine until_one (i := 3) (by kernel_rfl) (by kernel_rfl) rfl rfl (fun K hK => ?_)
  go_simp
  refine (wtnum_any a _).mono ?_
  rintro ex w2 ⟨rfl, HX0⟩
  have hS1 := LS4.ext hS0 HX0
  go_simp
  refine hK.out _ _ hS1 ?_
  clear hK K
  try simp only [Act.put, List.setIfInBounds_toArray, List.set_cons_zero, List.set_cons_succ]
  have HE2 : Hid (Ext W w2) := HE1.out.trans HX0
  clear HX0 HE1
  refine until_one (i := 7) (by kernel_rfl) (by kernel_rfl) rfl rfl (fun K hK => ?_)
  go_simp
  refine (wtnum_any b _).mono ?_
  rintro ex w3 ⟨rfl, HX1⟩
  have hS2 := LS4.ext hS1 HX1
  go_simp
  refine hK.out _ _ hS2 ?_
  clear hK K
  try simp only [Act.put, List.setIfInBounds_toArray, List.set_cons_zero, List.set_cons_succ]
  have HE3 : Hid (Ext W w3) := HE2.out.trans HX1
  clear HX1 HE2
  refine until_take (i := 14) (v := ?vm14) rfl (by kernel_rfl) (by kernel_rfl) (by kernel_rfl) (by kernel_rfl) (by kernel_rfl) (fun _ _ _ h => h) rfl ?hym14 hS2 ?restm14
  case hym14 => (intro w hSw; obtain ⟨y0, y1, y2, y3⟩ := hSw; go_simp; try with_reducible rfl)
  try simp only [Act.put, List.setIfInBounds_toArray, List.set_cons_zero, List.set_cons_succ]
  obtain ⟨z0, z1, z2, z3⟩ := T4.ext HR0.out HE3.out
  have hb1 : bk < w3.heap.size := Nat.lt_of_lt_of_le HBk.out HE3.out.size
  have f0 := (HE3.out.cells.2 bk 0 HBk.out).trans (HF.out 0)
  have f1 := (HE3.out.cells.2 bk 1 HBk.out).trans (HF.out 1)
  have f2 := (HE3.out.cells.2 bk 2 HBk.out).trans (HF.out 2)
  have f3 := (HE3.out.cells.2 bk 3 HBk.out).trans (HF.out 3)
  have HEw : Hid (Ext w w3) := HE0.out.trans HE3.out
  clear HR0 HF HBk HE0
  refine until_last (by kernel_rfl) (by kernel_rfl) rfl rfl (fun K hK => ?_)
  go_simp
  refine hK.out _ _ (NoPanic.normal ?_)
  clear hK K
  try simp only [Act.put, List.setIfInBounds_toArray, List.set_cons_zero, List.set_cons_succ]
  clear hS2
  go_wp2
  refine bodyPost_ret (v := .agg #[.int .i64 (tnum a), .int .i64 (tnum b), .string c, .string d]) (by simp [results, Try.results47, go_sem, z0, z1, z2, z3]) rfl ⟨rfl, Ext.st HB.out (Ext.st HB.out (Ext.st HB.out (Ext.st HB.out (HEw.out))))⟩
set_option maxHeartbeats 2000000 in
theorem wtxW_any (k f r v : Int) (x : ByteArray) (hv : IntKind.i64.wrap (v + 1) = v + 1) (w : World) :
    Calls Try.prog 50 #[.agg #[.int .i64 k, .int .i64 f, .int .i64 r, .int .i64 v, .string x]] w fun ex w' => ∃ u, ex = .returned u ∧ LiesT w' u 5 (fun i => [oneB k, oneB f, oneB r, oneB (v + 1), x].getD i ⟨#[]⟩) ∧ Ext w w' := by
  have HR0 : Hid (T5 (w.alloc (.cells #[.int .i64 k, .int .i64 f, .int .i64 r, .int .i64 v, .string x] 47)) w.heap.size (.int .i64 k) (.int .i64 f) (.int .i64 r) (.int .i64 v) (.string x)) := ⟨⟨by rw [World.cell?_alloc_at _ _ _ _ rfl]; rfl, by rw [World.cell?_alloc_at _ _ _ _ rfl]; rfl, by rw [World.cell?_alloc_at _ _ _ _ rfl]; rfl, by rw [World.cell?_alloc_at _ _ _ _ rfl]; rfl⟩, by rw [World.cell?_alloc_at _ _ _ _ rfl]; rfl⟩
  have HE0 : Hid (Ext w (w.alloc (.cells #[.int .i64 k, .int .i64 f, .int .i64 r, .int .i64 v, .string x] 47))) := (Ext.refl w).alloc _
  go_enter Try.func50, Try.ntmps50
  go_wp2_with fail
  obtain ⟨bk, Hb⟩ : ∃ bk, Hid (w.heap.size = bk) := ⟨_, rfl⟩
  rw [Hb.out] at HR0 ⊢
  generalize w.alloc (.cells #[.int .i64 k, .int .i64 f, .int .i64 r, .int .i64 v, .string x] 47) = W at *
  have hS0 : T5 W.drew bk (.int .i64 k) (.int .i64 f) (.int .i64 r) (.int .i64 v) (.string x) := HR0.out.ext (Ext.refl W).drew
  have HE1 : Hid (Ext w W.drew) := HE0.out.drew
  clear HR0 HE0
  refine wp_region_noPanic ?_
  refine wp_region_until (X := 16) (S := fun wx => T5 wx bk (.int .i64 k) (.int .i64 f) (.int .i64 r) (.int .i64 v) (.string x)) (by kernel_rfl) ?_
  refine until_take (i := 0) (v := ?vc0) rfl (by kernel_rfl) (by kernel_rfl) (by kernel_rfl) (by kernel_rfl) (by kernel_rfl) (fun _ _ _ h => h) rfl ?hyc0 hS0 ?restc0
  case hyc0 => (intro w hSw; obtain ⟨⟨z0, z1, z2, z3⟩, z4⟩ := hSw; go_simp; try with_reducible rfl)
  try simp only [Act.put, List.setIfInBounds_toArray, List.set_cons_zero, List.set_cons_succ]
  refine until_take (i := 1) (v := ?vc1) rfl (by kernel_rfl) (by kernel_rfl) (by kernel_rfl) (by kernel_rfl) (by kernel_rfl) (fun _ _ _ h => h) rfl ?hyc1 hS0 ?restc1
  case hyc1 => (intro w hSw; obtain ⟨⟨z0, z1, z2, z3⟩, z4⟩ := hSw; go_simp; try with_reducible rfl)
  try simp only [Act.put, List.setIfInBounds_toArray, List.set_cons_zero, List.set_cons_succ]
  refine until_take (i := 3) (v := ?vc3) rfl (by kernel_rfl) (by kernel_rfl) (by kernel_rfl) (by kernel_rfl) (by kernel_rfl) (fun _ _ _ h => h) rfl ?hyc3 hS0 ?restc3
  case hyc3 => (intro w hSw; obtain ⟨⟨z0, z1, z2, z3⟩, z4⟩ := hSw; go_simp; try with_reducible rfl)
  try simp only [Act.put, List.setIfInBounds_toArray, List.set_cons_zero, List.set_cons_succ]
  refine until_take (i := 4) (v := ?vc4) rfl (by kernel_rfl) (by kernel_rfl) (by kernel_rfl) (by kernel_rfl) (by kernel_rfl) (fun _ _ _ h => h) rfl ?hyc4 hS0 ?restc4
  case hyc4 => (intro w hSw; obtain ⟨⟨z0, z1, z2, z3⟩, z4⟩ := hSw; go_simp; try with_reducible rfl)
  try simp only [Act.put, List.setIfInBounds_toArray, List.set_cons_zero, List.set_cons_succ]
  refine until_take (i := 6) (v := ?vc6) rfl (by kernel_rfl) (by kernel_rfl) (by kernel_rfl) (by kernel_rfl) (by kernel_rfl) (fun _ _ _ h => h) rfl ?hyc6 hS0 ?restc6
  case hyc6 => (intro w hSw; obtain ⟨⟨z0, z1, z2, z3⟩, z4⟩ := hSw; go_simp; try with_reducible rfl)
  try simp only [Act.put, List.setIfInBounds_toArray, List.set_cons_zero, List.set_cons_succ]
  refine until_take (i := 7) (v := ?vc7) rfl (by kernel_rfl) (by kernel_rfl) (by kernel_rfl) (by kernel_rfl) (by kernel_rfl) (fun _ _ _ h => h) rfl ?hyc7 hS0 ?restc7
  case hyc7 => (intro w hSw; obtain ⟨⟨z0, z1, z2, z3⟩, z4⟩ := hSw; go_simp; try with_reducible rfl)
  try simp only [Act.put, List.setIfInBounds_toArray, List.set_cons_zero, List.set_cons_succ]
  refine until_take (i := 9) (v := ?vc9) rfl (by kernel_rfl) (by kernel_rfl) (by kernel_rfl) (by kernel_rfl) (by kernel_rfl) (fun _ _ _ h => h) rfl ?hyc9 hS0 ?restc9
  case hyc9 => (intro w hSw; obtain ⟨⟨z0, z1, z2, z3⟩, z4⟩ := hSw; go_simp; try with_reducible rfl)
  try simp only [Act.put, List.setIfInBounds_toArray, List.set_cons_zero, List.set_cons_succ]
  refine until_take (i := 10) (v := ?vc10) rfl (by kernel_rfl) (by kernel_rfl) (by kernel_rfl) (by kernel_rfl) (by kernel_rfl) (fun _ _ _ h => h) rfl ?hyc10 hS0 ?restc10
  case hyc10 => (intro w hSw; obtain ⟨⟨z0, z1, z2, z3⟩, z4⟩ := hSw; go_simp; try with_reducible rfl)
  try simp only [Act.put, List.setIfInBounds_toArray, List.set_cons_zero, List.set_cons_succ]
  refine until_take (i := 11) (v := ?vc11) rfl (by kernel_rfl) (by kernel_rfl) (by kernel_rfl) (by kernel_rfl) (by kernel_rfl) (fun _ _ _ h => h) rfl ?hyc11 hS0 ?restc11
  case hyc11 => (intro w hSw; obtain ⟨⟨z0, z1, z2, z3⟩, z4⟩ := hSw; go_simp; try with_reducible rfl)
  try simp only [Act.put, List.setIfInBounds_toArray, List.set_cons_zero, List.set_cons_succ]
  refine until_take (i := 13) (v := ?vc13) rfl (by kernel_rfl) (by kernel_rfl) (by kernel_rfl) (by kernel_rfl) (by kernel_rfl) (fun _ _ _ h => h) rfl ?hyc13 hS0 ?restc13
  case hyc13 => (intro w hSw; obtain ⟨⟨z0, z1, z2, z3⟩, z4⟩ := hSw; go_simp; try with_reducible rfl)
  try simp only [Act.put, List.setIfInBounds_toArray, List.set_cons_zero, List.set_cons_succ]
  refine until_take (i := 14) (v := ?vc14) rfl (by kernel_rfl) (by kernel_rfl) (by kernel_rfl) (by kernel_rfl) (by kernel_rfl) (fun _ _ _ h => h) rfl ?hyc14 hS0 ?restc14
  case hyc14 => (intro w hSw; obtain ⟨⟨z0, z1, z2, z3⟩, z4⟩ := hSw; go_simp; try with_reducible rfl)
  try simp only [Act.put, List.setIfInBounds_toArray, List.set_cons_zero, List.set_cons_succ]
  refine until_one (i := 2) (by kernel_rfl) (by kernel_rfl) rfl rfl (fun K hK => ?_)
  go_simp
  refine (wone_any k _).mono ?_
  rintro ex w2 ⟨rfl, HX0⟩
  have hS1 := (T5.ext hS0 HX0 : T5 w2 bk (.int .i64 k) (.int .i64 f) (.int .i64 r) (.int .i64 v) (.string x))
  go_simp
  refine hK.out _ _ hS1 ?_
  clear hK K
  try simp only [Act.put, List.setIfInBounds_toArray, List.set_cons_zero, List.set_cons_succ]
  have HE2 : Hid (Ext w w2) := HE1.out.trans HX0
  clear HX0 HE1
  refine until_one (i := 5) (by kernel_rfl) (by kernel_rfl) rfl rfl (fun K hK => ?_)
  go_simp
  refine (wone_any f _).mono ?_
  rintro ex w3 ⟨rfl, HX1⟩
  have hS2 := (T5.ext hS1 HX1 : T5 w3 bk (.int .i64 k) (.int .i64 f) (.int .i64 r) (.int .i64 v) (.string x))
  go_simp
  refine hK.out _ _ hS2 ?_
  clear hK K
  try simp only [Act.put, List.setIfInBounds_toArray, List.set_cons_zero, List.set_cons_succ]
  have HE3 : Hid (Ext w w3) := HE2.out.trans HX1
  clear HX1 HE2
  refine until_one (i := 8) (by kernel_rfl) (by kernel_rfl) rfl rfl (fun K hK => ?_)
  go_simp
  refine (wone_any r _).mono ?_
  rintro ex w4 ⟨rfl, HX2⟩
  have hS3 := (T5.ext hS2 HX2 : T5 w4 bk (.int .i64 k) (.int .i64 f) (.int .i64 r) (.int .i64 v) (.string x))
  go_simp
  refine hK.out _ _ hS3 ?_
  clear hK K
  try simp only [Act.put, List.setIfInBounds_toArray, List.set_cons_zero, List.set_cons_succ]
  have HE4 : Hid (Ext w w4) := HE3.out.trans HX2
  clear HX2 HE3
  refine until_one (i := 12) (by kernel_rfl) (by kernel_rfl) rfl rfl (fun K hK => ?_)
  go_simp
  refine (wone_any (v + 1) _).mono ?_
  rintro ex w5 ⟨rfl, HX3⟩
  have hS4 := (T5.ext hS3 HX3 : T5 w5 bk (.int .i64 k) (.int .i64 f) (.int .i64 r) (.int .i64 v) (.string x))
  go_simp
  refine hK.out _ _ hS4 ?_
  clear hK K
  try simp only [Act.put, List.setIfInBounds_toArray, List.set_cons_zero, List.set_cons_succ]
  have HE5 : Hid (Ext w w5) := HE4.out.trans HX3
  clear HX3 HE4
  refine until_one (i := 15) (by kernel_rfl) (by kernel_rfl) rfl rfl (fun K hK => ?_)
  go_simp
  have hSl := T5.ext hS4 ((Ext.refl w5).alloc (.cells #[.string (oneB k), .string (oneB f), .string (oneB r), .string (oneB (v + 1)), .string x] 9))
  refine hK.out _ _ hSl ?_
  clear hK K
  try simp only [Act.put, List.setIfInBounds_toArray, List.set_cons_zero, List.set_cons_succ]
  refine until_last (by kernel_rfl) (by kernel_rfl) rfl rfl (fun K hK => ?_)
  go_simp
  refine hK.out _ _ (NoPanic.normal ?_)
  clear hK K
  try simp only [Act.put, List.setIfInBounds_toArray, List.set_cons_zero, List.set_cons_succ]
  have HL : Hid (LiesT (w5.alloc (.cells #[.string (oneB k), .string (oneB f), .string (oneB r), .string (oneB (v + 1)), .string x] 9)) (.slice (some ⟨w5.heap.size, 0, none⟩) 5 5) 5 (fun i => [oneB k, oneB f, oneB r, oneB (v + 1), x].getD i ⟨#[]⟩)) := lies_lit w5 [oneB k, oneB f, oneB r, oneB (v + 1), x] 9 5 _ rfl
  have HEl : Hid (Ext w (w5.alloc (.cells #[.string (oneB k), .string (oneB f), .string (oneB r), .string (oneB (v + 1)), .string x] 9))) := HE5.out.alloc _
  clear hSl
  go_wp2
  go_ret
  exact ⟨_, rfl, HL.out, HEl.out⟩
set_option maxHeartbeats 2000000 in
theorem wvlW_any (a b c d x : ByteArray) (u : Value) (w : World) (hu : LiesT w u [a, b, c, d, x].length (fun k => [a, b, c, d, x].getD k ⟨#[]⟩)) :
    Calls Try.prog 51 #[u] w fun ex w' => ex = .returned (.agg #[.int .i64 (tnum a), .int .i64 (tnum b), .int .i64 (tnum c), .int .i64 (tnum d - 1), .string x]) ∧ Ext w w' := by
  obtain ⟨g, o, cap, rfl, hg, y0, y1, y2, y3, y4⟩ := liesT5 hu
  clear hu
  have hS00 : LS5 g o a b c d x w := ⟨y0, y1, y2, y3, y4⟩
  have HR0 : Hid (T5 (w.alloc (.cells #[.int .i64 0, .int .i64 0, .int .i64 0, .int .i64 0, .string ⟨#[]⟩] 47)) w.heap.size (.int .i64 0) (.int .i64 0) (.int .i64 0) (.int .i64 0) (.string ⟨#[]⟩)) := ⟨⟨by rw [World.cell?_alloc_at _ _ _ _ rfl]; rfl, by rw [World.cell?_alloc_at _ _ _ _ rfl]; rfl, by rw [World.cell?_alloc_at _ _ _ _ rfl]; rfl, by rw [World.cell?_alloc_at _ _ _ _ rfl]; rfl⟩, by rw [World.cell?_alloc_at _ _ _ _ rfl]; rfl⟩
  have HE0 : Hid (Ext w (w.alloc (.cells #[.int .i64 0, .int .i64 0, .int .i64 0, .int .i64 0, .string ⟨#[]⟩] 47))) := (Ext.refl w).alloc _
  have hS0' := hS00.ext HE0.out
  have HF : Hid (∀ i, (w.alloc (.cells #[.int .i64 0, .int .i64 0, .int .i64 0, .int .i64 0, .string ⟨#[]⟩] 47)).frozen? ⟨w.heap.size, i, none⟩ = false) := fun i => World.frozen?_alloc_at _ _ _ _ rfl
  have HBk : Hid (w.heap.size < (w.alloc (.cells #[.int .i64 0, .int .i64 0, .int .i64 0, .int .i64 0, .string ⟨#[]⟩] 47)).heap.size) := by show _ < _; simp
  have HW0 : Hid (w.heap.size ≤ w.heap.size) := Nat.le_refl _
  have hd1 := tnum_wrap d
  clear hS00 y0 y1 y2 y3 y4
  go_enter Try.func51, Try.ntmps51
  go_wp2_with fail
  obtain ⟨bk, Hb⟩ : ∃ bk, Hid (w.heap.size = bk) := ⟨_, rfl⟩
  have HB : Hid (w.heap.size ≤ bk) := by rw [Hb.out]; exact Nat.le_refl bk
  rw [Hb.out] at HR0 HF HBk ⊢
  generalize w.alloc (.cells #[.int .i64 0, .int .i64 0, .int .i64 0, .int .i64 0, .string ⟨#[]⟩] 47) = W at *
  have hS0 : LS5 g o a b c d x W.drew := hS0'.ext (Ext.refl W).drew
  have HE1 : Hid (Ext W W.drew) := (Ext.refl W).drew
  clear hS0' HW0
  refine wp_region_noPanic ?_
  refine wp_region_until (X := 21) (S := LS5 g o a b c d x) (by kernel_rfl) ?_
  refine until_take (i := 0) (v := ?vd0) rfl (by kernel_rfl) (by kernel_rfl) (by kernel_rfl) (by kernel_rfl) (by kernel_rfl) (fun _ _ _ h => h) rfl ?hyd0 hS0 ?restd0
  case hyd0 => (intro w hSw; obtain ⟨y0, y1, y2, y3, y4⟩ := hSw; go_simp; try with_reducible rfl)
  try simp only [Act.put, List.setIfInBounds_toArray, List.set_cons_zero, List.set_cons_succ]
  refine until_take (i := 1) (v := ?vd1) rfl (by kernel_rfl) (by kernel_rfl) (by kernel_rfl) (by kernel_rfl) (by kernel_rfl) (fun _ _ _ h => h) rfl ?hyd1 hS0 ?restd1
  case hyd1 => (intro w hSw; obtain ⟨y0, y1, y2, y3, y4⟩ := hSw; go_simp; try with_reducible rfl)
  try simp only [Act.put, List.setIfInBounds_toArray, List.set_cons_zero, List.set_cons_succ]
  refine until_take (i := 2) (v := ?vd2) rfl (by kernel_rfl) (by kernel_rfl) (by kernel_rfl) (by kernel_rfl) (by kernel_rfl) (fun _ _ _ h => h) rfl ?hyd2 hS0 ?restd2
  case hyd2 => (intro w hSw; obtain ⟨y0, y1, y2, y3, y4⟩ := hSw; go_simp; try with_reducible rfl)
  try simp only [Act.put, List.setIfInBounds_toArray, List.set_cons_zero, List.set_cons_succ]
  refine until_take (i := 4) (v := ?vd4) rfl (by kernel_rfl) (by kernel_rfl) (by kernel_rfl) (by kernel_rfl) (by kernel_rfl) (fun _ _ _ h => h) rfl ?hyd4 hS0 ?restd4
  case hyd4 => (intro w hSw; obtain ⟨y0, y1, y2, y3, y4⟩ := hSw; go_simp; try with_reducible rfl)
  try simp only [Act.put, List.setIfInBounds_toArray, List.set_cons_zero, List.set_cons_succ]
  refine until_take (i := 5) (v := ?vd5) rfl (by kernel_rfl) (by kernel_rfl) (by kernel_rfl) (by kernel_rfl) (by kernel_rfl) (fun _ _ _ h => h) rfl ?hyd5 hS0 ?restd5
  case hyd5 => (intro w hSw; obtain ⟨y0, y1, y2, y3, y4⟩ := hSw; go_simp; try with_reducible rfl)
  try simp only [Act.put, List.setIfInBounds_toArray, List.set_cons_zero, List.set_cons_succ]
  refine until_take (i := 6) (v := ?vd6) rfl (by kernel_rfl) (by kernel_rfl) (by kernel_rfl) (by kernel_rfl) (by kernel_rfl) (fun _ _ _ h => h) rfl ?hyd6 hS0 ?restd6
  case hyd6 => (intro w hSw; obtain ⟨y0, y1, y2, y3, y4⟩ := hSw; go_simp; try with_reducible rfl)
  try simp only [Act.put, List.setIfInBounds_toArray, List.set_cons_zero, List.set_cons_succ]
  refine until_take (i := 8) (v := ?vd8) rfl (by kernel_rfl) (by kernel_rfl) (by kernel_rfl) (by kernel_rfl) (by kernel_rfl) (fun _ _ _ h => h) rfl ?hyd8 hS0 ?restd8
  case hyd8 => (intro w hSw; obtain ⟨y0, y1, y2, y3, y4⟩ := hSw; go_simp; try with_reducible rfl)
  try simp only [Act.put, List.setIfInBounds_toArray, List.set_cons_zero, List.set_cons_succ]
  refine until_take (i := 9) (v := ?vd9) rfl (by kernel_rfl) (by kernel_rfl) (by kernel_rfl) (by kernel_rfl) (by kernel_rfl) (fun _ _ _ h => h) rfl ?hyd9 hS0 ?restd9
  case hyd9 => (intro w hSw; obtain ⟨y0, y1, y2, y3, y4⟩ := hSw; go_simp; try with_reducible rfl)
  try simp only [Act.put, List.setIfInBounds_toArray, List.set_cons_zero, List.set_cons_succ]
  refine until_take (i := 10) (v := ?vd10) rfl (by kernel_rfl) (by kernel_rfl) (by kernel_rfl) (by kernel_rfl) (by kernel_rfl) (fun _ _ _ h => h) rfl ?hyd10 hS0 ?restd10
  case hyd10 => (intro w hSw; obtain ⟨y0, y1, y2, y3, y4⟩ := hSw; go_simp; try with_reducible rfl)
  try simp only [Act.put, List.setIfInBounds_toArray, List.set_cons_zero, List.set_cons_succ]
  refine until_take (i := 12) (v := ?vd12) rfl (by kernel_rfl) (by kernel_rfl) (by kernel_rfl) (by kernel_rfl) (by kernel_rfl) (fun _ _ _ h => h) rfl ?hyd12 hS0 ?restd12
  case hyd12 => (intro w hSw; obtain ⟨y0, y1, y2, y3, y4⟩ := hSw; go_simp; try with_reducible rfl)
  try simp only [Act.put, List.setIfInBounds_toArray, List.set_cons_zero, List.set_cons_succ]
  refine until_take (i := 13) (v := ?vd13) rfl (by kernel_rfl) (by kernel_rfl) (by kernel_rfl) (by kernel_rfl) (by kernel_rfl) (fun _ _ _ h => h) rfl ?hyd13 hS0 ?restd13
  case hyd13 => (intro w hSw; obtain ⟨y0, y1, y2, y3, y4⟩ := hSw; go_simp; try with_reducible rfl)
  try simp only [Act.put, List.setIfInBounds_toArray, List.set_cons_zero, List.set_cons_succ]
  refine until_take (i := 14) (v := ?vd14) rfl (by kernel_rfl) (by kernel_rfl) (by kernel_rfl) (by kernel_rfl) (by kernel_rfl) (fun _ _ _ h => h) rfl ?hyd14 hS0 ?restd14
  case hyd14 => (intro w hSw; obtain ⟨y0, y1, y2, y3, y4⟩ := hSw; go_simp; try with_reducible rfl)
  try simp only [Act.put, List.setIfInBounds_toArray, List.set_cons_zero, List.set_cons_succ]
  refine until_take (i := 17) (v := ?vd17) rfl (by kernel_rfl) (by kernel_rfl) (by kernel_rfl) (by kernel_rfl) (by kernel_rfl) (fun _ _ _ h => h) rfl ?hyd17 hS0 ?restd17
  case hyd17 => (intro w hSw; obtain ⟨y0, y1, y2, y3, y4⟩ := hSw; go_simp; try with_reducible rfl)
  try simp only [Act.put, List.setIfInBounds_toArray, List.set_cons_zero, List.set_cons_succ]
  refine until_take (i := 18) (v := ?vd18) rfl (by kernel_rfl) (by kernel_rfl) (by kernel_rfl) (by kernel_rfl) (by kernel_rfl) (fun _ _ _ h => h) rfl ?hyd18 hS0 ?restd18
  case hyd18 => (intro w hSw; obtain ⟨y0, y1, y2, y3, y4⟩ := hSw; go_simp; try with_reducible rfl)
  try simp only [Act.put, List.setIfInBounds_toArray, List.set_cons_zero, List.set_cons_succ]
  refine until_take (i := 19) (v := ?vd19) rfl (by kernel_rfl) (by kernel_rfl) (by kernel_rfl) (by kernel_rfl) (by kernel_rfl) (fun _ _ _ h => h) rfl ?hyd19 hS0 ?restd19
  case hyd19 => (intro w hSw; obtain ⟨y0, y1, y2, y3, y4⟩ := hSw; go_simp; try with_reducible rfl)
  try simp only [Act.put, List.setIfInBounds_toArray, List.set_cons_zero, List.set_cons_succ]
  refine until_one (i := 3) (by kernel_rfl) (by kernel_rfl) rfl rfl (fun K hK => ?_)
  go_simp
  refine (wtnum_any a _).mono ?_
  rintro ex w2 ⟨rfl, HX0⟩
  have hS1 := LS5.ext hS0 HX0
  go_simp
  refine hK.out _ _ hS1 ?_
  clear hK K
  try simp only [Act.put, List.setIfInBounds_toArray, List.set_cons_zero, List.set_cons_succ]
  have HE2 : Hid (Ext W w2) := HE1.out.trans HX0
  clear HX0 HE1
  refine until_one (i := 7) (by kernel_rfl) (by kernel_rfl) rfl rfl (fun K hK => ?_)
  go_simp
  refine (wtnum_any b _).mono ?_
  rintro ex w3 ⟨rfl, HX1⟩
  have hS2 := LS5.ext hS1 HX1
  go_simp
  refine hK.out _ _ hS2 ?_
  clear hK K
  try simp only [Act.put, List.setIfInBounds_toArray, List.set_cons_zero, List.set_cons_succ]
  have HE3 : Hid (Ext W w3) := HE2.out.trans HX1
  clear HX1 HE2
  refine until_one (i := 11) (by kernel_rfl) (by kernel_rfl) rfl rfl (fun K hK => ?_)
  go_simp
  refine (wtnum_any c _).mono ?_
  rintro ex w4 ⟨rfl, HX2⟩
  have hS3 := LS5.ext hS2 HX2
  go_simp
  refine hK.out _ _ hS3 ?_
  clear hK K
  try simp only [Act.put, List.setIfInBounds_toArray, List.set_cons_zero, List.set_cons_succ]
  have HE4 : Hid (Ext W w4) := HE3.out.trans HX2
  clear HX2 HE3
  refine until_one (i := 15) (by kernel_rfl) (by kernel_rfl) rfl rfl (fun K hK => ?_)
  go_simp
  refine (wtnum_any d _).mono ?_
  rintro ex w5 ⟨rfl, HX3⟩
  have hS4 := LS5.ext hS3 HX3
  go_simp
  refine hK.out _ _ hS4 ?_
  clear hK K
  try simp only [Act.put, List.setIfInBounds_toArray, List.set_cons_zero, List.set_cons_succ]
  have HE5 : Hid (Ext W w5) := HE4.out.trans HX3
  clear HX3 HE4
  refine until_take (i := 16) (v := ?vm16) rfl (by kernel_rfl) (by kernel_rfl) (by kernel_rfl) (by kernel_rfl) (by kernel_rfl) (fun _ _ _ h => h) rfl ?hym16 hS4 ?restm16
  case hym16 => (intro w hSw; obtain ⟨y0, y1, y2, y3, y4⟩ := hSw; go_simp; try with_reducible rfl)
  try simp only [Act.put, List.setIfInBounds_toArray, List.set_cons_zero, List.set_cons_succ]
  refine until_take (i := 20) (v := ?vm20) rfl (by kernel_rfl) (by kernel_rfl) (by kernel_rfl) (by kernel_rfl) (by kernel_rfl) (fun _ _ _ h => h) rfl ?hym20 hS4 ?restm20
  case hym20 => (intro w hSw; obtain ⟨y0, y1, y2, y3, y4⟩ := hSw; go_simp; try with_reducible rfl)
  try simp only [Act.put, List.setIfInBounds_toArray, List.set_cons_zero, List.set_cons_succ]
  obtain ⟨⟨z0, z1, z2, z3⟩, z4⟩ := T5.ext HR0.out HE5.out
  have hb1 : bk < w5.heap.size := Nat.lt_of_lt_of_le HBk.out HE5.out.size
  have f0 := (HE5.out.cells.2 bk 0 HBk.out).trans (HF.out 0)
  have f1 := (HE5.out.cells.2 bk 1 HBk.out).trans (HF.out 1)
  have f2 := (HE5.out.cells.2 bk 2 HBk.out).trans (HF.out 2)
  have f3 := (HE5.out.cells.2 bk 3 HBk.out).trans (HF.out 3)
  have f4 := (HE5.out.cells.2 bk 4 HBk.out).trans (HF.out 4)
  have HEw : Hid (Ext w w5) := HE0.out.trans HE5.out
  clear HR0 HF HBk HE0
  refine until_last (by kernel_rfl) (by kernel_rfl) rfl rfl (fun K hK => ?_)
  go_simp
  refine hK.out _ _ (NoPanic.normal ?_)
  clear hK K
  try simp only [Act.put, List.setIfInBounds_toArray, List.set_cons_zero, List.set_cons_succ]
  clear hS4
  go_wp2
  refine bodyPost_ret (v := .agg #[.int .i64 (tnum a), .int .i64 (tnum b), .int .i64 (tnum c), .int .i64 (tnum d - 1), .string x]) (by simp [results, Try.results51, go_sem, z0, z1, z2, z3, z4]) rfl ⟨rfl, Ext.st HB.out (Ext.st HB.out (Ext.st HB.out (Ext.st HB.out (Ext.st HB.out (HEw.out)))))⟩
end Go.Proofs.Ythdmecoeghnifaa
