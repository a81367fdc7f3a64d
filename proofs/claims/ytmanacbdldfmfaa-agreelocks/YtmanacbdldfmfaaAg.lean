/-
 answer (rules 3 and 4), called.
-/
import Derived.Test.YtmanacbdldfmfaaAf
namespace Go.Proofs.Ytmanacbdldfmfaa
open Go.RowKit
set_option maxRecDepth 10000
set_option maxHeartbeats 4000000 in
theorem answer_st {w0 W : World} {F0 : Nat → Prop} {b c d : Nat} {p : Pm} {s : Ag} {out : List Vt} {R : Nat} (hR : s.rd = (R : Int)) (h6 : R < 64) (hd : s.dn = false) (hs : ¬ s.st = 1) (h : Run w0 F0 b c d p s out W) : Calls Try.prog 45 #[.pointer (some ⟨b, 0, none⟩)] W fun e w' => RuleP (r3 p s) w0 F0 b c d p s out e w' := by
 have HR0 : Hid (Run w0 F0 b c d p s out W) := h
 have HC : Hid (∀ wx, Ext W wx → b < wx.heap.size ∧ wx.cell? ⟨b, 4, none⟩ = some (.int .i64 (R : Int)) ∧ wx.cell? ⟨b, 10 + R * 2, none⟩ = some (.string (pvl s.ps R)) ∧ wx.cell? ⟨b, 10 + R * 2 + 1, none⟩ = some (.int .i64 (pva s.ps R))) := fun wx hx => by
  have q := HR0.out.ext hx
  obtain ⟨hb, _, _, _, c4, _⟩ := q.at
  obtain ⟨v0, v1⟩ := q.prop hd h6
  exact ⟨hb, by rw [← hR]; exact c4, v0, v1⟩
 have r0 : (0 : Int) ≤ (R : Int) := by omega
 have r6 : (R : Int) < 64 := by omega
 clear h
 have e1 : (s.st != 1) = true := by simpa using hs
 have HN : Hid (r3 p s = none) := by
  show r3 p s = none
  unfold r3
  split
  ·exact if_neg (fun q => hs q.1)
  ·rfl
 clear hs hd hR h6
 go_enter Try.func45, Try.ntmps45
 go_wp2_with fail
 refine wp_region_noPanic ?_
 refine wp_region_held (S := Ext W) (by kernel_rfl) ?_
 rw [show ({ W with drawn := W.drawn + 1 } : World) = W.drew from rfl]
 have HS : Ext W W.drew := (Ext.refl W).drew
 generalize W.drew = y0 at *
 refine takeH (i := 0) (v := ?vr0) ?hyr0 HS ?restr0
 case hyr0 => (intro wx hSx; obtain ⟨hb, c4, v0, v1⟩ := HC.out _ hSx; go_simp; try with_reducible rfl)
 try simp only [sx]
 refine takeH (i := 1) (v := ?vr1) ?hyr1 HS ?restr1
 case hyr1 => (intro wx hSx; obtain ⟨hb, c4, v0, v1⟩ := HC.out _ hSx; go_simp; try with_reducible rfl)
 try simp only [sx]
 refine takeH (i := 2) (v := ?vr2) ?hyr2 HS ?restr2
 case hyr2 => (intro wx hSx; obtain ⟨hb, c4, v0, v1⟩ := HC.out _ hSx; go_simp; try with_reducible rfl)
 try simp only [sx]
 refine takeH (i := 3) (v := ?vr3) ?hyr3 HS ?restr3
 case hyr3 => (intro wx hSx; obtain ⟨hb, c4, v0, v1⟩ := HC.out _ hSx; go_simp; try with_reducible rfl)
 try simp only [sx]
 refine takeH (i := 4) (v := ?vr4) ?hyr4 HS ?restr4
 case hyr4 => (intro wx hSx; obtain ⟨hb, c4, v0, v1⟩ := HC.out _ hSx; go_simp; try with_reducible rfl)
 try simp only [sx]
 refine takeH (i := 5) (v := ?vr5) ?hyr5 HS ?restr5
 case hyr5 => (intro wx hSx; obtain ⟨hb, c4, v0, v1⟩ := HC.out _ hSx; go_simp; try with_reducible rfl)
 try simp only [sx]
 refine takeH (i := 6) (v := ?vr6) ?hyr6 HS ?restr6
 case hyr6 => (intro wx hSx; obtain ⟨hb, c4, v0, v1⟩ := HC.out _ hSx; go_simp; try with_reducible rfl)
 try simp only [sx]
 refine takeH (i := 7) (v := ?vr7) ?hyr7 HS ?restr7
 case hyr7 => (intro wx hSx; obtain ⟨hb, c4, v0, v1⟩ := HC.out _ hSx; go_simp; try with_reducible rfl)
 try simp only [sx]
 refine takeH (i := 8) (v := ?vr8) ?hyr8 HS ?restr8
 case hyr8 => (intro wx hSx; obtain ⟨hb, c4, v0, v1⟩ := HC.out _ hSx; go_simp; try with_reducible rfl)
 try simp only [sx]
 refine held_one (i := 9) (by kernel_rfl) rfl rfl (fun K hK => ?_)
 go_simp
 have HSa : Ext W (y0.alloc (.cells #[.string ⟨#[]⟩, .int .i64 0] 60)) := HS.alloc _
 have HG0 : W.heap.size ≤ y0.heap.size := HS.size
 try go_simp
 refine hK.out _ _ ⟨HSa, ?_⟩
 clear hK K
 try simp only [sx]
 refine held_one (i := 10) (by kernel_rfl) rfl rfl (fun K hK => ?_)
 go_simp
 have HSc : Ext W (y0.alloc (.cells #[.string (pvl s.ps R), .int .i64 (pva s.ps R)] 60)) := HS.alloc _
 have HP : Hid (∀ wx, Ext (y0.alloc (.cells #[.string (pvl s.ps R), .int .i64 (pva s.ps R)] 60)) wx → wx.cell? ⟨y0.heap.size, 0, none⟩ = some (.string (pvl s.ps R)) ∧ wx.cell? ⟨y0.heap.size, 1, none⟩ = some (.int .i64 (pva s.ps R)) ∧ y0.heap.size < wx.heap.size) := fun wx hx => ⟨later hx (by rw [World.cell?_alloc_at _ _ _ _ rfl]; rfl), later hx (by rw [World.cell?_alloc_at _ _ _ _ rfl]; rfl), Nat.lt_of_lt_of_le (by simp) hx.size⟩
 generalize y0.alloc (.cells #[.string (pvl s.ps R), .int .i64 (pva s.ps R)] 60) = y1 at *
 generalize y0.heap.size = g at *
 try go_simp
 refine hK.out _ _ ⟨HSc, ?_⟩
 clear hK K
 try simp only [sx]
 refine wpAnyH_done (by kernel_rfl) ?_ _
 refine NoPanic.normal ?_
 have HR : Hid (Run w0 F0 b c d p s out y1) := HR0.out.ext HSc
 obtain ⟨p0, p1, pl⟩ := HP.out _ (Ext.refl y1)
 obtain ⟨hb, _, _, _, c4, c5, c6, c7, _⟩ := HR.out.at
 clear HSc HS HG0 HSa
 go_wp2_with fail
 refine bodyPost_ret (v := .bool false) (by simp [results, Try.results45, go_sem]) rfl ?_
 unfold RuleP
 rw [HN.out]
 exact ⟨rfl, HR.out⟩
set_option maxHeartbeats 4000000 in
theorem answer_no {w0 W : World} {F0 : Nat → Prop} {b c d : Nat} {p : Pm} {s : Ag} {out : List Vt} {R : Nat} (hR : s.rd = (R : Int)) (h6 : R < 64) (hd : s.dn = false) (hs : s.st = 1) (hz : (pvl s.ps R).size = 0) (hn : r3 p s = none) (h : Run w0 F0 b c d p s out W) : Calls Try.prog 45 #[.pointer (some ⟨b, 0, none⟩)] W fun e w' => RuleP (r3 p s) w0 F0 b c d p s out e w' := by
 have HR0 : Hid (Run w0 F0 b c d p s out W) := h
 have HC : Hid (∀ wx, Ext W wx → b < wx.heap.size ∧ wx.cell? ⟨b, 4, none⟩ = some (.int .i64 (R : Int)) ∧ wx.cell? ⟨b, 10 + R * 2, none⟩ = some (.string (pvl s.ps R)) ∧ wx.cell? ⟨b, 10 + R * 2 + 1, none⟩ = some (.int .i64 (pva s.ps R))) := fun wx hx => by
  have q := HR0.out.ext hx
  obtain ⟨hb, _, _, _, c4, _⟩ := q.at
  obtain ⟨v0, v1⟩ := q.prop hd h6
  exact ⟨hb, by rw [← hR]; exact c4, v0, v1⟩
 have r0 : (0 : Int) ≤ (R : Int) := by omega
 have r6 : (R : Int) < 64 := by omega
 clear h
 have e1 : (s.st != 1) = false := by simp [hs]
 have HN : Hid (r3 p s = none) := hn
 have q4 := isEmpty_nil hz
 have q5 := toList_nil hz
 clear hs hd hR h6 hz hn
 go_enter Try.func45, Try.ntmps45
 go_wp2_with fail
 refine wp_region_noPanic ?_
 refine wp_region_held (S := Ext W) (by kernel_rfl) ?_
 rw [show ({ W with drawn := W.drawn + 1 } : World) = W.drew from rfl]
 have HS : Ext W W.drew := (Ext.refl W).drew
 generalize W.drew = y0 at *
 refine takeH (i := 0) (v := ?vr0) ?hyr0 HS ?restr0
 case hyr0 => (intro wx hSx; obtain ⟨hb, c4, v0, v1⟩ := HC.out _ hSx; go_simp; try with_reducible rfl)
 try simp only [sx]
 refine takeH (i := 1) (v := ?vr1) ?hyr1 HS ?restr1
 case hyr1 => (intro wx hSx; obtain ⟨hb, c4, v0, v1⟩ := HC.out _ hSx; go_simp; try with_reducible rfl)
 try simp only [sx]
 refine takeH (i := 2) (v := ?vr2) ?hyr2 HS ?restr2
 case hyr2 => (intro wx hSx; obtain ⟨hb, c4, v0, v1⟩ := HC.out _ hSx; go_simp; try with_reducible rfl)
 try simp only [sx]
 refine takeH (i := 3) (v := ?vr3) ?hyr3 HS ?restr3
 case hyr3 => (intro wx hSx; obtain ⟨hb, c4, v0, v1⟩ := HC.out _ hSx; go_simp; try with_reducible rfl)
 try simp only [sx]
 refine takeH (i := 4) (v := ?vr4) ?hyr4 HS ?restr4
 case hyr4 => (intro wx hSx; obtain ⟨hb, c4, v0, v1⟩ := HC.out _ hSx; go_simp; try with_reducible rfl)
 try simp only [sx]
 refine takeH (i := 5) (v := ?vr5) ?hyr5 HS ?restr5
 case hyr5 => (intro wx hSx; obtain ⟨hb, c4, v0, v1⟩ := HC.out _ hSx; go_simp; try with_reducible rfl)
 try simp only [sx]
 refine takeH (i := 6) (v := ?vr6) ?hyr6 HS ?restr6
 case hyr6 => (intro wx hSx; obtain ⟨hb, c4, v0, v1⟩ := HC.out _ hSx; go_simp; try with_reducible rfl)
 try simp only [sx]
 refine takeH (i := 7) (v := ?vr7) ?hyr7 HS ?restr7
 case hyr7 => (intro wx hSx; obtain ⟨hb, c4, v0, v1⟩ := HC.out _ hSx; go_simp; try with_reducible rfl)
 try simp only [sx]
 refine takeH (i := 8) (v := ?vr8) ?hyr8 HS ?restr8
 case hyr8 => (intro wx hSx; obtain ⟨hb, c4, v0, v1⟩ := HC.out _ hSx; go_simp; try with_reducible rfl)
 try simp only [sx]
 refine held_one (i := 9) (by kernel_rfl) rfl rfl (fun K hK => ?_)
 go_simp
 have HSa : Ext W (y0.alloc (.cells #[.string ⟨#[]⟩, .int .i64 0] 60)) := HS.alloc _
 have HG0 : W.heap.size ≤ y0.heap.size := HS.size
 try go_simp
 refine hK.out _ _ ⟨HSa, ?_⟩
 clear hK K
 try simp only [sx]
 refine held_one (i := 10) (by kernel_rfl) rfl rfl (fun K hK => ?_)
 go_simp
 have HSc : Ext W (y0.alloc (.cells #[.string (pvl s.ps R), .int .i64 (pva s.ps R)] 60)) := HS.alloc _
 have HP : Hid (∀ wx, Ext (y0.alloc (.cells #[.string (pvl s.ps R), .int .i64 (pva s.ps R)] 60)) wx → wx.cell? ⟨y0.heap.size, 0, none⟩ = some (.string (pvl s.ps R)) ∧ wx.cell? ⟨y0.heap.size, 1, none⟩ = some (.int .i64 (pva s.ps R)) ∧ y0.heap.size < wx.heap.size) := fun wx hx => ⟨later hx (by rw [World.cell?_alloc_at _ _ _ _ rfl]; rfl), later hx (by rw [World.cell?_alloc_at _ _ _ _ rfl]; rfl), Nat.lt_of_lt_of_le (by simp) hx.size⟩
 generalize y0.alloc (.cells #[.string (pvl s.ps R), .int .i64 (pva s.ps R)] 60) = y1 at *
 generalize y0.heap.size = g at *
 try go_simp
 refine hK.out _ _ ⟨HSc, ?_⟩
 clear hK K
 try simp only [sx]
 refine wpAnyH_done (by kernel_rfl) ?_ _
 refine NoPanic.normal ?_
 have HR : Hid (Run w0 F0 b c d p s out y1) := HR0.out.ext HSc
 obtain ⟨p0, p1, pl⟩ := HP.out _ (Ext.refl y1)
 obtain ⟨hb, _, _, _, c4, c5, c6, c7, _⟩ := HR.out.at
 clear HSc HS HG0 HSa
 go_wp2_with fail
 refine bodyPost_ret (v := .bool false) (by simp [results, Try.results45, go_sem]) rfl ?_
 unfold RuleP
 rw [HN.out]
 exact ⟨rfl, HR.out⟩
set_option maxHeartbeats 4000000 in
theorem answer_not {w0 W : World} {F0 : Nat → Prop} {b c d : Nat} {p : Pm} {s : Ag} {out : List Vt} {R : Nat} (hR : s.rd = (R : Int)) (h6 : R < 64) (hd : s.dn = false) (hp : okP p) (hi : InvA p s) (hs : s.st = 1) (hz : (pvl s.ps R).size ≠ 0) (ha : 0 ≤ pva s.ps R) (ha6 : pva s.ps R < 64) (hm : isA p s.vs 2 (pva s.ps R) (pvl s.ps R) = false) (hn : r3 p s = none) (h : Run w0 F0 b c d p s out W) : Calls Try.prog 45 #[.pointer (some ⟨b, 0, none⟩)] W fun e w' => RuleP (r3 p s) w0 F0 b c d p s out e w' := by
 have HR0 : Hid (Run w0 F0 b c d p s out W) := h
 have HC : Hid (∀ wx, Ext W wx → b < wx.heap.size ∧ wx.cell? ⟨b, 4, none⟩ = some (.int .i64 (R : Int)) ∧ wx.cell? ⟨b, 10 + R * 2, none⟩ = some (.string (pvl s.ps R)) ∧ wx.cell? ⟨b, 10 + R * 2 + 1, none⟩ = some (.int .i64 (pva s.ps R))) := fun wx hx => by
  have q := HR0.out.ext hx
  obtain ⟨hb, _, _, _, c4, _⟩ := q.at
  obtain ⟨v0, v1⟩ := q.prop hd h6
  exact ⟨hb, by rw [← hR]; exact c4, v0, v1⟩
 have r0 : (0 : Int) ≤ (R : Int) := by omega
 have r6 : (R : Int) < 64 := by omega
 clear h
 have e1 : (s.st != 1) = false := by simp [hs]
 have q4 := isEmpty_some hz
 have q5 := toList_some hz
 have HM : Hid (∀ wx, Run w0 F0 b c d p s out wx → Calls Try.prog 56 #[.pointer (some ⟨b, 0, none⟩), .int .i64 2, .int .i64 (pva s.ps R), .string (pvl s.ps R)] wx fun e w' => e = .returned (.bool false) ∧ Ext wx w') := fun wx hw => by rw [← hm]; exact hw.most hp hi hd _ wf2 (WalkArith.wf_i64 (by omega))
 have HN : Hid (r3 p s = none) := hn
 have d0 : decide ((0 : Int) ≤ pva s.ps R) = true := decide_eq_true ha
 clear hs hd hR h6 hz hn ha ha6 hm hp hi
 go_enter Try.func45, Try.ntmps45
 go_wp2_with fail
 refine wp_region_noPanic ?_
 refine wp_region_held (S := Ext W) (by kernel_rfl) ?_
 rw [show ({ W with drawn := W.drawn + 1 } : World) = W.drew from rfl]
 have HS : Ext W W.drew := (Ext.refl W).drew
 generalize W.drew = y0 at *
 refine takeH (i := 0) (v := ?vr0) ?hyr0 HS ?restr0
 case hyr0 => (intro wx hSx; obtain ⟨hb, c4, v0, v1⟩ := HC.out _ hSx; go_simp; try with_reducible rfl)
 try simp only [sx]
 refine takeH (i := 1) (v := ?vr1) ?hyr1 HS ?restr1
 case hyr1 => (intro wx hSx; obtain ⟨hb, c4, v0, v1⟩ := HC.out _ hSx; go_simp; try with_reducible rfl)
 try simp only [sx]
 refine takeH (i := 2) (v := ?vr2) ?hyr2 HS ?restr2
 case hyr2 => (intro wx hSx; obtain ⟨hb, c4, v0, v1⟩ := HC.out _ hSx; go_simp; try with_reducible rfl)
 try simp only [sx]
 refine takeH (i := 3) (v := ?vr3) ?hyr3 HS ?restr3
 case hyr3 => (intro wx hSx; obtain ⟨hb, c4, v0, v1⟩ := HC.out _ hSx; go_simp; try with_reducible rfl)
 try simp only [sx]
 refine takeH (i := 4) (v := ?vr4) ?hyr4 HS ?restr4
 case hyr4 => (intro wx hSx; obtain ⟨hb, c4, v0, v1⟩ := HC.out _ hSx; go_simp; try with_reducible rfl)
 try simp only [sx]
 refine takeH (i := 5) (v := ?vr5) ?hyr5 HS ?restr5
 case hyr5 => (intro wx hSx; obtain ⟨hb, c4, v0, v1⟩ := HC.out _ hSx; go_simp; try with_reducible rfl)
 try simp only [sx]
 refine takeH (i := 6) (v := ?vr6) ?hyr6 HS ?restr6
 case hyr6 => (intro wx hSx; obtain ⟨hb, c4, v0, v1⟩ := HC.out _ hSx; go_simp; try with_reducible rfl)
 try simp only [sx]
 refine takeH (i := 7) (v := ?vr7) ?hyr7 HS ?restr7
 case hyr7 => (intro wx hSx; obtain ⟨hb, c4, v0, v1⟩ := HC.out _ hSx; go_simp; try with_reducible rfl)
 try simp only [sx]
 refine takeH (i := 8) (v := ?vr8) ?hyr8 HS ?restr8
 case hyr8 => (intro wx hSx; obtain ⟨hb, c4, v0, v1⟩ := HC.out _ hSx; go_simp; try with_reducible rfl)
 try simp only [sx]
 refine held_one (i := 9) (by kernel_rfl) rfl rfl (fun K hK => ?_)
 go_simp
 have HSa : Ext W (y0.alloc (.cells #[.string ⟨#[]⟩, .int .i64 0] 60)) := HS.alloc _
 have HG0 : W.heap.size ≤ y0.heap.size := HS.size
 try go_simp
 refine hK.out _ _ ⟨HSa, ?_⟩
 clear hK K
 try simp only [sx]
 refine held_one (i := 10) (by kernel_rfl) rfl rfl (fun K hK => ?_)
 go_simp
 have HSc : Ext W (y0.alloc (.cells #[.string (pvl s.ps R), .int .i64 (pva s.ps R)] 60)) := HS.alloc _
 have HP : Hid (∀ wx, Ext (y0.alloc (.cells #[.string (pvl s.ps R), .int .i64 (pva s.ps R)] 60)) wx → wx.cell? ⟨y0.heap.size, 0, none⟩ = some (.string (pvl s.ps R)) ∧ wx.cell? ⟨y0.heap.size, 1, none⟩ = some (.int .i64 (pva s.ps R)) ∧ y0.heap.size < wx.heap.size) := fun wx hx => ⟨later hx (by rw [World.cell?_alloc_at _ _ _ _ rfl]; rfl), later hx (by rw [World.cell?_alloc_at _ _ _ _ rfl]; rfl), Nat.lt_of_lt_of_le (by simp) hx.size⟩
 generalize y0.alloc (.cells #[.string (pvl s.ps R), .int .i64 (pva s.ps R)] 60) = y1 at *
 generalize y0.heap.size = g at *
 try go_simp
 refine hK.out _ _ ⟨HSc, ?_⟩
 clear hK K
 try simp only [sx]
 refine wpAnyH_done (by kernel_rfl) ?_ _
 refine NoPanic.normal ?_
 have HR : Hid (Run w0 F0 b c d p s out y1) := HR0.out.ext HSc
 obtain ⟨p0, p1, pl⟩ := HP.out _ (Ext.refl y1)
 obtain ⟨hb, _, _, _, c4, c5, c6, c7, _⟩ := HR.out.at
 clear HSc HS HG0 HSa
 go_wp2_with fail
 refine (HM.out _ HR.out).mono ?_
 rintro e y2 ⟨rfl, HX2⟩
 have HR2 : Hid (Run w0 F0 b c d p s out y2) := HR.out.ext HX2
 clear HX2
 go_wp2_with fail
 refine bodyPost_ret (v := .bool false) (by simp [results, Try.results45, go_sem]) rfl ?_
 unfold RuleP
 rw [HN.out]
 exact ⟨rfl, HR2.out⟩
set_option maxHeartbeats 4000000 in
theorem answer_neg_le {w0 W : World} {F0 : Nat → Prop} {b c d : Nat} {p : Pm} {s : Ag} {out : List Vt} {R : Nat} (hR : s.rd = (R : Int)) (h6 : R < 64) (hd : s.dn = false) (ha : pva s.ps R < 0) (hs : s.st = 1) (hz : (pvl s.ps R).size ≠ 0) (hz2 : (pvl s.ps R).size ≤ 4096) (hl : out.length ≤ 9000) (hc : s.lr ≤ pva s.ps R) (hn : r3 p s = some (voteA p s 2 (pvl s.ps R))) (h : Run w0 F0 b c d p s out W) : Calls Try.prog 45 #[.pointer (some ⟨b, 0, none⟩)] W fun e w' => RuleP (r3 p s) w0 F0 b c d p s out e w' := by
 have HR0 : Hid (Run w0 F0 b c d p s out W) := h
 have HC : Hid (∀ wx, Ext W wx → b < wx.heap.size ∧ wx.cell? ⟨b, 4, none⟩ = some (.int .i64 (R : Int)) ∧ wx.cell? ⟨b, 10 + R * 2, none⟩ = some (.string (pvl s.ps R)) ∧ wx.cell? ⟨b, 10 + R * 2 + 1, none⟩ = some (.int .i64 (pva s.ps R))) := fun wx hx => by
  have q := HR0.out.ext hx
  obtain ⟨hb, _, _, _, c4, _⟩ := q.at
  obtain ⟨v0, v1⟩ := q.prop hd h6
  exact ⟨hb, by rw [← hR]; exact c4, v0, v1⟩
 have r0 : (0 : Int) ≤ (R : Int) := by omega
 have r6 : (R : Int) < 64 := by omega
 clear h
 have e1 : (s.st != 1) = false := by simp [hs]
 have q4 := isEmpty_some hz
 have q5 := toList_some hz
 have dc : decide (s.lr ≤ pva s.ps R) = true := decide_eq_true hc
 have HN : Hid (r3 p s = some (voteA p s 2 (pvl s.ps R))) := hn
 have HL : Hid (out.length ≤ 10000) := Nat.le_trans hl (by decide)
 have u0 := hz2
 clear u0
 have HZ : Hid ((pvl s.ps R : ByteArray).size ≤ 4096) := hz2
 have d0 : decide ((0 : Int) ≤ pva s.ps R) = false := decide_eq_false (by omega)
 clear hs hd hR h6 hz hz2 hn ha hc hl
 go_enter Try.func45, Try.ntmps45
 go_wp2_with fail
 refine wp_region_noPanic ?_
 refine wp_region_held (S := Ext W) (by kernel_rfl) ?_
 rw [show ({ W with drawn := W.drawn + 1 } : World) = W.drew from rfl]
 have HS : Ext W W.drew := (Ext.refl W).drew
 generalize W.drew = y0 at *
 refine takeH (i := 0) (v := ?vr0) ?hyr0 HS ?restr0
 case hyr0 => (intro wx hSx; obtain ⟨hb, c4, v0, v1⟩ := HC.out _ hSx; go_simp; try with_reducible rfl)
 try simp only [sx]
 refine takeH (i := 1) (v := ?vr1) ?hyr1 HS ?restr1
 case hyr1 => (intro wx hSx; obtain ⟨hb, c4, v0, v1⟩ := HC.out _ hSx; go_simp; try with_reducible rfl)
 try simp only [sx]
 refine takeH (i := 2) (v := ?vr2) ?hyr2 HS ?restr2
 case hyr2 => (intro wx hSx; obtain ⟨hb, c4, v0, v1⟩ := HC.out _ hSx; go_simp; try with_reducible rfl)
 try simp only [sx]
 refine takeH (i := 3) (v := ?vr3) ?hyr3 HS ?restr3
 case hyr3 => (intro wx hSx; obtain ⟨hb, c4, v0, v1⟩ := HC.out _ hSx; go_simp; try with_reducible rfl)
 try simp only [sx]
 refine takeH (i := 4) (v := ?vr4) ?hyr4 HS ?restr4
 case hyr4 => (intro wx hSx; obtain ⟨hb, c4, v0, v1⟩ := HC.out _ hSx; go_simp; try with_reducible rfl)
 try simp only [sx]
 refine takeH (i := 5) (v := ?vr5) ?hyr5 HS ?restr5
 case hyr5 => (intro wx hSx; obtain ⟨hb, c4, v0, v1⟩ := HC.out _ hSx; go_simp; try with_reducible rfl)
 try simp only [sx]
 refine takeH (i := 6) (v := ?vr6) ?hyr6 HS ?restr6
 case hyr6 => (intro wx hSx; obtain ⟨hb, c4, v0, v1⟩ := HC.out _ hSx; go_simp; try with_reducible rfl)
 try simp only [sx]
 refine takeH (i := 7) (v := ?vr7) ?hyr7 HS ?restr7
 case hyr7 => (intro wx hSx; obtain ⟨hb, c4, v0, v1⟩ := HC.out _ hSx; go_simp; try with_reducible rfl)
 try simp only [sx]
 refine takeH (i := 8) (v := ?vr8) ?hyr8 HS ?restr8
 case hyr8 => (intro wx hSx; obtain ⟨hb, c4, v0, v1⟩ := HC.out _ hSx; go_simp; try with_reducible rfl)
 try simp only [sx]
 refine held_one (i := 9) (by kernel_rfl) rfl rfl (fun K hK => ?_)
 go_simp
 have HSa : Ext W (y0.alloc (.cells #[.string ⟨#[]⟩, .int .i64 0] 60)) := HS.alloc _
 have HG0 : W.heap.size ≤ y0.heap.size := HS.size
 try go_simp
 refine hK.out _ _ ⟨HSa, ?_⟩
 clear hK K
 try simp only [sx]
 refine held_one (i := 10) (by kernel_rfl) rfl rfl (fun K hK => ?_)
 go_simp
 have HSc : Ext W (y0.alloc (.cells #[.string (pvl s.ps R), .int .i64 (pva s.ps R)] 60)) := HS.alloc _
 have HP : Hid (∀ wx, Ext (y0.alloc (.cells #[.string (pvl s.ps R), .int .i64 (pva s.ps R)] 60)) wx → wx.cell? ⟨y0.heap.size, 0, none⟩ = some (.string (pvl s.ps R)) ∧ wx.cell? ⟨y0.heap.size, 1, none⟩ = some (.int .i64 (pva s.ps R)) ∧ y0.heap.size < wx.heap.size) := fun wx hx => ⟨later hx (by rw [World.cell?_alloc_at _ _ _ _ rfl]; rfl), later hx (by rw [World.cell?_alloc_at _ _ _ _ rfl]; rfl), Nat.lt_of_lt_of_le (by simp) hx.size⟩
 generalize y0.alloc (.cells #[.string (pvl s.ps R), .int .i64 (pva s.ps R)] 60) = y1 at *
 generalize y0.heap.size = g at *
 try go_simp
 refine hK.out _ _ ⟨HSc, ?_⟩
 clear hK K
 try simp only [sx]
 refine wpAnyH_done (by kernel_rfl) ?_ _
 refine NoPanic.normal ?_
 have HR : Hid (Run w0 F0 b c d p s out y1) := HR0.out.ext HSc
 obtain ⟨p0, p1, pl⟩ := HP.out _ (Ext.refl y1)
 obtain ⟨hb, _, _, _, c4, c5, c6, c7, _⟩ := HR.out.at
 clear HSc HS HG0 HSa
 go_wp2_with fail
 have HRq : Hid (∀ q, Run w0 F0 b c d p s out (y1.drewN q)) := fun q => HR.out.ext ((Ext.refl y1).drewN q)
 go_quiet (fail)
 go_wp2_with fail
 refine (prevote_any (pvl s.ps R) HZ.out HL.out (HRq.out _)).mono ?_
 rintro e y3 ⟨rfl, HR3⟩
 have HR3 : Hid _ := HR3
 go_wp2_with fail
 refine bodyPost_ret (v := .bool true) (by simp [results, Try.results45, go_sem]) rfl ?_
 unfold RuleP
 rw [HN.out]
 exact ⟨rfl, HR3.out⟩
set_option maxHeartbeats 4000000 in
theorem answer_neg_eq {w0 W : World} {F0 : Nat → Prop} {b c d : Nat} {p : Pm} {s : Ag} {out : List Vt} {R : Nat} (hR : s.rd = (R : Int)) (h6 : R < 64) (hd : s.dn = false) (ha : pva s.ps R < 0) (hs : s.st = 1) (hz : (pvl s.ps R).size ≠ 0) (hz2 : (pvl s.ps R).size ≤ 4096) (hl : out.length ≤ 9000) (hc : ¬ s.lr ≤ pva s.ps R) (he : s.lk = pvl s.ps R) (hn : r3 p s = some (voteA p s 2 (pvl s.ps R))) (h : Run w0 F0 b c d p s out W) : Calls Try.prog 45 #[.pointer (some ⟨b, 0, none⟩)] W fun e w' => RuleP (r3 p s) w0 F0 b c d p s out e w' := by
 have HR0 : Hid (Run w0 F0 b c d p s out W) := h
 have HC : Hid (∀ wx, Ext W wx → b < wx.heap.size ∧ wx.cell? ⟨b, 4, none⟩ = some (.int .i64 (R : Int)) ∧ wx.cell? ⟨b, 10 + R * 2, none⟩ = some (.string (pvl s.ps R)) ∧ wx.cell? ⟨b, 10 + R * 2 + 1, none⟩ = some (.int .i64 (pva s.ps R))) := fun wx hx => by
  have q := HR0.out.ext hx
  obtain ⟨hb, _, _, _, c4, _⟩ := q.at
  obtain ⟨v0, v1⟩ := q.prop hd h6
  exact ⟨hb, by rw [← hR]; exact c4, v0, v1⟩
 have r0 : (0 : Int) ≤ (R : Int) := by omega
 have r6 : (R : Int) < 64 := by omega
 clear h
 have e1 : (s.st != 1) = false := by simp [hs]
 have q4 := isEmpty_some hz
 have q5 := toList_some hz
 have dc : decide (s.lr ≤ pva s.ps R) = false := decide_eq_false hc
 have de := toList_same he
 have HN : Hid (r3 p s = some (voteA p s 2 (pvl s.ps R))) := hn
 have HL : Hid (out.length ≤ 10000) := Nat.le_trans hl (by decide)
 have u0 := hz2
 clear u0
 have HZ : Hid ((pvl s.ps R : ByteArray).size ≤ 4096) := hz2
 have d0 : decide ((0 : Int) ≤ pva s.ps R) = false := decide_eq_false (by omega)
 clear hs hd hR h6 hz hz2 hn ha hc hl he
 go_enter Try.func45, Try.ntmps45
 go_wp2_with fail
 refine wp_region_noPanic ?_
 refine wp_region_held (S := Ext W) (by kernel_rfl) ?_
 rw [show ({ W with drawn := W.drawn + 1 } : World) = W.drew from rfl]
 have HS : Ext W W.drew := (Ext.refl W).drew
 generalize W.drew = y0 at *
 refine takeH (i := 0) (v := ?vr0) ?hyr0 HS ?restr0
 case hyr0 => (intro wx hSx; obtain ⟨hb, c4, v0, v1⟩ := HC.out _ hSx; go_simp; try with_reducible rfl)
 try simp only [sx]
 refine takeH (i := 1) (v := ?vr1) ?hyr1 HS ?restr1
 case hyr1 => (intro wx hSx; obtain ⟨hb, c4, v0, v1⟩ := HC.out _ hSx; go_simp; try with_reducible rfl)
 try simp only [sx]
 refine takeH (i := 2) (v := ?vr2) ?hyr2 HS ?restr2
 case hyr2 => (intro wx hSx; obtain ⟨hb, c4, v0, v1⟩ := HC.out _ hSx; go_simp; try with_reducible rfl)
 try simp only [sx]
 refine takeH (i := 3) (v := ?vr3) ?hyr3 HS ?restr3
 case hyr3 => (intro wx hSx; obtain ⟨hb, c4, v0, v1⟩ := HC.out _ hSx; go_simp; try with_reducible rfl)
 try simp only [sx]
 refine takeH (i := 4) (v := ?vr4) ?hyr4 HS ?restr4
 case hyr4 => (intro wx hSx; obtain ⟨hb, c4, v0, v1⟩ := HC.out _ hSx; go_simp; try with_reducible rfl)
 try simp only [sx]
 refine takeH (i := 5) (v := ?vr5) ?hyr5 HS ?restr5
 case hyr5 => (intro wx hSx; obtain ⟨hb, c4, v0, v1⟩ := HC.out _ hSx; go_simp; try with_reducible rfl)
 try simp only [sx]
 refine takeH (i := 6) (v := ?vr6) ?hyr6 HS ?restr6
 case hyr6 => (intro wx hSx; obtain ⟨hb, c4, v0, v1⟩ := HC.out _ hSx; go_simp; try with_reducible rfl)
 try simp only [sx]
 refine takeH (i := 7) (v := ?vr7) ?hyr7 HS ?restr7
 case hyr7 => (intro wx hSx; obtain ⟨hb, c4, v0, v1⟩ := HC.out _ hSx; go_simp; try with_reducible rfl)
 try simp only [sx]
 refine takeH (i := 8) (v := ?vr8) ?hyr8 HS ?restr8
 case hyr8 => (intro wx hSx; obtain ⟨hb, c4, v0, v1⟩ := HC.out _ hSx; go_simp; try with_reducible rfl)
 try simp only [sx]
 refine held_one (i := 9) (by kernel_rfl) rfl rfl (fun K hK => ?_)
 go_simp
 have HSa : Ext W (y0.alloc (.cells #[.string ⟨#[]⟩, .int .i64 0] 60)) := HS.alloc _
 have HG0 : W.heap.size ≤ y0.heap.size := HS.size
 try go_simp
 refine hK.out _ _ ⟨HSa, ?_⟩
 clear hK K
 try simp only [sx]
 refine held_one (i := 10) (by kernel_rfl) rfl rfl (fun K hK => ?_)
 go_simp
 have HSc : Ext W (y0.alloc (.cells #[.string (pvl s.ps R), .int .i64 (pva s.ps R)] 60)) := HS.alloc _
 have HP : Hid (∀ wx, Ext (y0.alloc (.cells #[.string (pvl s.ps R), .int .i64 (pva s.ps R)] 60)) wx → wx.cell? ⟨y0.heap.size, 0, none⟩ = some (.string (pvl s.ps R)) ∧ wx.cell? ⟨y0.heap.size, 1, none⟩ = some (.int .i64 (pva s.ps R)) ∧ y0.heap.size < wx.heap.size) := fun wx hx => ⟨later hx (by rw [World.cell?_alloc_at _ _ _ _ rfl]; rfl), later hx (by rw [World.cell?_alloc_at _ _ _ _ rfl]; rfl), Nat.lt_of_lt_of_le (by simp) hx.size⟩
 generalize y0.alloc (.cells #[.string (pvl s.ps R), .int .i64 (pva s.ps R)] 60) = y1 at *
 generalize y0.heap.size = g at *
 try go_simp
 refine hK.out _ _ ⟨HSc, ?_⟩
 clear hK K
 try simp only [sx]
 refine wpAnyH_done (by kernel_rfl) ?_ _
 refine NoPanic.normal ?_
 have HR : Hid (Run w0 F0 b c d p s out y1) := HR0.out.ext HSc
 obtain ⟨p0, p1, pl⟩ := HP.out _ (Ext.refl y1)
 obtain ⟨hb, _, _, _, c4, c5, c6, c7, _⟩ := HR.out.at
 clear HSc HS HG0 HSa
 go_wp2_with fail
 have HRq : Hid (∀ q, Run w0 F0 b c d p s out (y1.drewN q)) := fun q => HR.out.ext ((Ext.refl y1).drewN q)
 go_quiet (fail)
 go_wp2_with fail
 refine (prevote_any (pvl s.ps R) HZ.out HL.out (HRq.out _)).mono ?_
 rintro e y3 ⟨rfl, HR3⟩
 have HR3 : Hid _ := HR3
 go_wp2_with fail
 refine bodyPost_ret (v := .bool true) (by simp [results, Try.results45, go_sem]) rfl ?_
 unfold RuleP
 rw [HN.out]
 exact ⟨rfl, HR3.out⟩
set_option maxHeartbeats 4000000 in
theorem answer_neg_ne {w0 W : World} {F0 : Nat → Prop} {b c d : Nat} {p : Pm} {s : Ag} {out : List Vt} {R : Nat} (hR : s.rd = (R : Int)) (h6 : R < 64) (hd : s.dn = false) (ha : pva s.ps R < 0) (hs : s.st = 1) (hz : (pvl s.ps R).size ≠ 0) (hz2 : (pvl s.ps R).size ≤ 4096) (hl : out.length ≤ 9000) (hc : ¬ s.lr ≤ pva s.ps R) (he : ¬ s.lk = pvl s.ps R) (hn : r3 p s = some (voteA p s 2 (emp))) (h : Run w0 F0 b c d p s out W) : Calls Try.prog 45 #[.pointer (some ⟨b, 0, none⟩)] W fun e w' => RuleP (r3 p s) w0 F0 b c d p s out e w' := by
 have HR0 : Hid (Run w0 F0 b c d p s out W) := h
 have HC : Hid (∀ wx, Ext W wx → b < wx.heap.size ∧ wx.cell? ⟨b, 4, none⟩ = some (.int .i64 (R : Int)) ∧ wx.cell? ⟨b, 10 + R * 2, none⟩ = some (.string (pvl s.ps R)) ∧ wx.cell? ⟨b, 10 + R * 2 + 1, none⟩ = some (.int .i64 (pva s.ps R))) := fun wx hx => by
  have q := HR0.out.ext hx
  obtain ⟨hb, _, _, _, c4, _⟩ := q.at
  obtain ⟨v0, v1⟩ := q.prop hd h6
  exact ⟨hb, by rw [← hR]; exact c4, v0, v1⟩
 have r0 : (0 : Int) ≤ (R : Int) := by omega
 have r6 : (R : Int) < 64 := by omega
 clear h
 have e1 : (s.st != 1) = false := by simp [hs]
 have q4 := isEmpty_some hz
 have q5 := toList_some hz
 have dc : decide (s.lr ≤ pva s.ps R) = false := decide_eq_false hc
 have de := toList_ne he
 have HN : Hid (r3 p s = some (voteA p s 2 (emp))) := hn
 have HL : Hid (out.length ≤ 10000) := Nat.le_trans hl (by decide)
 have u0 := hz2
 clear u0
 have HZ : Hid ((emp : ByteArray).size ≤ 4096) := (by decide : (emp : ByteArray).size ≤ 4096)
 have d0 : decide ((0 : Int) ≤ pva s.ps R) = false := decide_eq_false (by omega)
 clear hs hd hR h6 hz hz2 hn ha hc hl he
 go_enter Try.func45, Try.ntmps45
 go_wp2_with fail
 refine wp_region_noPanic ?_
 refine wp_region_held (S := Ext W) (by kernel_rfl) ?_
 rw [show ({ W with drawn := W.drawn + 1 } : World) = W.drew from rfl]
 have HS : Ext W W.drew := (Ext.refl W).drew
 generalize W.drew = y0 at *
 refine takeH (i := 0) (v := ?vr0) ?hyr0 HS ?restr0
 case hyr0 => (intro wx hSx; obtain ⟨hb, c4, v0, v1⟩ := HC.out _ hSx; go_simp; try with_reducible rfl)
 try simp only [sx]
 refine takeH (i := 1) (v := ?vr1) ?hyr1 HS ?restr1
 case hyr1 => (intro wx hSx; obtain ⟨hb, c4, v0, v1⟩ := HC.out _ hSx; go_simp; try with_reducible rfl)
 try simp only [sx]
 refine takeH (i := 2) (v := ?vr2) ?hyr2 HS ?restr2
 case hyr2 => (intro wx hSx; obtain ⟨hb, c4, v0, v1⟩ := HC.out _ hSx; go_simp; try with_reducible rfl)
 try simp only [sx]
 refine takeH (i := 3) (v := ?vr3) ?hyr3 HS ?restr3
 case hyr3 => (intro wx hSx; obtain ⟨hb, c4, v0, v1⟩ := HC.out _ hSx; go_simp; try with_reducible rfl)
 try simp only [sx]
 refine takeH (i := 4) (v := ?vr4) ?hyr4 HS ?restr4
 case hyr4 => (intro wx hSx; obtain ⟨hb, c4, v0, v1⟩ := HC.out _ hSx; go_simp; try with_reducible rfl)
 try simp only [sx]
 refine takeH (i := 5) (v := ?vr5) ?hyr5 HS ?restr5
 case hyr5 => (intro wx hSx; obtain ⟨hb, c4, v0, v1⟩ := HC.out _ hSx; go_simp; try with_reducible rfl)
 try simp only [sx]
 refine takeH (i := 6) (v := ?vr6) ?hyr6 HS ?restr6
 case hyr6 => (intro wx hSx; obtain ⟨hb, c4, v0, v1⟩ := HC.out _ hSx; go_simp; try with_reducible rfl)
 try simp only [sx]
 refine takeH (i := 7) (v := ?vr7) ?hyr7 HS ?restr7
 case hyr7 => (intro wx hSx; obtain ⟨hb, c4, v0, v1⟩ := HC.out _ hSx; go_simp; try with_reducible rfl)
 try simp only [sx]
 refine takeH (i := 8) (v := ?vr8) ?hyr8 HS ?restr8
 case hyr8 => (intro wx hSx; obtain ⟨hb, c4, v0, v1⟩ := HC.out _ hSx; go_simp; try with_reducible rfl)
 try simp only [sx]
 refine held_one (i := 9) (by kernel_rfl) rfl rfl (fun K hK => ?_)
 go_simp
 have HSa : Ext W (y0.alloc (.cells #[.string ⟨#[]⟩, .int .i64 0] 60)) := HS.alloc _
 have HG0 : W.heap.size ≤ y0.heap.size := HS.size
 try go_simp
 refine hK.out _ _ ⟨HSa, ?_⟩
 clear hK K
 try simp only [sx]
 refine held_one (i := 10) (by kernel_rfl) rfl rfl (fun K hK => ?_)
 go_simp
 have HSc : Ext W (y0.alloc (.cells #[.string (pvl s.ps R), .int .i64 (pva s.ps R)] 60)) := HS.alloc _
 have HP : Hid (∀ wx, Ext (y0.alloc (.cells #[.string (pvl s.ps R), .int .i64 (pva s.ps R)] 60)) wx → wx.cell? ⟨y0.heap.size, 0, none⟩ = some (.string (pvl s.ps R)) ∧ wx.cell? ⟨y0.heap.size, 1, none⟩ = some (.int .i64 (pva s.ps R)) ∧ y0.heap.size < wx.heap.size) := fun wx hx => ⟨later hx (by rw [World.cell?_alloc_at _ _ _ _ rfl]; rfl), later hx (by rw [World.cell?_alloc_at _ _ _ _ rfl]; rfl), Nat.lt_of_lt_of_le (by simp) hx.size⟩
 generalize y0.alloc (.cells #[.string (pvl s.ps R), .int .i64 (pva s.ps R)] 60) = y1 at *
 generalize y0.heap.size = g at *
 try go_simp
 refine hK.out _ _ ⟨HSc, ?_⟩
 clear hK K
 try simp only [sx]
 refine wpAnyH_done (by kernel_rfl) ?_ _
 refine NoPanic.normal ?_
 have HR : Hid (Run w0 F0 b c d p s out y1) := HR0.out.ext HSc
 obtain ⟨p0, p1, pl⟩ := HP.out _ (Ext.refl y1)
 obtain ⟨hb, _, _, _, c4, c5, c6, c7, _⟩ := HR.out.at
 clear HSc HS HG0 HSa
 go_wp2_with fail
 have HRq : Hid (∀ q, Run w0 F0 b c d p s out (y1.drewN q)) := fun q => HR.out.ext ((Ext.refl y1).drewN q)
 go_quiet (fail)
 go_wp2_with fail
 refine (prevote_any (emp) HZ.out HL.out (HRq.out _)).mono ?_
 rintro e y3 ⟨rfl, HR3⟩
 have HR3 : Hid _ := HR3
 go_wp2_with fail
 refine bodyPost_ret (v := .bool true) (by simp [results, Try.results45, go_sem]) rfl ?_
 unfold RuleP
 rw [HN.out]
 exact ⟨rfl, HR3.out⟩
set_option maxHeartbeats 4000000 in
theorem answer_pos_le {w0 W : World} {F0 : Nat → Prop} {b c d : Nat} {p : Pm} {s : Ag} {out : List Vt} {R : Nat} (hR : s.rd = (R : Int)) (h6 : R < 64) (hd : s.dn = false) (hp : okP p) (hi : InvA p s) (ha : 0 ≤ pva s.ps R) (ha6 : pva s.ps R < 64) (hm : isA p s.vs 2 (pva s.ps R) (pvl s.ps R) = true) (hs : s.st = 1) (hz : (pvl s.ps R).size ≠ 0) (hz2 : (pvl s.ps R).size ≤ 4096) (hl : out.length ≤ 9000) (hc : s.lr ≤ pva s.ps R) (hn : r3 p s = some (voteA p s 2 (pvl s.ps R))) (h : Run w0 F0 b c d p s out W) : Calls Try.prog 45 #[.pointer (some ⟨b, 0, none⟩)] W fun e w' => RuleP (r3 p s) w0 F0 b c d p s out e w' := by
 have HR0 : Hid (Run w0 F0 b c d p s out W) := h
 have HC : Hid (∀ wx, Ext W wx → b < wx.heap.size ∧ wx.cell? ⟨b, 4, none⟩ = some (.int .i64 (R : Int)) ∧ wx.cell? ⟨b, 10 + R * 2, none⟩ = some (.string (pvl s.ps R)) ∧ wx.cell? ⟨b, 10 + R * 2 + 1, none⟩ = some (.int .i64 (pva s.ps R))) := fun wx hx => by
  have q := HR0.out.ext hx
  obtain ⟨hb, _, _, _, c4, _⟩ := q.at
  obtain ⟨v0, v1⟩ := q.prop hd h6
  exact ⟨hb, by rw [← hR]; exact c4, v0, v1⟩
 have r0 : (0 : Int) ≤ (R : Int) := by omega
 have r6 : (R : Int) < 64 := by omega
 clear h
 have e1 : (s.st != 1) = false := by simp [hs]
 have q4 := isEmpty_some hz
 have q5 := toList_some hz
 have dc : decide (s.lr ≤ pva s.ps R) = true := decide_eq_true hc
 have HN : Hid (r3 p s = some (voteA p s 2 (pvl s.ps R))) := hn
 have HL : Hid (out.length ≤ 10000) := Nat.le_trans hl (by decide)
 have u0 := hz2
 clear u0
 have HZ : Hid ((pvl s.ps R : ByteArray).size ≤ 4096) := hz2
 have HM : Hid (∀ wx, Run w0 F0 b c d p s out wx → Calls Try.prog 56 #[.pointer (some ⟨b, 0, none⟩), .int .i64 2, .int .i64 (pva s.ps R), .string (pvl s.ps R)] wx fun e w' => e = .returned (.bool true) ∧ Ext wx w') := fun wx hw => by rw [← hm]; exact hw.most hp hi hd _ wf2 (WalkArith.wf_i64 (by omega))
 have d0 : decide ((0 : Int) ≤ pva s.ps R) = true := decide_eq_true ha
 clear hs hd hR h6 hz hz2 hn ha ha6 hm hp hi hc hl
 go_enter Try.func45, Try.ntmps45
 go_wp2_with fail
 refine wp_region_noPanic ?_
 refine wp_region_held (S := Ext W) (by kernel_rfl) ?_
 rw [show ({ W with drawn := W.drawn + 1 } : World) = W.drew from rfl]
 have HS : Ext W W.drew := (Ext.refl W).drew
 generalize W.drew = y0 at *
 refine takeH (i := 0) (v := ?vr0) ?hyr0 HS ?restr0
 case hyr0 => (intro wx hSx; obtain ⟨hb, c4, v0, v1⟩ := HC.out _ hSx; go_simp; try with_reducible rfl)
 try simp only [sx]
 refine takeH (i := 1) (v := ?vr1) ?hyr1 HS ?restr1
 case hyr1 => (intro wx hSx; obtain ⟨hb, c4, v0, v1⟩ := HC.out _ hSx; go_simp; try with_reducible rfl)
 try simp only [sx]
 refine takeH (i := 2) (v := ?vr2) ?hyr2 HS ?restr2
 case hyr2 => (intro wx hSx; obtain ⟨hb, c4, v0, v1⟩ := HC.out _ hSx; go_simp; try with_reducible rfl)
 try simp only [sx]
 refine takeH (i := 3) (v := ?vr3) ?hyr3 HS ?restr3
 case hyr3 => (intro wx hSx; obtain ⟨hb, c4, v0, v1⟩ := HC.out _ hSx; go_simp; try with_reducible rfl)
 try simp only [sx]
 refine takeH (i := 4) (v := ?vr4) ?hyr4 HS ?restr4
 case hyr4 => (intro wx hSx; obtain ⟨hb, c4, v0, v1⟩ := HC.out _ hSx; go_simp; try with_reducible rfl)
 try simp only [sx]
 refine takeH (i := 5) (v := ?vr5) ?hyr5 HS ?restr5
 case hyr5 => (intro wx hSx; obtain ⟨hb, c4, v0, v1⟩ := HC.out _ hSx; go_simp; try with_reducible rfl)
 try simp only [sx]
 refine takeH (i := 6) (v := ?vr6) ?hyr6 HS ?restr6
 case hyr6 => (intro wx hSx; obtain ⟨hb, c4, v0, v1⟩ := HC.out _ hSx; go_simp; try with_reducible rfl)
 try simp only [sx]
 refine takeH (i := 7) (v := ?vr7) ?hyr7 HS ?restr7
 case hyr7 => (intro wx hSx; obtain ⟨hb, c4, v0, v1⟩ := HC.out _ hSx; go_simp; try with_reducible rfl)
 try simp only [sx]
 refine takeH (i := 8) (v := ?vr8) ?hyr8 HS ?restr8
 case hyr8 => (intro wx hSx; obtain ⟨hb, c4, v0, v1⟩ := HC.out _ hSx; go_simp; try with_reducible rfl)
 try simp only [sx]
 refine held_one (i := 9) (by kernel_rfl) rfl rfl (fun K hK => ?_)
 go_simp
 have HSa : Ext W (y0.alloc (.cells #[.string ⟨#[]⟩, .int .i64 0] 60)) := HS.alloc _
 have HG0 : W.heap.size ≤ y0.heap.size := HS.size
 try go_simp
 refine hK.out _ _ ⟨HSa, ?_⟩
 clear hK K
 try simp only [sx]
 refine held_one (i := 10) (by kernel_rfl) rfl rfl (fun K hK => ?_)
 go_simp
 have HSc : Ext W (y0.alloc (.cells #[.string (pvl s.ps R), .int .i64 (pva s.ps R)] 60)) := HS.alloc _
 have HP : Hid (∀ wx, Ext (y0.alloc (.cells #[.string (pvl s.ps R), .int .i64 (pva s.ps R)] 60)) wx → wx.cell? ⟨y0.heap.size, 0, none⟩ = some (.string (pvl s.ps R)) ∧ wx.cell? ⟨y0.heap.size, 1, none⟩ = some (.int .i64 (pva s.ps R)) ∧ y0.heap.size < wx.heap.size) := fun wx hx => ⟨later hx (by rw [World.cell?_alloc_at _ _ _ _ rfl]; rfl), later hx (by rw [World.cell?_alloc_at _ _ _ _ rfl]; rfl), Nat.lt_of_lt_of_le (by simp) hx.size⟩
 generalize y0.alloc (.cells #[.string (pvl s.ps R), .int .i64 (pva s.ps R)] 60) = y1 at *
 generalize y0.heap.size = g at *
 try go_simp
 refine hK.out _ _ ⟨HSc, ?_⟩
 clear hK K
 try simp only [sx]
 refine wpAnyH_done (by kernel_rfl) ?_ _
 refine NoPanic.normal ?_
 have HR : Hid (Run w0 F0 b c d p s out y1) := HR0.out.ext HSc
 obtain ⟨p0, p1, pl⟩ := HP.out _ (Ext.refl y1)
 obtain ⟨hb, _, _, _, c4, c5, c6, c7, _⟩ := HR.out.at
 clear HSc HS HG0 HSa
 go_wp2_with fail
 refine (HM.out _ HR.out).mono ?_
 rintro e y2 ⟨rfl, HX2⟩
 have HR2 : Hid (Run w0 F0 b c d p s out y2) := HR.out.ext HX2
 obtain ⟨p0, p1, pl⟩ := HP.out _ HX2
 obtain ⟨hb, _, _, _, c4, c5, c6, c7, _⟩ := HR2.out.at
 clear HX2 HR
 go_wp2_with fail
 have HRq : Hid (∀ q, Run w0 F0 b c d p s out (y2.drewN q)) := fun q => HR2.out.ext ((Ext.refl y2).drewN q)
 go_quiet (fail)
 go_wp2_with fail
 refine (prevote_any (pvl s.ps R) HZ.out HL.out (HRq.out _)).mono ?_
 rintro e y3 ⟨rfl, HR3⟩
 have HR3 : Hid _ := HR3
 go_wp2_with fail
 refine bodyPost_ret (v := .bool true) (by simp [results, Try.results45, go_sem]) rfl ?_
 unfold RuleP
 rw [HN.out]
 exact ⟨rfl, HR3.out⟩
set_option maxHeartbeats 4000000 in
theorem answer_pos_eq {w0 W : World} {F0 : Nat → Prop} {b c d : Nat} {p : Pm} {s : Ag} {out : List Vt} {R : Nat} (hR : s.rd = (R : Int)) (h6 : R < 64) (hd : s.dn = false) (hp : okP p) (hi : InvA p s) (ha : 0 ≤ pva s.ps R) (ha6 : pva s.ps R < 64) (hm : isA p s.vs 2 (pva s.ps R) (pvl s.ps R) = true) (hs : s.st = 1) (hz : (pvl s.ps R).size ≠ 0) (hz2 : (pvl s.ps R).size ≤ 4096) (hl : out.length ≤ 9000) (hc : ¬ s.lr ≤ pva s.ps R) (he : s.lk = pvl s.ps R) (hn : r3 p s = some (voteA p s 2 (pvl s.ps R))) (h : Run w0 F0 b c d p s out W) : Calls Try.prog 45 #[.pointer (some ⟨b, 0, none⟩)] W fun e w' => RuleP (r3 p s) w0 F0 b c d p s out e w' := by
 have HR0 : Hid (Run w0 F0 b c d p s out W) := h
 have HC : Hid (∀ wx, Ext W wx → b < wx.heap.size ∧ wx.cell? ⟨b, 4, none⟩ = some (.int .i64 (R : Int)) ∧ wx.cell? ⟨b, 10 + R * 2, none⟩ = some (.string (pvl s.ps R)) ∧ wx.cell? ⟨b, 10 + R * 2 + 1, none⟩ = some (.int .i64 (pva s.ps R))) := fun wx hx => by
  have q := HR0.out.ext hx
  obtain ⟨hb, _, _, _, c4, _⟩ := q.at
  obtain ⟨v0, v1⟩ := q.prop hd h6
  exact ⟨hb, by rw [← hR]; exact c4, v0, v1⟩
 have r0 : (0 : Int) ≤ (R : Int) := by omega
 have r6 : (R : Int) < 64 := by omega
 clear h
 have e1 : (s.st != 1) = false := by simp [hs]
 have q4 := isEmpty_some hz
 have q5 := toList_some hz
 have dc : decide (s.lr ≤ pva s.ps R) = false := decide_eq_false hc
 have de := toList_same he
 have HN : Hid (r3 p s = some (voteA p s 2 (pvl s.ps R))) := hn
 have HL : Hid (out.length ≤ 10000) := Nat.le_trans hl (by decide)
 have u0 := hz2
 clear u0
 have HZ : Hid ((pvl s.ps R : ByteArray).size ≤ 4096) := hz2
 have HM : Hid (∀ wx, Run w0 F0 b c d p s out wx → Calls Try.prog 56 #[.pointer (some ⟨b, 0, none⟩), .int .i64 2, .int .i64 (pva s.ps R), .string (pvl s.ps R)] wx fun e w' => e = .returned (.bool true) ∧ Ext wx w') := fun wx hw => by rw [← hm]; exact hw.most hp hi hd _ wf2 (WalkArith.wf_i64 (by omega))
 have d0 : decide ((0 : Int) ≤ pva s.ps R) = true := decide_eq_true ha
 clear hs hd hR h6 hz hz2 hn ha ha6 hm hp hi hc hl he
 go_enter Try.func45, Try.ntmps45
 go_wp2_with fail
 refine wp_region_noPanic ?_
 refine wp_region_held (S := Ext W) (by kernel_rfl) ?_
 rw [show ({ W with drawn := W.drawn + 1 } : World) = W.drew from rfl]
 have HS : Ext W W.drew := (Ext.refl W).drew
 generalize W.drew = y0 at *
 refine takeH (i := 0) (v := ?vr0) ?hyr0 HS ?restr0
 case hyr0 => (intro wx hSx; obtain ⟨hb, c4, v0, v1⟩ := HC.out _ hSx; go_simp; try with_reducible rfl)
 try simp only [sx]
 refine takeH (i := 1) (v := ?vr1) ?hyr1 HS ?restr1
 case hyr1 => (intro wx hSx; obtain ⟨hb, c4, v0, v1⟩ := HC.out _ hSx; go_simp; try with_reducible rfl)
 try simp only [sx]
 refine takeH (i := 2) (v := ?vr2) ?hyr2 HS ?restr2
 case hyr2 => (intro wx hSx; obtain ⟨hb, c4, v0, v1⟩ := HC.out _ hSx; go_simp; try with_reducible rfl)
 try simp only [sx]
 refine takeH (i := 3) (v := ?vr3) ?hyr3 HS ?restr3
 case hyr3 => (intro wx hSx; obtain ⟨hb, c4, v0, v1⟩ := HC.out _ hSx; go_simp; try with_reducible rfl)
 try simp only [sx]
 refine takeH (i := 4) (v := ?vr4) ?hyr4 HS ?restr4
 case hyr4 => (intro wx hSx; obtain ⟨hb, c4, v0, v1⟩ := HC.out _ hSx; go_simp; try with_reducible rfl)
 try simp only [sx]
 refine takeH (i := 5) (v := ?vr5) ?hyr5 HS ?restr5
 case hyr5 => (intro wx hSx; obtain ⟨hb, c4, v0, v1⟩ := HC.out _ hSx; go_simp; try with_reducible rfl)
 try simp only [sx]
 refine takeH (i := 6) (v := ?vr6) ?hyr6 HS ?restr6
 case hyr6 => (intro wx hSx; obtain ⟨hb, c4, v0, v1⟩ := HC.out _ hSx; go_simp; try with_reducible rfl)
 try simp only [sx]
 refine takeH (i := 7) (v := ?vr7) ?hyr7 HS ?restr7
 case hyr7 => (intro wx hSx; obtain ⟨hb, c4, v0, v1⟩ := HC.out _ hSx; go_simp; try with_reducible rfl)
 try simp only [sx]
 refine takeH (i := 8) (v := ?vr8) ?hyr8 HS ?restr8
 case hyr8 => (intro wx hSx; obtain ⟨hb, c4, v0, v1⟩ := HC.out _ hSx; go_simp; try with_reducible rfl)
 try simp only [sx]
 refine held_one (i := 9) (by kernel_rfl) rfl rfl (fun K hK => ?_)
 go_simp
 have HSa : Ext W (y0.alloc (.cells #[.string ⟨#[]⟩, .int .i64 0] 60)) := HS.alloc _
 have HG0 : W.heap.size ≤ y0.heap.size := HS.size
 try go_simp
 refine hK.out _ _ ⟨HSa, ?_⟩
 clear hK K
 try simp only [sx]
 refine held_one (i := 10) (by kernel_rfl) rfl rfl (fun K hK => ?_)
 go_simp
 have HSc : Ext W (y0.alloc (.cells #[.string (pvl s.ps R), .int .i64 (pva s.ps R)] 60)) := HS.alloc _
 have HP : Hid (∀ wx, Ext (y0.alloc (.cells #[.string (pvl s.ps R), .int .i64 (pva s.ps R)] 60)) wx → wx.cell? ⟨y0.heap.size, 0, none⟩ = some (.string (pvl s.ps R)) ∧ wx.cell? ⟨y0.heap.size, 1, none⟩ = some (.int .i64 (pva s.ps R)) ∧ y0.heap.size < wx.heap.size) := fun wx hx => ⟨later hx (by rw [World.cell?_alloc_at _ _ _ _ rfl]; rfl), later hx (by rw [World.cell?_alloc_at _ _ _ _ rfl]; rfl), Nat.lt_of_lt_of_le (by simp) hx.size⟩
 generalize y0.alloc (.cells #[.string (pvl s.ps R), .int .i64 (pva s.ps R)] 60) = y1 at *
 generalize y0.heap.size = g at *
 try go_simp
 refine hK.out _ _ ⟨HSc, ?_⟩
 clear hK K
 try simp only [sx]
 refine wpAnyH_done (by kernel_rfl) ?_ _
 refine NoPanic.normal ?_
 have HR : Hid (Run w0 F0 b c d p s out y1) := HR0.out.ext HSc
 obtain ⟨p0, p1, pl⟩ := HP.out _ (Ext.refl y1)
 obtain ⟨hb, _, _, _, c4, c5, c6, c7, _⟩ := HR.out.at
 clear HSc HS HG0 HSa
 go_wp2_with fail
 refine (HM.out _ HR.out).mono ?_
 rintro e y2 ⟨rfl, HX2⟩
 have HR2 : Hid (Run w0 F0 b c d p s out y2) := HR.out.ext HX2
 obtain ⟨p0, p1, pl⟩ := HP.out _ HX2
 obtain ⟨hb, _, _, _, c4, c5, c6, c7, _⟩ := HR2.out.at
 clear HX2 HR
 go_wp2_with fail
 have HRq : Hid (∀ q, Run w0 F0 b c d p s out (y2.drewN q)) := fun q => HR2.out.ext ((Ext.refl y2).drewN q)
 go_quiet (fail)
 go_wp2_with fail
 refine (prevote_any (pvl s.ps R) HZ.out HL.out (HRq.out _)).mono ?_
 rintro e y3 ⟨rfl, HR3⟩
 have HR3 : Hid _ := HR3
 go_wp2_with fail
 refine bodyPost_ret (v := .bool true) (by simp [results, Try.results45, go_sem]) rfl ?_
 unfold RuleP
 rw [HN.out]
 exact ⟨rfl, HR3.out⟩
set_option maxHeartbeats 4000000 in
theorem answer_pos_ne {w0 W : World} {F0 : Nat → Prop} {b c d : Nat} {p : Pm} {s : Ag} {out : List Vt} {R : Nat} (hR : s.rd = (R : Int)) (h6 : R < 64) (hd : s.dn = false) (hp : okP p) (hi : InvA p s) (ha : 0 ≤ pva s.ps R) (ha6 : pva s.ps R < 64) (hm : isA p s.vs 2 (pva s.ps R) (pvl s.ps R) = true) (hs : s.st = 1) (hz : (pvl s.ps R).size ≠ 0) (hz2 : (pvl s.ps R).size ≤ 4096) (hl : out.length ≤ 9000) (hc : ¬ s.lr ≤ pva s.ps R) (he : ¬ s.lk = pvl s.ps R) (hn : r3 p s = some (voteA p s 2 (emp))) (h : Run w0 F0 b c d p s out W) : Calls Try.prog 45 #[.pointer (some ⟨b, 0, none⟩)] W fun e w' => RuleP (r3 p s) w0 F0 b c d p s out e w' := by
 have HR0 : Hid (Run w0 F0 b c d p s out W) := h
 have HC : Hid (∀ wx, Ext W wx → b < wx.heap.size ∧ wx.cell? ⟨b, 4, none⟩ = some (.int .i64 (R : Int)) ∧ wx.cell? ⟨b, 10 + R * 2, none⟩ = some (.string (pvl s.ps R)) ∧ wx.cell? ⟨b, 10 + R * 2 + 1, none⟩ = some (.int .i64 (pva s.ps R))) := fun wx hx => by
  have q := HR0.out.ext hx
  obtain ⟨hb, _, _, _, c4, _⟩ := q.at
  obtain ⟨v0, v1⟩ := q.prop hd h6
  exact ⟨hb, by rw [← hR]; exact c4, v0, v1⟩
 have r0 : (0 : Int) ≤ (R : Int) := by omega
 have r6 : (R : Int) < 64 := by omega
 clear h
 have e1 : (s.st != 1) = false := by simp [hs]
 have q4 := isEmpty_some hz
 have q5 := toList_some hz
 have dc : decide (s.lr ≤ pva s.ps R) = false := decide_eq_false hc
 have de := toList_ne he
 have HN : Hid (r3 p s = some (voteA p s 2 (emp))) := hn
 have HL : Hid (out.length ≤ 10000) := Nat.le_trans hl (by decide)
 have u0 := hz2
 clear u0
 have HZ : Hid ((emp : ByteArray).size ≤ 4096) := (by decide : (emp : ByteArray).size ≤ 4096)
 have HM : Hid (∀ wx, Run w0 F0 b c d p s out wx → Calls Try.prog 56 #[.pointer (some ⟨b, 0, none⟩), .int .i64 2, .int .i64 (pva s.ps R), .string (pvl s.ps R)] wx fun e w' => e = .returned (.bool true) ∧ Ext wx w') := fun wx hw => by rw [← hm]; exact hw.most hp hi hd _ wf2 (WalkArith.wf_i64 (by omega))
 have d0 : decide ((0 : Int) ≤ pva s.ps R) = true := decide_eq_true ha
 clear hs hd hR h6 hz hz2 hn ha ha6 hm hp hi hc hl he
 go_enter Try.func45, Try.ntmps45
 go_wp2_with fail
 refine wp_region_noPanic ?_
 refine wp_region_held (S := Ext W) (by kernel_rfl) ?_
 rw [show ({ W with drawn := W.drawn + 1 } : World) = W.drew from rfl]
 have HS : Ext W W.drew := (Ext.refl W).drew
 generalize W.drew = y0 at *
 refine takeH (i := 0) (v := ?vr0) ?hyr0 HS ?restr0
 case hyr0 => (intro wx hSx; obtain ⟨hb, c4, v0, v1⟩ := HC.out _ hSx; go_simp; try with_reducible rfl)
 try simp only [sx]
 refine takeH (i := 1) (v := ?vr1) ?hyr1 HS ?restr1
 case hyr1 => (intro wx hSx; obtain ⟨hb, c4, v0, v1⟩ := HC.out _ hSx; go_simp; try with_reducible rfl)
 try simp only [sx]
 refine takeH (i := 2) (v := ?vr2) ?hyr2 HS ?restr2
 case hyr2 => (intro wx hSx; obtain ⟨hb, c4, v0, v1⟩ := HC.out _ hSx; go_simp; try with_reducible rfl)
 try simp only [sx]
 refine takeH (i := 3) (v := ?vr3) ?hyr3 HS ?restr3
 case hyr3 => (intro wx hSx; obtain ⟨hb, c4, v0, v1⟩ := HC.out _ hSx; go_simp; try with_reducible rfl)
 try simp only [sx]
 refine takeH (i := 4) (v := ?vr4) ?hyr4 HS ?restr4
 case hyr4 => (intro wx hSx; obtain ⟨hb, c4, v0, v1⟩ := HC.out _ hSx; go_simp; try with_reducible rfl)
 try simp only [sx]
 refine takeH (i := 5) (v := ?vr5) ?hyr5 HS ?restr5
 case hyr5 => (intro wx hSx; obtain ⟨hb, c4, v0, v1⟩ := HC.out _ hSx; go_simp; try with_reducible rfl)
 try simp only [sx]
 refine takeH (i := 6) (v := ?vr6) ?hyr6 HS ?restr6
 case hyr6 => (intro wx hSx; obtain ⟨hb, c4, v0, v1⟩ := HC.out _ hSx; go_simp; try with_reducible rfl)
 try simp only [sx]
 refine takeH (i := 7) (v := ?vr7) ?hyr7 HS ?restr7
 case hyr7 => (intro wx hSx; obtain ⟨hb, c4, v0, v1⟩ := HC.out _ hSx; go_simp; try with_reducible rfl)
 try simp only [sx]
 refine takeH (i := 8) (v := ?vr8) ?hyr8 HS ?restr8
 case hyr8 => (intro wx hSx; obtain ⟨hb, c4, v0, v1⟩ := HC.out _ hSx; go_simp; try with_reducible rfl)
 try simp only [sx]
 refine held_one (i := 9) (by kernel_rfl) rfl rfl (fun K hK => ?_)
 go_simp
 have HSa : Ext W (y0.alloc (.cells #[.string ⟨#[]⟩, .int .i64 0] 60)) := HS.alloc _
 have HG0 : W.heap.size ≤ y0.heap.size := HS.size
 try go_simp
 refine hK.out _ _ ⟨HSa, ?_⟩
 clear hK K
 try simp only [sx]
 refine held_one (i := 10) (by kernel_rfl) rfl rfl (fun K hK => ?_)
 go_simp
 have HSc : Ext W (y0.alloc (.cells #[.string (pvl s.ps R), .int .i64 (pva s.ps R)] 60)) := HS.alloc _
 have HP : Hid (∀ wx, Ext (y0.alloc (.cells #[.string (pvl s.ps R), .int .i64 (pva s.ps R)] 60)) wx → wx.cell? ⟨y0.heap.size, 0, none⟩ = some (.string (pvl s.ps R)) ∧ wx.cell? ⟨y0.heap.size, 1, none⟩ = some (.int .i64 (pva s.ps R)) ∧ y0.heap.size < wx.heap.size) := fun wx hx => ⟨later hx (by rw [World.cell?_alloc_at _ _ _ _ rfl]; rfl), later hx (by rw [World.cell?_alloc_at _ _ _ _ rfl]; rfl), Nat.lt_of_lt_of_le (by simp) hx.size⟩
 generalize y0.alloc (.cells #[.string (pvl s.ps R), .int .i64 (pva s.ps R)] 60) = y1 at *
 generalize y0.heap.size = g at *
 try go_simp
 refine hK.out _ _ ⟨HSc, ?_⟩
 clear hK K
 try simp only [sx]
 refine wpAnyH_done (by kernel_rfl) ?_ _
 refine NoPanic.normal ?_
 have HR : Hid (Run w0 F0 b c d p s out y1) := HR0.out.ext HSc
 obtain ⟨p0, p1, pl⟩ := HP.out _ (Ext.refl y1)
 obtain ⟨hb, _, _, _, c4, c5, c6, c7, _⟩ := HR.out.at
 clear HSc HS HG0 HSa
 go_wp2_with fail
 refine (HM.out _ HR.out).mono ?_
 rintro e y2 ⟨rfl, HX2⟩
 have HR2 : Hid (Run w0 F0 b c d p s out y2) := HR.out.ext HX2
 obtain ⟨p0, p1, pl⟩ := HP.out _ HX2
 obtain ⟨hb, _, _, _, c4, c5, c6, c7, _⟩ := HR2.out.at
 clear HX2 HR
 go_wp2_with fail
 have HRq : Hid (∀ q, Run w0 F0 b c d p s out (y2.drewN q)) := fun q => HR2.out.ext ((Ext.refl y2).drewN q)
 go_quiet (fail)
 go_wp2_with fail
 refine (prevote_any (emp) HZ.out HL.out (HRq.out _)).mono ?_
 rintro e y3 ⟨rfl, HR3⟩
 have HR3 : Hid _ := HR3
 go_wp2_with fail
 refine bodyPost_ret (v := .bool true) (by simp [results, Try.results45, go_sem]) rfl ?_
 unfold RuleP
 rw [HN.out]
 exact ⟨rfl, HR3.out⟩
theorem answer_any {w0 W : World} {F0 : Nat → Prop} {b c d : Nat} {p : Pm} {s : Ag} {out : List Vt} (hp : okP p) (hi : InvA p s) (h0 : 0 ≤ s.rd) (hd : s.dn = false) (hl : out.length ≤ 9000) (h : Run w0 F0 b c d p s out W) : Calls Try.prog 45 #[.pointer (some ⟨b, 0, none⟩)] W fun e w' => RuleP (r3 p s) w0 F0 b c d p s out e w' := by
 obtain ⟨R, hR⟩ : ∃ R : Nat, s.rd = (R : Int) := ⟨s.rd.toNat, by omega⟩
 have h6 : R < 64 := by have := hi.rd; omega
 by_cases hs : s.st = 1
 ·cases hq : propA s.ps s.rd with
  | none =>
   have e : pvl s.ps R = emp := by unfold pvl; rw [← hR, hq]
   refine answer_no hR h6 hd hs (by rw [e]; rfl) ?_ h
   unfold r3
   rw [hq]
  | some m =>
   have e1 : pvl s.ps R = m.vl := by unfold pvl; rw [← hR, hq]
   have e2 : pva s.ps R = m.va := by unfold pva; rw [← hR, hq]
   obtain ⟨_, a1, a2, z1, z2⟩ := prop_wf hi hq
   have hlr := hi.lr
   have h3 : r3 p s = if s.st = 1 ∧ (m.va < 0 ∨ isA p s.vs 2 m.va m.vl = true) then some (voteA p s 2 (if s.lr < 0 ∨ s.lk = m.vl ∨ (0 ≤ m.va ∧ s.lr ≤ m.va) then m.vl else emp)) else none := by unfold r3; rw [hq]
   rw [← e1, ← e2] at h3
   rw [← e1] at z1 z2
   rw [← e2] at a1 a2
   clear e1 e2 hq
   by_cases ha : pva s.ps R < 0
   ·rw [if_pos ⟨hs, .inl ha⟩] at h3
    by_cases hc : s.lr ≤ pva s.ps R
    ·exact answer_neg_le hR h6 hd ha hs z1 z2 hl hc (by rw [h3, if_pos (.inl (by omega))]) h
    ·by_cases he : s.lk = pvl s.ps R
     ·exact answer_neg_eq hR h6 hd ha hs z1 z2 hl hc he (by rw [h3, if_pos (.inr (.inl he))]) h
     ·exact answer_neg_ne hR h6 hd ha hs z1 z2 hl hc he (by rw [h3, if_neg (by rintro (q | q | q); omega; exact he q; omega)]) h
   ·cases hm : isA p s.vs 2 (pva s.ps R) (pvl s.ps R) with
    | false => exact answer_not hR h6 hd hp hi hs z1 (by omega) (by omega) hm (by rw [h3, if_neg (by rw [hm]; rintro ⟨_, q | q⟩; exact ha q; cases q)]) h
    | true =>
     rw [if_pos ⟨hs, .inr hm⟩] at h3
     by_cases hc : s.lr ≤ pva s.ps R
     ·exact answer_pos_le hR h6 hd hp hi (by omega) (by omega) hm hs z1 z2 hl hc (by rw [h3, if_pos (.inr (.inr ⟨by omega, hc⟩))]) h
     ·by_cases he : s.lk = pvl s.ps R
      ·exact answer_pos_eq hR h6 hd hp hi (by omega) (by omega) hm hs z1 z2 hl hc he (by rw [h3, if_pos (.inr (.inl he))]) h
      ·exact answer_pos_ne hR h6 hd hp hi (by omega) (by omega) hm hs z1 z2 hl hc he (by rw [h3, if_neg (by rintro (q | q | q); omega; exact he q; exact hc q.2)]) h
 ·exact answer_st hR h6 hd hs h
end Go.Proofs.Ytmanacbdldfmfaa
