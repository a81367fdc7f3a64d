/-
 choose (rule 5), called.
-/
import Derived.Test.YtmanacbdldfmfaaAg
namespace Go.Proofs.Ytmanacbdldfmfaa
open Go.RowKit
set_option maxRecDepth 10000
set_option maxHeartbeats 4000000 in
theorem choose_st {w0 W : World} {F0 : Nat → Prop} {b c d : Nat} {p : Pm} {s : Ag} {out : List Vt} {R : Nat} (hR : s.rd = (R : Int)) (h6 : R < 64) (hd : s.dn = false) (hs : s.st = 1) (hn : r5 p s = none) (h : Run w0 F0 b c d p s out W) : Calls Try.prog 46 #[.pointer (some ⟨b, 0, none⟩)] W fun e w' => RuleP (r5 p s) w0 F0 b c d p s out e w' := by
 have HR0 : Hid (Run w0 F0 b c d p s out W) := h
 have HC : Hid (∀ wx, Ext W wx → b < wx.heap.size ∧ wx.cell? ⟨b, 4, none⟩ = some (.int .i64 (R : Int)) ∧ wx.cell? ⟨b, 10 + R * 2, none⟩ = some (.string (pvl s.ps R)) ∧ wx.cell? ⟨b, 10 + R * 2 + 1, none⟩ = some (.int .i64 (pva s.ps R))) := fun wx hx => by
  have q := HR0.out.ext hx
  obtain ⟨hb, _, _, _, c4, _⟩ := q.at
  obtain ⟨v0, v1⟩ := q.prop hd h6
  exact ⟨hb, by rw [← hR]; exact c4, v0, v1⟩
 have r0 : (0 : Int) ≤ (R : Int) := by omega
 have r6 : (R : Int) < 64 := by omega
 clear h
 have HD : Hid (s.dn = false) := hd
 have HRR : Hid (s.rd = (R : Int)) := hR
 have HN : Hid (r5 p s = none) := hn
 have e1 : (s.st == 1) = true := by simp [hs]
 clear hs hd hR h6 hn
 go_enter Try.func46, Try.ntmps46
 go_wp2_with fail
 refine wp_region_noPanic ?_
 refine wp_region_held (S := Ext W) (by kernel_rfl) ?_
 rw [show ({ W with drawn := W.drawn + 1 } : World) = W.drew from rfl]
 have HS : Ext W W.drew := (Ext.refl W).drew
 generalize W.drew = y0 at *
 refine takeH (i := 0) (v := ?vr0) ?hyr0 HS ?restr0
 case hyr0 => (intro wx hSx; obtain ⟨hb, c4, v0, v1⟩ := HC.out _ hSx; go_simp; try with_reducible rfl)
 try simp only [sx]
 refine takeH (i := 1) (v := ?vr1) ?hyr1 HS ?restr1
 case hyr1 => (intro wx hSx; obtain ⟨hb, c4, v0, v1⟩ := HC.out _ hSx; go_simp; try with_reducible rfl)
 try simp only [sx]
 refine takeH (i := 2) (v := ?vr2) ?hyr2 HS ?restr2
 case hyr2 => (intro wx hSx; obtain ⟨hb, c4, v0, v1⟩ := HC.out _ hSx; go_simp; try with_reducible rfl)
 try simp only [sx]
 refine takeH (i := 3) (v := ?vr3) ?hyr3 HS ?restr3
 case hyr3 => (intro wx hSx; obtain ⟨hb, c4, v0, v1⟩ := HC.out _ hSx; go_simp; try with_reducible rfl)
 try simp only [sx]
 refine takeH (i := 4) (v := ?vr4) ?hyr4 HS ?restr4
 case hyr4 => (intro wx hSx; obtain ⟨hb, c4, v0, v1⟩ := HC.out _ hSx; go_simp; try with_reducible rfl)
 try simp only [sx]
 refine takeH (i := 5) (v := ?vr5) ?hyr5 HS ?restr5
 case hyr5 => (intro wx hSx; obtain ⟨hb, c4, v0, v1⟩ := HC.out _ hSx; go_simp; try with_reducible rfl)
 try simp only [sx]
 refine takeH (i := 6) (v := ?vr6) ?hyr6 HS ?restr6
 case hyr6 => (intro wx hSx; obtain ⟨hb, c4, v0, v1⟩ := HC.out _ hSx; go_simp; try with_reducible rfl)
 try simp only [sx]
 refine takeH (i := 7) (v := ?vr7) ?hyr7 HS ?restr7
 case hyr7 => (intro wx hSx; obtain ⟨hb, c4, v0, v1⟩ := HC.out _ hSx; go_simp; try with_reducible rfl)
 try simp only [sx]
 refine takeH (i := 8) (v := ?vr8) ?hyr8 HS ?restr8
 case hyr8 => (intro wx hSx; obtain ⟨hb, c4, v0, v1⟩ := HC.out _ hSx; go_simp; try with_reducible rfl)
 try simp only [sx]
 refine held_one (i := 9) (by kernel_rfl) rfl rfl (fun K hK => ?_)
 go_simp
 have HSa : Ext W (y0.alloc (.cells #[.string ⟨#[]⟩, .int .i64 0] 60)) := HS.alloc _
 have HG0 : W.heap.size ≤ y0.heap.size := HS.size
 try go_simp
 refine hK.out _ _ ⟨HSa, ?_⟩
 clear hK K
 try simp only [sx]
 refine held_one (i := 10) (by kernel_rfl) rfl rfl (fun K hK => ?_)
 go_simp
 have HSc : Ext W (y0.alloc (.cells #[.string (pvl s.ps R), .int .i64 (pva s.ps R)] 60)) := HS.alloc _
 have HP : Hid (∀ wx, Ext (y0.alloc (.cells #[.string (pvl s.ps R), .int .i64 (pva s.ps R)] 60)) wx → wx.cell? ⟨y0.heap.size, 0, none⟩ = some (.string (pvl s.ps R)) ∧ wx.cell? ⟨y0.heap.size, 1, none⟩ = some (.int .i64 (pva s.ps R)) ∧ y0.heap.size < wx.heap.size) := fun wx hx => ⟨later hx (by rw [World.cell?_alloc_at _ _ _ _ rfl]; rfl), later hx (by rw [World.cell?_alloc_at _ _ _ _ rfl]; rfl), Nat.lt_of_lt_of_le (by simp) hx.size⟩
 generalize y0.alloc (.cells #[.string (pvl s.ps R), .int .i64 (pva s.ps R)] 60) = y1 at *
 generalize y0.heap.size = g at *
 try go_simp
 refine hK.out _ _ ⟨HSc, ?_⟩
 clear hK K
 try simp only [sx]
 refine wpAnyH_done (by kernel_rfl) ?_ _
 refine NoPanic.normal ?_
 have HR : Hid (Run w0 F0 b c d p s out y1) := HR0.out.ext HSc
 have HC2 : Hid (∀ wx, Ext y1 wx → b < wx.heap.size ∧ wx.cell? ⟨b, 4, none⟩ = some (.int .i64 (R : Int)) ∧ wx.cell? ⟨b, 5, none⟩ = some (.int .i64 s.st) ∧ wx.cell? ⟨b, 9, none⟩ = some (.int .i64 s.vr) ∧ wx.cell? ⟨g, 0, none⟩ = some (.string (pvl s.ps R)) ∧ wx.cell? ⟨g, 1, none⟩ = some (.int .i64 (pva s.ps R)) ∧ g < wx.heap.size) := fun wx hx => by
  have q := HR.out.ext hx
  obtain ⟨hb, _, _, _, c4, c5, _⟩ := q.at
  obtain ⟨_, _, c9⟩ := q.live HD.out
  exact ⟨hb, by rw [← HRR.out]; exact c4, c5, c9, HP.out wx hx⟩
 clear HSc HS HG0 HSa
 go_wp2_with fail
 refine wp_region_noPanic ?_
 refine wp_region_held (S := Ext y1) (by kernel_rfl) ?_
 rw [show ({ y1 with drawn := y1.drawn + 1 } : World) = y1.drew from rfl]
 have HT : Ext y1 y1.drew := (Ext.refl y1).drew
 generalize y1.drew = y2 at *
 refine takeH (i := 0) (v := ?vm0) ?hym0 HT ?restm0
 case hym0 => (intro wx hSx; obtain ⟨hb, c4, c5, c9, p0, p1, pl⟩ := HC2.out _ hSx; go_simp; try with_reducible rfl)
 try simp only [sx]
 refine takeH (i := 1) (v := ?vm1) ?hym1 HT ?restm1
 case hym1 => (intro wx hSx; obtain ⟨hb, c4, c5, c9, p0, p1, pl⟩ := HC2.out _ hSx; go_simp; try with_reducible rfl)
 try simp only [sx]
 refine takeH (i := 2) (v := ?vm2) ?hym2 HT ?restm2
 case hym2 => (intro wx hSx; obtain ⟨hb, c4, c5, c9, p0, p1, pl⟩ := HC2.out _ hSx; go_simp; try with_reducible rfl)
 try simp only [sx]
 refine takeH (i := 3) (v := ?vm3) ?hym3 HT ?restm3
 case hym3 => (intro wx hSx; obtain ⟨hb, c4, c5, c9, p0, p1, pl⟩ := HC2.out _ hSx; go_simp; try with_reducible rfl)
 try simp only [sx]
 refine takeH (i := 4) (v := ?vm4) ?hym4 HT ?restm4
 case hym4 => (intro wx hSx; obtain ⟨hb, c4, c5, c9, p0, p1, pl⟩ := HC2.out _ hSx; go_simp; try with_reducible rfl)
 try simp only [sx]
 refine takeH (i := 5) (v := ?vm5) ?hym5 HT ?restm5
 case hym5 => (intro wx hSx; obtain ⟨hb, c4, c5, c9, p0, p1, pl⟩ := HC2.out _ hSx; go_simp; try with_reducible rfl)
 try simp only [sx]
 refine skipH (i := 6) HT ?_
 try simp only [sx]
 refine skipH (i := 7) HT ?_
 try simp only [sx]
 refine skipH (i := 8) HT ?_
 try simp only [sx]
 refine skipH (i := 9) HT ?_
 try simp only [sx]
 refine skipH (i := 10) HT ?_
 try simp only [sx]
 refine skipH (i := 11) HT ?_
 try simp only [sx]
 refine skipH (i := 12) HT ?_
 try simp only [sx]
 refine skipH (i := 13) HT ?_
 try simp only [sx]
 refine skipH (i := 14) HT ?_
 try simp only [sx]
 refine skipH (i := 15) HT ?_
 try simp only [sx]
 refine takeH (i := 16) (v := ?vm16) ?hym16 HT ?restm16
 case hym16 => (intro wx hSx; obtain ⟨hb, c4, c5, c9, p0, p1, pl⟩ := HC2.out _ hSx; go_simp; try with_reducible rfl)
 try simp only [sx]
 refine takeH (i := 17) (v := ?vm17) ?hym17 HT ?restm17
 case hym17 => (intro wx hSx; obtain ⟨hb, c4, c5, c9, p0, p1, pl⟩ := HC2.out _ hSx; go_simp; try with_reducible rfl)
 try simp only [sx]
 refine skipH (i := 18) HT ?_
 try simp only [sx]
 refine skipH (i := 19) HT ?_
 try simp only [sx]
 refine skipH (i := 20) HT ?_
 try simp only [sx]
 refine takeH (i := 21) (v := ?vm21) ?hym21 HT ?restm21
 case hym21 => (intro wx hSx; obtain ⟨hb, c4, c5, c9, p0, p1, pl⟩ := HC2.out _ hSx; go_simp; try with_reducible rfl)
 try simp only [sx]
 refine takeH (i := 22) (v := ?vm22) ?hym22 HT ?restm22
 case hym22 => (intro wx hSx; obtain ⟨hb, c4, c5, c9, p0, p1, pl⟩ := HC2.out _ hSx; go_simp; try with_reducible rfl)
 try simp only [sx]
 refine skipH (i := 23) HT ?_
 try simp only [sx]
 refine skipH (i := 24) HT ?_
 try simp only [sx]
 refine skipH (i := 25) HT ?_
 try simp only [sx]
 refine skipH (i := 26) HT ?_
 try simp only [sx]
 refine skipH (i := 27) HT ?_
 try simp only [sx]
 refine skipH (i := 28) HT ?_
 try simp only [sx]
 refine skipH (i := 29) HT ?_
 try simp only [sx]
 refine skipH (i := 30) HT ?_
 try simp only [sx]
 refine skipH (i := 31) HT ?_
 try simp only [sx]
 refine takeH (i := 32) (v := ?vm32) ?hym32 HT ?restm32
 case hym32 => (intro wx hSx; obtain ⟨hb, c4, c5, c9, p0, p1, pl⟩ := HC2.out _ hSx; go_simp; try with_reducible rfl)
 try simp only [sx]
 refine wpAnyH_done (by kernel_rfl) ?_ _
 refine NoPanic.normal ?_
 have HR2 : Hid (Run w0 F0 b c d p s out _) := HR.out.ext HT
 go_wp2_with fail
 refine bodyPost_ret (v := .bool false) (by simp [results, Try.results46, go_sem]) rfl ?_
 unfold RuleP
 rw [HN.out]
 exact ⟨rfl, HR2.out⟩
set_option maxHeartbeats 4000000 in
theorem choose_had {w0 W : World} {F0 : Nat → Prop} {b c d : Nat} {p : Pm} {s : Ag} {out : List Vt} {R : Nat} (hR : s.rd = (R : Int)) (h6 : R < 64) (hd : s.dn = false) (hs : ¬ s.st = 1) (hv : s.vr = s.rd) (hn : r5 p s = none) (h : Run w0 F0 b c d p s out W) : Calls Try.prog 46 #[.pointer (some ⟨b, 0, none⟩)] W fun e w' => RuleP (r5 p s) w0 F0 b c d p s out e w' := by
 have HR0 : Hid (Run w0 F0 b c d p s out W) := h
 have HC : Hid (∀ wx, Ext W wx → b < wx.heap.size ∧ wx.cell? ⟨b, 4, none⟩ = some (.int .i64 (R : Int)) ∧ wx.cell? ⟨b, 10 + R * 2, none⟩ = some (.string (pvl s.ps R)) ∧ wx.cell? ⟨b, 10 + R * 2 + 1, none⟩ = some (.int .i64 (pva s.ps R))) := fun wx hx => by
  have q := HR0.out.ext hx
  obtain ⟨hb, _, _, _, c4, _⟩ := q.at
  obtain ⟨v0, v1⟩ := q.prop hd h6
  exact ⟨hb, by rw [← hR]; exact c4, v0, v1⟩
 have r0 : (0 : Int) ≤ (R : Int) := by omega
 have r6 : (R : Int) < 64 := by omega
 clear h
 have HD : Hid (s.dn = false) := hd
 have HRR : Hid (s.rd = (R : Int)) := hR
 have HN : Hid (r5 p s = none) := hn
 have e1 : (s.st == 1) = false := by simpa using hs
 have e2 : (s.vr == (R : Int)) = true := by rw [hv, hR]; simp
 clear hs hd hR h6 hn hv
 go_enter Try.func46, Try.ntmps46
 go_wp2_with fail
 refine wp_region_noPanic ?_
 refine wp_region_held (S := Ext W) (by kernel_rfl) ?_
 rw [show ({ W with drawn := W.drawn + 1 } : World) = W.drew from rfl]
 have HS : Ext W W.drew := (Ext.refl W).drew
 generalize W.drew = y0 at *
 refine takeH (i := 0) (v := ?vr0) ?hyr0 HS ?restr0
 case hyr0 => (intro wx hSx; obtain ⟨hb, c4, v0, v1⟩ := HC.out _ hSx; go_simp; try with_reducible rfl)
 try simp only [sx]
 refine takeH (i := 1) (v := ?vr1) ?hyr1 HS ?restr1
 case hyr1 => (intro wx hSx; obtain ⟨hb, c4, v0, v1⟩ := HC.out _ hSx; go_simp; try with_reducible rfl)
 try simp only [sx]
 refine takeH (i := 2) (v := ?vr2) ?hyr2 HS ?restr2
 case hyr2 => (intro wx hSx; obtain ⟨hb, c4, v0, v1⟩ := HC.out _ hSx; go_simp; try with_reducible rfl)
 try simp only [sx]
 refine takeH (i := 3) (v := ?vr3) ?hyr3 HS ?restr3
 case hyr3 => (intro wx hSx; obtain ⟨hb, c4, v0, v1⟩ := HC.out _ hSx; go_simp; try with_reducible rfl)
 try simp only [sx]
 refine takeH (i := 4) (v := ?vr4) ?hyr4 HS ?restr4
 case hyr4 => (intro wx hSx; obtain ⟨hb, c4, v0, v1⟩ := HC.out _ hSx; go_simp; try with_reducible rfl)
 try simp only [sx]
 refine takeH (i := 5) (v := ?vr5) ?hyr5 HS ?restr5
 case hyr5 => (intro wx hSx; obtain ⟨hb, c4, v0, v1⟩ := HC.out _ hSx; go_simp; try with_reducible rfl)
 try simp only [sx]
 refine takeH (i := 6) (v := ?vr6) ?hyr6 HS ?restr6
 case hyr6 => (intro wx hSx; obtain ⟨hb, c4, v0, v1⟩ := HC.out _ hSx; go_simp; try with_reducible rfl)
 try simp only [sx]
 refine takeH (i := 7) (v := ?vr7) ?hyr7 HS ?restr7
 case hyr7 => (intro wx hSx; obtain ⟨hb, c4, v0, v1⟩ := HC.out _ hSx; go_simp; try with_reducible rfl)
 try simp only [sx]
 refine takeH (i := 8) (v := ?vr8) ?hyr8 HS ?restr8
 case hyr8 => (intro wx hSx; obtain ⟨hb, c4, v0, v1⟩ := HC.out _ hSx; go_simp; try with_reducible rfl)
 try simp only [sx]
 refine held_one (i := 9) (by kernel_rfl) rfl rfl (fun K hK => ?_)
 go_simp
 have HSa : Ext W (y0.alloc (.cells #[.string ⟨#[]⟩, .int .i64 0] 60)) := HS.alloc _
 have HG0 : W.heap.size ≤ y0.heap.size := HS.size
 try go_simp
 refine hK.out _ _ ⟨HSa, ?_⟩
 clear hK K
 try simp only [sx]
 refine held_one (i := 10) (by kernel_rfl) rfl rfl (fun K hK => ?_)
 go_simp
 have HSc : Ext W (y0.alloc (.cells #[.string (pvl s.ps R), .int .i64 (pva s.ps R)] 60)) := HS.alloc _
 have HP : Hid (∀ wx, Ext (y0.alloc (.cells #[.string (pvl s.ps R), .int .i64 (pva s.ps R)] 60)) wx → wx.cell? ⟨y0.heap.size, 0, none⟩ = some (.string (pvl s.ps R)) ∧ wx.cell? ⟨y0.heap.size, 1, none⟩ = some (.int .i64 (pva s.ps R)) ∧ y0.heap.size < wx.heap.size) := fun wx hx => ⟨later hx (by rw [World.cell?_alloc_at _ _ _ _ rfl]; rfl), later hx (by rw [World.cell?_alloc_at _ _ _ _ rfl]; rfl), Nat.lt_of_lt_of_le (by simp) hx.size⟩
 generalize y0.alloc (.cells #[.string (pvl s.ps R), .int .i64 (pva s.ps R)] 60) = y1 at *
 generalize y0.heap.size = g at *
 try go_simp
 refine hK.out _ _ ⟨HSc, ?_⟩
 clear hK K
 try simp only [sx]
 refine wpAnyH_done (by kernel_rfl) ?_ _
 refine NoPanic.normal ?_
 have HR : Hid (Run w0 F0 b c d p s out y1) := HR0.out.ext HSc
 have HC2 : Hid (∀ wx, Ext y1 wx → b < wx.heap.size ∧ wx.cell? ⟨b, 4, none⟩ = some (.int .i64 (R : Int)) ∧ wx.cell? ⟨b, 5, none⟩ = some (.int .i64 s.st) ∧ wx.cell? ⟨b, 9, none⟩ = some (.int .i64 s.vr) ∧ wx.cell? ⟨g, 0, none⟩ = some (.string (pvl s.ps R)) ∧ wx.cell? ⟨g, 1, none⟩ = some (.int .i64 (pva s.ps R)) ∧ g < wx.heap.size) := fun wx hx => by
  have q := HR.out.ext hx
  obtain ⟨hb, _, _, _, c4, c5, _⟩ := q.at
  obtain ⟨_, _, c9⟩ := q.live HD.out
  exact ⟨hb, by rw [← HRR.out]; exact c4, c5, c9, HP.out wx hx⟩
 clear HSc HS HG0 HSa
 go_wp2_with fail
 refine wp_region_noPanic ?_
 refine wp_region_held (S := Ext y1) (by kernel_rfl) ?_
 rw [show ({ y1 with drawn := y1.drawn + 1 } : World) = y1.drew from rfl]
 have HT : Ext y1 y1.drew := (Ext.refl y1).drew
 generalize y1.drew = y2 at *
 refine takeH (i := 0) (v := ?vm0) ?hym0 HT ?restm0
 case hym0 => (intro wx hSx; obtain ⟨hb, c4, c5, c9, p0, p1, pl⟩ := HC2.out _ hSx; go_simp; try with_reducible rfl)
 try simp only [sx]
 refine takeH (i := 1) (v := ?vm1) ?hym1 HT ?restm1
 case hym1 => (intro wx hSx; obtain ⟨hb, c4, c5, c9, p0, p1, pl⟩ := HC2.out _ hSx; go_simp; try with_reducible rfl)
 try simp only [sx]
 refine takeH (i := 2) (v := ?vm2) ?hym2 HT ?restm2
 case hym2 => (intro wx hSx; obtain ⟨hb, c4, c5, c9, p0, p1, pl⟩ := HC2.out _ hSx; go_simp; try with_reducible rfl)
 try simp only [sx]
 refine takeH (i := 3) (v := ?vm3) ?hym3 HT ?restm3
 case hym3 => (intro wx hSx; obtain ⟨hb, c4, c5, c9, p0, p1, pl⟩ := HC2.out _ hSx; go_simp; try with_reducible rfl)
 try simp only [sx]
 refine takeH (i := 4) (v := ?vm4) ?hym4 HT ?restm4
 case hym4 => (intro wx hSx; obtain ⟨hb, c4, c5, c9, p0, p1, pl⟩ := HC2.out _ hSx; go_simp; try with_reducible rfl)
 try simp only [sx]
 refine takeH (i := 5) (v := ?vm5) ?hym5 HT ?restm5
 case hym5 => (intro wx hSx; obtain ⟨hb, c4, c5, c9, p0, p1, pl⟩ := HC2.out _ hSx; go_simp; try with_reducible rfl)
 try simp only [sx]
 refine takeH (i := 6) (v := ?vm6) ?hym6 HT ?restm6
 case hym6 => (intro wx hSx; obtain ⟨hb, c4, c5, c9, p0, p1, pl⟩ := HC2.out _ hSx; go_simp; try with_reducible rfl)
 try simp only [sx]
 refine takeH (i := 7) (v := ?vm7) ?hym7 HT ?restm7
 case hym7 => (intro wx hSx; obtain ⟨hb, c4, c5, c9, p0, p1, pl⟩ := HC2.out _ hSx; go_simp; try with_reducible rfl)
 try simp only [sx]
 refine takeH (i := 8) (v := ?vm8) ?hym8 HT ?restm8
 case hym8 => (intro wx hSx; obtain ⟨hb, c4, c5, c9, p0, p1, pl⟩ := HC2.out _ hSx; go_simp; try with_reducible rfl)
 try simp only [sx]
 refine takeH (i := 9) (v := ?vm9) ?hym9 HT ?restm9
 case hym9 => (intro wx hSx; obtain ⟨hb, c4, c5, c9, p0, p1, pl⟩ := HC2.out _ hSx; go_simp; try with_reducible rfl)
 try simp only [sx]
 refine takeH (i := 10) (v := ?vm10) ?hym10 HT ?restm10
 case hym10 => (intro wx hSx; obtain ⟨hb, c4, c5, c9, p0, p1, pl⟩ := HC2.out _ hSx; go_simp; try with_reducible rfl)
 try simp only [sx]
 refine takeH (i := 11) (v := ?vm11) ?hym11 HT ?restm11
 case hym11 => (intro wx hSx; obtain ⟨hb, c4, c5, c9, p0, p1, pl⟩ := HC2.out _ hSx; go_simp; try with_reducible rfl)
 try simp only [sx]
 refine takeH (i := 12) (v := ?vm12) ?hym12 HT ?restm12
 case hym12 => (intro wx hSx; obtain ⟨hb, c4, c5, c9, p0, p1, pl⟩ := HC2.out _ hSx; go_simp; try with_reducible rfl)
 try simp only [sx]
 refine takeH (i := 13) (v := ?vm13) ?hym13 HT ?restm13
 case hym13 => (intro wx hSx; obtain ⟨hb, c4, c5, c9, p0, p1, pl⟩ := HC2.out _ hSx; go_simp; try with_reducible rfl)
 try simp only [sx]
 refine takeH (i := 14) (v := ?vm14) ?hym14 HT ?restm14
 case hym14 => (intro wx hSx; obtain ⟨hb, c4, c5, c9, p0, p1, pl⟩ := HC2.out _ hSx; go_simp; try with_reducible rfl)
 try simp only [sx]
 refine takeH (i := 15) (v := ?vm15) ?hym15 HT ?restm15
 case hym15 => (intro wx hSx; obtain ⟨hb, c4, c5, c9, p0, p1, pl⟩ := HC2.out _ hSx; go_simp; try with_reducible rfl)
 try simp only [sx]
 refine takeH (i := 16) (v := ?vm16) ?hym16 HT ?restm16
 case hym16 => (intro wx hSx; obtain ⟨hb, c4, c5, c9, p0, p1, pl⟩ := HC2.out _ hSx; go_simp; try with_reducible rfl)
 try simp only [sx]
 refine takeH (i := 17) (v := ?vm17) ?hym17 HT ?restm17
 case hym17 => (intro wx hSx; obtain ⟨hb, c4, c5, c9, p0, p1, pl⟩ := HC2.out _ hSx; go_simp; try with_reducible rfl)
 try simp only [sx]
 refine skipH (i := 18) HT ?_
 try simp only [sx]
 refine skipH (i := 19) HT ?_
 try simp only [sx]
 refine skipH (i := 20) HT ?_
 try simp only [sx]
 refine takeH (i := 21) (v := ?vm21) ?hym21 HT ?restm21
 case hym21 => (intro wx hSx; obtain ⟨hb, c4, c5, c9, p0, p1, pl⟩ := HC2.out _ hSx; go_simp; try with_reducible rfl)
 try simp only [sx]
 refine takeH (i := 22) (v := ?vm22) ?hym22 HT ?restm22
 case hym22 => (intro wx hSx; obtain ⟨hb, c4, c5, c9, p0, p1, pl⟩ := HC2.out _ hSx; go_simp; try with_reducible rfl)
 try simp only [sx]
 refine skipH (i := 23) HT ?_
 try simp only [sx]
 refine skipH (i := 24) HT ?_
 try simp only [sx]
 refine skipH (i := 25) HT ?_
 try simp only [sx]
 refine skipH (i := 26) HT ?_
 try simp only [sx]
 refine skipH (i := 27) HT ?_
 try simp only [sx]
 refine skipH (i := 28) HT ?_
 try simp only [sx]
 refine skipH (i := 29) HT ?_
 try simp only [sx]
 refine skipH (i := 30) HT ?_
 try simp only [sx]
 refine skipH (i := 31) HT ?_
 try simp only [sx]
 refine takeH (i := 32) (v := ?vm32) ?hym32 HT ?restm32
 case hym32 => (intro wx hSx; obtain ⟨hb, c4, c5, c9, p0, p1, pl⟩ := HC2.out _ hSx; go_simp; try with_reducible rfl)
 try simp only [sx]
 refine wpAnyH_done (by kernel_rfl) ?_ _
 refine NoPanic.normal ?_
 have HR2 : Hid (Run w0 F0 b c d p s out _) := HR.out.ext HT
 go_wp2_with fail
 refine bodyPost_ret (v := .bool false) (by simp [results, Try.results46, go_sem]) rfl ?_
 unfold RuleP
 rw [HN.out]
 exact ⟨rfl, HR2.out⟩
set_option maxHeartbeats 4000000 in
theorem choose_no {w0 W : World} {F0 : Nat → Prop} {b c d : Nat} {p : Pm} {s : Ag} {out : List Vt} {R : Nat} (hR : s.rd = (R : Int)) (h6 : R < 64) (hd : s.dn = false) (hs : ¬ s.st = 1) (hv : ¬ s.vr = s.rd) (hz : (pvl s.ps R).size = 0) (hn : r5 p s = none) (h : Run w0 F0 b c d p s out W) : Calls Try.prog 46 #[.pointer (some ⟨b, 0, none⟩)] W fun e w' => RuleP (r5 p s) w0 F0 b c d p s out e w' := by
 have HR0 : Hid (Run w0 F0 b c d p s out W) := h
 have HC : Hid (∀ wx, Ext W wx → b < wx.heap.size ∧ wx.cell? ⟨b, 4, none⟩ = some (.int .i64 (R : Int)) ∧ wx.cell? ⟨b, 10 + R * 2, none⟩ = some (.string (pvl s.ps R)) ∧ wx.cell? ⟨b, 10 + R * 2 + 1, none⟩ = some (.int .i64 (pva s.ps R))) := fun wx hx => by
  have q := HR0.out.ext hx
  obtain ⟨hb, _, _, _, c4, _⟩ := q.at
  obtain ⟨v0, v1⟩ := q.prop hd h6
  exact ⟨hb, by rw [← hR]; exact c4, v0, v1⟩
 have r0 : (0 : Int) ≤ (R : Int) := by omega
 have r6 : (R : Int) < 64 := by omega
 clear h
 have HD : Hid (s.dn = false) := hd
 have HRR : Hid (s.rd = (R : Int)) := hR
 have HN : Hid (r5 p s = none) := hn
 have e1 : (s.st == 1) = false := by simpa using hs
 have e2 : (s.vr == (R : Int)) = false := by rw [← hR]; simpa using hv
 have q4 := isEmpty_nil hz
 have q5 := toList_nil hz
 clear hs hd hR h6 hn hv hz
 go_enter Try.func46, Try.ntmps46
 go_wp2_with fail
 refine wp_region_noPanic ?_
 refine wp_region_held (S := Ext W) (by kernel_rfl) ?_
 rw [show ({ W with drawn := W.drawn + 1 } : World) = W.drew from rfl]
 have HS : Ext W W.drew := (Ext.refl W).drew
 generalize W.drew = y0 at *
 refine takeH (i := 0) (v := ?vr0) ?hyr0 HS ?restr0
 case hyr0 => (intro wx hSx; obtain ⟨hb, c4, v0, v1⟩ := HC.out _ hSx; go_simp; try with_reducible rfl)
 try simp only [sx]
 refine takeH (i := 1) (v := ?vr1) ?hyr1 HS ?restr1
 case hyr1 => (intro wx hSx; obtain ⟨hb, c4, v0, v1⟩ := HC.out _ hSx; go_simp; try with_reducible rfl)
 try simp only [sx]
 refine takeH (i := 2) (v := ?vr2) ?hyr2 HS ?restr2
 case hyr2 => (intro wx hSx; obtain ⟨hb, c4, v0, v1⟩ := HC.out _ hSx; go_simp; try with_reducible rfl)
 try simp only [sx]
 refine takeH (i := 3) (v := ?vr3) ?hyr3 HS ?restr3
 case hyr3 => (intro wx hSx; obtain ⟨hb, c4, v0, v1⟩ := HC.out _ hSx; go_simp; try with_reducible rfl)
 try simp only [sx]
 refine takeH (i := 4) (v := ?vr4) ?hyr4 HS ?restr4
 case hyr4 => (intro wx hSx; obtain ⟨hb, c4, v0, v1⟩ := HC.out _ hSx; go_simp; try with_reducible rfl)
 try simp only [sx]
 refine takeH (i := 5) (v := ?vr5) ?hyr5 HS ?restr5
 case hyr5 => (intro wx hSx; obtain ⟨hb, c4, v0, v1⟩ := HC.out _ hSx; go_simp; try with_reducible rfl)
 try simp only [sx]
 refine takeH (i := 6) (v := ?vr6) ?hyr6 HS ?restr6
 case hyr6 => (intro wx hSx; obtain ⟨hb, c4, v0, v1⟩ := HC.out _ hSx; go_simp; try with_reducible rfl)
 try simp only [sx]
 refine takeH (i := 7) (v := ?vr7) ?hyr7 HS ?restr7
 case hyr7 => (intro wx hSx; obtain ⟨hb, c4, v0, v1⟩ := HC.out _ hSx; go_simp; try with_reducible rfl)
 try simp only [sx]
 refine takeH (i := 8) (v := ?vr8) ?hyr8 HS ?restr8
 case hyr8 => (intro wx hSx; obtain ⟨hb, c4, v0, v1⟩ := HC.out _ hSx; go_simp; try with_reducible rfl)
 try simp only [sx]
 refine held_one (i := 9) (by kernel_rfl) rfl rfl (fun K hK => ?_)
 go_simp
 have HSa : Ext W (y0.alloc (.cells #[.string ⟨#[]⟩, .int .i64 0] 60)) := HS.alloc _
 have HG0 : W.heap.size ≤ y0.heap.size := HS.size
 try go_simp
 refine hK.out _ _ ⟨HSa, ?_⟩
 clear hK K
 try simp only [sx]
 refine held_one (i := 10) (by kernel_rfl) rfl rfl (fun K hK => ?_)
 go_simp
 have HSc : Ext W (y0.alloc (.cells #[.string (pvl s.ps R), .int .i64 (pva s.ps R)] 60)) := HS.alloc _
 have HP : Hid (∀ wx, Ext (y0.alloc (.cells #[.string (pvl s.ps R), .int .i64 (pva s.ps R)] 60)) wx → wx.cell? ⟨y0.heap.size, 0, none⟩ = some (.string (pvl s.ps R)) ∧ wx.cell? ⟨y0.heap.size, 1, none⟩ = some (.int .i64 (pva s.ps R)) ∧ y0.heap.size < wx.heap.size) := fun wx hx => ⟨later hx (by rw [World.cell?_alloc_at _ _ _ _ rfl]; rfl), later hx (by rw [World.cell?_alloc_at _ _ _ _ rfl]; rfl), Nat.lt_of_lt_of_le (by simp) hx.size⟩
 generalize y0.alloc (.cells #[.string (pvl s.ps R), .int .i64 (pva s.ps R)] 60) = y1 at *
 generalize y0.heap.size = g at *
 try go_simp
 refine hK.out _ _ ⟨HSc, ?_⟩
 clear hK K
 try simp only [sx]
 refine wpAnyH_done (by kernel_rfl) ?_ _
 refine NoPanic.normal ?_
 have HR : Hid (Run w0 F0 b c d p s out y1) := HR0.out.ext HSc
 have HC2 : Hid (∀ wx, Ext y1 wx → b < wx.heap.size ∧ wx.cell? ⟨b, 4, none⟩ = some (.int .i64 (R : Int)) ∧ wx.cell? ⟨b, 5, none⟩ = some (.int .i64 s.st) ∧ wx.cell? ⟨b, 9, none⟩ = some (.int .i64 s.vr) ∧ wx.cell? ⟨g, 0, none⟩ = some (.string (pvl s.ps R)) ∧ wx.cell? ⟨g, 1, none⟩ = some (.int .i64 (pva s.ps R)) ∧ g < wx.heap.size) := fun wx hx => by
  have q := HR.out.ext hx
  obtain ⟨hb, _, _, _, c4, c5, _⟩ := q.at
  obtain ⟨_, _, c9⟩ := q.live HD.out
  exact ⟨hb, by rw [← HRR.out]; exact c4, c5, c9, HP.out wx hx⟩
 clear HSc HS HG0 HSa
 go_wp2_with fail
 refine wp_region_noPanic ?_
 refine wp_region_held (S := Ext y1) (by kernel_rfl) ?_
 rw [show ({ y1 with drawn := y1.drawn + 1 } : World) = y1.drew from rfl]
 have HT : Ext y1 y1.drew := (Ext.refl y1).drew
 generalize y1.drew = y2 at *
 refine takeH (i := 0) (v := ?vm0) ?hym0 HT ?restm0
 case hym0 => (intro wx hSx; obtain ⟨hb, c4, c5, c9, p0, p1, pl⟩ := HC2.out _ hSx; go_simp; try with_reducible rfl)
 try simp only [sx]
 refine takeH (i := 1) (v := ?vm1) ?hym1 HT ?restm1
 case hym1 => (intro wx hSx; obtain ⟨hb, c4, c5, c9, p0, p1, pl⟩ := HC2.out _ hSx; go_simp; try with_reducible rfl)
 try simp only [sx]
 refine takeH (i := 2) (v := ?vm2) ?hym2 HT ?restm2
 case hym2 => (intro wx hSx; obtain ⟨hb, c4, c5, c9, p0, p1, pl⟩ := HC2.out _ hSx; go_simp; try with_reducible rfl)
 try simp only [sx]
 refine takeH (i := 3) (v := ?vm3) ?hym3 HT ?restm3
 case hym3 => (intro wx hSx; obtain ⟨hb, c4, c5, c9, p0, p1, pl⟩ := HC2.out _ hSx; go_simp; try with_reducible rfl)
 try simp only [sx]
 refine takeH (i := 4) (v := ?vm4) ?hym4 HT ?restm4
 case hym4 => (intro wx hSx; obtain ⟨hb, c4, c5, c9, p0, p1, pl⟩ := HC2.out _ hSx; go_simp; try with_reducible rfl)
 try simp only [sx]
 refine takeH (i := 5) (v := ?vm5) ?hym5 HT ?restm5
 case hym5 => (intro wx hSx; obtain ⟨hb, c4, c5, c9, p0, p1, pl⟩ := HC2.out _ hSx; go_simp; try with_reducible rfl)
 try simp only [sx]
 refine takeH (i := 6) (v := ?vm6) ?hym6 HT ?restm6
 case hym6 => (intro wx hSx; obtain ⟨hb, c4, c5, c9, p0, p1, pl⟩ := HC2.out _ hSx; go_simp; try with_reducible rfl)
 try simp only [sx]
 refine takeH (i := 7) (v := ?vm7) ?hym7 HT ?restm7
 case hym7 => (intro wx hSx; obtain ⟨hb, c4, c5, c9, p0, p1, pl⟩ := HC2.out _ hSx; go_simp; try with_reducible rfl)
 try simp only [sx]
 refine takeH (i := 8) (v := ?vm8) ?hym8 HT ?restm8
 case hym8 => (intro wx hSx; obtain ⟨hb, c4, c5, c9, p0, p1, pl⟩ := HC2.out _ hSx; go_simp; try with_reducible rfl)
 try simp only [sx]
 refine takeH (i := 9) (v := ?vm9) ?hym9 HT ?restm9
 case hym9 => (intro wx hSx; obtain ⟨hb, c4, c5, c9, p0, p1, pl⟩ := HC2.out _ hSx; go_simp; try with_reducible rfl)
 try simp only [sx]
 refine takeH (i := 10) (v := ?vm10) ?hym10 HT ?restm10
 case hym10 => (intro wx hSx; obtain ⟨hb, c4, c5, c9, p0, p1, pl⟩ := HC2.out _ hSx; go_simp; try with_reducible rfl)
 try simp only [sx]
 refine takeH (i := 11) (v := ?vm11) ?hym11 HT ?restm11
 case hym11 => (intro wx hSx; obtain ⟨hb, c4, c5, c9, p0, p1, pl⟩ := HC2.out _ hSx; go_simp; try with_reducible rfl)
 try simp only [sx]
 refine takeH (i := 12) (v := ?vm12) ?hym12 HT ?restm12
 case hym12 => (intro wx hSx; obtain ⟨hb, c4, c5, c9, p0, p1, pl⟩ := HC2.out _ hSx; go_simp; try with_reducible rfl)
 try simp only [sx]
 refine takeH (i := 13) (v := ?vm13) ?hym13 HT ?restm13
 case hym13 => (intro wx hSx; obtain ⟨hb, c4, c5, c9, p0, p1, pl⟩ := HC2.out _ hSx; go_simp; try with_reducible rfl)
 try simp only [sx]
 refine takeH (i := 14) (v := ?vm14) ?hym14 HT ?restm14
 case hym14 => (intro wx hSx; obtain ⟨hb, c4, c5, c9, p0, p1, pl⟩ := HC2.out _ hSx; go_simp; try with_reducible rfl)
 try simp only [sx]
 refine takeH (i := 15) (v := ?vm15) ?hym15 HT ?restm15
 case hym15 => (intro wx hSx; obtain ⟨hb, c4, c5, c9, p0, p1, pl⟩ := HC2.out _ hSx; go_simp; try with_reducible rfl)
 try simp only [sx]
 refine takeH (i := 16) (v := ?vm16) ?hym16 HT ?restm16
 case hym16 => (intro wx hSx; obtain ⟨hb, c4, c5, c9, p0, p1, pl⟩ := HC2.out _ hSx; go_simp; try with_reducible rfl)
 try simp only [sx]
 refine takeH (i := 17) (v := ?vm17) ?hym17 HT ?restm17
 case hym17 => (intro wx hSx; obtain ⟨hb, c4, c5, c9, p0, p1, pl⟩ := HC2.out _ hSx; go_simp; try with_reducible rfl)
 try simp only [sx]
 refine takeH (i := 18) (v := ?vm18) ?hym18 HT ?restm18
 case hym18 => (intro wx hSx; obtain ⟨hb, c4, c5, c9, p0, p1, pl⟩ := HC2.out _ hSx; go_simp; try with_reducible rfl)
 try simp only [sx]
 refine takeH (i := 19) (v := ?vm19) ?hym19 HT ?restm19
 case hym19 => (intro wx hSx; obtain ⟨hb, c4, c5, c9, p0, p1, pl⟩ := HC2.out _ hSx; go_simp; try with_reducible rfl)
 try simp only [sx]
 refine takeH (i := 20) (v := ?vm20) ?hym20 HT ?restm20
 case hym20 => (intro wx hSx; obtain ⟨hb, c4, c5, c9, p0, p1, pl⟩ := HC2.out _ hSx; go_simp; try with_reducible rfl)
 try simp only [sx]
 refine takeH (i := 21) (v := ?vm21) ?hym21 HT ?restm21
 case hym21 => (intro wx hSx; obtain ⟨hb, c4, c5, c9, p0, p1, pl⟩ := HC2.out _ hSx; go_simp; try with_reducible rfl)
 try simp only [sx]
 refine takeH (i := 22) (v := ?vm22) ?hym22 HT ?restm22
 case hym22 => (intro wx hSx; obtain ⟨hb, c4, c5, c9, p0, p1, pl⟩ := HC2.out _ hSx; go_simp; try with_reducible rfl)
 try simp only [sx]
 refine skipH (i := 23) HT ?_
 try simp only [sx]
 refine skipH (i := 24) HT ?_
 try simp only [sx]
 refine skipH (i := 25) HT ?_
 try simp only [sx]
 refine skipH (i := 26) HT ?_
 try simp only [sx]
 refine skipH (i := 27) HT ?_
 try simp only [sx]
 refine skipH (i := 28) HT ?_
 try simp only [sx]
 refine skipH (i := 29) HT ?_
 try simp only [sx]
 refine skipH (i := 30) HT ?_
 try simp only [sx]
 refine skipH (i := 31) HT ?_
 try simp only [sx]
 refine takeH (i := 32) (v := ?vm32) ?hym32 HT ?restm32
 case hym32 => (intro wx hSx; obtain ⟨hb, c4, c5, c9, p0, p1, pl⟩ := HC2.out _ hSx; go_simp; try with_reducible rfl)
 try simp only [sx]
 refine wpAnyH_done (by kernel_rfl) ?_ _
 refine NoPanic.normal ?_
 have HR2 : Hid (Run w0 F0 b c d p s out _) := HR.out.ext HT
 go_wp2_with fail
 refine bodyPost_ret (v := .bool false) (by simp [results, Try.results46, go_sem]) rfl ?_
 unfold RuleP
 rw [HN.out]
 exact ⟨rfl, HR2.out⟩
set_option maxHeartbeats 4000000 in
theorem choose_not {w0 W : World} {F0 : Nat → Prop} {b c d : Nat} {p : Pm} {s : Ag} {out : List Vt} {R : Nat} (hR : s.rd = (R : Int)) (h6 : R < 64) (hd : s.dn = false) (hp : okP p) (hi : InvA p s) (hs : ¬ s.st = 1) (hv : ¬ s.vr = s.rd) (hz : (pvl s.ps R).size ≠ 0) (hm : isA p s.vs 2 s.rd (pvl s.ps R) = false) (hn : r5 p s = none) (h : Run w0 F0 b c d p s out W) : Calls Try.prog 46 #[.pointer (some ⟨b, 0, none⟩)] W fun e w' => RuleP (r5 p s) w0 F0 b c d p s out e w' := by
 have HR0 : Hid (Run w0 F0 b c d p s out W) := h
 have HC : Hid (∀ wx, Ext W wx → b < wx.heap.size ∧ wx.cell? ⟨b, 4, none⟩ = some (.int .i64 (R : Int)) ∧ wx.cell? ⟨b, 10 + R * 2, none⟩ = some (.string (pvl s.ps R)) ∧ wx.cell? ⟨b, 10 + R * 2 + 1, none⟩ = some (.int .i64 (pva s.ps R))) := fun wx hx => by
  have q := HR0.out.ext hx
  obtain ⟨hb, _, _, _, c4, _⟩ := q.at
  obtain ⟨v0, v1⟩ := q.prop hd h6
  exact ⟨hb, by rw [← hR]; exact c4, v0, v1⟩
 have r0 : (0 : Int) ≤ (R : Int) := by omega
 have r6 : (R : Int) < 64 := by omega
 clear h
 have HD : Hid (s.dn = false) := hd
 have HRR : Hid (s.rd = (R : Int)) := hR
 have HN : Hid (r5 p s = none) := hn
 have HM : Hid (∀ wx, Run w0 F0 b c d p s out wx → Calls Try.prog 56 #[.pointer (some ⟨b, 0, none⟩), .int .i64 2, .int .i64 (R : Int), .string (pvl s.ps R)] wx fun e w' => e = .returned (.bool false) ∧ Ext wx w') := fun wx hw => by rw [← hm, ← hR]; exact hw.most hp hi hd _ wf2 (WalkArith.wf_i64 (by omega))
 have e1 : (s.st == 1) = false := by simpa using hs
 have e2 : (s.vr == (R : Int)) = false := by rw [← hR]; simpa using hv
 have q4 := isEmpty_some hz
 have q5 := toList_some hz
 clear hs hd hR h6 hn hv hz hm hp hi
 go_enter Try.func46, Try.ntmps46
 go_wp2_with fail
 refine wp_region_noPanic ?_
 refine wp_region_held (S := Ext W) (by kernel_rfl) ?_
 rw [show ({ W with drawn := W.drawn + 1 } : World) = W.drew from rfl]
 have HS : Ext W W.drew := (Ext.refl W).drew
 generalize W.drew = y0 at *
 refine takeH (i := 0) (v := ?vr0) ?hyr0 HS ?restr0
 case hyr0 => (intro wx hSx; obtain ⟨hb, c4, v0, v1⟩ := HC.out _ hSx; go_simp; try with_reducible rfl)
 try simp only [sx]
 refine takeH (i := 1) (v := ?vr1) ?hyr1 HS ?restr1
 case hyr1 => (intro wx hSx; obtain ⟨hb, c4, v0, v1⟩ := HC.out _ hSx; go_simp; try with_reducible rfl)
 try simp only [sx]
 refine takeH (i := 2) (v := ?vr2) ?hyr2 HS ?restr2
 case hyr2 => (intro wx hSx; obtain ⟨hb, c4, v0, v1⟩ := HC.out _ hSx; go_simp; try with_reducible rfl)
 try simp only [sx]
 refine takeH (i := 3) (v := ?vr3) ?hyr3 HS ?restr3
 case hyr3 => (intro wx hSx; obtain ⟨hb, c4, v0, v1⟩ := HC.out _ hSx; go_simp; try with_reducible rfl)
 try simp only [sx]
 refine takeH (i := 4) (v := ?vr4) ?hyr4 HS ?restr4
 case hyr4 => (intro wx hSx; obtain ⟨hb, c4, v0, v1⟩ := HC.out _ hSx; go_simp; try with_reducible rfl)
 try simp only [sx]
 refine takeH (i := 5) (v := ?vr5) ?hyr5 HS ?restr5
 case hyr5 => (intro wx hSx; obtain ⟨hb, c4, v0, v1⟩ := HC.out _ hSx; go_simp; try with_reducible rfl)
 try simp only [sx]
 refine takeH (i := 6) (v := ?vr6) ?hyr6 HS ?restr6
 case hyr6 => (intro wx hSx; obtain ⟨hb, c4, v0, v1⟩ := HC.out _ hSx; go_simp; try with_reducible rfl)
 try simp only [sx]
 refine takeH (i := 7) (v := ?vr7) ?hyr7 HS ?restr7
 case hyr7 => (intro wx hSx; obtain ⟨hb, c4, v0, v1⟩ := HC.out _ hSx; go_simp; try with_reducible rfl)
 try simp only [sx]
 refine takeH (i := 8) (v := ?vr8) ?hyr8 HS ?restr8
 case hyr8 => (intro wx hSx; obtain ⟨hb, c4, v0, v1⟩ := HC.out _ hSx; go_simp; try with_reducible rfl)
 try simp only [sx]
 refine held_one (i := 9) (by kernel_rfl) rfl rfl (fun K hK => ?_)
 go_simp
 have HSa : Ext W (y0.alloc (.cells #[.string ⟨#[]⟩, .int .i64 0] 60)) := HS.alloc _
 have HG0 : W.heap.size ≤ y0.heap.size := HS.size
 try go_simp
 refine hK.out _ _ ⟨HSa, ?_⟩
 clear hK K
 try simp only [sx]
 refine held_one (i := 10) (by kernel_rfl) rfl rfl (fun K hK => ?_)
 go_simp
 have HSc : Ext W (y0.alloc (.cells #[.string (pvl s.ps R), .int .i64 (pva s.ps R)] 60)) := HS.alloc _
 have HP : Hid (∀ wx, Ext (y0.alloc (.cells #[.string (pvl s.ps R), .int .i64 (pva s.ps R)] 60)) wx → wx.cell? ⟨y0.heap.size, 0, none⟩ = some (.string (pvl s.ps R)) ∧ wx.cell? ⟨y0.heap.size, 1, none⟩ = some (.int .i64 (pva s.ps R)) ∧ y0.heap.size < wx.heap.size) := fun wx hx => ⟨later hx (by rw [World.cell?_alloc_at _ _ _ _ rfl]; rfl), later hx (by rw [World.cell?_alloc_at _ _ _ _ rfl]; rfl), Nat.lt_of_lt_of_le (by simp) hx.size⟩
 generalize y0.alloc (.cells #[.string (pvl s.ps R), .int .i64 (pva s.ps R)] 60) = y1 at *
 generalize y0.heap.size = g at *
 try go_simp
 refine hK.out _ _ ⟨HSc, ?_⟩
 clear hK K
 try simp only [sx]
 refine wpAnyH_done (by kernel_rfl) ?_ _
 refine NoPanic.normal ?_
 have HR : Hid (Run w0 F0 b c d p s out y1) := HR0.out.ext HSc
 have HC2 : Hid (∀ wx, Ext y1 wx → b < wx.heap.size ∧ wx.cell? ⟨b, 4, none⟩ = some (.int .i64 (R : Int)) ∧ wx.cell? ⟨b, 5, none⟩ = some (.int .i64 s.st) ∧ wx.cell? ⟨b, 9, none⟩ = some (.int .i64 s.vr) ∧ wx.cell? ⟨g, 0, none⟩ = some (.string (pvl s.ps R)) ∧ wx.cell? ⟨g, 1, none⟩ = some (.int .i64 (pva s.ps R)) ∧ g < wx.heap.size) := fun wx hx => by
  have q := HR.out.ext hx
  obtain ⟨hb, _, _, _, c4, c5, _⟩ := q.at
  obtain ⟨_, _, c9⟩ := q.live HD.out
  exact ⟨hb, by rw [← HRR.out]; exact c4, c5, c9, HP.out wx hx⟩
 clear HSc HS HG0 HSa
 go_wp2_with fail
 refine wp_region_noPanic ?_
 refine wp_region_held (S := Ext y1) (by kernel_rfl) ?_
 rw [show ({ y1 with drawn := y1.drawn + 1 } : World) = y1.drew from rfl]
 have HT : Ext y1 y1.drew := (Ext.refl y1).drew
 generalize y1.drew = y2 at *
 refine takeH (i := 0) (v := ?vm0) ?hym0 HT ?restm0
 case hym0 => (intro wx hSx; obtain ⟨hb, c4, c5, c9, p0, p1, pl⟩ := HC2.out _ hSx; go_simp; try with_reducible rfl)
 try simp only [sx]
 refine takeH (i := 1) (v := ?vm1) ?hym1 HT ?restm1
 case hym1 => (intro wx hSx; obtain ⟨hb, c4, c5, c9, p0, p1, pl⟩ := HC2.out _ hSx; go_simp; try with_reducible rfl)
 try simp only [sx]
 refine takeH (i := 2) (v := ?vm2) ?hym2 HT ?restm2
 case hym2 => (intro wx hSx; obtain ⟨hb, c4, c5, c9, p0, p1, pl⟩ := HC2.out _ hSx; go_simp; try with_reducible rfl)
 try simp only [sx]
 refine takeH (i := 3) (v := ?vm3) ?hym3 HT ?restm3
 case hym3 => (intro wx hSx; obtain ⟨hb, c4, c5, c9, p0, p1, pl⟩ := HC2.out _ hSx; go_simp; try with_reducible rfl)
 try simp only [sx]
 refine takeH (i := 4) (v := ?vm4) ?hym4 HT ?restm4
 case hym4 => (intro wx hSx; obtain ⟨hb, c4, c5, c9, p0, p1, pl⟩ := HC2.out _ hSx; go_simp; try with_reducible rfl)
 try simp only [sx]
 refine takeH (i := 5) (v := ?vm5) ?hym5 HT ?restm5
 case hym5 => (intro wx hSx; obtain ⟨hb, c4, c5, c9, p0, p1, pl⟩ := HC2.out _ hSx; go_simp; try with_reducible rfl)
 try simp only [sx]
 refine takeH (i := 6) (v := ?vm6) ?hym6 HT ?restm6
 case hym6 => (intro wx hSx; obtain ⟨hb, c4, c5, c9, p0, p1, pl⟩ := HC2.out _ hSx; go_simp; try with_reducible rfl)
 try simp only [sx]
 refine takeH (i := 7) (v := ?vm7) ?hym7 HT ?restm7
 case hym7 => (intro wx hSx; obtain ⟨hb, c4, c5, c9, p0, p1, pl⟩ := HC2.out _ hSx; go_simp; try with_reducible rfl)
 try simp only [sx]
 refine takeH (i := 8) (v := ?vm8) ?hym8 HT ?restm8
 case hym8 => (intro wx hSx; obtain ⟨hb, c4, c5, c9, p0, p1, pl⟩ := HC2.out _ hSx; go_simp; try with_reducible rfl)
 try simp only [sx]
 refine takeH (i := 9) (v := ?vm9) ?hym9 HT ?restm9
 case hym9 => (intro wx hSx; obtain ⟨hb, c4, c5, c9, p0, p1, pl⟩ := HC2.out _ hSx; go_simp; try with_reducible rfl)
 try simp only [sx]
 refine takeH (i := 10) (v := ?vm10) ?hym10 HT ?restm10
 case hym10 => (intro wx hSx; obtain ⟨hb, c4, c5, c9, p0, p1, pl⟩ := HC2.out _ hSx; go_simp; try with_reducible rfl)
 try simp only [sx]
 refine takeH (i := 11) (v := ?vm11) ?hym11 HT ?restm11
 case hym11 => (intro wx hSx; obtain ⟨hb, c4, c5, c9, p0, p1, pl⟩ := HC2.out _ hSx; go_simp; try with_reducible rfl)
 try simp only [sx]
 refine takeH (i := 12) (v := ?vm12) ?hym12 HT ?restm12
 case hym12 => (intro wx hSx; obtain ⟨hb, c4, c5, c9, p0, p1, pl⟩ := HC2.out _ hSx; go_simp; try with_reducible rfl)
 try simp only [sx]
 refine takeH (i := 13) (v := ?vm13) ?hym13 HT ?restm13
 case hym13 => (intro wx hSx; obtain ⟨hb, c4, c5, c9, p0, p1, pl⟩ := HC2.out _ hSx; go_simp; try with_reducible rfl)
 try simp only [sx]
 refine takeH (i := 14) (v := ?vm14) ?hym14 HT ?restm14
 case hym14 => (intro wx hSx; obtain ⟨hb, c4, c5, c9, p0, p1, pl⟩ := HC2.out _ hSx; go_simp; try with_reducible rfl)
 try simp only [sx]
 refine takeH (i := 15) (v := ?vm15) ?hym15 HT ?restm15
 case hym15 => (intro wx hSx; obtain ⟨hb, c4, c5, c9, p0, p1, pl⟩ := HC2.out _ hSx; go_simp; try with_reducible rfl)
 try simp only [sx]
 refine takeH (i := 16) (v := ?vm16) ?hym16 HT ?restm16
 case hym16 => (intro wx hSx; obtain ⟨hb, c4, c5, c9, p0, p1, pl⟩ := HC2.out _ hSx; go_simp; try with_reducible rfl)
 try simp only [sx]
 refine takeH (i := 17) (v := ?vm17) ?hym17 HT ?restm17
 case hym17 => (intro wx hSx; obtain ⟨hb, c4, c5, c9, p0, p1, pl⟩ := HC2.out _ hSx; go_simp; try with_reducible rfl)
 try simp only [sx]
 refine takeH (i := 18) (v := ?vm18) ?hym18 HT ?restm18
 case hym18 => (intro wx hSx; obtain ⟨hb, c4, c5, c9, p0, p1, pl⟩ := HC2.out _ hSx; go_simp; try with_reducible rfl)
 try simp only [sx]
 refine takeH (i := 19) (v := ?vm19) ?hym19 HT ?restm19
 case hym19 => (intro wx hSx; obtain ⟨hb, c4, c5, c9, p0, p1, pl⟩ := HC2.out _ hSx; go_simp; try with_reducible rfl)
 try simp only [sx]
 refine takeH (i := 20) (v := ?vm20) ?hym20 HT ?restm20
 case hym20 => (intro wx hSx; obtain ⟨hb, c4, c5, c9, p0, p1, pl⟩ := HC2.out _ hSx; go_simp; try with_reducible rfl)
 try simp only [sx]
 refine takeH (i := 21) (v := ?vm21) ?hym21 HT ?restm21
 case hym21 => (intro wx hSx; obtain ⟨hb, c4, c5, c9, p0, p1, pl⟩ := HC2.out _ hSx; go_simp; try with_reducible rfl)
 try simp only [sx]
 refine takeH (i := 22) (v := ?vm22) ?hym22 HT ?restm22
 case hym22 => (intro wx hSx; obtain ⟨hb, c4, c5, c9, p0, p1, pl⟩ := HC2.out _ hSx; go_simp; try with_reducible rfl)
 try simp only [sx]
 refine takeH (i := 23) (v := ?vm23) ?hym23 HT ?restm23
 case hym23 => (intro wx hSx; obtain ⟨hb, c4, c5, c9, p0, p1, pl⟩ := HC2.out _ hSx; go_simp; try with_reducible rfl)
 try simp only [sx]
 refine takeH (i := 24) (v := ?vm24) ?hym24 HT ?restm24
 case hym24 => (intro wx hSx; obtain ⟨hb, c4, c5, c9, p0, p1, pl⟩ := HC2.out _ hSx; go_simp; try with_reducible rfl)
 try simp only [sx]
 refine takeH (i := 25) (v := ?vm25) ?hym25 HT ?restm25
 case hym25 => (intro wx hSx; obtain ⟨hb, c4, c5, c9, p0, p1, pl⟩ := HC2.out _ hSx; go_simp; try with_reducible rfl)
 try simp only [sx]
 refine takeH (i := 26) (v := ?vm26) ?hym26 HT ?restm26
 case hym26 => (intro wx hSx; obtain ⟨hb, c4, c5, c9, p0, p1, pl⟩ := HC2.out _ hSx; go_simp; try with_reducible rfl)
 try simp only [sx]
 refine takeH (i := 27) (v := ?vm27) ?hym27 HT ?restm27
 case hym27 => (intro wx hSx; obtain ⟨hb, c4, c5, c9, p0, p1, pl⟩ := HC2.out _ hSx; go_simp; try with_reducible rfl)
 try simp only [sx]
 refine takeH (i := 28) (v := ?vm28) ?hym28 HT ?restm28
 case hym28 => (intro wx hSx; obtain ⟨hb, c4, c5, c9, p0, p1, pl⟩ := HC2.out _ hSx; go_simp; try with_reducible rfl)
 try simp only [sx]
 refine takeH (i := 29) (v := ?vm29) ?hym29 HT ?restm29
 case hym29 => (intro wx hSx; obtain ⟨hb, c4, c5, c9, p0, p1, pl⟩ := HC2.out _ hSx; go_simp; try with_reducible rfl)
 try simp only [sx]
 refine held_one (i := 30) (by kernel_rfl) rfl rfl (fun K hK => ?_)
 go_simp
 refine (HM.out _ (HR.out.ext HT)).mono ?_
 rintro e y3 ⟨rfl, HX3⟩
 have HTb : Ext y1 y3 := HT.trans HX3
 try go_simp
 refine hK.out _ _ ⟨HTb, ?_⟩
 clear hK K
 try simp only [sx]
 refine takeH (i := 31) (v := ?vm31) ?hym31 HTb ?restm31
 case hym31 => (intro wx hSx; obtain ⟨hb, c4, c5, c9, p0, p1, pl⟩ := HC2.out _ hSx; go_simp; try with_reducible rfl)
 try simp only [sx]
 refine takeH (i := 32) (v := ?vm32) ?hym32 HTb ?restm32
 case hym32 => (intro wx hSx; obtain ⟨hb, c4, c5, c9, p0, p1, pl⟩ := HC2.out _ hSx; go_simp; try with_reducible rfl)
 try simp only [sx]
 refine wpAnyH_done (by kernel_rfl) ?_ _
 refine NoPanic.normal ?_
 have HR2 : Hid (Run w0 F0 b c d p s out _) := HR.out.ext HTb
 go_wp2_with fail
 refine bodyPost_ret (v := .bool false) (by simp [results, Try.results46, go_sem]) rfl ?_
 unfold RuleP
 rw [HN.out]
 exact ⟨rfl, HR2.out⟩
set_option maxHeartbeats 4000000 in
theorem choose_two {w0 W : World} {F0 : Nat → Prop} {b c d : Nat} {p : Pm} {s : Ag} {out : List Vt} {R : Nat} (hR : s.rd = (R : Int)) (h6 : R < 64) (hd : s.dn = false) (hp : okP p) (hi : InvA p s) (hl : out.length ≤ 9000) (hs : ¬ s.st = 1) (h2 : s.st = 2) (hv : ¬ s.vr = s.rd) (hz : (pvl s.ps R).size ≠ 0) (hz2 : (pvl s.ps R).size ≤ 4096) (hm : isA p s.vs 2 s.rd (pvl s.ps R) = true) (hn : r5 p s = some (voteA p (lockA s (pvl s.ps R)) 3 (pvl s.ps R))) (h : Run w0 F0 b c d p s out W) : Calls Try.prog 46 #[.pointer (some ⟨b, 0, none⟩)] W fun e w' => RuleP (r5 p s) w0 F0 b c d p s out e w' := by
 have HR0 : Hid (Run w0 F0 b c d p s out W) := h
 have HC : Hid (∀ wx, Ext W wx → b < wx.heap.size ∧ wx.cell? ⟨b, 4, none⟩ = some (.int .i64 (R : Int)) ∧ wx.cell? ⟨b, 10 + R * 2, none⟩ = some (.string (pvl s.ps R)) ∧ wx.cell? ⟨b, 10 + R * 2 + 1, none⟩ = some (.int .i64 (pva s.ps R))) := fun wx hx => by
  have q := HR0.out.ext hx
  obtain ⟨hb, _, _, _, c4, _⟩ := q.at
  obtain ⟨v0, v1⟩ := q.prop hd h6
  exact ⟨hb, by rw [← hR]; exact c4, v0, v1⟩
 have r0 : (0 : Int) ≤ (R : Int) := by omega
 have r6 : (R : Int) < 64 := by omega
 clear h
 have HD : Hid (s.dn = false) := hd
 have HRR : Hid (s.rd = (R : Int)) := hR
 have HN : Hid (r5 p s = some (voteA p (lockA s (pvl s.ps R)) 3 (pvl s.ps R))) := hn
 have HM : Hid (∀ wx, Run w0 F0 b c d p s out wx → Calls Try.prog 56 #[.pointer (some ⟨b, 0, none⟩), .int .i64 2, .int .i64 (R : Int), .string (pvl s.ps R)] wx fun e w' => e = .returned (.bool true) ∧ Ext wx w') := fun wx hw => by rw [← hm, ← hR]; exact hw.most hp hi hd _ wf2 (WalkArith.wf_i64 (by omega))
 have e1 : (s.st == 1) = false := by simpa using hs
 have e3 : (s.st == 2) = true := by simpa using h2
 have e2 : (s.vr == (R : Int)) = false := by rw [← hR]; simpa using hv
 have q4 := isEmpty_some hz
 have q5 := toList_some hz
 have HL : Hid (out.length ≤ 10000) := Nat.le_trans hl (by decide)
 have HZ : Hid ((pvl s.ps R).size ≤ 4096) := hz2
 have HB0 : Hid (b < W.heap.size) := HR0.out.at.1
 clear hs hd hR h6 hn hv hz hz2 hm hp hi hl h2
 go_enter Try.func46, Try.ntmps46
 go_wp2_with fail
 refine wp_region_noPanic ?_
 refine wp_region_held (S := Ext W) (by kernel_rfl) ?_
 rw [show ({ W with drawn := W.drawn + 1 } : World) = W.drew from rfl]
 have HS : Ext W W.drew := (Ext.refl W).drew
 generalize W.drew = y0 at *
 refine takeH (i := 0) (v := ?vr0) ?hyr0 HS ?restr0
 case hyr0 => (intro wx hSx; obtain ⟨hb, c4, v0, v1⟩ := HC.out _ hSx; go_simp; try with_reducible rfl)
 try simp only [sx]
 refine takeH (i := 1) (v := ?vr1) ?hyr1 HS ?restr1
 case hyr1 => (intro wx hSx; obtain ⟨hb, c4, v0, v1⟩ := HC.out _ hSx; go_simp; try with_reducible rfl)
 try simp only [sx]
 refine takeH (i := 2) (v := ?vr2) ?hyr2 HS ?restr2
 case hyr2 => (intro wx hSx; obtain ⟨hb, c4, v0, v1⟩ := HC.out _ hSx; go_simp; try with_reducible rfl)
 try simp only [sx]
 refine takeH (i := 3) (v := ?vr3) ?hyr3 HS ?restr3
 case hyr3 => (intro wx hSx; obtain ⟨hb, c4, v0, v1⟩ := HC.out _ hSx; go_simp; try with_reducible rfl)
 try simp only [sx]
 refine takeH (i := 4) (v := ?vr4) ?hyr4 HS ?restr4
 case hyr4 => (intro wx hSx; obtain ⟨hb, c4, v0, v1⟩ := HC.out _ hSx; go_simp; try with_reducible rfl)
 try simp only [sx]
 refine takeH (i := 5) (v := ?vr5) ?hyr5 HS ?restr5
 case hyr5 => (intro wx hSx; obtain ⟨hb, c4, v0, v1⟩ := HC.out _ hSx; go_simp; try with_reducible rfl)
 try simp only [sx]
 refine takeH (i := 6) (v := ?vr6) ?hyr6 HS ?restr6
 case hyr6 => (intro wx hSx; obtain ⟨hb, c4, v0, v1⟩ := HC.out _ hSx; go_simp; try with_reducible rfl)
 try simp only [sx]
 refine takeH (i := 7) (v := ?vr7) ?hyr7 HS ?restr7
 case hyr7 => (intro wx hSx; obtain ⟨hb, c4, v0, v1⟩ := HC.out _ hSx; go_simp; try with_reducible rfl)
 try simp only [sx]
 refine takeH (i := 8) (v := ?vr8) ?hyr8 HS ?restr8
 case hyr8 => (intro wx hSx; obtain ⟨hb, c4, v0, v1⟩ := HC.out _ hSx; go_simp; try with_reducible rfl)
 try simp only [sx]
 refine held_one (i := 9) (by kernel_rfl) rfl rfl (fun K hK => ?_)
 go_simp
 have HSa : Ext W (y0.alloc (.cells #[.string ⟨#[]⟩, .int .i64 0] 60)) := HS.alloc _
 have HG0 : W.heap.size ≤ y0.heap.size := HS.size
 try go_simp
 refine hK.out _ _ ⟨HSa, ?_⟩
 clear hK K
 try simp only [sx]
 refine held_one (i := 10) (by kernel_rfl) rfl rfl (fun K hK => ?_)
 go_simp
 have HSc : Ext W (y0.alloc (.cells #[.string (pvl s.ps R), .int .i64 (pva s.ps R)] 60)) := HS.alloc _
 have HP : Hid (∀ wx, Ext (y0.alloc (.cells #[.string (pvl s.ps R), .int .i64 (pva s.ps R)] 60)) wx → wx.cell? ⟨y0.heap.size, 0, none⟩ = some (.string (pvl s.ps R)) ∧ wx.cell? ⟨y0.heap.size, 1, none⟩ = some (.int .i64 (pva s.ps R)) ∧ y0.heap.size < wx.heap.size) := fun wx hx => ⟨later hx (by rw [World.cell?_alloc_at _ _ _ _ rfl]; rfl), later hx (by rw [World.cell?_alloc_at _ _ _ _ rfl]; rfl), Nat.lt_of_lt_of_le (by simp) hx.size⟩
 generalize y0.alloc (.cells #[.string (pvl s.ps R), .int .i64 (pva s.ps R)] 60) = y1 at *
 have HGB : Hid (¬ y0.heap.size = b) := fun q => by have := HB0.out; have := HS.size; omega
 generalize y0.heap.size = g at *
 try go_simp
 refine hK.out _ _ ⟨HSc, ?_⟩
 clear hK K
 try simp only [sx]
 refine wpAnyH_done (by kernel_rfl) ?_ _
 refine NoPanic.normal ?_
 have HR : Hid (Run w0 F0 b c d p s out y1) := HR0.out.ext HSc
 have HC2 : Hid (∀ wx, Ext y1 wx → b < wx.heap.size ∧ wx.cell? ⟨b, 4, none⟩ = some (.int .i64 (R : Int)) ∧ wx.cell? ⟨b, 5, none⟩ = some (.int .i64 s.st) ∧ wx.cell? ⟨b, 9, none⟩ = some (.int .i64 s.vr) ∧ wx.cell? ⟨g, 0, none⟩ = some (.string (pvl s.ps R)) ∧ wx.cell? ⟨g, 1, none⟩ = some (.int .i64 (pva s.ps R)) ∧ g < wx.heap.size) := fun wx hx => by
  have q := HR.out.ext hx
  obtain ⟨hb, _, _, _, c4, c5, _⟩ := q.at
  obtain ⟨_, _, c9⟩ := q.live HD.out
  exact ⟨hb, by rw [← HRR.out]; exact c4, c5, c9, HP.out wx hx⟩
 clear HSc HS HG0 HSa
 go_wp2_with fail
 refine wp_region_noPanic ?_
 refine wp_region_held (S := Ext y1) (by kernel_rfl) ?_
 rw [show ({ y1 with drawn := y1.drawn + 1 } : World) = y1.drew from rfl]
 have HT : Ext y1 y1.drew := (Ext.refl y1).drew
 generalize y1.drew = y2 at *
 refine takeH (i := 0) (v := ?vm0) ?hym0 HT ?restm0
 case hym0 => (intro wx hSx; obtain ⟨hb, c4, c5, c9, p0, p1, pl⟩ := HC2.out _ hSx; go_simp; try with_reducible rfl)
 try simp only [sx]
 refine takeH (i := 1) (v := ?vm1) ?hym1 HT ?restm1
 case hym1 => (intro wx hSx; obtain ⟨hb, c4, c5, c9, p0, p1, pl⟩ := HC2.out _ hSx; go_simp; try with_reducible rfl)
 try simp only [sx]
 refine takeH (i := 2) (v := ?vm2) ?hym2 HT ?restm2
 case hym2 => (intro wx hSx; obtain ⟨hb, c4, c5, c9, p0, p1, pl⟩ := HC2.out _ hSx; go_simp; try with_reducible rfl)
 try simp only [sx]
 refine takeH (i := 3) (v := ?vm3) ?hym3 HT ?restm3
 case hym3 => (intro wx hSx; obtain ⟨hb, c4, c5, c9, p0, p1, pl⟩ := HC2.out _ hSx; go_simp; try with_reducible rfl)
 try simp only [sx]
 refine takeH (i := 4) (v := ?vm4) ?hym4 HT ?restm4
 case hym4 => (intro wx hSx; obtain ⟨hb, c4, c5, c9, p0, p1, pl⟩ := HC2.out _ hSx; go_simp; try with_reducible rfl)
 try simp only [sx]
 refine takeH (i := 5) (v := ?vm5) ?hym5 HT ?restm5
 case hym5 => (intro wx hSx; obtain ⟨hb, c4, c5, c9, p0, p1, pl⟩ := HC2.out _ hSx; go_simp; try with_reducible rfl)
 try simp only [sx]
 refine takeH (i := 6) (v := ?vm6) ?hym6 HT ?restm6
 case hym6 => (intro wx hSx; obtain ⟨hb, c4, c5, c9, p0, p1, pl⟩ := HC2.out _ hSx; go_simp; try with_reducible rfl)
 try simp only [sx]
 refine takeH (i := 7) (v := ?vm7) ?hym7 HT ?restm7
 case hym7 => (intro wx hSx; obtain ⟨hb, c4, c5, c9, p0, p1, pl⟩ := HC2.out _ hSx; go_simp; try with_reducible rfl)
 try simp only [sx]
 refine takeH (i := 8) (v := ?vm8) ?hym8 HT ?restm8
 case hym8 => (intro wx hSx; obtain ⟨hb, c4, c5, c9, p0, p1, pl⟩ := HC2.out _ hSx; go_simp; try with_reducible rfl)
 try simp only [sx]
 refine takeH (i := 9) (v := ?vm9) ?hym9 HT ?restm9
 case hym9 => (intro wx hSx; obtain ⟨hb, c4, c5, c9, p0, p1, pl⟩ := HC2.out _ hSx; go_simp; try with_reducible rfl)
 try simp only [sx]
 refine takeH (i := 10) (v := ?vm10) ?hym10 HT ?restm10
 case hym10 => (intro wx hSx; obtain ⟨hb, c4, c5, c9, p0, p1, pl⟩ := HC2.out _ hSx; go_simp; try with_reducible rfl)
 try simp only [sx]
 refine takeH (i := 11) (v := ?vm11) ?hym11 HT ?restm11
 case hym11 => (intro wx hSx; obtain ⟨hb, c4, c5, c9, p0, p1, pl⟩ := HC2.out _ hSx; go_simp; try with_reducible rfl)
 try simp only [sx]
 refine takeH (i := 12) (v := ?vm12) ?hym12 HT ?restm12
 case hym12 => (intro wx hSx; obtain ⟨hb, c4, c5, c9, p0, p1, pl⟩ := HC2.out _ hSx; go_simp; try with_reducible rfl)
 try simp only [sx]
 refine takeH (i := 13) (v := ?vm13) ?hym13 HT ?restm13
 case hym13 => (intro wx hSx; obtain ⟨hb, c4, c5, c9, p0, p1, pl⟩ := HC2.out _ hSx; go_simp; try with_reducible rfl)
 try simp only [sx]
 refine takeH (i := 14) (v := ?vm14) ?hym14 HT ?restm14
 case hym14 => (intro wx hSx; obtain ⟨hb, c4, c5, c9, p0, p1, pl⟩ := HC2.out _ hSx; go_simp; try with_reducible rfl)
 try simp only [sx]
 refine takeH (i := 15) (v := ?vm15) ?hym15 HT ?restm15
 case hym15 => (intro wx hSx; obtain ⟨hb, c4, c5, c9, p0, p1, pl⟩ := HC2.out _ hSx; go_simp; try with_reducible rfl)
 try simp only [sx]
 refine takeH (i := 16) (v := ?vm16) ?hym16 HT ?restm16
 case hym16 => (intro wx hSx; obtain ⟨hb, c4, c5, c9, p0, p1, pl⟩ := HC2.out _ hSx; go_simp; try with_reducible rfl)
 try simp only [sx]
 refine takeH (i := 17) (v := ?vm17) ?hym17 HT ?restm17
 case hym17 => (intro wx hSx; obtain ⟨hb, c4, c5, c9, p0, p1, pl⟩ := HC2.out _ hSx; go_simp; try with_reducible rfl)
 try simp only [sx]
 refine takeH (i := 18) (v := ?vm18) ?hym18 HT ?restm18
 case hym18 => (intro wx hSx; obtain ⟨hb, c4, c5, c9, p0, p1, pl⟩ := HC2.out _ hSx; go_simp; try with_reducible rfl)
 try simp only [sx]
 refine takeH (i := 19) (v := ?vm19) ?hym19 HT ?restm19
 case hym19 => (intro wx hSx; obtain ⟨hb, c4, c5, c9, p0, p1, pl⟩ := HC2.out _ hSx; go_simp; try with_reducible rfl)
 try simp only [sx]
 refine takeH (i := 20) (v := ?vm20) ?hym20 HT ?restm20
 case hym20 => (intro wx hSx; obtain ⟨hb, c4, c5, c9, p0, p1, pl⟩ := HC2.out _ hSx; go_simp; try with_reducible rfl)
 try simp only [sx]
 refine takeH (i := 21) (v := ?vm21) ?hym21 HT ?restm21
 case hym21 => (intro wx hSx; obtain ⟨hb, c4, c5, c9, p0, p1, pl⟩ := HC2.out _ hSx; go_simp; try with_reducible rfl)
 try simp only [sx]
 refine takeH (i := 22) (v := ?vm22) ?hym22 HT ?restm22
 case hym22 => (intro wx hSx; obtain ⟨hb, c4, c5, c9, p0, p1, pl⟩ := HC2.out _ hSx; go_simp; try with_reducible rfl)
 try simp only [sx]
 refine takeH (i := 23) (v := ?vm23) ?hym23 HT ?restm23
 case hym23 => (intro wx hSx; obtain ⟨hb, c4, c5, c9, p0, p1, pl⟩ := HC2.out _ hSx; go_simp; try with_reducible rfl)
 try simp only [sx]
 refine takeH (i := 24) (v := ?vm24) ?hym24 HT ?restm24
 case hym24 => (intro wx hSx; obtain ⟨hb, c4, c5, c9, p0, p1, pl⟩ := HC2.out _ hSx; go_simp; try with_reducible rfl)
 try simp only [sx]
 refine takeH (i := 25) (v := ?vm25) ?hym25 HT ?restm25
 case hym25 => (intro wx hSx; obtain ⟨hb, c4, c5, c9, p0, p1, pl⟩ := HC2.out _ hSx; go_simp; try with_reducible rfl)
 try simp only [sx]
 refine takeH (i := 26) (v := ?vm26) ?hym26 HT ?restm26
 case hym26 => (intro wx hSx; obtain ⟨hb, c4, c5, c9, p0, p1, pl⟩ := HC2.out _ hSx; go_simp; try with_reducible rfl)
 try simp only [sx]
 refine takeH (i := 27) (v := ?vm27) ?hym27 HT ?restm27
 case hym27 => (intro wx hSx; obtain ⟨hb, c4, c5, c9, p0, p1, pl⟩ := HC2.out _ hSx; go_simp; try with_reducible rfl)
 try simp only [sx]
 refine takeH (i := 28) (v := ?vm28) ?hym28 HT ?restm28
 case hym28 => (intro wx hSx; obtain ⟨hb, c4, c5, c9, p0, p1, pl⟩ := HC2.out _ hSx; go_simp; try with_reducible rfl)
 try simp only [sx]
 refine takeH (i := 29) (v := ?vm29) ?hym29 HT ?restm29
 case hym29 => (intro wx hSx; obtain ⟨hb, c4, c5, c9, p0, p1, pl⟩ := HC2.out _ hSx; go_simp; try with_reducible rfl)
 try simp only [sx]
 refine held_one (i := 30) (by kernel_rfl) rfl rfl (fun K hK => ?_)
 go_simp
 refine (HM.out _ (HR.out.ext HT)).mono ?_
 rintro e y3 ⟨rfl, HX3⟩
 have HTb : Ext y1 y3 := HT.trans HX3
 try go_simp
 refine hK.out _ _ ⟨HTb, ?_⟩
 clear hK K
 try simp only [sx]
 refine takeH (i := 31) (v := ?vm31) ?hym31 HTb ?restm31
 case hym31 => (intro wx hSx; obtain ⟨hb, c4, c5, c9, p0, p1, pl⟩ := HC2.out _ hSx; go_simp; try with_reducible rfl)
 try simp only [sx]
 refine takeH (i := 32) (v := ?vm32) ?hym32 HTb ?restm32
 case hym32 => (intro wx hSx; obtain ⟨hb, c4, c5, c9, p0, p1, pl⟩ := HC2.out _ hSx; go_simp; try with_reducible rfl)
 try simp only [sx]
 refine wpAnyH_done (by kernel_rfl) ?_ _
 refine NoPanic.normal ?_
 go_wp2_with fail
 refine wp_region_noPanic ?_
 refine wp_region_held (S := fun wx => (∃ B' r', Run w0 F0 b c d p { s with vv := B', vr := r' } out wx) ∧ wx.cell? ⟨g, 0, none⟩ = some (.string (pvl s.ps R)) ∧ g < wx.heap.size) (by kernel_rfl) ?_
 rw [show ({ y3 with drawn := y3.drawn + 1 } : World) = y3.drew from rfl]
 have HU : Ext y3 y3.drew := (Ext.refl y3).drew
 generalize y3.drew = y4 at *
 have HR4 : Hid (Run w0 F0 b c d p s out y4) := HR.out.ext (HTb.trans HU)
 have HSV : (fun wx => (∃ B' r', Run w0 F0 b c d p { s with vv := B', vr := r' } out wx) ∧ wx.cell? ⟨g, 0, none⟩ = some (.string (pvl s.ps R)) ∧ g < wx.heap.size) y4 := ⟨⟨s.vv, s.vr, HR4.out⟩, (HC2.out _ (HTb.trans HU)).2.2.2.2.1, (HC2.out _ (HTb.trans HU)).2.2.2.2.2.2⟩
 refine takeH (i := 0) (v := ?vu0) ?hyu0 HSV ?restu0
 case hyu0 => (intro wx hSx; obtain ⟨⟨B', r', hq⟩, p0, pl⟩ := hSx; obtain ⟨hb, _, _, _, x4, _⟩ := hq.at; have c4 : wx.cell? ⟨b, 4, none⟩ = some (.int .i64 (R : Int)) := (by rw [← HRR.out]; exact x4); clear x4; go_simp; try with_reducible rfl)
 try simp only [sx]
 refine takeH (i := 1) (v := ?vu1) ?hyu1 HSV ?restu1
 case hyu1 => (intro wx hSx; obtain ⟨⟨B', r', hq⟩, p0, pl⟩ := hSx; obtain ⟨hb, _, _, _, x4, _⟩ := hq.at; have c4 : wx.cell? ⟨b, 4, none⟩ = some (.int .i64 (R : Int)) := (by rw [← HRR.out]; exact x4); clear x4; go_simp; try with_reducible rfl)
 try simp only [sx]
 refine takeH (i := 2) (v := ?vu2) ?hyu2 HSV ?restu2
 case hyu2 => (intro wx hSx; obtain ⟨⟨B', r', hq⟩, p0, pl⟩ := hSx; obtain ⟨hb, _, _, _, x4, _⟩ := hq.at; have c4 : wx.cell? ⟨b, 4, none⟩ = some (.int .i64 (R : Int)) := (by rw [← HRR.out]; exact x4); clear x4; go_simp; try with_reducible rfl)
 try simp only [sx]
 refine takeH (i := 3) (v := ?vu3) ?hyu3 HSV ?restu3
 case hyu3 => (intro wx hSx; obtain ⟨⟨B', r', hq⟩, p0, pl⟩ := hSx; obtain ⟨hb, _, _, _, x4, _⟩ := hq.at; have c4 : wx.cell? ⟨b, 4, none⟩ = some (.int .i64 (R : Int)) := (by rw [← HRR.out]; exact x4); clear x4; go_simp; try with_reducible rfl)
 try simp only [sx]
 refine takeH (i := 4) (v := ?vu4) ?hyu4 HSV ?restu4
 case hyu4 => (intro wx hSx; obtain ⟨⟨B', r', hq⟩, p0, pl⟩ := hSx; obtain ⟨hb, _, _, _, x4, _⟩ := hq.at; have c4 : wx.cell? ⟨b, 4, none⟩ = some (.int .i64 (R : Int)) := (by rw [← HRR.out]; exact x4); clear x4; go_simp; try with_reducible rfl)
 try simp only [sx]
 refine takeH (i := 5) (v := ?vu5) ?hyu5 HSV ?restu5
 case hyu5 => (intro wx hSx; obtain ⟨⟨B', r', hq⟩, p0, pl⟩ := hSx; obtain ⟨hb, _, _, _, x4, _⟩ := hq.at; have c4 : wx.cell? ⟨b, 4, none⟩ = some (.int .i64 (R : Int)) := (by rw [← HRR.out]; exact x4); clear x4; go_simp; try with_reducible rfl)
 try simp only [sx]
 refine takeH (i := 6) (v := ?vu6) ?hyu6 HSV ?restu6
 case hyu6 => (intro wx hSx; obtain ⟨⟨B', r', hq⟩, p0, pl⟩ := hSx; obtain ⟨hb, _, _, _, x4, _⟩ := hq.at; have c4 : wx.cell? ⟨b, 4, none⟩ = some (.int .i64 (R : Int)) := (by rw [← HRR.out]; exact x4); clear x4; go_simp; try with_reducible rfl)
 try simp only [sx]
 refine takeH (i := 7) (v := ?vu7) ?hyu7 HSV ?restu7
 case hyu7 => (intro wx hSx; obtain ⟨⟨B', r', hq⟩, p0, pl⟩ := hSx; obtain ⟨hb, _, _, _, x4, _⟩ := hq.at; have c4 : wx.cell? ⟨b, 4, none⟩ = some (.int .i64 (R : Int)) := (by rw [← HRR.out]; exact x4); clear x4; go_simp; try with_reducible rfl)
 try simp only [sx]
 refine takeH (i := 8) (v := ?vu8) ?hyu8 HSV ?restu8
 case hyu8 => (intro wx hSx; obtain ⟨⟨B', r', hq⟩, p0, pl⟩ := hSx; obtain ⟨hb, _, _, _, x4, _⟩ := hq.at; have c4 : wx.cell? ⟨b, 4, none⟩ = some (.int .i64 (R : Int)) := (by rw [← HRR.out]; exact x4); clear x4; go_simp; try with_reducible rfl)
 try simp only [sx]
 refine takeH (i := 9) (v := ?vu9) ?hyu9 HSV ?restu9
 case hyu9 => (intro wx hSx; obtain ⟨⟨B', r', hq⟩, p0, pl⟩ := hSx; obtain ⟨hb, _, _, _, x4, _⟩ := hq.at; have c4 : wx.cell? ⟨b, 4, none⟩ = some (.int .i64 (R : Int)) := (by rw [← HRR.out]; exact x4); clear x4; go_simp; try with_reducible rfl)
 try simp only [sx]
 refine held_one (i := 10) (by kernel_rfl) rfl rfl (fun K hK => ?_)
 obtain ⟨hb, c4, c5, c9, p0, p1, pl⟩ := HC2.out _ (HTb.trans HU)
 obtain ⟨_, c8, _⟩ := HR4.out.live HD.out
 have z8 := HR4.out.fz (i := 8) (by decide)
 have z9 := HR4.out.fz (i := 9) (by decide)
 go_simp
 have HR5 : Hid (Run w0 F0 b c d p (validA s (pvl s.ps R)) out ((y4.setCell ⟨b, 8, none⟩ (.string (pvl s.ps R))).setCell ⟨b, 9, none⟩ (.int .i64 (R : Int)))) := by
  have q := (HR4.out.setVv (pvl s.ps R)).setVr s.rd
  rw [HRR.out] at q
  show Run _ _ _ _ _ _ _ _ _
  unfold validA
  rw [HRR.out]
  exact q
 have P0 : Hid ((((y4.setCell ⟨b, 8, none⟩ (.string (pvl s.ps R))).setCell ⟨b, 9, none⟩ (.int .i64 (R : Int))).cell? ⟨g, 0, none⟩ = some (.string (pvl s.ps R))) ∧ g < ((y4.setCell ⟨b, 8, none⟩ (.string (pvl s.ps R))).setCell ⟨b, 9, none⟩ (.int .i64 (R : Int))).heap.size) := ⟨by
  rw [World.cell?_setCell_other _ _ _ _ (fun q => HGB.out (by first | exact congrArg Addr.block q | exact (congrArg Addr.block q).symm)), World.cell?_setCell_other _ _ _ _ (fun q => HGB.out (by first | exact congrArg Addr.block q | exact (congrArg Addr.block q).symm))]
  exact p0, by simpa using pl⟩
 clear hb c4 c5 c9 p0 p1 pl c8 z8 z9 HR4 HSV
 generalize (y4.setCell ⟨b, 8, none⟩ (.string (pvl s.ps R))).setCell ⟨b, 9, none⟩ (.int .i64 (R : Int)) = y5 at *
 have HSW : (fun wx => (∃ B' r', Run w0 F0 b c d p { s with vv := B', vr := r' } out wx) ∧ wx.cell? ⟨g, 0, none⟩ = some (.string (pvl s.ps R)) ∧ g < wx.heap.size) y5 := ⟨⟨pvl s.ps R, s.rd, HR5.out⟩, P0.out.1, P0.out.2⟩
 try go_simp
 refine hK.out _ _ ⟨HSW, ?_⟩
 clear hK K
 try simp only [sx]
 refine wpAnyH_done (by kernel_rfl) ?_ _
 refine NoPanic.normal ?_
 obtain ⟨p0, pl⟩ := P0.out
 clear HSW
 obtain ⟨hb, _, _, _, _, x5, x6, x7, _⟩ := HR5.out.at
 have c5 : y5.cell? ⟨b, 5, none⟩ = some (.int .i64 s.st) := x5
 have c6 : y5.cell? ⟨b, 6, none⟩ = some (.string s.lk) := x6
 have c7 : y5.cell? ⟨b, 7, none⟩ = some (.int .i64 s.lr) := x7
 clear x5 x6 x7
 obtain ⟨_, x8, x9⟩ := HR5.out.live HD.out
 have c8 : y5.cell? ⟨b, 8, none⟩ = some (.string (pvl s.ps R)) := x8
 have c9 : y5.cell? ⟨b, 9, none⟩ = some (.int .i64 (R : Int)) := by rw [← HRR.out]; exact x9
 clear x8 x9
 have z6 := HR5.out.fz (i := 6) (by decide)
 have z7 := HR5.out.fz (i := 7) (by decide)
 have ngb := HGB.out
 have nbg : ¬ b = g := fun q => ngb q.symm
 have HR6 : Hid (Run w0 F0 b c d p (lockA s (pvl s.ps R)) out ((y5.setCell ⟨b, 6, none⟩ (.string (pvl s.ps R))).setCell ⟨b, 7, none⟩ (.int .i64 (R : Int)))) := by
  have q := (HR5.out.setLk (pvl s.ps R)).setLr s.rd
  rw [HRR.out] at q
  show Run _ _ _ _ _ _ _ _ _
  unfold lockA
  rw [HRR.out]
  unfold validA at q
  rw [HRR.out] at q
  exact q
 clear HR5
 go_wp2_with fail
 refine (precommit_any (pvl s.ps R) HZ.out HL.out HR6.out).mono ?_
 rintro e y6 ⟨rfl, HR7⟩
 have HR7 : Hid _ := HR7
 go_wp2_with fail
 refine bodyPost_ret (v := .bool true) (by simp [results, Try.results46, go_sem]) rfl ?_
 unfold RuleP
 rw [HN.out]
 exact ⟨rfl, HR7.out⟩
set_option maxHeartbeats 4000000 in
theorem choose_three {w0 W : World} {F0 : Nat → Prop} {b c d : Nat} {p : Pm} {s : Ag} {out : List Vt} {R : Nat} (hR : s.rd = (R : Int)) (h6 : R < 64) (hd : s.dn = false) (hp : okP p) (hi : InvA p s) (hl : out.length ≤ 9000) (hs : ¬ s.st = 1) (h2 : ¬ s.st = 2) (hv : ¬ s.vr = s.rd) (hz : (pvl s.ps R).size ≠ 0) (hz2 : (pvl s.ps R).size ≤ 4096) (hm : isA p s.vs 2 s.rd (pvl s.ps R) = true) (hn : r5 p s = some ((validA s (pvl s.ps R), []))) (h : Run w0 F0 b c d p s out W) : Calls Try.prog 46 #[.pointer (some ⟨b, 0, none⟩)] W fun e w' => RuleP (r5 p s) w0 F0 b c d p s out e w' := by
 have HR0 : Hid (Run w0 F0 b c d p s out W) := h
 have HC : Hid (∀ wx, Ext W wx → b < wx.heap.size ∧ wx.cell? ⟨b, 4, none⟩ = some (.int .i64 (R : Int)) ∧ wx.cell? ⟨b, 10 + R * 2, none⟩ = some (.string (pvl s.ps R)) ∧ wx.cell? ⟨b, 10 + R * 2 + 1, none⟩ = some (.int .i64 (pva s.ps R))) := fun wx hx => by
  have q := HR0.out.ext hx
  obtain ⟨hb, _, _, _, c4, _⟩ := q.at
  obtain ⟨v0, v1⟩ := q.prop hd h6
  exact ⟨hb, by rw [← hR]; exact c4, v0, v1⟩
 have r0 : (0 : Int) ≤ (R : Int) := by omega
 have r6 : (R : Int) < 64 := by omega
 clear h
 have HD : Hid (s.dn = false) := hd
 have HRR : Hid (s.rd = (R : Int)) := hR
 have HN : Hid (r5 p s = some ((validA s (pvl s.ps R), []))) := hn
 have HM : Hid (∀ wx, Run w0 F0 b c d p s out wx → Calls Try.prog 56 #[.pointer (some ⟨b, 0, none⟩), .int .i64 2, .int .i64 (R : Int), .string (pvl s.ps R)] wx fun e w' => e = .returned (.bool true) ∧ Ext wx w') := fun wx hw => by rw [← hm, ← hR]; exact hw.most hp hi hd _ wf2 (WalkArith.wf_i64 (by omega))
 have e1 : (s.st == 1) = false := by simpa using hs
 have e3 : (s.st == 2) = false := by simpa using h2
 have e2 : (s.vr == (R : Int)) = false := by rw [← hR]; simpa using hv
 have q4 := isEmpty_some hz
 have q5 := toList_some hz
 have HL : Hid (out.length ≤ 10000) := Nat.le_trans hl (by decide)
 have HZ : Hid ((pvl s.ps R).size ≤ 4096) := hz2
 have HB0 : Hid (b < W.heap.size) := HR0.out.at.1
 clear hs hd hR h6 hn hv hz hz2 hm hp hi hl h2
 go_enter Try.func46, Try.ntmps46
 go_wp2_with fail
 refine wp_region_noPanic ?_
 refine wp_region_held (S := Ext W) (by kernel_rfl) ?_
 rw [show ({ W with drawn := W.drawn + 1 } : World) = W.drew from rfl]
 have HS : Ext W W.drew := (Ext.refl W).drew
 generalize W.drew = y0 at *
 refine takeH (i := 0) (v := ?vr0) ?hyr0 HS ?restr0
 case hyr0 => (intro wx hSx; obtain ⟨hb, c4, v0, v1⟩ := HC.out _ hSx; go_simp; try with_reducible rfl)
 try simp only [sx]
 refine takeH (i := 1) (v := ?vr1) ?hyr1 HS ?restr1
 case hyr1 => (intro wx hSx; obtain ⟨hb, c4, v0, v1⟩ := HC.out _ hSx; go_simp; try with_reducible rfl)
 try simp only [sx]
 refine takeH (i := 2) (v := ?vr2) ?hyr2 HS ?restr2
 case hyr2 => (intro wx hSx; obtain ⟨hb, c4, v0, v1⟩ := HC.out _ hSx; go_simp; try with_reducible rfl)
 try simp only [sx]
 refine takeH (i := 3) (v := ?vr3) ?hyr3 HS ?restr3
 case hyr3 => (intro wx hSx; obtain ⟨hb, c4, v0, v1⟩ := HC.out _ hSx; go_simp; try with_reducible rfl)
 try simp only [sx]
 refine takeH (i := 4) (v := ?vr4) ?hyr4 HS ?restr4
 case hyr4 => (intro wx hSx; obtain ⟨hb, c4, v0, v1⟩ := HC.out _ hSx; go_simp; try with_reducible rfl)
 try simp only [sx]
 refine takeH (i := 5) (v := ?vr5) ?hyr5 HS ?restr5
 case hyr5 => (intro wx hSx; obtain ⟨hb, c4, v0, v1⟩ := HC.out _ hSx; go_simp; try with_reducible rfl)
 try simp only [sx]
 refine takeH (i := 6) (v := ?vr6) ?hyr6 HS ?restr6
 case hyr6 => (intro wx hSx; obtain ⟨hb, c4, v0, v1⟩ := HC.out _ hSx; go_simp; try with_reducible rfl)
 try simp only [sx]
 refine takeH (i := 7) (v := ?vr7) ?hyr7 HS ?restr7
 case hyr7 => (intro wx hSx; obtain ⟨hb, c4, v0, v1⟩ := HC.out _ hSx; go_simp; try with_reducible rfl)
 try simp only [sx]
 refine takeH (i := 8) (v := ?vr8) ?hyr8 HS ?restr8
 case hyr8 => (intro wx hSx; obtain ⟨hb, c4, v0, v1⟩ := HC.out _ hSx; go_simp; try with_reducible rfl)
 try simp only [sx]
 refine held_one (i := 9) (by kernel_rfl) rfl rfl (fun K hK => ?_)
 go_simp
 have HSa : Ext W (y0.alloc (.cells #[.string ⟨#[]⟩, .int .i64 0] 60)) := HS.alloc _
 have HG0 : W.heap.size ≤ y0.heap.size := HS.size
 try go_simp
 refine hK.out _ _ ⟨HSa, ?_⟩
 clear hK K
 try simp only [sx]
 refine held_one (i := 10) (by kernel_rfl) rfl rfl (fun K hK => ?_)
 go_simp
 have HSc : Ext W (y0.alloc (.cells #[.string (pvl s.ps R), .int .i64 (pva s.ps R)] 60)) := HS.alloc _
 have HP : Hid (∀ wx, Ext (y0.alloc (.cells #[.string (pvl s.ps R), .int .i64 (pva s.ps R)] 60)) wx → wx.cell? ⟨y0.heap.size, 0, none⟩ = some (.string (pvl s.ps R)) ∧ wx.cell? ⟨y0.heap.size, 1, none⟩ = some (.int .i64 (pva s.ps R)) ∧ y0.heap.size < wx.heap.size) := fun wx hx => ⟨later hx (by rw [World.cell?_alloc_at _ _ _ _ rfl]; rfl), later hx (by rw [World.cell?_alloc_at _ _ _ _ rfl]; rfl), Nat.lt_of_lt_of_le (by simp) hx.size⟩
 generalize y0.alloc (.cells #[.string (pvl s.ps R), .int .i64 (pva s.ps R)] 60) = y1 at *
 have HGB : Hid (¬ y0.heap.size = b) := fun q => by have := HB0.out; have := HS.size; omega
 generalize y0.heap.size = g at *
 try go_simp
 refine hK.out _ _ ⟨HSc, ?_⟩
 clear hK K
 try simp only [sx]
 refine wpAnyH_done (by kernel_rfl) ?_ _
 refine NoPanic.normal ?_
 have HR : Hid (Run w0 F0 b c d p s out y1) := HR0.out.ext HSc
 have HC2 : Hid (∀ wx, Ext y1 wx → b < wx.heap.size ∧ wx.cell? ⟨b, 4, none⟩ = some (.int .i64 (R : Int)) ∧ wx.cell? ⟨b, 5, none⟩ = some (.int .i64 s.st) ∧ wx.cell? ⟨b, 9, none⟩ = some (.int .i64 s.vr) ∧ wx.cell? ⟨g, 0, none⟩ = some (.string (pvl s.ps R)) ∧ wx.cell? ⟨g, 1, none⟩ = some (.int .i64 (pva s.ps R)) ∧ g < wx.heap.size) := fun wx hx => by
  have q := HR.out.ext hx
  obtain ⟨hb, _, _, _, c4, c5, _⟩ := q.at
  obtain ⟨_, _, c9⟩ := q.live HD.out
  exact ⟨hb, by rw [← HRR.out]; exact c4, c5, c9, HP.out wx hx⟩
 clear HSc HS HG0 HSa
 go_wp2_with fail
 refine wp_region_noPanic ?_
 refine wp_region_held (S := Ext y1) (by kernel_rfl) ?_
 rw [show ({ y1 with drawn := y1.drawn + 1 } : World) = y1.drew from rfl]
 have HT : Ext y1 y1.drew := (Ext.refl y1).drew
 generalize y1.drew = y2 at *
 refine takeH (i := 0) (v := ?vm0) ?hym0 HT ?restm0
 case hym0 => (intro wx hSx; obtain ⟨hb, c4, c5, c9, p0, p1, pl⟩ := HC2.out _ hSx; go_simp; try with_reducible rfl)
 try simp only [sx]
 refine takeH (i := 1) (v := ?vm1) ?hym1 HT ?restm1
 case hym1 => (intro wx hSx; obtain ⟨hb, c4, c5, c9, p0, p1, pl⟩ := HC2.out _ hSx; go_simp; try with_reducible rfl)
 try simp only [sx]
 refine takeH (i := 2) (v := ?vm2) ?hym2 HT ?restm2
 case hym2 => (intro wx hSx; obtain ⟨hb, c4, c5, c9, p0, p1, pl⟩ := HC2.out _ hSx; go_simp; try with_reducible rfl)
 try simp only [sx]
 refine takeH (i := 3) (v := ?vm3) ?hym3 HT ?restm3
 case hym3 => (intro wx hSx; obtain ⟨hb, c4, c5, c9, p0, p1, pl⟩ := HC2.out _ hSx; go_simp; try with_reducible rfl)
 try simp only [sx]
 refine takeH (i := 4) (v := ?vm4) ?hym4 HT ?restm4
 case hym4 => (intro wx hSx; obtain ⟨hb, c4, c5, c9, p0, p1, pl⟩ := HC2.out _ hSx; go_simp; try with_reducible rfl)
 try simp only [sx]
 refine takeH (i := 5) (v := ?vm5) ?hym5 HT ?restm5
 case hym5 => (intro wx hSx; obtain ⟨hb, c4, c5, c9, p0, p1, pl⟩ := HC2.out _ hSx; go_simp; try with_reducible rfl)
 try simp only [sx]
 refine takeH (i := 6) (v := ?vm6) ?hym6 HT ?restm6
 case hym6 => (intro wx hSx; obtain ⟨hb, c4, c5, c9, p0, p1, pl⟩ := HC2.out _ hSx; go_simp; try with_reducible rfl)
 try simp only [sx]
 refine takeH (i := 7) (v := ?vm7) ?hym7 HT ?restm7
 case hym7 => (intro wx hSx; obtain ⟨hb, c4, c5, c9, p0, p1, pl⟩ := HC2.out _ hSx; go_simp; try with_reducible rfl)
 try simp only [sx]
 refine takeH (i := 8) (v := ?vm8) ?hym8 HT ?restm8
 case hym8 => (intro wx hSx; obtain ⟨hb, c4, c5, c9, p0, p1, pl⟩ := HC2.out _ hSx; go_simp; try with_reducible rfl)
 try simp only [sx]
 refine takeH (i := 9) (v := ?vm9) ?hym9 HT ?restm9
 case hym9 => (intro wx hSx; obtain ⟨hb, c4, c5, c9, p0, p1, pl⟩ := HC2.out _ hSx; go_simp; try with_reducible rfl)
 try simp only [sx]
 refine takeH (i := 10) (v := ?vm10) ?hym10 HT ?restm10
 case hym10 => (intro wx hSx; obtain ⟨hb, c4, c5, c9, p0, p1, pl⟩ := HC2.out _ hSx; go_simp; try with_reducible rfl)
 try simp only [sx]
 refine takeH (i := 11) (v := ?vm11) ?hym11 HT ?restm11
 case hym11 => (intro wx hSx; obtain ⟨hb, c4, c5, c9, p0, p1, pl⟩ := HC2.out _ hSx; go_simp; try with_reducible rfl)
 try simp only [sx]
 refine takeH (i := 12) (v := ?vm12) ?hym12 HT ?restm12
 case hym12 => (intro wx hSx; obtain ⟨hb, c4, c5, c9, p0, p1, pl⟩ := HC2.out _ hSx; go_simp; try with_reducible rfl)
 try simp only [sx]
 refine takeH (i := 13) (v := ?vm13) ?hym13 HT ?restm13
 case hym13 => (intro wx hSx; obtain ⟨hb, c4, c5, c9, p0, p1, pl⟩ := HC2.out _ hSx; go_simp; try with_reducible rfl)
 try simp only [sx]
 refine takeH (i := 14) (v := ?vm14) ?hym14 HT ?restm14
 case hym14 => (intro wx hSx; obtain ⟨hb, c4, c5, c9, p0, p1, pl⟩ := HC2.out _ hSx; go_simp; try with_reducible rfl)
 try simp only [sx]
 refine takeH (i := 15) (v := ?vm15) ?hym15 HT ?restm15
 case hym15 => (intro wx hSx; obtain ⟨hb, c4, c5, c9, p0, p1, pl⟩ := HC2.out _ hSx; go_simp; try with_reducible rfl)
 try simp only [sx]
 refine takeH (i := 16) (v := ?vm16) ?hym16 HT ?restm16
 case hym16 => (intro wx hSx; obtain ⟨hb, c4, c5, c9, p0, p1, pl⟩ := HC2.out _ hSx; go_simp; try with_reducible rfl)
 try simp only [sx]
 refine takeH (i := 17) (v := ?vm17) ?hym17 HT ?restm17
 case hym17 => (intro wx hSx; obtain ⟨hb, c4, c5, c9, p0, p1, pl⟩ := HC2.out _ hSx; go_simp; try with_reducible rfl)
 try simp only [sx]
 refine takeH (i := 18) (v := ?vm18) ?hym18 HT ?restm18
 case hym18 => (intro wx hSx; obtain ⟨hb, c4, c5, c9, p0, p1, pl⟩ := HC2.out _ hSx; go_simp; try with_reducible rfl)
 try simp only [sx]
 refine takeH (i := 19) (v := ?vm19) ?hym19 HT ?restm19
 case hym19 => (intro wx hSx; obtain ⟨hb, c4, c5, c9, p0, p1, pl⟩ := HC2.out _ hSx; go_simp; try with_reducible rfl)
 try simp only [sx]
 refine takeH (i := 20) (v := ?vm20) ?hym20 HT ?restm20
 case hym20 => (intro wx hSx; obtain ⟨hb, c4, c5, c9, p0, p1, pl⟩ := HC2.out _ hSx; go_simp; try with_reducible rfl)
 try simp only [sx]
 refine takeH (i := 21) (v := ?vm21) ?hym21 HT ?restm21
 case hym21 => (intro wx hSx; obtain ⟨hb, c4, c5, c9, p0, p1, pl⟩ := HC2.out _ hSx; go_simp; try with_reducible rfl)
 try simp only [sx]
 refine takeH (i := 22) (v := ?vm22) ?hym22 HT ?restm22
 case hym22 => (intro wx hSx; obtain ⟨hb, c4, c5, c9, p0, p1, pl⟩ := HC2.out _ hSx; go_simp; try with_reducible rfl)
 try simp only [sx]
 refine takeH (i := 23) (v := ?vm23) ?hym23 HT ?restm23
 case hym23 => (intro wx hSx; obtain ⟨hb, c4, c5, c9, p0, p1, pl⟩ := HC2.out _ hSx; go_simp; try with_reducible rfl)
 try simp only [sx]
 refine takeH (i := 24) (v := ?vm24) ?hym24 HT ?restm24
 case hym24 => (intro wx hSx; obtain ⟨hb, c4, c5, c9, p0, p1, pl⟩ := HC2.out _ hSx; go_simp; try with_reducible rfl)
 try simp only [sx]
 refine takeH (i := 25) (v := ?vm25) ?hym25 HT ?restm25
 case hym25 => (intro wx hSx; obtain ⟨hb, c4, c5, c9, p0, p1, pl⟩ := HC2.out _ hSx; go_simp; try with_reducible rfl)
 try simp only [sx]
 refine takeH (i := 26) (v := ?vm26) ?hym26 HT ?restm26
 case hym26 => (intro wx hSx; obtain ⟨hb, c4, c5, c9, p0, p1, pl⟩ := HC2.out _ hSx; go_simp; try with_reducible rfl)
 try simp only [sx]
 refine takeH (i := 27) (v := ?vm27) ?hym27 HT ?restm27
 case hym27 => (intro wx hSx; obtain ⟨hb, c4, c5, c9, p0, p1, pl⟩ := HC2.out _ hSx; go_simp; try with_reducible rfl)
 try simp only [sx]
 refine takeH (i := 28) (v := ?vm28) ?hym28 HT ?restm28
 case hym28 => (intro wx hSx; obtain ⟨hb, c4, c5, c9, p0, p1, pl⟩ := HC2.out _ hSx; go_simp; try with_reducible rfl)
 try simp only [sx]
 refine takeH (i := 29) (v := ?vm29) ?hym29 HT ?restm29
 case hym29 => (intro wx hSx; obtain ⟨hb, c4, c5, c9, p0, p1, pl⟩ := HC2.out _ hSx; go_simp; try with_reducible rfl)
 try simp only [sx]
 refine held_one (i := 30) (by kernel_rfl) rfl rfl (fun K hK => ?_)
 go_simp
 refine (HM.out _ (HR.out.ext HT)).mono ?_
 rintro e y3 ⟨rfl, HX3⟩
 have HTb : Ext y1 y3 := HT.trans HX3
 try go_simp
 refine hK.out _ _ ⟨HTb, ?_⟩
 clear hK K
 try simp only [sx]
 refine takeH (i := 31) (v := ?vm31) ?hym31 HTb ?restm31
 case hym31 => (intro wx hSx; obtain ⟨hb, c4, c5, c9, p0, p1, pl⟩ := HC2.out _ hSx; go_simp; try with_reducible rfl)
 try simp only [sx]
 refine takeH (i := 32) (v := ?vm32) ?hym32 HTb ?restm32
 case hym32 => (intro wx hSx; obtain ⟨hb, c4, c5, c9, p0, p1, pl⟩ := HC2.out _ hSx; go_simp; try with_reducible rfl)
 try simp only [sx]
 refine wpAnyH_done (by kernel_rfl) ?_ _
 refine NoPanic.normal ?_
 go_wp2_with fail
 refine wp_region_noPanic ?_
 refine wp_region_held (S := fun wx => (∃ B' r', Run w0 F0 b c d p { s with vv := B', vr := r' } out wx) ∧ wx.cell? ⟨g, 0, none⟩ = some (.string (pvl s.ps R)) ∧ g < wx.heap.size) (by kernel_rfl) ?_
 rw [show ({ y3 with drawn := y3.drawn + 1 } : World) = y3.drew from rfl]
 have HU : Ext y3 y3.drew := (Ext.refl y3).drew
 generalize y3.drew = y4 at *
 have HR4 : Hid (Run w0 F0 b c d p s out y4) := HR.out.ext (HTb.trans HU)
 have HSV : (fun wx => (∃ B' r', Run w0 F0 b c d p { s with vv := B', vr := r' } out wx) ∧ wx.cell? ⟨g, 0, none⟩ = some (.string (pvl s.ps R)) ∧ g < wx.heap.size) y4 := ⟨⟨s.vv, s.vr, HR4.out⟩, (HC2.out _ (HTb.trans HU)).2.2.2.2.1, (HC2.out _ (HTb.trans HU)).2.2.2.2.2.2⟩
 refine takeH (i := 0) (v := ?vu0) ?hyu0 HSV ?restu0
 case hyu0 => (intro wx hSx; obtain ⟨⟨B', r', hq⟩, p0, pl⟩ := hSx; obtain ⟨hb, _, _, _, x4, _⟩ := hq.at; have c4 : wx.cell? ⟨b, 4, none⟩ = some (.int .i64 (R : Int)) := (by rw [← HRR.out]; exact x4); clear x4; go_simp; try with_reducible rfl)
 try simp only [sx]
 refine takeH (i := 1) (v := ?vu1) ?hyu1 HSV ?restu1
 case hyu1 => (intro wx hSx; obtain ⟨⟨B', r', hq⟩, p0, pl⟩ := hSx; obtain ⟨hb, _, _, _, x4, _⟩ := hq.at; have c4 : wx.cell? ⟨b, 4, none⟩ = some (.int .i64 (R : Int)) := (by rw [← HRR.out]; exact x4); clear x4; go_simp; try with_reducible rfl)
 try simp only [sx]
 refine takeH (i := 2) (v := ?vu2) ?hyu2 HSV ?restu2
 case hyu2 => (intro wx hSx; obtain ⟨⟨B', r', hq⟩, p0, pl⟩ := hSx; obtain ⟨hb, _, _, _, x4, _⟩ := hq.at; have c4 : wx.cell? ⟨b, 4, none⟩ = some (.int .i64 (R : Int)) := (by rw [← HRR.out]; exact x4); clear x4; go_simp; try with_reducible rfl)
 try simp only [sx]
 refine takeH (i := 3) (v := ?vu3) ?hyu3 HSV ?restu3
 case hyu3 => (intro wx hSx; obtain ⟨⟨B', r', hq⟩, p0, pl⟩ := hSx; obtain ⟨hb, _, _, _, x4, _⟩ := hq.at; have c4 : wx.cell? ⟨b, 4, none⟩ = some (.int .i64 (R : Int)) := (by rw [← HRR.out]; exact x4); clear x4; go_simp; try with_reducible rfl)
 try simp only [sx]
 refine takeH (i := 4) (v := ?vu4) ?hyu4 HSV ?restu4
 case hyu4 => (intro wx hSx; obtain ⟨⟨B', r', hq⟩, p0, pl⟩ := hSx; obtain ⟨hb, _, _, _, x4, _⟩ := hq.at; have c4 : wx.cell? ⟨b, 4, none⟩ = some (.int .i64 (R : Int)) := (by rw [← HRR.out]; exact x4); clear x4; go_simp; try with_reducible rfl)
 try simp only [sx]
 refine takeH (i := 5) (v := ?vu5) ?hyu5 HSV ?restu5
 case hyu5 => (intro wx hSx; obtain ⟨⟨B', r', hq⟩, p0, pl⟩ := hSx; obtain ⟨hb, _, _, _, x4, _⟩ := hq.at; have c4 : wx.cell? ⟨b, 4, none⟩ = some (.int .i64 (R : Int)) := (by rw [← HRR.out]; exact x4); clear x4; go_simp; try with_reducible rfl)
 try simp only [sx]
 refine takeH (i := 6) (v := ?vu6) ?hyu6 HSV ?restu6
 case hyu6 => (intro wx hSx; obtain ⟨⟨B', r', hq⟩, p0, pl⟩ := hSx; obtain ⟨hb, _, _, _, x4, _⟩ := hq.at; have c4 : wx.cell? ⟨b, 4, none⟩ = some (.int .i64 (R : Int)) := (by rw [← HRR.out]; exact x4); clear x4; go_simp; try with_reducible rfl)
 try simp only [sx]
 refine takeH (i := 7) (v := ?vu7) ?hyu7 HSV ?restu7
 case hyu7 => (intro wx hSx; obtain ⟨⟨B', r', hq⟩, p0, pl⟩ := hSx; obtain ⟨hb, _, _, _, x4, _⟩ := hq.at; have c4 : wx.cell? ⟨b, 4, none⟩ = some (.int .i64 (R : Int)) := (by rw [← HRR.out]; exact x4); clear x4; go_simp; try with_reducible rfl)
 try simp only [sx]
 refine takeH (i := 8) (v := ?vu8) ?hyu8 HSV ?restu8
 case hyu8 => (intro wx hSx; obtain ⟨⟨B', r', hq⟩, p0, pl⟩ := hSx; obtain ⟨hb, _, _, _, x4, _⟩ := hq.at; have c4 : wx.cell? ⟨b, 4, none⟩ = some (.int .i64 (R : Int)) := (by rw [← HRR.out]; exact x4); clear x4; go_simp; try with_reducible rfl)
 try simp only [sx]
 refine takeH (i := 9) (v := ?vu9) ?hyu9 HSV ?restu9
 case hyu9 => (intro wx hSx; obtain ⟨⟨B', r', hq⟩, p0, pl⟩ := hSx; obtain ⟨hb, _, _, _, x4, _⟩ := hq.at; have c4 : wx.cell? ⟨b, 4, none⟩ = some (.int .i64 (R : Int)) := (by rw [← HRR.out]; exact x4); clear x4; go_simp; try with_reducible rfl)
 try simp only [sx]
 refine held_one (i := 10) (by kernel_rfl) rfl rfl (fun K hK => ?_)
 obtain ⟨hb, c4, c5, c9, p0, p1, pl⟩ := HC2.out _ (HTb.trans HU)
 obtain ⟨_, c8, _⟩ := HR4.out.live HD.out
 have z8 := HR4.out.fz (i := 8) (by decide)
 have z9 := HR4.out.fz (i := 9) (by decide)
 go_simp
 have HR5 : Hid (Run w0 F0 b c d p (validA s (pvl s.ps R)) out ((y4.setCell ⟨b, 8, none⟩ (.string (pvl s.ps R))).setCell ⟨b, 9, none⟩ (.int .i64 (R : Int)))) := by
  have q := (HR4.out.setVv (pvl s.ps R)).setVr s.rd
  rw [HRR.out] at q
  show Run _ _ _ _ _ _ _ _ _
  unfold validA
  rw [HRR.out]
  exact q
 have P0 : Hid ((((y4.setCell ⟨b, 8, none⟩ (.string (pvl s.ps R))).setCell ⟨b, 9, none⟩ (.int .i64 (R : Int))).cell? ⟨g, 0, none⟩ = some (.string (pvl s.ps R))) ∧ g < ((y4.setCell ⟨b, 8, none⟩ (.string (pvl s.ps R))).setCell ⟨b, 9, none⟩ (.int .i64 (R : Int))).heap.size) := ⟨by
  rw [World.cell?_setCell_other _ _ _ _ (fun q => HGB.out (by first | exact congrArg Addr.block q | exact (congrArg Addr.block q).symm)), World.cell?_setCell_other _ _ _ _ (fun q => HGB.out (by first | exact congrArg Addr.block q | exact (congrArg Addr.block q).symm))]
  exact p0, by simpa using pl⟩
 clear hb c4 c5 c9 p0 p1 pl c8 z8 z9 HR4 HSV
 generalize (y4.setCell ⟨b, 8, none⟩ (.string (pvl s.ps R))).setCell ⟨b, 9, none⟩ (.int .i64 (R : Int)) = y5 at *
 have HSW : (fun wx => (∃ B' r', Run w0 F0 b c d p { s with vv := B', vr := r' } out wx) ∧ wx.cell? ⟨g, 0, none⟩ = some (.string (pvl s.ps R)) ∧ g < wx.heap.size) y5 := ⟨⟨pvl s.ps R, s.rd, HR5.out⟩, P0.out.1, P0.out.2⟩
 try go_simp
 refine hK.out _ _ ⟨HSW, ?_⟩
 clear hK K
 try simp only [sx]
 refine wpAnyH_done (by kernel_rfl) ?_ _
 refine NoPanic.normal ?_
 obtain ⟨p0, pl⟩ := P0.out
 clear HSW
 obtain ⟨hb, _, _, _, _, x5, x6, x7, _⟩ := HR5.out.at
 have c5 : y5.cell? ⟨b, 5, none⟩ = some (.int .i64 s.st) := x5
 have c6 : y5.cell? ⟨b, 6, none⟩ = some (.string s.lk) := x6
 have c7 : y5.cell? ⟨b, 7, none⟩ = some (.int .i64 s.lr) := x7
 clear x5 x6 x7
 clear c6 c7
 go_wp2_with fail
 refine bodyPost_ret (v := .bool true) (by simp [results, Try.results46, go_sem]) rfl ?_
 unfold RuleP
 rw [HN.out]
 exact ⟨rfl, by rw [List.append_nil]; exact HR5.out⟩
theorem choose_any {w0 W : World} {F0 : Nat → Prop} {b c d : Nat} {p : Pm} {s : Ag} {out : List Vt} (hp : okP p) (hi : InvA p s) (h0 : 0 ≤ s.rd) (hd : s.dn = false) (hl : out.length ≤ 9000) (h : Run w0 F0 b c d p s out W) : Calls Try.prog 46 #[.pointer (some ⟨b, 0, none⟩)] W fun e w' => RuleP (r5 p s) w0 F0 b c d p s out e w' := by
 obtain ⟨R, hR⟩ : ∃ R : Nat, s.rd = (R : Int) := ⟨s.rd.toNat, by omega⟩
 have h6 : R < 64 := by have := hi.rd; omega
 have no : s.st = 1 ∨ s.vr = s.rd → r5 p s = none := fun q => by
  unfold r5
  split
  ·rw [if_neg (by rintro ⟨a, b, _⟩; rcases q with q | q; exact b q; exact a q)]
  ·rfl
 by_cases hs : s.st = 1
 ·exact choose_st hR h6 hd hs (no (.inl hs)) h
 by_cases hv : s.vr = s.rd
 ·exact choose_had hR h6 hd hs hv (no (.inr hv)) h
 cases hq : propA s.ps s.rd with
 | none =>
  have e : pvl s.ps R = emp := by unfold pvl; rw [← hR, hq]
  exact choose_no hR h6 hd hs hv (by rw [e]; rfl) (by unfold r5; rw [hq]) h
 | some m =>
  have e1 : pvl s.ps R = m.vl := by unfold pvl; rw [← hR, hq]
  obtain ⟨_, a1, a2, z1, z2⟩ := prop_wf hi hq
  have h5 : r5 p s = if ¬ s.vr = s.rd ∧ ¬ s.st = 1 ∧ isA p s.vs 2 s.rd m.vl = true then some (if s.st = 2 then voteA p (lockA s m.vl) 3 m.vl else (validA s m.vl, [])) else none := by unfold r5; rw [hq]
  rw [← e1] at h5 z1 z2
  cases hm : isA p s.vs 2 s.rd (pvl s.ps R) with
  | false => exact choose_not hR h6 hd hp hi hs hv z1 hm (by rw [h5, if_neg (by rw [hm]; rintro ⟨_, _, q⟩; cases q)]) h
  | true =>
   rw [if_pos ⟨hv, hs, hm⟩] at h5
   by_cases h2 : s.st = 2
   ·exact choose_two hR h6 hd hp hi hl hs h2 hv z1 z2 hm (by rw [h5, if_pos h2]) h
   ·exact choose_three hR h6 hd hp hi hl hs h2 hv z1 z2 hm (by rw [h5, if_neg h2]) h
end Go.Proofs.Ytmanacbdldfmfaa
