/-
 propose, called.
-/
import Derived.Test.YtmanacbdldfmfaaAi
namespace Go.Proofs.Ytmanacbdldfmfaa
open Go.RowKit
set_option maxRecDepth 10000
def prA (p : Pm) (s : Ag) (m : Vt) : Ag := if wOk m = true ∧ propA s.ps m.rd = none ∧ m.fr = leadA p.n p.ht m.rd then { s with ps := s.ps ++ [m] } else s
theorem Run.setP {w0 W : World} {F0 : Nat → Prop} {b c d : Nat} {p : Pm} {s : Ag} {out : List Vt} (h : Run w0 F0 b c d p s out W) (m : Vt) (r : Nat) (h6 : r < 64) (hr : m.rd = (r : Int)) (hn : propA s.ps m.rd = none) : Run w0 F0 b c d p { s with ps := s.ps ++ [m] } out ((W.setCell ⟨b, 10 + r * 2, none⟩ (.string m.vl)).setCell ⟨b, 10 + r * 2 + 1, none⟩ (.int .i64 m.va)) := by
 obtain ⟨vp, G, u, h⟩ := h
 exact ⟨vp, G, u, h.setP m r h6 hr hn⟩
theorem lead_in {n h r : Int} (hn : 1 ≤ n) (hn7 : n ≤ 7) (hh : 0 ≤ h) (hh2 : h ≤ 64) (hr : 0 ≤ r) (hr2 : r ≤ 64) : 1 ≤ leadA n h r ∧ leadA n h r ≤ 7 := by
 unfold leadA
 rw [if_pos ⟨hn, hn7, hh, hh2, hr, hr2⟩]
 have t0 : 0 ≤ Int.tmod (h + r) n := Int.tmod_nonneg n (by omega)
 have t1 : Int.tmod (h + r) n < n := Int.tmod_lt_of_pos (h + r) (by omega)
 omega
set_option maxHeartbeats 4000000 in
theorem propose_bad {w0 W : World} {F0 : Nat → Prop} {b c d : Nat} {p : Pm} {s : Ag} {out : List Vt} (fr rd va : Int) (vl : ByteArray) (hb : ¬ (0 ≤ rd ∧ rd < 64 ∧ -1 ≤ va ∧ va < rd ∧ vl.size ≠ 0 ∧ vl.size ≤ 4096)) (h : Run w0 F0 b c d p s out W) :
  Calls Try.prog 40 #[.pointer (some ⟨b, 0, none⟩), .agg #[.int .i64 1, .int .i64 fr, .int .i64 rd, .int .i64 va, .string vl]] W fun e w' => e = .returned (.tuple #[]) ∧ Run w0 F0 b c d p (prA p s ⟨1, fr, rd, va, vl⟩) out w' := by
 have HR0 : Hid (Run w0 F0 b c d p s out W) := h
 have HN : Hid (prA p s ⟨1, fr, rd, va, vl⟩ = s) := if_neg (fun q => hb (by
  have := wOk_iff.1 q.1
  dsimp only at this
  obtain ⟨_, _, a1, a2, a3, a4⟩ := this
  rcases a4 with ⟨_, a5, a6, a7⟩ | ⟨a5, _⟩
  ·exact ⟨a1, a2, a5, a6, a7, a3⟩
  ·exact absurd a5 (by decide)))
 clear h
 by_cases h0 : rd < 0
 ·have d0 : decide (rd < 0) = true := decide_eq_true h0
  clear hb h0
  go_enter Try.func40, Try.ntmps40
  go_wp2_with fail
  refine bodyPost_ret (v := .tuple #[]) (by simp [results, Try.results40, go_sem]) rfl ⟨rfl, ?_⟩
  rw [HN.out]
  exact HR0.out.ext ((Ext.refl W).alloc _)
 have d0 : decide (rd < 0) = false := decide_eq_false h0
 by_cases h1 : (64 : Int) ≤ rd
 ·have d1 : decide ((64 : Int) ≤ rd) = true := decide_eq_true h1
  clear hb h0 h1
  go_enter Try.func40, Try.ntmps40
  go_wp2_with fail
  refine bodyPost_ret (v := .tuple #[]) (by simp [results, Try.results40, go_sem]) rfl ⟨rfl, ?_⟩
  rw [HN.out]
  exact HR0.out.ext ((Ext.refl W).alloc _)
 have d1 : decide ((64 : Int) ≤ rd) = false := decide_eq_false h1
 by_cases h2 : va < -1
 ·have d2 : decide (va < -1) = true := decide_eq_true h2
  clear hb h0 h1 h2
  go_enter Try.func40, Try.ntmps40
  go_wp2_with fail
  refine bodyPost_ret (v := .tuple #[]) (by simp [results, Try.results40, go_sem]) rfl ⟨rfl, ?_⟩
  rw [HN.out]
  exact HR0.out.ext ((Ext.refl W).alloc _)
 have d2 : decide (va < -1) = false := decide_eq_false h2
 by_cases h3 : rd ≤ va
 ·have d3 : decide (rd ≤ va) = true := decide_eq_true h3
  clear hb h0 h1 h2 h3
  go_enter Try.func40, Try.ntmps40
  go_wp2_with fail
  refine bodyPost_ret (v := .tuple #[]) (by simp [results, Try.results40, go_sem]) rfl ⟨rfl, ?_⟩
  rw [HN.out]
  exact HR0.out.ext ((Ext.refl W).alloc _)
 have d3 : decide (rd ≤ va) = false := decide_eq_false h3
 by_cases h4 : vl.size = 0
 ·have q4 := isEmpty_nil h4
  have q5 := toList_nil h4
  clear h0 h1 h2 h3 h4 hb
  go_enter Try.func40, Try.ntmps40
  go_wp2_with fail
  refine bodyPost_ret (v := .tuple #[]) (by simp [results, Try.results40, go_sem]) rfl ⟨rfl, ?_⟩
  rw [HN.out]
  exact HR0.out.ext ((Ext.refl W).alloc _)
 have q4 := isEmpty_some h4
 have q5 := toList_some h4
 by_cases h5 : (4096 : Int) < (vl.size : Int)
 ·have d5 : decide ((4096 : Int) < (vl.size : Int)) = true := decide_eq_true h5
  clear h0 h1 h2 h3 h4 h5 hb
  go_enter Try.func40, Try.ntmps40
  go_wp2_with fail
  refine bodyPost_ret (v := .tuple #[]) (by simp [results, Try.results40, go_sem]) rfl ⟨rfl, ?_⟩
  rw [HN.out]
  exact HR0.out.ext ((Ext.refl W).alloc _)
 exact absurd ⟨by omega, by omega, by omega, by omega, h4, by omega⟩ hb
/-- A word in a block. -/
def Wd (g : Nat) (kd fr rd va : Int) (vl : ByteArray) (wx : World) : Prop := wx.cell? ⟨g, 0, none⟩ = some (.int .i64 kd) ∧ wx.cell? ⟨g, 1, none⟩ = some (.int .i64 fr) ∧ wx.cell? ⟨g, 2, none⟩ = some (.int .i64 rd) ∧ wx.cell? ⟨g, 3, none⟩ = some (.int .i64 va) ∧ wx.cell? ⟨g, 4, none⟩ = some (.string vl) ∧ g < wx.heap.size
theorem Wd.keep {g : Nat} {kd fr rd va : Int} {vl : ByteArray} {w w' : World} (h : Wd g kd fr rd va vl w) (hs : w.heap.size ≤ w'.heap.size) (hk : w'.heap[g]? = w.heap[g]?) : Wd g kd fr rd va vl w' := by
 obtain ⟨h0, h1, h2, h3, h4, hl⟩ := h
 exact ⟨(World.cell?_of_block (a := ⟨g, 0, none⟩) hk).trans h0, (World.cell?_of_block (a := ⟨g, 1, none⟩) hk).trans h1, (World.cell?_of_block (a := ⟨g, 2, none⟩) hk).trans h2, (World.cell?_of_block (a := ⟨g, 3, none⟩) hk).trans h3, (World.cell?_of_block (a := ⟨g, 4, none⟩) hk).trans h4, Nat.lt_of_lt_of_le hl hs⟩
theorem Wd.ext {g : Nat} {kd fr rd va : Int} {vl : ByteArray} {w w' : World} (h : Wd g kd fr rd va vl w) (hx : Ext w w') : Wd g kd fr rd va vl w' := h.keep hx.size (Below.block hx g h.2.2.2.2.2)
theorem Wd.st {g b i : Nat} {kd fr rd va : Int} {vl : ByteArray} {w : World} {v : Value} (h : Wd g kd fr rd va vl w) (hn : ¬ g = b) : Wd g kd fr rd va vl (w.setCell ⟨b, i, none⟩ v) := h.keep (by simp) (Below.heap_setCell w ⟨b, i, none⟩ v g hn)
theorem Wd.new (w : World) (kd fr rd va : Int) (vl : ByteArray) : Wd w.heap.size kd fr rd va vl (w.alloc (.cells #[.int .i64 kd, .int .i64 fr, .int .i64 rd, .int .i64 va, .string vl] 39)) :=
 ⟨by rw [World.cell?_alloc_at _ _ _ _ rfl]; rfl, by rw [World.cell?_alloc_at _ _ _ _ rfl]; rfl, by rw [World.cell?_alloc_at _ _ _ _ rfl]; rfl, by rw [World.cell?_alloc_at _ _ _ _ rfl]; rfl, by rw [World.cell?_alloc_at _ _ _ _ rfl]; rfl, by simp⟩
set_option maxHeartbeats 4000000 in
theorem propose_lead {w0 W : World} {F0 : Nat → Prop} {b c d : Nat} {p : Pm} {s : Ag} {out : List Vt} {R : Nat} (fr va : Int) (vl : ByteArray) (h6 : R < 64) (h1 : -1 ≤ va) (h2 : va < (R : Int)) (h3 : vl.size ≠ 0) (h4 : vl.size ≤ 4096) (hd : s.dn = false) (hle : ¬ fr = leadA p.n p.ht (R : Int)) (hn : prA p s ⟨1, fr, (R : Int), va, vl⟩ = s) (h : Run w0 F0 b c d p s out W) :
  Calls Try.prog 40 #[.pointer (some ⟨b, 0, none⟩), .agg #[.int .i64 1, .int .i64 fr, .int .i64 (R : Int), .int .i64 va, .string vl]] W fun e w' => e = .returned (.tuple #[]) ∧ Run w0 F0 b c d p (prA p s ⟨1, fr, (R : Int), va, vl⟩) out w' := by
 have HR0 : Hid (Run w0 F0 b c d p s out W) := h
 have HN : Hid (prA p s ⟨1, fr, (R : Int), va, vl⟩ = s) := hn
 have HD : Hid (s.dn = false) := hd
 have H6 : Hid (R < 64) := h6
 have HZ : Hid (vl.size ≤ 4096) := h4
 have HGB : Hid (¬ W.heap.size = b) := fun q => by have := h.at.1; omega
 have HC : Hid (∀ wx, Ext (W.alloc (.cells #[.int .i64 1, .int .i64 fr, .int .i64 (R : Int), .int .i64 va, .string vl] 39)) wx → (b < wx.heap.size ∧ wx.cell? ⟨b, 0, none⟩ = some (.int .i64 (p.n : Int)) ∧ wx.cell? ⟨b, 2, none⟩ = some (.int .i64 p.ht) ∧ wx.cell? ⟨b, 10 + R * 2, none⟩ = some (.string (pvl s.ps R)) ∧ wx.cell? ⟨b, 10 + R * 2 + 1, none⟩ = some (.int .i64 (pva s.ps R))) ∧ Wd W.heap.size 1 fr (R : Int) va vl wx) := fun wx hx => by
  have q := HR0.out.ext (((Ext.refl W).alloc _).trans hx)
  obtain ⟨hb, c0, _, c2, _⟩ := q.at
  obtain ⟨v0, v1⟩ := q.prop hd h6
  exact ⟨⟨hb, c0, c2, v0, v1⟩, Wd.ext (Wd.new W 1 fr (R : Int) va vl) hx⟩
 have r0 : (0 : Int) ≤ (R : Int) := by omega
 have r6 : (R : Int) < 64 := by omega
 have d0 : decide ((R : Int) < 0) = false := decide_eq_false (by omega)
 have d1 : decide ((64 : Int) ≤ (R : Int)) = false := decide_eq_false (by omega)
 have d2 : decide (va < -1) = false := decide_eq_false (by omega)
 have d3 : decide ((R : Int) ≤ va) = false := decide_eq_false (by omega)
 have q4 := isEmpty_some h3
 have q5 := toList_some h3
 have d5 : decide ((4096 : Int) < (vl.size : Int)) = false := decide_eq_false (by omega)
 have ql : (fr == leadA p.n p.ht (R : Int)) = false := by simpa using hle
 have HS : Ext (W.alloc (.cells #[.int .i64 1, .int .i64 fr, .int .i64 (R : Int), .int .i64 va, .string vl] 39)) (W.alloc (.cells #[.int .i64 1, .int .i64 fr, .int .i64 (R : Int), .int .i64 va, .string vl] 39)).drew := (Ext.refl _).drew
 clear h h1 h2 h3 h4 h6 hd hn hle
 go_enter Try.func40, Try.ntmps40
 go_wp2_with fail
 refine wp_region_noPanic ?_
 refine wp_region_held (S := Ext (W.alloc (.cells #[.int .i64 1, .int .i64 fr, .int .i64 (R : Int), .int .i64 va, .string vl] 39))) (by kernel_rfl) ?_
 rw [show ({ (W.alloc (.cells #[.int .i64 1, .int .i64 fr, .int .i64 (R : Int), .int .i64 va, .string vl] 39)) with drawn := (W.alloc (.cells #[.int .i64 1, .int .i64 fr, .int .i64 (R : Int), .int .i64 va, .string vl] 39)).drawn + 1 } : World) = (W.alloc (.cells #[.int .i64 1, .int .i64 fr, .int .i64 (R : Int), .int .i64 va, .string vl] 39)).drew from rfl]
 generalize (W.alloc (.cells #[.int .i64 1, .int .i64 fr, .int .i64 (R : Int), .int .i64 va, .string vl] 39)).drew = y0 at *
 refine takeH (i := 0) (v := ?vy0) ?hyy0 HS ?resty0
 case hyy0 => (intro wx hSx; obtain ⟨⟨hb, c0, c2, v0, v1⟩, w0c, w1c, w2c, w3c, w4c, wl⟩ := HC.out _ hSx; go_simp; try with_reducible rfl)
 try simp only [sx]
 refine takeH (i := 1) (v := ?vy1) ?hyy1 HS ?resty1
 case hyy1 => (intro wx hSx; obtain ⟨⟨hb, c0, c2, v0, v1⟩, w0c, w1c, w2c, w3c, w4c, wl⟩ := HC.out _ hSx; go_simp; try with_reducible rfl)
 try simp only [sx]
 refine takeH (i := 2) (v := ?vy2) ?hyy2 HS ?resty2
 case hyy2 => (intro wx hSx; obtain ⟨⟨hb, c0, c2, v0, v1⟩, w0c, w1c, w2c, w3c, w4c, wl⟩ := HC.out _ hSx; go_simp; try with_reducible rfl)
 try simp only [sx]
 refine takeH (i := 3) (v := ?vy3) ?hyy3 HS ?resty3
 case hyy3 => (intro wx hSx; obtain ⟨⟨hb, c0, c2, v0, v1⟩, w0c, w1c, w2c, w3c, w4c, wl⟩ := HC.out _ hSx; go_simp; try with_reducible rfl)
 try simp only [sx]
 refine takeH (i := 4) (v := ?vy4) ?hyy4 HS ?resty4
 case hyy4 => (intro wx hSx; obtain ⟨⟨hb, c0, c2, v0, v1⟩, w0c, w1c, w2c, w3c, w4c, wl⟩ := HC.out _ hSx; go_simp; try with_reducible rfl)
 try simp only [sx]
 refine takeH (i := 5) (v := ?vy5) ?hyy5 HS ?resty5
 case hyy5 => (intro wx hSx; obtain ⟨⟨hb, c0, c2, v0, v1⟩, w0c, w1c, w2c, w3c, w4c, wl⟩ := HC.out _ hSx; go_simp; try with_reducible rfl)
 try simp only [sx]
 refine takeH (i := 6) (v := ?vy6) ?hyy6 HS ?resty6
 case hyy6 => (intro wx hSx; obtain ⟨⟨hb, c0, c2, v0, v1⟩, w0c, w1c, w2c, w3c, w4c, wl⟩ := HC.out _ hSx; go_simp; try with_reducible rfl)
 try simp only [sx]
 refine takeH (i := 7) (v := ?vy7) ?hyy7 HS ?resty7
 case hyy7 => (intro wx hSx; obtain ⟨⟨hb, c0, c2, v0, v1⟩, w0c, w1c, w2c, w3c, w4c, wl⟩ := HC.out _ hSx; go_simp; try with_reducible rfl)
 try simp only [sx]
 refine takeH (i := 8) (v := ?vy8) ?hyy8 HS ?resty8
 case hyy8 => (intro wx hSx; obtain ⟨⟨hb, c0, c2, v0, v1⟩, w0c, w1c, w2c, w3c, w4c, wl⟩ := HC.out _ hSx; go_simp; try with_reducible rfl)
 try simp only [sx]
 refine takeH (i := 9) (v := ?vy9) ?hyy9 HS ?resty9
 case hyy9 => (intro wx hSx; obtain ⟨⟨hb, c0, c2, v0, v1⟩, w0c, w1c, w2c, w3c, w4c, wl⟩ := HC.out _ hSx; go_simp; try with_reducible rfl)
 try simp only [sx]
 refine takeH (i := 10) (v := ?vy10) ?hyy10 HS ?resty10
 case hyy10 => (intro wx hSx; obtain ⟨⟨hb, c0, c2, v0, v1⟩, w0c, w1c, w2c, w3c, w4c, wl⟩ := HC.out _ hSx; go_simp; try with_reducible rfl)
 try simp only [sx]
 refine takeH (i := 11) (v := ?vy11) ?hyy11 HS ?resty11
 case hyy11 => (intro wx hSx; obtain ⟨⟨hb, c0, c2, v0, v1⟩, w0c, w1c, w2c, w3c, w4c, wl⟩ := HC.out _ hSx; go_simp; try with_reducible rfl)
 try simp only [sx]
 refine held_one (i := 12) (by kernel_rfl) rfl rfl (fun K hK => ?_)
 go_simp
 refine (lead_any (p.n : Int) p.ht (R : Int) _).mono ?_
 rintro e w3 ⟨rfl, ew⟩
 subst ew
 try go_simp
 refine hK.out _ _ ⟨HS, ?_⟩
 clear hK K
 try simp only [sx]
 refine takeH (i := 13) (v := ?vy13) ?hyy13 HS ?resty13
 case hyy13 => (intro wx hSx; obtain ⟨⟨hb, c0, c2, v0, v1⟩, w0c, w1c, w2c, w3c, w4c, wl⟩ := HC.out _ hSx; go_simp; try with_reducible rfl)
 try simp only [sx]
 refine takeH (i := 14) (v := ?vy14) ?hyy14 HS ?resty14
 case hyy14 => (intro wx hSx; obtain ⟨⟨hb, c0, c2, v0, v1⟩, w0c, w1c, w2c, w3c, w4c, wl⟩ := HC.out _ hSx; go_simp; try with_reducible rfl)
 try simp only [sx]
 refine skipH (i := 15) HS ?_
 try simp only [sx]
 refine skipH (i := 16) HS ?_
 try simp only [sx]
 refine skipH (i := 17) HS ?_
 try simp only [sx]
 refine skipH (i := 18) HS ?_
 try simp only [sx]
 refine skipH (i := 19) HS ?_
 try simp only [sx]
 refine skipH (i := 20) HS ?_
 try simp only [sx]
 refine skipH (i := 21) HS ?_
 try simp only [sx]
 refine skipH (i := 22) HS ?_
 try simp only [sx]
 refine skipH (i := 23) HS ?_
 try simp only [sx]
 refine takeH (i := 24) (v := ?vy24) ?hyy24 HS ?resty24
 case hyy24 => (intro wx hSx; obtain ⟨⟨hb, c0, c2, v0, v1⟩, w0c, w1c, w2c, w3c, w4c, wl⟩ := HC.out _ hSx; go_simp; try with_reducible rfl)
 try simp only [sx]
 refine wpAnyH_done (by kernel_rfl) ?_ _
 refine NoPanic.normal ?_
 go_wp2_with fail
 refine bodyPost_end (v := .tuple #[]) (by simp [results, Try.results40, go_sem]) rfl ⟨rfl, ?_⟩
 rw [HN.out]
 exact HR0.out.ext (((Ext.refl W).alloc _).trans HS)
set_option maxHeartbeats 4000000 in
theorem propose_had {w0 W : World} {F0 : Nat → Prop} {b c d : Nat} {p : Pm} {s : Ag} {out : List Vt} {R : Nat} (fr va : Int) (vl : ByteArray) (h6 : R < 64) (h1 : -1 ≤ va) (h2 : va < (R : Int)) (h3 : vl.size ≠ 0) (h4 : vl.size ≤ 4096) (hd : s.dn = false) (hle : fr = leadA p.n p.ht (R : Int)) (hz : (pvl s.ps R).size ≠ 0) (hn : prA p s ⟨1, fr, (R : Int), va, vl⟩ = s) (h : Run w0 F0 b c d p s out W) :
  Calls Try.prog 40 #[.pointer (some ⟨b, 0, none⟩), .agg #[.int .i64 1, .int .i64 fr, .int .i64 (R : Int), .int .i64 va, .string vl]] W fun e w' => e = .returned (.tuple #[]) ∧ Run w0 F0 b c d p (prA p s ⟨1, fr, (R : Int), va, vl⟩) out w' := by
 have HR0 : Hid (Run w0 F0 b c d p s out W) := h
 have HN : Hid (prA p s ⟨1, fr, (R : Int), va, vl⟩ = s) := hn
 have HD : Hid (s.dn = false) := hd
 have H6 : Hid (R < 64) := h6
 have HZ : Hid (vl.size ≤ 4096) := h4
 have HGB : Hid (¬ W.heap.size = b) := fun q => by have := h.at.1; omega
 have HC : Hid (∀ wx, Ext (W.alloc (.cells #[.int .i64 1, .int .i64 fr, .int .i64 (R : Int), .int .i64 va, .string vl] 39)) wx → (b < wx.heap.size ∧ wx.cell? ⟨b, 0, none⟩ = some (.int .i64 (p.n : Int)) ∧ wx.cell? ⟨b, 2, none⟩ = some (.int .i64 p.ht) ∧ wx.cell? ⟨b, 10 + R * 2, none⟩ = some (.string (pvl s.ps R)) ∧ wx.cell? ⟨b, 10 + R * 2 + 1, none⟩ = some (.int .i64 (pva s.ps R))) ∧ Wd W.heap.size 1 fr (R : Int) va vl wx) := fun wx hx => by
  have q := HR0.out.ext (((Ext.refl W).alloc _).trans hx)
  obtain ⟨hb, c0, _, c2, _⟩ := q.at
  obtain ⟨v0, v1⟩ := q.prop hd h6
  exact ⟨⟨hb, c0, c2, v0, v1⟩, Wd.ext (Wd.new W 1 fr (R : Int) va vl) hx⟩
 have r0 : (0 : Int) ≤ (R : Int) := by omega
 have r6 : (R : Int) < 64 := by omega
 have d0 : decide ((R : Int) < 0) = false := decide_eq_false (by omega)
 have d1 : decide ((64 : Int) ≤ (R : Int)) = false := decide_eq_false (by omega)
 have d2 : decide (va < -1) = false := decide_eq_false (by omega)
 have d3 : decide ((R : Int) ≤ va) = false := decide_eq_false (by omega)
 have q4 := isEmpty_some h3
 have q5 := toList_some h3
 have d5 : decide ((4096 : Int) < (vl.size : Int)) = false := decide_eq_false (by omega)
 have ql : (fr == leadA p.n p.ht (R : Int)) = true := by simpa using hle
 have qz := isEmpty_some hz
 have qy := toList_some hz
 have HS : Ext (W.alloc (.cells #[.int .i64 1, .int .i64 fr, .int .i64 (R : Int), .int .i64 va, .string vl] 39)) (W.alloc (.cells #[.int .i64 1, .int .i64 fr, .int .i64 (R : Int), .int .i64 va, .string vl] 39)).drew := (Ext.refl _).drew
 clear h h1 h2 h3 h4 h6 hd hn hle hz
 go_enter Try.func40, Try.ntmps40
 go_wp2_with fail
 refine wp_region_noPanic ?_
 refine wp_region_held (S := Ext (W.alloc (.cells #[.int .i64 1, .int .i64 fr, .int .i64 (R : Int), .int .i64 va, .string vl] 39))) (by kernel_rfl) ?_
 rw [show ({ (W.alloc (.cells #[.int .i64 1, .int .i64 fr, .int .i64 (R : Int), .int .i64 va, .string vl] 39)) with drawn := (W.alloc (.cells #[.int .i64 1, .int .i64 fr, .int .i64 (R : Int), .int .i64 va, .string vl] 39)).drawn + 1 } : World) = (W.alloc (.cells #[.int .i64 1, .int .i64 fr, .int .i64 (R : Int), .int .i64 va, .string vl] 39)).drew from rfl]
 generalize (W.alloc (.cells #[.int .i64 1, .int .i64 fr, .int .i64 (R : Int), .int .i64 va, .string vl] 39)).drew = y0 at *
 refine takeH (i := 0) (v := ?vy0) ?hyy0 HS ?resty0
 case hyy0 => (intro wx hSx; obtain ⟨⟨hb, c0, c2, v0, v1⟩, w0c, w1c, w2c, w3c, w4c, wl⟩ := HC.out _ hSx; go_simp; try with_reducible rfl)
 try simp only [sx]
 refine takeH (i := 1) (v := ?vy1) ?hyy1 HS ?resty1
 case hyy1 => (intro wx hSx; obtain ⟨⟨hb, c0, c2, v0, v1⟩, w0c, w1c, w2c, w3c, w4c, wl⟩ := HC.out _ hSx; go_simp; try with_reducible rfl)
 try simp only [sx]
 refine takeH (i := 2) (v := ?vy2) ?hyy2 HS ?resty2
 case hyy2 => (intro wx hSx; obtain ⟨⟨hb, c0, c2, v0, v1⟩, w0c, w1c, w2c, w3c, w4c, wl⟩ := HC.out _ hSx; go_simp; try with_reducible rfl)
 try simp only [sx]
 refine takeH (i := 3) (v := ?vy3) ?hyy3 HS ?resty3
 case hyy3 => (intro wx hSx; obtain ⟨⟨hb, c0, c2, v0, v1⟩, w0c, w1c, w2c, w3c, w4c, wl⟩ := HC.out _ hSx; go_simp; try with_reducible rfl)
 try simp only [sx]
 refine takeH (i := 4) (v := ?vy4) ?hyy4 HS ?resty4
 case hyy4 => (intro wx hSx; obtain ⟨⟨hb, c0, c2, v0, v1⟩, w0c, w1c, w2c, w3c, w4c, wl⟩ := HC.out _ hSx; go_simp; try with_reducible rfl)
 try simp only [sx]
 refine takeH (i := 5) (v := ?vy5) ?hyy5 HS ?resty5
 case hyy5 => (intro wx hSx; obtain ⟨⟨hb, c0, c2, v0, v1⟩, w0c, w1c, w2c, w3c, w4c, wl⟩ := HC.out _ hSx; go_simp; try with_reducible rfl)
 try simp only [sx]
 refine takeH (i := 6) (v := ?vy6) ?hyy6 HS ?resty6
 case hyy6 => (intro wx hSx; obtain ⟨⟨hb, c0, c2, v0, v1⟩, w0c, w1c, w2c, w3c, w4c, wl⟩ := HC.out _ hSx; go_simp; try with_reducible rfl)
 try simp only [sx]
 refine takeH (i := 7) (v := ?vy7) ?hyy7 HS ?resty7
 case hyy7 => (intro wx hSx; obtain ⟨⟨hb, c0, c2, v0, v1⟩, w0c, w1c, w2c, w3c, w4c, wl⟩ := HC.out _ hSx; go_simp; try with_reducible rfl)
 try simp only [sx]
 refine takeH (i := 8) (v := ?vy8) ?hyy8 HS ?resty8
 case hyy8 => (intro wx hSx; obtain ⟨⟨hb, c0, c2, v0, v1⟩, w0c, w1c, w2c, w3c, w4c, wl⟩ := HC.out _ hSx; go_simp; try with_reducible rfl)
 try simp only [sx]
 refine takeH (i := 9) (v := ?vy9) ?hyy9 HS ?resty9
 case hyy9 => (intro wx hSx; obtain ⟨⟨hb, c0, c2, v0, v1⟩, w0c, w1c, w2c, w3c, w4c, wl⟩ := HC.out _ hSx; go_simp; try with_reducible rfl)
 try simp only [sx]
 refine takeH (i := 10) (v := ?vy10) ?hyy10 HS ?resty10
 case hyy10 => (intro wx hSx; obtain ⟨⟨hb, c0, c2, v0, v1⟩, w0c, w1c, w2c, w3c, w4c, wl⟩ := HC.out _ hSx; go_simp; try with_reducible rfl)
 try simp only [sx]
 refine takeH (i := 11) (v := ?vy11) ?hyy11 HS ?resty11
 case hyy11 => (intro wx hSx; obtain ⟨⟨hb, c0, c2, v0, v1⟩, w0c, w1c, w2c, w3c, w4c, wl⟩ := HC.out _ hSx; go_simp; try with_reducible rfl)
 try simp only [sx]
 refine held_one (i := 12) (by kernel_rfl) rfl rfl (fun K hK => ?_)
 go_simp
 refine (lead_any (p.n : Int) p.ht (R : Int) _).mono ?_
 rintro e w3 ⟨rfl, ew⟩
 subst ew
 try go_simp
 refine hK.out _ _ ⟨HS, ?_⟩
 clear hK K
 try simp only [sx]
 refine takeH (i := 13) (v := ?vy13) ?hyy13 HS ?resty13
 case hyy13 => (intro wx hSx; obtain ⟨⟨hb, c0, c2, v0, v1⟩, w0c, w1c, w2c, w3c, w4c, wl⟩ := HC.out _ hSx; go_simp; try with_reducible rfl)
 try simp only [sx]
 refine takeH (i := 14) (v := ?vy14) ?hyy14 HS ?resty14
 case hyy14 => (intro wx hSx; obtain ⟨⟨hb, c0, c2, v0, v1⟩, w0c, w1c, w2c, w3c, w4c, wl⟩ := HC.out _ hSx; go_simp; try with_reducible rfl)
 try simp only [sx]
 refine takeH (i := 15) (v := ?vy15) ?hyy15 HS ?resty15
 case hyy15 => (intro wx hSx; obtain ⟨⟨hb, c0, c2, v0, v1⟩, w0c, w1c, w2c, w3c, w4c, wl⟩ := HC.out _ hSx; go_simp; try with_reducible rfl)
 try simp only [sx]
 refine takeH (i := 16) (v := ?vy16) ?hyy16 HS ?resty16
 case hyy16 => (intro wx hSx; obtain ⟨⟨hb, c0, c2, v0, v1⟩, w0c, w1c, w2c, w3c, w4c, wl⟩ := HC.out _ hSx; go_simp; try with_reducible rfl)
 try simp only [sx]
 refine takeH (i := 17) (v := ?vy17) ?hyy17 HS ?resty17
 case hyy17 => (intro wx hSx; obtain ⟨⟨hb, c0, c2, v0, v1⟩, w0c, w1c, w2c, w3c, w4c, wl⟩ := HC.out _ hSx; go_simp; try with_reducible rfl)
 try simp only [sx]
 refine takeH (i := 18) (v := ?vy18) ?hyy18 HS ?resty18
 case hyy18 => (intro wx hSx; obtain ⟨⟨hb, c0, c2, v0, v1⟩, w0c, w1c, w2c, w3c, w4c, wl⟩ := HC.out _ hSx; go_simp; try with_reducible rfl)
 try simp only [sx]
 refine takeH (i := 19) (v := ?vy19) ?hyy19 HS ?resty19
 case hyy19 => (intro wx hSx; obtain ⟨⟨hb, c0, c2, v0, v1⟩, w0c, w1c, w2c, w3c, w4c, wl⟩ := HC.out _ hSx; go_simp; try with_reducible rfl)
 try simp only [sx]
 refine takeH (i := 20) (v := ?vy20) ?hyy20 HS ?resty20
 case hyy20 => (intro wx hSx; obtain ⟨⟨hb, c0, c2, v0, v1⟩, w0c, w1c, w2c, w3c, w4c, wl⟩ := HC.out _ hSx; go_simp; try with_reducible rfl)
 try simp only [sx]
 refine takeH (i := 21) (v := ?vy21) ?hyy21 HS ?resty21
 case hyy21 => (intro wx hSx; obtain ⟨⟨hb, c0, c2, v0, v1⟩, w0c, w1c, w2c, w3c, w4c, wl⟩ := HC.out _ hSx; go_simp; try with_reducible rfl)
 try simp only [sx]
 refine takeH (i := 22) (v := ?vy22) ?hyy22 HS ?resty22
 case hyy22 => (intro wx hSx; obtain ⟨⟨hb, c0, c2, v0, v1⟩, w0c, w1c, w2c, w3c, w4c, wl⟩ := HC.out _ hSx; go_simp; try with_reducible rfl)
 try simp only [sx]
 refine takeH (i := 23) (v := ?vy23) ?hyy23 HS ?resty23
 case hyy23 => (intro wx hSx; obtain ⟨⟨hb, c0, c2, v0, v1⟩, w0c, w1c, w2c, w3c, w4c, wl⟩ := HC.out _ hSx; go_simp; try with_reducible rfl)
 try simp only [sx]
 refine takeH (i := 24) (v := ?vy24) ?hyy24 HS ?resty24
 case hyy24 => (intro wx hSx; obtain ⟨⟨hb, c0, c2, v0, v1⟩, w0c, w1c, w2c, w3c, w4c, wl⟩ := HC.out _ hSx; go_simp; try with_reducible rfl)
 try simp only [sx]
 refine wpAnyH_done (by kernel_rfl) ?_ _
 refine NoPanic.normal ?_
 go_wp2_with fail
 refine bodyPost_end (v := .tuple #[]) (by simp [results, Try.results40, go_sem]) rfl ⟨rfl, ?_⟩
 rw [HN.out]
 exact HR0.out.ext (((Ext.refl W).alloc _).trans HS)
set_option maxHeartbeats 4000000 in
theorem propose_go {w0 W : World} {F0 : Nat → Prop} {b c d : Nat} {p : Pm} {s : Ag} {out : List Vt} {R : Nat} (fr va : Int) (vl : ByteArray) (h6 : R < 64) (h1 : -1 ≤ va) (h2 : va < (R : Int)) (h3 : vl.size ≠ 0) (h4 : vl.size ≤ 4096) (hd : s.dn = false) (hle : fr = leadA p.n p.ht (R : Int)) (hz : (pvl s.ps R).size = 0) (hpn : propA s.ps (R : Int) = none) (hn : prA p s ⟨1, fr, (R : Int), va, vl⟩ = { s with ps := s.ps ++ [⟨1, fr, (R : Int), va, vl⟩] }) (h : Run w0 F0 b c d p s out W) :
  Calls Try.prog 40 #[.pointer (some ⟨b, 0, none⟩), .agg #[.int .i64 1, .int .i64 fr, .int .i64 (R : Int), .int .i64 va, .string vl]] W fun e w' => e = .returned (.tuple #[]) ∧ Run w0 F0 b c d p (prA p s ⟨1, fr, (R : Int), va, vl⟩) out w' := by
 have HR0 : Hid (Run w0 F0 b c d p s out W) := h
 have HN : Hid (prA p s ⟨1, fr, (R : Int), va, vl⟩ = { s with ps := s.ps ++ [⟨1, fr, (R : Int), va, vl⟩] }) := hn
 have HD : Hid (s.dn = false) := hd
 have H6 : Hid (R < 64) := h6
 have HZ : Hid (vl.size ≤ 4096) := h4
 have HGB : Hid (¬ W.heap.size = b) := fun q => by have := h.at.1; omega
 have HC : Hid (∀ wx, Ext (W.alloc (.cells #[.int .i64 1, .int .i64 fr, .int .i64 (R : Int), .int .i64 va, .string vl] 39)) wx → (b < wx.heap.size ∧ wx.cell? ⟨b, 0, none⟩ = some (.int .i64 (p.n : Int)) ∧ wx.cell? ⟨b, 2, none⟩ = some (.int .i64 p.ht) ∧ wx.cell? ⟨b, 10 + R * 2, none⟩ = some (.string (pvl s.ps R)) ∧ wx.cell? ⟨b, 10 + R * 2 + 1, none⟩ = some (.int .i64 (pva s.ps R))) ∧ Wd W.heap.size 1 fr (R : Int) va vl wx) := fun wx hx => by
  have q := HR0.out.ext (((Ext.refl W).alloc _).trans hx)
  obtain ⟨hb, c0, _, c2, _⟩ := q.at
  obtain ⟨v0, v1⟩ := q.prop hd h6
  exact ⟨⟨hb, c0, c2, v0, v1⟩, Wd.ext (Wd.new W 1 fr (R : Int) va vl) hx⟩
 have r0 : (0 : Int) ≤ (R : Int) := by omega
 have r6 : (R : Int) < 64 := by omega
 have d0 : decide ((R : Int) < 0) = false := decide_eq_false (by omega)
 have d1 : decide ((64 : Int) ≤ (R : Int)) = false := decide_eq_false (by omega)
 have d2 : decide (va < -1) = false := decide_eq_false (by omega)
 have d3 : decide ((R : Int) ≤ va) = false := decide_eq_false (by omega)
 have q4 := isEmpty_some h3
 have q5 := toList_some h3
 have d5 : decide ((4096 : Int) < (vl.size : Int)) = false := decide_eq_false (by omega)
 have ql : (fr == leadA p.n p.ht (R : Int)) = true := by simpa using hle
 have qz := isEmpty_nil hz
 have qy := toList_nil hz
 have HP : Hid (propA s.ps (R : Int) = none) := hpn
 have HS : Ext (W.alloc (.cells #[.int .i64 1, .int .i64 fr, .int .i64 (R : Int), .int .i64 va, .string vl] 39)) (W.alloc (.cells #[.int .i64 1, .int .i64 fr, .int .i64 (R : Int), .int .i64 va, .string vl] 39)).drew := (Ext.refl _).drew
 clear h h1 h2 h3 h4 h6 hd hn hle hz hpn
 go_enter Try.func40, Try.ntmps40
 go_wp2_with fail
 refine wp_region_noPanic ?_
 refine wp_region_held (S := Ext (W.alloc (.cells #[.int .i64 1, .int .i64 fr, .int .i64 (R : Int), .int .i64 va, .string vl] 39))) (by kernel_rfl) ?_
 rw [show ({ (W.alloc (.cells #[.int .i64 1, .int .i64 fr, .int .i64 (R : Int), .int .i64 va, .string vl] 39)) with drawn := (W.alloc (.cells #[.int .i64 1, .int .i64 fr, .int .i64 (R : Int), .int .i64 va, .string vl] 39)).drawn + 1 } : World) = (W.alloc (.cells #[.int .i64 1, .int .i64 fr, .int .i64 (R : Int), .int .i64 va, .string vl] 39)).drew from rfl]
 generalize (W.alloc (.cells #[.int .i64 1, .int .i64 fr, .int .i64 (R : Int), .int .i64 va, .string vl] 39)).drew = y0 at *
 refine takeH (i := 0) (v := ?vy0) ?hyy0 HS ?resty0
 case hyy0 => (intro wx hSx; obtain ⟨⟨hb, c0, c2, v0, v1⟩, w0c, w1c, w2c, w3c, w4c, wl⟩ := HC.out _ hSx; go_simp; try with_reducible rfl)
 try simp only [sx]
 refine takeH (i := 1) (v := ?vy1) ?hyy1 HS ?resty1
 case hyy1 => (intro wx hSx; obtain ⟨⟨hb, c0, c2, v0, v1⟩, w0c, w1c, w2c, w3c, w4c, wl⟩ := HC.out _ hSx; go_simp; try with_reducible rfl)
 try simp only [sx]
 refine takeH (i := 2) (v := ?vy2) ?hyy2 HS ?resty2
 case hyy2 => (intro wx hSx; obtain ⟨⟨hb, c0, c2, v0, v1⟩, w0c, w1c, w2c, w3c, w4c, wl⟩ := HC.out _ hSx; go_simp; try with_reducible rfl)
 try simp only [sx]
 refine takeH (i := 3) (v := ?vy3) ?hyy3 HS ?resty3
 case hyy3 => (intro wx hSx; obtain ⟨⟨hb, c0, c2, v0, v1⟩, w0c, w1c, w2c, w3c, w4c, wl⟩ := HC.out _ hSx; go_simp; try with_reducible rfl)
 try simp only [sx]
 refine takeH (i := 4) (v := ?vy4) ?hyy4 HS ?resty4
 case hyy4 => (intro wx hSx; obtain ⟨⟨hb, c0, c2, v0, v1⟩, w0c, w1c, w2c, w3c, w4c, wl⟩ := HC.out _ hSx; go_simp; try with_reducible rfl)
 try simp only [sx]
 refine takeH (i := 5) (v := ?vy5) ?hyy5 HS ?resty5
 case hyy5 => (intro wx hSx; obtain ⟨⟨hb, c0, c2, v0, v1⟩, w0c, w1c, w2c, w3c, w4c, wl⟩ := HC.out _ hSx; go_simp; try with_reducible rfl)
 try simp only [sx]
 refine takeH (i := 6) (v := ?vy6) ?hyy6 HS ?resty6
 case hyy6 => (intro wx hSx; obtain ⟨⟨hb, c0, c2, v0, v1⟩, w0c, w1c, w2c, w3c, w4c, wl⟩ := HC.out _ hSx; go_simp; try with_reducible rfl)
 try simp only [sx]
 refine takeH (i := 7) (v := ?vy7) ?hyy7 HS ?resty7
 case hyy7 => (intro wx hSx; obtain ⟨⟨hb, c0, c2, v0, v1⟩, w0c, w1c, w2c, w3c, w4c, wl⟩ := HC.out _ hSx; go_simp; try with_reducible rfl)
 try simp only [sx]
 refine takeH (i := 8) (v := ?vy8) ?hyy8 HS ?resty8
 case hyy8 => (intro wx hSx; obtain ⟨⟨hb, c0, c2, v0, v1⟩, w0c, w1c, w2c, w3c, w4c, wl⟩ := HC.out _ hSx; go_simp; try with_reducible rfl)
 try simp only [sx]
 refine takeH (i := 9) (v := ?vy9) ?hyy9 HS ?resty9
 case hyy9 => (intro wx hSx; obtain ⟨⟨hb, c0, c2, v0, v1⟩, w0c, w1c, w2c, w3c, w4c, wl⟩ := HC.out _ hSx; go_simp; try with_reducible rfl)
 try simp only [sx]
 refine takeH (i := 10) (v := ?vy10) ?hyy10 HS ?resty10
 case hyy10 => (intro wx hSx; obtain ⟨⟨hb, c0, c2, v0, v1⟩, w0c, w1c, w2c, w3c, w4c, wl⟩ := HC.out _ hSx; go_simp; try with_reducible rfl)
 try simp only [sx]
 refine takeH (i := 11) (v := ?vy11) ?hyy11 HS ?resty11
 case hyy11 => (intro wx hSx; obtain ⟨⟨hb, c0, c2, v0, v1⟩, w0c, w1c, w2c, w3c, w4c, wl⟩ := HC.out _ hSx; go_simp; try with_reducible rfl)
 try simp only [sx]
 refine held_one (i := 12) (by kernel_rfl) rfl rfl (fun K hK => ?_)
 go_simp
 refine (lead_any (p.n : Int) p.ht (R : Int) _).mono ?_
 rintro e w3 ⟨rfl, ew⟩
 subst ew
 try go_simp
 refine hK.out _ _ ⟨HS, ?_⟩
 clear hK K
 try simp only [sx]
 refine takeH (i := 13) (v := ?vy13) ?hyy13 HS ?resty13
 case hyy13 => (intro wx hSx; obtain ⟨⟨hb, c0, c2, v0, v1⟩, w0c, w1c, w2c, w3c, w4c, wl⟩ := HC.out _ hSx; go_simp; try with_reducible rfl)
 try simp only [sx]
 refine takeH (i := 14) (v := ?vy14) ?hyy14 HS ?resty14
 case hyy14 => (intro wx hSx; obtain ⟨⟨hb, c0, c2, v0, v1⟩, w0c, w1c, w2c, w3c, w4c, wl⟩ := HC.out _ hSx; go_simp; try with_reducible rfl)
 try simp only [sx]
 refine takeH (i := 15) (v := ?vy15) ?hyy15 HS ?resty15
 case hyy15 => (intro wx hSx; obtain ⟨⟨hb, c0, c2, v0, v1⟩, w0c, w1c, w2c, w3c, w4c, wl⟩ := HC.out _ hSx; go_simp; try with_reducible rfl)
 try simp only [sx]
 refine takeH (i := 16) (v := ?vy16) ?hyy16 HS ?resty16
 case hyy16 => (intro wx hSx; obtain ⟨⟨hb, c0, c2, v0, v1⟩, w0c, w1c, w2c, w3c, w4c, wl⟩ := HC.out _ hSx; go_simp; try with_reducible rfl)
 try simp only [sx]
 refine takeH (i := 17) (v := ?vy17) ?hyy17 HS ?resty17
 case hyy17 => (intro wx hSx; obtain ⟨⟨hb, c0, c2, v0, v1⟩, w0c, w1c, w2c, w3c, w4c, wl⟩ := HC.out _ hSx; go_simp; try with_reducible rfl)
 try simp only [sx]
 refine takeH (i := 18) (v := ?vy18) ?hyy18 HS ?resty18
 case hyy18 => (intro wx hSx; obtain ⟨⟨hb, c0, c2, v0, v1⟩, w0c, w1c, w2c, w3c, w4c, wl⟩ := HC.out _ hSx; go_simp; try with_reducible rfl)
 try simp only [sx]
 refine takeH (i := 19) (v := ?vy19) ?hyy19 HS ?resty19
 case hyy19 => (intro wx hSx; obtain ⟨⟨hb, c0, c2, v0, v1⟩, w0c, w1c, w2c, w3c, w4c, wl⟩ := HC.out _ hSx; go_simp; try with_reducible rfl)
 try simp only [sx]
 refine takeH (i := 20) (v := ?vy20) ?hyy20 HS ?resty20
 case hyy20 => (intro wx hSx; obtain ⟨⟨hb, c0, c2, v0, v1⟩, w0c, w1c, w2c, w3c, w4c, wl⟩ := HC.out _ hSx; go_simp; try with_reducible rfl)
 try simp only [sx]
 refine takeH (i := 21) (v := ?vy21) ?hyy21 HS ?resty21
 case hyy21 => (intro wx hSx; obtain ⟨⟨hb, c0, c2, v0, v1⟩, w0c, w1c, w2c, w3c, w4c, wl⟩ := HC.out _ hSx; go_simp; try with_reducible rfl)
 try simp only [sx]
 refine takeH (i := 22) (v := ?vy22) ?hyy22 HS ?resty22
 case hyy22 => (intro wx hSx; obtain ⟨⟨hb, c0, c2, v0, v1⟩, w0c, w1c, w2c, w3c, w4c, wl⟩ := HC.out _ hSx; go_simp; try with_reducible rfl)
 try simp only [sx]
 refine takeH (i := 23) (v := ?vy23) ?hyy23 HS ?resty23
 case hyy23 => (intro wx hSx; obtain ⟨⟨hb, c0, c2, v0, v1⟩, w0c, w1c, w2c, w3c, w4c, wl⟩ := HC.out _ hSx; go_simp; try with_reducible rfl)
 try simp only [sx]
 refine takeH (i := 24) (v := ?vy24) ?hyy24 HS ?resty24
 case hyy24 => (intro wx hSx; obtain ⟨⟨hb, c0, c2, v0, v1⟩, w0c, w1c, w2c, w3c, w4c, wl⟩ := HC.out _ hSx; go_simp; try with_reducible rfl)
 try simp only [sx]
 refine wpAnyH_done (by kernel_rfl) ?_ _
 refine NoPanic.normal ?_
 go_wp2_with fail
 refine wp_region_noPanic ?_
 refine wp_region_held (S := fun wx => (∃ ps', Run w0 F0 b c d p { s with ps := ps' } out wx) ∧ Wd W.heap.size 1 fr (R : Int) va vl wx) (by kernel_rfl) ?_
 rw [show ({ w3 with drawn := w3.drawn + 1 } : World) = w3.drew from rfl]
 have HE3 : Ext (W.alloc (.cells #[.int .i64 1, .int .i64 fr, .int .i64 (R : Int), .int .i64 va, .string vl] 39)) w3.drew := HS.drew
 generalize w3.drew = y3 at *
 have HR3 : Hid (Run w0 F0 b c d p s out y3) := HR0.out.ext (((Ext.refl W).alloc _).trans HE3)
 have HW3 : Hid (Wd W.heap.size 1 fr (R : Int) va vl y3) := (HC.out _ HE3).2
 have HQ : (fun wx => (∃ ps', Run w0 F0 b c d p { s with ps := ps' } out wx) ∧ Wd W.heap.size 1 fr (R : Int) va vl wx) y3 := ⟨⟨s.ps, HR3.out⟩, HW3.out⟩
 refine takeH (i := 0) (v := ?vz0) ?hyz0 HQ ?restz0
 case hyz0 => (intro wx hSx; obtain ⟨⟨ps', hq⟩, w0c, w1c, w2c, w3c, w4c, wl⟩ := hSx; obtain ⟨hb, _⟩ := hq.at; go_simp; try with_reducible rfl)
 try simp only [sx]
 refine takeH (i := 1) (v := ?vz1) ?hyz1 HQ ?restz1
 case hyz1 => (intro wx hSx; obtain ⟨⟨ps', hq⟩, w0c, w1c, w2c, w3c, w4c, wl⟩ := hSx; obtain ⟨hb, _⟩ := hq.at; go_simp; try with_reducible rfl)
 try simp only [sx]
 refine takeH (i := 2) (v := ?vz2) ?hyz2 HQ ?restz2
 case hyz2 => (intro wx hSx; obtain ⟨⟨ps', hq⟩, w0c, w1c, w2c, w3c, w4c, wl⟩ := hSx; obtain ⟨hb, _⟩ := hq.at; go_simp; try with_reducible rfl)
 try simp only [sx]
 refine takeH (i := 3) (v := ?vz3) ?hyz3 HQ ?restz3
 case hyz3 => (intro wx hSx; obtain ⟨⟨ps', hq⟩, w0c, w1c, w2c, w3c, w4c, wl⟩ := hSx; obtain ⟨hb, _⟩ := hq.at; go_simp; try with_reducible rfl)
 try simp only [sx]
 refine takeH (i := 4) (v := ?vz4) ?hyz4 HQ ?restz4
 case hyz4 => (intro wx hSx; obtain ⟨⟨ps', hq⟩, w0c, w1c, w2c, w3c, w4c, wl⟩ := hSx; obtain ⟨hb, _⟩ := hq.at; go_simp; try with_reducible rfl)
 try simp only [sx]
 refine takeH (i := 6) (v := ?vz6) ?hyz6 HQ ?restz6
 case hyz6 => (intro wx hSx; obtain ⟨⟨ps', hq⟩, w0c, w1c, w2c, w3c, w4c, wl⟩ := hSx; obtain ⟨hb, _⟩ := hq.at; go_simp; try with_reducible rfl)
 try simp only [sx]
 refine takeH (i := 7) (v := ?vz7) ?hyz7 HQ ?restz7
 case hyz7 => (intro wx hSx; obtain ⟨⟨ps', hq⟩, w0c, w1c, w2c, w3c, w4c, wl⟩ := hSx; obtain ⟨hb, _⟩ := hq.at; go_simp; try with_reducible rfl)
 try simp only [sx]
 refine takeH (i := 9) (v := ?vz9) ?hyz9 HQ ?restz9
 case hyz9 => (intro wx hSx; obtain ⟨⟨ps', hq⟩, w0c, w1c, w2c, w3c, w4c, wl⟩ := hSx; obtain ⟨hb, _⟩ := hq.at; go_simp; try with_reducible rfl)
 try simp only [sx]
 refine takeH (i := 10) (v := ?vz10) ?hyz10 HQ ?restz10
 case hyz10 => (intro wx hSx; obtain ⟨⟨ps', hq⟩, w0c, w1c, w2c, w3c, w4c, wl⟩ := hSx; obtain ⟨hb, _⟩ := hq.at; go_simp; try with_reducible rfl)
 try simp only [sx]
 refine held_one (i := 5) (by kernel_rfl) rfl rfl (fun K hK => ?_)
 go_simp
 refine (clone_any vl (by have := HZ.out; omega) _).mono ?_
 rintro e y4 ⟨rfl, HX4⟩
 have HR4 : Hid (Run w0 F0 b c d p s out y4) := HR3.out.ext HX4
 have HW4 : Hid (Wd W.heap.size 1 fr (R : Int) va vl y4) := Wd.ext HW3.out HX4
 have HQ4 : (fun wx => (∃ ps', Run w0 F0 b c d p { s with ps := ps' } out wx) ∧ Wd W.heap.size 1 fr (R : Int) va vl wx) y4 := ⟨⟨s.ps, HR4.out⟩, HW4.out⟩
 try go_simp
 refine hK.out _ _ ⟨HQ4, ?_⟩
 clear hK K
 try simp only [sx]
 refine takeH (i := 8) (v := ?vz8) ?hyz8 HQ4 ?restz8
 case hyz8 => (intro wx hSx; obtain ⟨⟨ps', hq⟩, w0c, w1c, w2c, w3c, w4c, wl⟩ := hSx; obtain ⟨hb, _⟩ := hq.at; go_simp; try with_reducible rfl)
 try simp only [sx]
 refine takeH (i := 11) (v := ?vz11) ?hyz11 HQ4 ?restz11
 case hyz11 => (intro wx hSx; obtain ⟨⟨ps', hq⟩, w0c, w1c, w2c, w3c, w4c, wl⟩ := hSx; obtain ⟨hb, _⟩ := hq.at; go_simp; try with_reducible rfl)
 try simp only [sx]
 refine held_one (i := 12) (by kernel_rfl) rfl rfl (fun K hK => ?_)
 obtain ⟨hb, _⟩ := Run.at HR4.out
 obtain ⟨v0, v1⟩ := Run.prop HR4.out HD.out H6.out
 have z0 := Run.fz HR4.out (i := 10 + R * 2) (by have := H6.out; omega)
 have z1 := Run.fz HR4.out (i := 10 + R * 2 + 1) (by have := H6.out; omega)
 go_simp
 have HR5 : Hid (Run w0 F0 b c d p { s with ps := s.ps ++ [⟨1, fr, (R : Int), va, vl⟩] } out ((y4.setCell ⟨b, 10 + R * 2, none⟩ (.string vl)).setCell ⟨b, 10 + R * 2 + 1, none⟩ (.int .i64 va))) := Run.setP HR4.out ⟨1, fr, (R : Int), va, vl⟩ R H6.out rfl HP.out
 have HW5 : Hid (Wd W.heap.size 1 fr (R : Int) va vl ((y4.setCell ⟨b, 10 + R * 2, none⟩ (.string vl)).setCell ⟨b, 10 + R * 2 + 1, none⟩ (.int .i64 va))) := (Wd.st HW4.out HGB.out).st HGB.out
 clear v0 v1 z0 z1
 generalize (y4.setCell ⟨b, 10 + R * 2, none⟩ (.string vl)).setCell ⟨b, 10 + R * 2 + 1, none⟩ (.int .i64 va) = y5 at *
 have HQ5 : (fun wx => (∃ ps', Run w0 F0 b c d p { s with ps := ps' } out wx) ∧ Wd W.heap.size 1 fr (R : Int) va vl wx) y5 := ⟨⟨_, HR5.out⟩, HW5.out⟩
 try go_simp
 refine hK.out _ _ ⟨HQ5, ?_⟩
 clear hK K
 try simp only [sx]
 refine wpAnyH_done (by kernel_rfl) ?_ _
 refine NoPanic.normal ?_
 go_wp2_with fail
 refine bodyPost_end (v := .tuple #[]) (by simp [results, Try.results40, go_sem]) rfl ⟨rfl, ?_⟩
 rw [HN.out]
 exact HR5.out
theorem propose_any {w0 W : World} {F0 : Nat → Prop} {b c d : Nat} {p : Pm} {s : Ag} {out : List Vt} (fr rd va : Int) (vl : ByteArray) (hp : okP p) (hi : InvA p s) (hd : s.dn = false) (h : Run w0 F0 b c d p s out W) :
  Calls Try.prog 40 #[.pointer (some ⟨b, 0, none⟩), .agg #[.int .i64 1, .int .i64 fr, .int .i64 rd, .int .i64 va, .string vl]] W fun e w' => e = .returned (.tuple #[]) ∧ Run w0 F0 b c d p (prA p s ⟨1, fr, rd, va, vl⟩) out w' := by
 by_cases hb : 0 ≤ rd ∧ rd < 64 ∧ -1 ≤ va ∧ va < rd ∧ vl.size ≠ 0 ∧ vl.size ≤ 4096
 ·obtain ⟨R, rfl⟩ : ∃ R : Nat, rd = (R : Int) := ⟨rd.toNat, by omega⟩
  obtain ⟨h0, h6, h1, h2, h3, h4⟩ := hb
  obtain ⟨hq, _, _, p1, p2, _⟩ := hp
  have hq1 : (p.n : Int) ≤ 7 := hq.2.2.2
  have hq2 : (1 : Int) ≤ (p.n : Int) := by have := hq.1; have := hq.2.2.1; omega
  by_cases hle : fr = leadA p.n p.ht (R : Int)
  ·cases hq : propA s.ps (R : Int) with
   | none =>
    have e : pvl s.ps R = emp := by unfold pvl; rw [hq]
    refine propose_go fr va vl (by omega) h1 h2 h3 h4 hd hle (by rw [e]; rfl) hq (if_pos ⟨wOk_iff.2 ?_, hq, hle⟩) h
    have := lead_in hq2 hq1 p1 p2 h0 (by omega : (R : Int) ≤ 64)
    exact ⟨by show 1 ≤ fr; omega, by show fr ≤ 7; omega, h0, h6, h4, .inl ⟨rfl, h1, h2, h3⟩⟩
   | some m =>
    have e : pvl s.ps R = m.vl := by unfold pvl; rw [hq]
    refine propose_had fr va vl (by omega) h1 h2 h3 h4 hd hle (by rw [e]; exact (prop_wf hi hq).2.2.2.1) (if_neg (fun q => ?_)) h
    have := q.2.1
    dsimp only at this
    rw [hq] at this
    cases this
  ·exact propose_lead fr va vl (by omega) h1 h2 h3 h4 hd hle (if_neg (fun q => hle q.2.2)) h
 ·exact propose_bad fr rd va vl hb h
end Go.Proofs.Ytmanacbdldfmfaa
