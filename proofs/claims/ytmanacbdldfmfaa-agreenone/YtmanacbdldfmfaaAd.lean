/-
 begin, prevote, precommit, called.
-/
import Derived.Test.YtmanacbdldfmfaaAc
namespace Go.Proofs.Ytmanacbdldfmfaa
open Go.RowKit
set_option maxRecDepth 10000
section
variable {w0 W W' : World} {F0 : Nat → Prop} {b c d : Nat} {p : Pm} {s s' : Ag} {out : List Vt}
theorem Run.at (h : Run w0 F0 b c d p s out W) : b < W.heap.size ∧ W.cell? ⟨b, 0, none⟩ = some (.int .i64 (p.n : Int)) ∧ W.cell? ⟨b, 1, none⟩ = some (.int .i64 p.me) ∧ W.cell? ⟨b, 2, none⟩ = some (.int .i64 p.ht) ∧ W.cell? ⟨b, 4, none⟩ = some (.int .i64 s.rd) ∧ W.cell? ⟨b, 5, none⟩ = some (.int .i64 s.st) ∧ W.cell? ⟨b, 6, none⟩ = some (.string s.lk) ∧ W.cell? ⟨b, 7, none⟩ = some (.int .i64 s.lr) ∧ W.cell? ⟨b, 139, none⟩ = some (.string s.dc) ∧ W.cell? ⟨b, 140, none⟩ = some (sayF c d) := by
 obtain ⟨vp, G, u, h⟩ := h
 exact h.ab.at
theorem Run.live (h : Run w0 F0 b c d p s out W) (hd : s.dn = false) : W.cell? ⟨b, 3, none⟩ = some (.string p.own) ∧ W.cell? ⟨b, 8, none⟩ = some (.string s.vv) ∧ W.cell? ⟨b, 9, none⟩ = some (.int .i64 s.vr) := by
 obtain ⟨vp, G, u, h⟩ := h
 obtain ⟨h1, h2, h3, _⟩ := h.ab.live hd
 exact ⟨h1, h2, h3⟩
theorem Run.prop (h : Run w0 F0 b c d p s out W) (hd : s.dn = false) {r : Nat} (hr : r < 64) : W.cell? ⟨b, 10 + r * 2, none⟩ = some (.string (pvl s.ps r)) ∧ W.cell? ⟨b, 10 + r * 2 + 1, none⟩ = some (.int .i64 (pva s.ps r)) := by
 obtain ⟨vp, G, u, h⟩ := h
 exact h.ab.prop hd hr
theorem Run.fz (h : Run w0 F0 b c d p s out W) {i : Nat} (hi : i < 141) : W.frozen? ⟨b, i, none⟩ = false := by
 obtain ⟨vp, G, u, h⟩ := h
 exact h.ab.fz hi
end
set_option maxHeartbeats 1000000 in
theorem prevote_any {w0 W : World} {F0 : Nat → Prop} {b c d : Nat} {p : Pm} {s : Ag} {out : List Vt} (B : ByteArray) (hB : B.size ≤ 4096) (hl : out.length ≤ 10000) (h : Run w0 F0 b c d p s out W) :
  Calls Try.prog 54 #[.pointer (some ⟨b, 0, none⟩), .string B] W fun e w' => e = .returned (.tuple #[]) ∧ Run w0 F0 b c d p (voteA p s 2 B).1 (out ++ (voteA p s 2 B).2) w' := by
 obtain ⟨hb, _, _, _, _, _, _, _, _, c140⟩ := h.at
 have HS : Hid (Calls Try.prog 39 #[.int .i64 2, .int .i64 0, .string B, .pointer (some ⟨c, 0, none⟩), .pointer (some ⟨d, 0, none⟩)] W fun e w' => e = .returned (.tuple #[]) ∧ Run w0 F0 b c d p s (out ++ [⟨2, p.me, s.rd, 0, B⟩]) w') := say_any 2 0 B hB hl h
 clear h hB hl
 go_enter Try.func54, Try.ntmps54
 go_wp2_with fail
 refine HS.out.mono ?_
 rintro e w1 ⟨rfl, hR⟩
 have HR : Hid (Run w0 F0 b c d p s (out ++ [⟨2, p.me, s.rd, 0, B⟩]) w1) := hR
 obtain ⟨hb1, _, _, _, _, c5, _⟩ := hR.at
 have z5 := hR.fz (i := 5) (by decide)
 clear hR HS c140 hb
 go_wp2
 refine bodyPost_end (v := .tuple #[]) (by simp [results, Try.results54, go_sem]) rfl ⟨rfl, HR.out.setSt 2⟩
set_option maxHeartbeats 1000000 in
theorem precommit_any {w0 W : World} {F0 : Nat → Prop} {b c d : Nat} {p : Pm} {s : Ag} {out : List Vt} (B : ByteArray) (hB : B.size ≤ 4096) (hl : out.length ≤ 10000) (h : Run w0 F0 b c d p s out W) :
  Calls Try.prog 55 #[.pointer (some ⟨b, 0, none⟩), .string B] W fun e w' => e = .returned (.tuple #[]) ∧ Run w0 F0 b c d p (voteA p s 3 B).1 (out ++ (voteA p s 3 B).2) w' := by
 obtain ⟨hb, _, _, _, _, _, _, _, _, c140⟩ := h.at
 have HS : Hid (Calls Try.prog 39 #[.int .i64 3, .int .i64 0, .string B, .pointer (some ⟨c, 0, none⟩), .pointer (some ⟨d, 0, none⟩)] W fun e w' => e = .returned (.tuple #[]) ∧ Run w0 F0 b c d p s (out ++ [⟨3, p.me, s.rd, 0, B⟩]) w') := say_any 3 0 B hB hl h
 clear h hB hl
 go_enter Try.func55, Try.ntmps55
 go_wp2_with fail
 refine HS.out.mono ?_
 rintro e w1 ⟨rfl, hR⟩
 have HR : Hid (Run w0 F0 b c d p s (out ++ [⟨3, p.me, s.rd, 0, B⟩]) w1) := hR
 obtain ⟨hb1, _, _, _, _, c5, _⟩ := hR.at
 have z5 := hR.fz (i := 5) (by decide)
 clear hR HS c140 hb
 go_wp2
 refine bodyPost_end (v := .tuple #[]) (by simp [results, Try.results55, go_sem]) rfl ⟨rfl, HR.out.setSt 3⟩
set_option maxHeartbeats 1000000 in
theorem begin_high {w0 W : World} {F0 : Nat → Prop} {b c d : Nat} {p : Pm} {s : Ag} {out : List Vt} (r : Int) (h6 : 64 ≤ r) (h : Run w0 F0 b c d p s out W) :
  Calls Try.prog 32 #[.pointer (some ⟨b, 0, none⟩), .int .i64 r] W fun e w' => e = .returned (.tuple #[]) ∧ Run w0 F0 b c d p (beginA p s r).1 (out ++ (beginA p s r).2) w' := by
 have HR : Hid (Run w0 F0 b c d p (beginA p s r).1 (out ++ (beginA p s r).2) W) := by show Run _ _ _ _ _ _ _ _ _; unfold beginA; rw [if_pos h6, List.append_nil]; exact h
 clear h
 have d6 : decide ((64 : Int) ≤ r) = true := decide_eq_true h6
 clear h6
 go_enter Try.func32, Try.ntmps32
 go_wp2
 refine bodyPost_ret (v := .tuple #[]) (by simp [results, Try.results32, go_sem]) rfl ⟨rfl, HR.out⟩
set_option maxHeartbeats 4000000 in
theorem begin_no {w0 W : World} {F0 : Nat → Prop} {b c d : Nat} {p : Pm} {s : Ag} {out : List Vt} (r : Int) (h6 : r < 64) (hd : s.dn = false) (hl : out.length ≤ 10000) (hle : ¬ leadA p.n p.ht r = p.me) (h : Run w0 F0 b c d p s out W) :
  Calls Try.prog 32 #[.pointer (some ⟨b, 0, none⟩), .int .i64 r] W fun e w' => e = .returned (.tuple #[]) ∧ Run w0 F0 b c d p (beginA p s r).1 (out ++ (beginA p s r).2) w' := by
 have HC : Hid (∀ o' wx, Run w0 F0 b c d p { s with rd := r, st := 1 } o' wx → b < wx.heap.size ∧ wx.cell? ⟨b, 0, none⟩ = some (.int .i64 (p.n : Int)) ∧ wx.cell? ⟨b, 1, none⟩ = some (.int .i64 p.me) ∧ wx.cell? ⟨b, 2, none⟩ = some (.int .i64 p.ht) ∧ wx.cell? ⟨b, 3, none⟩ = some (.string p.own) ∧ wx.cell? ⟨b, 8, none⟩ = some (.string s.vv) ∧ wx.cell? ⟨b, 9, none⟩ = some (.int .i64 s.vr) ∧ wx.cell? ⟨b, 140, none⟩ = some (sayF c d)) := fun o' wx hx => by
  obtain ⟨hb, c0, c1, c2, _, _, _, _, _, c140⟩ := hx.at
  obtain ⟨c3, c8, c9⟩ := hx.live hd
  exact ⟨hb, c0, c1, c2, c3, c8, c9, c140⟩
 have HB : Hid (beginA p s r = ({ s with rd := r, st := 1 }, [])) := by show _ = _; rw [begin_eq h6, if_neg hle]
 have ql : (p.me != leadA p.n p.ht r) = true := by simpa using fun e => hle e.symm
 have HL : Hid (out.length ≤ 10000) := hl
 have d6 : decide ((64 : Int) ≤ r) = false := decide_eq_false (by omega)
 obtain ⟨hb, _, _, _, c4, c5, _⟩ := h.at
 have z4 := h.fz (i := 4) (by decide)
 have z5 := h.fz (i := 5) (by decide)
 have HS2 : Hid (Run w0 F0 b c d p { s with rd := r, st := 1 } out ((W.setCell ⟨b, 4, none⟩ (.int .i64 r)).setCell ⟨b, 5, none⟩ (.int .i64 1))) := (h.setRd r).setSt 1
 clear h h6 hd hl hle
 skip
 go_enter Try.func32, Try.ntmps32
 go_wp2_with fail
 obtain ⟨W2, hW2⟩ : ∃ W2, (W.setCell ⟨b, 4, none⟩ (.int .i64 r)).setCell ⟨b, 5, none⟩ (.int .i64 1) = W2 := ⟨_, rfl⟩
 rw [hW2] at HS2 ⊢
 clear hW2 c4 c5 z4 z5 hb
 refine wp_region_noPanic ?_
 refine wp_region_held (S := Run w0 F0 b c d p { s with rd := r, st := 1 } out) (by kernel_rfl) ?_
 rw [show ({ W2 with drawn := W2.drawn + 1 } : World) = W2.drew from rfl]
 have HS3 := HS2.out.ext (Ext.refl W2).drew
 generalize W2.drew = y3 at *
 clear HS2
 refine takeH (i := 0) (v := ?vb0) ?hyb0 HS3 ?restb0
 case hyb0 => (intro wx hSx; obtain ⟨hb, c0, c1, c2, c3, c8, c9, c140⟩ := HC.out _ _ hSx; go_simp; try with_reducible rfl)
 try simp only [sx]
 refine takeH (i := 1) (v := ?vb1) ?hyb1 HS3 ?restb1
 case hyb1 => (intro wx hSx; obtain ⟨hb, c0, c1, c2, c3, c8, c9, c140⟩ := HC.out _ _ hSx; go_simp; try with_reducible rfl)
 try simp only [sx]
 refine takeH (i := 2) (v := ?vb2) ?hyb2 HS3 ?restb2
 case hyb2 => (intro wx hSx; obtain ⟨hb, c0, c1, c2, c3, c8, c9, c140⟩ := HC.out _ _ hSx; go_simp; try with_reducible rfl)
 try simp only [sx]
 refine takeH (i := 3) (v := ?vb3) ?hyb3 HS3 ?restb3
 case hyb3 => (intro wx hSx; obtain ⟨hb, c0, c1, c2, c3, c8, c9, c140⟩ := HC.out _ _ hSx; go_simp; try with_reducible rfl)
 try simp only [sx]
 refine takeH (i := 4) (v := ?vb4) ?hyb4 HS3 ?restb4
 case hyb4 => (intro wx hSx; obtain ⟨hb, c0, c1, c2, c3, c8, c9, c140⟩ := HC.out _ _ hSx; go_simp; try with_reducible rfl)
 try simp only [sx]
 refine takeH (i := 5) (v := ?vb5) ?hyb5 HS3 ?restb5
 case hyb5 => (intro wx hSx; obtain ⟨hb, c0, c1, c2, c3, c8, c9, c140⟩ := HC.out _ _ hSx; go_simp; try with_reducible rfl)
 try simp only [sx]
 refine takeH (i := 6) (v := ?vb6) ?hyb6 HS3 ?restb6
 case hyb6 => (intro wx hSx; obtain ⟨hb, c0, c1, c2, c3, c8, c9, c140⟩ := HC.out _ _ hSx; go_simp; try with_reducible rfl)
 try simp only [sx]
 refine takeH (i := 7) (v := ?vb7) ?hyb7 HS3 ?restb7
 case hyb7 => (intro wx hSx; obtain ⟨hb, c0, c1, c2, c3, c8, c9, c140⟩ := HC.out _ _ hSx; go_simp; try with_reducible rfl)
 try simp only [sx]
 refine takeH (i := 8) (v := ?vb8) ?hyb8 HS3 ?restb8
 case hyb8 => (intro wx hSx; obtain ⟨hb, c0, c1, c2, c3, c8, c9, c140⟩ := HC.out _ _ hSx; go_simp; try with_reducible rfl)
 try simp only [sx]
 refine takeH (i := 9) (v := ?vb9) ?hyb9 HS3 ?restb9
 case hyb9 => (intro wx hSx; obtain ⟨hb, c0, c1, c2, c3, c8, c9, c140⟩ := HC.out _ _ hSx; go_simp; try with_reducible rfl)
 try simp only [sx]
 refine takeH (i := 10) (v := ?vb10) ?hyb10 HS3 ?restb10
 case hyb10 => (intro wx hSx; obtain ⟨hb, c0, c1, c2, c3, c8, c9, c140⟩ := HC.out _ _ hSx; go_simp; try with_reducible rfl)
 try simp only [sx]
 refine takeH (i := 11) (v := ?vb11) ?hyb11 HS3 ?restb11
 case hyb11 => (intro wx hSx; obtain ⟨hb, c0, c1, c2, c3, c8, c9, c140⟩ := HC.out _ _ hSx; go_simp; try with_reducible rfl)
 try simp only [sx]
 refine takeH (i := 12) (v := ?vb12) ?hyb12 HS3 ?restb12
 case hyb12 => (intro wx hSx; obtain ⟨hb, c0, c1, c2, c3, c8, c9, c140⟩ := HC.out _ _ hSx; go_simp; try with_reducible rfl)
 try simp only [sx]
 refine held_one (i := 13) (by kernel_rfl) rfl rfl (fun K hK => ?_)
 go_simp
 refine (lead_any (p.n : Int) p.ht r _).mono ?_
 rintro e w3 ⟨rfl, ew⟩
 subst ew
 try go_simp
 refine hK.out _ _ ⟨HS3, ?_⟩
 clear hK K
 try simp only [sx]
 refine takeH (i := 14) (v := ?vb14) ?hyb14 HS3 ?restb14
 case hyb14 => (intro wx hSx; obtain ⟨hb, c0, c1, c2, c3, c8, c9, c140⟩ := HC.out _ _ hSx; go_simp; try with_reducible rfl)
 try simp only [sx]
 refine wpAnyH_done (by kernel_rfl) ?_ _
 refine NoPanic.normal ?_
 go_wp2
 refine bodyPost_ret (v := .tuple #[]) (by simp [results, Try.results32, go_sem]) rfl ⟨rfl, ?_⟩
 rw [HB.out, List.append_nil]
 exact HS3
set_option maxHeartbeats 4000000 in
theorem begin_own {w0 W : World} {F0 : Nat → Prop} {b c d : Nat} {p : Pm} {s : Ag} {out : List Vt} (r : Int) (h6 : r < 64) (hd : s.dn = false) (hl : out.length ≤ 10000) (hle : leadA p.n p.ht r = p.me) (hv : s.vr = -1) (hz : p.own.size ≤ 4096) (h : Run w0 F0 b c d p s out W) :
  Calls Try.prog 32 #[.pointer (some ⟨b, 0, none⟩), .int .i64 r] W fun e w' => e = .returned (.tuple #[]) ∧ Run w0 F0 b c d p (beginA p s r).1 (out ++ (beginA p s r).2) w' := by
 have HC : Hid (∀ o' wx, Run w0 F0 b c d p { s with rd := r, st := 1 } o' wx → b < wx.heap.size ∧ wx.cell? ⟨b, 0, none⟩ = some (.int .i64 (p.n : Int)) ∧ wx.cell? ⟨b, 1, none⟩ = some (.int .i64 p.me) ∧ wx.cell? ⟨b, 2, none⟩ = some (.int .i64 p.ht) ∧ wx.cell? ⟨b, 3, none⟩ = some (.string p.own) ∧ wx.cell? ⟨b, 8, none⟩ = some (.string s.vv) ∧ wx.cell? ⟨b, 9, none⟩ = some (.int .i64 s.vr) ∧ wx.cell? ⟨b, 140, none⟩ = some (sayF c d)) := fun o' wx hx => by
  obtain ⟨hb, c0, c1, c2, _, _, _, _, _, c140⟩ := hx.at
  obtain ⟨c3, c8, c9⟩ := hx.live hd
  exact ⟨hb, c0, c1, c2, c3, c8, c9, c140⟩
 have HB : Hid (beginA p s r = ({ s with rd := r, st := 1 }, [⟨1, p.me, r, -1, p.own⟩])) := by show _ = _; rw [begin_eq h6, if_pos hle]; rw [hv, if_pos (by decide)]
 have ql : (p.me != leadA p.n p.ht r) = false := by simpa using hle.symm
 have qv : decide (s.vr < 0) = true := decide_eq_true (by omega)
 have HSz : Hid (p.own.size ≤ 4096) := hz
 have HL : Hid (out.length ≤ 10000) := hl
 have d6 : decide ((64 : Int) ≤ r) = false := decide_eq_false (by omega)
 obtain ⟨hb, _, _, _, c4, c5, _⟩ := h.at
 have z4 := h.fz (i := 4) (by decide)
 have z5 := h.fz (i := 5) (by decide)
 have HS2 : Hid (Run w0 F0 b c d p { s with rd := r, st := 1 } out ((W.setCell ⟨b, 4, none⟩ (.int .i64 r)).setCell ⟨b, 5, none⟩ (.int .i64 1))) := (h.setRd r).setSt 1
 clear h h6 hd hl hle hv hz
 skip
 go_enter Try.func32, Try.ntmps32
 go_wp2_with fail
 obtain ⟨W2, hW2⟩ : ∃ W2, (W.setCell ⟨b, 4, none⟩ (.int .i64 r)).setCell ⟨b, 5, none⟩ (.int .i64 1) = W2 := ⟨_, rfl⟩
 rw [hW2] at HS2 ⊢
 clear hW2 c4 c5 z4 z5 hb
 refine wp_region_noPanic ?_
 refine wp_region_held (S := Run w0 F0 b c d p { s with rd := r, st := 1 } out) (by kernel_rfl) ?_
 rw [show ({ W2 with drawn := W2.drawn + 1 } : World) = W2.drew from rfl]
 have HS3 := HS2.out.ext (Ext.refl W2).drew
 generalize W2.drew = y3 at *
 clear HS2
 refine takeH (i := 0) (v := ?vb0) ?hyb0 HS3 ?restb0
 case hyb0 => (intro wx hSx; obtain ⟨hb, c0, c1, c2, c3, c8, c9, c140⟩ := HC.out _ _ hSx; go_simp; try with_reducible rfl)
 try simp only [sx]
 refine takeH (i := 1) (v := ?vb1) ?hyb1 HS3 ?restb1
 case hyb1 => (intro wx hSx; obtain ⟨hb, c0, c1, c2, c3, c8, c9, c140⟩ := HC.out _ _ hSx; go_simp; try with_reducible rfl)
 try simp only [sx]
 refine takeH (i := 2) (v := ?vb2) ?hyb2 HS3 ?restb2
 case hyb2 => (intro wx hSx; obtain ⟨hb, c0, c1, c2, c3, c8, c9, c140⟩ := HC.out _ _ hSx; go_simp; try with_reducible rfl)
 try simp only [sx]
 refine takeH (i := 3) (v := ?vb3) ?hyb3 HS3 ?restb3
 case hyb3 => (intro wx hSx; obtain ⟨hb, c0, c1, c2, c3, c8, c9, c140⟩ := HC.out _ _ hSx; go_simp; try with_reducible rfl)
 try simp only [sx]
 refine takeH (i := 4) (v := ?vb4) ?hyb4 HS3 ?restb4
 case hyb4 => (intro wx hSx; obtain ⟨hb, c0, c1, c2, c3, c8, c9, c140⟩ := HC.out _ _ hSx; go_simp; try with_reducible rfl)
 try simp only [sx]
 refine takeH (i := 5) (v := ?vb5) ?hyb5 HS3 ?restb5
 case hyb5 => (intro wx hSx; obtain ⟨hb, c0, c1, c2, c3, c8, c9, c140⟩ := HC.out _ _ hSx; go_simp; try with_reducible rfl)
 try simp only [sx]
 refine takeH (i := 6) (v := ?vb6) ?hyb6 HS3 ?restb6
 case hyb6 => (intro wx hSx; obtain ⟨hb, c0, c1, c2, c3, c8, c9, c140⟩ := HC.out _ _ hSx; go_simp; try with_reducible rfl)
 try simp only [sx]
 refine takeH (i := 7) (v := ?vb7) ?hyb7 HS3 ?restb7
 case hyb7 => (intro wx hSx; obtain ⟨hb, c0, c1, c2, c3, c8, c9, c140⟩ := HC.out _ _ hSx; go_simp; try with_reducible rfl)
 try simp only [sx]
 refine takeH (i := 8) (v := ?vb8) ?hyb8 HS3 ?restb8
 case hyb8 => (intro wx hSx; obtain ⟨hb, c0, c1, c2, c3, c8, c9, c140⟩ := HC.out _ _ hSx; go_simp; try with_reducible rfl)
 try simp only [sx]
 refine takeH (i := 9) (v := ?vb9) ?hyb9 HS3 ?restb9
 case hyb9 => (intro wx hSx; obtain ⟨hb, c0, c1, c2, c3, c8, c9, c140⟩ := HC.out _ _ hSx; go_simp; try with_reducible rfl)
 try simp only [sx]
 refine takeH (i := 10) (v := ?vb10) ?hyb10 HS3 ?restb10
 case hyb10 => (intro wx hSx; obtain ⟨hb, c0, c1, c2, c3, c8, c9, c140⟩ := HC.out _ _ hSx; go_simp; try with_reducible rfl)
 try simp only [sx]
 refine takeH (i := 11) (v := ?vb11) ?hyb11 HS3 ?restb11
 case hyb11 => (intro wx hSx; obtain ⟨hb, c0, c1, c2, c3, c8, c9, c140⟩ := HC.out _ _ hSx; go_simp; try with_reducible rfl)
 try simp only [sx]
 refine takeH (i := 12) (v := ?vb12) ?hyb12 HS3 ?restb12
 case hyb12 => (intro wx hSx; obtain ⟨hb, c0, c1, c2, c3, c8, c9, c140⟩ := HC.out _ _ hSx; go_simp; try with_reducible rfl)
 try simp only [sx]
 refine held_one (i := 13) (by kernel_rfl) rfl rfl (fun K hK => ?_)
 go_simp
 refine (lead_any (p.n : Int) p.ht r _).mono ?_
 rintro e w3 ⟨rfl, ew⟩
 subst ew
 try go_simp
 refine hK.out _ _ ⟨HS3, ?_⟩
 clear hK K
 try simp only [sx]
 refine takeH (i := 14) (v := ?vb14) ?hyb14 HS3 ?restb14
 case hyb14 => (intro wx hSx; obtain ⟨hb, c0, c1, c2, c3, c8, c9, c140⟩ := HC.out _ _ hSx; go_simp; try with_reducible rfl)
 try simp only [sx]
 refine wpAnyH_done (by kernel_rfl) ?_ _
 refine NoPanic.normal ?_
 obtain ⟨hb, c0, c1, c2, c3, c8, c9, c140⟩ := HC.out _ _ HS3
 clear c0 c1 c2
 go_wp2_with fail
 refine wp_region_noPanic ?_
 refine wp_region_held (S := fun wx => ∃ o', Run w0 F0 b c d p { s with rd := r, st := 1 } o' wx) (by kernel_rfl) ?_
 rw [show ({ w3 with drawn := w3.drawn + 1 } : World) = w3.drew from rfl]
 have HS4 := HS3.ext (Ext.refl w3).drew
 generalize w3.drew = y4 at *
 have HS5 : ∃ o', Run w0 F0 b c d p { s with rd := r, st := 1 } o' y4 := ⟨_, HS4⟩
 clear hb c3 c8 c9 c140
 refine takeH (i := 0) (v := ?vt0) ?hyt0 HS5 ?restt0
 case hyt0 => (intro wx hSx; obtain ⟨o', hSx⟩ := hSx; obtain ⟨hb, c0, c1, c2, c3, c8, c9, c140⟩ := HC.out _ _ hSx; go_simp; try with_reducible rfl)
 try simp only [sx]
 refine takeH (i := 1) (v := ?vt1) ?hyt1 HS5 ?restt1
 case hyt1 => (intro wx hSx; obtain ⟨o', hSx⟩ := hSx; obtain ⟨hb, c0, c1, c2, c3, c8, c9, c140⟩ := HC.out _ _ hSx; go_simp; try with_reducible rfl)
 try simp only [sx]
 refine takeH (i := 2) (v := ?vt2) ?hyt2 HS5 ?restt2
 case hyt2 => (intro wx hSx; obtain ⟨o', hSx⟩ := hSx; obtain ⟨hb, c0, c1, c2, c3, c8, c9, c140⟩ := HC.out _ _ hSx; go_simp; try with_reducible rfl)
 try simp only [sx]
 refine takeH (i := 3) (v := ?vt3) ?hyt3 HS5 ?restt3
 case hyt3 => (intro wx hSx; obtain ⟨o', hSx⟩ := hSx; obtain ⟨hb, c0, c1, c2, c3, c8, c9, c140⟩ := HC.out _ _ hSx; go_simp; try with_reducible rfl)
 try simp only [sx]
 refine takeH (i := 4) (v := ?vt4) ?hyt4 HS5 ?restt4
 case hyt4 => (intro wx hSx; obtain ⟨o', hSx⟩ := hSx; obtain ⟨hb, c0, c1, c2, c3, c8, c9, c140⟩ := HC.out _ _ hSx; go_simp; try with_reducible rfl)
 try simp only [sx]
 refine takeH (i := 5) (v := ?vt5) ?hyt5 HS5 ?restt5
 case hyt5 => (intro wx hSx; obtain ⟨o', hSx⟩ := hSx; obtain ⟨hb, c0, c1, c2, c3, c8, c9, c140⟩ := HC.out _ _ hSx; go_simp; try with_reducible rfl)
 try simp only [sx]
 refine takeH (i := 6) (v := ?vt6) ?hyt6 HS5 ?restt6
 case hyt6 => (intro wx hSx; obtain ⟨o', hSx⟩ := hSx; obtain ⟨hb, c0, c1, c2, c3, c8, c9, c140⟩ := HC.out _ _ hSx; go_simp; try with_reducible rfl)
 try simp only [sx]
 refine takeH (i := 7) (v := ?vt7) ?hyt7 HS5 ?restt7
 case hyt7 => (intro wx hSx; obtain ⟨o', hSx⟩ := hSx; obtain ⟨hb, c0, c1, c2, c3, c8, c9, c140⟩ := HC.out _ _ hSx; go_simp; try with_reducible rfl)
 try simp only [sx]
 refine held_one (i := 8) (by kernel_rfl) rfl rfl (fun K hK => ?_)
 go_simp
 refine (say_any 1 (-1) p.own HSz.out HL.out HS4).mono ?_
 rintro e y5 ⟨rfl, HF⟩
 have HF : Hid _ := HF
 have HS6 : ∃ o', Run w0 F0 b c d p { s with rd := r, st := 1 } o' y5 := ⟨_, HF.out⟩
 try go_simp
 refine hK.out _ _ ⟨HS6, ?_⟩
 clear hK K
 try simp only [sx]
 refine wpAnyH_done (by kernel_rfl) ?_ _
 refine NoPanic.normal ?_
 go_wp2
 refine bodyPost_end (v := .tuple #[]) (by simp [results, Try.results32, go_sem]) rfl ⟨rfl, ?_⟩
 rw [HB.out]
 exact HF.out
set_option maxHeartbeats 4000000 in
theorem begin_val {w0 W : World} {F0 : Nat → Prop} {b c d : Nat} {p : Pm} {s : Ag} {out : List Vt} (r : Int) (h6 : r < 64) (hd : s.dn = false) (hl : out.length ≤ 10000) (hle : leadA p.n p.ht r = p.me) (hv : 0 ≤ s.vr) (hz : s.vv.size ≤ 4096) (h : Run w0 F0 b c d p s out W) :
  Calls Try.prog 32 #[.pointer (some ⟨b, 0, none⟩), .int .i64 r] W fun e w' => e = .returned (.tuple #[]) ∧ Run w0 F0 b c d p (beginA p s r).1 (out ++ (beginA p s r).2) w' := by
 have HC : Hid (∀ o' wx, Run w0 F0 b c d p { s with rd := r, st := 1 } o' wx → b < wx.heap.size ∧ wx.cell? ⟨b, 0, none⟩ = some (.int .i64 (p.n : Int)) ∧ wx.cell? ⟨b, 1, none⟩ = some (.int .i64 p.me) ∧ wx.cell? ⟨b, 2, none⟩ = some (.int .i64 p.ht) ∧ wx.cell? ⟨b, 3, none⟩ = some (.string p.own) ∧ wx.cell? ⟨b, 8, none⟩ = some (.string s.vv) ∧ wx.cell? ⟨b, 9, none⟩ = some (.int .i64 s.vr) ∧ wx.cell? ⟨b, 140, none⟩ = some (sayF c d)) := fun o' wx hx => by
  obtain ⟨hb, c0, c1, c2, _, _, _, _, _, c140⟩ := hx.at
  obtain ⟨c3, c8, c9⟩ := hx.live hd
  exact ⟨hb, c0, c1, c2, c3, c8, c9, c140⟩
 have HB : Hid (beginA p s r = ({ s with rd := r, st := 1 }, [⟨1, p.me, r, s.vr, s.vv⟩])) := by show _ = _; rw [begin_eq h6, if_pos hle]; rw [if_neg (by omega)]
 have ql : (p.me != leadA p.n p.ht r) = false := by simpa using hle.symm
 have qv : decide (s.vr < 0) = false := decide_eq_false (by omega)
 have HSz : Hid (s.vv.size ≤ 4096) := hz
 have HL : Hid (out.length ≤ 10000) := hl
 have d6 : decide ((64 : Int) ≤ r) = false := decide_eq_false (by omega)
 obtain ⟨hb, _, _, _, c4, c5, _⟩ := h.at
 have z4 := h.fz (i := 4) (by decide)
 have z5 := h.fz (i := 5) (by decide)
 have HS2 : Hid (Run w0 F0 b c d p { s with rd := r, st := 1 } out ((W.setCell ⟨b, 4, none⟩ (.int .i64 r)).setCell ⟨b, 5, none⟩ (.int .i64 1))) := (h.setRd r).setSt 1
 clear h h6 hd hl hle hv hz
 skip
 go_enter Try.func32, Try.ntmps32
 go_wp2_with fail
 obtain ⟨W2, hW2⟩ : ∃ W2, (W.setCell ⟨b, 4, none⟩ (.int .i64 r)).setCell ⟨b, 5, none⟩ (.int .i64 1) = W2 := ⟨_, rfl⟩
 rw [hW2] at HS2 ⊢
 clear hW2 c4 c5 z4 z5 hb
 refine wp_region_noPanic ?_
 refine wp_region_held (S := Run w0 F0 b c d p { s with rd := r, st := 1 } out) (by kernel_rfl) ?_
 rw [show ({ W2 with drawn := W2.drawn + 1 } : World) = W2.drew from rfl]
 have HS3 := HS2.out.ext (Ext.refl W2).drew
 generalize W2.drew = y3 at *
 clear HS2
 refine takeH (i := 0) (v := ?vb0) ?hyb0 HS3 ?restb0
 case hyb0 => (intro wx hSx; obtain ⟨hb, c0, c1, c2, c3, c8, c9, c140⟩ := HC.out _ _ hSx; go_simp; try with_reducible rfl)
 try simp only [sx]
 refine takeH (i := 1) (v := ?vb1) ?hyb1 HS3 ?restb1
 case hyb1 => (intro wx hSx; obtain ⟨hb, c0, c1, c2, c3, c8, c9, c140⟩ := HC.out _ _ hSx; go_simp; try with_reducible rfl)
 try simp only [sx]
 refine takeH (i := 2) (v := ?vb2) ?hyb2 HS3 ?restb2
 case hyb2 => (intro wx hSx; obtain ⟨hb, c0, c1, c2, c3, c8, c9, c140⟩ := HC.out _ _ hSx; go_simp; try with_reducible rfl)
 try simp only [sx]
 refine takeH (i := 3) (v := ?vb3) ?hyb3 HS3 ?restb3
 case hyb3 => (intro wx hSx; obtain ⟨hb, c0, c1, c2, c3, c8, c9, c140⟩ := HC.out _ _ hSx; go_simp; try with_reducible rfl)
 try simp only [sx]
 refine takeH (i := 4) (v := ?vb4) ?hyb4 HS3 ?restb4
 case hyb4 => (intro wx hSx; obtain ⟨hb, c0, c1, c2, c3, c8, c9, c140⟩ := HC.out _ _ hSx; go_simp; try with_reducible rfl)
 try simp only [sx]
 refine takeH (i := 5) (v := ?vb5) ?hyb5 HS3 ?restb5
 case hyb5 => (intro wx hSx; obtain ⟨hb, c0, c1, c2, c3, c8, c9, c140⟩ := HC.out _ _ hSx; go_simp; try with_reducible rfl)
 try simp only [sx]
 refine takeH (i := 6) (v := ?vb6) ?hyb6 HS3 ?restb6
 case hyb6 => (intro wx hSx; obtain ⟨hb, c0, c1, c2, c3, c8, c9, c140⟩ := HC.out _ _ hSx; go_simp; try with_reducible rfl)
 try simp only [sx]
 refine takeH (i := 7) (v := ?vb7) ?hyb7 HS3 ?restb7
 case hyb7 => (intro wx hSx; obtain ⟨hb, c0, c1, c2, c3, c8, c9, c140⟩ := HC.out _ _ hSx; go_simp; try with_reducible rfl)
 try simp only [sx]
 refine takeH (i := 8) (v := ?vb8) ?hyb8 HS3 ?restb8
 case hyb8 => (intro wx hSx; obtain ⟨hb, c0, c1, c2, c3, c8, c9, c140⟩ := HC.out _ _ hSx; go_simp; try with_reducible rfl)
 try simp only [sx]
 refine takeH (i := 9) (v := ?vb9) ?hyb9 HS3 ?restb9
 case hyb9 => (intro wx hSx; obtain ⟨hb, c0, c1, c2, c3, c8, c9, c140⟩ := HC.out _ _ hSx; go_simp; try with_reducible rfl)
 try simp only [sx]
 refine takeH (i := 10) (v := ?vb10) ?hyb10 HS3 ?restb10
 case hyb10 => (intro wx hSx; obtain ⟨hb, c0, c1, c2, c3, c8, c9, c140⟩ := HC.out _ _ hSx; go_simp; try with_reducible rfl)
 try simp only [sx]
 refine takeH (i := 11) (v := ?vb11) ?hyb11 HS3 ?restb11
 case hyb11 => (intro wx hSx; obtain ⟨hb, c0, c1, c2, c3, c8, c9, c140⟩ := HC.out _ _ hSx; go_simp; try with_reducible rfl)
 try simp only [sx]
 refine takeH (i := 12) (v := ?vb12) ?hyb12 HS3 ?restb12
 case hyb12 => (intro wx hSx; obtain ⟨hb, c0, c1, c2, c3, c8, c9, c140⟩ := HC.out _ _ hSx; go_simp; try with_reducible rfl)
 try simp only [sx]
 refine held_one (i := 13) (by kernel_rfl) rfl rfl (fun K hK => ?_)
 go_simp
 refine (lead_any (p.n : Int) p.ht r _).mono ?_
 rintro e w3 ⟨rfl, ew⟩
 subst ew
 try go_simp
 refine hK.out _ _ ⟨HS3, ?_⟩
 clear hK K
 try simp only [sx]
 refine takeH (i := 14) (v := ?vb14) ?hyb14 HS3 ?restb14
 case hyb14 => (intro wx hSx; obtain ⟨hb, c0, c1, c2, c3, c8, c9, c140⟩ := HC.out _ _ hSx; go_simp; try with_reducible rfl)
 try simp only [sx]
 refine wpAnyH_done (by kernel_rfl) ?_ _
 refine NoPanic.normal ?_
 obtain ⟨hb, c0, c1, c2, c3, c8, c9, c140⟩ := HC.out _ _ HS3
 clear c0 c1 c2
 go_wp2_with fail
 refine wp_region_noPanic ?_
 refine wp_region_held (S := fun wx => ∃ o', Run w0 F0 b c d p { s with rd := r, st := 1 } o' wx) (by kernel_rfl) ?_
 rw [show ({ w3 with drawn := w3.drawn + 1 } : World) = w3.drew from rfl]
 have HS4 := HS3.ext (Ext.refl w3).drew
 generalize w3.drew = y4 at *
 have HS5 : ∃ o', Run w0 F0 b c d p { s with rd := r, st := 1 } o' y4 := ⟨_, HS4⟩
 clear hb c3 c8 c9 c140
 refine takeH (i := 0) (v := ?vt0) ?hyt0 HS5 ?restt0
 case hyt0 => (intro wx hSx; obtain ⟨o', hSx⟩ := hSx; obtain ⟨hb, c0, c1, c2, c3, c8, c9, c140⟩ := HC.out _ _ hSx; go_simp; try with_reducible rfl)
 try simp only [sx]
 refine takeH (i := 1) (v := ?vt1) ?hyt1 HS5 ?restt1
 case hyt1 => (intro wx hSx; obtain ⟨o', hSx⟩ := hSx; obtain ⟨hb, c0, c1, c2, c3, c8, c9, c140⟩ := HC.out _ _ hSx; go_simp; try with_reducible rfl)
 try simp only [sx]
 refine takeH (i := 2) (v := ?vt2) ?hyt2 HS5 ?restt2
 case hyt2 => (intro wx hSx; obtain ⟨o', hSx⟩ := hSx; obtain ⟨hb, c0, c1, c2, c3, c8, c9, c140⟩ := HC.out _ _ hSx; go_simp; try with_reducible rfl)
 try simp only [sx]
 refine takeH (i := 3) (v := ?vt3) ?hyt3 HS5 ?restt3
 case hyt3 => (intro wx hSx; obtain ⟨o', hSx⟩ := hSx; obtain ⟨hb, c0, c1, c2, c3, c8, c9, c140⟩ := HC.out _ _ hSx; go_simp; try with_reducible rfl)
 try simp only [sx]
 refine takeH (i := 4) (v := ?vt4) ?hyt4 HS5 ?restt4
 case hyt4 => (intro wx hSx; obtain ⟨o', hSx⟩ := hSx; obtain ⟨hb, c0, c1, c2, c3, c8, c9, c140⟩ := HC.out _ _ hSx; go_simp; try with_reducible rfl)
 try simp only [sx]
 refine takeH (i := 5) (v := ?vt5) ?hyt5 HS5 ?restt5
 case hyt5 => (intro wx hSx; obtain ⟨o', hSx⟩ := hSx; obtain ⟨hb, c0, c1, c2, c3, c8, c9, c140⟩ := HC.out _ _ hSx; go_simp; try with_reducible rfl)
 try simp only [sx]
 refine takeH (i := 6) (v := ?vt6) ?hyt6 HS5 ?restt6
 case hyt6 => (intro wx hSx; obtain ⟨o', hSx⟩ := hSx; obtain ⟨hb, c0, c1, c2, c3, c8, c9, c140⟩ := HC.out _ _ hSx; go_simp; try with_reducible rfl)
 try simp only [sx]
 refine takeH (i := 7) (v := ?vt7) ?hyt7 HS5 ?restt7
 case hyt7 => (intro wx hSx; obtain ⟨o', hSx⟩ := hSx; obtain ⟨hb, c0, c1, c2, c3, c8, c9, c140⟩ := HC.out _ _ hSx; go_simp; try with_reducible rfl)
 try simp only [sx]
 refine takeH (i := 8) (v := ?vt8) ?hyt8 HS5 ?restt8
 case hyt8 => (intro wx hSx; obtain ⟨o', hSx⟩ := hSx; obtain ⟨hb, c0, c1, c2, c3, c8, c9, c140⟩ := HC.out _ _ hSx; go_simp; try with_reducible rfl)
 try simp only [sx]
 refine takeH (i := 9) (v := ?vt9) ?hyt9 HS5 ?restt9
 case hyt9 => (intro wx hSx; obtain ⟨o', hSx⟩ := hSx; obtain ⟨hb, c0, c1, c2, c3, c8, c9, c140⟩ := HC.out _ _ hSx; go_simp; try with_reducible rfl)
 try simp only [sx]
 refine takeH (i := 10) (v := ?vt10) ?hyt10 HS5 ?restt10
 case hyt10 => (intro wx hSx; obtain ⟨o', hSx⟩ := hSx; obtain ⟨hb, c0, c1, c2, c3, c8, c9, c140⟩ := HC.out _ _ hSx; go_simp; try with_reducible rfl)
 try simp only [sx]
 refine takeH (i := 11) (v := ?vt11) ?hyt11 HS5 ?restt11
 case hyt11 => (intro wx hSx; obtain ⟨o', hSx⟩ := hSx; obtain ⟨hb, c0, c1, c2, c3, c8, c9, c140⟩ := HC.out _ _ hSx; go_simp; try with_reducible rfl)
 try simp only [sx]
 refine takeH (i := 12) (v := ?vt12) ?hyt12 HS5 ?restt12
 case hyt12 => (intro wx hSx; obtain ⟨o', hSx⟩ := hSx; obtain ⟨hb, c0, c1, c2, c3, c8, c9, c140⟩ := HC.out _ _ hSx; go_simp; try with_reducible rfl)
 try simp only [sx]
 refine takeH (i := 13) (v := ?vt13) ?hyt13 HS5 ?restt13
 case hyt13 => (intro wx hSx; obtain ⟨o', hSx⟩ := hSx; obtain ⟨hb, c0, c1, c2, c3, c8, c9, c140⟩ := HC.out _ _ hSx; go_simp; try with_reducible rfl)
 try simp only [sx]
 refine held_one (i := 14) (by kernel_rfl) rfl rfl (fun K hK => ?_)
 go_simp
 refine (say_any 1 (s.vr) s.vv HSz.out HL.out HS4).mono ?_
 rintro e y5 ⟨rfl, HF⟩
 have HF : Hid _ := HF
 have HS6 : ∃ o', Run w0 F0 b c d p { s with rd := r, st := 1 } o' y5 := ⟨_, HF.out⟩
 try go_simp
 refine hK.out _ _ ⟨HS6, ?_⟩
 clear hK K
 try simp only [sx]
 refine wpAnyH_done (by kernel_rfl) ?_ _
 refine NoPanic.normal ?_
 go_wp2
 refine bodyPost_end (v := .tuple #[]) (by simp [results, Try.results32, go_sem]) rfl ⟨rfl, ?_⟩
 rw [HB.out]
 exact HF.out
theorem begin_any {w0 W : World} {F0 : Nat → Prop} {b c d : Nat} {p : Pm} {s : Ag} {out : List Vt} (r : Int) (hp : okP p) (hi : InvA p s) (hd : s.dn = false) (hl : out.length ≤ 10000) (h : Run w0 F0 b c d p s out W) :
  Calls Try.prog 32 #[.pointer (some ⟨b, 0, none⟩), .int .i64 r] W fun e w' => e = .returned (.tuple #[]) ∧ Run w0 F0 b c d p (beginA p s r).1 (out ++ (beginA p s r).2) w' := by
 by_cases h6 : 64 ≤ r
 ·exact begin_high r h6 h
 ·by_cases hle : leadA p.n p.ht r = p.me
  ·by_cases hv : s.vr < 0
   ·exact begin_own r (by omega) hd hl hle (by have := hi.vr; omega) hp.2.2.2.2.2.2 h
   ·exact begin_val r (by omega) hd hl hle (by omega) (hi.vv (by omega)).2 h
  ·exact begin_no r (by omega) hd hl hle h
end Go.Proofs.Ytmanacbdldfmfaa
