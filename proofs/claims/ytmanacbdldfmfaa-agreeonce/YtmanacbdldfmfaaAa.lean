/-
 Layer 22's program: Leader (both), the cells of a part, where one lies.
-/
import Derived.Test.YtmanacbdldfmfaaAMath
import Derived.Test.YtmanacbdldfmfaaRp
import Derived.Test.YtmanacbdldfmfaaRefD
import Derived.Deep.MidRow
namespace Go.Proofs.Ytmanacbdldfmfaa
open Go.RowKit
set_option maxRecDepth 10000
set_option maxHeartbeats 2000000 in
theorem lead_any (n h r : Int) (w : World) : Calls Try.prog 8 #[.int .i64 n, .int .i64 h, .int .i64 r] w fun e w' => e = .returned (.int .i64 (leadA n h r)) ∧ w' = w := by
 obtain ⟨x, HX⟩ : ∃ x, Hid (leadA n h r = x) := ⟨_, rfl⟩
 rw [HX.out]
 by_cases h0 : n < 1
 ·have d0 : decide (n < 1) = true := decide_eq_true h0
  have q : Hid (x = 0) := HX.out.symm.trans (if_neg (by omega))
  clear HX h0
  go_enter Try.func8, Try.ntmps8
  go_wp2
  go_ret
  exact ⟨by rw [q.out]; rfl, rfl⟩
 have d0 : decide (n < 1) = false := decide_eq_false h0
 by_cases h1 : (7 : Int) < n
 ·have d1 : decide ((7 : Int) < n) = true := decide_eq_true h1
  have q : Hid (x = 0) := HX.out.symm.trans (if_neg (by omega))
  clear HX h0 h1
  go_enter Try.func8, Try.ntmps8
  go_wp2
  go_ret
  exact ⟨by rw [q.out]; rfl, rfl⟩
 have d1 : decide ((7 : Int) < n) = false := decide_eq_false h1
 by_cases h2 : h < 0
 ·have d2 : decide (h < 0) = true := decide_eq_true h2
  have q : Hid (x = 0) := HX.out.symm.trans (if_neg (by omega))
  clear HX h0 h1 h2
  go_enter Try.func8, Try.ntmps8
  go_wp2
  go_ret
  exact ⟨by rw [q.out]; rfl, rfl⟩
 have d2 : decide (h < 0) = false := decide_eq_false h2
 by_cases h3 : (64 : Int) < h
 ·have d3 : decide ((64 : Int) < h) = true := decide_eq_true h3
  have q : Hid (x = 0) := HX.out.symm.trans (if_neg (by omega))
  clear HX h0 h1 h2 h3
  go_enter Try.func8, Try.ntmps8
  go_wp2
  go_ret
  exact ⟨by rw [q.out]; rfl, rfl⟩
 have d3 : decide ((64 : Int) < h) = false := decide_eq_false h3
 by_cases h4 : r < 0
 ·have d4 : decide (r < 0) = true := decide_eq_true h4
  have q : Hid (x = 0) := HX.out.symm.trans (if_neg (by omega))
  clear HX h0 h1 h2 h3 h4
  go_enter Try.func8, Try.ntmps8
  go_wp2
  go_ret
  exact ⟨by rw [q.out]; rfl, rfl⟩
 have d4 : decide (r < 0) = false := decide_eq_false h4
 by_cases h5 : (64 : Int) < r
 ·have d5 : decide ((64 : Int) < r) = true := decide_eq_true h5
  have q : Hid (x = 0) := HX.out.symm.trans (if_neg (by omega))
  clear HX h0 h1 h2 h3 h4 h5
  go_enter Try.func8, Try.ntmps8
  go_wp2
  go_ret
  exact ⟨by rw [q.out]; rfl, rfl⟩
 have d5 : decide ((64 : Int) < r) = false := decide_eq_false h5
 have q : Hid (x = Int.tmod (h + r) n + 1) := HX.out.symm.trans (if_pos (by omega))
 have hs : IntKind.i64.wrap (h + r) = h + r := by rw [IntKind.wrap_i64]; omega
 have hn0 : ¬ n = 0 := by omega
 have t0 : 0 ≤ Int.tmod (h + r) n := Int.tmod_nonneg n (by omega)
 have t1 : Int.tmod (h + r) n < n := Int.tmod_lt_of_pos (h + r) (by omega)
 have ht : IntKind.i64.wrap (Int.tmod (h + r) n) = Int.tmod (h + r) n := by rw [IntKind.wrap_i64]; omega
 have ht2 : IntKind.i64.wrap (Int.tmod (h + r) n + 1) = Int.tmod (h + r) n + 1 := by rw [IntKind.wrap_i64]; omega
 clear HX h0 h1 h2 h3 h4 h5 t0 t1
 go_enter Try.func8, Try.ntmps8
 go_wp2
 go_ret
 exact ⟨by rw [q.out]; rfl, rfl⟩
set_option maxHeartbeats 2000000 in
theorem rlead_any (n h r : Int) (w : World) : Calls Try.prog 9 #[.int .i64 n, .int .i64 h, .int .i64 r] w fun e w' => e = .returned (.int .i64 (leadA n h r)) ∧ w' = w := by
 obtain ⟨x, HX⟩ : ∃ x, Hid (leadA n h r = x) := ⟨_, rfl⟩
 rw [HX.out]
 by_cases h0 : n < 1
 ·have d0 : decide (n < 1) = true := decide_eq_true h0
  have q : Hid (x = 0) := HX.out.symm.trans (if_neg (by omega))
  clear HX h0
  go_enter Try.func9, Try.ntmps9
  go_wp2
  go_ret
  exact ⟨by rw [q.out]; rfl, rfl⟩
 have d0 : decide (n < 1) = false := decide_eq_false h0
 by_cases h1 : (7 : Int) < n
 ·have d1 : decide ((7 : Int) < n) = true := decide_eq_true h1
  have q : Hid (x = 0) := HX.out.symm.trans (if_neg (by omega))
  clear HX h0 h1
  go_enter Try.func9, Try.ntmps9
  go_wp2
  go_ret
  exact ⟨by rw [q.out]; rfl, rfl⟩
 have d1 : decide ((7 : Int) < n) = false := decide_eq_false h1
 by_cases h2 : h < 0
 ·have d2 : decide (h < 0) = true := decide_eq_true h2
  have q : Hid (x = 0) := HX.out.symm.trans (if_neg (by omega))
  clear HX h0 h1 h2
  go_enter Try.func9, Try.ntmps9
  go_wp2
  go_ret
  exact ⟨by rw [q.out]; rfl, rfl⟩
 have d2 : decide (h < 0) = false := decide_eq_false h2
 by_cases h3 : (64 : Int) < h
 ·have d3 : decide ((64 : Int) < h) = true := decide_eq_true h3
  have q : Hid (x = 0) := HX.out.symm.trans (if_neg (by omega))
  clear HX h0 h1 h2 h3
  go_enter Try.func9, Try.ntmps9
  go_wp2
  go_ret
  exact ⟨by rw [q.out]; rfl, rfl⟩
 have d3 : decide ((64 : Int) < h) = false := decide_eq_false h3
 by_cases h4 : r < 0
 ·have d4 : decide (r < 0) = true := decide_eq_true h4
  have q : Hid (x = 0) := HX.out.symm.trans (if_neg (by omega))
  clear HX h0 h1 h2 h3 h4
  go_enter Try.func9, Try.ntmps9
  go_wp2
  go_ret
  exact ⟨by rw [q.out]; rfl, rfl⟩
 have d4 : decide (r < 0) = false := decide_eq_false h4
 by_cases h5 : (64 : Int) < r
 ·have d5 : decide ((64 : Int) < r) = true := decide_eq_true h5
  have q : Hid (x = 0) := HX.out.symm.trans (if_neg (by omega))
  clear HX h0 h1 h2 h3 h4 h5
  go_enter Try.func9, Try.ntmps9
  go_wp2
  go_ret
  exact ⟨by rw [q.out]; rfl, rfl⟩
 have d5 : decide ((64 : Int) < r) = false := decide_eq_false h5
 have q : Hid (x = Int.tmod (h + r) n + 1) := HX.out.symm.trans (if_pos (by omega))
 have hs : IntKind.i64.wrap (h + r) = h + r := by rw [IntKind.wrap_i64]; omega
 have hn0 : ¬ n = 0 := by omega
 have t0 : 0 ≤ Int.tmod (h + r) n := Int.tmod_nonneg n (by omega)
 have t1 : Int.tmod (h + r) n < n := Int.tmod_lt_of_pos (h + r) (by omega)
 have ht : IntKind.i64.wrap (Int.tmod (h + r) n) = Int.tmod (h + r) n := by rw [IntKind.wrap_i64]; omega
 have ht2 : IntKind.i64.wrap (Int.tmod (h + r) n + 1) = Int.tmod (h + r) n + 1 := by rw [IntKind.wrap_i64]; omega
 clear HX h0 h1 h2 h3 h4 h5 t0 t1
 go_enter Try.func9, Try.ntmps9
 go_wp2
 go_ret
 exact ⟨by rw [q.out]; rfl, rfl⟩

def pvl (ps : List Vt) (r : Nat) : ByteArray := match propA ps (r : Int) with | some m => m.vl | none => emp
def pva (ps : List Vt) (r : Nat) : Int := match propA ps (r : Int) with | some m => m.va | none => 0
/-- The cells of a part; what is left of one that has decided. -/
structure AC (p : Pm) (s : Ag) (vp f : Value) (g : Nat → Value) : Prop where
 c0 : g 0 = .int .i64 (p.n : Int)
 c1 : g 1 = .int .i64 p.me
 c2 : g 2 = .int .i64 p.ht
 c4 : g 4 = .int .i64 s.rd
 c5 : g 5 = .int .i64 s.st
 c6 : g 6 = .string s.lk
 c7 : g 7 = .int .i64 s.lr
 c139 : g 139 = .string s.dc
 c140 : g 140 = f
 c3 : s.dn = false → g 3 = .string p.own
 c8 : s.dn = false → g 8 = .string s.vv
 c9 : s.dn = false → g 9 = .int .i64 s.vr
 c138 : s.dn = false → g 138 = vp
 cp : s.dn = false → ∀ r, r < 64 → g (10 + r * 2) = .string (pvl s.ps r) ∧ g (10 + r * 2 + 1) = .int .i64 (pva s.ps r)
section
variable {p : Pm} {s : Ag} {vp f : Value} {g : Nat → Value}
theorem cp_off {dn : Bool} {ps : List Vt} {v : Value} {i : Nat} (h : dn = false → ∀ r, r < 64 → g (10 + r * 2) = .string (pvl ps r) ∧ g (10 + r * 2 + 1) = .int .i64 (pva ps r)) (hi : i < 10 ∨ 138 ≤ i) : dn = false → ∀ r, r < 64 → (fun j => if j = i then v else g j) (10 + r * 2) = .string (pvl ps r) ∧ (fun j => if j = i then v else g j) (10 + r * 2 + 1) = .int .i64 (pva ps r) := fun hd r hr => by
 have := h hd r hr
 dsimp only
 rw [if_neg (by omega), if_neg (by omega)]
 exact this
theorem AC.setRd (h : AC p s vp f g) (r : Int) : AC p { s with rd := r } vp f (fun j => if j = 4 then .int .i64 r else g j) := ⟨h.c0, h.c1, h.c2, rfl, h.c5, h.c6, h.c7, h.c139, h.c140, h.c3, h.c8, h.c9, h.c138, cp_off h.cp (by omega)⟩
theorem AC.setSt (h : AC p s vp f g) (r : Int) : AC p { s with st := r } vp f (fun j => if j = 5 then .int .i64 r else g j) := ⟨h.c0, h.c1, h.c2, h.c4, rfl, h.c6, h.c7, h.c139, h.c140, h.c3, h.c8, h.c9, h.c138, cp_off h.cp (by omega)⟩
theorem AC.setLk (h : AC p s vp f g) (B : ByteArray) : AC p { s with lk := B } vp f (fun j => if j = 6 then .string B else g j) := ⟨h.c0, h.c1, h.c2, h.c4, h.c5, rfl, h.c7, h.c139, h.c140, h.c3, h.c8, h.c9, h.c138, cp_off h.cp (by omega)⟩
theorem AC.setLr (h : AC p s vp f g) (r : Int) : AC p { s with lr := r } vp f (fun j => if j = 7 then .int .i64 r else g j) := ⟨h.c0, h.c1, h.c2, h.c4, h.c5, h.c6, rfl, h.c139, h.c140, h.c3, h.c8, h.c9, h.c138, cp_off h.cp (by omega)⟩
theorem AC.setVv (h : AC p s vp f g) (B : ByteArray) : AC p { s with vv := B } vp f (fun j => if j = 8 then .string B else g j) := ⟨h.c0, h.c1, h.c2, h.c4, h.c5, h.c6, h.c7, h.c139, h.c140, h.c3, fun _ => rfl, h.c9, h.c138, cp_off h.cp (by omega)⟩
theorem AC.setVr (h : AC p s vp f g) (r : Int) : AC p { s with vr := r } vp f (fun j => if j = 9 then .int .i64 r else g j) := ⟨h.c0, h.c1, h.c2, h.c4, h.c5, h.c6, h.c7, h.c139, h.c140, h.c3, h.c8, fun _ => rfl, h.c138, cp_off h.cp (by omega)⟩
theorem AC.setF (h : AC p s vp f g) (v : Value) : AC p s vp v (fun j => if j = 140 then v else g j) := ⟨h.c0, h.c1, h.c2, h.c4, h.c5, h.c6, h.c7, h.c139, rfl, h.c3, h.c8, h.c9, h.c138, cp_off h.cp (by omega)⟩
theorem pvl_snoc (ps : List Vt) (m : Vt) (hn : propA ps m.rd = none) (r : Nat) : pvl (ps ++ [m]) r = (if (r : Int) = m.rd then m.vl else pvl ps r) ∧ pva (ps ++ [m]) r = (if (r : Int) = m.rd then m.va else pva ps r) := by
 have e : propA (ps ++ [m]) (r : Int) = (propA ps (r : Int)).or (if m.rd = (r : Int) then some m else none) := by
  unfold propA
  rw [List.find?_append]
  congr 1
  simp only [List.find?_cons, List.find?_nil]
  by_cases q : m.rd = (r : Int) <;> simp [q]
 unfold pvl pva
 rw [e]
 by_cases q : (r : Int) = m.rd
 ·rw [q, hn]; simp
 ·rw [if_neg q, if_neg q, if_neg (fun z => q z.symm)]
  simp
theorem AC.setP (h : AC p s vp f g) (m : Vt) (r : Nat) (h6 : r < 64) (hr : m.rd = (r : Int)) (hn : propA s.ps m.rd = none) : AC p { s with ps := s.ps ++ [m] } vp f (fun j => if j = 10 + r * 2 + 1 then .int .i64 m.va else (fun j => if j = 10 + r * 2 then .string m.vl else g j) j) := by
 refine ⟨(by dsimp only; rw [if_neg (by omega), if_neg (by omega)]; exact h.c0), (by dsimp only; rw [if_neg (by omega), if_neg (by omega)]; exact h.c1), (by dsimp only; rw [if_neg (by omega), if_neg (by omega)]; exact h.c2), (by dsimp only; rw [if_neg (by omega), if_neg (by omega)]; exact h.c4), (by dsimp only; rw [if_neg (by omega), if_neg (by omega)]; exact h.c5), (by dsimp only; rw [if_neg (by omega), if_neg (by omega)]; exact h.c6), (by dsimp only; rw [if_neg (by omega), if_neg (by omega)]; exact h.c7), (by dsimp only; rw [if_neg (by omega), if_neg (by omega)]; exact h.c139), (by dsimp only; rw [if_neg (by omega), if_neg (by omega)]; exact h.c140), (fun hd => by dsimp only; rw [if_neg (by omega), if_neg (by omega)]; exact h.c3 hd), (fun hd => by dsimp only; rw [if_neg (by omega), if_neg (by omega)]; exact h.c8 hd), (fun hd => by dsimp only; rw [if_neg (by omega), if_neg (by omega)]; exact h.c9 hd), (fun hd => by dsimp only; rw [if_neg (by omega), if_neg (by omega)]; exact h.c138 hd), fun hd k hk => ?_⟩
 obtain ⟨e1, e2⟩ := pvl_snoc s.ps m hn k
 have q := h.cp hd k hk
 dsimp only
 rw [e1, e2, hr]
 by_cases z : k = r
 ·subst z
  rw [if_neg (by omega), if_pos rfl, if_pos rfl, if_pos rfl, if_pos rfl]
  exact ⟨rfl, rfl⟩
 ·rw [if_neg (by omega), if_neg (by omega), if_neg (by omega), if_neg (by omega), if_neg (by omega), if_neg (by omega)]
  exact q
end

/-- A part: its block, its votes; the blocks that are its own. -/
structure AB (W : World) (b : Nat) (p : Pm) (s : Ag) (vp f : Value) (G : Nat → Prop) : Prop where
 blk : ∃ g, Blk W b 141 g ∧ AC p s vp f g
 inG : G b
 lt : ∀ k, G k → k < W.heap.size
 vot : s.dn = false → ∃ vb bm sl, vp = .pointer (some ⟨vb, 0, none⟩) ∧ VB W vb bm sl p.n p.t s.vs ∧ ¬ vbG vb bm sl b ∧ ∀ k, vbG vb bm sl k → G k
section
variable {W W' : World} {b : Nat} {p : Pm} {s s' : Ag} {vp f f' : Value} {G : Nat → Prop}
theorem AB.keep (h : AB W b p s vp f G) (hs : W.heap.size ≤ W'.heap.size) (hk : ∀ k, G k → W'.heap[k]? = W.heap[k]?) : AB W' b p s vp f G := by
 obtain ⟨g, h1, h2⟩ := h.blk
 refine ⟨⟨g, h1.keep hs (hk b h.inG), h2⟩, h.inG, fun k q => Nat.lt_of_lt_of_le (h.lt k q) hs, fun hd => ?_⟩
 obtain ⟨vb, bm, sl, e, hv, hn, hg⟩ := h.vot hd
 exact ⟨vb, bm, sl, e, hv.keep hs (fun k q => hk k (hg k q)), hn, hg⟩
theorem AB.ext (h : AB W b p s vp f G) (hx : Ext W W') : AB W' b p s vp f G := h.keep hx.size fun k q => Below.block hx k (h.lt k q)
/-- One cell is set. -/
theorem AB.put (h : AB W b p s vp f G) {i : Nat} (hi : i < 141) (v : Value) (hac : ∀ g, AC p s vp f g → AC p s' vp f' (fun j => if j = i then v else g j)) (hd : s'.dn = s.dn) (hv : s'.vs = s.vs) : AB (W.setCell ⟨b, i, none⟩ v) b p s' vp f' G := by
 obtain ⟨g, h1, h2⟩ := h.blk
 refine ⟨⟨_, h1.put hi v, hac g h2⟩, h.inG, fun k q => by simpa using h.lt k q, fun e => ?_⟩
 obtain ⟨vb, bm, sl, e, hV, hn, hg⟩ := h.vot (hd.symm.trans e)
 refine ⟨vb, bm, sl, e, ?_, hn, hg⟩
 rw [hv]
 exact hV.keep (by simp) fun k q => Below.heap_setCell W ⟨b, i, none⟩ v k (fun z => hn (by rw [show b = k from z.symm]; exact q))
/-- Two cells are set. -/
theorem AB.put2 (h : AB W b p s vp f G) {i k : Nat} (hi : i < 141) (hk : k < 141) (u v : Value) (hac : ∀ g, AC p s vp f g → AC p s' vp f' (fun j => if j = k then v else (fun j => if j = i then u else g j) j)) (hd : s'.dn = s.dn) (hv : s'.vs = s.vs) : AB ((W.setCell ⟨b, i, none⟩ u).setCell ⟨b, k, none⟩ v) b p s' vp f' G := by
 obtain ⟨g, h1, h2⟩ := h.blk
 refine ⟨⟨_, (h1.put hi u).put hk v, hac g h2⟩, h.inG, fun k q => by simpa using h.lt k q, fun e => ?_⟩
 obtain ⟨vb, bm, sl, e, hV, hn, hg⟩ := h.vot (hd.symm.trans e)
 refine ⟨vb, bm, sl, e, ?_, hn, hg⟩
 rw [hv]
 have n1 : ∀ c, vbG vb bm sl c → c ≠ b := fun c q z => hn (z ▸ q)
 exact (hV.keep (by simp) fun c q => Below.heap_setCell W ⟨b, i, none⟩ u c (n1 c q)).keep (by simp) fun c q => Below.heap_setCell _ ⟨b, k, none⟩ v c (n1 c q)
/-- What lies in its cells. -/
theorem AB.at (h : AB W b p s vp f G) : b < W.heap.size ∧ W.cell? ⟨b, 0, none⟩ = some (.int .i64 (p.n : Int)) ∧ W.cell? ⟨b, 1, none⟩ = some (.int .i64 p.me) ∧ W.cell? ⟨b, 2, none⟩ = some (.int .i64 p.ht) ∧ W.cell? ⟨b, 4, none⟩ = some (.int .i64 s.rd) ∧ W.cell? ⟨b, 5, none⟩ = some (.int .i64 s.st) ∧ W.cell? ⟨b, 6, none⟩ = some (.string s.lk) ∧ W.cell? ⟨b, 7, none⟩ = some (.int .i64 s.lr) ∧ W.cell? ⟨b, 139, none⟩ = some (.string s.dc) ∧ W.cell? ⟨b, 140, none⟩ = some f := by
 obtain ⟨g, h1, h2⟩ := h.blk
 refine ⟨h1.1, ?_, ?_, ?_, ?_, ?_, ?_, ?_, ?_, ?_⟩
 ·rw [← h2.c0]; exact (h1.2 0 (by decide)).1
 ·rw [← h2.c1]; exact (h1.2 1 (by decide)).1
 ·rw [← h2.c2]; exact (h1.2 2 (by decide)).1
 ·rw [← h2.c4]; exact (h1.2 4 (by decide)).1
 ·rw [← h2.c5]; exact (h1.2 5 (by decide)).1
 ·rw [← h2.c6]; exact (h1.2 6 (by decide)).1
 ·rw [← h2.c7]; exact (h1.2 7 (by decide)).1
 ·rw [← h2.c139]; exact (h1.2 139 (by decide)).1
 ·rw [← h2.c140]; exact (h1.2 140 (by decide)).1
theorem AB.live (h : AB W b p s vp f G) (hd : s.dn = false) : W.cell? ⟨b, 3, none⟩ = some (.string p.own) ∧ W.cell? ⟨b, 8, none⟩ = some (.string s.vv) ∧ W.cell? ⟨b, 9, none⟩ = some (.int .i64 s.vr) ∧ W.cell? ⟨b, 138, none⟩ = some vp := by
 obtain ⟨g, h1, h2⟩ := h.blk
 refine ⟨?_, ?_, ?_, ?_⟩
 ·rw [← h2.c3 hd]; exact (h1.2 3 (by decide)).1
 ·rw [← h2.c8 hd]; exact (h1.2 8 (by decide)).1
 ·rw [← h2.c9 hd]; exact (h1.2 9 (by decide)).1
 ·rw [← h2.c138 hd]; exact (h1.2 138 (by decide)).1
theorem AB.prop (h : AB W b p s vp f G) (hd : s.dn = false) {r : Nat} (hr : r < 64) : W.cell? ⟨b, 10 + r * 2, none⟩ = some (.string (pvl s.ps r)) ∧ W.cell? ⟨b, 10 + r * 2 + 1, none⟩ = some (.int .i64 (pva s.ps r)) := by
 obtain ⟨g, h1, h2⟩ := h.blk
 obtain ⟨e1, e2⟩ := h2.cp hd r hr
 rw [← e1, ← e2]
 exact ⟨(h1.2 _ (by omega)).1, (h1.2 _ (by omega)).1⟩
theorem AB.fz (h : AB W b p s vp f G) {i : Nat} (hi : i < 141) : W.frozen? ⟨b, i, none⟩ = false := by
 obtain ⟨g, h1, h2⟩ := h.blk
 exact (h1.2 i hi).2
end
end Go.Proofs.Ytmanacbdldfmfaa
