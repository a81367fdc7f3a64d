/-
 The document's part: Take, called.
-/
import Derived.Test.YtmanacbdldfmfaaRf
namespace Go.Proofs.Ytmanacbdldfmfaa
open Go.RowKit
set_option maxRecDepth 10000
theorem take_new (w : World) (cs z : Array Value) (hz : z.size = 16) (m : Vt) : R2 w w.heap.size cs (w.heap.size + 1 + 1) (((w.alloc (.cells cs 34)).alloc (.cells #[.int .i64 m.kd, .int .i64 m.fr, .int .i64 m.rd, .int .i64 m.va, .string m.vl] 39)).alloc (.cells z 34)) ∧ Wd (w.heap.size + 1) m.kd m.fr m.rd m.va m.vl (((w.alloc (.cells cs 34)).alloc (.cells #[.int .i64 m.kd, .int .i64 m.fr, .int .i64 m.rd, .int .i64 m.va, .string m.vl] 39)).alloc (.cells z 34)) ∧ (((w.alloc (.cells cs 34)).alloc (.cells #[.int .i64 m.kd, .int .i64 m.fr, .int .i64 m.rd, .int .i64 m.va, .string m.vl] 39)).alloc (.cells z 34)).heap.size = w.heap.size + 3 := by
 have e1 : (w.alloc (.cells cs 34)).heap.size = w.heap.size + 1 := by simp
 have e2 : ((w.alloc (.cells cs 34)).alloc (.cells #[.int .i64 m.kd, .int .i64 m.fr, .int .i64 m.rd, .int .i64 m.va, .string m.vl] 39)).heap.size = w.heap.size + 1 + 1 := by simp
 have q1 := Wd.new (w.alloc (.cells cs 34)) m.kd m.fr m.rd m.va m.vl
 rw [e1] at q1
 have q2 := heap_alloc_new ((w.alloc (.cells cs 34)).alloc (.cells #[.int .i64 m.kd, .int .i64 m.fr, .int .i64 m.rd, .int .i64 m.va, .string m.vl] 39)) (.cells z 34)
 rw [e2] at q2
 exact ⟨⟨(((Ext.refl w).alloc _).alloc _).alloc _, heap_old (heap_old (heap_alloc_new w _)), ⟨z, hz, q2⟩, Nat.le_refl _, by omega, by omega⟩, Wd.ext q1 ((Ext.refl _).alloc _), by simp⟩
set_option maxHeartbeats 8000000 in
theorem rtake_early (p : Pm) (s : Ag) (m : Vt) (hp : okP p) (hi : InvA p s) (a1 : Option Addr) (c1 : Nat) (a2 : Option Addr) (c2 : Nat) (hn : s.ps.length + s.vs.length ≤ 500) (w : World) (hO1 : w.ownsRow 0 39 5 (.slice a1 s.ps.length c1) s.ps.length (wcs s.ps)) (hO2 : w.ownsRow 0 39 5 (.slice a2 s.vs.length c2) s.vs.length (wcs s.vs)) (hc : s.rd < 0 ∨ s.dn = true) :
  Calls Try.prog 18 #[av p s a1 s.ps.length c1 a2 s.vs.length c2, wv m] w fun e w' => RTk p (takeA p s m).1 (takeA p s m).2 (.slice a1 s.ps.length c1) (.slice a2 s.vs.length c2) w e w' := by
 have HN : Hid (takeA p s m = (s, [])) := if_pos hc
 have HT0 : Hid (R2 w w.heap.size #[.int .i64 p.me, .int .i64 p.ht, .string p.own, .int .i64 s.rd, .int .i64 s.st, .string s.lk, .int .i64 s.lr, .string s.vv, .int .i64 s.vr, .slice a1 s.ps.length c1, .int .i64 (p.n : Int), .int .i64 (p.t : Int), .slice a2 s.vs.length c2, .bool (fiveA s), .bool s.dn, .string s.dc] (w.heap.size + 1 + 1) (((w.alloc (.cells #[.int .i64 p.me, .int .i64 p.ht, .string p.own, .int .i64 s.rd, .int .i64 s.st, .string s.lk, .int .i64 s.lr, .string s.vv, .int .i64 s.vr, .slice a1 s.ps.length c1, .int .i64 (p.n : Int), .int .i64 (p.t : Int), .slice a2 s.vs.length c2, .bool (fiveA s), .bool s.dn, .string s.dc] 34)).alloc (.cells #[.int .i64 m.kd, .int .i64 m.fr, .int .i64 m.rd, .int .i64 m.va, .string m.vl] 39)).alloc (.cells #[.int .i64 0, .int .i64 0, .string ⟨#[]⟩, .int .i64 0, .int .i64 0, .string ⟨#[]⟩, .int .i64 0, .string ⟨#[]⟩, .int .i64 0, .slice none 0 0, .int .i64 0, .int .i64 0, .slice none 0 0, .bool false, .bool false, .string ⟨#[]⟩] 34)) ∧ Wd (w.heap.size + 1) m.kd m.fr m.rd m.va m.vl (((w.alloc (.cells #[.int .i64 p.me, .int .i64 p.ht, .string p.own, .int .i64 s.rd, .int .i64 s.st, .string s.lk, .int .i64 s.lr, .string s.vv, .int .i64 s.vr, .slice a1 s.ps.length c1, .int .i64 (p.n : Int), .int .i64 (p.t : Int), .slice a2 s.vs.length c2, .bool (fiveA s), .bool s.dn, .string s.dc] 34)).alloc (.cells #[.int .i64 m.kd, .int .i64 m.fr, .int .i64 m.rd, .int .i64 m.va, .string m.vl] 39)).alloc (.cells #[.int .i64 0, .int .i64 0, .string ⟨#[]⟩, .int .i64 0, .int .i64 0, .string ⟨#[]⟩, .int .i64 0, .string ⟨#[]⟩, .int .i64 0, .slice none 0 0, .int .i64 0, .int .i64 0, .slice none 0 0, .bool false, .bool false, .string ⟨#[]⟩] 34)) ∧ (((w.alloc (.cells #[.int .i64 p.me, .int .i64 p.ht, .string p.own, .int .i64 s.rd, .int .i64 s.st, .string s.lk, .int .i64 s.lr, .string s.vv, .int .i64 s.vr, .slice a1 s.ps.length c1, .int .i64 (p.n : Int), .int .i64 (p.t : Int), .slice a2 s.vs.length c2, .bool (fiveA s), .bool s.dn, .string s.dc] 34)).alloc (.cells #[.int .i64 m.kd, .int .i64 m.fr, .int .i64 m.rd, .int .i64 m.va, .string m.vl] 39)).alloc (.cells #[.int .i64 0, .int .i64 0, .string ⟨#[]⟩, .int .i64 0, .int .i64 0, .string ⟨#[]⟩, .int .i64 0, .string ⟨#[]⟩, .int .i64 0, .slice none 0 0, .int .i64 0, .int .i64 0, .slice none 0 0, .bool false, .bool false, .string ⟨#[]⟩] 34)).heap.size = w.heap.size + 3) := take_new w _ _ rfl m
 have HO1 : Hid (w.ownsRow 0 39 5 (.slice a1 s.ps.length c1) s.ps.length (wcs s.ps)) := hO1
 have HO2 : Hid (w.ownsRow 0 39 5 (.slice a2 s.vs.length c2) s.vs.length (wcs s.vs)) := hO2
 have Hp : Hid (okP p) := hp
 have Hi : Hid (InvA p s) := hi
 have Hn : Hid (s.ps.length + s.vs.length ≤ 500) := hn
 clear hO1 hO2 hp hi hn
 go_enter Try.func18, Try.ntmps18
 go_upto_region 1 with fail
 obtain ⟨W, hW⟩ : ∃ W, (((w.alloc (.cells #[.int .i64 p.me, .int .i64 p.ht, .string p.own, .int .i64 s.rd, .int .i64 s.st, .string s.lk, .int .i64 s.lr, .string s.vv, .int .i64 s.vr, .slice a1 s.ps.length c1, .int .i64 (p.n : Int), .int .i64 (p.t : Int), .slice a2 s.vs.length c2, .bool (fiveA s), .bool s.dn, .string s.dc] 34)).alloc (.cells #[.int .i64 m.kd, .int .i64 m.fr, .int .i64 m.rd, .int .i64 m.va, .string m.vl] 39)).alloc (.cells #[.int .i64 0, .int .i64 0, .string ⟨#[]⟩, .int .i64 0, .int .i64 0, .string ⟨#[]⟩, .int .i64 0, .string ⟨#[]⟩, .int .i64 0, .slice none 0 0, .int .i64 0, .int .i64 0, .slice none 0 0, .bool false, .bool false, .string ⟨#[]⟩] 34)) = W := ⟨_, rfl⟩
 rw [hW] at HT0 ⊢
 clear hW
 obtain ⟨hR0, hW0, hsz0⟩ := HT0.out
 have Hsz : Hid (W.heap.size = w.heap.size + 3) := hsz0
 clear HT0 hsz0
 by_cases hr : s.rd < 0
 ·have d1 : decide (s.rd < 0) = true := decide_eq_true hr
  clear hr hc
  have k3 := (hR0.cell (j := 3) rfl).1
  have k14 := (hR0.cell (j := 14) rfl).1
  have kl := (hR0.cell (j := 0) rfl).2
  go_upto_region 2 with fail
  clear k3 k14 kl
  refine wp_region_lit ?_
  refine wl_ld34 rfl rfl rfl hR0.b0 rfl ?_
  try simp only [sx]
  refine wl_st34 rfl rfl rfl rfl hR0 rfl (by kernel_rfl) ?_
  intro W1' hR1' hG1' hB1' hK1'
  try simp only [sx]
  refine wpList_plain rfl fun K hK => ?_
  go_simp
  refine hK _ _ ?_
  clear hK K
  try simp only [sx]
  go_wp2_with fail
  rw [HN.out]
  refine bodyPost_ret (ret_two Try.results18 _ _ (w.heap.size + 1 + 1) 34 #[.int .i64 p.me, .int .i64 p.ht, .string p.own, .int .i64 s.rd, .int .i64 s.st, .string s.lk, .int .i64 s.lr, .string s.vv, .int .i64 s.vr, .slice a1 s.ps.length c1, .int .i64 (p.n : Int), .int .i64 (p.t : Int), .slice a2 s.vs.length c2, .bool (fiveA s), .bool s.dn, .string s.dc] (0, 0) rfl hG1' rfl) rfl ⟨a1, c1, a2, c2, _, _, _, rfl, own_ext HO1.out hR1'.ext, own_ext HO2.out hR1'.ext, World.ownsRow_nil _ _ _ _, hR1'.ext, fun k q => .inl q, fun k q => .inl q⟩
 ·have d1 : decide (s.rd < 0) = false := decide_eq_false hr
  have hdn : s.dn = true := by rcases hc with q | q; exact absurd q hr; exact q
  clear hr hc
  have k3 := (hR0.cell (j := 3) rfl).1
  have k14 := (hR0.cell (j := 14) (v := .bool s.dn) rfl).1
  have kl := (hR0.cell (j := 0) rfl).2
  rw [hdn] at k14
  clear hdn
  go_upto_region 2 with fail
  clear k3 k14 kl
  refine wp_region_lit ?_
  refine wl_ld34 rfl rfl rfl hR0.b0 rfl ?_
  try simp only [sx]
  refine wl_st34 rfl rfl rfl rfl hR0 rfl (by kernel_rfl) ?_
  intro W1' hR1' hG1' hB1' hK1'
  try simp only [sx]
  refine wpList_plain rfl fun K hK => ?_
  go_simp
  refine hK _ _ ?_
  clear hK K
  try simp only [sx]
  go_wp2_with fail
  rw [HN.out]
  refine bodyPost_ret (ret_two Try.results18 _ _ (w.heap.size + 1 + 1) 34 #[.int .i64 p.me, .int .i64 p.ht, .string p.own, .int .i64 s.rd, .int .i64 s.st, .string s.lk, .int .i64 s.lr, .string s.vv, .int .i64 s.vr, .slice a1 s.ps.length c1, .int .i64 (p.n : Int), .int .i64 (p.t : Int), .slice a2 s.vs.length c2, .bool (fiveA s), .bool s.dn, .string s.dc] (0, 0) rfl hG1' rfl) rfl ⟨a1, c1, a2, c2, _, _, _, rfl, own_ext HO1.out hR1'.ext, own_ext HO2.out hR1'.ext, World.ownsRow_nil _ _ _ _, hR1'.ext, fun k q => .inl q, fun k q => .inl q⟩
set_option maxHeartbeats 8000000 in
theorem rtake_4n (p : Pm) (s : Ag) (m : Vt) (hp : okP p) (hi : InvA p s) (a1 : Option Addr) (c1 : Nat) (a2 : Option Addr) (c2 : Nat) (hn : s.ps.length + s.vs.length ≤ 500) (w : World) (hO1 : w.ownsRow 0 39 5 (.slice a1 s.ps.length c1) s.ps.length (wcs s.ps)) (hO2 : w.ownsRow 0 39 5 (.slice a2 s.vs.length c2) s.vs.length (wcs s.vs)) (h0 : 0 ≤ s.rd) (hd : s.dn = false) (h4 : m.kd = 4) (hc : ¬ (1 ≤ m.va ∧ m.va ≤ 3 ∧ m.rd = s.rd)) :
  Calls Try.prog 18 #[av p s a1 s.ps.length c1 a2 s.vs.length c2, wv m] w fun e w' => RTk p (takeA p s m).1 (takeA p s m).2 (.slice a1 s.ps.length c1) (.slice a2 s.vs.length c2) w e w' := by
 have D0 : Hid (decide (s.rd < 0) = false) := decide_eq_false (by omega)
 have DN : Hid (s.dn = false) := hd
 have HN : Hid (takeA p s m = (s, [])) := by
  show takeA p s m = _
  rw [take_eq h0 hd]
  unfold countA
  rw [if_pos h4, if_neg hc]
 have e4 : (m.kd == 4) = true := by simpa using h4
 have HT0 : Hid (R2 w w.heap.size #[.int .i64 p.me, .int .i64 p.ht, .string p.own, .int .i64 s.rd, .int .i64 s.st, .string s.lk, .int .i64 s.lr, .string s.vv, .int .i64 s.vr, .slice a1 s.ps.length c1, .int .i64 (p.n : Int), .int .i64 (p.t : Int), .slice a2 s.vs.length c2, .bool (fiveA s), .bool s.dn, .string s.dc] (w.heap.size + 1 + 1) (((w.alloc (.cells #[.int .i64 p.me, .int .i64 p.ht, .string p.own, .int .i64 s.rd, .int .i64 s.st, .string s.lk, .int .i64 s.lr, .string s.vv, .int .i64 s.vr, .slice a1 s.ps.length c1, .int .i64 (p.n : Int), .int .i64 (p.t : Int), .slice a2 s.vs.length c2, .bool (fiveA s), .bool s.dn, .string s.dc] 34)).alloc (.cells #[.int .i64 m.kd, .int .i64 m.fr, .int .i64 m.rd, .int .i64 m.va, .string m.vl] 39)).alloc (.cells #[.int .i64 0, .int .i64 0, .string ⟨#[]⟩, .int .i64 0, .int .i64 0, .string ⟨#[]⟩, .int .i64 0, .string ⟨#[]⟩, .int .i64 0, .slice none 0 0, .int .i64 0, .int .i64 0, .slice none 0 0, .bool false, .bool false, .string ⟨#[]⟩] 34)) ∧ Wd (w.heap.size + 1) m.kd m.fr m.rd m.va m.vl (((w.alloc (.cells #[.int .i64 p.me, .int .i64 p.ht, .string p.own, .int .i64 s.rd, .int .i64 s.st, .string s.lk, .int .i64 s.lr, .string s.vv, .int .i64 s.vr, .slice a1 s.ps.length c1, .int .i64 (p.n : Int), .int .i64 (p.t : Int), .slice a2 s.vs.length c2, .bool (fiveA s), .bool s.dn, .string s.dc] 34)).alloc (.cells #[.int .i64 m.kd, .int .i64 m.fr, .int .i64 m.rd, .int .i64 m.va, .string m.vl] 39)).alloc (.cells #[.int .i64 0, .int .i64 0, .string ⟨#[]⟩, .int .i64 0, .int .i64 0, .string ⟨#[]⟩, .int .i64 0, .string ⟨#[]⟩, .int .i64 0, .slice none 0 0, .int .i64 0, .int .i64 0, .slice none 0 0, .bool false, .bool false, .string ⟨#[]⟩] 34)) ∧ (((w.alloc (.cells #[.int .i64 p.me, .int .i64 p.ht, .string p.own, .int .i64 s.rd, .int .i64 s.st, .string s.lk, .int .i64 s.lr, .string s.vv, .int .i64 s.vr, .slice a1 s.ps.length c1, .int .i64 (p.n : Int), .int .i64 (p.t : Int), .slice a2 s.vs.length c2, .bool (fiveA s), .bool s.dn, .string s.dc] 34)).alloc (.cells #[.int .i64 m.kd, .int .i64 m.fr, .int .i64 m.rd, .int .i64 m.va, .string m.vl] 39)).alloc (.cells #[.int .i64 0, .int .i64 0, .string ⟨#[]⟩, .int .i64 0, .int .i64 0, .string ⟨#[]⟩, .int .i64 0, .string ⟨#[]⟩, .int .i64 0, .slice none 0 0, .int .i64 0, .int .i64 0, .slice none 0 0, .bool false, .bool false, .string ⟨#[]⟩] 34)).heap.size = w.heap.size + 3) := take_new w _ _ rfl m
 have HO1 : Hid (w.ownsRow 0 39 5 (.slice a1 s.ps.length c1) s.ps.length (wcs s.ps)) := hO1
 have HO2 : Hid (w.ownsRow 0 39 5 (.slice a2 s.vs.length c2) s.vs.length (wcs s.vs)) := hO2
 have Hp : Hid (okP p) := hp
 have Hi : Hid (InvA p s) := hi
 have Hn : Hid (s.ps.length + s.vs.length ≤ 500) := hn
 clear h0 hd h4
 clear hO1 hO2 hp hi hn
 go_enter Try.func18, Try.ntmps18
 go_upto_region 1 with fail
 obtain ⟨W, hW⟩ : ∃ W, (((w.alloc (.cells #[.int .i64 p.me, .int .i64 p.ht, .string p.own, .int .i64 s.rd, .int .i64 s.st, .string s.lk, .int .i64 s.lr, .string s.vv, .int .i64 s.vr, .slice a1 s.ps.length c1, .int .i64 (p.n : Int), .int .i64 (p.t : Int), .slice a2 s.vs.length c2, .bool (fiveA s), .bool s.dn, .string s.dc] 34)).alloc (.cells #[.int .i64 m.kd, .int .i64 m.fr, .int .i64 m.rd, .int .i64 m.va, .string m.vl] 39)).alloc (.cells #[.int .i64 0, .int .i64 0, .string ⟨#[]⟩, .int .i64 0, .int .i64 0, .string ⟨#[]⟩, .int .i64 0, .string ⟨#[]⟩, .int .i64 0, .slice none 0 0, .int .i64 0, .int .i64 0, .slice none 0 0, .bool false, .bool false, .string ⟨#[]⟩] 34)) = W := ⟨_, rfl⟩
 rw [hW] at HT0 ⊢
 clear hW
 obtain ⟨hR0, hW0, hsz0⟩ := HT0.out
 have Hsz : Hid (W.heap.size = w.heap.size + 3) := hsz0
 clear HT0 hsz0
 have d1 := D0.out
 have k3 := (hR0.cell (j := 3) rfl).1
 have k14 := (hR0.cell (j := 14) (v := .bool s.dn) rfl).1
 have kl := (hR0.cell (j := 0) rfl).2
 rw [DN.out] at k14
 have x0 := hW0.1
 have x1 := hW0.2.1
 have x2 := hW0.2.2.1
 have x3 := hW0.2.2.2.1
 have x4 := hW0.2.2.2.2.1
 have xl := hW0.2.2.2.2.2
 by_cases u1 : m.va < 1
 ·have v1 : decide (m.va < 1) = true := decide_eq_true u1
  clear u1 hc
  go_upto_region 10 with fail
  clear d1 k3 k14 kl x0 x1 x2 x3 x4 xl
  refine wp_region_lit ?_
  refine wl_ld34 rfl rfl rfl hR0.b0 rfl ?_
  try simp only [sx]
  refine wl_st34 rfl rfl rfl rfl hR0 rfl (by kernel_rfl) ?_
  intro W1' hR1' hG1' hB1' hK1'
  try simp only [sx]
  refine wpList_plain rfl fun K hK => ?_
  go_simp
  refine hK _ _ ?_
  clear hK K
  try simp only [sx]
  go_wp2_with fail
  rw [HN.out]
  refine bodyPost_ret (ret_two Try.results18 _ _ (w.heap.size + 1 + 1) 34 #[.int .i64 p.me, .int .i64 p.ht, .string p.own, .int .i64 s.rd, .int .i64 s.st, .string s.lk, .int .i64 s.lr, .string s.vv, .int .i64 s.vr, .slice a1 s.ps.length c1, .int .i64 (p.n : Int), .int .i64 (p.t : Int), .slice a2 s.vs.length c2, .bool (fiveA s), .bool s.dn, .string s.dc] (0, 0) rfl hG1' rfl) rfl ⟨a1, c1, a2, c2, _, _, _, rfl, own_ext HO1.out hR1'.ext, own_ext HO2.out hR1'.ext, World.ownsRow_nil _ _ _ _, hR1'.ext, fun k q => .inl q, fun k q => .inl q⟩
 have v1 : decide (m.va < 1) = false := decide_eq_false u1
 by_cases u2 : (3 : Int) < m.va
 ·have v2 : decide ((3 : Int) < m.va) = true := decide_eq_true u2
  clear u1 u2 hc
  go_upto_region 10 with fail
  clear d1 k3 k14 kl x0 x1 x2 x3 x4 xl
  refine wp_region_lit ?_
  refine wl_ld34 rfl rfl rfl hR0.b0 rfl ?_
  try simp only [sx]
  refine wl_st34 rfl rfl rfl rfl hR0 rfl (by kernel_rfl) ?_
  intro W1' hR1' hG1' hB1' hK1'
  try simp only [sx]
  refine wpList_plain rfl fun K hK => ?_
  go_simp
  refine hK _ _ ?_
  clear hK K
  try simp only [sx]
  go_wp2_with fail
  rw [HN.out]
  refine bodyPost_ret (ret_two Try.results18 _ _ (w.heap.size + 1 + 1) 34 #[.int .i64 p.me, .int .i64 p.ht, .string p.own, .int .i64 s.rd, .int .i64 s.st, .string s.lk, .int .i64 s.lr, .string s.vv, .int .i64 s.vr, .slice a1 s.ps.length c1, .int .i64 (p.n : Int), .int .i64 (p.t : Int), .slice a2 s.vs.length c2, .bool (fiveA s), .bool s.dn, .string s.dc] (0, 0) rfl hG1' rfl) rfl ⟨a1, c1, a2, c2, _, _, _, rfl, own_ext HO1.out hR1'.ext, own_ext HO2.out hR1'.ext, World.ownsRow_nil _ _ _ _, hR1'.ext, fun k q => .inl q, fun k q => .inl q⟩
 have v2 : decide ((3 : Int) < m.va) = false := decide_eq_false u2
 have v3 : (m.rd != s.rd) = true := by simpa using fun q => hc ⟨by omega, by omega, q⟩
 clear u1 u2 hc
 go_upto_region 10 with fail
 clear d1 k3 k14 kl x0 x1 x2 x3 x4 xl
 refine wp_region_lit ?_
 refine wl_ld34 rfl rfl rfl hR0.b0 rfl ?_
 try simp only [sx]
 refine wl_st34 rfl rfl rfl rfl hR0 rfl (by kernel_rfl) ?_
 intro W1' hR1' hG1' hB1' hK1'
 try simp only [sx]
 refine wpList_plain rfl fun K hK => ?_
 go_simp
 refine hK _ _ ?_
 clear hK K
 try simp only [sx]
 go_wp2_with fail
 rw [HN.out]
 refine bodyPost_ret (ret_two Try.results18 _ _ (w.heap.size + 1 + 1) 34 #[.int .i64 p.me, .int .i64 p.ht, .string p.own, .int .i64 s.rd, .int .i64 s.st, .string s.lk, .int .i64 s.lr, .string s.vv, .int .i64 s.vr, .slice a1 s.ps.length c1, .int .i64 (p.n : Int), .int .i64 (p.t : Int), .slice a2 s.vs.length c2, .bool (fiveA s), .bool s.dn, .string s.dc] (0, 0) rfl hG1' rfl) rfl ⟨a1, c1, a2, c2, _, _, _, rfl, own_ext HO1.out hR1'.ext, own_ext HO2.out hR1'.ext, World.ownsRow_nil _ _ _ _, hR1'.ext, fun k q => .inl q, fun k q => .inl q⟩
set_option maxHeartbeats 8000000 in
theorem rtake_bad (p : Pm) (s : Ag) (m : Vt) (hp : okP p) (hi : InvA p s) (a1 : Option Addr) (c1 : Nat) (a2 : Option Addr) (c2 : Nat) (hn : s.ps.length + s.vs.length ≤ 500) (w : World) (hO1 : w.ownsRow 0 39 5 (.slice a1 s.ps.length c1) s.ps.length (wcs s.ps)) (hO2 : w.ownsRow 0 39 5 (.slice a2 s.vs.length c2) s.vs.length (wcs s.vs)) (h0 : 0 ≤ s.rd) (hd : s.dn = false) (h4 : ¬ m.kd = 4) (hw : wOk m = false) :
  Calls Try.prog 18 #[av p s a1 s.ps.length c1 a2 s.vs.length c2, wv m] w fun e w' => RTk p (takeA p s m).1 (takeA p s m).2 (.slice a1 s.ps.length c1) (.slice a2 s.vs.length c2) w e w' := by
 have D0 : Hid (decide (s.rd < 0) = false) := decide_eq_false (by omega)
 have DN : Hid (s.dn = false) := hd
 have HCk : Hid (∀ wx, Calls Try.prog 22 #[.agg #[.int .i64 m.kd, .int .i64 m.fr, .int .i64 m.rd, .int .i64 m.va, .string m.vl]] wx fun e w' => e = .returned (.int .i64 1) ∧ Ext wx w') := fun wx => by
  have := rchkW_any m.kd m.fr m.rd m.va m.vl wx
  rw [show wrdOk m.kd m.fr m.rd m.va m.vl = false from hw] at this
  exact this
 have HN : Hid (takeA p s m = (s, [])) := by
  show takeA p s m = _
  rw [take_eq h0 hd]
  unfold countA
  rw [if_neg h4, if_pos hw]
 have e4 : (m.kd == 4) = false := by simpa using h4
 have HT0 : Hid (R2 w w.heap.size #[.int .i64 p.me, .int .i64 p.ht, .string p.own, .int .i64 s.rd, .int .i64 s.st, .string s.lk, .int .i64 s.lr, .string s.vv, .int .i64 s.vr, .slice a1 s.ps.length c1, .int .i64 (p.n : Int), .int .i64 (p.t : Int), .slice a2 s.vs.length c2, .bool (fiveA s), .bool s.dn, .string s.dc] (w.heap.size + 1 + 1) (((w.alloc (.cells #[.int .i64 p.me, .int .i64 p.ht, .string p.own, .int .i64 s.rd, .int .i64 s.st, .string s.lk, .int .i64 s.lr, .string s.vv, .int .i64 s.vr, .slice a1 s.ps.length c1, .int .i64 (p.n : Int), .int .i64 (p.t : Int), .slice a2 s.vs.length c2, .bool (fiveA s), .bool s.dn, .string s.dc] 34)).alloc (.cells #[.int .i64 m.kd, .int .i64 m.fr, .int .i64 m.rd, .int .i64 m.va, .string m.vl] 39)).alloc (.cells #[.int .i64 0, .int .i64 0, .string ⟨#[]⟩, .int .i64 0, .int .i64 0, .string ⟨#[]⟩, .int .i64 0, .string ⟨#[]⟩, .int .i64 0, .slice none 0 0, .int .i64 0, .int .i64 0, .slice none 0 0, .bool false, .bool false, .string ⟨#[]⟩] 34)) ∧ Wd (w.heap.size + 1) m.kd m.fr m.rd m.va m.vl (((w.alloc (.cells #[.int .i64 p.me, .int .i64 p.ht, .string p.own, .int .i64 s.rd, .int .i64 s.st, .string s.lk, .int .i64 s.lr, .string s.vv, .int .i64 s.vr, .slice a1 s.ps.length c1, .int .i64 (p.n : Int), .int .i64 (p.t : Int), .slice a2 s.vs.length c2, .bool (fiveA s), .bool s.dn, .string s.dc] 34)).alloc (.cells #[.int .i64 m.kd, .int .i64 m.fr, .int .i64 m.rd, .int .i64 m.va, .string m.vl] 39)).alloc (.cells #[.int .i64 0, .int .i64 0, .string ⟨#[]⟩, .int .i64 0, .int .i64 0, .string ⟨#[]⟩, .int .i64 0, .string ⟨#[]⟩, .int .i64 0, .slice none 0 0, .int .i64 0, .int .i64 0, .slice none 0 0, .bool false, .bool false, .string ⟨#[]⟩] 34)) ∧ (((w.alloc (.cells #[.int .i64 p.me, .int .i64 p.ht, .string p.own, .int .i64 s.rd, .int .i64 s.st, .string s.lk, .int .i64 s.lr, .string s.vv, .int .i64 s.vr, .slice a1 s.ps.length c1, .int .i64 (p.n : Int), .int .i64 (p.t : Int), .slice a2 s.vs.length c2, .bool (fiveA s), .bool s.dn, .string s.dc] 34)).alloc (.cells #[.int .i64 m.kd, .int .i64 m.fr, .int .i64 m.rd, .int .i64 m.va, .string m.vl] 39)).alloc (.cells #[.int .i64 0, .int .i64 0, .string ⟨#[]⟩, .int .i64 0, .int .i64 0, .string ⟨#[]⟩, .int .i64 0, .string ⟨#[]⟩, .int .i64 0, .slice none 0 0, .int .i64 0, .int .i64 0, .slice none 0 0, .bool false, .bool false, .string ⟨#[]⟩] 34)).heap.size = w.heap.size + 3) := take_new w _ _ rfl m
 have HO1 : Hid (w.ownsRow 0 39 5 (.slice a1 s.ps.length c1) s.ps.length (wcs s.ps)) := hO1
 have HO2 : Hid (w.ownsRow 0 39 5 (.slice a2 s.vs.length c2) s.vs.length (wcs s.vs)) := hO2
 have Hp : Hid (okP p) := hp
 have Hi : Hid (InvA p s) := hi
 have Hn : Hid (s.ps.length + s.vs.length ≤ 500) := hn
 clear h0 hd h4 hw
 clear hO1 hO2 hp hi hn
 go_enter Try.func18, Try.ntmps18
 go_upto_region 1 with fail
 obtain ⟨W, hW⟩ : ∃ W, (((w.alloc (.cells #[.int .i64 p.me, .int .i64 p.ht, .string p.own, .int .i64 s.rd, .int .i64 s.st, .string s.lk, .int .i64 s.lr, .string s.vv, .int .i64 s.vr, .slice a1 s.ps.length c1, .int .i64 (p.n : Int), .int .i64 (p.t : Int), .slice a2 s.vs.length c2, .bool (fiveA s), .bool s.dn, .string s.dc] 34)).alloc (.cells #[.int .i64 m.kd, .int .i64 m.fr, .int .i64 m.rd, .int .i64 m.va, .string m.vl] 39)).alloc (.cells #[.int .i64 0, .int .i64 0, .string ⟨#[]⟩, .int .i64 0, .int .i64 0, .string ⟨#[]⟩, .int .i64 0, .string ⟨#[]⟩, .int .i64 0, .slice none 0 0, .int .i64 0, .int .i64 0, .slice none 0 0, .bool false, .bool false, .string ⟨#[]⟩] 34)) = W := ⟨_, rfl⟩
 rw [hW] at HT0 ⊢
 clear hW
 obtain ⟨hR0, hW0, hsz0⟩ := HT0.out
 have Hsz : Hid (W.heap.size = w.heap.size + 3) := hsz0
 clear HT0 hsz0
 have d1 := D0.out
 have k3 := (hR0.cell (j := 3) rfl).1
 have k14 := (hR0.cell (j := 14) (v := .bool s.dn) rfl).1
 have kl := (hR0.cell (j := 0) rfl).2
 rw [DN.out] at k14
 have x0 := hW0.1
 have x1 := hW0.2.1
 have x2 := hW0.2.2.1
 have x3 := hW0.2.2.2.1
 have x4 := hW0.2.2.2.2.1
 have xl := hW0.2.2.2.2.2
 go_wp2_with fail
 refine (HCk.out _).mono ?_
 rintro e w1 ⟨rfl, HX⟩
 have hR1 := hR0.further HX
 clear d1 k3 k14 kl x0 x1 x2 x3 x4 xl
 clear HX hR0 hW0
 go_upto_region 13 with fail
 refine wp_region_lit ?_
 refine wl_ld34 rfl rfl rfl hR1.b0 rfl ?_
 try simp only [sx]
 refine wl_st34 rfl rfl rfl rfl hR1 rfl (by kernel_rfl) ?_
 intro W1' hR1' hG1' hB1' hK1'
 try simp only [sx]
 refine wpList_plain rfl fun K hK => ?_
 go_simp
 refine hK _ _ ?_
 clear hK K
 try simp only [sx]
 go_wp2_with fail
 rw [HN.out]
 refine bodyPost_ret (ret_two Try.results18 _ _ (w.heap.size + 1 + 1) 34 #[.int .i64 p.me, .int .i64 p.ht, .string p.own, .int .i64 s.rd, .int .i64 s.st, .string s.lk, .int .i64 s.lr, .string s.vv, .int .i64 s.vr, .slice a1 s.ps.length c1, .int .i64 (p.n : Int), .int .i64 (p.t : Int), .slice a2 s.vs.length c2, .bool (fiveA s), .bool s.dn, .string s.dc] (0, 0) rfl hG1' rfl) rfl ⟨a1, c1, a2, c2, _, _, _, rfl, own_ext HO1.out hR1'.ext, own_ext HO2.out hR1'.ext, World.ownsRow_nil _ _ _ _, hR1'.ext, fun k q => .inl q, fun k q => .inl q⟩
theorem time_len (p : Pm) (s : Ag) (v : Int) : (timeA p s v).2.length ≤ 1 := by
 unfold timeA
 split
 ·exact Nat.le_refl _
 ·split
  ·exact Nat.le_refl _
  ·split
   ·unfold beginA
    split
    ·simp
    ·dsimp only; split <;> simp
   ·simp
set_option maxHeartbeats 8000000 in
theorem rtake_4 (p : Pm) (s : Ag) (m : Vt) (hp : okP p) (hi : InvA p s) (a1 : Option Addr) (c1 : Nat) (a2 : Option Addr) (c2 : Nat) (hn : s.ps.length + s.vs.length ≤ 500) (w : World) (hO1 : w.ownsRow 0 39 5 (.slice a1 s.ps.length c1) s.ps.length (wcs s.ps)) (hO2 : w.ownsRow 0 39 5 (.slice a2 s.vs.length c2) s.vs.length (wcs s.vs)) (h0 : 0 ≤ s.rd) (hd : s.dn = false) (h4 : m.kd = 4) (h1 : 1 ≤ m.va) (h3 : m.va ≤ 3) (hr : m.rd = s.rd) :
  Calls Try.prog 18 #[av p s a1 s.ps.length c1 a2 s.vs.length c2, wv m] w fun e w' => RTk p (takeA p s m).1 (takeA p s m).2 (.slice a1 s.ps.length c1) (.slice a2 s.vs.length c2) w e w' := by
 have D0 : Hid (decide (s.rd < 0) = false) := decide_eq_false (by omega)
 have DN : Hid (s.dn = false) := hd
 have HTk0 : Hid (takeA p s m = ((stl p (timeA p s m.va).1).1, (timeA p s m.va).2 ++ (stl p (timeA p s m.va).1).2)) := by
  show takeA p s m = _
  rw [take_eq h0 hd]
  unfold countA
  rw [if_pos h4, if_pos ⟨h1, h3, hr⟩]
 have e4 : (m.kd == 4) = true := by simpa using h4
 have v1 : decide (m.va < 1) = false := decide_eq_false (by omega)
 have v2 : decide ((3 : Int) < m.va) = false := decide_eq_false (by omega)
 have v3 : (m.rd != s.rd) = false := by simpa using hr
 have HTm : Hid (∀ wx, Calls Try.prog 33 #[av p s a1 s.ps.length c1 a2 s.vs.length c2, .int .i64 m.va] wx fun e w' => SayP p (timeA p s m.va).1 (timeA p s m.va).2 a1 s.ps.length c1 a2 s.vs.length c2 wx e w') := fun wx => rtime_any p s a1 s.ps.length c1 a2 s.vs.length c2 hi m.va h1 h3 wx
 have HIt : Hid (InvA p (timeA p s m.va).1 ∧ 0 ≤ (timeA p s m.va).1.rd ∧ (timeA p s m.va).1.ps = s.ps ∧ (timeA p s m.va).1.vs = s.vs ∧ (timeA p s m.va).1.dn = s.dn) := inv_time hi h0 m.va
 have HT0 : Hid (R2 w w.heap.size #[.int .i64 p.me, .int .i64 p.ht, .string p.own, .int .i64 s.rd, .int .i64 s.st, .string s.lk, .int .i64 s.lr, .string s.vv, .int .i64 s.vr, .slice a1 s.ps.length c1, .int .i64 (p.n : Int), .int .i64 (p.t : Int), .slice a2 s.vs.length c2, .bool (fiveA s), .bool s.dn, .string s.dc] (w.heap.size + 1 + 1) (((w.alloc (.cells #[.int .i64 p.me, .int .i64 p.ht, .string p.own, .int .i64 s.rd, .int .i64 s.st, .string s.lk, .int .i64 s.lr, .string s.vv, .int .i64 s.vr, .slice a1 s.ps.length c1, .int .i64 (p.n : Int), .int .i64 (p.t : Int), .slice a2 s.vs.length c2, .bool (fiveA s), .bool s.dn, .string s.dc] 34)).alloc (.cells #[.int .i64 m.kd, .int .i64 m.fr, .int .i64 m.rd, .int .i64 m.va, .string m.vl] 39)).alloc (.cells #[.int .i64 0, .int .i64 0, .string ⟨#[]⟩, .int .i64 0, .int .i64 0, .string ⟨#[]⟩, .int .i64 0, .string ⟨#[]⟩, .int .i64 0, .slice none 0 0, .int .i64 0, .int .i64 0, .slice none 0 0, .bool false, .bool false, .string ⟨#[]⟩] 34)) ∧ Wd (w.heap.size + 1) m.kd m.fr m.rd m.va m.vl (((w.alloc (.cells #[.int .i64 p.me, .int .i64 p.ht, .string p.own, .int .i64 s.rd, .int .i64 s.st, .string s.lk, .int .i64 s.lr, .string s.vv, .int .i64 s.vr, .slice a1 s.ps.length c1, .int .i64 (p.n : Int), .int .i64 (p.t : Int), .slice a2 s.vs.length c2, .bool (fiveA s), .bool s.dn, .string s.dc] 34)).alloc (.cells #[.int .i64 m.kd, .int .i64 m.fr, .int .i64 m.rd, .int .i64 m.va, .string m.vl] 39)).alloc (.cells #[.int .i64 0, .int .i64 0, .string ⟨#[]⟩, .int .i64 0, .int .i64 0, .string ⟨#[]⟩, .int .i64 0, .string ⟨#[]⟩, .int .i64 0, .slice none 0 0, .int .i64 0, .int .i64 0, .slice none 0 0, .bool false, .bool false, .string ⟨#[]⟩] 34)) ∧ (((w.alloc (.cells #[.int .i64 p.me, .int .i64 p.ht, .string p.own, .int .i64 s.rd, .int .i64 s.st, .string s.lk, .int .i64 s.lr, .string s.vv, .int .i64 s.vr, .slice a1 s.ps.length c1, .int .i64 (p.n : Int), .int .i64 (p.t : Int), .slice a2 s.vs.length c2, .bool (fiveA s), .bool s.dn, .string s.dc] 34)).alloc (.cells #[.int .i64 m.kd, .int .i64 m.fr, .int .i64 m.rd, .int .i64 m.va, .string m.vl] 39)).alloc (.cells #[.int .i64 0, .int .i64 0, .string ⟨#[]⟩, .int .i64 0, .int .i64 0, .string ⟨#[]⟩, .int .i64 0, .string ⟨#[]⟩, .int .i64 0, .slice none 0 0, .int .i64 0, .int .i64 0, .slice none 0 0, .bool false, .bool false, .string ⟨#[]⟩] 34)).heap.size = w.heap.size + 3) := take_new w _ _ rfl m
 have HO1 : Hid (w.ownsRow 0 39 5 (.slice a1 s.ps.length c1) s.ps.length (wcs s.ps)) := hO1
 have HO2 : Hid (w.ownsRow 0 39 5 (.slice a2 s.vs.length c2) s.vs.length (wcs s.vs)) := hO2
 have Hp : Hid (okP p) := hp
 have Hi : Hid (InvA p s) := hi
 have Hn : Hid (s.ps.length + s.vs.length ≤ 500) := hn
 clear h0 hd h4 h1 h3 hr
 clear hO1 hO2 hp hi hn
 go_enter Try.func18, Try.ntmps18
 go_upto_region 1 with fail
 obtain ⟨W, hW⟩ : ∃ W, (((w.alloc (.cells #[.int .i64 p.me, .int .i64 p.ht, .string p.own, .int .i64 s.rd, .int .i64 s.st, .string s.lk, .int .i64 s.lr, .string s.vv, .int .i64 s.vr, .slice a1 s.ps.length c1, .int .i64 (p.n : Int), .int .i64 (p.t : Int), .slice a2 s.vs.length c2, .bool (fiveA s), .bool s.dn, .string s.dc] 34)).alloc (.cells #[.int .i64 m.kd, .int .i64 m.fr, .int .i64 m.rd, .int .i64 m.va, .string m.vl] 39)).alloc (.cells #[.int .i64 0, .int .i64 0, .string ⟨#[]⟩, .int .i64 0, .int .i64 0, .string ⟨#[]⟩, .int .i64 0, .string ⟨#[]⟩, .int .i64 0, .slice none 0 0, .int .i64 0, .int .i64 0, .slice none 0 0, .bool false, .bool false, .string ⟨#[]⟩] 34)) = W := ⟨_, rfl⟩
 rw [hW] at HT0 ⊢
 clear hW
 obtain ⟨hR0, hW0, hsz0⟩ := HT0.out
 have Hsz : Hid (W.heap.size = w.heap.size + 3) := hsz0
 clear HT0 hsz0
 have d1 := D0.out
 have k3 := (hR0.cell (j := 3) rfl).1
 have k14 := (hR0.cell (j := 14) (v := .bool s.dn) rfl).1
 have kl := (hR0.cell (j := 0) rfl).2
 rw [DN.out] at k14
 have x0 := hW0.1
 have x1 := hW0.2.1
 have x2 := hW0.2.2.1
 have x3 := hW0.2.2.2.1
 have x4 := hW0.2.2.2.2.1
 have xl := hW0.2.2.2.2.2
 go_upto_region 11 with fail
 clear d1 k3 k14 kl x0 x1 x2 x4
 refine wp_region_lit ?_
 refine wl_ld34 rfl rfl rfl hR0.b0 rfl ?_
 try simp only [sx]
 refine wpList_plain rfl fun K hK => ?_
 go_simp
 refine hK _ _ ?_
 clear hK K
 try simp only [sx]
 refine wpList_plain rfl fun K hK => ?_
 go_simp
 refine hK _ _ ?_
 clear hK K
 try simp only [sx]
 refine wpList_plain rfl fun K hK => ?_
 go_simp
 refine (HTm.out _).mono ?_
 rintro e wy ⟨sa, sn, sc, rfl, ho, hx⟩
 have hR0n := hR0.further hx
 have HO0 : Hid (wy.ownsRow (w.heap.size + 3) 39 5 (.slice sa sn sc) (timeA p s m.va).2.length (wcs (timeA p s m.va).2)) := own_base ho (by rw [Hsz.out]; exact Nat.le_refl _)
 have HSz0 : Hid (w.heap.size + 3 ≤ wy.heap.size) := by show _ ≤ _; have := hx.size; rw [Hsz.out] at this; exact this
 have HO : Hid (wy.ownsRow w.heap.size 39 5 (.slice sa sn sc) (timeA p s m.va).2.length (wcs (timeA p s m.va).2)) := own_base ho hR0.ext.size
 have HU : Hid (∀ k, (Value.slice sa sn sc).ownBlock = some k → k ≠ (w.heap.size + 1 + 1) ∧ k ≠ w.heap.size ∧ k < wy.heap.size) := fun k q => by
  have := ho.lt k q
  obtain ⟨z, _, qq⟩ := hR0.b1
  have := (Array.getElem?_eq_some_iff.1 qq).1
  have := (Array.getElem?_eq_some_iff.1 hR0.b0).1
  exact ⟨by omega, by omega, (ho.lt k q).2⟩
 clear ho hx
 dsimp only
 refine hK _ _ ?_
 clear hK K
 try simp only [sx]
 refine wpList_plain rfl fun K hK => ?_
 go_simp
 refine hK _ _ ?_
 clear hK K
 try simp only [sx]
 refine wpList_plain rfl fun K hK => ?_
 go_simp
 refine hK _ _ ?_
 clear hK K
 try simp only [sx]
 refine wpList_plain rfl fun K hK => ?_
 go_simp
 refine hK _ _ ?_
 clear hK K
 try simp only [sx]
 refine wl_st34a rfl rfl rfl rfl hR0n rfl rfl (by kernel_rfl) ?_
 intro W1' hR1' hB1' hK1'
 try simp only [sx]
 refine wpList_plain rfl fun K hK => ?_
 go_simp
 refine hK _ _ ?_
 clear hK K
 try simp only [sx]
 clear x3 xl
 have HL1 : Hid ((timeA p s m.va).2.length ≤ 1) := time_len p s m.va
 generalize hgt : timeA p s m.va = x1 at *
 obtain ⟨s1, o0⟩ := x1
 obtain ⟨i1, i2, i3, i4, i5⟩ := HIt.out
 have ha1 : ApartB w.heap.size (w.heap.size + 1 + 1) (w.heap.size + 3) (.slice a1 s1.ps.length c1) := fun k q => by
  rw [show s1.ps = s.ps from i3] at q
  have := (HO1.out.lt k q).2
  exact ⟨by omega, by omega, by omega⟩
 have ha2 : ApartB w.heap.size (w.heap.size + 1 + 1) (w.heap.size + 3) (.slice a2 s1.vs.length c2) := fun k q => by
  rw [show s1.vs = s.vs from i4] at q
  have := (HO2.out.lt k q).2
  exact ⟨by omega, by omega, by omega⟩
 obtain ⟨B, hB⟩ : ∃ B, w.heap.size + 3 = B := ⟨_, rfl⟩
 rw [hB] at ha1 ha2
 have Hn1 : Hid (s1.ps.length + s1.vs.length ≤ 500) := by show _ ≤ _; rw [show s1.ps = s.ps from i3, show s1.vs = s.vs from i4]; exact Hn.out
 have HTk : Hid (takeA p s m = ((stl p s1).1, o0 ++ (stl p s1).2)) := HTk0.out
 have i3' : s1.ps = s.ps := i3
 have i4' : s1.vs = s.vs := i4
 have HTL : Hid (TL w w.heap.size (w.heap.size + 1 + 1) B p s1 o0 a1 c1 a2 c2 0 s1 o0 (.slice sa sn sc) W1') := by
  refine ⟨?_, i1, i2, rfl, rfl, rfl, rfl, ?_, ?_, ?_, ?_, ?_, ha1, ha2, ⟨by omega, by omega⟩, ?_, by omega⟩
  ·rw [i3', i4']; exact hR1'
  ·rw [i3']; exact own_ext HO1.out hR1'.ext
  ·rw [i4']; exact own_ext HO2.out hR1'.ext
  ·have q := own_keep HO0.out (fun k q => hK1'.1 k (HU.out k q).2.1)
   rw [← hB]
   exact q
  ·have := mu_le i1 i2; have := HL1.out; dsimp only at *; omega
  ·have := mu_le i1 i2; dsimp only at *; omega
  ·rw [← hB, hK1'.2]; exact HSz0.out
 obtain ⟨b1, d1, b2, d2, e_b1, e_d1, e_b2, e_d2⟩ : ∃ b1 d1 b2 d2, b1 = a1 ∧ d1 = c1 ∧ b2 = a2 ∧ d2 = c2 := ⟨_, _, _, _, rfl, rfl, rfl, rfl⟩
 have HBo : Hid ((∀ k, (Value.slice b1 s1.ps.length d1).ownBlock = some k → (Value.slice a1 s.ps.length c1).ownBlock = some k ∨ w.heap.size ≤ k) ∧ ∀ k, (Value.slice b2 s1.vs.length d2).ownBlock = some k → (Value.slice a2 s.vs.length c2).ownBlock = some k ∨ w.heap.size ≤ k) := ⟨fun k q => .inl (by rw [e_b1, e_d1, i3'] at q; exact q), fun k q => .inl (by rw [e_b2, e_d2, i4'] at q; exact q)⟩
 rw [← e_b1, ← e_d1, ← e_b2, ← e_d2] at HTL
 clear hR1' hB1' hK1' ha1 ha2 hB i1 i2 i3 i4 i5 i3' i4' hgt HTk0 HIt HTm e_b1 e_d1 e_b2 e_d2
 go_wp2_with fail
 go_loopw [6, 11] (fun u6 u11 wr => ∃ kk : Nat, ∃ s' out a n c, u11 = .int .i64 kk ∧ u6 = .slice a n c ∧ Hid (TL w w.heap.size (w.heap.size + 1 + 1) B p s1 o0 b1 d1 b2 d2 kk s' out (.slice a n c) wr)) (fun _ u11 _ => 1000 - (intOf u11).toNat)
 case atStart => exact ⟨0, s1, o0, _, _, _, rfl, rfl, HTL⟩
 case round =>
  obtain ⟨kk, s', out, ua, un, uc, rfl, rfl, HT⟩ := hrel
  clear HTL
  have hkk : kk < 1000 := by have := HT.out.kk; omega
  obtain ⟨q1, q0, qw⟩ := lp_nums kk 1000 hkk (by omega)
  have hT := HT.out
  clear HT
  by_cases hdn : s'.dn = true
  ·have k14 := (hT.r2.cell (j := 14) (v := .bool s'.dn) rfl).1
   have kl := (hT.r2.cell (j := 0) rfl).2
   have Hdn : Hid (s'.dn = true) := hdn
   rw [hdn] at k14
   clear hdn
   go_upto_region 26 with fail
   clear k14 kl
   refine wp_region_lit ?_
   refine wl_ld34 rfl rfl rfl hT.r2.b0 rfl ?_
   try simp only [sx]
   refine wpList_plain rfl fun K hK => ?_
   go_simp
   refine hK _ _ ?_
   clear hK K
   try simp only [sx]
   refine wl_st34 rfl rfl rfl rfl hT.r2 rfl (by kernel_rfl) ?_
   intro W1' hR1' hG1' hB1' hK1'
   try simp only [sx]
   refine wpList_plain rfl fun K hK => ?_
   go_simp
   refine hK _ _ ?_
   clear hK K
   try simp only [sx]
   go_wp2_with fail
   rw [HTk.out]
   refine bodyPost_ret (ret_two Try.results18 _ _ (w.heap.size + 1 + 1) 34 #[.int .i64 p.me, .int .i64 p.ht, .string p.own, .int .i64 s'.rd, .int .i64 s'.st, .string s'.lk, .int .i64 s'.lr, .string s'.vv, .int .i64 s'.vr, .slice b1 s1.ps.length d1, .int .i64 (p.n : Int), .int .i64 (p.t : Int), .slice b2 s1.vs.length d2, .bool (fiveA s'), .bool s'.dn, .string s'.dc] (0, 0) rfl hG1' rfl) rfl ?_
   have f1 : (stl p s1).1 = s' := hT.e1.trans (by rw [stl_done Hdn.out])
   have f2 : o0 ++ (stl p s1).2 = out := hT.e2.trans (by rw [stl_done Hdn.out, List.append_nil])
   dsimp only
   rw [f1, f2]
   refine ⟨b1, d1, b2, d2, ua, un, uc, ?_, ?_, ?_, ?_, hR1'.ext, fun k q => HBo.out.1 k (by rw [hT.ps] at q; exact q), fun k q => HBo.out.2 k (by rw [hT.vs] at q; exact q)⟩
   ·rw [hT.ps, hT.vs]
    rfl
   ·rw [hT.ps]
    exact own_keep hT.o1 (fun k q => hK1'.1 k (hT.b1 k q).2.2)
   ·rw [hT.vs]
    exact own_keep hT.o2 (fun k q => hK1'.1 k (hT.b2 k q).2.2)
   ·exact own_base (own_keep hT.ou (fun k q => hK1'.1 k (fun z => by have := (hT.ou.lt k q).1; have := hT.bg.2; omega))) hT.wB
  ·have Hdn : Hid (s'.dn = false) := (by simpa using hdn : s'.dn = false)
   clear hdn
   have HRc : Hid (∀ wx, Ext wr wx → Calls Try.prog 36 #[av p s' b1 s1.ps.length d1 b2 s1.vs.length d2] wx fun e w' => RuP p s' b1 s1.ps.length d1 b2 s1.vs.length d2 wx e w') := fun wx hx => by
    have e1 : s'.ps.length ≤ 1000 := by rw [hT.ps]; have := Hn1.out; omega
    have e2 : s'.vs.length ≤ 1000 := by rw [hT.vs]; have := Hn1.out; omega
    have := rrule_any p s' Hp.out hT.inv hT.rd b1 d1 b2 d2 e1 e2 wx (by rw [hT.ps]; exact (own_ws hT.o1).ext hx) (by rw [hT.vs]; exact (own_ws hT.o2).ext hx)
    rw [hT.ps, hT.vs] at this
    exact this
   cases hr : ruleA p s' with
   | none =>
    have HRl : Hid (ruleA p s' = none) := hr
    clear hr
    have k14 := (hT.r2.cell (j := 14) (v := .bool s'.dn) rfl).1
    have kl := (hT.r2.cell (j := 0) rfl).2
    rw [Hdn.out] at k14
    go_upto_region 22 with fail
    clear k14 kl
    refine wp_region_lit ?_
    refine wl_ld34 rfl rfl rfl hT.r2.b0 rfl ?_
    try simp only [sx]
    refine wpList_plain rfl fun K hK => ?_
    go_simp
    refine (HRc.out _ (Ext.refl _)).mono ?_
    rintro e w8 hu8
    unfold RuP at hu8
    rw [HRl.out] at hu8
    obtain ⟨rfl, HX8⟩ := hu8
    have hT8 := hT.ext HX8
    dsimp only
    refine hK _ _ ?_
    clear hK K
    try simp only [sx]
    refine wpList_plain rfl fun K hK => ?_
    go_simp
    refine hK _ _ ?_
    clear hK K
    try simp only [sx]
    refine wpList_plain rfl fun K hK => ?_
    go_simp
    refine hK _ _ ?_
    clear hK K
    try simp only [sx]
    refine wpList_plain rfl fun K hK => ?_
    go_simp
    refine hK _ _ ?_
    clear hK K
    try simp only [sx]
    refine wpList_plain rfl fun K hK => ?_
    go_simp
    refine hK _ _ ?_
    clear hK K
    try simp only [sx]
    refine wpList_plain rfl fun K hK => ?_
    go_simp
    refine hK _ _ ?_
    clear hK K
    try simp only [sx]
    refine wl_st34n rfl rfl rfl rfl rfl rfl (by kernel_rfl) ?_
    try simp only [sx]
    refine wpList_plain rfl fun K hK => ?_
    go_simp
    refine hK _ _ ?_
    clear hK K
    try simp only [sx]
    refine wpList_plain rfl fun K hK => ?_
    go_simp
    refine hK _ _ ?_
    clear hK K
    try simp only [sx]
    have hT9 := hT8.ext ((Ext.refl w8).alloc (.cells #[.int .i64 p.me, .int .i64 p.ht, .string p.own, .int .i64 s'.rd, .int .i64 s'.st, .string s'.lk, .int .i64 s'.lr, .string s'.vv, .int .i64 s'.vr, .slice b1 s1.ps.length d1, .int .i64 (p.n : Int), .int .i64 (p.t : Int), .slice b2 s1.vs.length d2, .bool (fiveA s'), .bool s'.dn, .string s'.dc] 34))
    obtain ⟨Wq, hWq⟩ : ∃ X, w8.alloc (.cells #[.int .i64 p.me, .int .i64 p.ht, .string p.own, .int .i64 s'.rd, .int .i64 s'.st, .string s'.lk, .int .i64 s'.lr, .string s'.vv, .int .i64 s'.vr, .slice b1 s1.ps.length d1, .int .i64 (p.n : Int), .int .i64 (p.t : Int), .slice b2 s1.vs.length d2, .bool (fiveA s'), .bool s'.dn, .string s'.dc] 34) = X := ⟨_, rfl⟩
    rw [hWq] at hT9 ⊢
    clear hWq hT8
    go_upto_region 26 with fail
    refine wp_region_lit ?_
    refine wl_ld34 rfl rfl rfl hT9.r2.b0 rfl ?_
    try simp only [sx]
    refine wpList_plain rfl fun K hK => ?_
    go_simp
    refine hK _ _ ?_
    clear hK K
    try simp only [sx]
    refine wl_st34 rfl rfl rfl rfl hT9.r2 rfl (by kernel_rfl) ?_
    intro W1' hR1' hG1' hB1' hK1'
    try simp only [sx]
    refine wpList_plain rfl fun K hK => ?_
    go_simp
    refine hK _ _ ?_
    clear hK K
    try simp only [sx]
    go_wp2_with fail
    rw [HTk.out]
    refine bodyPost_ret (ret_two Try.results18 _ _ (w.heap.size + 1 + 1) 34 #[.int .i64 p.me, .int .i64 p.ht, .string p.own, .int .i64 s'.rd, .int .i64 s'.st, .string s'.lk, .int .i64 s'.lr, .string s'.vv, .int .i64 s'.vr, .slice b1 s1.ps.length d1, .int .i64 (p.n : Int), .int .i64 (p.t : Int), .slice b2 s1.vs.length d2, .bool (fiveA s'), .bool s'.dn, .string s'.dc] (0, 0) rfl hG1' rfl) rfl ?_
    have f1 : (stl p s1).1 = s' := hT9.e1.trans (by rw [stl_none HRl.out])
    have f2 : o0 ++ (stl p s1).2 = out := hT9.e2.trans (by rw [stl_none HRl.out, List.append_nil])
    dsimp only
    rw [f1, f2]
    refine ⟨b1, d1, b2, d2, ua, un, uc, ?_, ?_, ?_, ?_, hR1'.ext, fun k q => HBo.out.1 k (by rw [hT9.ps] at q; exact q), fun k q => HBo.out.2 k (by rw [hT9.vs] at q; exact q)⟩
    ·rw [hT9.ps, hT9.vs]
     rfl
    ·rw [hT9.ps]
     exact own_keep hT9.o1 (fun k q => hK1'.1 k (hT9.b1 k q).2.2)
    ·rw [hT9.vs]
     exact own_keep hT9.o2 (fun k q => hK1'.1 k (hT9.b2 k q).2.2)
    ·exact own_base (own_keep hT9.ou (fun k q => hK1'.1 k (fun z => by have := (hT9.ou.lt k q).1; have := hT9.bg.2; omega))) hT9.wB
   | some x =>
    have HRl : Hid (ruleA p s' = some x) := hr
    clear hr
    have k14 := (hT.r2.cell (j := 14) (v := .bool s'.dn) rfl).1
    have kl := (hT.r2.cell (j := 0) rfl).2
    rw [Hdn.out] at k14
    go_upto_region 22 with fail
    clear k14 kl
    refine wp_region_lit ?_
    refine wl_ld34 rfl rfl rfl hT.r2.b0 rfl ?_
    try simp only [sx]
    refine wpList_plain rfl fun K hK => ?_
    go_simp
    refine (HRc.out _ (Ext.refl _)).mono ?_
    rintro e w8 hu8
    unfold RuP at hu8
    rw [HRl.out] at hu8
    obtain ⟨sa, sn, sc, rfl, ho8, HX8⟩ := hu8
    have hT8 := hT.ext HX8
    dsimp only
    refine hK _ _ ?_
    clear hK K
    try simp only [sx]
    refine wpList_plain rfl fun K hK => ?_
    go_simp
    refine hK _ _ ?_
    clear hK K
    try simp only [sx]
    refine wpList_plain rfl fun K hK => ?_
    go_simp
    refine hK _ _ ?_
    clear hK K
    try simp only [sx]
    refine wpList_plain rfl fun K hK => ?_
    go_simp
    refine hK _ _ ?_
    clear hK K
    try simp only [sx]
    refine wpList_plain rfl fun K hK => ?_
    go_simp
    refine hK _ _ ?_
    clear hK K
    try simp only [sx]
    refine wpList_plain rfl fun K hK => ?_
    go_simp
    refine hK _ _ ?_
    clear hK K
    try simp only [sx]
    refine wl_st34n rfl rfl rfl rfl rfl rfl (by kernel_rfl) ?_
    try simp only [sx]
    refine wpList_plain rfl fun K hK => ?_
    go_simp
    refine hK _ _ ?_
    clear hK K
    try simp only [sx]
    refine wpList_plain rfl fun K hK => ?_
    go_simp
    refine hK _ _ ?_
    clear hK K
    try simp only [sx]
    go_upto_region 24 with fail
    refine wp_region_lit ?_
    refine wl_ld34 rfl rfl rfl (heap_alloc_new _ _) rfl ?_
    try simp only [sx]
    refine wl_st34a rfl rfl rfl rfl (hT8.r2.further ((Ext.refl _).alloc _)) rfl rfl (by kernel_rfl) ?_
    intro W' hR' hB' hK'
    try simp only [sx]
    have hT9 := hT8.ext ((Ext.refl w8).alloc (.cells #[.int .i64 p.me, .int .i64 p.ht, .string p.own, .int .i64 x.1.rd, .int .i64 x.1.st, .string x.1.lk, .int .i64 x.1.lr, .string x.1.vv, .int .i64 x.1.vr, .slice b1 s1.ps.length d1, .int .i64 (p.n : Int), .int .i64 (p.t : Int), .slice b2 s1.vs.length d2, .bool (fiveA x.1), .bool x.1.dn, .string x.1.dc] 34))
    have HO9 : Hid (W'.ownsRow wr.heap.size 39 5 (.slice sa sn sc) x.2.length (wcs x.2)) := own_keep (own_ext ho8 ((Ext.refl w8).alloc (.cells #[.int .i64 p.me, .int .i64 p.ht, .string p.own, .int .i64 x.1.rd, .int .i64 x.1.st, .string x.1.lk, .int .i64 x.1.lr, .string x.1.vv, .int .i64 x.1.vr, .slice b1 s1.ps.length d1, .int .i64 (p.n : Int), .int .i64 (p.t : Int), .slice b2 s1.vs.length d2, .bool (fiveA x.1), .bool x.1.dn, .string x.1.dc] 34))) (fun k q => hK'.1 k (fun z => by have := (ho8.lt k q).1; have := (Array.getElem?_eq_some_iff.1 hT.r2.b0).1; omega))
    have HLx : Hid (x.2.length ≤ 1) := rule_lenR HRl.out
    have HOu : Hid (W'.ownsRow B 39 5 (.slice ua un uc) out.length (wcs out)) := own_keep hT9.ou (fun k q => hK'.1 k (fun z => by have := (hT9.ou.lt k q).1; have := hT9.bg.1; omega))
    have HBs : Hid (B ≤ W'.heap.size) := by show B ≤ W'.heap.size; rw [hK'.2]; exact hT9.bs
    have HSt : Hid (∀ u' W'', W''.ownsRow B 39 5 u' (out.length + x.2.length) (wcs out ++ wcs x.2) → W'.grownBy W'' (Value.slice ua un uc).ownBlock → TL w w.heap.size (w.heap.size + 1 + 1) B p s1 o0 b1 d1 b2 d2 (kk + 1) x.1 (out ++ x.2) u' W'') := fun u' W'' q1 q2 => hT9.set Hdn.out HRl.out hR' hK' q1 q2
    have HLo : Hid (out.length ≤ 1000) := Nat.le_trans (Nat.le_add_right _ _) hT.len
    have Hm : Hid (1000 - (intOf (.int .i64 ((kk : Int) + 1))).toNat < 1000 - (intOf (.int .i64 (kk : Int))).toNat) := lp_meas hkk
    clear hT8 hT9 hT ho8 hR' hB' hK'
    go_upto_region 25 with fail
    refine wp_region_lit ?_
    refine wpList_plain rfl fun K hK => ?_
    go_simp
    refine hK _ _ ?_
    clear hK K
    try simp only [sx]
    refine wpList_plain rfl fun K hK => ?_
    go_simp
    refine hK _ _ ?_
    clear hK K
    try simp only [sx]
    refine wpList_plain rfl fun K hK => ?_
    refine app22 W' (.tmp 118) (.tmp 119) rfl B (.slice ua un uc) out.length (wcs out) rfl HOu.out (.slice sa sn sc) x.2.length (wcs x.2) rfl (own_slv HO9.out) (wcs_len _) (wcs_one _) (by have := HLo.out; have := HLx.out; omega) HBs.out ?_
    intro u' W'' z1 z2 _
    obtain ⟨a', c', rfl⟩ := own_len z1
    have HTn : Hid _ := HSt.out _ _ z1 z2
    refine hK _ _ ?_
    clear hK K z1 z2 HSt HOu HO9
    try simp only [sx]
    go_wp2_with fail
    go_roundw
    case rel => exact ⟨kk + 1, x.1, out ++ x.2, _, _, _, by push_cast; rfl, rfl, HTn⟩
    case measure => exact Hm.out
set_option maxHeartbeats 8000000 in
theorem rtake_vn (p : Pm) (s : Ag) (m : Vt) (hp : okP p) (hi : InvA p s) (a1 : Option Addr) (c1 : Nat) (a2 : Option Addr) (c2 : Nat) (hn : s.ps.length + s.vs.length ≤ 500) (w : World) (hO1 : w.ownsRow 0 39 5 (.slice a1 s.ps.length c1) s.ps.length (wcs s.ps)) (hO2 : w.ownsRow 0 39 5 (.slice a2 s.vs.length c2) s.vs.length (wcs s.vs)) (h0 : 0 ≤ s.rd) (hd : s.dn = false) (h4 : ¬ m.kd = 4) (h1 : ¬ m.kd = 1) (hw : wOk m = true) (hok : okV p.n s.vs m = false) :
  Calls Try.prog 18 #[av p s a1 s.ps.length c1 a2 s.vs.length c2, wv m] w fun e w' => RTk p (takeA p s m).1 (takeA p s m).2 (.slice a1 s.ps.length c1) (.slice a2 s.vs.length c2) w e w' := by
 have D0 : Hid (decide (s.rd < 0) = false) := decide_eq_false (by omega)
 have DN : Hid (s.dn = false) := hd
 have HCk : Hid (∀ wx, Calls Try.prog 22 #[.agg #[.int .i64 m.kd, .int .i64 m.fr, .int .i64 m.rd, .int .i64 m.va, .string m.vl]] wx fun e w' => e = .returned (.int .i64 0) ∧ Ext wx w') := fun wx => by
  have := rchkW_any m.kd m.fr m.rd m.va m.vl wx
  rw [show wrdOk m.kd m.fr m.rd m.va m.vl = true from hw] at this
  exact this
 have e4 : (m.kd == 4) = false := by simpa using h4
 have e1 : (m.kd == 1) = false := by simpa using h1
 have HPt : Hid (∀ wx, Ext w wx → Calls Try.prog 35 #[rV p.n p.t (.slice a2 s.vs.length c2), .agg #[.int .i64 m.kd, .int .i64 m.fr, .int .i64 m.rd, .int .i64 m.va, .string m.vl]] wx fun e w' => RpP p.n p.t s.vs m (.slice a2 s.vs.length c2) wx e w') := fun wx hx => rput_any m _ (by omega) wx (own_ext hO2 hx)
 have Hok : Hid (okV p.n s.vs m = false) := hok
 have HN : Hid (takeA p s m = (s, [])) := by
  show takeA p s m = _
  rw [take_eq h0 hd]
  unfold countA
  rw [if_neg h4, if_neg (by rw [hw]; decide), if_neg h1, if_neg (by rw [hok]; decide)]
 have HT0 : Hid (R2 w w.heap.size #[.int .i64 p.me, .int .i64 p.ht, .string p.own, .int .i64 s.rd, .int .i64 s.st, .string s.lk, .int .i64 s.lr, .string s.vv, .int .i64 s.vr, .slice a1 s.ps.length c1, .int .i64 (p.n : Int), .int .i64 (p.t : Int), .slice a2 s.vs.length c2, .bool (fiveA s), .bool s.dn, .string s.dc] (w.heap.size + 1 + 1) (((w.alloc (.cells #[.int .i64 p.me, .int .i64 p.ht, .string p.own, .int .i64 s.rd, .int .i64 s.st, .string s.lk, .int .i64 s.lr, .string s.vv, .int .i64 s.vr, .slice a1 s.ps.length c1, .int .i64 (p.n : Int), .int .i64 (p.t : Int), .slice a2 s.vs.length c2, .bool (fiveA s), .bool s.dn, .string s.dc] 34)).alloc (.cells #[.int .i64 m.kd, .int .i64 m.fr, .int .i64 m.rd, .int .i64 m.va, .string m.vl] 39)).alloc (.cells #[.int .i64 0, .int .i64 0, .string ⟨#[]⟩, .int .i64 0, .int .i64 0, .string ⟨#[]⟩, .int .i64 0, .string ⟨#[]⟩, .int .i64 0, .slice none 0 0, .int .i64 0, .int .i64 0, .slice none 0 0, .bool false, .bool false, .string ⟨#[]⟩] 34)) ∧ Wd (w.heap.size + 1) m.kd m.fr m.rd m.va m.vl (((w.alloc (.cells #[.int .i64 p.me, .int .i64 p.ht, .string p.own, .int .i64 s.rd, .int .i64 s.st, .string s.lk, .int .i64 s.lr, .string s.vv, .int .i64 s.vr, .slice a1 s.ps.length c1, .int .i64 (p.n : Int), .int .i64 (p.t : Int), .slice a2 s.vs.length c2, .bool (fiveA s), .bool s.dn, .string s.dc] 34)).alloc (.cells #[.int .i64 m.kd, .int .i64 m.fr, .int .i64 m.rd, .int .i64 m.va, .string m.vl] 39)).alloc (.cells #[.int .i64 0, .int .i64 0, .string ⟨#[]⟩, .int .i64 0, .int .i64 0, .string ⟨#[]⟩, .int .i64 0, .string ⟨#[]⟩, .int .i64 0, .slice none 0 0, .int .i64 0, .int .i64 0, .slice none 0 0, .bool false, .bool false, .string ⟨#[]⟩] 34)) ∧ (((w.alloc (.cells #[.int .i64 p.me, .int .i64 p.ht, .string p.own, .int .i64 s.rd, .int .i64 s.st, .string s.lk, .int .i64 s.lr, .string s.vv, .int .i64 s.vr, .slice a1 s.ps.length c1, .int .i64 (p.n : Int), .int .i64 (p.t : Int), .slice a2 s.vs.length c2, .bool (fiveA s), .bool s.dn, .string s.dc] 34)).alloc (.cells #[.int .i64 m.kd, .int .i64 m.fr, .int .i64 m.rd, .int .i64 m.va, .string m.vl] 39)).alloc (.cells #[.int .i64 0, .int .i64 0, .string ⟨#[]⟩, .int .i64 0, .int .i64 0, .string ⟨#[]⟩, .int .i64 0, .string ⟨#[]⟩, .int .i64 0, .slice none 0 0, .int .i64 0, .int .i64 0, .slice none 0 0, .bool false, .bool false, .string ⟨#[]⟩] 34)).heap.size = w.heap.size + 3) := take_new w _ _ rfl m
 have HO1 : Hid (w.ownsRow 0 39 5 (.slice a1 s.ps.length c1) s.ps.length (wcs s.ps)) := hO1
 have HO2 : Hid (w.ownsRow 0 39 5 (.slice a2 s.vs.length c2) s.vs.length (wcs s.vs)) := hO2
 have Hp : Hid (okP p) := hp
 have Hi : Hid (InvA p s) := hi
 have Hn : Hid (s.ps.length + s.vs.length ≤ 500) := hn
 clear h0 hd h4 h1 hw hok
 clear hO1 hO2 hp hi hn
 go_enter Try.func18, Try.ntmps18
 go_upto_region 1 with fail
 obtain ⟨W, hW⟩ : ∃ W, (((w.alloc (.cells #[.int .i64 p.me, .int .i64 p.ht, .string p.own, .int .i64 s.rd, .int .i64 s.st, .string s.lk, .int .i64 s.lr, .string s.vv, .int .i64 s.vr, .slice a1 s.ps.length c1, .int .i64 (p.n : Int), .int .i64 (p.t : Int), .slice a2 s.vs.length c2, .bool (fiveA s), .bool s.dn, .string s.dc] 34)).alloc (.cells #[.int .i64 m.kd, .int .i64 m.fr, .int .i64 m.rd, .int .i64 m.va, .string m.vl] 39)).alloc (.cells #[.int .i64 0, .int .i64 0, .string ⟨#[]⟩, .int .i64 0, .int .i64 0, .string ⟨#[]⟩, .int .i64 0, .string ⟨#[]⟩, .int .i64 0, .slice none 0 0, .int .i64 0, .int .i64 0, .slice none 0 0, .bool false, .bool false, .string ⟨#[]⟩] 34)) = W := ⟨_, rfl⟩
 rw [hW] at HT0 ⊢
 clear hW
 obtain ⟨hR0, hW0, hsz0⟩ := HT0.out
 have Hsz : Hid (W.heap.size = w.heap.size + 3) := hsz0
 clear HT0 hsz0
 have d1 := D0.out
 have k3 := (hR0.cell (j := 3) rfl).1
 have k14 := (hR0.cell (j := 14) (v := .bool s.dn) rfl).1
 have kl := (hR0.cell (j := 0) rfl).2
 rw [DN.out] at k14
 have x0 := hW0.1
 have x1 := hW0.2.1
 have x2 := hW0.2.2.1
 have x3 := hW0.2.2.2.1
 have x4 := hW0.2.2.2.2.1
 have xl := hW0.2.2.2.2.2
 go_wp2_with fail
 refine (HCk.out _).mono ?_
 rintro e w1 ⟨rfl, HX⟩
 have hR1 := hR0.further HX
 have hW1 := hW0.ext HX
 have HSz1 : Hid (w.heap.size + 3 ≤ w1.heap.size) := by show _ ≤ _; have := HX.size; rw [Hsz.out] at this; exact this
 clear d1 k3 k14 kl x0 x1 x2 x3 x4 xl
 clear HX hR0 hW0
 have k10 := (hR1.cell (j := 10) rfl).1
 have k11 := (hR1.cell (j := 11) rfl).1
 have k12 := (hR1.cell (j := 12) rfl).1
 have kl := (hR1.cell (j := 0) rfl).2
 have x0 := hW1.1
 have x1 := hW1.2.1
 have x2 := hW1.2.2.1
 have x3 := hW1.2.2.2.1
 have x4 := hW1.2.2.2.2.1
 have xl := hW1.2.2.2.2.2
 go_wp2_with fail
 refine (HPt.out _ hR1.ext).mono ?_
 rintro e w2 ⟨u', rfl, ho2, hub, HX⟩
 rw [Hok.out]
 obtain ⟨a3, c3, rfl⟩ := own_len ho2
 have hR2 := hR1.further HX
 have HO2' : Hid (w2.ownsRow 0 39 5 (.slice a3 (putV p.n s.vs m).length c3) (putV p.n s.vs m).length (wcs (putV p.n s.vs m))) := ho2
 have HUb : Hid (∀ k, (Value.slice a3 (putV p.n s.vs m).length c3).ownBlock = some k → (Value.slice a2 s.vs.length c2).ownBlock = some k ∨ w1.heap.size ≤ k) := hub
 clear HX ho2 hub hR1 hW1
 clear k10 k11 k12 kl
 clear x0 x1 x2 x3 x4 xl
 go_upto_region 6 with fail
 have hR5 := hR2.further ((Ext.refl w2).alloc (.cells #[.int .i64 (p.n : Int), .int .i64 (p.t : Int), .slice a3 (putV p.n s.vs m).length c3] 32))
 have HO5 : Hid ((w2.alloc (.cells #[.int .i64 (p.n : Int), .int .i64 (p.t : Int), .slice a3 (putV p.n s.vs m).length c3] 32)).ownsRow 0 39 5 (.slice a3 (putV p.n s.vs m).length c3) (putV p.n s.vs m).length (wcs (putV p.n s.vs m))) := own_ext HO2'.out ((Ext.refl w2).alloc _)
 have HV : Hid ((w2.alloc (.cells #[.int .i64 (p.n : Int), .int .i64 (p.t : Int), .slice a3 (putV p.n s.vs m).length c3] 32)).cell? ⟨w2.heap.size, 0, none⟩ = some (.int .i64 (p.n : Int)) ∧ (w2.alloc (.cells #[.int .i64 (p.n : Int), .int .i64 (p.t : Int), .slice a3 (putV p.n s.vs m).length c3] 32)).cell? ⟨w2.heap.size, 1, none⟩ = some (.int .i64 (p.t : Int)) ∧ (w2.alloc (.cells #[.int .i64 (p.n : Int), .int .i64 (p.t : Int), .slice a3 (putV p.n s.vs m).length c3] 32)).cell? ⟨w2.heap.size, 2, none⟩ = some (.slice a3 (putV p.n s.vs m).length c3) ∧ w2.heap.size < (w2.alloc (.cells #[.int .i64 (p.n : Int), .int .i64 (p.t : Int), .slice a3 (putV p.n s.vs m).length c3] 32)).heap.size) := ⟨by rw [World.cell?_alloc_at _ _ _ _ rfl]; rfl, by rw [World.cell?_alloc_at _ _ _ _ rfl]; rfl, by rw [World.cell?_alloc_at _ _ _ _ rfl]; rfl, by simp⟩
 have HGv : Hid (¬ w2.heap.size = w.heap.size) := fun q => by have := (Array.getElem?_eq_some_iff.1 hR2.b0).1; omega
 obtain ⟨W5, hW5⟩ : ∃ X, w2.alloc (.cells #[.int .i64 (p.n : Int), .int .i64 (p.t : Int), .slice a3 (putV p.n s.vs m).length c3] 32) = X := ⟨_, rfl⟩
 rw [hW5] at hR5 HO5 HV ⊢
 clear hW5 hR2 HO2'
 generalize w2.heap.size = gv at *
 clear HO5 HV HGv HUb
 refine wp_region_lit ?_
 refine wl_ld34 rfl rfl rfl hR5.b0 rfl ?_
 try simp only [sx]
 refine wl_st34 rfl rfl rfl rfl hR5 rfl (by kernel_rfl) ?_
 intro W1' hR1' hG1' hB1' hK1'
 try simp only [sx]
 refine wpList_plain rfl fun K hK => ?_
 go_simp
 refine hK _ _ ?_
 clear hK K
 try simp only [sx]
 go_wp2_with fail
 rw [HN.out]
 refine bodyPost_ret (ret_two Try.results18 _ _ (w.heap.size + 1 + 1) 34 #[.int .i64 p.me, .int .i64 p.ht, .string p.own, .int .i64 s.rd, .int .i64 s.st, .string s.lk, .int .i64 s.lr, .string s.vv, .int .i64 s.vr, .slice a1 s.ps.length c1, .int .i64 (p.n : Int), .int .i64 (p.t : Int), .slice a2 s.vs.length c2, .bool (fiveA s), .bool s.dn, .string s.dc] (0, 0) rfl hG1' rfl) rfl ⟨a1, c1, a2, c2, _, _, _, rfl, own_ext HO1.out hR1'.ext, own_ext HO2.out hR1'.ext, World.ownsRow_nil _ _ _ _, hR1'.ext, fun k q => .inl q, fun k q => .inl q⟩
set_option maxHeartbeats 8000000 in
theorem rtake_v (p : Pm) (s : Ag) (m : Vt) (hp : okP p) (hi : InvA p s) (a1 : Option Addr) (c1 : Nat) (a2 : Option Addr) (c2 : Nat) (hn : s.ps.length + s.vs.length ≤ 500) (w : World) (hO1 : w.ownsRow 0 39 5 (.slice a1 s.ps.length c1) s.ps.length (wcs s.ps)) (hO2 : w.ownsRow 0 39 5 (.slice a2 s.vs.length c2) s.vs.length (wcs s.vs)) (h0 : 0 ≤ s.rd) (hd : s.dn = false) (h4 : ¬ m.kd = 4) (h1 : ¬ m.kd = 1) (hw : wOk m = true) (hok : okV p.n s.vs m = true) :
  Calls Try.prog 18 #[av p s a1 s.ps.length c1 a2 s.vs.length c2, wv m] w fun e w' => RTk p (takeA p s m).1 (takeA p s m).2 (.slice a1 s.ps.length c1) (.slice a2 s.vs.length c2) w e w' := by
 have D0 : Hid (decide (s.rd < 0) = false) := decide_eq_false (by omega)
 have DN : Hid (s.dn = false) := hd
 have HCk : Hid (∀ wx, Calls Try.prog 22 #[.agg #[.int .i64 m.kd, .int .i64 m.fr, .int .i64 m.rd, .int .i64 m.va, .string m.vl]] wx fun e w' => e = .returned (.int .i64 0) ∧ Ext wx w') := fun wx => by
  have := rchkW_any m.kd m.fr m.rd m.va m.vl wx
  rw [show wrdOk m.kd m.fr m.rd m.va m.vl = true from hw] at this
  exact this
 have e4 : (m.kd == 4) = false := by simpa using h4
 have e1 : (m.kd == 1) = false := by simpa using h1
 have HPt : Hid (∀ wx, Ext w wx → Calls Try.prog 35 #[rV p.n p.t (.slice a2 s.vs.length c2), .agg #[.int .i64 m.kd, .int .i64 m.fr, .int .i64 m.rd, .int .i64 m.va, .string m.vl]] wx fun e w' => RpP p.n p.t s.vs m (.slice a2 s.vs.length c2) wx e w') := fun wx hx => rput_any m _ (by omega) wx (own_ext hO2 hx)
 have Hok : Hid (okV p.n s.vs m = true) := hok
 have HTk0 : Hid (takeA p s m = ((stl p { s with vs := s.vs ++ [m] }).1, [] ++ (stl p { s with vs := s.vs ++ [m] }).2)) := by
  show takeA p s m = _
  rw [take_eq h0 hd]
  unfold countA
  rw [if_neg h4, if_neg (by rw [hw]; decide), if_neg h1, if_pos hok]
 have HIt : Hid (InvA p { s with vs := s.vs ++ [m] } ∧ 0 ≤ s.rd) := by
  have e : countA p s m = some ({ s with vs := s.vs ++ [m] }, []) := by
   unfold countA
   rw [if_neg h4, if_neg (by rw [hw]; decide), if_neg h1, if_pos hok]
  have := inv_count hi h0 e
  exact ⟨this.1, h0⟩
 have HT0 : Hid (R2 w w.heap.size #[.int .i64 p.me, .int .i64 p.ht, .string p.own, .int .i64 s.rd, .int .i64 s.st, .string s.lk, .int .i64 s.lr, .string s.vv, .int .i64 s.vr, .slice a1 s.ps.length c1, .int .i64 (p.n : Int), .int .i64 (p.t : Int), .slice a2 s.vs.length c2, .bool (fiveA s), .bool s.dn, .string s.dc] (w.heap.size + 1 + 1) (((w.alloc (.cells #[.int .i64 p.me, .int .i64 p.ht, .string p.own, .int .i64 s.rd, .int .i64 s.st, .string s.lk, .int .i64 s.lr, .string s.vv, .int .i64 s.vr, .slice a1 s.ps.length c1, .int .i64 (p.n : Int), .int .i64 (p.t : Int), .slice a2 s.vs.length c2, .bool (fiveA s), .bool s.dn, .string s.dc] 34)).alloc (.cells #[.int .i64 m.kd, .int .i64 m.fr, .int .i64 m.rd, .int .i64 m.va, .string m.vl] 39)).alloc (.cells #[.int .i64 0, .int .i64 0, .string ⟨#[]⟩, .int .i64 0, .int .i64 0, .string ⟨#[]⟩, .int .i64 0, .string ⟨#[]⟩, .int .i64 0, .slice none 0 0, .int .i64 0, .int .i64 0, .slice none 0 0, .bool false, .bool false, .string ⟨#[]⟩] 34)) ∧ Wd (w.heap.size + 1) m.kd m.fr m.rd m.va m.vl (((w.alloc (.cells #[.int .i64 p.me, .int .i64 p.ht, .string p.own, .int .i64 s.rd, .int .i64 s.st, .string s.lk, .int .i64 s.lr, .string s.vv, .int .i64 s.vr, .slice a1 s.ps.length c1, .int .i64 (p.n : Int), .int .i64 (p.t : Int), .slice a2 s.vs.length c2, .bool (fiveA s), .bool s.dn, .string s.dc] 34)).alloc (.cells #[.int .i64 m.kd, .int .i64 m.fr, .int .i64 m.rd, .int .i64 m.va, .string m.vl] 39)).alloc (.cells #[.int .i64 0, .int .i64 0, .string ⟨#[]⟩, .int .i64 0, .int .i64 0, .string ⟨#[]⟩, .int .i64 0, .string ⟨#[]⟩, .int .i64 0, .slice none 0 0, .int .i64 0, .int .i64 0, .slice none 0 0, .bool false, .bool false, .string ⟨#[]⟩] 34)) ∧ (((w.alloc (.cells #[.int .i64 p.me, .int .i64 p.ht, .string p.own, .int .i64 s.rd, .int .i64 s.st, .string s.lk, .int .i64 s.lr, .string s.vv, .int .i64 s.vr, .slice a1 s.ps.length c1, .int .i64 (p.n : Int), .int .i64 (p.t : Int), .slice a2 s.vs.length c2, .bool (fiveA s), .bool s.dn, .string s.dc] 34)).alloc (.cells #[.int .i64 m.kd, .int .i64 m.fr, .int .i64 m.rd, .int .i64 m.va, .string m.vl] 39)).alloc (.cells #[.int .i64 0, .int .i64 0, .string ⟨#[]⟩, .int .i64 0, .int .i64 0, .string ⟨#[]⟩, .int .i64 0, .string ⟨#[]⟩, .int .i64 0, .slice none 0 0, .int .i64 0, .int .i64 0, .slice none 0 0, .bool false, .bool false, .string ⟨#[]⟩] 34)).heap.size = w.heap.size + 3) := take_new w _ _ rfl m
 have HO1 : Hid (w.ownsRow 0 39 5 (.slice a1 s.ps.length c1) s.ps.length (wcs s.ps)) := hO1
 have HO2 : Hid (w.ownsRow 0 39 5 (.slice a2 s.vs.length c2) s.vs.length (wcs s.vs)) := hO2
 have Hp : Hid (okP p) := hp
 have Hi : Hid (InvA p s) := hi
 have Hn : Hid (s.ps.length + s.vs.length ≤ 500) := hn
 clear h0 hd h4 h1 hw hok
 clear hO1 hO2 hp hi hn
 go_enter Try.func18, Try.ntmps18
 go_upto_region 1 with fail
 obtain ⟨W, hW⟩ : ∃ W, (((w.alloc (.cells #[.int .i64 p.me, .int .i64 p.ht, .string p.own, .int .i64 s.rd, .int .i64 s.st, .string s.lk, .int .i64 s.lr, .string s.vv, .int .i64 s.vr, .slice a1 s.ps.length c1, .int .i64 (p.n : Int), .int .i64 (p.t : Int), .slice a2 s.vs.length c2, .bool (fiveA s), .bool s.dn, .string s.dc] 34)).alloc (.cells #[.int .i64 m.kd, .int .i64 m.fr, .int .i64 m.rd, .int .i64 m.va, .string m.vl] 39)).alloc (.cells #[.int .i64 0, .int .i64 0, .string ⟨#[]⟩, .int .i64 0, .int .i64 0, .string ⟨#[]⟩, .int .i64 0, .string ⟨#[]⟩, .int .i64 0, .slice none 0 0, .int .i64 0, .int .i64 0, .slice none 0 0, .bool false, .bool false, .string ⟨#[]⟩] 34)) = W := ⟨_, rfl⟩
 rw [hW] at HT0 ⊢
 clear hW
 obtain ⟨hR0, hW0, hsz0⟩ := HT0.out
 have Hsz : Hid (W.heap.size = w.heap.size + 3) := hsz0
 clear HT0 hsz0
 have d1 := D0.out
 have k3 := (hR0.cell (j := 3) rfl).1
 have k14 := (hR0.cell (j := 14) (v := .bool s.dn) rfl).1
 have kl := (hR0.cell (j := 0) rfl).2
 rw [DN.out] at k14
 have x0 := hW0.1
 have x1 := hW0.2.1
 have x2 := hW0.2.2.1
 have x3 := hW0.2.2.2.1
 have x4 := hW0.2.2.2.2.1
 have xl := hW0.2.2.2.2.2
 go_wp2_with fail
 refine (HCk.out _).mono ?_
 rintro e w1 ⟨rfl, HX⟩
 have hR1 := hR0.further HX
 have hW1 := hW0.ext HX
 have HSz1 : Hid (w.heap.size + 3 ≤ w1.heap.size) := by show _ ≤ _; have := HX.size; rw [Hsz.out] at this; exact this
 clear d1 k3 k14 kl x0 x1 x2 x3 x4 xl
 clear HX hR0 hW0
 have k10 := (hR1.cell (j := 10) rfl).1
 have k11 := (hR1.cell (j := 11) rfl).1
 have k12 := (hR1.cell (j := 12) rfl).1
 have kl := (hR1.cell (j := 0) rfl).2
 have x0 := hW1.1
 have x1 := hW1.2.1
 have x2 := hW1.2.2.1
 have x3 := hW1.2.2.2.1
 have x4 := hW1.2.2.2.2.1
 have xl := hW1.2.2.2.2.2
 go_wp2_with fail
 refine (HPt.out _ hR1.ext).mono ?_
 rintro e w2 ⟨u', rfl, ho2, hub, HX⟩
 rw [Hok.out]
 obtain ⟨a3, c3, rfl⟩ := own_len ho2
 have hR2 := hR1.further HX
 have HO2' : Hid (w2.ownsRow 0 39 5 (.slice a3 (putV p.n s.vs m).length c3) (putV p.n s.vs m).length (wcs (putV p.n s.vs m))) := ho2
 have HUb : Hid (∀ k, (Value.slice a3 (putV p.n s.vs m).length c3).ownBlock = some k → (Value.slice a2 s.vs.length c2).ownBlock = some k ∨ w1.heap.size ≤ k) := hub
 clear HX ho2 hub hR1 hW1
 clear k10 k11 k12 kl
 clear x0 x1 x2 x3 x4 xl
 go_upto_region 7 with fail
 have hR5 := hR2.further ((Ext.refl w2).alloc (.cells #[.int .i64 (p.n : Int), .int .i64 (p.t : Int), .slice a3 (putV p.n s.vs m).length c3] 32))
 have HO5 : Hid ((w2.alloc (.cells #[.int .i64 (p.n : Int), .int .i64 (p.t : Int), .slice a3 (putV p.n s.vs m).length c3] 32)).ownsRow 0 39 5 (.slice a3 (putV p.n s.vs m).length c3) (putV p.n s.vs m).length (wcs (putV p.n s.vs m))) := own_ext HO2'.out ((Ext.refl w2).alloc _)
 have HV : Hid ((w2.alloc (.cells #[.int .i64 (p.n : Int), .int .i64 (p.t : Int), .slice a3 (putV p.n s.vs m).length c3] 32)).cell? ⟨w2.heap.size, 0, none⟩ = some (.int .i64 (p.n : Int)) ∧ (w2.alloc (.cells #[.int .i64 (p.n : Int), .int .i64 (p.t : Int), .slice a3 (putV p.n s.vs m).length c3] 32)).cell? ⟨w2.heap.size, 1, none⟩ = some (.int .i64 (p.t : Int)) ∧ (w2.alloc (.cells #[.int .i64 (p.n : Int), .int .i64 (p.t : Int), .slice a3 (putV p.n s.vs m).length c3] 32)).cell? ⟨w2.heap.size, 2, none⟩ = some (.slice a3 (putV p.n s.vs m).length c3) ∧ w2.heap.size < (w2.alloc (.cells #[.int .i64 (p.n : Int), .int .i64 (p.t : Int), .slice a3 (putV p.n s.vs m).length c3] 32)).heap.size) := ⟨by rw [World.cell?_alloc_at _ _ _ _ rfl]; rfl, by rw [World.cell?_alloc_at _ _ _ _ rfl]; rfl, by rw [World.cell?_alloc_at _ _ _ _ rfl]; rfl, by simp⟩
 have HGv : Hid (¬ w2.heap.size = w.heap.size) := fun q => by have := (Array.getElem?_eq_some_iff.1 hR2.b0).1; omega
 obtain ⟨W5, hW5⟩ : ∃ X, w2.alloc (.cells #[.int .i64 (p.n : Int), .int .i64 (p.t : Int), .slice a3 (putV p.n s.vs m).length c3] 32) = X := ⟨_, rfl⟩
 rw [hW5] at hR5 HO5 HV ⊢
 clear hW5 hR2 HO2'
 generalize w2.heap.size = gv at *
 obtain ⟨z0, z1, z2, zl⟩ := HV.out
 have k10 := (hR5.cell (j := 10) rfl).1
 have k11 := (hR5.cell (j := 11) rfl).1
 have k12 := (hR5.cell (j := 12) rfl).1
 have kl := (hR5.cell (j := 12) rfl).2
 have y10 := hR5.fz 10
 have y11 := hR5.fz 11
 have y12 := hR5.fz 12
 go_upto_region 19 with fail
 have hR7 : R2 w w.heap.size #[.int .i64 p.me, .int .i64 p.ht, .string p.own, .int .i64 s.rd, .int .i64 s.st, .string s.lk, .int .i64 s.lr, .string s.vv, .int .i64 s.vr, .slice a1 s.ps.length c1, .int .i64 (p.n : Int), .int .i64 (p.t : Int), .slice a3 (putV p.n s.vs m).length c3, .bool (fiveA s), .bool s.dn, .string s.dc] (w.heap.size + 1 + 1) (((W5.setCell ⟨w.heap.size, 10, none⟩ (.int .i64 (p.n : Int))).setCell ⟨w.heap.size, 11, none⟩ (.int .i64 (p.t : Int))).setCell ⟨w.heap.size, 12, none⟩ (.slice a3 (putV p.n s.vs m).length c3)) := ((hR5.fld 10 _).fld 11 _).fld 12 _
 have hsz7 : (((W5.setCell ⟨w.heap.size, 10, none⟩ (.int .i64 (p.n : Int))).setCell ⟨w.heap.size, 11, none⟩ (.int .i64 (p.t : Int))).setCell ⟨w.heap.size, 12, none⟩ (.slice a3 (putV p.n s.vs m).length c3)).heap.size = W5.heap.size := by simp
 have hn3 : (Value.slice a3 (putV p.n s.vs m).length c3).ownBlock ≠ some w.heap.size := fun q => by
  rcases HUb.out _ q with z | z
  ·have := (HO2.out.lt _ z).2; omega
  ·have := HSz1.out; omega
 have HO7 : Hid ((((W5.setCell ⟨w.heap.size, 10, none⟩ (.int .i64 (p.n : Int))).setCell ⟨w.heap.size, 11, none⟩ (.int .i64 (p.t : Int))).setCell ⟨w.heap.size, 12, none⟩ (.slice a3 (putV p.n s.vs m).length c3)).ownsRow 0 39 5 (.slice a3 (putV p.n s.vs m).length c3) (putV p.n s.vs m).length (wcs (putV p.n s.vs m))) := own_setCell (own_setCell (own_setCell HO5.out hn3) hn3) hn3
 clear z0 z1 z2 zl k10 k11 k12 kl y10 y11 y12 hR5 HO5 HV hn3
 generalize ((W5.setCell ⟨w.heap.size, 10, none⟩ (.int .i64 (p.n : Int))).setCell ⟨w.heap.size, 11, none⟩ (.int .i64 (p.t : Int))).setCell ⟨w.heap.size, 12, none⟩ (.slice a3 (putV p.n s.vs m).length c3) = W7 at *
 rw [put_ok Hok.out] at HO7 HUb hR7
 obtain ⟨i1, i2⟩ := HIt.out
 obtain ⟨s1, hs1⟩ : ∃ s1 : Ag, { s with vs := s.vs ++ [m] } = s1 := ⟨_, rfl⟩
 have hps : s1.ps = s.ps := by rw [← hs1]
 have hvs : s1.vs = s.vs ++ [m] := by rw [← hs1]
 have hrd : s1.rd = s.rd := by rw [← hs1]
 have hR8 : R2 w w.heap.size #[.int .i64 p.me, .int .i64 p.ht, .string p.own, .int .i64 s1.rd, .int .i64 s1.st, .string s1.lk, .int .i64 s1.lr, .string s1.vv, .int .i64 s1.vr, .slice a1 s1.ps.length c1, .int .i64 (p.n : Int), .int .i64 (p.t : Int), .slice a3 s1.vs.length c3, .bool (fiveA s1), .bool s1.dn, .string s1.dc] (w.heap.size + 1 + 1) W7 := by rw [← hs1]; exact hR7
 rw [hs1] at i1 HTk0
 obtain ⟨o0, ho0⟩ : ∃ o0 : List Vt, [] = o0 := ⟨_, rfl⟩
 have HTk : Hid (takeA p s m = ((stl p s1).1, o0 ++ (stl p s1).2)) := by rw [← ho0]; exact HTk0.out
 obtain ⟨B, hB⟩ : ∃ B, W7.heap.size = B := ⟨_, rfl⟩
 have lt1 : (w.heap.size + 1 + 1) < W7.heap.size := by obtain ⟨z, _, q⟩ := hR7.b1; exact (Array.getElem?_eq_some_iff.1 q).1
 have Hn1 : Hid (s1.ps.length + s1.vs.length ≤ 501) := by show _ ≤ _; rw [hps, hvs, List.length_append]; have := Hn.out; simp; omega
 have HTL : Hid (TL w w.heap.size (w.heap.size + 1 + 1) B p s1 o0 a1 c1 a3 c3 0 s1 o0 (.slice none 0 0) W7) := by
  rw [← ho0]
  refine ⟨hR8, i1, by rw [hrd]; exact i2, rfl, rfl, rfl, rfl, ?_, ?_, World.ownsRow_nil _ _ _ _, ?_, ?_, ?_, ?_, ⟨by omega, by omega⟩, by omega, by have := hR7.ext.size; omega⟩
  ·rw [hps]; exact own_ext HO1.out hR7.ext
  ·rw [hvs]; exact HO7.out
  ·have := mu_le i1 (by rw [hrd]; exact i2); simp; omega
  ·have := mu_le i1 (by rw [hrd]; exact i2); omega
  ·intro k q
   rw [hps] at q
   have := (HO1.out.lt k q).2
   exact ⟨by omega, by omega, by omega⟩
  ·intro k q
   rw [hvs] at q
   have := (HO7.out.lt k q).2
   rcases HUb.out k q with z | z
   ·have := (HO2.out.lt k z).2; exact ⟨by omega, by omega, by omega⟩
   ·have := HSz1.out; exact ⟨by omega, by omega, by omega⟩
 obtain ⟨b1, d1, b2, d2, e_b1, e_d1, e_b2, e_d2⟩ : ∃ b1 d1 b2 d2, b1 = a1 ∧ d1 = c1 ∧ b2 = a3 ∧ d2 = c3 := ⟨_, _, _, _, rfl, rfl, rfl, rfl⟩
 have HBo : Hid ((∀ k, (Value.slice b1 s1.ps.length d1).ownBlock = some k → (Value.slice a1 s.ps.length c1).ownBlock = some k ∨ w.heap.size ≤ k) ∧ ∀ k, (Value.slice b2 s1.vs.length d2).ownBlock = some k → (Value.slice a2 s.vs.length c2).ownBlock = some k ∨ w.heap.size ≤ k) := ⟨fun k q => .inl (by rw [e_b1, e_d1, hps] at q; exact q), fun k q => by
  rw [e_b2, e_d2, hvs] at q
  rcases HUb.out k q with z | z
  ·exact .inl z
  ·exact .inr (by have := HSz1.out; omega)⟩
 rw [← e_b1, ← e_d1, ← e_b2, ← e_d2] at HTL
 clear hR7 hR8 hB lt1 i1 i2 hps hvs hrd hs1 ho0 HTk0 HIt e_b1 e_d1 e_b2 e_d2 HO7 HUb
 go_wp2_with fail
 go_loopw [6, 11] (fun u6 u11 wr => ∃ kk : Nat, ∃ s' out a n c, u11 = .int .i64 kk ∧ u6 = .slice a n c ∧ Hid (TL w w.heap.size (w.heap.size + 1 + 1) B p s1 o0 b1 d1 b2 d2 kk s' out (.slice a n c) wr)) (fun _ u11 _ => 1000 - (intOf u11).toNat)
 case atStart => exact ⟨0, s1, o0, _, _, _, rfl, rfl, HTL⟩
 case round =>
  obtain ⟨kk, s', out, ua, un, uc, rfl, rfl, HT⟩ := hrel
  clear HTL
  have hkk : kk < 1000 := by have := HT.out.kk; omega
  obtain ⟨q1, q0, qw⟩ := lp_nums kk 1000 hkk (by omega)
  have hT := HT.out
  clear HT
  by_cases hdn : s'.dn = true
  ·have k14 := (hT.r2.cell (j := 14) (v := .bool s'.dn) rfl).1
   have kl := (hT.r2.cell (j := 0) rfl).2
   have Hdn : Hid (s'.dn = true) := hdn
   rw [hdn] at k14
   clear hdn
   go_upto_region 26 with fail
   clear k14 kl
   refine wp_region_lit ?_
   refine wl_ld34 rfl rfl rfl hT.r2.b0 rfl ?_
   try simp only [sx]
   refine wpList_plain rfl fun K hK => ?_
   go_simp
   refine hK _ _ ?_
   clear hK K
   try simp only [sx]
   refine wl_st34 rfl rfl rfl rfl hT.r2 rfl (by kernel_rfl) ?_
   intro W1' hR1' hG1' hB1' hK1'
   try simp only [sx]
   refine wpList_plain rfl fun K hK => ?_
   go_simp
   refine hK _ _ ?_
   clear hK K
   try simp only [sx]
   go_wp2_with fail
   rw [HTk.out]
   refine bodyPost_ret (ret_two Try.results18 _ _ (w.heap.size + 1 + 1) 34 #[.int .i64 p.me, .int .i64 p.ht, .string p.own, .int .i64 s'.rd, .int .i64 s'.st, .string s'.lk, .int .i64 s'.lr, .string s'.vv, .int .i64 s'.vr, .slice b1 s1.ps.length d1, .int .i64 (p.n : Int), .int .i64 (p.t : Int), .slice b2 s1.vs.length d2, .bool (fiveA s'), .bool s'.dn, .string s'.dc] (0, 0) rfl hG1' rfl) rfl ?_
   have f1 : (stl p s1).1 = s' := hT.e1.trans (by rw [stl_done Hdn.out])
   have f2 : o0 ++ (stl p s1).2 = out := hT.e2.trans (by rw [stl_done Hdn.out, List.append_nil])
   dsimp only
   rw [f1, f2]
   refine ⟨b1, d1, b2, d2, ua, un, uc, ?_, ?_, ?_, ?_, hR1'.ext, fun k q => HBo.out.1 k (by rw [hT.ps] at q; exact q), fun k q => HBo.out.2 k (by rw [hT.vs] at q; exact q)⟩
   ·rw [hT.ps, hT.vs]
    rfl
   ·rw [hT.ps]
    exact own_keep hT.o1 (fun k q => hK1'.1 k (hT.b1 k q).2.2)
   ·rw [hT.vs]
    exact own_keep hT.o2 (fun k q => hK1'.1 k (hT.b2 k q).2.2)
   ·exact own_base (own_keep hT.ou (fun k q => hK1'.1 k (fun z => by have := (hT.ou.lt k q).1; have := hT.bg.2; omega))) hT.wB
  ·have Hdn : Hid (s'.dn = false) := (by simpa using hdn : s'.dn = false)
   clear hdn
   have HRc : Hid (∀ wx, Ext wr wx → Calls Try.prog 36 #[av p s' b1 s1.ps.length d1 b2 s1.vs.length d2] wx fun e w' => RuP p s' b1 s1.ps.length d1 b2 s1.vs.length d2 wx e w') := fun wx hx => by
    have e1 : s'.ps.length ≤ 1000 := by rw [hT.ps]; have := Hn1.out; omega
    have e2 : s'.vs.length ≤ 1000 := by rw [hT.vs]; have := Hn1.out; omega
    have := rrule_any p s' Hp.out hT.inv hT.rd b1 d1 b2 d2 e1 e2 wx (by rw [hT.ps]; exact (own_ws hT.o1).ext hx) (by rw [hT.vs]; exact (own_ws hT.o2).ext hx)
    rw [hT.ps, hT.vs] at this
    exact this
   cases hr : ruleA p s' with
   | none =>
    have HRl : Hid (ruleA p s' = none) := hr
    clear hr
    have k14 := (hT.r2.cell (j := 14) (v := .bool s'.dn) rfl).1
    have kl := (hT.r2.cell (j := 0) rfl).2
    rw [Hdn.out] at k14
    go_upto_region 22 with fail
    clear k14 kl
    refine wp_region_lit ?_
    refine wl_ld34 rfl rfl rfl hT.r2.b0 rfl ?_
    try simp only [sx]
    refine wpList_plain rfl fun K hK => ?_
    go_simp
    refine (HRc.out _ (Ext.refl _)).mono ?_
    rintro e w8 hu8
    unfold RuP at hu8
    rw [HRl.out] at hu8
    obtain ⟨rfl, HX8⟩ := hu8
    have hT8 := hT.ext HX8
    dsimp only
    refine hK _ _ ?_
    clear hK K
    try simp only [sx]
    refine wpList_plain rfl fun K hK => ?_
    go_simp
    refine hK _ _ ?_
    clear hK K
    try simp only [sx]
    refine wpList_plain rfl fun K hK => ?_
    go_simp
    refine hK _ _ ?_
    clear hK K
    try simp only [sx]
    refine wpList_plain rfl fun K hK => ?_
    go_simp
    refine hK _ _ ?_
    clear hK K
    try simp only [sx]
    refine wpList_plain rfl fun K hK => ?_
    go_simp
    refine hK _ _ ?_
    clear hK K
    try simp only [sx]
    refine wpList_plain rfl fun K hK => ?_
    go_simp
    refine hK _ _ ?_
    clear hK K
    try simp only [sx]
    refine wl_st34n rfl rfl rfl rfl rfl rfl (by kernel_rfl) ?_
    try simp only [sx]
    refine wpList_plain rfl fun K hK => ?_
    go_simp
    refine hK _ _ ?_
    clear hK K
    try simp only [sx]
    refine wpList_plain rfl fun K hK => ?_
    go_simp
    refine hK _ _ ?_
    clear hK K
    try simp only [sx]
    have hT9 := hT8.ext ((Ext.refl w8).alloc (.cells #[.int .i64 p.me, .int .i64 p.ht, .string p.own, .int .i64 s'.rd, .int .i64 s'.st, .string s'.lk, .int .i64 s'.lr, .string s'.vv, .int .i64 s'.vr, .slice b1 s1.ps.length d1, .int .i64 (p.n : Int), .int .i64 (p.t : Int), .slice b2 s1.vs.length d2, .bool (fiveA s'), .bool s'.dn, .string s'.dc] 34))
    obtain ⟨Wq, hWq⟩ : ∃ X, w8.alloc (.cells #[.int .i64 p.me, .int .i64 p.ht, .string p.own, .int .i64 s'.rd, .int .i64 s'.st, .string s'.lk, .int .i64 s'.lr, .string s'.vv, .int .i64 s'.vr, .slice b1 s1.ps.length d1, .int .i64 (p.n : Int), .int .i64 (p.t : Int), .slice b2 s1.vs.length d2, .bool (fiveA s'), .bool s'.dn, .string s'.dc] 34) = X := ⟨_, rfl⟩
    rw [hWq] at hT9 ⊢
    clear hWq hT8
    go_upto_region 26 with fail
    refine wp_region_lit ?_
    refine wl_ld34 rfl rfl rfl hT9.r2.b0 rfl ?_
    try simp only [sx]
    refine wpList_plain rfl fun K hK => ?_
    go_simp
    refine hK _ _ ?_
    clear hK K
    try simp only [sx]
    refine wl_st34 rfl rfl rfl rfl hT9.r2 rfl (by kernel_rfl) ?_
    intro W1' hR1' hG1' hB1' hK1'
    try simp only [sx]
    refine wpList_plain rfl fun K hK => ?_
    go_simp
    refine hK _ _ ?_
    clear hK K
    try simp only [sx]
    go_wp2_with fail
    rw [HTk.out]
    refine bodyPost_ret (ret_two Try.results18 _ _ (w.heap.size + 1 + 1) 34 #[.int .i64 p.me, .int .i64 p.ht, .string p.own, .int .i64 s'.rd, .int .i64 s'.st, .string s'.lk, .int .i64 s'.lr, .string s'.vv, .int .i64 s'.vr, .slice b1 s1.ps.length d1, .int .i64 (p.n : Int), .int .i64 (p.t : Int), .slice b2 s1.vs.length d2, .bool (fiveA s'), .bool s'.dn, .string s'.dc] (0, 0) rfl hG1' rfl) rfl ?_
    have f1 : (stl p s1).1 = s' := hT9.e1.trans (by rw [stl_none HRl.out])
    have f2 : o0 ++ (stl p s1).2 = out := hT9.e2.trans (by rw [stl_none HRl.out, List.append_nil])
    dsimp only
    rw [f1, f2]
    refine ⟨b1, d1, b2, d2, ua, un, uc, ?_, ?_, ?_, ?_, hR1'.ext, fun k q => HBo.out.1 k (by rw [hT9.ps] at q; exact q), fun k q => HBo.out.2 k (by rw [hT9.vs] at q; exact q)⟩
    ·rw [hT9.ps, hT9.vs]
     rfl
    ·rw [hT9.ps]
     exact own_keep hT9.o1 (fun k q => hK1'.1 k (hT9.b1 k q).2.2)
    ·rw [hT9.vs]
     exact own_keep hT9.o2 (fun k q => hK1'.1 k (hT9.b2 k q).2.2)
    ·exact own_base (own_keep hT9.ou (fun k q => hK1'.1 k (fun z => by have := (hT9.ou.lt k q).1; have := hT9.bg.2; omega))) hT9.wB
   | some x =>
    have HRl : Hid (ruleA p s' = some x) := hr
    clear hr
    have k14 := (hT.r2.cell (j := 14) (v := .bool s'.dn) rfl).1
    have kl := (hT.r2.cell (j := 0) rfl).2
    rw [Hdn.out] at k14
    go_upto_region 22 with fail
    clear k14 kl
    refine wp_region_lit ?_
    refine wl_ld34 rfl rfl rfl hT.r2.b0 rfl ?_
    try simp only [sx]
    refine wpList_plain rfl fun K hK => ?_
    go_simp
    refine (HRc.out _ (Ext.refl _)).mono ?_
    rintro e w8 hu8
    unfold RuP at hu8
    rw [HRl.out] at hu8
    obtain ⟨sa, sn, sc, rfl, ho8, HX8⟩ := hu8
    have hT8 := hT.ext HX8
    dsimp only
    refine hK _ _ ?_
    clear hK K
    try simp only [sx]
    refine wpList_plain rfl fun K hK => ?_
    go_simp
    refine hK _ _ ?_
    clear hK K
    try simp only [sx]
    refine wpList_plain rfl fun K hK => ?_
    go_simp
    refine hK _ _ ?_
    clear hK K
    try simp only [sx]
    refine wpList_plain rfl fun K hK => ?_
    go_simp
    refine hK _ _ ?_
    clear hK K
    try simp only [sx]
    refine wpList_plain rfl fun K hK => ?_
    go_simp
    refine hK _ _ ?_
    clear hK K
    try simp only [sx]
    refine wpList_plain rfl fun K hK => ?_
    go_simp
    refine hK _ _ ?_
    clear hK K
    try simp only [sx]
    refine wl_st34n rfl rfl rfl rfl rfl rfl (by kernel_rfl) ?_
    try simp only [sx]
    refine wpList_plain rfl fun K hK => ?_
    go_simp
    refine hK _ _ ?_
    clear hK K
    try simp only [sx]
    refine wpList_plain rfl fun K hK => ?_
    go_simp
    refine hK _ _ ?_
    clear hK K
    try simp only [sx]
    go_upto_region 24 with fail
    refine wp_region_lit ?_
    refine wl_ld34 rfl rfl rfl (heap_alloc_new _ _) rfl ?_
    try simp only [sx]
    refine wl_st34a rfl rfl rfl rfl (hT8.r2.further ((Ext.refl _).alloc _)) rfl rfl (by kernel_rfl) ?_
    intro W' hR' hB' hK'
    try simp only [sx]
    have hT9 := hT8.ext ((Ext.refl w8).alloc (.cells #[.int .i64 p.me, .int .i64 p.ht, .string p.own, .int .i64 x.1.rd, .int .i64 x.1.st, .string x.1.lk, .int .i64 x.1.lr, .string x.1.vv, .int .i64 x.1.vr, .slice b1 s1.ps.length d1, .int .i64 (p.n : Int), .int .i64 (p.t : Int), .slice b2 s1.vs.length d2, .bool (fiveA x.1), .bool x.1.dn, .string x.1.dc] 34))
    have HO9 : Hid (W'.ownsRow wr.heap.size 39 5 (.slice sa sn sc) x.2.length (wcs x.2)) := own_keep (own_ext ho8 ((Ext.refl w8).alloc (.cells #[.int .i64 p.me, .int .i64 p.ht, .string p.own, .int .i64 x.1.rd, .int .i64 x.1.st, .string x.1.lk, .int .i64 x.1.lr, .string x.1.vv, .int .i64 x.1.vr, .slice b1 s1.ps.length d1, .int .i64 (p.n : Int), .int .i64 (p.t : Int), .slice b2 s1.vs.length d2, .bool (fiveA x.1), .bool x.1.dn, .string x.1.dc] 34))) (fun k q => hK'.1 k (fun z => by have := (ho8.lt k q).1; have := (Array.getElem?_eq_some_iff.1 hT.r2.b0).1; omega))
    have HLx : Hid (x.2.length ≤ 1) := rule_lenR HRl.out
    have HOu : Hid (W'.ownsRow B 39 5 (.slice ua un uc) out.length (wcs out)) := own_keep hT9.ou (fun k q => hK'.1 k (fun z => by have := (hT9.ou.lt k q).1; have := hT9.bg.1; omega))
    have HBs : Hid (B ≤ W'.heap.size) := by show B ≤ W'.heap.size; rw [hK'.2]; exact hT9.bs
    have HSt : Hid (∀ u' W'', W''.ownsRow B 39 5 u' (out.length + x.2.length) (wcs out ++ wcs x.2) → W'.grownBy W'' (Value.slice ua un uc).ownBlock → TL w w.heap.size (w.heap.size + 1 + 1) B p s1 o0 b1 d1 b2 d2 (kk + 1) x.1 (out ++ x.2) u' W'') := fun u' W'' q1 q2 => hT9.set Hdn.out HRl.out hR' hK' q1 q2
    have HLo : Hid (out.length ≤ 1000) := Nat.le_trans (Nat.le_add_right _ _) hT.len
    have Hm : Hid (1000 - (intOf (.int .i64 ((kk : Int) + 1))).toNat < 1000 - (intOf (.int .i64 (kk : Int))).toNat) := lp_meas hkk
    clear hT8 hT9 hT ho8 hR' hB' hK'
    go_upto_region 25 with fail
    refine wp_region_lit ?_
    refine wpList_plain rfl fun K hK => ?_
    go_simp
    refine hK _ _ ?_
    clear hK K
    try simp only [sx]
    refine wpList_plain rfl fun K hK => ?_
    go_simp
    refine hK _ _ ?_
    clear hK K
    try simp only [sx]
    refine wpList_plain rfl fun K hK => ?_
    refine app22 W' (.tmp 118) (.tmp 119) rfl B (.slice ua un uc) out.length (wcs out) rfl HOu.out (.slice sa sn sc) x.2.length (wcs x.2) rfl (own_slv HO9.out) (wcs_len _) (wcs_one _) (by have := HLo.out; have := HLx.out; omega) HBs.out ?_
    intro u' W'' z1 z2 _
    obtain ⟨a', c', rfl⟩ := own_len z1
    have HTn : Hid _ := HSt.out _ _ z1 z2
    refine hK _ _ ?_
    clear hK K z1 z2 HSt HOu HO9
    try simp only [sx]
    go_wp2_with fail
    go_roundw
    case rel => exact ⟨kk + 1, x.1, out ++ x.2, _, _, _, by push_cast; rfl, rfl, HTn⟩
    case measure => exact Hm.out
end Go.Proofs.Ytmanacbdldfmfaa
