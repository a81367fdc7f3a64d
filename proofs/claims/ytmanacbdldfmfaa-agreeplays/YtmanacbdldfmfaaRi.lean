/-
 The document's part: Take of a proposal; Take, called.
-/
import Derived.Test.YtmanacbdldfmfaaRg
namespace Go.Proofs.Ytmanacbdldfmfaa
open Go.RowKit
set_option maxRecDepth 10000
set_option maxHeartbeats 8000000 in
theorem rtake_pn (p : Pm) (s : Ag) (m : Vt) (hp : okP p) (hi : InvA p s) (a1 : Option Addr) (c1 : Nat) (a2 : Option Addr) (c2 : Nat) (hn : s.ps.length + s.vs.length ≤ 500) (w : World) (hO1 : w.ownsRow 0 39 5 (.slice a1 s.ps.length c1) s.ps.length (wcs s.ps)) (hO2 : w.ownsRow 0 39 5 (.slice a2 s.vs.length c2) s.vs.length (wcs s.vs)) (h0 : 0 ≤ s.rd) (hd : s.dn = false) (h1 : m.kd = 1) (hw : wOk m = true) (hq : ∃ y, propA s.ps m.rd = some y) :
  Calls Try.prog 18 #[av p s a1 s.ps.length c1 a2 s.vs.length c2, wv m] w fun e w' => RTk p (takeA p s m).1 (takeA p s m).2 (.slice a1 s.ps.length c1) (.slice a2 s.vs.length c2) w e w' := by
 have D0 : Hid (decide (s.rd < 0) = false) := decide_eq_false (by omega)
 have DN : Hid (s.dn = false) := hd
 have HCk : Hid (∀ wx, Calls Try.prog 22 #[.agg #[.int .i64 m.kd, .int .i64 m.fr, .int .i64 m.rd, .int .i64 m.va, .string m.vl]] wx fun e w' => e = .returned (.int .i64 0) ∧ Ext wx w') := fun wx => by
  have := rchkW_any m.kd m.fr m.rd m.va m.vl wx
  rw [show wrdOk m.kd m.fr m.rd m.va m.vl = true from hw] at this
  exact this
 have e4 : (m.kd == 4) = false := by rw [h1]; rfl
 have e1 : (m.kd == 1) = true := by simpa using h1
 have HP : Hid (∀ wx, Ext w wx → Calls Try.prog 34 #[av p s a1 s.ps.length c1 a2 s.vs.length c2, .int .i64 m.rd] wx fun e w' => PropP s.ps m.rd wx e w') := fun wx hx => rprop_any p s a1 _ c1 a2 _ c2 m.rd rfl (by omega) wx ((own_ws hO1).ext hx)
 obtain ⟨y, hy⟩ := hq
 have HQ1 : Hid (propA s.ps m.rd = some y) := hy
 have HN : Hid (takeA p s m = (s, [])) := by
  show takeA p s m = _
  rw [take_eq h0 hd]
  unfold countA
  rw [if_neg (by omega), if_neg (by rw [hw]; decide), if_pos h1, if_neg (by rw [hy]; rintro ⟨q, _⟩; cases q)]
 have HT0 : Hid (R2 w w.heap.size #[.int .i64 p.me, .int .i64 p.ht, .string p.own, .int .i64 s.rd, .int .i64 s.st, .string s.lk, .int .i64 s.lr, .string s.vv, .int .i64 s.vr, .slice a1 s.ps.length c1, .int .i64 (p.n : Int), .int .i64 (p.t : Int), .slice a2 s.vs.length c2, .bool (fiveA s), .bool s.dn, .string s.dc] (w.heap.size + 1 + 1) (((w.alloc (.cells #[.int .i64 p.me, .int .i64 p.ht, .string p.own, .int .i64 s.rd, .int .i64 s.st, .string s.lk, .int .i64 s.lr, .string s.vv, .int .i64 s.vr, .slice a1 s.ps.length c1, .int .i64 (p.n : Int), .int .i64 (p.t : Int), .slice a2 s.vs.length c2, .bool (fiveA s), .bool s.dn, .string s.dc] 34)).alloc (.cells #[.int .i64 m.kd, .int .i64 m.fr, .int .i64 m.rd, .int .i64 m.va, .string m.vl] 39)).alloc (.cells #[.int .i64 0, .int .i64 0, .string ⟨#[]⟩, .int .i64 0, .int .i64 0, .string ⟨#[]⟩, .int .i64 0, .string ⟨#[]⟩, .int .i64 0, .slice none 0 0, .int .i64 0, .int .i64 0, .slice none 0 0, .bool false, .bool false, .string ⟨#[]⟩] 34)) ∧ Wd (w.heap.size + 1) m.kd m.fr m.rd m.va m.vl (((w.alloc (.cells #[.int .i64 p.me, .int .i64 p.ht, .string p.own, .int .i64 s.rd, .int .i64 s.st, .string s.lk, .int .i64 s.lr, .string s.vv, .int .i64 s.vr, .slice a1 s.ps.length c1, .int .i64 (p.n : Int), .int .i64 (p.t : Int), .slice a2 s.vs.length c2, .bool (fiveA s), .bool s.dn, .string s.dc] 34)).alloc (.cells #[.int .i64 m.kd, .int .i64 m.fr, .int .i64 m.rd, .int .i64 m.va, .string m.vl] 39)).alloc (.cells #[.int .i64 0, .int .i64 0, .string ⟨#[]⟩, .int .i64 0, .int .i64 0, .string ⟨#[]⟩, .int .i64 0, .string ⟨#[]⟩, .int .i64 0, .slice none 0 0, .int .i64 0, .int .i64 0, .slice none 0 0, .bool false, .bool false, .string ⟨#[]⟩] 34)) ∧ (((w.alloc (.cells #[.int .i64 p.me, .int .i64 p.ht, .string p.own, .int .i64 s.rd, .int .i64 s.st, .string s.lk, .int .i64 s.lr, .string s.vv, .int .i64 s.vr, .slice a1 s.ps.length c1, .int .i64 (p.n : Int), .int .i64 (p.t : Int), .slice a2 s.vs.length c2, .bool (fiveA s), .bool s.dn, .string s.dc] 34)).alloc (.cells #[.int .i64 m.kd, .int .i64 m.fr, .int .i64 m.rd, .int .i64 m.va, .string m.vl] 39)).alloc (.cells #[.int .i64 0, .int .i64 0, .string ⟨#[]⟩, .int .i64 0, .int .i64 0, .string ⟨#[]⟩, .int .i64 0, .string ⟨#[]⟩, .int .i64 0, .slice none 0 0, .int .i64 0, .int .i64 0, .slice none 0 0, .bool false, .bool false, .string ⟨#[]⟩] 34)).heap.size = w.heap.size + 3) := take_new w _ _ rfl m
 have HO1 : Hid (w.ownsRow 0 39 5 (.slice a1 s.ps.length c1) s.ps.length (wcs s.ps)) := hO1
 have HO2 : Hid (w.ownsRow 0 39 5 (.slice a2 s.vs.length c2) s.vs.length (wcs s.vs)) := hO2
 have Hp : Hid (okP p) := hp
 have Hi : Hid (InvA p s) := hi
 have Hn : Hid (s.ps.length + s.vs.length ≤ 500) := hn
 clear h0 hd h1 hw hy
 clear hO1 hO2 hp hi hn
 go_enter Try.func18, Try.ntmps18
 go_upto_region 1 with fail
 obtain ⟨W, hW⟩ : ∃ W, (((w.alloc (.cells #[.int .i64 p.me, .int .i64 p.ht, .string p.own, .int .i64 s.rd, .int .i64 s.st, .string s.lk, .int .i64 s.lr, .string s.vv, .int .i64 s.vr, .slice a1 s.ps.length c1, .int .i64 (p.n : Int), .int .i64 (p.t : Int), .slice a2 s.vs.length c2, .bool (fiveA s), .bool s.dn, .string s.dc] 34)).alloc (.cells #[.int .i64 m.kd, .int .i64 m.fr, .int .i64 m.rd, .int .i64 m.va, .string m.vl] 39)).alloc (.cells #[.int .i64 0, .int .i64 0, .string ⟨#[]⟩, .int .i64 0, .int .i64 0, .string ⟨#[]⟩, .int .i64 0, .string ⟨#[]⟩, .int .i64 0, .slice none 0 0, .int .i64 0, .int .i64 0, .slice none 0 0, .bool false, .bool false, .string ⟨#[]⟩] 34)) = W := ⟨_, rfl⟩
 rw [hW] at HT0 ⊢
 clear hW
 obtain ⟨hR0, hW0, hsz0⟩ := HT0.out
 have Hsz : Hid (W.heap.size = w.heap.size + 3) := hsz0
 clear HT0 hsz0
 have d1 := D0.out
 have k3 := (hR0.cell (j := 3) rfl).1
 have k14 := (hR0.cell (j := 14) (v := .bool s.dn) rfl).1
 have kl := (hR0.cell (j := 0) rfl).2
 rw [DN.out] at k14
 have x0 := hW0.1
 have x1 := hW0.2.1
 have x2 := hW0.2.2.1
 have x3 := hW0.2.2.2.1
 have x4 := hW0.2.2.2.2.1
 have xl := hW0.2.2.2.2.2
 go_wp2_with fail
 refine (HCk.out _).mono ?_
 rintro e w1 ⟨rfl, HX⟩
 have hR1 := hR0.further HX
 have hW1 := hW0.ext HX
 have HSz1 : Hid (w.heap.size + 3 ≤ w1.heap.size) := by show _ ≤ _; have := HX.size; rw [Hsz.out] at this; exact this
 clear d1 k3 k14 kl x0 x1 x2 x3 x4 xl
 clear HX hR0 hW0
 have x0 := hW1.1
 have x1 := hW1.2.1
 have x2 := hW1.2.2.1
 have x3 := hW1.2.2.2.1
 have x4 := hW1.2.2.2.2.1
 have xl := hW1.2.2.2.2.2
 go_upto_region 15 with fail
 clear x0 x1 x3 x4
 refine wp_region_lit ?_
 refine wl_ld34 rfl rfl rfl hR1.b0 rfl ?_
 try simp only [sx]
 refine wpList_plain rfl fun K hK => ?_
 go_simp
 refine hK _ _ ?_
 clear hK K
 try simp only [sx]
 refine wpList_plain rfl fun K hK => ?_
 go_simp
 refine hK _ _ ?_
 clear hK K
 try simp only [sx]
 refine wpList_plain rfl fun K hK => ?_
 go_simp
 refine (HP.out _ hR1.ext).mono ?_
 rintro e w2 hp1
 unfold PropP at hp1
 rw [HQ1.out] at hp1
 obtain ⟨rfl, HX2⟩ := hp1
 have hR2 := hR1.further HX2
 have hW2 := hW1.ext HX2
 have HSz2 : Hid (w.heap.size + 3 ≤ w2.heap.size) := Nat.le_trans HSz1.out HX2.size
 clear HX2
 dsimp only
 refine hK _ _ ?_
 clear hK K
 try simp only [sx]
 refine wpList_plain rfl fun K hK => ?_
 go_simp
 refine hK _ _ ?_
 clear hK K
 try simp only [sx]
 refine wpList_plain rfl fun K hK => ?_
 go_simp
 refine hK _ _ ?_
 clear hK K
 try simp only [sx]
 refine wpList_plain rfl fun K hK => ?_
 go_simp
 refine hK _ _ ?_
 clear hK K
 try simp only [sx]
 refine wpList_plain rfl fun K hK => ?_
 go_simp
 refine hK _ _ ?_
 clear hK K
 try simp only [sx]
 refine wpList_plain rfl fun K hK => ?_
 go_simp
 refine hK _ _ ?_
 clear hK K
 try simp only [sx]
 refine wpList_plain rfl fun K hK => ?_
 go_simp
 refine hK _ _ ?_
 clear hK K
 try simp only [sx]
 clear x2 xl hR1 hW1
 have hR3 := hR2.further ((Ext.refl w2).alloc (.cells #[.int .i64 y.kd, .int .i64 y.fr, .int .i64 y.rd, .int .i64 y.va, .string y.vl] 39))
 have hW3 := hW2.ext ((Ext.refl w2).alloc (.cells #[.int .i64 y.kd, .int .i64 y.fr, .int .i64 y.rd, .int .i64 y.va, .string y.vl] 39))
 have HSz3 : Hid (w.heap.size + 3 ≤ (w2.alloc (.cells #[.int .i64 y.kd, .int .i64 y.fr, .int .i64 y.rd, .int .i64 y.va, .string y.vl] 39)).heap.size) := Nat.le_trans HSz2.out ((Ext.refl w2).alloc (.cells #[.int .i64 y.kd, .int .i64 y.fr, .int .i64 y.rd, .int .i64 y.va, .string y.vl] 39)).size
 obtain ⟨W5, hW5⟩ : ∃ X, w2.alloc (.cells #[.int .i64 y.kd, .int .i64 y.fr, .int .i64 y.rd, .int .i64 y.va, .string y.vl] 39) = X := ⟨_, rfl⟩
 rw [hW5] at hR3 hW3 HSz3 ⊢
 clear hW5 hR2 hW2
 generalize w2.heap.size = gp at *
 go_wp2_with fail
 go_quiet (fail)
 go_upto_region 17 with fail
 have hR4 := hR3.further ((Ext.refl W5).drewN nq)
 refine wp_region_lit ?_
 refine wl_ld34 rfl rfl rfl hR4.b0 rfl ?_
 try simp only [sx]
 refine wl_st34 rfl rfl rfl rfl hR4 rfl (by kernel_rfl) ?_
 intro W1' hR1' hG1' hB1' hK1'
 try simp only [sx]
 refine wpList_plain rfl fun K hK => ?_
 go_simp
 refine hK _ _ ?_
 clear hK K
 try simp only [sx]
 go_wp2_with fail
 rw [HN.out]
 refine bodyPost_ret (ret_two Try.results18 _ _ (w.heap.size + 1 + 1) 34 #[.int .i64 p.me, .int .i64 p.ht, .string p.own, .int .i64 s.rd, .int .i64 s.st, .string s.lk, .int .i64 s.lr, .string s.vv, .int .i64 s.vr, .slice a1 s.ps.length c1, .int .i64 (p.n : Int), .int .i64 (p.t : Int), .slice a2 s.vs.length c2, .bool (fiveA s), .bool s.dn, .string s.dc] (0, 0) rfl hG1' rfl) rfl ⟨a1, c1, a2, c2, _, _, _, rfl, own_ext HO1.out hR1'.ext, own_ext HO2.out hR1'.ext, World.ownsRow_nil _ _ _ _, hR1'.ext, fun k q => .inl q, fun k q => .inl q⟩
set_option maxHeartbeats 8000000 in
theorem rtake_pl (p : Pm) (s : Ag) (m : Vt) (hp : okP p) (hi : InvA p s) (a1 : Option Addr) (c1 : Nat) (a2 : Option Addr) (c2 : Nat) (hn : s.ps.length + s.vs.length ≤ 500) (w : World) (hO1 : w.ownsRow 0 39 5 (.slice a1 s.ps.length c1) s.ps.length (wcs s.ps)) (hO2 : w.ownsRow 0 39 5 (.slice a2 s.vs.length c2) s.vs.length (wcs s.vs)) (h0 : 0 ≤ s.rd) (hd : s.dn = false) (h1 : m.kd = 1) (hw : wOk m = true) (hq : propA s.ps m.rd = none) (hle : ¬ m.fr = leadA p.n p.ht m.rd) :
  Calls Try.prog 18 #[av p s a1 s.ps.length c1 a2 s.vs.length c2, wv m] w fun e w' => RTk p (takeA p s m).1 (takeA p s m).2 (.slice a1 s.ps.length c1) (.slice a2 s.vs.length c2) w e w' := by
 have D0 : Hid (decide (s.rd < 0) = false) := decide_eq_false (by omega)
 have DN : Hid (s.dn = false) := hd
 have HCk : Hid (∀ wx, Calls Try.prog 22 #[.agg #[.int .i64 m.kd, .int .i64 m.fr, .int .i64 m.rd, .int .i64 m.va, .string m.vl]] wx fun e w' => e = .returned (.int .i64 0) ∧ Ext wx w') := fun wx => by
  have := rchkW_any m.kd m.fr m.rd m.va m.vl wx
  rw [show wrdOk m.kd m.fr m.rd m.va m.vl = true from hw] at this
  exact this
 have e4 : (m.kd == 4) = false := by rw [h1]; rfl
 have e1 : (m.kd == 1) = true := by simpa using h1
 have HP : Hid (∀ wx, Ext w wx → Calls Try.prog 34 #[av p s a1 s.ps.length c1 a2 s.vs.length c2, .int .i64 m.rd] wx fun e w' => PropP s.ps m.rd wx e w') := fun wx hx => rprop_any p s a1 _ c1 a2 _ c2 m.rd rfl (by omega) wx ((own_ws hO1).ext hx)
 have HQ1 : Hid (propA s.ps m.rd = none) := hq
 have ql : (m.fr != leadA p.n p.ht m.rd) = true := by simpa using hle
 have HN : Hid (takeA p s m = (s, [])) := by
  show takeA p s m = _
  rw [take_eq h0 hd]
  unfold countA
  rw [if_neg (by omega), if_neg (by rw [hw]; decide), if_pos h1, if_neg (fun q => hle q.2)]
 have HT0 : Hid (R2 w w.heap.size #[.int .i64 p.me, .int .i64 p.ht, .string p.own, .int .i64 s.rd, .int .i64 s.st, .string s.lk, .int .i64 s.lr, .string s.vv, .int .i64 s.vr, .slice a1 s.ps.length c1, .int .i64 (p.n : Int), .int .i64 (p.t : Int), .slice a2 s.vs.length c2, .bool (fiveA s), .bool s.dn, .string s.dc] (w.heap.size + 1 + 1) (((w.alloc (.cells #[.int .i64 p.me, .int .i64 p.ht, .string p.own, .int .i64 s.rd, .int .i64 s.st, .string s.lk, .int .i64 s.lr, .string s.vv, .int .i64 s.vr, .slice a1 s.ps.length c1, .int .i64 (p.n : Int), .int .i64 (p.t : Int), .slice a2 s.vs.length c2, .bool (fiveA s), .bool s.dn, .string s.dc] 34)).alloc (.cells #[.int .i64 m.kd, .int .i64 m.fr, .int .i64 m.rd, .int .i64 m.va, .string m.vl] 39)).alloc (.cells #[.int .i64 0, .int .i64 0, .string ⟨#[]⟩, .int .i64 0, .int .i64 0, .string ⟨#[]⟩, .int .i64 0, .string ⟨#[]⟩, .int .i64 0, .slice none 0 0, .int .i64 0, .int .i64 0, .slice none 0 0, .bool false, .bool false, .string ⟨#[]⟩] 34)) ∧ Wd (w.heap.size + 1) m.kd m.fr m.rd m.va m.vl (((w.alloc (.cells #[.int .i64 p.me, .int .i64 p.ht, .string p.own, .int .i64 s.rd, .int .i64 s.st, .string s.lk, .int .i64 s.lr, .string s.vv, .int .i64 s.vr, .slice a1 s.ps.length c1, .int .i64 (p.n : Int), .int .i64 (p.t : Int), .slice a2 s.vs.length c2, .bool (fiveA s), .bool s.dn, .string s.dc] 34)).alloc (.cells #[.int .i64 m.kd, .int .i64 m.fr, .int .i64 m.rd, .int .i64 m.va, .string m.vl] 39)).alloc (.cells #[.int .i64 0, .int .i64 0, .string ⟨#[]⟩, .int .i64 0, .int .i64 0, .string ⟨#[]⟩, .int .i64 0, .string ⟨#[]⟩, .int .i64 0, .slice none 0 0, .int .i64 0, .int .i64 0, .slice none 0 0, .bool false, .bool false, .string ⟨#[]⟩] 34)) ∧ (((w.alloc (.cells #[.int .i64 p.me, .int .i64 p.ht, .string p.own, .int .i64 s.rd, .int .i64 s.st, .string s.lk, .int .i64 s.lr, .string s.vv, .int .i64 s.vr, .slice a1 s.ps.length c1, .int .i64 (p.n : Int), .int .i64 (p.t : Int), .slice a2 s.vs.length c2, .bool (fiveA s), .bool s.dn, .string s.dc] 34)).alloc (.cells #[.int .i64 m.kd, .int .i64 m.fr, .int .i64 m.rd, .int .i64 m.va, .string m.vl] 39)).alloc (.cells #[.int .i64 0, .int .i64 0, .string ⟨#[]⟩, .int .i64 0, .int .i64 0, .string ⟨#[]⟩, .int .i64 0, .string ⟨#[]⟩, .int .i64 0, .slice none 0 0, .int .i64 0, .int .i64 0, .slice none 0 0, .bool false, .bool false, .string ⟨#[]⟩] 34)).heap.size = w.heap.size + 3) := take_new w _ _ rfl m
 have HO1 : Hid (w.ownsRow 0 39 5 (.slice a1 s.ps.length c1) s.ps.length (wcs s.ps)) := hO1
 have HO2 : Hid (w.ownsRow 0 39 5 (.slice a2 s.vs.length c2) s.vs.length (wcs s.vs)) := hO2
 have Hp : Hid (okP p) := hp
 have Hi : Hid (InvA p s) := hi
 have Hn : Hid (s.ps.length + s.vs.length ≤ 500) := hn
 clear h0 hd h1 hw hq hle
 clear hO1 hO2 hp hi hn
 go_enter Try.func18, Try.ntmps18
 go_upto_region 1 with fail
 obtain ⟨W, hW⟩ : ∃ W, (((w.alloc (.cells #[.int .i64 p.me, .int .i64 p.ht, .string p.own, .int .i64 s.rd, .int .i64 s.st, .string s.lk, .int .i64 s.lr, .string s.vv, .int .i64 s.vr, .slice a1 s.ps.length c1, .int .i64 (p.n : Int), .int .i64 (p.t : Int), .slice a2 s.vs.length c2, .bool (fiveA s), .bool s.dn, .string s.dc] 34)).alloc (.cells #[.int .i64 m.kd, .int .i64 m.fr, .int .i64 m.rd, .int .i64 m.va, .string m.vl] 39)).alloc (.cells #[.int .i64 0, .int .i64 0, .string ⟨#[]⟩, .int .i64 0, .int .i64 0, .string ⟨#[]⟩, .int .i64 0, .string ⟨#[]⟩, .int .i64 0, .slice none 0 0, .int .i64 0, .int .i64 0, .slice none 0 0, .bool false, .bool false, .string ⟨#[]⟩] 34)) = W := ⟨_, rfl⟩
 rw [hW] at HT0 ⊢
 clear hW
 obtain ⟨hR0, hW0, hsz0⟩ := HT0.out
 have Hsz : Hid (W.heap.size = w.heap.size + 3) := hsz0
 clear HT0 hsz0
 have d1 := D0.out
 have k3 := (hR0.cell (j := 3) rfl).1
 have k14 := (hR0.cell (j := 14) (v := .bool s.dn) rfl).1
 have kl := (hR0.cell (j := 0) rfl).2
 rw [DN.out] at k14
 have x0 := hW0.1
 have x1 := hW0.2.1
 have x2 := hW0.2.2.1
 have x3 := hW0.2.2.2.1
 have x4 := hW0.2.2.2.2.1
 have xl := hW0.2.2.2.2.2
 go_wp2_with fail
 refine (HCk.out _).mono ?_
 rintro e w1 ⟨rfl, HX⟩
 have hR1 := hR0.further HX
 have hW1 := hW0.ext HX
 have HSz1 : Hid (w.heap.size + 3 ≤ w1.heap.size) := by show _ ≤ _; have := HX.size; rw [Hsz.out] at this; exact this
 clear d1 k3 k14 kl x0 x1 x2 x3 x4 xl
 clear HX hR0 hW0
 have x0 := hW1.1
 have x1 := hW1.2.1
 have x2 := hW1.2.2.1
 have x3 := hW1.2.2.2.1
 have x4 := hW1.2.2.2.2.1
 have xl := hW1.2.2.2.2.2
 go_upto_region 15 with fail
 clear x0 x1 x3 x4
 refine wp_region_lit ?_
 refine wl_ld34 rfl rfl rfl hR1.b0 rfl ?_
 try simp only [sx]
 refine wpList_plain rfl fun K hK => ?_
 go_simp
 refine hK _ _ ?_
 clear hK K
 try simp only [sx]
 refine wpList_plain rfl fun K hK => ?_
 go_simp
 refine hK _ _ ?_
 clear hK K
 try simp only [sx]
 refine wpList_plain rfl fun K hK => ?_
 go_simp
 refine (HP.out _ hR1.ext).mono ?_
 rintro e w2 hp1
 unfold PropP at hp1
 rw [HQ1.out] at hp1
 obtain ⟨rfl, HX2⟩ := hp1
 have hR2 := hR1.further HX2
 have hW2 := hW1.ext HX2
 have HSz2 : Hid (w.heap.size + 3 ≤ w2.heap.size) := Nat.le_trans HSz1.out HX2.size
 clear HX2
 dsimp only
 refine hK _ _ ?_
 clear hK K
 try simp only [sx]
 refine wpList_plain rfl fun K hK => ?_
 go_simp
 refine hK _ _ ?_
 clear hK K
 try simp only [sx]
 refine wpList_plain rfl fun K hK => ?_
 go_simp
 refine hK _ _ ?_
 clear hK K
 try simp only [sx]
 refine wpList_plain rfl fun K hK => ?_
 go_simp
 refine hK _ _ ?_
 clear hK K
 try simp only [sx]
 refine wpList_plain rfl fun K hK => ?_
 go_simp
 refine hK _ _ ?_
 clear hK K
 try simp only [sx]
 refine wpList_plain rfl fun K hK => ?_
 go_simp
 refine hK _ _ ?_
 clear hK K
 try simp only [sx]
 refine wpList_plain rfl fun K hK => ?_
 go_simp
 refine hK _ _ ?_
 clear hK K
 try simp only [sx]
 clear x2 xl hR1 hW1
 have hR3 := hR2.further ((Ext.refl w2).alloc (.cells #[.int .i64 0, .int .i64 0, .int .i64 0, .int .i64 0, .string ⟨#[]⟩] 39))
 have hW3 := hW2.ext ((Ext.refl w2).alloc (.cells #[.int .i64 0, .int .i64 0, .int .i64 0, .int .i64 0, .string ⟨#[]⟩] 39))
 have HSz3 : Hid (w.heap.size + 3 ≤ (w2.alloc (.cells #[.int .i64 0, .int .i64 0, .int .i64 0, .int .i64 0, .string ⟨#[]⟩] 39)).heap.size) := Nat.le_trans HSz2.out ((Ext.refl w2).alloc (.cells #[.int .i64 0, .int .i64 0, .int .i64 0, .int .i64 0, .string ⟨#[]⟩] 39)).size
 obtain ⟨W5, hW5⟩ : ∃ X, w2.alloc (.cells #[.int .i64 0, .int .i64 0, .int .i64 0, .int .i64 0, .string ⟨#[]⟩] 39) = X := ⟨_, rfl⟩
 rw [hW5] at hR3 hW3 HSz3 ⊢
 clear hW5 hR2 hW2
 generalize w2.heap.size = gp at *
 have HC : Hid (∀ wx, Ext W5 wx → R2 w w.heap.size #[.int .i64 p.me, .int .i64 p.ht, .string p.own, .int .i64 s.rd, .int .i64 s.st, .string s.lk, .int .i64 s.lr, .string s.vv, .int .i64 s.vr, .slice a1 s.ps.length c1, .int .i64 (p.n : Int), .int .i64 (p.t : Int), .slice a2 s.vs.length c2, .bool (fiveA s), .bool s.dn, .string s.dc] (w.heap.size + 1 + 1) wx ∧ Wd (w.heap.size + 1) m.kd m.fr m.rd m.va m.vl wx) := fun wx hx => ⟨hR3.further hx, hW3.ext hx⟩
 go_wp2_with fail
 refine wp_region_noPanic ?_
 refine wp_region_held (S := Ext W5) (by kernel_rfl) ?_
 rw [show ({ W5 with drawn := W5.drawn + 1 } : World) = W5.drew from rfl]
 have HS : Ext W5 W5.drew := (Ext.refl W5).drew
 refine takeH (i := 0) (v := ?vq0) ?hyq0 HS ?restq0
 case hyq0 => (intro wx hSx; obtain ⟨hr, x0, x1, x2, x3, x4, xl⟩ := HC.out _ hSx; have e1c := (hr.cell (j := 1) rfl).1; have e10 := (hr.cell (j := 10) rfl).1; have el := (hr.cell (j := 1) rfl).2; clear hr; go_simp; try with_reducible rfl)
 try simp only [sx]
 refine takeH (i := 1) (v := ?vq1) ?hyq1 HS ?restq1
 case hyq1 => (intro wx hSx; obtain ⟨hr, x0, x1, x2, x3, x4, xl⟩ := HC.out _ hSx; have e1c := (hr.cell (j := 1) rfl).1; have e10 := (hr.cell (j := 10) rfl).1; have el := (hr.cell (j := 1) rfl).2; clear hr; go_simp; try with_reducible rfl)
 try simp only [sx]
 refine takeH (i := 2) (v := ?vq2) ?hyq2 HS ?restq2
 case hyq2 => (intro wx hSx; obtain ⟨hr, x0, x1, x2, x3, x4, xl⟩ := HC.out _ hSx; have e1c := (hr.cell (j := 1) rfl).1; have e10 := (hr.cell (j := 10) rfl).1; have el := (hr.cell (j := 1) rfl).2; clear hr; go_simp; try with_reducible rfl)
 try simp only [sx]
 refine takeH (i := 3) (v := ?vq3) ?hyq3 HS ?restq3
 case hyq3 => (intro wx hSx; obtain ⟨hr, x0, x1, x2, x3, x4, xl⟩ := HC.out _ hSx; have e1c := (hr.cell (j := 1) rfl).1; have e10 := (hr.cell (j := 10) rfl).1; have el := (hr.cell (j := 1) rfl).2; clear hr; go_simp; try with_reducible rfl)
 try simp only [sx]
 refine takeH (i := 4) (v := ?vq4) ?hyq4 HS ?restq4
 case hyq4 => (intro wx hSx; obtain ⟨hr, x0, x1, x2, x3, x4, xl⟩ := HC.out _ hSx; have e1c := (hr.cell (j := 1) rfl).1; have e10 := (hr.cell (j := 10) rfl).1; have el := (hr.cell (j := 1) rfl).2; clear hr; go_simp; try with_reducible rfl)
 try simp only [sx]
 refine takeH (i := 5) (v := ?vq5) ?hyq5 HS ?restq5
 case hyq5 => (intro wx hSx; obtain ⟨hr, x0, x1, x2, x3, x4, xl⟩ := HC.out _ hSx; have e1c := (hr.cell (j := 1) rfl).1; have e10 := (hr.cell (j := 10) rfl).1; have el := (hr.cell (j := 1) rfl).2; clear hr; go_simp; try with_reducible rfl)
 try simp only [sx]
 refine takeH (i := 6) (v := ?vq6) ?hyq6 HS ?restq6
 case hyq6 => (intro wx hSx; obtain ⟨hr, x0, x1, x2, x3, x4, xl⟩ := HC.out _ hSx; have e1c := (hr.cell (j := 1) rfl).1; have e10 := (hr.cell (j := 10) rfl).1; have el := (hr.cell (j := 1) rfl).2; clear hr; go_simp; try with_reducible rfl)
 try simp only [sx]
 refine takeH (i := 7) (v := ?vq7) ?hyq7 HS ?restq7
 case hyq7 => (intro wx hSx; obtain ⟨hr, x0, x1, x2, x3, x4, xl⟩ := HC.out _ hSx; have e1c := (hr.cell (j := 1) rfl).1; have e10 := (hr.cell (j := 10) rfl).1; have el := (hr.cell (j := 1) rfl).2; clear hr; go_simp; try with_reducible rfl)
 try simp only [sx]
 refine takeH (i := 8) (v := ?vq8) ?hyq8 HS ?restq8
 case hyq8 => (intro wx hSx; obtain ⟨hr, x0, x1, x2, x3, x4, xl⟩ := HC.out _ hSx; have e1c := (hr.cell (j := 1) rfl).1; have e10 := (hr.cell (j := 10) rfl).1; have el := (hr.cell (j := 1) rfl).2; clear hr; go_simp; try with_reducible rfl)
 try simp only [sx]
 refine takeH (i := 9) (v := ?vq9) ?hyq9 HS ?restq9
 case hyq9 => (intro wx hSx; obtain ⟨hr, x0, x1, x2, x3, x4, xl⟩ := HC.out _ hSx; have e1c := (hr.cell (j := 1) rfl).1; have e10 := (hr.cell (j := 10) rfl).1; have el := (hr.cell (j := 1) rfl).2; clear hr; go_simp; try with_reducible rfl)
 try simp only [sx]
 refine takeH (i := 10) (v := ?vq10) ?hyq10 HS ?restq10
 case hyq10 => (intro wx hSx; obtain ⟨hr, x0, x1, x2, x3, x4, xl⟩ := HC.out _ hSx; have e1c := (hr.cell (j := 1) rfl).1; have e10 := (hr.cell (j := 10) rfl).1; have el := (hr.cell (j := 1) rfl).2; clear hr; go_simp; try with_reducible rfl)
 try simp only [sx]
 refine held_one (i := 11) (by kernel_rfl) rfl rfl (fun K hK => ?_)
 go_simp
 refine (rlead_any (p.n : Int) p.ht m.rd _).mono ?_
 rintro e w5 ⟨rfl, ew⟩
 have HSb : Ext W5 w5 := by rw [ew]; exact HS
 clear ew
 try go_simp
 refine hK.out _ _ ⟨HSb, ?_⟩
 clear hK K
 try simp only [sx]
 refine takeH (i := 12) (v := ?vq12) ?hyq12 HSb ?restq12
 case hyq12 => (intro wx hSx; obtain ⟨hr, x0, x1, x2, x3, x4, xl⟩ := HC.out _ hSx; have e1c := (hr.cell (j := 1) rfl).1; have e10 := (hr.cell (j := 10) rfl).1; have el := (hr.cell (j := 1) rfl).2; clear hr; go_simp; try with_reducible rfl)
 try simp only [sx]
 refine takeH (i := 13) (v := ?vq13) ?hyq13 HSb ?restq13
 case hyq13 => (intro wx hSx; obtain ⟨hr, x0, x1, x2, x3, x4, xl⟩ := HC.out _ hSx; have e1c := (hr.cell (j := 1) rfl).1; have e10 := (hr.cell (j := 10) rfl).1; have el := (hr.cell (j := 1) rfl).2; clear hr; go_simp; try with_reducible rfl)
 try simp only [sx]
 refine wpAnyH_done (by kernel_rfl) ?_ _
 refine NoPanic.normal ?_
 have hR4 := hR3.further HSb
 go_upto_region 17 with fail
 refine wp_region_lit ?_
 refine wl_ld34 rfl rfl rfl hR4.b0 rfl ?_
 try simp only [sx]
 refine wl_st34 rfl rfl rfl rfl hR4 rfl (by kernel_rfl) ?_
 intro W1' hR1' hG1' hB1' hK1'
 try simp only [sx]
 refine wpList_plain rfl fun K hK => ?_
 go_simp
 refine hK _ _ ?_
 clear hK K
 try simp only [sx]
 go_wp2_with fail
 rw [HN.out]
 refine bodyPost_ret (ret_two Try.results18 _ _ (w.heap.size + 1 + 1) 34 #[.int .i64 p.me, .int .i64 p.ht, .string p.own, .int .i64 s.rd, .int .i64 s.st, .string s.lk, .int .i64 s.lr, .string s.vv, .int .i64 s.vr, .slice a1 s.ps.length c1, .int .i64 (p.n : Int), .int .i64 (p.t : Int), .slice a2 s.vs.length c2, .bool (fiveA s), .bool s.dn, .string s.dc] (0, 0) rfl hG1' rfl) rfl ⟨a1, c1, a2, c2, _, _, _, rfl, own_ext HO1.out hR1'.ext, own_ext HO2.out hR1'.ext, World.ownsRow_nil _ _ _ _, hR1'.ext, fun k q => .inl q, fun k q => .inl q⟩
set_option maxHeartbeats 8000000 in
theorem rtake_p (p : Pm) (s : Ag) (m : Vt) (hp : okP p) (hi : InvA p s) (a1 : Option Addr) (c1 : Nat) (a2 : Option Addr) (c2 : Nat) (hn : s.ps.length + s.vs.length ≤ 500) (w : World) (hO1 : w.ownsRow 0 39 5 (.slice a1 s.ps.length c1) s.ps.length (wcs s.ps)) (hO2 : w.ownsRow 0 39 5 (.slice a2 s.vs.length c2) s.vs.length (wcs s.vs)) (h0 : 0 ≤ s.rd) (hd : s.dn = false) (h1 : m.kd = 1) (hw : wOk m = true) (hq : propA s.ps m.rd = none) (hle : m.fr = leadA p.n p.ht m.rd) :
  Calls Try.prog 18 #[av p s a1 s.ps.length c1 a2 s.vs.length c2, wv m] w fun e w' => RTk p (takeA p s m).1 (takeA p s m).2 (.slice a1 s.ps.length c1) (.slice a2 s.vs.length c2) w e w' := by
 have D0 : Hid (decide (s.rd < 0) = false) := decide_eq_false (by omega)
 have DN : Hid (s.dn = false) := hd
 have HCk : Hid (∀ wx, Calls Try.prog 22 #[.agg #[.int .i64 m.kd, .int .i64 m.fr, .int .i64 m.rd, .int .i64 m.va, .string m.vl]] wx fun e w' => e = .returned (.int .i64 0) ∧ Ext wx w') := fun wx => by
  have := rchkW_any m.kd m.fr m.rd m.va m.vl wx
  rw [show wrdOk m.kd m.fr m.rd m.va m.vl = true from hw] at this
  exact this
 have e4 : (m.kd == 4) = false := by rw [h1]; rfl
 have e1 : (m.kd == 1) = true := by simpa using h1
 have HP : Hid (∀ wx, Ext w wx → Calls Try.prog 34 #[av p s a1 s.ps.length c1 a2 s.vs.length c2, .int .i64 m.rd] wx fun e w' => PropP s.ps m.rd wx e w') := fun wx hx => rprop_any p s a1 _ c1 a2 _ c2 m.rd rfl (by omega) wx ((own_ws hO1).ext hx)
 have HQ1 : Hid (propA s.ps m.rd = none) := hq
 have ql : (m.fr != leadA p.n p.ht m.rd) = false := by simpa using hle
 have HTk0 : Hid (takeA p s m = ((stl p { s with ps := s.ps ++ [m] }).1, [] ++ (stl p { s with ps := s.ps ++ [m] }).2)) := by
  show takeA p s m = _
  rw [take_eq h0 hd]
  unfold countA
  rw [if_neg (by omega), if_neg (by rw [hw]; decide), if_pos h1, if_pos ⟨hq, hle⟩]
 have HIt : Hid (InvA p { s with ps := s.ps ++ [m] } ∧ 0 ≤ s.rd) := by
  have e : countA p s m = some ({ s with ps := s.ps ++ [m] }, []) := by
   unfold countA
   rw [if_neg (by omega), if_neg (by rw [hw]; decide), if_pos h1, if_pos ⟨hq, hle⟩]
  have := inv_count hi h0 e
  exact ⟨this.1, h0⟩
 have HT0 : Hid (R2 w w.heap.size #[.int .i64 p.me, .int .i64 p.ht, .string p.own, .int .i64 s.rd, .int .i64 s.st, .string s.lk, .int .i64 s.lr, .string s.vv, .int .i64 s.vr, .slice a1 s.ps.length c1, .int .i64 (p.n : Int), .int .i64 (p.t : Int), .slice a2 s.vs.length c2, .bool (fiveA s), .bool s.dn, .string s.dc] (w.heap.size + 1 + 1) (((w.alloc (.cells #[.int .i64 p.me, .int .i64 p.ht, .string p.own, .int .i64 s.rd, .int .i64 s.st, .string s.lk, .int .i64 s.lr, .string s.vv, .int .i64 s.vr, .slice a1 s.ps.length c1, .int .i64 (p.n : Int), .int .i64 (p.t : Int), .slice a2 s.vs.length c2, .bool (fiveA s), .bool s.dn, .string s.dc] 34)).alloc (.cells #[.int .i64 m.kd, .int .i64 m.fr, .int .i64 m.rd, .int .i64 m.va, .string m.vl] 39)).alloc (.cells #[.int .i64 0, .int .i64 0, .string ⟨#[]⟩, .int .i64 0, .int .i64 0, .string ⟨#[]⟩, .int .i64 0, .string ⟨#[]⟩, .int .i64 0, .slice none 0 0, .int .i64 0, .int .i64 0, .slice none 0 0, .bool false, .bool false, .string ⟨#[]⟩] 34)) ∧ Wd (w.heap.size + 1) m.kd m.fr m.rd m.va m.vl (((w.alloc (.cells #[.int .i64 p.me, .int .i64 p.ht, .string p.own, .int .i64 s.rd, .int .i64 s.st, .string s.lk, .int .i64 s.lr, .string s.vv, .int .i64 s.vr, .slice a1 s.ps.length c1, .int .i64 (p.n : Int), .int .i64 (p.t : Int), .slice a2 s.vs.length c2, .bool (fiveA s), .bool s.dn, .string s.dc] 34)).alloc (.cells #[.int .i64 m.kd, .int .i64 m.fr, .int .i64 m.rd, .int .i64 m.va, .string m.vl] 39)).alloc (.cells #[.int .i64 0, .int .i64 0, .string ⟨#[]⟩, .int .i64 0, .int .i64 0, .string ⟨#[]⟩, .int .i64 0, .string ⟨#[]⟩, .int .i64 0, .slice none 0 0, .int .i64 0, .int .i64 0, .slice none 0 0, .bool false, .bool false, .string ⟨#[]⟩] 34)) ∧ (((w.alloc (.cells #[.int .i64 p.me, .int .i64 p.ht, .string p.own, .int .i64 s.rd, .int .i64 s.st, .string s.lk, .int .i64 s.lr, .string s.vv, .int .i64 s.vr, .slice a1 s.ps.length c1, .int .i64 (p.n : Int), .int .i64 (p.t : Int), .slice a2 s.vs.length c2, .bool (fiveA s), .bool s.dn, .string s.dc] 34)).alloc (.cells #[.int .i64 m.kd, .int .i64 m.fr, .int .i64 m.rd, .int .i64 m.va, .string m.vl] 39)).alloc (.cells #[.int .i64 0, .int .i64 0, .string ⟨#[]⟩, .int .i64 0, .int .i64 0, .string ⟨#[]⟩, .int .i64 0, .string ⟨#[]⟩, .int .i64 0, .slice none 0 0, .int .i64 0, .int .i64 0, .slice none 0 0, .bool false, .bool false, .string ⟨#[]⟩] 34)).heap.size = w.heap.size + 3) := take_new w _ _ rfl m
 have HO1 : Hid (w.ownsRow 0 39 5 (.slice a1 s.ps.length c1) s.ps.length (wcs s.ps)) := hO1
 have HO2 : Hid (w.ownsRow 0 39 5 (.slice a2 s.vs.length c2) s.vs.length (wcs s.vs)) := hO2
 have Hp : Hid (okP p) := hp
 have Hi : Hid (InvA p s) := hi
 have Hn : Hid (s.ps.length + s.vs.length ≤ 500) := hn
 clear h0 hd h1 hw hq hle
 clear hO1 hO2 hp hi hn
 go_enter Try.func18, Try.ntmps18
 go_upto_region 1 with fail
 obtain ⟨W, hW⟩ : ∃ W, (((w.alloc (.cells #[.int .i64 p.me, .int .i64 p.ht, .string p.own, .int .i64 s.rd, .int .i64 s.st, .string s.lk, .int .i64 s.lr, .string s.vv, .int .i64 s.vr, .slice a1 s.ps.length c1, .int .i64 (p.n : Int), .int .i64 (p.t : Int), .slice a2 s.vs.length c2, .bool (fiveA s), .bool s.dn, .string s.dc] 34)).alloc (.cells #[.int .i64 m.kd, .int .i64 m.fr, .int .i64 m.rd, .int .i64 m.va, .string m.vl] 39)).alloc (.cells #[.int .i64 0, .int .i64 0, .string ⟨#[]⟩, .int .i64 0, .int .i64 0, .string ⟨#[]⟩, .int .i64 0, .string ⟨#[]⟩, .int .i64 0, .slice none 0 0, .int .i64 0, .int .i64 0, .slice none 0 0, .bool false, .bool false, .string ⟨#[]⟩] 34)) = W := ⟨_, rfl⟩
 rw [hW] at HT0 ⊢
 clear hW
 obtain ⟨hR0, hW0, hsz0⟩ := HT0.out
 have Hsz : Hid (W.heap.size = w.heap.size + 3) := hsz0
 clear HT0 hsz0
 have d1 := D0.out
 have k3 := (hR0.cell (j := 3) rfl).1
 have k14 := (hR0.cell (j := 14) (v := .bool s.dn) rfl).1
 have kl := (hR0.cell (j := 0) rfl).2
 rw [DN.out] at k14
 have x0 := hW0.1
 have x1 := hW0.2.1
 have x2 := hW0.2.2.1
 have x3 := hW0.2.2.2.1
 have x4 := hW0.2.2.2.2.1
 have xl := hW0.2.2.2.2.2
 go_wp2_with fail
 refine (HCk.out _).mono ?_
 rintro e w1 ⟨rfl, HX⟩
 have hR1 := hR0.further HX
 have hW1 := hW0.ext HX
 have HSz1 : Hid (w.heap.size + 3 ≤ w1.heap.size) := by show _ ≤ _; have := HX.size; rw [Hsz.out] at this; exact this
 clear d1 k3 k14 kl x0 x1 x2 x3 x4 xl
 clear HX hR0 hW0
 have x0 := hW1.1
 have x1 := hW1.2.1
 have x2 := hW1.2.2.1
 have x3 := hW1.2.2.2.1
 have x4 := hW1.2.2.2.2.1
 have xl := hW1.2.2.2.2.2
 go_upto_region 15 with fail
 clear x0 x1 x3 x4
 refine wp_region_lit ?_
 refine wl_ld34 rfl rfl rfl hR1.b0 rfl ?_
 try simp only [sx]
 refine wpList_plain rfl fun K hK => ?_
 go_simp
 refine hK _ _ ?_
 clear hK K
 try simp only [sx]
 refine wpList_plain rfl fun K hK => ?_
 go_simp
 refine hK _ _ ?_
 clear hK K
 try simp only [sx]
 refine wpList_plain rfl fun K hK => ?_
 go_simp
 refine (HP.out _ hR1.ext).mono ?_
 rintro e w2 hp1
 unfold PropP at hp1
 rw [HQ1.out] at hp1
 obtain ⟨rfl, HX2⟩ := hp1
 have hR2 := hR1.further HX2
 have hW2 := hW1.ext HX2
 have HSz2 : Hid (w.heap.size + 3 ≤ w2.heap.size) := Nat.le_trans HSz1.out HX2.size
 clear HX2
 dsimp only
 refine hK _ _ ?_
 clear hK K
 try simp only [sx]
 refine wpList_plain rfl fun K hK => ?_
 go_simp
 refine hK _ _ ?_
 clear hK K
 try simp only [sx]
 refine wpList_plain rfl fun K hK => ?_
 go_simp
 refine hK _ _ ?_
 clear hK K
 try simp only [sx]
 refine wpList_plain rfl fun K hK => ?_
 go_simp
 refine hK _ _ ?_
 clear hK K
 try simp only [sx]
 refine wpList_plain rfl fun K hK => ?_
 go_simp
 refine hK _ _ ?_
 clear hK K
 try simp only [sx]
 refine wpList_plain rfl fun K hK => ?_
 go_simp
 refine hK _ _ ?_
 clear hK K
 try simp only [sx]
 refine wpList_plain rfl fun K hK => ?_
 go_simp
 refine hK _ _ ?_
 clear hK K
 try simp only [sx]
 clear x2 xl hR1 hW1
 have hR3 := hR2.further ((Ext.refl w2).alloc (.cells #[.int .i64 0, .int .i64 0, .int .i64 0, .int .i64 0, .string ⟨#[]⟩] 39))
 have hW3 := hW2.ext ((Ext.refl w2).alloc (.cells #[.int .i64 0, .int .i64 0, .int .i64 0, .int .i64 0, .string ⟨#[]⟩] 39))
 have HSz3 : Hid (w.heap.size + 3 ≤ (w2.alloc (.cells #[.int .i64 0, .int .i64 0, .int .i64 0, .int .i64 0, .string ⟨#[]⟩] 39)).heap.size) := Nat.le_trans HSz2.out ((Ext.refl w2).alloc (.cells #[.int .i64 0, .int .i64 0, .int .i64 0, .int .i64 0, .string ⟨#[]⟩] 39)).size
 obtain ⟨W5, hW5⟩ : ∃ X, w2.alloc (.cells #[.int .i64 0, .int .i64 0, .int .i64 0, .int .i64 0, .string ⟨#[]⟩] 39) = X := ⟨_, rfl⟩
 rw [hW5] at hR3 hW3 HSz3 ⊢
 clear hW5 hR2 hW2
 generalize w2.heap.size = gp at *
 have HC : Hid (∀ wx, Ext W5 wx → R2 w w.heap.size #[.int .i64 p.me, .int .i64 p.ht, .string p.own, .int .i64 s.rd, .int .i64 s.st, .string s.lk, .int .i64 s.lr, .string s.vv, .int .i64 s.vr, .slice a1 s.ps.length c1, .int .i64 (p.n : Int), .int .i64 (p.t : Int), .slice a2 s.vs.length c2, .bool (fiveA s), .bool s.dn, .string s.dc] (w.heap.size + 1 + 1) wx ∧ Wd (w.heap.size + 1) m.kd m.fr m.rd m.va m.vl wx) := fun wx hx => ⟨hR3.further hx, hW3.ext hx⟩
 go_wp2_with fail
 refine wp_region_noPanic ?_
 refine wp_region_held (S := Ext W5) (by kernel_rfl) ?_
 rw [show ({ W5 with drawn := W5.drawn + 1 } : World) = W5.drew from rfl]
 have HS : Ext W5 W5.drew := (Ext.refl W5).drew
 refine takeH (i := 0) (v := ?vq0) ?hyq0 HS ?restq0
 case hyq0 => (intro wx hSx; obtain ⟨hr, x0, x1, x2, x3, x4, xl⟩ := HC.out _ hSx; have e1c := (hr.cell (j := 1) rfl).1; have e10 := (hr.cell (j := 10) rfl).1; have el := (hr.cell (j := 1) rfl).2; clear hr; go_simp; try with_reducible rfl)
 try simp only [sx]
 refine takeH (i := 1) (v := ?vq1) ?hyq1 HS ?restq1
 case hyq1 => (intro wx hSx; obtain ⟨hr, x0, x1, x2, x3, x4, xl⟩ := HC.out _ hSx; have e1c := (hr.cell (j := 1) rfl).1; have e10 := (hr.cell (j := 10) rfl).1; have el := (hr.cell (j := 1) rfl).2; clear hr; go_simp; try with_reducible rfl)
 try simp only [sx]
 refine takeH (i := 2) (v := ?vq2) ?hyq2 HS ?restq2
 case hyq2 => (intro wx hSx; obtain ⟨hr, x0, x1, x2, x3, x4, xl⟩ := HC.out _ hSx; have e1c := (hr.cell (j := 1) rfl).1; have e10 := (hr.cell (j := 10) rfl).1; have el := (hr.cell (j := 1) rfl).2; clear hr; go_simp; try with_reducible rfl)
 try simp only [sx]
 refine takeH (i := 3) (v := ?vq3) ?hyq3 HS ?restq3
 case hyq3 => (intro wx hSx; obtain ⟨hr, x0, x1, x2, x3, x4, xl⟩ := HC.out _ hSx; have e1c := (hr.cell (j := 1) rfl).1; have e10 := (hr.cell (j := 10) rfl).1; have el := (hr.cell (j := 1) rfl).2; clear hr; go_simp; try with_reducible rfl)
 try simp only [sx]
 refine takeH (i := 4) (v := ?vq4) ?hyq4 HS ?restq4
 case hyq4 => (intro wx hSx; obtain ⟨hr, x0, x1, x2, x3, x4, xl⟩ := HC.out _ hSx; have e1c := (hr.cell (j := 1) rfl).1; have e10 := (hr.cell (j := 10) rfl).1; have el := (hr.cell (j := 1) rfl).2; clear hr; go_simp; try with_reducible rfl)
 try simp only [sx]
 refine takeH (i := 5) (v := ?vq5) ?hyq5 HS ?restq5
 case hyq5 => (intro wx hSx; obtain ⟨hr, x0, x1, x2, x3, x4, xl⟩ := HC.out _ hSx; have e1c := (hr.cell (j := 1) rfl).1; have e10 := (hr.cell (j := 10) rfl).1; have el := (hr.cell (j := 1) rfl).2; clear hr; go_simp; try with_reducible rfl)
 try simp only [sx]
 refine takeH (i := 6) (v := ?vq6) ?hyq6 HS ?restq6
 case hyq6 => (intro wx hSx; obtain ⟨hr, x0, x1, x2, x3, x4, xl⟩ := HC.out _ hSx; have e1c := (hr.cell (j := 1) rfl).1; have e10 := (hr.cell (j := 10) rfl).1; have el := (hr.cell (j := 1) rfl).2; clear hr; go_simp; try with_reducible rfl)
 try simp only [sx]
 refine takeH (i := 7) (v := ?vq7) ?hyq7 HS ?restq7
 case hyq7 => (intro wx hSx; obtain ⟨hr, x0, x1, x2, x3, x4, xl⟩ := HC.out _ hSx; have e1c := (hr.cell (j := 1) rfl).1; have e10 := (hr.cell (j := 10) rfl).1; have el := (hr.cell (j := 1) rfl).2; clear hr; go_simp; try with_reducible rfl)
 try simp only [sx]
 refine takeH (i := 8) (v := ?vq8) ?hyq8 HS ?restq8
 case hyq8 => (intro wx hSx; obtain ⟨hr, x0, x1, x2, x3, x4, xl⟩ := HC.out _ hSx; have e1c := (hr.cell (j := 1) rfl).1; have e10 := (hr.cell (j := 10) rfl).1; have el := (hr.cell (j := 1) rfl).2; clear hr; go_simp; try with_reducible rfl)
 try simp only [sx]
 refine takeH (i := 9) (v := ?vq9) ?hyq9 HS ?restq9
 case hyq9 => (intro wx hSx; obtain ⟨hr, x0, x1, x2, x3, x4, xl⟩ := HC.out _ hSx; have e1c := (hr.cell (j := 1) rfl).1; have e10 := (hr.cell (j := 10) rfl).1; have el := (hr.cell (j := 1) rfl).2; clear hr; go_simp; try with_reducible rfl)
 try simp only [sx]
 refine takeH (i := 10) (v := ?vq10) ?hyq10 HS ?restq10
 case hyq10 => (intro wx hSx; obtain ⟨hr, x0, x1, x2, x3, x4, xl⟩ := HC.out _ hSx; have e1c := (hr.cell (j := 1) rfl).1; have e10 := (hr.cell (j := 10) rfl).1; have el := (hr.cell (j := 1) rfl).2; clear hr; go_simp; try with_reducible rfl)
 try simp only [sx]
 refine held_one (i := 11) (by kernel_rfl) rfl rfl (fun K hK => ?_)
 go_simp
 refine (rlead_any (p.n : Int) p.ht m.rd _).mono ?_
 rintro e w5 ⟨rfl, ew⟩
 have HSb : Ext W5 w5 := by rw [ew]; exact HS
 clear ew
 try go_simp
 refine hK.out _ _ ⟨HSb, ?_⟩
 clear hK K
 try simp only [sx]
 refine takeH (i := 12) (v := ?vq12) ?hyq12 HSb ?restq12
 case hyq12 => (intro wx hSx; obtain ⟨hr, x0, x1, x2, x3, x4, xl⟩ := HC.out _ hSx; have e1c := (hr.cell (j := 1) rfl).1; have e10 := (hr.cell (j := 10) rfl).1; have el := (hr.cell (j := 1) rfl).2; clear hr; go_simp; try with_reducible rfl)
 try simp only [sx]
 refine takeH (i := 13) (v := ?vq13) ?hyq13 HSb ?restq13
 case hyq13 => (intro wx hSx; obtain ⟨hr, x0, x1, x2, x3, x4, xl⟩ := HC.out _ hSx; have e1c := (hr.cell (j := 1) rfl).1; have e10 := (hr.cell (j := 10) rfl).1; have el := (hr.cell (j := 1) rfl).2; clear hr; go_simp; try with_reducible rfl)
 try simp only [sx]
 refine wpAnyH_done (by kernel_rfl) ?_ _
 refine NoPanic.normal ?_
 have hR4 := hR3.further HSb
 have hW4 := hW3.ext HSb
 have HSz4 : Hid (w.heap.size + 3 ≤ w5.heap.size) := Nat.le_trans HSz3.out HSb.size
 clear HS HSb HC hR3 hW3
 go_upto_region 18 with fail
 have HS0 := hR4.further (Ext.refl w5).drew
 have HWd := hW4.ext (Ext.refl w5).drew
 have HO10 : Hid (w5.drew.ownsRow 0 39 5 (.slice a1 s.ps.length c1) s.ps.length (wcs s.ps)) := own_ext HO1.out HS0.ext
 have HSz5 : Hid (w.heap.size + 3 ≤ w5.drew.heap.size) := HSz4.out
 clear hR4 hW4
 refine wp_region_noPanic ?_
 refine wp_region_until (X := 7) (S := Ext w5.drew) (by kernel_rfl) ?_
 generalize w5.drew = y0 at *
 have hE : Ext y0 y0 := Ext.refl y0
 refine takeU (i := 0) (v := ?vta0) ?hyta0 hE ?restta0
 case hyta0 => (intro wq hSw; go_simp; try with_reducible rfl)
 try simp only [sx]
 refine takeU (i := 1) (v := ?vta1) ?hyta1 hE ?restta1
 case hyta1 => (intro wq hSw; have k9 := ((HS0.further hSw).cell (j := 9) rfl).1; have kl := ((HS0.further hSw).cell (j := 9) rfl).2; go_simp; try with_reducible rfl)
 try simp only [sx]
 refine takeU (i := 3) (v := ?vta3) ?hyta3 hE ?restta3
 case hyta3 => (intro wq hSw; obtain ⟨x0, x1, x2, x3, x4, xl⟩ := HWd.ext hSw; go_simp; try with_reducible rfl)
 try simp only [sx]
 refine until_two (i := 2) (k := 4) (by kernel_rfl) (by kernel_rfl) (by kernel_rfl) rfl rfl rfl rfl (fun K hK => ?_) (fun K hK => ?_)
 ·refine app22 y0 _ _ rfl y0.heap.size (.slice none 0 0) 0 [] rfl (World.ownsRow_nil _ _ _ _) (.slice a1 s.ps.length c1) s.ps.length (wcs s.ps) rfl (own_slv HO10.out) (wcs_len _) (wcs_one _) (by have := Hn.out; omega) (Nat.le_refl _) ?_
  intro v2 y1 ho hg hb
  have HX1 : Ext y0 y1 := ext_grown (Ext.refl y0) hg (fun k q => by cases q)
  refine hK.out _ _ HX1 ?_
  clear hK K
  try simp only [sx]
  refine until_one (i := 4) (by kernel_rfl) (by kernel_rfl) rfl rfl (fun K hK => ?_)
  go_simp
  have HX2 : Ext y0 (y1.alloc (.cells #[.int .i64 m.kd, .int .i64 m.fr, .int .i64 m.rd, .int .i64 m.va, .string m.vl] 39)) := HX1.alloc _
  refine hK.out _ _ HX2 ?_
  clear hK K
  try simp only [sx]
  refine until_one (i := 5) (by kernel_rfl) (by kernel_rfl) rfl rfl (fun K hK => ?_)
  refine app22 (y1.alloc (.cells #[.int .i64 m.kd, .int .i64 m.fr, .int .i64 m.rd, .int .i64 m.va, .string m.vl] 39)) _ _ rfl y0.heap.size v2 (0 + s.ps.length) ([] ++ wcs s.ps) rfl (ho.alloc _) (.slice (some ⟨y1.heap.size, 0, none⟩) 1 1) 1 [.int .i64 m.kd, .int .i64 m.fr, .int .i64 m.rd, .int .i64 m.va, .string m.vl] rfl (slv_new _ _ _ _ _ rfl) rfl (one5 _ _ _ _ _) (by have := Hn.out; omega) (Nat.le_trans HX1.size ((Ext.refl y1).alloc _).size) ?_
  intro v3 y3 ho3 hg3 hb3
  have HX3 : Ext y0 y3 := ext_grown HX2 hg3 (fun k q => (ho.lt k q).1)
  have HO3 : y3.ownsRow y0.heap.size 39 5 v3 (s.ps ++ [m]).length (wcs (s.ps ++ [m])) := by rw [wcs_snoc, len_snocV]; simpa using ho3
  refine hK.out _ _ HX3 ?_
  clear hK K
  try simp only [sx]
  refine takeU (i := 6) (v := ?vtb6) ?hytb6 HX3 ?resttb6
  case hytb6 => (intro wq hSw; go_simp; try with_reducible rfl)
  try simp only [sx]
  have HS3 := HS0.further HX3
  have k9 := (HS3.cell (j := 9) rfl).1
  have kl := (HS3.cell (j := 9) rfl).2
  have y9 := HS3.fz 9
  obtain ⟨n3, hn3⟩ : ∃ n3, (s.ps ++ [m]).length = n3 := ⟨_, rfl⟩
  rw [hn3] at HO3
  obtain ⟨a3, c3, ev⟩ := own_len HO3
  subst ev
  have hR7 : R2 w w.heap.size #[.int .i64 p.me, .int .i64 p.ht, .string p.own, .int .i64 s.rd, .int .i64 s.st, .string s.lk, .int .i64 s.lr, .string s.vv, .int .i64 s.vr, .slice a3 n3 c3, .int .i64 (p.n : Int), .int .i64 (p.t : Int), .slice a2 s.vs.length c2, .bool (fiveA s), .bool s.dn, .string s.dc] (w.heap.size + 1 + 1) (y3.setCell ⟨w.heap.size, 9, none⟩ (.slice a3 n3 c3)) := HS3.fld 9 _
  have hnb : (Value.slice a3 n3 c3).ownBlock ≠ some w.heap.size := fun q => by have := (HO3.lt _ q).1; have := HSz5.out; omega
  have HO7 : Hid ((y3.setCell ⟨w.heap.size, 9, none⟩ (.slice a3 n3 c3)).ownsRow 0 39 5 (.slice a3 n3 c3) n3 (wcs (s.ps ++ [m]))) := own_setCell (own_base HO3 (Nat.zero_le _)) hnb
  have HUb : Hid (∀ k, (Value.slice a3 n3 c3).ownBlock = some k → w.heap.size + 3 ≤ k) := fun k q => by have := (HO3.lt k q).1; have := HSz5.out; omega
  clear HO3 ho3 hg3 hb3 ho hg hb hnb HS3
  refine until_last (by kernel_rfl) (by kernel_rfl) rfl rfl (fun K hK => ?_)
  go_simp
  refine hK.out _ _ (NoPanic.normal ?_)
  clear hK K
  try simp only [sx]
  clear k9 kl y9 HX3 HS0 HWd HO10
  generalize y3.setCell ⟨w.heap.size, 9, none⟩ (.slice a3 n3 c3) = W7 at *
  obtain ⟨i1, i2⟩ := HIt.out
  obtain ⟨s1, hs1⟩ : ∃ s1 : Ag, { s with ps := s.ps ++ [m] } = s1 := ⟨_, rfl⟩
  have hps : s1.ps = s.ps ++ [m] := by rw [← hs1]
  have hvs : s1.vs = s.vs := by rw [← hs1]
  have hl3 : s1.ps.length = n3 := by rw [hps]; exact hn3
  have hrd : s1.rd = s.rd := by rw [← hs1]
  have hR8 : R2 w w.heap.size #[.int .i64 p.me, .int .i64 p.ht, .string p.own, .int .i64 s1.rd, .int .i64 s1.st, .string s1.lk, .int .i64 s1.lr, .string s1.vv, .int .i64 s1.vr, .slice a3 s1.ps.length c3, .int .i64 (p.n : Int), .int .i64 (p.t : Int), .slice a2 s1.vs.length c2, .bool (fiveA s1), .bool s1.dn, .string s1.dc] (w.heap.size + 1 + 1) W7 := by rw [hl3, ← hs1]; exact hR7
  rw [hs1] at i1 HTk0
  obtain ⟨o0, ho0⟩ : ∃ o0 : List Vt, [] = o0 := ⟨_, rfl⟩
  have HTk : Hid (takeA p s m = ((stl p s1).1, o0 ++ (stl p s1).2)) := by rw [← ho0]; exact HTk0.out
  obtain ⟨B, hB⟩ : ∃ B, W7.heap.size = B := ⟨_, rfl⟩
  have lt1 : (w.heap.size + 1 + 1) < W7.heap.size := by obtain ⟨z, _, q⟩ := hR7.b1; exact (Array.getElem?_eq_some_iff.1 q).1
  have Hn1 : Hid (s1.ps.length + s1.vs.length ≤ 501) := by show _ ≤ _; rw [hps, hvs, List.length_append]; have := Hn.out; simp; omega
  have HTL : Hid (TL w w.heap.size (w.heap.size + 1 + 1) B p s1 o0 a3 c3 a2 c2 0 s1 o0 (.slice none 0 0) W7) := by
   rw [← ho0]
   refine ⟨hR8, i1, by rw [hrd]; exact i2, rfl, rfl, rfl, rfl, ?_, ?_, World.ownsRow_nil _ _ _ _, ?_, ?_, ?_, ?_, ⟨by omega, by omega⟩, by omega, by have := hR7.ext.size; omega⟩
   ·rw [hl3, hps]; exact HO7.out
   ·rw [hvs]; exact own_ext HO2.out hR7.ext
   ·have := mu_le i1 (by rw [hrd]; exact i2); simp; omega
   ·have := mu_le i1 (by rw [hrd]; exact i2); omega
   ·intro k q
    rw [hl3] at q
    have := (HO7.out.lt k q).2
    have := HUb.out k q
    exact ⟨by omega, by omega, by omega⟩
   ·intro k q
    rw [hvs] at q
    have := (HO2.out.lt k q).2
    exact ⟨by omega, by omega, by omega⟩
  obtain ⟨b1, d1, b2, d2, e_b1, e_d1, e_b2, e_d2⟩ : ∃ b1 d1 b2 d2, b1 = a3 ∧ d1 = c3 ∧ b2 = a2 ∧ d2 = c2 := ⟨_, _, _, _, rfl, rfl, rfl, rfl⟩
  have HBo : Hid ((∀ k, (Value.slice b1 s1.ps.length d1).ownBlock = some k → (Value.slice a1 s.ps.length c1).ownBlock = some k ∨ w.heap.size ≤ k) ∧ ∀ k, (Value.slice b2 s1.vs.length d2).ownBlock = some k → (Value.slice a2 s.vs.length c2).ownBlock = some k ∨ w.heap.size ≤ k) := ⟨fun k q => .inr (by rw [e_b1, e_d1, hl3] at q; have := HUb.out k q; omega), fun k q => .inl (by rw [e_b2, e_d2, hvs] at q; exact q)⟩
  rw [← e_b1, ← e_d1, ← e_b2, ← e_d2] at HTL
  clear hR7 hR8 hB lt1 i1 i2 hl3 hn3 hps hvs hrd hs1 ho0 HTk0 HIt e_b1 e_d1 e_b2 e_d2 HO7 HUb
  go_wp2_with fail
  go_loopw [6, 11] (fun u6 u11 wr => ∃ kk : Nat, ∃ s' out a n c, u11 = .int .i64 kk ∧ u6 = .slice a n c ∧ Hid (TL w w.heap.size (w.heap.size + 1 + 1) B p s1 o0 b1 d1 b2 d2 kk s' out (.slice a n c) wr)) (fun _ u11 _ => 1000 - (intOf u11).toNat)
  case atStart => exact ⟨0, s1, o0, _, _, _, rfl, rfl, HTL⟩
  case round =>
   obtain ⟨kk, s', out, ua, un, uc, rfl, rfl, HT⟩ := hrel
   clear HTL
   have hkk : kk < 1000 := by have := HT.out.kk; omega
   obtain ⟨q1, q0, qw⟩ := lp_nums kk 1000 hkk (by omega)
   have hT := HT.out
   clear HT
   by_cases hdn : s'.dn = true
   ·have k14 := (hT.r2.cell (j := 14) (v := .bool s'.dn) rfl).1
    have kl := (hT.r2.cell (j := 0) rfl).2
    have Hdn : Hid (s'.dn = true) := hdn
    rw [hdn] at k14
    clear hdn
    go_upto_region 26 with fail
    clear k14 kl
    refine wp_region_lit ?_
    refine wl_ld34 rfl rfl rfl hT.r2.b0 rfl ?_
    try simp only [sx]
    refine wpList_plain rfl fun K hK => ?_
    go_simp
    refine hK _ _ ?_
    clear hK K
    try simp only [sx]
    refine wl_st34 rfl rfl rfl rfl hT.r2 rfl (by kernel_rfl) ?_
    intro W1' hR1' hG1' hB1' hK1'
    try simp only [sx]
    refine wpList_plain rfl fun K hK => ?_
    go_simp
    refine hK _ _ ?_
    clear hK K
    try simp only [sx]
    go_wp2_with fail
    rw [HTk.out]
    refine bodyPost_ret (ret_two Try.results18 _ _ (w.heap.size + 1 + 1) 34 #[.int .i64 p.me, .int .i64 p.ht, .string p.own, .int .i64 s'.rd, .int .i64 s'.st, .string s'.lk, .int .i64 s'.lr, .string s'.vv, .int .i64 s'.vr, .slice b1 s1.ps.length d1, .int .i64 (p.n : Int), .int .i64 (p.t : Int), .slice b2 s1.vs.length d2, .bool (fiveA s'), .bool s'.dn, .string s'.dc] (0, 0) rfl hG1' rfl) rfl ?_
    have f1 : (stl p s1).1 = s' := hT.e1.trans (by rw [stl_done Hdn.out])
    have f2 : o0 ++ (stl p s1).2 = out := hT.e2.trans (by rw [stl_done Hdn.out, List.append_nil])
    dsimp only
    rw [f1, f2]
    refine ⟨b1, d1, b2, d2, ua, un, uc, ?_, ?_, ?_, ?_, hR1'.ext, fun k q => HBo.out.1 k (by rw [hT.ps] at q; exact q), fun k q => HBo.out.2 k (by rw [hT.vs] at q; exact q)⟩
    ·rw [hT.ps, hT.vs]
     rfl
    ·rw [hT.ps]
     exact own_keep hT.o1 (fun k q => hK1'.1 k (hT.b1 k q).2.2)
    ·rw [hT.vs]
     exact own_keep hT.o2 (fun k q => hK1'.1 k (hT.b2 k q).2.2)
    ·exact own_base (own_keep hT.ou (fun k q => hK1'.1 k (fun z => by have := (hT.ou.lt k q).1; have := hT.bg.2; omega))) hT.wB
   ·have Hdn : Hid (s'.dn = false) := (by simpa using hdn : s'.dn = false)
    clear hdn
    have HRc : Hid (∀ wx, Ext wr wx → Calls Try.prog 36 #[av p s' b1 s1.ps.length d1 b2 s1.vs.length d2] wx fun e w' => RuP p s' b1 s1.ps.length d1 b2 s1.vs.length d2 wx e w') := fun wx hx => by
     have e1 : s'.ps.length ≤ 1000 := by rw [hT.ps]; have := Hn1.out; omega
     have e2 : s'.vs.length ≤ 1000 := by rw [hT.vs]; have := Hn1.out; omega
     have := rrule_any p s' Hp.out hT.inv hT.rd b1 d1 b2 d2 e1 e2 wx (by rw [hT.ps]; exact (own_ws hT.o1).ext hx) (by rw [hT.vs]; exact (own_ws hT.o2).ext hx)
     rw [hT.ps, hT.vs] at this
     exact this
    cases hr : ruleA p s' with
    | none =>
     have HRl : Hid (ruleA p s' = none) := hr
     clear hr
     have k14 := (hT.r2.cell (j := 14) (v := .bool s'.dn) rfl).1
     have kl := (hT.r2.cell (j := 0) rfl).2
     rw [Hdn.out] at k14
     go_upto_region 22 with fail
     clear k14 kl
     refine wp_region_lit ?_
     refine wl_ld34 rfl rfl rfl hT.r2.b0 rfl ?_
     try simp only [sx]
     refine wpList_plain rfl fun K hK => ?_
     go_simp
     refine (HRc.out _ (Ext.refl _)).mono ?_
     rintro e w8 hu8
     unfold RuP at hu8
     rw [HRl.out] at hu8
     obtain ⟨rfl, HX8⟩ := hu8
     have hT8 := hT.ext HX8
     dsimp only
     refine hK _ _ ?_
     clear hK K
     try simp only [sx]
     refine wpList_plain rfl fun K hK => ?_
     go_simp
     refine hK _ _ ?_
     clear hK K
     try simp only [sx]
     refine wpList_plain rfl fun K hK => ?_
     go_simp
     refine hK _ _ ?_
     clear hK K
     try simp only [sx]
     refine wpList_plain rfl fun K hK => ?_
     go_simp
     refine hK _ _ ?_
     clear hK K
     try simp only [sx]
     refine wpList_plain rfl fun K hK => ?_
     go_simp
     refine hK _ _ ?_
     clear hK K
     try simp only [sx]
     refine wpList_plain rfl fun K hK => ?_
     go_simp
     refine hK _ _ ?_
     clear hK K
     try simp only [sx]
     refine wl_st34n rfl rfl rfl rfl rfl rfl (by kernel_rfl) ?_
     try simp only [sx]
     refine wpList_plain rfl fun K hK => ?_
     go_simp
     refine hK _ _ ?_
     clear hK K
     try simp only [sx]
     refine wpList_plain rfl fun K hK => ?_
     go_simp
     refine hK _ _ ?_
     clear hK K
     try simp only [sx]
     have hT9 := hT8.ext ((Ext.refl w8).alloc (.cells #[.int .i64 p.me, .int .i64 p.ht, .string p.own, .int .i64 s'.rd, .int .i64 s'.st, .string s'.lk, .int .i64 s'.lr, .string s'.vv, .int .i64 s'.vr, .slice b1 s1.ps.length d1, .int .i64 (p.n : Int), .int .i64 (p.t : Int), .slice b2 s1.vs.length d2, .bool (fiveA s'), .bool s'.dn, .string s'.dc] 34))
     obtain ⟨Wq, hWq⟩ : ∃ X, w8.alloc (.cells #[.int .i64 p.me, .int .i64 p.ht, .string p.own, .int .i64 s'.rd, .int .i64 s'.st, .string s'.lk, .int .i64 s'.lr, .string s'.vv, .int .i64 s'.vr, .slice b1 s1.ps.length d1, .int .i64 (p.n : Int), .int .i64 (p.t : Int), .slice b2 s1.vs.length d2, .bool (fiveA s'), .bool s'.dn, .string s'.dc] 34) = X := ⟨_, rfl⟩
     rw [hWq] at hT9 ⊢
     clear hWq hT8
     go_upto_region 26 with fail
     refine wp_region_lit ?_
     refine wl_ld34 rfl rfl rfl hT9.r2.b0 rfl ?_
     try simp only [sx]
     refine wpList_plain rfl fun K hK => ?_
     go_simp
     refine hK _ _ ?_
     clear hK K
     try simp only [sx]
     refine wl_st34 rfl rfl rfl rfl hT9.r2 rfl (by kernel_rfl) ?_
     intro W1' hR1' hG1' hB1' hK1'
     try simp only [sx]
     refine wpList_plain rfl fun K hK => ?_
     go_simp
     refine hK _ _ ?_
     clear hK K
     try simp only [sx]
     go_wp2_with fail
     rw [HTk.out]
     refine bodyPost_ret (ret_two Try.results18 _ _ (w.heap.size + 1 + 1) 34 #[.int .i64 p.me, .int .i64 p.ht, .string p.own, .int .i64 s'.rd, .int .i64 s'.st, .string s'.lk, .int .i64 s'.lr, .string s'.vv, .int .i64 s'.vr, .slice b1 s1.ps.length d1, .int .i64 (p.n : Int), .int .i64 (p.t : Int), .slice b2 s1.vs.length d2, .bool (fiveA s'), .bool s'.dn, .string s'.dc] (0, 0) rfl hG1' rfl) rfl ?_
     have f1 : (stl p s1).1 = s' := hT9.e1.trans (by rw [stl_none HRl.out])
     have f2 : o0 ++ (stl p s1).2 = out := hT9.e2.trans (by rw [stl_none HRl.out, List.append_nil])
     dsimp only
     rw [f1, f2]
     refine ⟨b1, d1, b2, d2, ua, un, uc, ?_, ?_, ?_, ?_, hR1'.ext, fun k q => HBo.out.1 k (by rw [hT9.ps] at q; exact q), fun k q => HBo.out.2 k (by rw [hT9.vs] at q; exact q)⟩
     ·rw [hT9.ps, hT9.vs]
      rfl
     ·rw [hT9.ps]
      exact own_keep hT9.o1 (fun k q => hK1'.1 k (hT9.b1 k q).2.2)
     ·rw [hT9.vs]
      exact own_keep hT9.o2 (fun k q => hK1'.1 k (hT9.b2 k q).2.2)
     ·exact own_base (own_keep hT9.ou (fun k q => hK1'.1 k (fun z => by have := (hT9.ou.lt k q).1; have := hT9.bg.2; omega))) hT9.wB
    | some x =>
     have HRl : Hid (ruleA p s' = some x) := hr
     clear hr
     have k14 := (hT.r2.cell (j := 14) (v := .bool s'.dn) rfl).1
     have kl := (hT.r2.cell (j := 0) rfl).2
     rw [Hdn.out] at k14
     go_upto_region 22 with fail
     clear k14 kl
     refine wp_region_lit ?_
     refine wl_ld34 rfl rfl rfl hT.r2.b0 rfl ?_
     try simp only [sx]
     refine wpList_plain rfl fun K hK => ?_
     go_simp
     refine (HRc.out _ (Ext.refl _)).mono ?_
     rintro e w8 hu8
     unfold RuP at hu8
     rw [HRl.out] at hu8
     obtain ⟨sa, sn, sc, rfl, ho8, HX8⟩ := hu8
     have hT8 := hT.ext HX8
     dsimp only
     refine hK _ _ ?_
     clear hK K
     try simp only [sx]
     refine wpList_plain rfl fun K hK => ?_
     go_simp
     refine hK _ _ ?_
     clear hK K
     try simp only [sx]
     refine wpList_plain rfl fun K hK => ?_
     go_simp
     refine hK _ _ ?_
     clear hK K
     try simp only [sx]
     refine wpList_plain rfl fun K hK => ?_
     go_simp
     refine hK _ _ ?_
     clear hK K
     try simp only [sx]
     refine wpList_plain rfl fun K hK => ?_
     go_simp
     refine hK _ _ ?_
     clear hK K
     try simp only [sx]
     refine wpList_plain rfl fun K hK => ?_
     go_simp
     refine hK _ _ ?_
     clear hK K
     try simp only [sx]
     refine wl_st34n rfl rfl rfl rfl rfl rfl (by kernel_rfl) ?_
     try simp only [sx]
     refine wpList_plain rfl fun K hK => ?_
     go_simp
     refine hK _ _ ?_
     clear hK K
     try simp only [sx]
     refine wpList_plain rfl fun K hK => ?_
     go_simp
     refine hK _ _ ?_
     clear hK K
     try simp only [sx]
     go_upto_region 24 with fail
     refine wp_region_lit ?_
     refine wl_ld34 rfl rfl rfl (heap_alloc_new _ _) rfl ?_
     try simp only [sx]
     refine wl_st34a rfl rfl rfl rfl (hT8.r2.further ((Ext.refl _).alloc _)) rfl rfl (by kernel_rfl) ?_
     intro W' hR' hB' hK'
     try simp only [sx]
     have hT9 := hT8.ext ((Ext.refl w8).alloc (.cells #[.int .i64 p.me, .int .i64 p.ht, .string p.own, .int .i64 x.1.rd, .int .i64 x.1.st, .string x.1.lk, .int .i64 x.1.lr, .string x.1.vv, .int .i64 x.1.vr, .slice b1 s1.ps.length d1, .int .i64 (p.n : Int), .int .i64 (p.t : Int), .slice b2 s1.vs.length d2, .bool (fiveA x.1), .bool x.1.dn, .string x.1.dc] 34))
     have HO9 : Hid (W'.ownsRow wr.heap.size 39 5 (.slice sa sn sc) x.2.length (wcs x.2)) := own_keep (own_ext ho8 ((Ext.refl w8).alloc (.cells #[.int .i64 p.me, .int .i64 p.ht, .string p.own, .int .i64 x.1.rd, .int .i64 x.1.st, .string x.1.lk, .int .i64 x.1.lr, .string x.1.vv, .int .i64 x.1.vr, .slice b1 s1.ps.length d1, .int .i64 (p.n : Int), .int .i64 (p.t : Int), .slice b2 s1.vs.length d2, .bool (fiveA x.1), .bool x.1.dn, .string x.1.dc] 34))) (fun k q => hK'.1 k (fun z => by have := (ho8.lt k q).1; have := (Array.getElem?_eq_some_iff.1 hT.r2.b0).1; omega))
     have HLx : Hid (x.2.length ≤ 1) := rule_lenR HRl.out
     have HOu : Hid (W'.ownsRow B 39 5 (.slice ua un uc) out.length (wcs out)) := own_keep hT9.ou (fun k q => hK'.1 k (fun z => by have := (hT9.ou.lt k q).1; have := hT9.bg.1; omega))
     have HBs : Hid (B ≤ W'.heap.size) := by show B ≤ W'.heap.size; rw [hK'.2]; exact hT9.bs
     have HSt : Hid (∀ u' W'', W''.ownsRow B 39 5 u' (out.length + x.2.length) (wcs out ++ wcs x.2) → W'.grownBy W'' (Value.slice ua un uc).ownBlock → TL w w.heap.size (w.heap.size + 1 + 1) B p s1 o0 b1 d1 b2 d2 (kk + 1) x.1 (out ++ x.2) u' W'') := fun u' W'' q1 q2 => hT9.set Hdn.out HRl.out hR' hK' q1 q2
     have HLo : Hid (out.length ≤ 1000) := Nat.le_trans (Nat.le_add_right _ _) hT.len
     have Hm : Hid (1000 - (intOf (.int .i64 ((kk : Int) + 1))).toNat < 1000 - (intOf (.int .i64 (kk : Int))).toNat) := lp_meas hkk
     clear hT8 hT9 hT ho8 hR' hB' hK'
     go_upto_region 25 with fail
     refine wp_region_lit ?_
     refine wpList_plain rfl fun K hK => ?_
     go_simp
     refine hK _ _ ?_
     clear hK K
     try simp only [sx]
     refine wpList_plain rfl fun K hK => ?_
     go_simp
     refine hK _ _ ?_
     clear hK K
     try simp only [sx]
     refine wpList_plain rfl fun K hK => ?_
     refine app22 W' (.tmp 118) (.tmp 119) rfl B (.slice ua un uc) out.length (wcs out) rfl HOu.out (.slice sa sn sc) x.2.length (wcs x.2) rfl (own_slv HO9.out) (wcs_len _) (wcs_one _) (by have := HLo.out; have := HLx.out; omega) HBs.out ?_
     intro u' W'' z1 z2 _
     obtain ⟨a', c', rfl⟩ := own_len z1
     have HTn : Hid _ := HSt.out _ _ z1 z2
     refine hK _ _ ?_
     clear hK K z1 z2 HSt HOu HO9
     try simp only [sx]
     go_wp2_with fail
     go_roundw
     case rel => exact ⟨kk + 1, x.1, out ++ x.2, _, _, _, by push_cast; rfl, rfl, HTn⟩
     case measure => exact Hm.out
 ·go_simp
  have HX1 : Ext y0 (y0.alloc (.cells #[.int .i64 m.kd, .int .i64 m.fr, .int .i64 m.rd, .int .i64 m.va, .string m.vl] 39)) := (Ext.refl y0).alloc _
  refine hK.out _ _ HX1 ?_
  clear hK K
  try simp only [sx]
  refine until_one (i := 2) (by kernel_rfl) (by kernel_rfl) rfl rfl (fun K hK => ?_)
  refine app22 (y0.alloc (.cells #[.int .i64 m.kd, .int .i64 m.fr, .int .i64 m.rd, .int .i64 m.va, .string m.vl] 39)) _ _ rfl y0.heap.size (.slice none 0 0) 0 [] rfl (World.ownsRow_nil _ _ _ _) (.slice a1 s.ps.length c1) s.ps.length (wcs s.ps) rfl (own_slv (own_ext HO10.out ((Ext.refl y0).alloc (.cells #[.int .i64 m.kd, .int .i64 m.fr, .int .i64 m.rd, .int .i64 m.va, .string m.vl] 39)))) (wcs_len _) (wcs_one _) (by have := Hn.out; omega) ((Ext.refl y0).alloc _).size ?_
  intro v2 y2 ho hg hb
  have HX2 : Ext y0 y2 := ext_grown HX1 hg (fun k q => by cases q)
  have HX12 : Ext (y0.alloc (.cells #[.int .i64 m.kd, .int .i64 m.fr, .int .i64 m.rd, .int .i64 m.va, .string m.vl] 39)) y2 := ext_grown (Ext.refl _) hg (fun k q => by cases q)
  refine hK.out _ _ HX2 ?_
  clear hK K
  try simp only [sx]
  refine until_one (i := 5) (by kernel_rfl) (by kernel_rfl) rfl rfl (fun K hK => ?_)
  refine app22 y2 _ _ rfl y0.heap.size v2 (0 + s.ps.length) ([] ++ wcs s.ps) rfl ho (.slice (some ⟨y0.heap.size, 0, none⟩) 1 1) 1 [.int .i64 m.kd, .int .i64 m.fr, .int .i64 m.rd, .int .i64 m.va, .string m.vl] rfl ((slv_new y0 #[.int .i64 m.kd, .int .i64 m.fr, .int .i64 m.rd, .int .i64 m.va, .string m.vl] 39 1 1 rfl).ext HX12) rfl (one5 _ _ _ _ _) (by have := Hn.out; omega) HX2.size ?_
  intro v3 y3 ho3 hg3 hb3
  have HX3 : Ext y0 y3 := ext_grown HX2 hg3 (fun k q => (ho.lt k q).1)
  have HO3 : y3.ownsRow y0.heap.size 39 5 v3 (s.ps ++ [m]).length (wcs (s.ps ++ [m])) := by rw [wcs_snoc, len_snocV]; simpa using ho3
  refine hK.out _ _ HX3 ?_
  clear hK K
  try simp only [sx]
  refine takeU (i := 6) (v := ?vtc6) ?hytc6 HX3 ?resttc6
  case hytc6 => (intro wq hSw; go_simp; try with_reducible rfl)
  try simp only [sx]
  have HS3 := HS0.further HX3
  have k9 := (HS3.cell (j := 9) rfl).1
  have kl := (HS3.cell (j := 9) rfl).2
  have y9 := HS3.fz 9
  obtain ⟨n3, hn3⟩ : ∃ n3, (s.ps ++ [m]).length = n3 := ⟨_, rfl⟩
  rw [hn3] at HO3
  obtain ⟨a3, c3, ev⟩ := own_len HO3
  subst ev
  have hR7 : R2 w w.heap.size #[.int .i64 p.me, .int .i64 p.ht, .string p.own, .int .i64 s.rd, .int .i64 s.st, .string s.lk, .int .i64 s.lr, .string s.vv, .int .i64 s.vr, .slice a3 n3 c3, .int .i64 (p.n : Int), .int .i64 (p.t : Int), .slice a2 s.vs.length c2, .bool (fiveA s), .bool s.dn, .string s.dc] (w.heap.size + 1 + 1) (y3.setCell ⟨w.heap.size, 9, none⟩ (.slice a3 n3 c3)) := HS3.fld 9 _
  have hnb : (Value.slice a3 n3 c3).ownBlock ≠ some w.heap.size := fun q => by have := (HO3.lt _ q).1; have := HSz5.out; omega
  have HO7 : Hid ((y3.setCell ⟨w.heap.size, 9, none⟩ (.slice a3 n3 c3)).ownsRow 0 39 5 (.slice a3 n3 c3) n3 (wcs (s.ps ++ [m]))) := own_setCell (own_base HO3 (Nat.zero_le _)) hnb
  have HUb : Hid (∀ k, (Value.slice a3 n3 c3).ownBlock = some k → w.heap.size + 3 ≤ k) := fun k q => by have := (HO3.lt k q).1; have := HSz5.out; omega
  clear HO3 ho3 hg3 hb3 ho hg hb hnb HS3
  refine until_last (by kernel_rfl) (by kernel_rfl) rfl rfl (fun K hK => ?_)
  go_simp
  refine hK.out _ _ (NoPanic.normal ?_)
  clear hK K
  try simp only [sx]
  clear k9 kl y9 HX3 HS0 HWd HO10
  generalize y3.setCell ⟨w.heap.size, 9, none⟩ (.slice a3 n3 c3) = W7 at *
  obtain ⟨i1, i2⟩ := HIt.out
  obtain ⟨s1, hs1⟩ : ∃ s1 : Ag, { s with ps := s.ps ++ [m] } = s1 := ⟨_, rfl⟩
  have hps : s1.ps = s.ps ++ [m] := by rw [← hs1]
  have hvs : s1.vs = s.vs := by rw [← hs1]
  have hl3 : s1.ps.length = n3 := by rw [hps]; exact hn3
  have hrd : s1.rd = s.rd := by rw [← hs1]
  have hR8 : R2 w w.heap.size #[.int .i64 p.me, .int .i64 p.ht, .string p.own, .int .i64 s1.rd, .int .i64 s1.st, .string s1.lk, .int .i64 s1.lr, .string s1.vv, .int .i64 s1.vr, .slice a3 s1.ps.length c3, .int .i64 (p.n : Int), .int .i64 (p.t : Int), .slice a2 s1.vs.length c2, .bool (fiveA s1), .bool s1.dn, .string s1.dc] (w.heap.size + 1 + 1) W7 := by rw [hl3, ← hs1]; exact hR7
  rw [hs1] at i1 HTk0
  obtain ⟨o0, ho0⟩ : ∃ o0 : List Vt, [] = o0 := ⟨_, rfl⟩
  have HTk : Hid (takeA p s m = ((stl p s1).1, o0 ++ (stl p s1).2)) := by rw [← ho0]; exact HTk0.out
  obtain ⟨B, hB⟩ : ∃ B, W7.heap.size = B := ⟨_, rfl⟩
  have lt1 : (w.heap.size + 1 + 1) < W7.heap.size := by obtain ⟨z, _, q⟩ := hR7.b1; exact (Array.getElem?_eq_some_iff.1 q).1
  have Hn1 : Hid (s1.ps.length + s1.vs.length ≤ 501) := by show _ ≤ _; rw [hps, hvs, List.length_append]; have := Hn.out; simp; omega
  have HTL : Hid (TL w w.heap.size (w.heap.size + 1 + 1) B p s1 o0 a3 c3 a2 c2 0 s1 o0 (.slice none 0 0) W7) := by
   rw [← ho0]
   refine ⟨hR8, i1, by rw [hrd]; exact i2, rfl, rfl, rfl, rfl, ?_, ?_, World.ownsRow_nil _ _ _ _, ?_, ?_, ?_, ?_, ⟨by omega, by omega⟩, by omega, by have := hR7.ext.size; omega⟩
   ·rw [hl3, hps]; exact HO7.out
   ·rw [hvs]; exact own_ext HO2.out hR7.ext
   ·have := mu_le i1 (by rw [hrd]; exact i2); simp; omega
   ·have := mu_le i1 (by rw [hrd]; exact i2); omega
   ·intro k q
    rw [hl3] at q
    have := (HO7.out.lt k q).2
    have := HUb.out k q
    exact ⟨by omega, by omega, by omega⟩
   ·intro k q
    rw [hvs] at q
    have := (HO2.out.lt k q).2
    exact ⟨by omega, by omega, by omega⟩
  obtain ⟨b1, d1, b2, d2, e_b1, e_d1, e_b2, e_d2⟩ : ∃ b1 d1 b2 d2, b1 = a3 ∧ d1 = c3 ∧ b2 = a2 ∧ d2 = c2 := ⟨_, _, _, _, rfl, rfl, rfl, rfl⟩
  have HBo : Hid ((∀ k, (Value.slice b1 s1.ps.length d1).ownBlock = some k → (Value.slice a1 s.ps.length c1).ownBlock = some k ∨ w.heap.size ≤ k) ∧ ∀ k, (Value.slice b2 s1.vs.length d2).ownBlock = some k → (Value.slice a2 s.vs.length c2).ownBlock = some k ∨ w.heap.size ≤ k) := ⟨fun k q => .inr (by rw [e_b1, e_d1, hl3] at q; have := HUb.out k q; omega), fun k q => .inl (by rw [e_b2, e_d2, hvs] at q; exact q)⟩
  rw [← e_b1, ← e_d1, ← e_b2, ← e_d2] at HTL
  clear hR7 hR8 hB lt1 i1 i2 hl3 hn3 hps hvs hrd hs1 ho0 HTk0 HIt e_b1 e_d1 e_b2 e_d2 HO7 HUb
  go_wp2_with fail
  go_loopw [6, 11] (fun u6 u11 wr => ∃ kk : Nat, ∃ s' out a n c, u11 = .int .i64 kk ∧ u6 = .slice a n c ∧ Hid (TL w w.heap.size (w.heap.size + 1 + 1) B p s1 o0 b1 d1 b2 d2 kk s' out (.slice a n c) wr)) (fun _ u11 _ => 1000 - (intOf u11).toNat)
  case atStart => exact ⟨0, s1, o0, _, _, _, rfl, rfl, HTL⟩
  case round =>
   obtain ⟨kk, s', out, ua, un, uc, rfl, rfl, HT⟩ := hrel
   clear HTL
   have hkk : kk < 1000 := by have := HT.out.kk; omega
   obtain ⟨q1, q0, qw⟩ := lp_nums kk 1000 hkk (by omega)
   have hT := HT.out
   clear HT
   by_cases hdn : s'.dn = true
   ·have k14 := (hT.r2.cell (j := 14) (v := .bool s'.dn) rfl).1
    have kl := (hT.r2.cell (j := 0) rfl).2
    have Hdn : Hid (s'.dn = true) := hdn
    rw [hdn] at k14
    clear hdn
    go_upto_region 26 with fail
    clear k14 kl
    refine wp_region_lit ?_
    refine wl_ld34 rfl rfl rfl hT.r2.b0 rfl ?_
    try simp only [sx]
    refine wpList_plain rfl fun K hK => ?_
    go_simp
    refine hK _ _ ?_
    clear hK K
    try simp only [sx]
    refine wl_st34 rfl rfl rfl rfl hT.r2 rfl (by kernel_rfl) ?_
    intro W1' hR1' hG1' hB1' hK1'
    try simp only [sx]
    refine wpList_plain rfl fun K hK => ?_
    go_simp
    refine hK _ _ ?_
    clear hK K
    try simp only [sx]
    go_wp2_with fail
    rw [HTk.out]
    refine bodyPost_ret (ret_two Try.results18 _ _ (w.heap.size + 1 + 1) 34 #[.int .i64 p.me, .int .i64 p.ht, .string p.own, .int .i64 s'.rd, .int .i64 s'.st, .string s'.lk, .int .i64 s'.lr, .string s'.vv, .int .i64 s'.vr, .slice b1 s1.ps.length d1, .int .i64 (p.n : Int), .int .i64 (p.t : Int), .slice b2 s1.vs.length d2, .bool (fiveA s'), .bool s'.dn, .string s'.dc] (0, 0) rfl hG1' rfl) rfl ?_
    have f1 : (stl p s1).1 = s' := hT.e1.trans (by rw [stl_done Hdn.out])
    have f2 : o0 ++ (stl p s1).2 = out := hT.e2.trans (by rw [stl_done Hdn.out, List.append_nil])
    dsimp only
    rw [f1, f2]
    refine ⟨b1, d1, b2, d2, ua, un, uc, ?_, ?_, ?_, ?_, hR1'.ext, fun k q => HBo.out.1 k (by rw [hT.ps] at q; exact q), fun k q => HBo.out.2 k (by rw [hT.vs] at q; exact q)⟩
    ·rw [hT.ps, hT.vs]
     rfl
    ·rw [hT.ps]
     exact own_keep hT.o1 (fun k q => hK1'.1 k (hT.b1 k q).2.2)
    ·rw [hT.vs]
     exact own_keep hT.o2 (fun k q => hK1'.1 k (hT.b2 k q).2.2)
    ·exact own_base (own_keep hT.ou (fun k q => hK1'.1 k (fun z => by have := (hT.ou.lt k q).1; have := hT.bg.2; omega))) hT.wB
   ·have Hdn : Hid (s'.dn = false) := (by simpa using hdn : s'.dn = false)
    clear hdn
    have HRc : Hid (∀ wx, Ext wr wx → Calls Try.prog 36 #[av p s' b1 s1.ps.length d1 b2 s1.vs.length d2] wx fun e w' => RuP p s' b1 s1.ps.length d1 b2 s1.vs.length d2 wx e w') := fun wx hx => by
     have e1 : s'.ps.length ≤ 1000 := by rw [hT.ps]; have := Hn1.out; omega
     have e2 : s'.vs.length ≤ 1000 := by rw [hT.vs]; have := Hn1.out; omega
     have := rrule_any p s' Hp.out hT.inv hT.rd b1 d1 b2 d2 e1 e2 wx (by rw [hT.ps]; exact (own_ws hT.o1).ext hx) (by rw [hT.vs]; exact (own_ws hT.o2).ext hx)
     rw [hT.ps, hT.vs] at this
     exact this
    cases hr : ruleA p s' with
    | none =>
     have HRl : Hid (ruleA p s' = none) := hr
     clear hr
     have k14 := (hT.r2.cell (j := 14) (v := .bool s'.dn) rfl).1
     have kl := (hT.r2.cell (j := 0) rfl).2
     rw [Hdn.out] at k14
     go_upto_region 22 with fail
     clear k14 kl
     refine wp_region_lit ?_
     refine wl_ld34 rfl rfl rfl hT.r2.b0 rfl ?_
     try simp only [sx]
     refine wpList_plain rfl fun K hK => ?_
     go_simp
     refine (HRc.out _ (Ext.refl _)).mono ?_
     rintro e w8 hu8
     unfold RuP at hu8
     rw [HRl.out] at hu8
     obtain ⟨rfl, HX8⟩ := hu8
     have hT8 := hT.ext HX8
     dsimp only
     refine hK _ _ ?_
     clear hK K
     try simp only [sx]
     refine wpList_plain rfl fun K hK => ?_
     go_simp
     refine hK _ _ ?_
     clear hK K
     try simp only [sx]
     refine wpList_plain rfl fun K hK => ?_
     go_simp
     refine hK _ _ ?_
     clear hK K
     try simp only [sx]
     refine wpList_plain rfl fun K hK => ?_
     go_simp
     refine hK _ _ ?_
     clear hK K
     try simp only [sx]
     refine wpList_plain rfl fun K hK => ?_
     go_simp
     refine hK _ _ ?_
     clear hK K
     try simp only [sx]
     refine wpList_plain rfl fun K hK => ?_
     go_simp
     refine hK _ _ ?_
     clear hK K
     try simp only [sx]
     refine wl_st34n rfl rfl rfl rfl rfl rfl (by kernel_rfl) ?_
     try simp only [sx]
     refine wpList_plain rfl fun K hK => ?_
     go_simp
     refine hK _ _ ?_
     clear hK K
     try simp only [sx]
     refine wpList_plain rfl fun K hK => ?_
     go_simp
     refine hK _ _ ?_
     clear hK K
     try simp only [sx]
     have hT9 := hT8.ext ((Ext.refl w8).alloc (.cells #[.int .i64 p.me, .int .i64 p.ht, .string p.own, .int .i64 s'.rd, .int .i64 s'.st, .string s'.lk, .int .i64 s'.lr, .string s'.vv, .int .i64 s'.vr, .slice b1 s1.ps.length d1, .int .i64 (p.n : Int), .int .i64 (p.t : Int), .slice b2 s1.vs.length d2, .bool (fiveA s'), .bool s'.dn, .string s'.dc] 34))
     obtain ⟨Wq, hWq⟩ : ∃ X, w8.alloc (.cells #[.int .i64 p.me, .int .i64 p.ht, .string p.own, .int .i64 s'.rd, .int .i64 s'.st, .string s'.lk, .int .i64 s'.lr, .string s'.vv, .int .i64 s'.vr, .slice b1 s1.ps.length d1, .int .i64 (p.n : Int), .int .i64 (p.t : Int), .slice b2 s1.vs.length d2, .bool (fiveA s'), .bool s'.dn, .string s'.dc] 34) = X := ⟨_, rfl⟩
     rw [hWq] at hT9 ⊢
     clear hWq hT8
     go_upto_region 26 with fail
     refine wp_region_lit ?_
     refine wl_ld34 rfl rfl rfl hT9.r2.b0 rfl ?_
     try simp only [sx]
     refine wpList_plain rfl fun K hK => ?_
     go_simp
     refine hK _ _ ?_
     clear hK K
     try simp only [sx]
     refine wl_st34 rfl rfl rfl rfl hT9.r2 rfl (by kernel_rfl) ?_
     intro W1' hR1' hG1' hB1' hK1'
     try simp only [sx]
     refine wpList_plain rfl fun K hK => ?_
     go_simp
     refine hK _ _ ?_
     clear hK K
     try simp only [sx]
     go_wp2_with fail
     rw [HTk.out]
     refine bodyPost_ret (ret_two Try.results18 _ _ (w.heap.size + 1 + 1) 34 #[.int .i64 p.me, .int .i64 p.ht, .string p.own, .int .i64 s'.rd, .int .i64 s'.st, .string s'.lk, .int .i64 s'.lr, .string s'.vv, .int .i64 s'.vr, .slice b1 s1.ps.length d1, .int .i64 (p.n : Int), .int .i64 (p.t : Int), .slice b2 s1.vs.length d2, .bool (fiveA s'), .bool s'.dn, .string s'.dc] (0, 0) rfl hG1' rfl) rfl ?_
     have f1 : (stl p s1).1 = s' := hT9.e1.trans (by rw [stl_none HRl.out])
     have f2 : o0 ++ (stl p s1).2 = out := hT9.e2.trans (by rw [stl_none HRl.out, List.append_nil])
     dsimp only
     rw [f1, f2]
     refine ⟨b1, d1, b2, d2, ua, un, uc, ?_, ?_, ?_, ?_, hR1'.ext, fun k q => HBo.out.1 k (by rw [hT9.ps] at q; exact q), fun k q => HBo.out.2 k (by rw [hT9.vs] at q; exact q)⟩
     ·rw [hT9.ps, hT9.vs]
      rfl
     ·rw [hT9.ps]
      exact own_keep hT9.o1 (fun k q => hK1'.1 k (hT9.b1 k q).2.2)
     ·rw [hT9.vs]
      exact own_keep hT9.o2 (fun k q => hK1'.1 k (hT9.b2 k q).2.2)
     ·exact own_base (own_keep hT9.ou (fun k q => hK1'.1 k (fun z => by have := (hT9.ou.lt k q).1; have := hT9.bg.2; omega))) hT9.wB
    | some x =>
     have HRl : Hid (ruleA p s' = some x) := hr
     clear hr
     have k14 := (hT.r2.cell (j := 14) (v := .bool s'.dn) rfl).1
     have kl := (hT.r2.cell (j := 0) rfl).2
     rw [Hdn.out] at k14
     go_upto_region 22 with fail
     clear k14 kl
     refine wp_region_lit ?_
     refine wl_ld34 rfl rfl rfl hT.r2.b0 rfl ?_
     try simp only [sx]
     refine wpList_plain rfl fun K hK => ?_
     go_simp
     refine (HRc.out _ (Ext.refl _)).mono ?_
     rintro e w8 hu8
     unfold RuP at hu8
     rw [HRl.out] at hu8
     obtain ⟨sa, sn, sc, rfl, ho8, HX8⟩ := hu8
     have hT8 := hT.ext HX8
     dsimp only
     refine hK _ _ ?_
     clear hK K
     try simp only [sx]
     refine wpList_plain rfl fun K hK => ?_
     go_simp
     refine hK _ _ ?_
     clear hK K
     try simp only [sx]
     refine wpList_plain rfl fun K hK => ?_
     go_simp
     refine hK _ _ ?_
     clear hK K
     try simp only [sx]
     refine wpList_plain rfl fun K hK => ?_
     go_simp
     refine hK _ _ ?_
     clear hK K
     try simp only [sx]
     refine wpList_plain rfl fun K hK => ?_
     go_simp
     refine hK _ _ ?_
     clear hK K
     try simp only [sx]
     refine wpList_plain rfl fun K hK => ?_
     go_simp
     refine hK _ _ ?_
     clear hK K
     try simp only [sx]
     refine wl_st34n rfl rfl rfl rfl rfl rfl (by kernel_rfl) ?_
     try simp only [sx]
     refine wpList_plain rfl fun K hK => ?_
     go_simp
     refine hK _ _ ?_
     clear hK K
     try simp only [sx]
     refine wpList_plain rfl fun K hK => ?_
     go_simp
     refine hK _ _ ?_
     clear hK K
     try simp only [sx]
     go_upto_region 24 with fail
     refine wp_region_lit ?_
     refine wl_ld34 rfl rfl rfl (heap_alloc_new _ _) rfl ?_
     try simp only [sx]
     refine wl_st34a rfl rfl rfl rfl (hT8.r2.further ((Ext.refl _).alloc _)) rfl rfl (by kernel_rfl) ?_
     intro W' hR' hB' hK'
     try simp only [sx]
     have hT9 := hT8.ext ((Ext.refl w8).alloc (.cells #[.int .i64 p.me, .int .i64 p.ht, .string p.own, .int .i64 x.1.rd, .int .i64 x.1.st, .string x.1.lk, .int .i64 x.1.lr, .string x.1.vv, .int .i64 x.1.vr, .slice b1 s1.ps.length d1, .int .i64 (p.n : Int), .int .i64 (p.t : Int), .slice b2 s1.vs.length d2, .bool (fiveA x.1), .bool x.1.dn, .string x.1.dc] 34))
     have HO9 : Hid (W'.ownsRow wr.heap.size 39 5 (.slice sa sn sc) x.2.length (wcs x.2)) := own_keep (own_ext ho8 ((Ext.refl w8).alloc (.cells #[.int .i64 p.me, .int .i64 p.ht, .string p.own, .int .i64 x.1.rd, .int .i64 x.1.st, .string x.1.lk, .int .i64 x.1.lr, .string x.1.vv, .int .i64 x.1.vr, .slice b1 s1.ps.length d1, .int .i64 (p.n : Int), .int .i64 (p.t : Int), .slice b2 s1.vs.length d2, .bool (fiveA x.1), .bool x.1.dn, .string x.1.dc] 34))) (fun k q => hK'.1 k (fun z => by have := (ho8.lt k q).1; have := (Array.getElem?_eq_some_iff.1 hT.r2.b0).1; omega))
     have HLx : Hid (x.2.length ≤ 1) := rule_lenR HRl.out
     have HOu : Hid (W'.ownsRow B 39 5 (.slice ua un uc) out.length (wcs out)) := own_keep hT9.ou (fun k q => hK'.1 k (fun z => by have := (hT9.ou.lt k q).1; have := hT9.bg.1; omega))
     have HBs : Hid (B ≤ W'.heap.size) := by show B ≤ W'.heap.size; rw [hK'.2]; exact hT9.bs
     have HSt : Hid (∀ u' W'', W''.ownsRow B 39 5 u' (out.length + x.2.length) (wcs out ++ wcs x.2) → W'.grownBy W'' (Value.slice ua un uc).ownBlock → TL w w.heap.size (w.heap.size + 1 + 1) B p s1 o0 b1 d1 b2 d2 (kk + 1) x.1 (out ++ x.2) u' W'') := fun u' W'' q1 q2 => hT9.set Hdn.out HRl.out hR' hK' q1 q2
     have HLo : Hid (out.length ≤ 1000) := Nat.le_trans (Nat.le_add_right _ _) hT.len
     have Hm : Hid (1000 - (intOf (.int .i64 ((kk : Int) + 1))).toNat < 1000 - (intOf (.int .i64 (kk : Int))).toNat) := lp_meas hkk
     clear hT8 hT9 hT ho8 hR' hB' hK'
     go_upto_region 25 with fail
     refine wp_region_lit ?_
     refine wpList_plain rfl fun K hK => ?_
     go_simp
     refine hK _ _ ?_
     clear hK K
     try simp only [sx]
     refine wpList_plain rfl fun K hK => ?_
     go_simp
     refine hK _ _ ?_
     clear hK K
     try simp only [sx]
     refine wpList_plain rfl fun K hK => ?_
     refine app22 W' (.tmp 118) (.tmp 119) rfl B (.slice ua un uc) out.length (wcs out) rfl HOu.out (.slice sa sn sc) x.2.length (wcs x.2) rfl (own_slv HO9.out) (wcs_len _) (wcs_one _) (by have := HLo.out; have := HLx.out; omega) HBs.out ?_
     intro u' W'' z1 z2 _
     obtain ⟨a', c', rfl⟩ := own_len z1
     have HTn : Hid _ := HSt.out _ _ z1 z2
     refine hK _ _ ?_
     clear hK K z1 z2 HSt HOu HO9
     try simp only [sx]
     go_wp2_with fail
     go_roundw
     case rel => exact ⟨kk + 1, x.1, out ++ x.2, _, _, _, by push_cast; rfl, rfl, HTn⟩
     case measure => exact Hm.out
theorem rtake_any (p : Pm) (s : Ag) (m : Vt) (hp : okP p) (hi : InvA p s) (a1 : Option Addr) (c1 : Nat) (a2 : Option Addr) (c2 : Nat) (hn : s.ps.length + s.vs.length ≤ 500) (w : World) (hO1 : w.ownsRow 0 39 5 (.slice a1 s.ps.length c1) s.ps.length (wcs s.ps)) (hO2 : w.ownsRow 0 39 5 (.slice a2 s.vs.length c2) s.vs.length (wcs s.vs)) :
  Calls Try.prog 18 #[av p s a1 s.ps.length c1 a2 s.vs.length c2, wv m] w fun e w' => RTk p (takeA p s m).1 (takeA p s m).2 (.slice a1 s.ps.length c1) (.slice a2 s.vs.length c2) w e w' := by
 by_cases hc : s.rd < 0 ∨ s.dn = true
 ·exact rtake_early p s m hp hi a1 c1 a2 c2 hn w hO1 hO2 hc
 have h0 : 0 ≤ s.rd := by omega
 have hd : s.dn = false := by simpa using fun q => hc (.inr q)
 by_cases h4 : m.kd = 4
 ·by_cases hv : 1 ≤ m.va ∧ m.va ≤ 3 ∧ m.rd = s.rd
  ·exact rtake_4 p s m hp hi a1 c1 a2 c2 hn w hO1 hO2 h0 hd h4 hv.1 hv.2.1 hv.2.2
  ·exact rtake_4n p s m hp hi a1 c1 a2 c2 hn w hO1 hO2 h0 hd h4 hv
 cases hw : wOk m with
 | false => exact rtake_bad p s m hp hi a1 c1 a2 c2 hn w hO1 hO2 h0 hd h4 hw
 | true =>
  by_cases h1 : m.kd = 1
  ·cases hq : propA s.ps m.rd with
   | some y => exact rtake_pn p s m hp hi a1 c1 a2 c2 hn w hO1 hO2 h0 hd h1 hw ⟨y, hq⟩
   | none =>
    by_cases hle : m.fr = leadA p.n p.ht m.rd
    ·exact rtake_p p s m hp hi a1 c1 a2 c2 hn w hO1 hO2 h0 hd h1 hw hq hle
    ·exact rtake_pl p s m hp hi a1 c1 a2 c2 hn w hO1 hO2 h0 hd h1 hw hq hle
  ·cases hok : okV p.n s.vs m with
   | false => exact rtake_vn p s m hp hi a1 c1 a2 c2 hn w hO1 hO2 h0 hd h4 h1 hw hok
   | true => exact rtake_v p s m hp hi a1 c1 a2 c2 hn w hO1 hO2 h0 hd h4 h1 hw hok
end Go.Proofs.Ytmanacbdldfmfaa
