/-
 The document's part: rule, called.
-/
import Derived.Test.YtmanacbdldfmfaaRc
namespace Go.Proofs.Ytmanacbdldfmfaa
open Go.RowKit
set_option maxRecDepth 10000
/-- The row of the part itself is set. -/
theorem wl_st34a {ops : Array Oper} {rest : List Oper} {o : Oper} {a : Act} {W : World} {Q : Exit → Act → World → Prop} {x y : Operand} (hgd : o.guard = none) (ho : o.op = .store 34 x y) {g0 : Nat} {cs' : Array Value} (hx : a.eval x = .pointer (some ⟨g0, 0, none⟩)) (hy : a.eval y = .agg cs') {w : World} {g1 : Nat} {cs : Array Value} (hR : R2 w g0 cs g1 W) (hc : cs.size = 16) (hs : cs'.size = 16) (h1 : cs'.all (·.oneCell') = true)
  (h : ∀ W', R2 w g0 cs' g1 W' → W'.heap[g0]? = some (.cells cs' 34 (0, 0)) → (∀ k, k ≠ g0 → W'.heap[k]? = W.heap[k]?) ∧ W'.heap.size = W.heap.size → wpList Try.prog ops Q rest (a.put o.dst undef) W') : wpList Try.prog ops Q (o :: rest) a W :=
 wpList_plain hgd fun _ hK => by
  refine wp_store_row 34 x y ho g0 cs' hx hy 34 cs hR.b0 (by rw [hs]; exact size34) (by rw [hc, hs]) h1 (hK _ _ ?_)
  obtain ⟨z, hz, hb⟩ := hR.b1
  have q := setRow_heap W g0 _ cs' 34 (0, 0) hR.b0
  exact h _ ⟨hR.ext.row hR.l0 cs', q, ⟨z, hz, (setRow_other W g0 g1 cs' (fun e => hR.ne e.symm)).trans hb⟩, hR.l0, hR.l1, hR.ne⟩ q ⟨fun k hk => setRow_other W g0 k cs' hk, by simp [World.setRow]⟩
/-- What the definition's rule does. -/
def RuP (p : Pm) (s : Ag) (a1 : Option Addr) (n1 c1 : Nat) (a2 : Option Addr) (n2 c2 : Nat) (w : World) (e : Ending) (w' : World) : Prop := match ruleA p s with
 | some x => ∃ a n c, e = .returned (.tuple #[av p x.1 a1 n1 c1 a2 n2 c2, .slice a n c, .bool true]) ∧ w'.ownsRow w.heap.size 39 5 (.slice a n c) x.2.length (wcs x.2) ∧ Ext w w'
 | none => e = .returned (.tuple #[av p s a1 n1 c1 a2 n2 c2, .slice none 0 0, .bool false]) ∧ Ext w w'
theorem rule_of {p : Pm} {s : Ag} (h1 : r1 p s = none) (h2 : r2 p s = none) : ruleA p s = (r3 p s).or ((r5 p s).or (r6 p s)) := by unfold ruleA; rw [h1, h2]; rfl
theorem five_valid (s : Ag) (B : ByteArray) (h : 0 ≤ s.rd) : fiveA (validA s B) = true := decide_eq_true ⟨h, rfl⟩
theorem five_lock (s : Ag) (B : ByteArray) (h : 0 ≤ s.rd) : fiveA (lockA s B) = true := decide_eq_true ⟨h, rfl⟩
set_option maxHeartbeats 16000000 in
theorem rrule_any (p : Pm) (s : Ag) (hp : okP p) (hi : InvA p s) (h0 : 0 ≤ s.rd) (a1 : Option Addr) (c1 : Nat) (a2 : Option Addr) (c2 : Nat) (hn1 : s.ps.length ≤ 1000) (hn2 : s.vs.length ≤ 1000) (w : World) (hL1 : WsIs w (.slice a1 s.ps.length c1) s.ps) (hL2 : WsIs w (.slice a2 s.vs.length c2) s.vs) :
  Calls Try.prog 36 #[av p s a1 s.ps.length c1 a2 s.vs.length c2] w fun e w' => RuP p s a1 s.ps.length c1 a2 s.vs.length c2 w e w' := by
 have HR : Hid (R2 w w.heap.size #[.int .i64 p.me, .int .i64 p.ht, .string p.own, .int .i64 s.rd, .int .i64 s.st, .string s.lk, .int .i64 s.lr, .string s.vv, .int .i64 s.vr, .slice a1 s.ps.length c1, .int .i64 (p.n : Int), .int .i64 (p.t : Int), .slice a2 s.vs.length c2, .bool (fiveA s), .bool s.dn, .string s.dc] (w.heap.size + 1) ((w.alloc (.cells #[.int .i64 p.me, .int .i64 p.ht, .string p.own, .int .i64 s.rd, .int .i64 s.st, .string s.lk, .int .i64 s.lr, .string s.vv, .int .i64 s.vr, .slice a1 s.ps.length c1, .int .i64 (p.n : Int), .int .i64 (p.t : Int), .slice a2 s.vs.length c2, .bool (fiveA s), .bool s.dn, .string s.dc] 34)).alloc (.cells #[.int .i64 0, .int .i64 0, .string ⟨#[]⟩, .int .i64 0, .int .i64 0, .string ⟨#[]⟩, .int .i64 0, .string ⟨#[]⟩, .int .i64 0, .slice none 0 0, .int .i64 0, .int .i64 0, .slice none 0 0, .bool false, .bool false, .string ⟨#[]⟩] 34))) := R2.new w _ _ rfl
 have H0 : Hid (0 ≤ s.rd) := h0
 have HP : Hid (∀ wx, Ext w wx → Calls Try.prog 34 #[av p s a1 s.ps.length c1 a2 s.vs.length c2, .int .i64 s.rd] wx fun e w' => PropP s.ps s.rd wx e w') := fun wx hx => rprop_any p s a1 _ c1 a2 _ c2 s.rd rfl hn1 wx (hL1.ext hx)
 have HI : Hid (∀ wx, Ext w wx → ∀ (k r : Int) (B : ByteArray), Calls Try.prog 51 #[av p s a1 s.ps.length c1 a2 s.vs.length c2, .int .i64 k, .int .i64 r, .string B] wx fun e w' => e = .returned (.bool (isA p s.vs k r B)) ∧ Ext wx w') := fun wx hx k r B => ris_any p s hp hi a1 _ c1 a2 c2 k r B hn2 wx (hL2.ext hx)
 have HDc : Hid (∀ wx, Ext w wx → Calls Try.prog 49 #[av p s a1 s.ps.length c1 a2 s.vs.length c2] wx fun e w' => RdP p s a1 s.ps.length c1 a2 s.vs.length c2 wx e w') := fun wx hx => rdecide_any p s hp hi a1 c1 a2 c2 hn1 hn2 wx (hL1.ext hx) (hL2.ext hx)
 have HAh : Hid (∀ wx, Ext w wx → Calls Try.prog 50 #[rV p.n p.t (.slice a2 s.vs.length c2), .int .i64 s.rd] wx fun e w' => e = .returned (.int .i64 (aheadV p.n p.t s.vs s.rd)) ∧ Ext wx w') := fun wx hx => rahead_any (by have := hp.1.2.2.2; omega) a2 c2 s.vs s.rd hn2 wx (hL2.ext hx)
 have HVr : Hid (s.vr ≤ s.rd) := hi.vr.2
 have HPw : Hid (∀ m, propA s.ps s.rd = some m → -1 ≤ m.va) := fun m e => (prop_wf hi e).2.1
 clear hp hi hL1 hL2 hn1 hn2 h0
 go_enter Try.func36, Try.ntmps36
 go_upto_region 1 with fail
 obtain ⟨W, hW⟩ : ∃ W, ((w.alloc (.cells #[.int .i64 p.me, .int .i64 p.ht, .string p.own, .int .i64 s.rd, .int .i64 s.st, .string s.lk, .int .i64 s.lr, .string s.vv, .int .i64 s.vr, .slice a1 s.ps.length c1, .int .i64 (p.n : Int), .int .i64 (p.t : Int), .slice a2 s.vs.length c2, .bool (fiveA s), .bool s.dn, .string s.dc] 34)).alloc (.cells #[.int .i64 0, .int .i64 0, .string ⟨#[]⟩, .int .i64 0, .int .i64 0, .string ⟨#[]⟩, .int .i64 0, .string ⟨#[]⟩, .int .i64 0, .slice none 0 0, .int .i64 0, .int .i64 0, .slice none 0 0, .bool false, .bool false, .string ⟨#[]⟩] 34)) = W := ⟨_, rfl⟩
 rw [hW] at HR ⊢
 clear hW
 have hR0 := HR.out
 have hB0 := hR0.b0
 clear HR
 cases h1 : r1 p s with
 | some x =>
  have H1 : Hid (r1 p s = some x) := h1
  have HRl : Hid (ruleA p s = some x) := by show ruleA p s = _; unfold ruleA; rw [h1]; rfl
  have HXn : Hid (x.2 = []) := (r1_done h1).2
  clear h1
  go_upto_region 1 with fail
  refine wp_region_lit ?_
  refine wl_ld34 rfl rfl rfl hB0 rfl ?_
  try simp only [sx]
  refine wpList_plain rfl fun K hK => ?_
  go_simp
  refine (HDc.out _ hR0.ext).mono ?_
  rintro e w1 hd1
  unfold RdP at hd1
  rw [H1.out] at hd1
  obtain ⟨rfl, HX1⟩ := hd1
  have hRa := hR0.further HX1
  clear HX1
  dsimp only
  refine hK _ _ ?_
  clear hK K
  try simp only [sx]
  refine wpList_plain rfl fun K hK => ?_
  go_simp
  refine hK _ _ ?_
  clear hK K
  try simp only [sx]
  refine wpList_plain rfl fun K hK => ?_
  go_simp
  refine hK _ _ ?_
  clear hK K
  try simp only [sx]
  refine wpList_plain rfl fun K hK => ?_
  go_simp
  refine hK _ _ ?_
  clear hK K
  try simp only [sx]
  refine wpList_plain rfl fun K hK => ?_
  go_simp
  refine hK _ _ ?_
  clear hK K
  try simp only [sx]
  refine wl_st34n rfl rfl rfl rfl rfl rfl (by kernel_rfl) ?_
  try simp only [sx]
  refine wpList_plain rfl fun K hK => ?_
  go_simp
  refine hK _ _ ?_
  clear hK K
  try simp only [sx]
  go_upto_region 3 with fail
  refine wp_region_lit ?_
  refine wl_ld34 rfl rfl rfl (heap_alloc_new _ _) rfl ?_
  try simp only [sx]
  refine wl_st34 rfl rfl rfl rfl (hRa.further ((Ext.refl _).alloc _)) rfl (by kernel_rfl) ?_
  intro W1' hR1' hG1' hB1' hK1'
  try simp only [sx]
  refine wpList_plain rfl fun K hK => ?_
  go_simp
  refine hK _ _ ?_
  clear hK K
  try simp only [sx]
  refine wpList_plain rfl fun K hK => ?_
  go_simp
  refine hK _ _ ?_
  clear hK K
  try simp only [sx]
  go_wp2_with fail
  refine bodyPost_ret (ret_three Try.results36 _ _ (w.heap.size + 1) 34 #[.int .i64 p.me, .int .i64 p.ht, .string p.own, .int .i64 x.1.rd, .int .i64 x.1.st, .string x.1.lk, .int .i64 x.1.lr, .string x.1.vv, .int .i64 x.1.vr, .slice a1 s.ps.length c1, .int .i64 (p.n : Int), .int .i64 (p.t : Int), .slice a2 s.vs.length c2, .bool (fiveA x.1), .bool x.1.dn, .string x.1.dc] (0, 0) rfl hG1' rfl) rfl ?_
  unfold RuP
  rw [HRl.out]
  exact ⟨_, _, _, rfl, (by rw [HXn.out]; exact World.ownsRow_nil _ _ _ _), hR1'.ext⟩
 | none =>
  have H1 : Hid (r1 p s = none) := h1
  go_upto_region 1 with fail
  refine wp_region_lit ?_
  refine wl_ld34 rfl rfl rfl hB0 rfl ?_
  try simp only [sx]
  refine wpList_plain rfl fun K hK => ?_
  go_simp
  refine (HDc.out _ hR0.ext).mono ?_
  rintro e w1 hd1
  unfold RdP at hd1
  rw [H1.out] at hd1
  obtain ⟨rfl, HX1⟩ := hd1
  have hRa := hR0.further HX1
  clear HX1
  dsimp only
  refine hK _ _ ?_
  clear hK K
  try simp only [sx]
  refine wpList_plain rfl fun K hK => ?_
  go_simp
  refine hK _ _ ?_
  clear hK K
  try simp only [sx]
  refine wpList_plain rfl fun K hK => ?_
  go_simp
  refine hK _ _ ?_
  clear hK K
  try simp only [sx]
  refine wpList_plain rfl fun K hK => ?_
  go_simp
  refine hK _ _ ?_
  clear hK K
  try simp only [sx]
  refine wpList_plain rfl fun K hK => ?_
  go_simp
  refine hK _ _ ?_
  clear hK K
  try simp only [sx]
  refine wl_st34n rfl rfl rfl rfl rfl rfl (by kernel_rfl) ?_
  try simp only [sx]
  refine wpList_plain rfl fun K hK => ?_
  go_simp
  refine hK _ _ ?_
  clear hK K
  try simp only [sx]
  have hRb := hRa.further ((Ext.refl w1).alloc (.cells #[.int .i64 p.me, .int .i64 p.ht, .string p.own, .int .i64 s.rd, .int .i64 s.st, .string s.lk, .int .i64 s.lr, .string s.vv, .int .i64 s.vr, .slice a1 s.ps.length c1, .int .i64 (p.n : Int), .int .i64 (p.t : Int), .slice a2 s.vs.length c2, .bool (fiveA s), .bool s.dn, .string s.dc] 34))
  obtain ⟨W4, hW4⟩ : ∃ X, w1.alloc (.cells #[.int .i64 p.me, .int .i64 p.ht, .string p.own, .int .i64 s.rd, .int .i64 s.st, .string s.lk, .int .i64 s.lr, .string s.vv, .int .i64 s.vr, .slice a1 s.ps.length c1, .int .i64 (p.n : Int), .int .i64 (p.t : Int), .slice a2 s.vs.length c2, .bool (fiveA s), .bool s.dn, .string s.dc] 34) = X := ⟨_, rfl⟩
  rw [hW4] at hRb ⊢
  clear hW4 hRa hR0 hB0
  have k3 := (hRb.cell (j := 3) rfl).1
  have k10 := (hRb.cell (j := 10) rfl).1
  have k11 := (hRb.cell (j := 11) rfl).1
  have k12 := (hRb.cell (j := 12) rfl).1
  have kl := (hRb.cell (j := 0) rfl).2
  go_wp2_with fail
  refine (HAh.out _ hRb.ext).mono ?_
  rintro e w3 ⟨rfl, HX3⟩
  have hRc := hRb.further HX3
  clear k3 k10 k11 k12 kl
  clear HX3 hRb
  by_cases ha : s.rd < aheadV p.n p.t s.vs s.rd
  ·have da : decide (s.rd < aheadV p.n p.t s.vs s.rd) = true := decide_eq_true ha
   have HRl : Hid (ruleA p s = some (beginA p s (aheadV p.n p.t s.vs s.rd))) := by
    show ruleA p s = _
    have h2 : r2 p s = some (beginA p s (aheadV p.n p.t s.vs s.rd)) := if_pos ha
    unfold ruleA; rw [h1, h2]; rfl
   have HBg : Hid (∀ wx, Calls Try.prog 30 #[av p s a1 s.ps.length c1 a2 s.vs.length c2, .int .i64 (aheadV p.n p.t s.vs s.rd)] wx fun e w' => SayP p (beginA p s (aheadV p.n p.t s.vs s.rd)).1 (beginA p s (aheadV p.n p.t s.vs s.rd)).2 a1 s.ps.length c1 a2 s.vs.length c2 wx e w') := fun wx => rbegin_any p s a1 s.ps.length c1 a2 s.vs.length c2 _ (by have := HVr.out; omega) wx
   clear h1 ha
   have k3 := (hRc.cell (j := 3) rfl).1
   have kl := (hRc.cell (j := 0) rfl).2
   go_upto_region 6 with fail
   clear k3 kl
   refine wp_region_lit ?_
   refine wl_ld34 rfl rfl rfl hRc.b0 rfl ?_
   try simp only [sx]
   refine wpList_plain rfl fun K hK => ?_
   go_simp
   refine hK _ _ ?_
   clear hK K
   try simp only [sx]
   refine wpList_plain rfl fun K hK => ?_
   go_simp
   refine (HBg.out _).mono ?_
   rintro e wy ⟨sa, sn, sc, rfl, ho, hx⟩
   have hRcn := hRc.further hx
   have HO : Hid (wy.ownsRow w.heap.size 39 5 (.slice sa sn sc) (beginA p s (aheadV p.n p.t s.vs s.rd)).2.length (wcs (beginA p s (aheadV p.n p.t s.vs s.rd)).2)) := own_base ho hRc.ext.size
   have HU : Hid (∀ k, (Value.slice sa sn sc).ownBlock = some k → k ≠ (w.heap.size + 1) ∧ k ≠ w.heap.size ∧ k < wy.heap.size) := fun k q => by
    have := ho.lt k q
    obtain ⟨z, _, qq⟩ := hRc.b1
    have := (Array.getElem?_eq_some_iff.1 qq).1
    have := (Array.getElem?_eq_some_iff.1 hRc.b0).1
    exact ⟨by omega, by omega, (ho.lt k q).2⟩
   clear ho hx
   dsimp only
   refine hK _ _ ?_
   clear hK K
   try simp only [sx]
   refine wpList_plain rfl fun K hK => ?_
   go_simp
   refine hK _ _ ?_
   clear hK K
   try simp only [sx]
   refine wpList_plain rfl fun K hK => ?_
   go_simp
   refine hK _ _ ?_
   clear hK K
   try simp only [sx]
   refine wpList_plain rfl fun K hK => ?_
   go_simp
   refine hK _ _ ?_
   clear hK K
   try simp only [sx]
   refine wpList_plain rfl fun K hK => ?_
   go_simp
   refine hK _ _ ?_
   clear hK K
   try simp only [sx]
   refine wl_st34n rfl rfl rfl rfl rfl rfl (by kernel_rfl) ?_
   try simp only [sx]
   refine wpList_plain rfl fun K hK => ?_
   go_simp
   refine hK _ _ ?_
   clear hK K
   try simp only [sx]
   go_upto_region 7 with fail
   refine wp_region_lit ?_
   refine wl_ld34 rfl rfl rfl (heap_alloc_new _ _) rfl ?_
   try simp only [sx]
   refine wpList_plain rfl fun K hK => ?_
   go_simp
   refine hK _ _ ?_
   clear hK K
   try simp only [sx]
   refine wl_st34 rfl rfl rfl rfl (hRcn.further ((Ext.refl _).alloc _)) rfl (by kernel_rfl) ?_
   intro W1' hR1' hG1' hB1' hK1'
   try simp only [sx]
   refine wpList_plain rfl fun K hK => ?_
   go_simp
   refine hK _ _ ?_
   clear hK K
   try simp only [sx]
   refine wpList_plain rfl fun K hK => ?_
   go_simp
   refine hK _ _ ?_
   clear hK K
   try simp only [sx]
   go_wp2_with fail
   refine bodyPost_ret (ret_three Try.results36 _ _ (w.heap.size + 1) 34 #[.int .i64 p.me, .int .i64 p.ht, .string p.own, .int .i64 (beginA p s (aheadV p.n p.t s.vs s.rd)).1.rd, .int .i64 (beginA p s (aheadV p.n p.t s.vs s.rd)).1.st, .string (beginA p s (aheadV p.n p.t s.vs s.rd)).1.lk, .int .i64 (beginA p s (aheadV p.n p.t s.vs s.rd)).1.lr, .string (beginA p s (aheadV p.n p.t s.vs s.rd)).1.vv, .int .i64 (beginA p s (aheadV p.n p.t s.vs s.rd)).1.vr, .slice a1 s.ps.length c1, .int .i64 (p.n : Int), .int .i64 (p.t : Int), .slice a2 s.vs.length c2, .bool (fiveA (beginA p s (aheadV p.n p.t s.vs s.rd)).1), .bool (beginA p s (aheadV p.n p.t s.vs s.rd)).1.dn, .string (beginA p s (aheadV p.n p.t s.vs s.rd)).1.dc] (0, 0) rfl hG1' rfl) rfl ?_
   unfold RuP
   rw [HRl.out]
   exact ⟨_, _, _, rfl, own_keep (own_ext HO.out ((Ext.refl _).alloc _)) (fun k q => hK1'.1 k (HU.out k q).1), hR1'.ext⟩
  ·have da : decide (s.rd < aheadV p.n p.t s.vs s.rd) = false := decide_eq_false ha
   have h2 : r2 p s = none := if_neg ha
   clear ha
   have k3 := (hRc.cell (j := 3) rfl).1
   have kl := (hRc.cell (j := 0) rfl).2
   go_upto_region 8 with fail
   clear k3 kl
   cases hq : propA s.ps s.rd with
   | none =>
    have HQ1 : Hid (propA s.ps s.rd = none) := hq
    have h3 : r3 p s = none := by unfold r3; rw [hq]
    have h5 : r5 p s = none := by unfold r5; rw [hq]
    have HR6 : Hid (ruleA p s = r6 p s) := by show ruleA p s = _; rw [rule_of h1 h2, h3, h5]; rfl
    clear hq h1 h2 h3 h5
    have k3 := (hRc.cell (j := 3) rfl).1
    have kl := (hRc.cell (j := 0) rfl).2
    refine wp_region_lit ?_
    refine wl_ld34 rfl rfl rfl hRc.b0 rfl ?_
    try simp only [sx]
    refine wpList_plain rfl fun K hK => ?_
    go_simp
    refine hK _ _ ?_
    clear hK K
    try simp only [sx]
    refine wpList_plain rfl fun K hK => ?_
    go_simp
    refine hK _ _ ?_
    clear hK K
    try simp only [sx]
    refine wpList_plain rfl fun K hK => ?_
    go_simp
    refine (HP.out _ hRc.ext).mono ?_
    rintro e w5 hp1
    unfold PropP at hp1
    rw [HQ1.out] at hp1
    obtain ⟨rfl, HX5⟩ := hp1
    have hRd := hRc.further HX5
    clear HX5
    dsimp only
    refine hK _ _ ?_
    clear hK K
    try simp only [sx]
    refine wpList_plain rfl fun K hK => ?_
    go_simp
    refine hK _ _ ?_
    clear hK K
    try simp only [sx]
    refine wpList_plain rfl fun K hK => ?_
    go_simp
    refine hK _ _ ?_
    clear hK K
    try simp only [sx]
    refine wpList_plain rfl fun K hK => ?_
    go_simp
    refine hK _ _ ?_
    clear hK K
    try simp only [sx]
    refine wpList_plain rfl fun K hK => ?_
    go_simp
    refine hK _ _ ?_
    clear hK K
    try simp only [sx]
    refine wpList_plain rfl fun K hK => ?_
    go_simp
    refine hK _ _ ?_
    clear hK K
    try simp only [sx]
    refine wpList_plain rfl fun K hK => ?_
    go_simp
    refine hK _ _ ?_
    clear hK K
    try simp only [sx]
    clear k3 kl
    have hRe := hRd.further ((Ext.refl w5).alloc (.cells #[.int .i64 0, .int .i64 0, .int .i64 0, .int .i64 0, .string ⟨#[]⟩] 39))
    have hWe : Wd w5.heap.size 0 0 0 0 ⟨#[]⟩ (w5.alloc (.cells #[.int .i64 0, .int .i64 0, .int .i64 0, .int .i64 0, .string ⟨#[]⟩] 39)) := Wd.new w5 _ _ _ _ _
    have HGP : Hid (¬ w5.heap.size = w.heap.size ∧ ¬ w5.heap.size = (w.heap.size + 1)) := by
     obtain ⟨z, _, q⟩ := hRd.b1
     have := (Array.getElem?_eq_some_iff.1 q).1
     exact ⟨by omega, by omega⟩
    obtain ⟨W9, hW9⟩ : ∃ X, w5.alloc (.cells #[.int .i64 0, .int .i64 0, .int .i64 0, .int .i64 0, .string ⟨#[]⟩] 39) = X := ⟨_, rfl⟩
    rw [hW9] at hRe hWe ⊢
    clear hW9 hRd hRc
    generalize w5.heap.size = gp at *
    go_upto_region 25 with fail
    by_cases h62 : s.st = 2
    ·have e62 : (s.st == 2) = true := by simpa using h62
     cases hm6 : isA p s.vs 2 s.rd emp with
     | true =>
      have Hm6 : Hid (isA p s.vs 2 s.rd emp = true) := hm6
      have HRl : Hid (ruleA p s = some (voteA p s 3 emp)) := (HR6.out).trans (if_pos ⟨h62, hm6⟩)
      clear h62 hm6
      have k3 := (hRe.cell (j := 3) rfl).1
      have k4 := (hRe.cell (j := 4) rfl).1
      have kl := (hRe.cell (j := 0) rfl).2
      go_upto_region 25 with fail
      refine wp_region_lit ?_
      refine wpList_plain rfl fun K hK => ?_
      go_simp
      refine hK _ _ ?_
      clear hK K
      try simp only [sx]
      refine wpList_plain rfl fun K hK => ?_
      go_simp
      refine hK _ _ ?_
      clear hK K
      try simp only [sx]
      refine wpList_plain rfl fun K hK => ?_
      go_simp
      refine hK _ _ ?_
      clear hK K
      try simp only [sx]
      refine wpList_plain rfl fun K hK => ?_
      go_simp
      refine hK _ _ ?_
      clear hK K
      try simp only [sx]
      refine BigFrame.wpList_want rfl fun K hK => ?_
      refine wp_ld34 rfl rfl hRe.b0 rfl ?_
      refine hK _ _ ?_
      clear hK K
      try simp only [sx]
      refine BigFrame.wpList_want rfl fun K hK => ?_
      go_simp
      refine hK _ _ ?_
      clear hK K
      try simp only [sx]
      refine BigFrame.wpList_want rfl fun K hK => ?_
      go_simp
      refine hK _ _ ?_
      clear hK K
      try simp only [sx]
      refine BigFrame.wpList_want rfl fun K hK => ?_
      go_simp
      refine (HI.out _ hRe.ext 2 s.rd emp).mono ?_
      rintro e wz ⟨rfl, HXz⟩
      rw [Hm6.out]
      have hRz := hRe.further HXz
      clear HXz
      dsimp only
      refine hK _ _ ?_
      clear hK K
      try simp only [sx]
      refine wpList_plain rfl fun K hK => ?_
      go_simp
      refine hK _ _ ?_
      clear hK K
      try simp only [sx]
      clear k3 k4 kl
      go_upto_region 26 with fail
      refine wp_region_lit ?_
      refine wl_ld34 rfl rfl rfl hRz.b0 rfl ?_
      try simp only [sx]
      refine wpList_plain rfl fun K hK => ?_
      go_simp
      refine (rvote_3 p s a1 s.ps.length c1 a2 s.vs.length c2 emp _).mono ?_
      rintro e wy ⟨sa, sn, sc, rfl, ho, hx⟩
      have hRzn := hRz.further hx
      have HO : Hid (wy.ownsRow w.heap.size 39 5 (.slice sa sn sc) (voteA p s 3 emp).2.length (wcs (voteA p s 3 emp).2)) := own_base ho hRz.ext.size
      have HU : Hid (∀ k, (Value.slice sa sn sc).ownBlock = some k → k ≠ (w.heap.size + 1) ∧ k ≠ w.heap.size ∧ k < wy.heap.size) := fun k q => by
       have := ho.lt k q
       obtain ⟨z, _, qq⟩ := hRz.b1
       have := (Array.getElem?_eq_some_iff.1 qq).1
       have := (Array.getElem?_eq_some_iff.1 hRz.b0).1
       exact ⟨by omega, by omega, (ho.lt k q).2⟩
      clear ho hx
      dsimp only
      refine hK _ _ ?_
      clear hK K
      try simp only [sx]
      refine wpList_plain rfl fun K hK => ?_
      go_simp
      refine hK _ _ ?_
      clear hK K
      try simp only [sx]
      refine wpList_plain rfl fun K hK => ?_
      go_simp
      refine hK _ _ ?_
      clear hK K
      try simp only [sx]
      refine wpList_plain rfl fun K hK => ?_
      go_simp
      refine hK _ _ ?_
      clear hK K
      try simp only [sx]
      refine wpList_plain rfl fun K hK => ?_
      go_simp
      refine hK _ _ ?_
      clear hK K
      try simp only [sx]
      refine wl_st34n rfl rfl rfl rfl rfl rfl (by kernel_rfl) ?_
      try simp only [sx]
      refine wpList_plain rfl fun K hK => ?_
      go_simp
      refine hK _ _ ?_
      clear hK K
      try simp only [sx]
      go_upto_region 27 with fail
      refine wp_region_lit ?_
      refine wl_ld34 rfl rfl rfl (heap_alloc_new _ _) rfl ?_
      try simp only [sx]
      refine wpList_plain rfl fun K hK => ?_
      go_simp
      refine hK _ _ ?_
      clear hK K
      try simp only [sx]
      refine wl_st34 rfl rfl rfl rfl (hRzn.further ((Ext.refl _).alloc _)) rfl (by kernel_rfl) ?_
      intro W1' hR1' hG1' hB1' hK1'
      try simp only [sx]
      refine wpList_plain rfl fun K hK => ?_
      go_simp
      refine hK _ _ ?_
      clear hK K
      try simp only [sx]
      refine wpList_plain rfl fun K hK => ?_
      go_simp
      refine hK _ _ ?_
      clear hK K
      try simp only [sx]
      go_wp2_with fail
      refine bodyPost_ret (ret_three Try.results36 _ _ (w.heap.size + 1) 34 #[.int .i64 p.me, .int .i64 p.ht, .string p.own, .int .i64 s.rd, .int .i64 3, .string s.lk, .int .i64 s.lr, .string s.vv, .int .i64 s.vr, .slice a1 s.ps.length c1, .int .i64 (p.n : Int), .int .i64 (p.t : Int), .slice a2 s.vs.length c2, .bool (fiveA s), .bool s.dn, .string s.dc] (0, 0) rfl hG1' rfl) rfl ?_
      unfold RuP
      rw [HRl.out]
      exact ⟨_, _, _, rfl, own_keep (own_ext HO.out ((Ext.refl _).alloc _)) (fun k q => hK1'.1 k (HU.out k q).1), hR1'.ext⟩
     | false =>
      have Hm6 : Hid (isA p s.vs 2 s.rd emp = false) := hm6
      have HRl : Hid (ruleA p s = none) := (HR6.out).trans (if_neg (fun q => by rw [hm6] at q; cases q.2))
      clear h62 hm6
      have k3 := (hRe.cell (j := 3) rfl).1
      have k4 := (hRe.cell (j := 4) rfl).1
      have kl := (hRe.cell (j := 0) rfl).2
      go_upto_region 25 with fail
      refine wp_region_lit ?_
      refine wpList_plain rfl fun K hK => ?_
      go_simp
      refine hK _ _ ?_
      clear hK K
      try simp only [sx]
      refine wpList_plain rfl fun K hK => ?_
      go_simp
      refine hK _ _ ?_
      clear hK K
      try simp only [sx]
      refine wpList_plain rfl fun K hK => ?_
      go_simp
      refine hK _ _ ?_
      clear hK K
      try simp only [sx]
      refine wpList_plain rfl fun K hK => ?_
      go_simp
      refine hK _ _ ?_
      clear hK K
      try simp only [sx]
      refine BigFrame.wpList_want rfl fun K hK => ?_
      refine wp_ld34 rfl rfl hRe.b0 rfl ?_
      refine hK _ _ ?_
      clear hK K
      try simp only [sx]
      refine BigFrame.wpList_want rfl fun K hK => ?_
      go_simp
      refine hK _ _ ?_
      clear hK K
      try simp only [sx]
      refine BigFrame.wpList_want rfl fun K hK => ?_
      go_simp
      refine hK _ _ ?_
      clear hK K
      try simp only [sx]
      refine BigFrame.wpList_want rfl fun K hK => ?_
      go_simp
      refine (HI.out _ hRe.ext 2 s.rd emp).mono ?_
      rintro e wz ⟨rfl, HXz⟩
      rw [Hm6.out]
      have hRz := hRe.further HXz
      clear HXz
      dsimp only
      refine hK _ _ ?_
      clear hK K
      try simp only [sx]
      refine wpList_plain rfl fun K hK => ?_
      go_simp
      refine hK _ _ ?_
      clear hK K
      try simp only [sx]
      clear k3 k4 kl
      go_upto_region 28 with fail
      refine wp_region_lit ?_
      refine wl_ld34 rfl rfl rfl hRz.b0 rfl ?_
      try simp only [sx]
      refine wl_st34 rfl rfl rfl rfl hRz rfl (by kernel_rfl) ?_
      intro W1' hR1' hG1' hB1' hK1'
      try simp only [sx]
      refine wpList_plain rfl fun K hK => ?_
      go_simp
      refine hK _ _ ?_
      clear hK K
      try simp only [sx]
      refine wpList_plain rfl fun K hK => ?_
      go_simp
      refine hK _ _ ?_
      clear hK K
      try simp only [sx]
      go_wp2_with fail
      refine bodyPost_ret (ret_three Try.results36 _ _ (w.heap.size + 1) 34 #[.int .i64 p.me, .int .i64 p.ht, .string p.own, .int .i64 s.rd, .int .i64 s.st, .string s.lk, .int .i64 s.lr, .string s.vv, .int .i64 s.vr, .slice a1 s.ps.length c1, .int .i64 (p.n : Int), .int .i64 (p.t : Int), .slice a2 s.vs.length c2, .bool (fiveA s), .bool s.dn, .string s.dc] (0, 0) rfl hG1' rfl) rfl ?_
      unfold RuP
      rw [HRl.out]
      exact ⟨rfl, hR1'.ext⟩
    ·have e62 : (s.st == 2) = false := by simpa using h62
     have HRl : Hid (ruleA p s = none) := (HR6.out).trans (if_neg (fun q => h62 q.1))
     clear h62
     have k3 := (hRe.cell (j := 3) rfl).1
     have k4 := (hRe.cell (j := 4) rfl).1
     have kl := (hRe.cell (j := 0) rfl).2
     go_upto_region 28 with fail
     clear k3 k4 kl
     refine wp_region_lit ?_
     refine wl_ld34 rfl rfl rfl hRe.b0 rfl ?_
     try simp only [sx]
     refine wl_st34 rfl rfl rfl rfl hRe rfl (by kernel_rfl) ?_
     intro W1' hR1' hG1' hB1' hK1'
     try simp only [sx]
     refine wpList_plain rfl fun K hK => ?_
     go_simp
     refine hK _ _ ?_
     clear hK K
     try simp only [sx]
     refine wpList_plain rfl fun K hK => ?_
     go_simp
     refine hK _ _ ?_
     clear hK K
     try simp only [sx]
     go_wp2_with fail
     refine bodyPost_ret (ret_three Try.results36 _ _ (w.heap.size + 1) 34 #[.int .i64 p.me, .int .i64 p.ht, .string p.own, .int .i64 s.rd, .int .i64 s.st, .string s.lk, .int .i64 s.lr, .string s.vv, .int .i64 s.vr, .slice a1 s.ps.length c1, .int .i64 (p.n : Int), .int .i64 (p.t : Int), .slice a2 s.vs.length c2, .bool (fiveA s), .bool s.dn, .string s.dc] (0, 0) rfl hG1' rfl) rfl ?_
     unfold RuP
     rw [HRl.out]
     exact ⟨rfl, hR1'.ext⟩
   | some m =>
    have HQ1 : Hid (propA s.ps s.rd = some m) := hq
    have h3e : r3 p s = if s.st = 1 ∧ (m.va < 0 ∨ isA p s.vs 2 m.va m.vl = true) then some (voteA p s 2 (if s.lr < 0 ∨ s.lk = m.vl ∨ (0 ≤ m.va ∧ s.lr ≤ m.va) then m.vl else emp)) else none := by unfold r3; rw [hq]
    have k3 := (hRc.cell (j := 3) rfl).1
    have kl := (hRc.cell (j := 0) rfl).2
    refine wp_region_lit ?_
    refine wl_ld34 rfl rfl rfl hRc.b0 rfl ?_
    try simp only [sx]
    refine wpList_plain rfl fun K hK => ?_
    go_simp
    refine hK _ _ ?_
    clear hK K
    try simp only [sx]
    refine wpList_plain rfl fun K hK => ?_
    go_simp
    refine hK _ _ ?_
    clear hK K
    try simp only [sx]
    refine wpList_plain rfl fun K hK => ?_
    go_simp
    refine (HP.out _ hRc.ext).mono ?_
    rintro e w5 hp1
    unfold PropP at hp1
    rw [HQ1.out] at hp1
    obtain ⟨rfl, HX5⟩ := hp1
    have hRd := hRc.further HX5
    clear HX5
    dsimp only
    refine hK _ _ ?_
    clear hK K
    try simp only [sx]
    refine wpList_plain rfl fun K hK => ?_
    go_simp
    refine hK _ _ ?_
    clear hK K
    try simp only [sx]
    refine wpList_plain rfl fun K hK => ?_
    go_simp
    refine hK _ _ ?_
    clear hK K
    try simp only [sx]
    refine wpList_plain rfl fun K hK => ?_
    go_simp
    refine hK _ _ ?_
    clear hK K
    try simp only [sx]
    refine wpList_plain rfl fun K hK => ?_
    go_simp
    refine hK _ _ ?_
    clear hK K
    try simp only [sx]
    refine wpList_plain rfl fun K hK => ?_
    go_simp
    refine hK _ _ ?_
    clear hK K
    try simp only [sx]
    refine wpList_plain rfl fun K hK => ?_
    go_simp
    refine hK _ _ ?_
    clear hK K
    try simp only [sx]
    clear k3 kl
    have hRe := hRd.further ((Ext.refl w5).alloc (.cells #[.int .i64 m.kd, .int .i64 m.fr, .int .i64 m.rd, .int .i64 m.va, .string m.vl] 39))
    have hWe : Wd w5.heap.size m.kd m.fr m.rd m.va m.vl (w5.alloc (.cells #[.int .i64 m.kd, .int .i64 m.fr, .int .i64 m.rd, .int .i64 m.va, .string m.vl] 39)) := Wd.new w5 _ _ _ _ _
    have HGP : Hid (¬ w5.heap.size = w.heap.size ∧ ¬ w5.heap.size = (w.heap.size + 1)) := by
     obtain ⟨z, _, q⟩ := hRd.b1
     have := (Array.getElem?_eq_some_iff.1 q).1
     exact ⟨by omega, by omega⟩
    obtain ⟨W9, hW9⟩ : ∃ X, w5.alloc (.cells #[.int .i64 m.kd, .int .i64 m.fr, .int .i64 m.rd, .int .i64 m.va, .string m.vl] 39) = X := ⟨_, rfl⟩
    rw [hW9] at hRe hWe ⊢
    clear hW9 hRd hRc
    generalize w5.heap.size = gp at *
    by_cases hs1 : s.st = 1
    ·have e1 : (s.st == 1) = true := by simpa using hs1
     have e1b : (s.st != 1) = false := by simpa using hs1
     by_cases hva : m.va < 0
     ·have dva : decide (m.va < 0) = true := decide_eq_true hva
      have h3 := h3e
      rw [if_pos ⟨hs1, .inl hva⟩] at h3
      clear hs1 hva h3e hq
      have k4 := (hRe.cell (j := 4) rfl).1
      have kl := (hRe.cell (j := 0) rfl).2
      have p3 := hWe.2.2.2.1
      have p4 := hWe.2.2.2.2.1
      have pl := hWe.2.2.2.2.2
      go_upto_region 10 with fail
      clear k4 kl
      clear p3 p4 pl
      by_cases u1 : s.lr < 0
      ·have d1 : decide (s.lr < 0) = true := decide_eq_true u1
       have HRl : Hid (ruleA p s = some (voteA p s 2 m.vl)) := by show ruleA p s = _; rw [rule_of h1 h2, h3, if_pos (.inl u1)]; rfl
       clear u1 h1 h2 h3
       have k5 := (hRe.cell (j := 5) rfl).1
       have k6 := (hRe.cell (j := 6) rfl).1
       have kl := (hRe.cell (j := 0) rfl).2
       have p3 := hWe.2.2.2.1
       have p4 := hWe.2.2.2.2.1
       have pl := hWe.2.2.2.2.2
       go_upto_region 13 with fail
       clear k5 k6 kl
       clear p3 p4 pl
       refine wp_region_lit ?_
       refine wl_ld34 rfl rfl rfl hRe.b0 rfl ?_
       try simp only [sx]
       refine wpList_plain rfl fun K hK => ?_
       go_simp
       refine hK _ _ ?_
       clear hK K
       try simp only [sx]
       refine wpList_plain rfl fun K hK => ?_
       go_simp
       refine (rvote_2 p s a1 s.ps.length c1 a2 s.vs.length c2 (m.vl) _).mono ?_
       rintro e wy ⟨sa, sn, sc, rfl, ho, hx⟩
       have hRen := hRe.further hx
       have HO : Hid (wy.ownsRow w.heap.size 39 5 (.slice sa sn sc) (voteA p s 2 (m.vl)).2.length (wcs (voteA p s 2 (m.vl)).2)) := own_base ho hRe.ext.size
       have HU : Hid (∀ k, (Value.slice sa sn sc).ownBlock = some k → k ≠ (w.heap.size + 1) ∧ k ≠ w.heap.size ∧ k < wy.heap.size) := fun k q => by
        have := ho.lt k q
        obtain ⟨z, _, qq⟩ := hRe.b1
        have := (Array.getElem?_eq_some_iff.1 qq).1
        have := (Array.getElem?_eq_some_iff.1 hRe.b0).1
        exact ⟨by omega, by omega, (ho.lt k q).2⟩
       clear ho hx
       dsimp only
       refine hK _ _ ?_
       clear hK K
       try simp only [sx]
       refine wpList_plain rfl fun K hK => ?_
       go_simp
       refine hK _ _ ?_
       clear hK K
       try simp only [sx]
       refine wpList_plain rfl fun K hK => ?_
       go_simp
       refine hK _ _ ?_
       clear hK K
       try simp only [sx]
       refine wpList_plain rfl fun K hK => ?_
       go_simp
       refine hK _ _ ?_
       clear hK K
       try simp only [sx]
       refine wpList_plain rfl fun K hK => ?_
       go_simp
       refine hK _ _ ?_
       clear hK K
       try simp only [sx]
       refine wl_st34n rfl rfl rfl rfl rfl rfl (by kernel_rfl) ?_
       try simp only [sx]
       refine wpList_plain rfl fun K hK => ?_
       go_simp
       refine hK _ _ ?_
       clear hK K
       try simp only [sx]
       go_upto_region 14 with fail
       refine wp_region_lit ?_
       refine wl_ld34 rfl rfl rfl (heap_alloc_new _ _) rfl ?_
       try simp only [sx]
       refine wpList_plain rfl fun K hK => ?_
       go_simp
       refine hK _ _ ?_
       clear hK K
       try simp only [sx]
       refine wl_st34 rfl rfl rfl rfl (hRen.further ((Ext.refl _).alloc _)) rfl (by kernel_rfl) ?_
       intro W1' hR1' hG1' hB1' hK1'
       try simp only [sx]
       refine wpList_plain rfl fun K hK => ?_
       go_simp
       refine hK _ _ ?_
       clear hK K
       try simp only [sx]
       refine wpList_plain rfl fun K hK => ?_
       go_simp
       refine hK _ _ ?_
       clear hK K
       try simp only [sx]
       go_wp2_with fail
       refine bodyPost_ret (ret_three Try.results36 _ _ (w.heap.size + 1) 34 #[.int .i64 p.me, .int .i64 p.ht, .string p.own, .int .i64 s.rd, .int .i64 2, .string s.lk, .int .i64 s.lr, .string s.vv, .int .i64 s.vr, .slice a1 s.ps.length c1, .int .i64 (p.n : Int), .int .i64 (p.t : Int), .slice a2 s.vs.length c2, .bool (fiveA s), .bool s.dn, .string s.dc] (0, 0) rfl hG1' rfl) rfl ?_
       unfold RuP
       rw [HRl.out]
       exact ⟨_, _, _, rfl, own_keep (own_ext HO.out ((Ext.refl _).alloc _)) (fun k q => hK1'.1 k (HU.out k q).1), hR1'.ext⟩
      have d1 : decide (s.lr < 0) = false := decide_eq_false u1
      by_cases u2 : s.lk = m.vl
      ·have d2 := toList_same u2
       have HRl : Hid (ruleA p s = some (voteA p s 2 m.vl)) := by show ruleA p s = _; rw [rule_of h1 h2, h3, if_pos (.inr (.inl u2))]; rfl
       clear u1 u2 h1 h2 h3
       have k5 := (hRe.cell (j := 5) rfl).1
       have k6 := (hRe.cell (j := 6) rfl).1
       have kl := (hRe.cell (j := 0) rfl).2
       have p3 := hWe.2.2.2.1
       have p4 := hWe.2.2.2.2.1
       have pl := hWe.2.2.2.2.2
       go_upto_region 13 with fail
       clear k5 k6 kl
       clear p3 p4 pl
       refine wp_region_lit ?_
       refine wl_ld34 rfl rfl rfl hRe.b0 rfl ?_
       try simp only [sx]
       refine wpList_plain rfl fun K hK => ?_
       go_simp
       refine hK _ _ ?_
       clear hK K
       try simp only [sx]
       refine wpList_plain rfl fun K hK => ?_
       go_simp
       refine (rvote_2 p s a1 s.ps.length c1 a2 s.vs.length c2 (m.vl) _).mono ?_
       rintro e wy ⟨sa, sn, sc, rfl, ho, hx⟩
       have hRen := hRe.further hx
       have HO : Hid (wy.ownsRow w.heap.size 39 5 (.slice sa sn sc) (voteA p s 2 (m.vl)).2.length (wcs (voteA p s 2 (m.vl)).2)) := own_base ho hRe.ext.size
       have HU : Hid (∀ k, (Value.slice sa sn sc).ownBlock = some k → k ≠ (w.heap.size + 1) ∧ k ≠ w.heap.size ∧ k < wy.heap.size) := fun k q => by
        have := ho.lt k q
        obtain ⟨z, _, qq⟩ := hRe.b1
        have := (Array.getElem?_eq_some_iff.1 qq).1
        have := (Array.getElem?_eq_some_iff.1 hRe.b0).1
        exact ⟨by omega, by omega, (ho.lt k q).2⟩
       clear ho hx
       dsimp only
       refine hK _ _ ?_
       clear hK K
       try simp only [sx]
       refine wpList_plain rfl fun K hK => ?_
       go_simp
       refine hK _ _ ?_
       clear hK K
       try simp only [sx]
       refine wpList_plain rfl fun K hK => ?_
       go_simp
       refine hK _ _ ?_
       clear hK K
       try simp only [sx]
       refine wpList_plain rfl fun K hK => ?_
       go_simp
       refine hK _ _ ?_
       clear hK K
       try simp only [sx]
       refine wpList_plain rfl fun K hK => ?_
       go_simp
       refine hK _ _ ?_
       clear hK K
       try simp only [sx]
       refine wl_st34n rfl rfl rfl rfl rfl rfl (by kernel_rfl) ?_
       try simp only [sx]
       refine wpList_plain rfl fun K hK => ?_
       go_simp
       refine hK _ _ ?_
       clear hK K
       try simp only [sx]
       go_upto_region 14 with fail
       refine wp_region_lit ?_
       refine wl_ld34 rfl rfl rfl (heap_alloc_new _ _) rfl ?_
       try simp only [sx]
       refine wpList_plain rfl fun K hK => ?_
       go_simp
       refine hK _ _ ?_
       clear hK K
       try simp only [sx]
       refine wl_st34 rfl rfl rfl rfl (hRen.further ((Ext.refl _).alloc _)) rfl (by kernel_rfl) ?_
       intro W1' hR1' hG1' hB1' hK1'
       try simp only [sx]
       refine wpList_plain rfl fun K hK => ?_
       go_simp
       refine hK _ _ ?_
       clear hK K
       try simp only [sx]
       refine wpList_plain rfl fun K hK => ?_
       go_simp
       refine hK _ _ ?_
       clear hK K
       try simp only [sx]
       go_wp2_with fail
       refine bodyPost_ret (ret_three Try.results36 _ _ (w.heap.size + 1) 34 #[.int .i64 p.me, .int .i64 p.ht, .string p.own, .int .i64 s.rd, .int .i64 2, .string s.lk, .int .i64 s.lr, .string s.vv, .int .i64 s.vr, .slice a1 s.ps.length c1, .int .i64 (p.n : Int), .int .i64 (p.t : Int), .slice a2 s.vs.length c2, .bool (fiveA s), .bool s.dn, .string s.dc] (0, 0) rfl hG1' rfl) rfl ?_
       unfold RuP
       rw [HRl.out]
       exact ⟨_, _, _, rfl, own_keep (own_ext HO.out ((Ext.refl _).alloc _)) (fun k q => hK1'.1 k (HU.out k q).1), hR1'.ext⟩
      have d2 := toList_ne u2
      by_cases u3 : 0 ≤ m.va
      ·have d3 : decide ((0 : Int) ≤ m.va) = true := decide_eq_true u3
       by_cases u4 : s.lr ≤ m.va
       ·have d4 : decide (s.lr ≤ m.va) = true := decide_eq_true u4
        have HRl : Hid (ruleA p s = some (voteA p s 2 m.vl)) := by show ruleA p s = _; rw [rule_of h1 h2, h3, if_pos (.inr (.inr ⟨u3, u4⟩))]; rfl
        clear u1 u2 u3 u4 h1 h2 h3
        have k5 := (hRe.cell (j := 5) rfl).1
        have k6 := (hRe.cell (j := 6) rfl).1
        have kl := (hRe.cell (j := 0) rfl).2
        have p3 := hWe.2.2.2.1
        have p4 := hWe.2.2.2.2.1
        have pl := hWe.2.2.2.2.2
        go_upto_region 13 with fail
        clear k5 k6 kl
        clear p3 p4 pl
        refine wp_region_lit ?_
        refine wl_ld34 rfl rfl rfl hRe.b0 rfl ?_
        try simp only [sx]
        refine wpList_plain rfl fun K hK => ?_
        go_simp
        refine hK _ _ ?_
        clear hK K
        try simp only [sx]
        refine wpList_plain rfl fun K hK => ?_
        go_simp
        refine (rvote_2 p s a1 s.ps.length c1 a2 s.vs.length c2 (m.vl) _).mono ?_
        rintro e wy ⟨sa, sn, sc, rfl, ho, hx⟩
        have hRen := hRe.further hx
        have HO : Hid (wy.ownsRow w.heap.size 39 5 (.slice sa sn sc) (voteA p s 2 (m.vl)).2.length (wcs (voteA p s 2 (m.vl)).2)) := own_base ho hRe.ext.size
        have HU : Hid (∀ k, (Value.slice sa sn sc).ownBlock = some k → k ≠ (w.heap.size + 1) ∧ k ≠ w.heap.size ∧ k < wy.heap.size) := fun k q => by
         have := ho.lt k q
         obtain ⟨z, _, qq⟩ := hRe.b1
         have := (Array.getElem?_eq_some_iff.1 qq).1
         have := (Array.getElem?_eq_some_iff.1 hRe.b0).1
         exact ⟨by omega, by omega, (ho.lt k q).2⟩
        clear ho hx
        dsimp only
        refine hK _ _ ?_
        clear hK K
        try simp only [sx]
        refine wpList_plain rfl fun K hK => ?_
        go_simp
        refine hK _ _ ?_
        clear hK K
        try simp only [sx]
        refine wpList_plain rfl fun K hK => ?_
        go_simp
        refine hK _ _ ?_
        clear hK K
        try simp only [sx]
        refine wpList_plain rfl fun K hK => ?_
        go_simp
        refine hK _ _ ?_
        clear hK K
        try simp only [sx]
        refine wpList_plain rfl fun K hK => ?_
        go_simp
        refine hK _ _ ?_
        clear hK K
        try simp only [sx]
        refine wl_st34n rfl rfl rfl rfl rfl rfl (by kernel_rfl) ?_
        try simp only [sx]
        refine wpList_plain rfl fun K hK => ?_
        go_simp
        refine hK _ _ ?_
        clear hK K
        try simp only [sx]
        go_upto_region 14 with fail
        refine wp_region_lit ?_
        refine wl_ld34 rfl rfl rfl (heap_alloc_new _ _) rfl ?_
        try simp only [sx]
        refine wpList_plain rfl fun K hK => ?_
        go_simp
        refine hK _ _ ?_
        clear hK K
        try simp only [sx]
        refine wl_st34 rfl rfl rfl rfl (hRen.further ((Ext.refl _).alloc _)) rfl (by kernel_rfl) ?_
        intro W1' hR1' hG1' hB1' hK1'
        try simp only [sx]
        refine wpList_plain rfl fun K hK => ?_
        go_simp
        refine hK _ _ ?_
        clear hK K
        try simp only [sx]
        refine wpList_plain rfl fun K hK => ?_
        go_simp
        refine hK _ _ ?_
        clear hK K
        try simp only [sx]
        go_wp2_with fail
        refine bodyPost_ret (ret_three Try.results36 _ _ (w.heap.size + 1) 34 #[.int .i64 p.me, .int .i64 p.ht, .string p.own, .int .i64 s.rd, .int .i64 2, .string s.lk, .int .i64 s.lr, .string s.vv, .int .i64 s.vr, .slice a1 s.ps.length c1, .int .i64 (p.n : Int), .int .i64 (p.t : Int), .slice a2 s.vs.length c2, .bool (fiveA s), .bool s.dn, .string s.dc] (0, 0) rfl hG1' rfl) rfl ?_
        unfold RuP
        rw [HRl.out]
        exact ⟨_, _, _, rfl, own_keep (own_ext HO.out ((Ext.refl _).alloc _)) (fun k q => hK1'.1 k (HU.out k q).1), hR1'.ext⟩
       ·have d4 : decide (s.lr ≤ m.va) = false := decide_eq_false u4
        have HRl : Hid (ruleA p s = some (voteA p s 2 emp)) := by show ruleA p s = _; rw [rule_of h1 h2, h3, if_neg (by rintro (q | q | q); exact u1 q; exact u2 q; exact u4 q.2)]; rfl
        clear u1 u2 u3 u4 h1 h2 h3
        have k5 := (hRe.cell (j := 5) rfl).1
        have k6 := (hRe.cell (j := 6) rfl).1
        have kl := (hRe.cell (j := 0) rfl).2
        have p3 := hWe.2.2.2.1
        have p4 := hWe.2.2.2.2.1
        have pl := hWe.2.2.2.2.2
        go_upto_region 13 with fail
        clear k5 k6 kl
        clear p3 p4 pl
        refine wp_region_lit ?_
        refine wl_ld34 rfl rfl rfl hRe.b0 rfl ?_
        try simp only [sx]
        refine wpList_plain rfl fun K hK => ?_
        go_simp
        refine hK _ _ ?_
        clear hK K
        try simp only [sx]
        refine wpList_plain rfl fun K hK => ?_
        go_simp
        refine (rvote_2 p s a1 s.ps.length c1 a2 s.vs.length c2 (emp) _).mono ?_
        rintro e wy ⟨sa, sn, sc, rfl, ho, hx⟩
        have hRen := hRe.further hx
        have HO : Hid (wy.ownsRow w.heap.size 39 5 (.slice sa sn sc) (voteA p s 2 (emp)).2.length (wcs (voteA p s 2 (emp)).2)) := own_base ho hRe.ext.size
        have HU : Hid (∀ k, (Value.slice sa sn sc).ownBlock = some k → k ≠ (w.heap.size + 1) ∧ k ≠ w.heap.size ∧ k < wy.heap.size) := fun k q => by
         have := ho.lt k q
         obtain ⟨z, _, qq⟩ := hRe.b1
         have := (Array.getElem?_eq_some_iff.1 qq).1
         have := (Array.getElem?_eq_some_iff.1 hRe.b0).1
         exact ⟨by omega, by omega, (ho.lt k q).2⟩
        clear ho hx
        dsimp only
        refine hK _ _ ?_
        clear hK K
        try simp only [sx]
        refine wpList_plain rfl fun K hK => ?_
        go_simp
        refine hK _ _ ?_
        clear hK K
        try simp only [sx]
        refine wpList_plain rfl fun K hK => ?_
        go_simp
        refine hK _ _ ?_
        clear hK K
        try simp only [sx]
        refine wpList_plain rfl fun K hK => ?_
        go_simp
        refine hK _ _ ?_
        clear hK K
        try simp only [sx]
        refine wpList_plain rfl fun K hK => ?_
        go_simp
        refine hK _ _ ?_
        clear hK K
        try simp only [sx]
        refine wl_st34n rfl rfl rfl rfl rfl rfl (by kernel_rfl) ?_
        try simp only [sx]
        refine wpList_plain rfl fun K hK => ?_
        go_simp
        refine hK _ _ ?_
        clear hK K
        try simp only [sx]
        go_upto_region 14 with fail
        refine wp_region_lit ?_
        refine wl_ld34 rfl rfl rfl (heap_alloc_new _ _) rfl ?_
        try simp only [sx]
        refine wpList_plain rfl fun K hK => ?_
        go_simp
        refine hK _ _ ?_
        clear hK K
        try simp only [sx]
        refine wl_st34 rfl rfl rfl rfl (hRen.further ((Ext.refl _).alloc _)) rfl (by kernel_rfl) ?_
        intro W1' hR1' hG1' hB1' hK1'
        try simp only [sx]
        refine wpList_plain rfl fun K hK => ?_
        go_simp
        refine hK _ _ ?_
        clear hK K
        try simp only [sx]
        refine wpList_plain rfl fun K hK => ?_
        go_simp
        refine hK _ _ ?_
        clear hK K
        try simp only [sx]
        go_wp2_with fail
        refine bodyPost_ret (ret_three Try.results36 _ _ (w.heap.size + 1) 34 #[.int .i64 p.me, .int .i64 p.ht, .string p.own, .int .i64 s.rd, .int .i64 2, .string s.lk, .int .i64 s.lr, .string s.vv, .int .i64 s.vr, .slice a1 s.ps.length c1, .int .i64 (p.n : Int), .int .i64 (p.t : Int), .slice a2 s.vs.length c2, .bool (fiveA s), .bool s.dn, .string s.dc] (0, 0) rfl hG1' rfl) rfl ?_
        unfold RuP
        rw [HRl.out]
        exact ⟨_, _, _, rfl, own_keep (own_ext HO.out ((Ext.refl _).alloc _)) (fun k q => hK1'.1 k (HU.out k q).1), hR1'.ext⟩
      ·have d3 : decide ((0 : Int) ≤ m.va) = false := decide_eq_false u3
       have HRl : Hid (ruleA p s = some (voteA p s 2 emp)) := by show ruleA p s = _; rw [rule_of h1 h2, h3, if_neg (by rintro (q | q | q); exact u1 q; exact u2 q; exact u3 q.1)]; rfl
       clear u1 u2 u3 h1 h2 h3
       have k5 := (hRe.cell (j := 5) rfl).1
       have k6 := (hRe.cell (j := 6) rfl).1
       have kl := (hRe.cell (j := 0) rfl).2
       have p3 := hWe.2.2.2.1
       have p4 := hWe.2.2.2.2.1
       have pl := hWe.2.2.2.2.2
       go_upto_region 13 with fail
       clear k5 k6 kl
       clear p3 p4 pl
       refine wp_region_lit ?_
       refine wl_ld34 rfl rfl rfl hRe.b0 rfl ?_
       try simp only [sx]
       refine wpList_plain rfl fun K hK => ?_
       go_simp
       refine hK _ _ ?_
       clear hK K
       try simp only [sx]
       refine wpList_plain rfl fun K hK => ?_
       go_simp
       refine (rvote_2 p s a1 s.ps.length c1 a2 s.vs.length c2 (emp) _).mono ?_
       rintro e wy ⟨sa, sn, sc, rfl, ho, hx⟩
       have hRen := hRe.further hx
       have HO : Hid (wy.ownsRow w.heap.size 39 5 (.slice sa sn sc) (voteA p s 2 (emp)).2.length (wcs (voteA p s 2 (emp)).2)) := own_base ho hRe.ext.size
       have HU : Hid (∀ k, (Value.slice sa sn sc).ownBlock = some k → k ≠ (w.heap.size + 1) ∧ k ≠ w.heap.size ∧ k < wy.heap.size) := fun k q => by
        have := ho.lt k q
        obtain ⟨z, _, qq⟩ := hRe.b1
        have := (Array.getElem?_eq_some_iff.1 qq).1
        have := (Array.getElem?_eq_some_iff.1 hRe.b0).1
        exact ⟨by omega, by omega, (ho.lt k q).2⟩
       clear ho hx
       dsimp only
       refine hK _ _ ?_
       clear hK K
       try simp only [sx]
       refine wpList_plain rfl fun K hK => ?_
       go_simp
       refine hK _ _ ?_
       clear hK K
       try simp only [sx]
       refine wpList_plain rfl fun K hK => ?_
       go_simp
       refine hK _ _ ?_
       clear hK K
       try simp only [sx]
       refine wpList_plain rfl fun K hK => ?_
       go_simp
       refine hK _ _ ?_
       clear hK K
       try simp only [sx]
       refine wpList_plain rfl fun K hK => ?_
       go_simp
       refine hK _ _ ?_
       clear hK K
       try simp only [sx]
       refine wl_st34n rfl rfl rfl rfl rfl rfl (by kernel_rfl) ?_
       try simp only [sx]
       refine wpList_plain rfl fun K hK => ?_
       go_simp
       refine hK _ _ ?_
       clear hK K
       try simp only [sx]
       go_upto_region 14 with fail
       refine wp_region_lit ?_
       refine wl_ld34 rfl rfl rfl (heap_alloc_new _ _) rfl ?_
       try simp only [sx]
       refine wpList_plain rfl fun K hK => ?_
       go_simp
       refine hK _ _ ?_
       clear hK K
       try simp only [sx]
       refine wl_st34 rfl rfl rfl rfl (hRen.further ((Ext.refl _).alloc _)) rfl (by kernel_rfl) ?_
       intro W1' hR1' hG1' hB1' hK1'
       try simp only [sx]
       refine wpList_plain rfl fun K hK => ?_
       go_simp
       refine hK _ _ ?_
       clear hK K
       try simp only [sx]
       refine wpList_plain rfl fun K hK => ?_
       go_simp
       refine hK _ _ ?_
       clear hK K
       try simp only [sx]
       go_wp2_with fail
       refine bodyPost_ret (ret_three Try.results36 _ _ (w.heap.size + 1) 34 #[.int .i64 p.me, .int .i64 p.ht, .string p.own, .int .i64 s.rd, .int .i64 2, .string s.lk, .int .i64 s.lr, .string s.vv, .int .i64 s.vr, .slice a1 s.ps.length c1, .int .i64 (p.n : Int), .int .i64 (p.t : Int), .slice a2 s.vs.length c2, .bool (fiveA s), .bool s.dn, .string s.dc] (0, 0) rfl hG1' rfl) rfl ?_
       unfold RuP
       rw [HRl.out]
       exact ⟨_, _, _, rfl, own_keep (own_ext HO.out ((Ext.refl _).alloc _)) (fun k q => hK1'.1 k (HU.out k q).1), hR1'.ext⟩
     ·have dva : decide (m.va < 0) = false := decide_eq_false hva
      cases hm3 : isA p s.vs 2 m.va m.vl with
      | true =>
       have Hm3 : Hid (isA p s.vs 2 m.va m.vl = true) := hm3
       have h3 := h3e
       rw [if_pos ⟨hs1, .inr hm3⟩] at h3
       clear hs1 hva h3e hm3 hq
       have k4 := (hRe.cell (j := 4) rfl).1
       have kl := (hRe.cell (j := 0) rfl).2
       have p3 := hWe.2.2.2.1
       have p4 := hWe.2.2.2.2.1
       have pl := hWe.2.2.2.2.2
       go_upto_region 9 with fail
       refine wp_region_lit ?_
       refine wpList_plain rfl fun K hK => ?_
       go_simp
       refine hK _ _ ?_
       clear hK K
       try simp only [sx]
       refine wpList_plain rfl fun K hK => ?_
       go_simp
       refine hK _ _ ?_
       clear hK K
       try simp only [sx]
       refine BigFrame.wpList_want rfl fun K hK => ?_
       go_simp
       refine hK _ _ ?_
       clear hK K
       try simp only [sx]
       refine BigFrame.wpList_want rfl fun K hK => ?_
       go_simp
       refine hK _ _ ?_
       clear hK K
       try simp only [sx]
       refine BigFrame.wpList_want rfl fun K hK => ?_
       go_simp
       refine hK _ _ ?_
       clear hK K
       try simp only [sx]
       refine wpList_plain rfl fun K hK => ?_
       go_simp
       refine hK _ _ ?_
       clear hK K
       try simp only [sx]
       refine wpList_plain rfl fun K hK => ?_
       go_simp
       refine hK _ _ ?_
       clear hK K
       try simp only [sx]
       refine BigFrame.wpList_want rfl fun K hK => ?_
       go_simp
       refine hK _ _ ?_
       clear hK K
       try simp only [sx]
       refine BigFrame.wpList_want rfl fun K hK => ?_
       go_simp
       refine hK _ _ ?_
       clear hK K
       try simp only [sx]
       refine BigFrame.wpList_want rfl fun K hK => ?_
       go_simp
       refine hK _ _ ?_
       clear hK K
       try simp only [sx]
       refine BigFrame.wpList_want rfl fun K hK => ?_
       go_simp
       refine hK _ _ ?_
       clear hK K
       try simp only [sx]
       refine BigFrame.wpList_want rfl fun K hK => ?_
       refine wp_ld34 rfl rfl hRe.b0 rfl ?_
       refine hK _ _ ?_
       clear hK K
       try simp only [sx]
       refine BigFrame.wpList_want rfl fun K hK => ?_
       go_simp
       refine hK _ _ ?_
       clear hK K
       try simp only [sx]
       refine BigFrame.wpList_want rfl fun K hK => ?_
       go_simp
       refine hK _ _ ?_
       clear hK K
       try simp only [sx]
       refine BigFrame.wpList_want rfl fun K hK => ?_
       go_simp
       refine hK _ _ ?_
       clear hK K
       try simp only [sx]
       refine BigFrame.wpList_want rfl fun K hK => ?_
       go_simp
       refine hK _ _ ?_
       clear hK K
       try simp only [sx]
       refine BigFrame.wpList_want rfl fun K hK => ?_
       go_simp
       refine (HI.out _ hRe.ext 2 m.va m.vl).mono ?_
       rintro e w7 ⟨rfl, HXq⟩
       rw [Hm3.out]
       have hRg := hRe.further HXq
       have hWg := hWe.ext HXq
       clear HXq
       dsimp only
       refine hK _ _ ?_
       clear hK K
       try simp only [sx]
       refine BigFrame.wpList_want rfl fun K hK => ?_
       go_simp
       refine hK _ _ ?_
       clear hK K
       try simp only [sx]
       refine wpList_plain rfl fun K hK => ?_
       go_simp
       refine hK _ _ ?_
       clear hK K
       try simp only [sx]
       clear k4 kl
       clear p3 p4 pl
       go_upto_region 10 with fail
       by_cases u1 : s.lr < 0
       ·have d1 : decide (s.lr < 0) = true := decide_eq_true u1
        have HRl : Hid (ruleA p s = some (voteA p s 2 m.vl)) := by show ruleA p s = _; rw [rule_of h1 h2, h3, if_pos (.inl u1)]; rfl
        clear u1 h1 h2 h3
        have k5 := (hRg.cell (j := 5) rfl).1
        have k6 := (hRg.cell (j := 6) rfl).1
        have kl := (hRg.cell (j := 0) rfl).2
        have p3 := hWg.2.2.2.1
        have p4 := hWg.2.2.2.2.1
        have pl := hWg.2.2.2.2.2
        go_upto_region 13 with fail
        clear k5 k6 kl
        clear p3 p4 pl
        refine wp_region_lit ?_
        refine wl_ld34 rfl rfl rfl hRg.b0 rfl ?_
        try simp only [sx]
        refine wpList_plain rfl fun K hK => ?_
        go_simp
        refine hK _ _ ?_
        clear hK K
        try simp only [sx]
        refine wpList_plain rfl fun K hK => ?_
        go_simp
        refine (rvote_2 p s a1 s.ps.length c1 a2 s.vs.length c2 (m.vl) _).mono ?_
        rintro e wy ⟨sa, sn, sc, rfl, ho, hx⟩
        have hRgn := hRg.further hx
        have HO : Hid (wy.ownsRow w.heap.size 39 5 (.slice sa sn sc) (voteA p s 2 (m.vl)).2.length (wcs (voteA p s 2 (m.vl)).2)) := own_base ho hRg.ext.size
        have HU : Hid (∀ k, (Value.slice sa sn sc).ownBlock = some k → k ≠ (w.heap.size + 1) ∧ k ≠ w.heap.size ∧ k < wy.heap.size) := fun k q => by
         have := ho.lt k q
         obtain ⟨z, _, qq⟩ := hRg.b1
         have := (Array.getElem?_eq_some_iff.1 qq).1
         have := (Array.getElem?_eq_some_iff.1 hRg.b0).1
         exact ⟨by omega, by omega, (ho.lt k q).2⟩
        clear ho hx
        dsimp only
        refine hK _ _ ?_
        clear hK K
        try simp only [sx]
        refine wpList_plain rfl fun K hK => ?_
        go_simp
        refine hK _ _ ?_
        clear hK K
        try simp only [sx]
        refine wpList_plain rfl fun K hK => ?_
        go_simp
        refine hK _ _ ?_
        clear hK K
        try simp only [sx]
        refine wpList_plain rfl fun K hK => ?_
        go_simp
        refine hK _ _ ?_
        clear hK K
        try simp only [sx]
        refine wpList_plain rfl fun K hK => ?_
        go_simp
        refine hK _ _ ?_
        clear hK K
        try simp only [sx]
        refine wl_st34n rfl rfl rfl rfl rfl rfl (by kernel_rfl) ?_
        try simp only [sx]
        refine wpList_plain rfl fun K hK => ?_
        go_simp
        refine hK _ _ ?_
        clear hK K
        try simp only [sx]
        go_upto_region 14 with fail
        refine wp_region_lit ?_
        refine wl_ld34 rfl rfl rfl (heap_alloc_new _ _) rfl ?_
        try simp only [sx]
        refine wpList_plain rfl fun K hK => ?_
        go_simp
        refine hK _ _ ?_
        clear hK K
        try simp only [sx]
        refine wl_st34 rfl rfl rfl rfl (hRgn.further ((Ext.refl _).alloc _)) rfl (by kernel_rfl) ?_
        intro W1' hR1' hG1' hB1' hK1'
        try simp only [sx]
        refine wpList_plain rfl fun K hK => ?_
        go_simp
        refine hK _ _ ?_
        clear hK K
        try simp only [sx]
        refine wpList_plain rfl fun K hK => ?_
        go_simp
        refine hK _ _ ?_
        clear hK K
        try simp only [sx]
        go_wp2_with fail
        refine bodyPost_ret (ret_three Try.results36 _ _ (w.heap.size + 1) 34 #[.int .i64 p.me, .int .i64 p.ht, .string p.own, .int .i64 s.rd, .int .i64 2, .string s.lk, .int .i64 s.lr, .string s.vv, .int .i64 s.vr, .slice a1 s.ps.length c1, .int .i64 (p.n : Int), .int .i64 (p.t : Int), .slice a2 s.vs.length c2, .bool (fiveA s), .bool s.dn, .string s.dc] (0, 0) rfl hG1' rfl) rfl ?_
        unfold RuP
        rw [HRl.out]
        exact ⟨_, _, _, rfl, own_keep (own_ext HO.out ((Ext.refl _).alloc _)) (fun k q => hK1'.1 k (HU.out k q).1), hR1'.ext⟩
       have d1 : decide (s.lr < 0) = false := decide_eq_false u1
       by_cases u2 : s.lk = m.vl
       ·have d2 := toList_same u2
        have HRl : Hid (ruleA p s = some (voteA p s 2 m.vl)) := by show ruleA p s = _; rw [rule_of h1 h2, h3, if_pos (.inr (.inl u2))]; rfl
        clear u1 u2 h1 h2 h3
        have k5 := (hRg.cell (j := 5) rfl).1
        have k6 := (hRg.cell (j := 6) rfl).1
        have kl := (hRg.cell (j := 0) rfl).2
        have p3 := hWg.2.2.2.1
        have p4 := hWg.2.2.2.2.1
        have pl := hWg.2.2.2.2.2
        go_upto_region 13 with fail
        clear k5 k6 kl
        clear p3 p4 pl
        refine wp_region_lit ?_
        refine wl_ld34 rfl rfl rfl hRg.b0 rfl ?_
        try simp only [sx]
        refine wpList_plain rfl fun K hK => ?_
        go_simp
        refine hK _ _ ?_
        clear hK K
        try simp only [sx]
        refine wpList_plain rfl fun K hK => ?_
        go_simp
        refine (rvote_2 p s a1 s.ps.length c1 a2 s.vs.length c2 (m.vl) _).mono ?_
        rintro e wy ⟨sa, sn, sc, rfl, ho, hx⟩
        have hRgn := hRg.further hx
        have HO : Hid (wy.ownsRow w.heap.size 39 5 (.slice sa sn sc) (voteA p s 2 (m.vl)).2.length (wcs (voteA p s 2 (m.vl)).2)) := own_base ho hRg.ext.size
        have HU : Hid (∀ k, (Value.slice sa sn sc).ownBlock = some k → k ≠ (w.heap.size + 1) ∧ k ≠ w.heap.size ∧ k < wy.heap.size) := fun k q => by
         have := ho.lt k q
         obtain ⟨z, _, qq⟩ := hRg.b1
         have := (Array.getElem?_eq_some_iff.1 qq).1
         have := (Array.getElem?_eq_some_iff.1 hRg.b0).1
         exact ⟨by omega, by omega, (ho.lt k q).2⟩
        clear ho hx
        dsimp only
        refine hK _ _ ?_
        clear hK K
        try simp only [sx]
        refine wpList_plain rfl fun K hK => ?_
        go_simp
        refine hK _ _ ?_
        clear hK K
        try simp only [sx]
        refine wpList_plain rfl fun K hK => ?_
        go_simp
        refine hK _ _ ?_
        clear hK K
        try simp only [sx]
        refine wpList_plain rfl fun K hK => ?_
        go_simp
        refine hK _ _ ?_
        clear hK K
        try simp only [sx]
        refine wpList_plain rfl fun K hK => ?_
        go_simp
        refine hK _ _ ?_
        clear hK K
        try simp only [sx]
        refine wl_st34n rfl rfl rfl rfl rfl rfl (by kernel_rfl) ?_
        try simp only [sx]
        refine wpList_plain rfl fun K hK => ?_
        go_simp
        refine hK _ _ ?_
        clear hK K
        try simp only [sx]
        go_upto_region 14 with fail
        refine wp_region_lit ?_
        refine wl_ld34 rfl rfl rfl (heap_alloc_new _ _) rfl ?_
        try simp only [sx]
        refine wpList_plain rfl fun K hK => ?_
        go_simp
        refine hK _ _ ?_
        clear hK K
        try simp only [sx]
        refine wl_st34 rfl rfl rfl rfl (hRgn.further ((Ext.refl _).alloc _)) rfl (by kernel_rfl) ?_
        intro W1' hR1' hG1' hB1' hK1'
        try simp only [sx]
        refine wpList_plain rfl fun K hK => ?_
        go_simp
        refine hK _ _ ?_
        clear hK K
        try simp only [sx]
        refine wpList_plain rfl fun K hK => ?_
        go_simp
        refine hK _ _ ?_
        clear hK K
        try simp only [sx]
        go_wp2_with fail
        refine bodyPost_ret (ret_three Try.results36 _ _ (w.heap.size + 1) 34 #[.int .i64 p.me, .int .i64 p.ht, .string p.own, .int .i64 s.rd, .int .i64 2, .string s.lk, .int .i64 s.lr, .string s.vv, .int .i64 s.vr, .slice a1 s.ps.length c1, .int .i64 (p.n : Int), .int .i64 (p.t : Int), .slice a2 s.vs.length c2, .bool (fiveA s), .bool s.dn, .string s.dc] (0, 0) rfl hG1' rfl) rfl ?_
        unfold RuP
        rw [HRl.out]
        exact ⟨_, _, _, rfl, own_keep (own_ext HO.out ((Ext.refl _).alloc _)) (fun k q => hK1'.1 k (HU.out k q).1), hR1'.ext⟩
       have d2 := toList_ne u2
       by_cases u3 : 0 ≤ m.va
       ·have d3 : decide ((0 : Int) ≤ m.va) = true := decide_eq_true u3
        by_cases u4 : s.lr ≤ m.va
        ·have d4 : decide (s.lr ≤ m.va) = true := decide_eq_true u4
         have HRl : Hid (ruleA p s = some (voteA p s 2 m.vl)) := by show ruleA p s = _; rw [rule_of h1 h2, h3, if_pos (.inr (.inr ⟨u3, u4⟩))]; rfl
         clear u1 u2 u3 u4 h1 h2 h3
         have k5 := (hRg.cell (j := 5) rfl).1
         have k6 := (hRg.cell (j := 6) rfl).1
         have kl := (hRg.cell (j := 0) rfl).2
         have p3 := hWg.2.2.2.1
         have p4 := hWg.2.2.2.2.1
         have pl := hWg.2.2.2.2.2
         go_upto_region 13 with fail
         clear k5 k6 kl
         clear p3 p4 pl
         refine wp_region_lit ?_
         refine wl_ld34 rfl rfl rfl hRg.b0 rfl ?_
         try simp only [sx]
         refine wpList_plain rfl fun K hK => ?_
         go_simp
         refine hK _ _ ?_
         clear hK K
         try simp only [sx]
         refine wpList_plain rfl fun K hK => ?_
         go_simp
         refine (rvote_2 p s a1 s.ps.length c1 a2 s.vs.length c2 (m.vl) _).mono ?_
         rintro e wy ⟨sa, sn, sc, rfl, ho, hx⟩
         have hRgn := hRg.further hx
         have HO : Hid (wy.ownsRow w.heap.size 39 5 (.slice sa sn sc) (voteA p s 2 (m.vl)).2.length (wcs (voteA p s 2 (m.vl)).2)) := own_base ho hRg.ext.size
         have HU : Hid (∀ k, (Value.slice sa sn sc).ownBlock = some k → k ≠ (w.heap.size + 1) ∧ k ≠ w.heap.size ∧ k < wy.heap.size) := fun k q => by
          have := ho.lt k q
          obtain ⟨z, _, qq⟩ := hRg.b1
          have := (Array.getElem?_eq_some_iff.1 qq).1
          have := (Array.getElem?_eq_some_iff.1 hRg.b0).1
          exact ⟨by omega, by omega, (ho.lt k q).2⟩
         clear ho hx
         dsimp only
         refine hK _ _ ?_
         clear hK K
         try simp only [sx]
         refine wpList_plain rfl fun K hK => ?_
         go_simp
         refine hK _ _ ?_
         clear hK K
         try simp only [sx]
         refine wpList_plain rfl fun K hK => ?_
         go_simp
         refine hK _ _ ?_
         clear hK K
         try simp only [sx]
         refine wpList_plain rfl fun K hK => ?_
         go_simp
         refine hK _ _ ?_
         clear hK K
         try simp only [sx]
         refine wpList_plain rfl fun K hK => ?_
         go_simp
         refine hK _ _ ?_
         clear hK K
         try simp only [sx]
         refine wl_st34n rfl rfl rfl rfl rfl rfl (by kernel_rfl) ?_
         try simp only [sx]
         refine wpList_plain rfl fun K hK => ?_
         go_simp
         refine hK _ _ ?_
         clear hK K
         try simp only [sx]
         go_upto_region 14 with fail
         refine wp_region_lit ?_
         refine wl_ld34 rfl rfl rfl (heap_alloc_new _ _) rfl ?_
         try simp only [sx]
         refine wpList_plain rfl fun K hK => ?_
         go_simp
         refine hK _ _ ?_
         clear hK K
         try simp only [sx]
         refine wl_st34 rfl rfl rfl rfl (hRgn.further ((Ext.refl _).alloc _)) rfl (by kernel_rfl) ?_
         intro W1' hR1' hG1' hB1' hK1'
         try simp only [sx]
         refine wpList_plain rfl fun K hK => ?_
         go_simp
         refine hK _ _ ?_
         clear hK K
         try simp only [sx]
         refine wpList_plain rfl fun K hK => ?_
         go_simp
         refine hK _ _ ?_
         clear hK K
         try simp only [sx]
         go_wp2_with fail
         refine bodyPost_ret (ret_three Try.results36 _ _ (w.heap.size + 1) 34 #[.int .i64 p.me, .int .i64 p.ht, .string p.own, .int .i64 s.rd, .int .i64 2, .string s.lk, .int .i64 s.lr, .string s.vv, .int .i64 s.vr, .slice a1 s.ps.length c1, .int .i64 (p.n : Int), .int .i64 (p.t : Int), .slice a2 s.vs.length c2, .bool (fiveA s), .bool s.dn, .string s.dc] (0, 0) rfl hG1' rfl) rfl ?_
         unfold RuP
         rw [HRl.out]
         exact ⟨_, _, _, rfl, own_keep (own_ext HO.out ((Ext.refl _).alloc _)) (fun k q => hK1'.1 k (HU.out k q).1), hR1'.ext⟩
        ·have d4 : decide (s.lr ≤ m.va) = false := decide_eq_false u4
         have HRl : Hid (ruleA p s = some (voteA p s 2 emp)) := by show ruleA p s = _; rw [rule_of h1 h2, h3, if_neg (by rintro (q | q | q); exact u1 q; exact u2 q; exact u4 q.2)]; rfl
         clear u1 u2 u3 u4 h1 h2 h3
         have k5 := (hRg.cell (j := 5) rfl).1
         have k6 := (hRg.cell (j := 6) rfl).1
         have kl := (hRg.cell (j := 0) rfl).2
         have p3 := hWg.2.2.2.1
         have p4 := hWg.2.2.2.2.1
         have pl := hWg.2.2.2.2.2
         go_upto_region 13 with fail
         clear k5 k6 kl
         clear p3 p4 pl
         refine wp_region_lit ?_
         refine wl_ld34 rfl rfl rfl hRg.b0 rfl ?_
         try simp only [sx]
         refine wpList_plain rfl fun K hK => ?_
         go_simp
         refine hK _ _ ?_
         clear hK K
         try simp only [sx]
         refine wpList_plain rfl fun K hK => ?_
         go_simp
         refine (rvote_2 p s a1 s.ps.length c1 a2 s.vs.length c2 (emp) _).mono ?_
         rintro e wy ⟨sa, sn, sc, rfl, ho, hx⟩
         have hRgn := hRg.further hx
         have HO : Hid (wy.ownsRow w.heap.size 39 5 (.slice sa sn sc) (voteA p s 2 (emp)).2.length (wcs (voteA p s 2 (emp)).2)) := own_base ho hRg.ext.size
         have HU : Hid (∀ k, (Value.slice sa sn sc).ownBlock = some k → k ≠ (w.heap.size + 1) ∧ k ≠ w.heap.size ∧ k < wy.heap.size) := fun k q => by
          have := ho.lt k q
          obtain ⟨z, _, qq⟩ := hRg.b1
          have := (Array.getElem?_eq_some_iff.1 qq).1
          have := (Array.getElem?_eq_some_iff.1 hRg.b0).1
          exact ⟨by omega, by omega, (ho.lt k q).2⟩
         clear ho hx
         dsimp only
         refine hK _ _ ?_
         clear hK K
         try simp only [sx]
         refine wpList_plain rfl fun K hK => ?_
         go_simp
         refine hK _ _ ?_
         clear hK K
         try simp only [sx]
         refine wpList_plain rfl fun K hK => ?_
         go_simp
         refine hK _ _ ?_
         clear hK K
         try simp only [sx]
         refine wpList_plain rfl fun K hK => ?_
         go_simp
         refine hK _ _ ?_
         clear hK K
         try simp only [sx]
         refine wpList_plain rfl fun K hK => ?_
         go_simp
         refine hK _ _ ?_
         clear hK K
         try simp only [sx]
         refine wl_st34n rfl rfl rfl rfl rfl rfl (by kernel_rfl) ?_
         try simp only [sx]
         refine wpList_plain rfl fun K hK => ?_
         go_simp
         refine hK _ _ ?_
         clear hK K
         try simp only [sx]
         go_upto_region 14 with fail
         refine wp_region_lit ?_
         refine wl_ld34 rfl rfl rfl (heap_alloc_new _ _) rfl ?_
         try simp only [sx]
         refine wpList_plain rfl fun K hK => ?_
         go_simp
         refine hK _ _ ?_
         clear hK K
         try simp only [sx]
         refine wl_st34 rfl rfl rfl rfl (hRgn.further ((Ext.refl _).alloc _)) rfl (by kernel_rfl) ?_
         intro W1' hR1' hG1' hB1' hK1'
         try simp only [sx]
         refine wpList_plain rfl fun K hK => ?_
         go_simp
         refine hK _ _ ?_
         clear hK K
         try simp only [sx]
         refine wpList_plain rfl fun K hK => ?_
         go_simp
         refine hK _ _ ?_
         clear hK K
         try simp only [sx]
         go_wp2_with fail
         refine bodyPost_ret (ret_three Try.results36 _ _ (w.heap.size + 1) 34 #[.int .i64 p.me, .int .i64 p.ht, .string p.own, .int .i64 s.rd, .int .i64 2, .string s.lk, .int .i64 s.lr, .string s.vv, .int .i64 s.vr, .slice a1 s.ps.length c1, .int .i64 (p.n : Int), .int .i64 (p.t : Int), .slice a2 s.vs.length c2, .bool (fiveA s), .bool s.dn, .string s.dc] (0, 0) rfl hG1' rfl) rfl ?_
         unfold RuP
         rw [HRl.out]
         exact ⟨_, _, _, rfl, own_keep (own_ext HO.out ((Ext.refl _).alloc _)) (fun k q => hK1'.1 k (HU.out k q).1), hR1'.ext⟩
       ·have d3 : decide ((0 : Int) ≤ m.va) = false := decide_eq_false u3
        have HRl : Hid (ruleA p s = some (voteA p s 2 emp)) := by show ruleA p s = _; rw [rule_of h1 h2, h3, if_neg (by rintro (q | q | q); exact u1 q; exact u2 q; exact u3 q.1)]; rfl
        clear u1 u2 u3 h1 h2 h3
        have k5 := (hRg.cell (j := 5) rfl).1
        have k6 := (hRg.cell (j := 6) rfl).1
        have kl := (hRg.cell (j := 0) rfl).2
        have p3 := hWg.2.2.2.1
        have p4 := hWg.2.2.2.2.1
        have pl := hWg.2.2.2.2.2
        go_upto_region 13 with fail
        clear k5 k6 kl
        clear p3 p4 pl
        refine wp_region_lit ?_
        refine wl_ld34 rfl rfl rfl hRg.b0 rfl ?_
        try simp only [sx]
        refine wpList_plain rfl fun K hK => ?_
        go_simp
        refine hK _ _ ?_
        clear hK K
        try simp only [sx]
        refine wpList_plain rfl fun K hK => ?_
        go_simp
        refine (rvote_2 p s a1 s.ps.length c1 a2 s.vs.length c2 (emp) _).mono ?_
        rintro e wy ⟨sa, sn, sc, rfl, ho, hx⟩
        have hRgn := hRg.further hx
        have HO : Hid (wy.ownsRow w.heap.size 39 5 (.slice sa sn sc) (voteA p s 2 (emp)).2.length (wcs (voteA p s 2 (emp)).2)) := own_base ho hRg.ext.size
        have HU : Hid (∀ k, (Value.slice sa sn sc).ownBlock = some k → k ≠ (w.heap.size + 1) ∧ k ≠ w.heap.size ∧ k < wy.heap.size) := fun k q => by
         have := ho.lt k q
         obtain ⟨z, _, qq⟩ := hRg.b1
         have := (Array.getElem?_eq_some_iff.1 qq).1
         have := (Array.getElem?_eq_some_iff.1 hRg.b0).1
         exact ⟨by omega, by omega, (ho.lt k q).2⟩
        clear ho hx
        dsimp only
        refine hK _ _ ?_
        clear hK K
        try simp only [sx]
        refine wpList_plain rfl fun K hK => ?_
        go_simp
        refine hK _ _ ?_
        clear hK K
        try simp only [sx]
        refine wpList_plain rfl fun K hK => ?_
        go_simp
        refine hK _ _ ?_
        clear hK K
        try simp only [sx]
        refine wpList_plain rfl fun K hK => ?_
        go_simp
        refine hK _ _ ?_
        clear hK K
        try simp only [sx]
        refine wpList_plain rfl fun K hK => ?_
        go_simp
        refine hK _ _ ?_
        clear hK K
        try simp only [sx]
        refine wl_st34n rfl rfl rfl rfl rfl rfl (by kernel_rfl) ?_
        try simp only [sx]
        refine wpList_plain rfl fun K hK => ?_
        go_simp
        refine hK _ _ ?_
        clear hK K
        try simp only [sx]
        go_upto_region 14 with fail
        refine wp_region_lit ?_
        refine wl_ld34 rfl rfl rfl (heap_alloc_new _ _) rfl ?_
        try simp only [sx]
        refine wpList_plain rfl fun K hK => ?_
        go_simp
        refine hK _ _ ?_
        clear hK K
        try simp only [sx]
        refine wl_st34 rfl rfl rfl rfl (hRgn.further ((Ext.refl _).alloc _)) rfl (by kernel_rfl) ?_
        intro W1' hR1' hG1' hB1' hK1'
        try simp only [sx]
        refine wpList_plain rfl fun K hK => ?_
        go_simp
        refine hK _ _ ?_
        clear hK K
        try simp only [sx]
        refine wpList_plain rfl fun K hK => ?_
        go_simp
        refine hK _ _ ?_
        clear hK K
        try simp only [sx]
        go_wp2_with fail
        refine bodyPost_ret (ret_three Try.results36 _ _ (w.heap.size + 1) 34 #[.int .i64 p.me, .int .i64 p.ht, .string p.own, .int .i64 s.rd, .int .i64 2, .string s.lk, .int .i64 s.lr, .string s.vv, .int .i64 s.vr, .slice a1 s.ps.length c1, .int .i64 (p.n : Int), .int .i64 (p.t : Int), .slice a2 s.vs.length c2, .bool (fiveA s), .bool s.dn, .string s.dc] (0, 0) rfl hG1' rfl) rfl ?_
        unfold RuP
        rw [HRl.out]
        exact ⟨_, _, _, rfl, own_keep (own_ext HO.out ((Ext.refl _).alloc _)) (fun k q => hK1'.1 k (HU.out k q).1), hR1'.ext⟩
      | false =>
       have Hm3 : Hid (isA p s.vs 2 m.va m.vl = false) := hm3
       have h3 : r3 p s = none := h3e.trans (if_neg (fun q => by rw [hm3] at q; rcases q.2 with z | z; exact hva z; cases z))
       have h5 : r5 p s = none := by unfold r5; rw [hq]; exact if_neg (fun q => q.2.1 hs1)
       have HR6 : Hid (ruleA p s = r6 p s) := by show ruleA p s = _; rw [rule_of h1 h2, h3, h5]; rfl
       have e62 : (s.st == 2) = false := by rw [hs1]; rfl
       have HRl : Hid (ruleA p s = none) := HR6.out.trans (if_neg (fun q => by rw [hs1] at q; exact absurd q.1 (by decide)))
       clear hs1 hva h3e hm3 hq h3 h5 h1 h2
       have k4 := (hRe.cell (j := 4) rfl).1
       have kl := (hRe.cell (j := 0) rfl).2
       have p3 := hWe.2.2.2.1
       have p4 := hWe.2.2.2.2.1
       have pl := hWe.2.2.2.2.2
       go_upto_region 9 with fail
       refine wp_region_lit ?_
       refine wpList_plain rfl fun K hK => ?_
       go_simp
       refine hK _ _ ?_
       clear hK K
       try simp only [sx]
       refine wpList_plain rfl fun K hK => ?_
       go_simp
       refine hK _ _ ?_
       clear hK K
       try simp only [sx]
       refine BigFrame.wpList_want rfl fun K hK => ?_
       go_simp
       refine hK _ _ ?_
       clear hK K
       try simp only [sx]
       refine BigFrame.wpList_want rfl fun K hK => ?_
       go_simp
       refine hK _ _ ?_
       clear hK K
       try simp only [sx]
       refine BigFrame.wpList_want rfl fun K hK => ?_
       go_simp
       refine hK _ _ ?_
       clear hK K
       try simp only [sx]
       refine wpList_plain rfl fun K hK => ?_
       go_simp
       refine hK _ _ ?_
       clear hK K
       try simp only [sx]
       refine wpList_plain rfl fun K hK => ?_
       go_simp
       refine hK _ _ ?_
       clear hK K
       try simp only [sx]
       refine BigFrame.wpList_want rfl fun K hK => ?_
       go_simp
       refine hK _ _ ?_
       clear hK K
       try simp only [sx]
       refine BigFrame.wpList_want rfl fun K hK => ?_
       go_simp
       refine hK _ _ ?_
       clear hK K
       try simp only [sx]
       refine BigFrame.wpList_want rfl fun K hK => ?_
       go_simp
       refine hK _ _ ?_
       clear hK K
       try simp only [sx]
       refine BigFrame.wpList_want rfl fun K hK => ?_
       go_simp
       refine hK _ _ ?_
       clear hK K
       try simp only [sx]
       refine BigFrame.wpList_want rfl fun K hK => ?_
       refine wp_ld34 rfl rfl hRe.b0 rfl ?_
       refine hK _ _ ?_
       clear hK K
       try simp only [sx]
       refine BigFrame.wpList_want rfl fun K hK => ?_
       go_simp
       refine hK _ _ ?_
       clear hK K
       try simp only [sx]
       refine BigFrame.wpList_want rfl fun K hK => ?_
       go_simp
       refine hK _ _ ?_
       clear hK K
       try simp only [sx]
       refine BigFrame.wpList_want rfl fun K hK => ?_
       go_simp
       refine hK _ _ ?_
       clear hK K
       try simp only [sx]
       refine BigFrame.wpList_want rfl fun K hK => ?_
       go_simp
       refine hK _ _ ?_
       clear hK K
       try simp only [sx]
       refine BigFrame.wpList_want rfl fun K hK => ?_
       go_simp
       refine (HI.out _ hRe.ext 2 m.va m.vl).mono ?_
       rintro e w7 ⟨rfl, HXq⟩
       rw [Hm3.out]
       have hRg := hRe.further HXq
       have hWg := hWe.ext HXq
       clear HXq
       dsimp only
       refine hK _ _ ?_
       clear hK K
       try simp only [sx]
       refine BigFrame.wpList_want rfl fun K hK => ?_
       go_simp
       refine hK _ _ ?_
       clear hK K
       try simp only [sx]
       refine wpList_plain rfl fun K hK => ?_
       go_simp
       refine hK _ _ ?_
       clear hK K
       try simp only [sx]
       clear k4 kl
       clear p3 p4 pl
       by_cases hf5 : fiveA s = true
       ·have F5 : Hid (fiveA s = true) := hf5
        clear hf5
        have k3 := (hRg.cell (j := 3) rfl).1
        have k4 := (hRg.cell (j := 4) rfl).1
        have kl := (hRg.cell (j := 0) rfl).2
        have k13 := (hRg.cell (j := 13) (v := .bool (fiveA s)) rfl).1
        rw [F5.out] at k13
        go_upto_region 28 with fail
        clear k3 k4 k13 kl
        refine wp_region_lit ?_
        refine wl_ld34 rfl rfl rfl hRg.b0 rfl ?_
        try simp only [sx]
        refine wl_st34 rfl rfl rfl rfl hRg rfl (by kernel_rfl) ?_
        intro W1' hR1' hG1' hB1' hK1'
        try simp only [sx]
        refine wpList_plain rfl fun K hK => ?_
        go_simp
        refine hK _ _ ?_
        clear hK K
        try simp only [sx]
        refine wpList_plain rfl fun K hK => ?_
        go_simp
        refine hK _ _ ?_
        clear hK K
        try simp only [sx]
        go_wp2_with fail
        refine bodyPost_ret (ret_three Try.results36 _ _ (w.heap.size + 1) 34 #[.int .i64 p.me, .int .i64 p.ht, .string p.own, .int .i64 s.rd, .int .i64 s.st, .string s.lk, .int .i64 s.lr, .string s.vv, .int .i64 s.vr, .slice a1 s.ps.length c1, .int .i64 (p.n : Int), .int .i64 (p.t : Int), .slice a2 s.vs.length c2, .bool (fiveA s), .bool s.dn, .string s.dc] (0, 0) rfl hG1' rfl) rfl ?_
        unfold RuP
        rw [HRl.out]
        exact ⟨rfl, hR1'.ext⟩
       ·have F5 : Hid (fiveA s = false) := (by simpa using hf5 : fiveA s = false)
        clear hf5
        have k3 := (hRg.cell (j := 3) rfl).1
        have k4 := (hRg.cell (j := 4) rfl).1
        have kl := (hRg.cell (j := 0) rfl).2
        have k13 := (hRg.cell (j := 13) (v := .bool (fiveA s)) rfl).1
        rw [F5.out] at k13
        go_upto_region 28 with fail
        clear k3 k4 k13 kl
        refine wp_region_lit ?_
        refine wl_ld34 rfl rfl rfl hRg.b0 rfl ?_
        try simp only [sx]
        refine wl_st34 rfl rfl rfl rfl hRg rfl (by kernel_rfl) ?_
        intro W1' hR1' hG1' hB1' hK1'
        try simp only [sx]
        refine wpList_plain rfl fun K hK => ?_
        go_simp
        refine hK _ _ ?_
        clear hK K
        try simp only [sx]
        refine wpList_plain rfl fun K hK => ?_
        go_simp
        refine hK _ _ ?_
        clear hK K
        try simp only [sx]
        go_wp2_with fail
        refine bodyPost_ret (ret_three Try.results36 _ _ (w.heap.size + 1) 34 #[.int .i64 p.me, .int .i64 p.ht, .string p.own, .int .i64 s.rd, .int .i64 s.st, .string s.lk, .int .i64 s.lr, .string s.vv, .int .i64 s.vr, .slice a1 s.ps.length c1, .int .i64 (p.n : Int), .int .i64 (p.t : Int), .slice a2 s.vs.length c2, .bool (fiveA s), .bool s.dn, .string s.dc] (0, 0) rfl hG1' rfl) rfl ?_
        unfold RuP
        rw [HRl.out]
        exact ⟨rfl, hR1'.ext⟩
    ·have h3 : r3 p s = none := h3e.trans (if_neg (fun q => hs1 q.1))
     have e1 : (s.st == 1) = false := by simpa using hs1
     clear h3e
     have k4 := (hRe.cell (j := 4) rfl).1
     have kl := (hRe.cell (j := 0) rfl).2
     go_upto_region 15 with fail
     clear k4 kl
     have e15 : (s.st != 1) = true := by simpa using hs1
     have e15b : (s.st == 1) = false := by simpa using hs1
     by_cases hv5 : s.vr = s.rd
     ·have F5 : Hid (fiveA s = true) := decide_eq_true ⟨H0.out, hv5⟩
      have h5 : r5 p s = none := by unfold r5; rw [hq]; exact if_neg (fun q => q.1 hv5)
      have HR6 : Hid (ruleA p s = r6 p s) := by rw [rule_of h1 h2, h3, h5]; rfl
      clear hv5 hs1 h1 h2 h3 h5 hq
      have k3 := (hRe.cell (j := 3) rfl).1
      have k4 := (hRe.cell (j := 4) rfl).1
      have kl := (hRe.cell (j := 0) rfl).2
      have k13 := (hRe.cell (j := 13) (v := .bool (fiveA s)) rfl).1
      rw [F5.out] at k13
      go_upto_region 25 with fail
      clear k3 k4 k13 kl
      by_cases h62 : s.st = 2
      ·have e62 : (s.st == 2) = true := by simpa using h62
       cases hm6 : isA p s.vs 2 s.rd emp with
       | true =>
        have Hm6 : Hid (isA p s.vs 2 s.rd emp = true) := hm6
        have HRl : Hid (ruleA p s = some (voteA p s 3 emp)) := (HR6.out).trans (if_pos ⟨h62, hm6⟩)
        clear h62 hm6
        have k3 := (hRe.cell (j := 3) rfl).1
        have k4 := (hRe.cell (j := 4) rfl).1
        have kl := (hRe.cell (j := 0) rfl).2
        go_upto_region 25 with fail
        refine wp_region_lit ?_
        refine wpList_plain rfl fun K hK => ?_
        go_simp
        refine hK _ _ ?_
        clear hK K
        try simp only [sx]
        refine wpList_plain rfl fun K hK => ?_
        go_simp
        refine hK _ _ ?_
        clear hK K
        try simp only [sx]
        refine wpList_plain rfl fun K hK => ?_
        go_simp
        refine hK _ _ ?_
        clear hK K
        try simp only [sx]
        refine wpList_plain rfl fun K hK => ?_
        go_simp
        refine hK _ _ ?_
        clear hK K
        try simp only [sx]
        refine BigFrame.wpList_want rfl fun K hK => ?_
        refine wp_ld34 rfl rfl hRe.b0 rfl ?_
        refine hK _ _ ?_
        clear hK K
        try simp only [sx]
        refine BigFrame.wpList_want rfl fun K hK => ?_
        go_simp
        refine hK _ _ ?_
        clear hK K
        try simp only [sx]
        refine BigFrame.wpList_want rfl fun K hK => ?_
        go_simp
        refine hK _ _ ?_
        clear hK K
        try simp only [sx]
        refine BigFrame.wpList_want rfl fun K hK => ?_
        go_simp
        refine (HI.out _ hRe.ext 2 s.rd emp).mono ?_
        rintro e wz ⟨rfl, HXz⟩
        rw [Hm6.out]
        have hRz := hRe.further HXz
        clear HXz
        dsimp only
        refine hK _ _ ?_
        clear hK K
        try simp only [sx]
        refine wpList_plain rfl fun K hK => ?_
        go_simp
        refine hK _ _ ?_
        clear hK K
        try simp only [sx]
        clear k3 k4 kl
        go_upto_region 26 with fail
        refine wp_region_lit ?_
        refine wl_ld34 rfl rfl rfl hRz.b0 rfl ?_
        try simp only [sx]
        refine wpList_plain rfl fun K hK => ?_
        go_simp
        refine (rvote_3 p s a1 s.ps.length c1 a2 s.vs.length c2 emp _).mono ?_
        rintro e wy ⟨sa, sn, sc, rfl, ho, hx⟩
        have hRzn := hRz.further hx
        have HO : Hid (wy.ownsRow w.heap.size 39 5 (.slice sa sn sc) (voteA p s 3 emp).2.length (wcs (voteA p s 3 emp).2)) := own_base ho hRz.ext.size
        have HU : Hid (∀ k, (Value.slice sa sn sc).ownBlock = some k → k ≠ (w.heap.size + 1) ∧ k ≠ w.heap.size ∧ k < wy.heap.size) := fun k q => by
         have := ho.lt k q
         obtain ⟨z, _, qq⟩ := hRz.b1
         have := (Array.getElem?_eq_some_iff.1 qq).1
         have := (Array.getElem?_eq_some_iff.1 hRz.b0).1
         exact ⟨by omega, by omega, (ho.lt k q).2⟩
        clear ho hx
        dsimp only
        refine hK _ _ ?_
        clear hK K
        try simp only [sx]
        refine wpList_plain rfl fun K hK => ?_
        go_simp
        refine hK _ _ ?_
        clear hK K
        try simp only [sx]
        refine wpList_plain rfl fun K hK => ?_
        go_simp
        refine hK _ _ ?_
        clear hK K
        try simp only [sx]
        refine wpList_plain rfl fun K hK => ?_
        go_simp
        refine hK _ _ ?_
        clear hK K
        try simp only [sx]
        refine wpList_plain rfl fun K hK => ?_
        go_simp
        refine hK _ _ ?_
        clear hK K
        try simp only [sx]
        refine wl_st34n rfl rfl rfl rfl rfl rfl (by kernel_rfl) ?_
        try simp only [sx]
        refine wpList_plain rfl fun K hK => ?_
        go_simp
        refine hK _ _ ?_
        clear hK K
        try simp only [sx]
        go_upto_region 27 with fail
        refine wp_region_lit ?_
        refine wl_ld34 rfl rfl rfl (heap_alloc_new _ _) rfl ?_
        try simp only [sx]
        refine wpList_plain rfl fun K hK => ?_
        go_simp
        refine hK _ _ ?_
        clear hK K
        try simp only [sx]
        refine wl_st34 rfl rfl rfl rfl (hRzn.further ((Ext.refl _).alloc _)) rfl (by kernel_rfl) ?_
        intro W1' hR1' hG1' hB1' hK1'
        try simp only [sx]
        refine wpList_plain rfl fun K hK => ?_
        go_simp
        refine hK _ _ ?_
        clear hK K
        try simp only [sx]
        refine wpList_plain rfl fun K hK => ?_
        go_simp
        refine hK _ _ ?_
        clear hK K
        try simp only [sx]
        go_wp2_with fail
        refine bodyPost_ret (ret_three Try.results36 _ _ (w.heap.size + 1) 34 #[.int .i64 p.me, .int .i64 p.ht, .string p.own, .int .i64 s.rd, .int .i64 3, .string s.lk, .int .i64 s.lr, .string s.vv, .int .i64 s.vr, .slice a1 s.ps.length c1, .int .i64 (p.n : Int), .int .i64 (p.t : Int), .slice a2 s.vs.length c2, .bool (fiveA s), .bool s.dn, .string s.dc] (0, 0) rfl hG1' rfl) rfl ?_
        unfold RuP
        rw [HRl.out]
        exact ⟨_, _, _, rfl, own_keep (own_ext HO.out ((Ext.refl _).alloc _)) (fun k q => hK1'.1 k (HU.out k q).1), hR1'.ext⟩
       | false =>
        have Hm6 : Hid (isA p s.vs 2 s.rd emp = false) := hm6
        have HRl : Hid (ruleA p s = none) := (HR6.out).trans (if_neg (fun q => by rw [hm6] at q; cases q.2))
        clear h62 hm6
        have k3 := (hRe.cell (j := 3) rfl).1
        have k4 := (hRe.cell (j := 4) rfl).1
        have kl := (hRe.cell (j := 0) rfl).2
        go_upto_region 25 with fail
        refine wp_region_lit ?_
        refine wpList_plain rfl fun K hK => ?_
        go_simp
        refine hK _ _ ?_
        clear hK K
        try simp only [sx]
        refine wpList_plain rfl fun K hK => ?_
        go_simp
        refine hK _ _ ?_
        clear hK K
        try simp only [sx]
        refine wpList_plain rfl fun K hK => ?_
        go_simp
        refine hK _ _ ?_
        clear hK K
        try simp only [sx]
        refine wpList_plain rfl fun K hK => ?_
        go_simp
        refine hK _ _ ?_
        clear hK K
        try simp only [sx]
        refine BigFrame.wpList_want rfl fun K hK => ?_
        refine wp_ld34 rfl rfl hRe.b0 rfl ?_
        refine hK _ _ ?_
        clear hK K
        try simp only [sx]
        refine BigFrame.wpList_want rfl fun K hK => ?_
        go_simp
        refine hK _ _ ?_
        clear hK K
        try simp only [sx]
        refine BigFrame.wpList_want rfl fun K hK => ?_
        go_simp
        refine hK _ _ ?_
        clear hK K
        try simp only [sx]
        refine BigFrame.wpList_want rfl fun K hK => ?_
        go_simp
        refine (HI.out _ hRe.ext 2 s.rd emp).mono ?_
        rintro e wz ⟨rfl, HXz⟩
        rw [Hm6.out]
        have hRz := hRe.further HXz
        clear HXz
        dsimp only
        refine hK _ _ ?_
        clear hK K
        try simp only [sx]
        refine wpList_plain rfl fun K hK => ?_
        go_simp
        refine hK _ _ ?_
        clear hK K
        try simp only [sx]
        clear k3 k4 kl
        go_upto_region 28 with fail
        refine wp_region_lit ?_
        refine wl_ld34 rfl rfl rfl hRz.b0 rfl ?_
        try simp only [sx]
        refine wl_st34 rfl rfl rfl rfl hRz rfl (by kernel_rfl) ?_
        intro W1' hR1' hG1' hB1' hK1'
        try simp only [sx]
        refine wpList_plain rfl fun K hK => ?_
        go_simp
        refine hK _ _ ?_
        clear hK K
        try simp only [sx]
        refine wpList_plain rfl fun K hK => ?_
        go_simp
        refine hK _ _ ?_
        clear hK K
        try simp only [sx]
        go_wp2_with fail
        refine bodyPost_ret (ret_three Try.results36 _ _ (w.heap.size + 1) 34 #[.int .i64 p.me, .int .i64 p.ht, .string p.own, .int .i64 s.rd, .int .i64 s.st, .string s.lk, .int .i64 s.lr, .string s.vv, .int .i64 s.vr, .slice a1 s.ps.length c1, .int .i64 (p.n : Int), .int .i64 (p.t : Int), .slice a2 s.vs.length c2, .bool (fiveA s), .bool s.dn, .string s.dc] (0, 0) rfl hG1' rfl) rfl ?_
        unfold RuP
        rw [HRl.out]
        exact ⟨rfl, hR1'.ext⟩
      ·have e62 : (s.st == 2) = false := by simpa using h62
       have HRl : Hid (ruleA p s = none) := (HR6.out).trans (if_neg (fun q => h62 q.1))
       clear h62
       have k3 := (hRe.cell (j := 3) rfl).1
       have k4 := (hRe.cell (j := 4) rfl).1
       have kl := (hRe.cell (j := 0) rfl).2
       go_upto_region 28 with fail
       clear k3 k4 kl
       refine wp_region_lit ?_
       refine wl_ld34 rfl rfl rfl hRe.b0 rfl ?_
       try simp only [sx]
       refine wl_st34 rfl rfl rfl rfl hRe rfl (by kernel_rfl) ?_
       intro W1' hR1' hG1' hB1' hK1'
       try simp only [sx]
       refine wpList_plain rfl fun K hK => ?_
       go_simp
       refine hK _ _ ?_
       clear hK K
       try simp only [sx]
       refine wpList_plain rfl fun K hK => ?_
       go_simp
       refine hK _ _ ?_
       clear hK K
       try simp only [sx]
       go_wp2_with fail
       refine bodyPost_ret (ret_three Try.results36 _ _ (w.heap.size + 1) 34 #[.int .i64 p.me, .int .i64 p.ht, .string p.own, .int .i64 s.rd, .int .i64 s.st, .string s.lk, .int .i64 s.lr, .string s.vv, .int .i64 s.vr, .slice a1 s.ps.length c1, .int .i64 (p.n : Int), .int .i64 (p.t : Int), .slice a2 s.vs.length c2, .bool (fiveA s), .bool s.dn, .string s.dc] (0, 0) rfl hG1' rfl) rfl ?_
       unfold RuP
       rw [HRl.out]
       exact ⟨rfl, hR1'.ext⟩
     ·have F5 : Hid (fiveA s = false) := decide_eq_false (fun q => hv5 q.2)
      cases hm5 : isA p s.vs 2 s.rd m.vl with
      | false =>
       have Hm5 : Hid (isA p s.vs 2 s.rd m.vl = false) := hm5
       have h5 : r5 p s = none := by unfold r5; rw [hq]; exact if_neg (fun q => by rw [hm5] at q; cases q.2.2)
       have HR6 : Hid (ruleA p s = r6 p s) := by rw [rule_of h1 h2, h3, h5]; rfl
       clear hv5 hs1 h1 h2 h3 h5 hq hm5
       have k3 := (hRe.cell (j := 3) rfl).1
       have k4 := (hRe.cell (j := 4) rfl).1
       have kl := (hRe.cell (j := 0) rfl).2
       have k13 := (hRe.cell (j := 13) (v := .bool (fiveA s)) rfl).1
       rw [F5.out] at k13
       have p4 := hWe.2.2.2.2.1
       have pl := hWe.2.2.2.2.2
       go_upto_region 15 with fail
       refine wp_region_lit ?_
       refine wpList_plain rfl fun K hK => ?_
       go_simp
       refine hK _ _ ?_
       clear hK K
       try simp only [sx]
       refine wpList_plain rfl fun K hK => ?_
       go_simp
       refine hK _ _ ?_
       clear hK K
       try simp only [sx]
       refine BigFrame.wpList_want rfl fun K hK => ?_
       go_simp
       refine hK _ _ ?_
       clear hK K
       try simp only [sx]
       refine BigFrame.wpList_want rfl fun K hK => ?_
       go_simp
       refine hK _ _ ?_
       clear hK K
       try simp only [sx]
       refine BigFrame.wpList_want rfl fun K hK => ?_
       go_simp
       refine hK _ _ ?_
       clear hK K
       try simp only [sx]
       refine wpList_plain rfl fun K hK => ?_
       go_simp
       refine hK _ _ ?_
       clear hK K
       try simp only [sx]
       refine wpList_plain rfl fun K hK => ?_
       go_simp
       refine hK _ _ ?_
       clear hK K
       try simp only [sx]
       refine BigFrame.wpList_want rfl fun K hK => ?_
       go_simp
       refine hK _ _ ?_
       clear hK K
       try simp only [sx]
       refine BigFrame.wpList_want rfl fun K hK => ?_
       go_simp
       refine hK _ _ ?_
       clear hK K
       try simp only [sx]
       refine BigFrame.wpList_want rfl fun K hK => ?_
       go_simp
       refine hK _ _ ?_
       clear hK K
       try simp only [sx]
       refine wpList_plain rfl fun K hK => ?_
       go_simp
       refine hK _ _ ?_
       clear hK K
       try simp only [sx]
       refine wpList_plain rfl fun K hK => ?_
       go_simp
       refine hK _ _ ?_
       clear hK K
       try simp only [sx]
       refine BigFrame.wpList_want rfl fun K hK => ?_
       refine wp_ld34 rfl rfl hRe.b0 rfl ?_
       refine hK _ _ ?_
       clear hK K
       try simp only [sx]
       refine BigFrame.wpList_want rfl fun K hK => ?_
       go_simp
       refine hK _ _ ?_
       clear hK K
       try simp only [sx]
       refine BigFrame.wpList_want rfl fun K hK => ?_
       go_simp
       refine hK _ _ ?_
       clear hK K
       try simp only [sx]
       refine BigFrame.wpList_want rfl fun K hK => ?_
       go_simp
       refine hK _ _ ?_
       clear hK K
       try simp only [sx]
       refine BigFrame.wpList_want rfl fun K hK => ?_
       go_simp
       refine hK _ _ ?_
       clear hK K
       try simp only [sx]
       refine BigFrame.wpList_want rfl fun K hK => ?_
       go_simp
       refine (HI.out _ hRe.ext 2 s.rd m.vl).mono ?_
       rintro e w6 ⟨rfl, HXq⟩
       rw [Hm5.out]
       have hRf := hRe.further HXq
       have hWf := hWe.ext HXq
       clear HXq
       dsimp only
       refine hK _ _ ?_
       clear hK K
       try simp only [sx]
       refine wpList_plain rfl fun K hK => ?_
       go_simp
       refine hK _ _ ?_
       clear hK K
       try simp only [sx]
       clear k3 k4 k13 kl
       clear p4 pl
       by_cases h62 : s.st = 2
       ·have e62 : (s.st == 2) = true := by simpa using h62
        cases hm6 : isA p s.vs 2 s.rd emp with
        | true =>
         have Hm6 : Hid (isA p s.vs 2 s.rd emp = true) := hm6
         have HRl : Hid (ruleA p s = some (voteA p s 3 emp)) := (HR6.out).trans (if_pos ⟨h62, hm6⟩)
         clear h62 hm6
         have k3 := (hRf.cell (j := 3) rfl).1
         have k4 := (hRf.cell (j := 4) rfl).1
         have kl := (hRf.cell (j := 0) rfl).2
         go_upto_region 25 with fail
         refine wp_region_lit ?_
         refine wpList_plain rfl fun K hK => ?_
         go_simp
         refine hK _ _ ?_
         clear hK K
         try simp only [sx]
         refine wpList_plain rfl fun K hK => ?_
         go_simp
         refine hK _ _ ?_
         clear hK K
         try simp only [sx]
         refine wpList_plain rfl fun K hK => ?_
         go_simp
         refine hK _ _ ?_
         clear hK K
         try simp only [sx]
         refine wpList_plain rfl fun K hK => ?_
         go_simp
         refine hK _ _ ?_
         clear hK K
         try simp only [sx]
         refine BigFrame.wpList_want rfl fun K hK => ?_
         refine wp_ld34 rfl rfl hRf.b0 rfl ?_
         refine hK _ _ ?_
         clear hK K
         try simp only [sx]
         refine BigFrame.wpList_want rfl fun K hK => ?_
         go_simp
         refine hK _ _ ?_
         clear hK K
         try simp only [sx]
         refine BigFrame.wpList_want rfl fun K hK => ?_
         go_simp
         refine hK _ _ ?_
         clear hK K
         try simp only [sx]
         refine BigFrame.wpList_want rfl fun K hK => ?_
         go_simp
         refine (HI.out _ hRf.ext 2 s.rd emp).mono ?_
         rintro e wz ⟨rfl, HXz⟩
         rw [Hm6.out]
         have hRz := hRf.further HXz
         clear HXz
         dsimp only
         refine hK _ _ ?_
         clear hK K
         try simp only [sx]
         refine wpList_plain rfl fun K hK => ?_
         go_simp
         refine hK _ _ ?_
         clear hK K
         try simp only [sx]
         clear k3 k4 kl
         go_upto_region 26 with fail
         refine wp_region_lit ?_
         refine wl_ld34 rfl rfl rfl hRz.b0 rfl ?_
         try simp only [sx]
         refine wpList_plain rfl fun K hK => ?_
         go_simp
         refine (rvote_3 p s a1 s.ps.length c1 a2 s.vs.length c2 emp _).mono ?_
         rintro e wy ⟨sa, sn, sc, rfl, ho, hx⟩
         have hRzn := hRz.further hx
         have HO : Hid (wy.ownsRow w.heap.size 39 5 (.slice sa sn sc) (voteA p s 3 emp).2.length (wcs (voteA p s 3 emp).2)) := own_base ho hRz.ext.size
         have HU : Hid (∀ k, (Value.slice sa sn sc).ownBlock = some k → k ≠ (w.heap.size + 1) ∧ k ≠ w.heap.size ∧ k < wy.heap.size) := fun k q => by
          have := ho.lt k q
          obtain ⟨z, _, qq⟩ := hRz.b1
          have := (Array.getElem?_eq_some_iff.1 qq).1
          have := (Array.getElem?_eq_some_iff.1 hRz.b0).1
          exact ⟨by omega, by omega, (ho.lt k q).2⟩
         clear ho hx
         dsimp only
         refine hK _ _ ?_
         clear hK K
         try simp only [sx]
         refine wpList_plain rfl fun K hK => ?_
         go_simp
         refine hK _ _ ?_
         clear hK K
         try simp only [sx]
         refine wpList_plain rfl fun K hK => ?_
         go_simp
         refine hK _ _ ?_
         clear hK K
         try simp only [sx]
         refine wpList_plain rfl fun K hK => ?_
         go_simp
         refine hK _ _ ?_
         clear hK K
         try simp only [sx]
         refine wpList_plain rfl fun K hK => ?_
         go_simp
         refine hK _ _ ?_
         clear hK K
         try simp only [sx]
         refine wl_st34n rfl rfl rfl rfl rfl rfl (by kernel_rfl) ?_
         try simp only [sx]
         refine wpList_plain rfl fun K hK => ?_
         go_simp
         refine hK _ _ ?_
         clear hK K
         try simp only [sx]
         go_upto_region 27 with fail
         refine wp_region_lit ?_
         refine wl_ld34 rfl rfl rfl (heap_alloc_new _ _) rfl ?_
         try simp only [sx]
         refine wpList_plain rfl fun K hK => ?_
         go_simp
         refine hK _ _ ?_
         clear hK K
         try simp only [sx]
         refine wl_st34 rfl rfl rfl rfl (hRzn.further ((Ext.refl _).alloc _)) rfl (by kernel_rfl) ?_
         intro W1' hR1' hG1' hB1' hK1'
         try simp only [sx]
         refine wpList_plain rfl fun K hK => ?_
         go_simp
         refine hK _ _ ?_
         clear hK K
         try simp only [sx]
         refine wpList_plain rfl fun K hK => ?_
         go_simp
         refine hK _ _ ?_
         clear hK K
         try simp only [sx]
         go_wp2_with fail
         refine bodyPost_ret (ret_three Try.results36 _ _ (w.heap.size + 1) 34 #[.int .i64 p.me, .int .i64 p.ht, .string p.own, .int .i64 s.rd, .int .i64 3, .string s.lk, .int .i64 s.lr, .string s.vv, .int .i64 s.vr, .slice a1 s.ps.length c1, .int .i64 (p.n : Int), .int .i64 (p.t : Int), .slice a2 s.vs.length c2, .bool (fiveA s), .bool s.dn, .string s.dc] (0, 0) rfl hG1' rfl) rfl ?_
         unfold RuP
         rw [HRl.out]
         exact ⟨_, _, _, rfl, own_keep (own_ext HO.out ((Ext.refl _).alloc _)) (fun k q => hK1'.1 k (HU.out k q).1), hR1'.ext⟩
        | false =>
         have Hm6 : Hid (isA p s.vs 2 s.rd emp = false) := hm6
         have HRl : Hid (ruleA p s = none) := (HR6.out).trans (if_neg (fun q => by rw [hm6] at q; cases q.2))
         clear h62 hm6
         have k3 := (hRf.cell (j := 3) rfl).1
         have k4 := (hRf.cell (j := 4) rfl).1
         have kl := (hRf.cell (j := 0) rfl).2
         go_upto_region 25 with fail
         refine wp_region_lit ?_
         refine wpList_plain rfl fun K hK => ?_
         go_simp
         refine hK _ _ ?_
         clear hK K
         try simp only [sx]
         refine wpList_plain rfl fun K hK => ?_
         go_simp
         refine hK _ _ ?_
         clear hK K
         try simp only [sx]
         refine wpList_plain rfl fun K hK => ?_
         go_simp
         refine hK _ _ ?_
         clear hK K
         try simp only [sx]
         refine wpList_plain rfl fun K hK => ?_
         go_simp
         refine hK _ _ ?_
         clear hK K
         try simp only [sx]
         refine BigFrame.wpList_want rfl fun K hK => ?_
         refine wp_ld34 rfl rfl hRf.b0 rfl ?_
         refine hK _ _ ?_
         clear hK K
         try simp only [sx]
         refine BigFrame.wpList_want rfl fun K hK => ?_
         go_simp
         refine hK _ _ ?_
         clear hK K
         try simp only [sx]
         refine BigFrame.wpList_want rfl fun K hK => ?_
         go_simp
         refine hK _ _ ?_
         clear hK K
         try simp only [sx]
         refine BigFrame.wpList_want rfl fun K hK => ?_
         go_simp
         refine (HI.out _ hRf.ext 2 s.rd emp).mono ?_
         rintro e wz ⟨rfl, HXz⟩
         rw [Hm6.out]
         have hRz := hRf.further HXz
         clear HXz
         dsimp only
         refine hK _ _ ?_
         clear hK K
         try simp only [sx]
         refine wpList_plain rfl fun K hK => ?_
         go_simp
         refine hK _ _ ?_
         clear hK K
         try simp only [sx]
         clear k3 k4 kl
         go_upto_region 28 with fail
         refine wp_region_lit ?_
         refine wl_ld34 rfl rfl rfl hRz.b0 rfl ?_
         try simp only [sx]
         refine wl_st34 rfl rfl rfl rfl hRz rfl (by kernel_rfl) ?_
         intro W1' hR1' hG1' hB1' hK1'
         try simp only [sx]
         refine wpList_plain rfl fun K hK => ?_
         go_simp
         refine hK _ _ ?_
         clear hK K
         try simp only [sx]
         refine wpList_plain rfl fun K hK => ?_
         go_simp
         refine hK _ _ ?_
         clear hK K
         try simp only [sx]
         go_wp2_with fail
         refine bodyPost_ret (ret_three Try.results36 _ _ (w.heap.size + 1) 34 #[.int .i64 p.me, .int .i64 p.ht, .string p.own, .int .i64 s.rd, .int .i64 s.st, .string s.lk, .int .i64 s.lr, .string s.vv, .int .i64 s.vr, .slice a1 s.ps.length c1, .int .i64 (p.n : Int), .int .i64 (p.t : Int), .slice a2 s.vs.length c2, .bool (fiveA s), .bool s.dn, .string s.dc] (0, 0) rfl hG1' rfl) rfl ?_
         unfold RuP
         rw [HRl.out]
         exact ⟨rfl, hR1'.ext⟩
       ·have e62 : (s.st == 2) = false := by simpa using h62
        have HRl : Hid (ruleA p s = none) := (HR6.out).trans (if_neg (fun q => h62 q.1))
        clear h62
        have k3 := (hRf.cell (j := 3) rfl).1
        have k4 := (hRf.cell (j := 4) rfl).1
        have kl := (hRf.cell (j := 0) rfl).2
        go_upto_region 28 with fail
        clear k3 k4 kl
        refine wp_region_lit ?_
        refine wl_ld34 rfl rfl rfl hRf.b0 rfl ?_
        try simp only [sx]
        refine wl_st34 rfl rfl rfl rfl hRf rfl (by kernel_rfl) ?_
        intro W1' hR1' hG1' hB1' hK1'
        try simp only [sx]
        refine wpList_plain rfl fun K hK => ?_
        go_simp
        refine hK _ _ ?_
        clear hK K
        try simp only [sx]
        refine wpList_plain rfl fun K hK => ?_
        go_simp
        refine hK _ _ ?_
        clear hK K
        try simp only [sx]
        go_wp2_with fail
        refine bodyPost_ret (ret_three Try.results36 _ _ (w.heap.size + 1) 34 #[.int .i64 p.me, .int .i64 p.ht, .string p.own, .int .i64 s.rd, .int .i64 s.st, .string s.lk, .int .i64 s.lr, .string s.vv, .int .i64 s.vr, .slice a1 s.ps.length c1, .int .i64 (p.n : Int), .int .i64 (p.t : Int), .slice a2 s.vs.length c2, .bool (fiveA s), .bool s.dn, .string s.dc] (0, 0) rfl hG1' rfl) rfl ?_
        unfold RuP
        rw [HRl.out]
        exact ⟨rfl, hR1'.ext⟩
      | true =>
       have Hm5 : Hid (isA p s.vs 2 s.rd m.vl = true) := hm5
       by_cases h52 : s.st = 2
       ·have e52 : (s.st == 2) = true := by simpa using h52
        have HRl : Hid (ruleA p s = some (voteA p (lockA s m.vl) 3 m.vl)) := by
         show ruleA p s = _
         have h5 : r5 p s = some (voteA p (lockA s m.vl) 3 m.vl) := by unfold r5; rw [hq]; dsimp only; rw [if_pos ⟨hv5, hs1, hm5⟩, if_pos h52]
         rw [rule_of h1 h2, h3, h5]; rfl
        have HV3 : Hid (∀ wx, Calls Try.prog 48 #[.agg #[.int .i64 p.me, .int .i64 p.ht, .string p.own, .int .i64 s.rd, .int .i64 s.st, .string m.vl, .int .i64 s.rd, .string m.vl, .int .i64 s.rd, .slice a1 s.ps.length c1, .int .i64 (p.n : Int), .int .i64 (p.t : Int), .slice a2 s.vs.length c2, .bool true, .bool s.dn, .string s.dc], .int .i64 3, .string m.vl] wx fun e w' => SayP p (voteA p (lockA s m.vl) 3 m.vl).1 (voteA p (lockA s m.vl) 3 m.vl).2 a1 s.ps.length c1 a2 s.vs.length c2 wx e w') := fun wx => by
         have := rvote_3 p (lockA s m.vl) a1 s.ps.length c1 a2 s.vs.length c2 m.vl wx
         rw [show av p (lockA s m.vl) a1 s.ps.length c1 a2 s.vs.length c2 = .agg #[.int .i64 p.me, .int .i64 p.ht, .string p.own, .int .i64 s.rd, .int .i64 s.st, .string m.vl, .int .i64 s.rd, .string m.vl, .int .i64 s.rd, .slice a1 s.ps.length c1, .int .i64 (p.n : Int), .int .i64 (p.t : Int), .slice a2 s.vs.length c2, .bool true, .bool s.dn, .string s.dc] from by show Value.agg #[.int .i64 p.me, .int .i64 p.ht, .string p.own, .int .i64 (lockA s m.vl).rd, .int .i64 (lockA s m.vl).st, .string (lockA s m.vl).lk, .int .i64 (lockA s m.vl).lr, .string (lockA s m.vl).vv, .int .i64 (lockA s m.vl).vr, .slice a1 s.ps.length c1, .int .i64 (p.n : Int), .int .i64 (p.t : Int), .slice a2 s.vs.length c2, .bool (fiveA (lockA s m.vl)), .bool (lockA s m.vl).dn, .string (lockA s m.vl).dc] = _; rw [five_lock s m.vl H0.out]; rfl] at this
         exact this
        clear hv5 hs1 h1 h2 h3 hq hm5 h52
        have k3 := (hRe.cell (j := 3) rfl).1
        have k4 := (hRe.cell (j := 4) rfl).1
        have kl := (hRe.cell (j := 0) rfl).2
        have k13 := (hRe.cell (j := 13) (v := .bool (fiveA s)) rfl).1
        rw [F5.out] at k13
        have p4 := hWe.2.2.2.2.1
        have pl := hWe.2.2.2.2.2
        go_upto_region 15 with fail
        refine wp_region_lit ?_
        refine wpList_plain rfl fun K hK => ?_
        go_simp
        refine hK _ _ ?_
        clear hK K
        try simp only [sx]
        refine wpList_plain rfl fun K hK => ?_
        go_simp
        refine hK _ _ ?_
        clear hK K
        try simp only [sx]
        refine BigFrame.wpList_want rfl fun K hK => ?_
        go_simp
        refine hK _ _ ?_
        clear hK K
        try simp only [sx]
        refine BigFrame.wpList_want rfl fun K hK => ?_
        go_simp
        refine hK _ _ ?_
        clear hK K
        try simp only [sx]
        refine BigFrame.wpList_want rfl fun K hK => ?_
        go_simp
        refine hK _ _ ?_
        clear hK K
        try simp only [sx]
        refine wpList_plain rfl fun K hK => ?_
        go_simp
        refine hK _ _ ?_
        clear hK K
        try simp only [sx]
        refine wpList_plain rfl fun K hK => ?_
        go_simp
        refine hK _ _ ?_
        clear hK K
        try simp only [sx]
        refine BigFrame.wpList_want rfl fun K hK => ?_
        go_simp
        refine hK _ _ ?_
        clear hK K
        try simp only [sx]
        refine BigFrame.wpList_want rfl fun K hK => ?_
        go_simp
        refine hK _ _ ?_
        clear hK K
        try simp only [sx]
        refine BigFrame.wpList_want rfl fun K hK => ?_
        go_simp
        refine hK _ _ ?_
        clear hK K
        try simp only [sx]
        refine wpList_plain rfl fun K hK => ?_
        go_simp
        refine hK _ _ ?_
        clear hK K
        try simp only [sx]
        refine wpList_plain rfl fun K hK => ?_
        go_simp
        refine hK _ _ ?_
        clear hK K
        try simp only [sx]
        refine BigFrame.wpList_want rfl fun K hK => ?_
        refine wp_ld34 rfl rfl hRe.b0 rfl ?_
        refine hK _ _ ?_
        clear hK K
        try simp only [sx]
        refine BigFrame.wpList_want rfl fun K hK => ?_
        go_simp
        refine hK _ _ ?_
        clear hK K
        try simp only [sx]
        refine BigFrame.wpList_want rfl fun K hK => ?_
        go_simp
        refine hK _ _ ?_
        clear hK K
        try simp only [sx]
        refine BigFrame.wpList_want rfl fun K hK => ?_
        go_simp
        refine hK _ _ ?_
        clear hK K
        try simp only [sx]
        refine BigFrame.wpList_want rfl fun K hK => ?_
        go_simp
        refine hK _ _ ?_
        clear hK K
        try simp only [sx]
        refine BigFrame.wpList_want rfl fun K hK => ?_
        go_simp
        refine (HI.out _ hRe.ext 2 s.rd m.vl).mono ?_
        rintro e w6 ⟨rfl, HXq⟩
        rw [Hm5.out]
        have hRf := hRe.further HXq
        have hWf := hWe.ext HXq
        clear HXq
        dsimp only
        refine hK _ _ ?_
        clear hK K
        try simp only [sx]
        refine wpList_plain rfl fun K hK => ?_
        go_simp
        refine hK _ _ ?_
        clear hK K
        try simp only [sx]
        clear k3 k4 k13 kl
        clear p4 pl
        have k3 := (hRf.cell (j := 3) rfl).1
        have k4 := (hRf.cell (j := 4) rfl).1
        have k5 := (hRf.cell (j := 5) rfl).1
        have k6 := (hRf.cell (j := 6) rfl).1
        have k7 := (hRf.cell (j := 7) rfl).1
        have k8 := (hRf.cell (j := 8) rfl).1
        have k13 := (hRf.cell (j := 13) rfl).1
        have kl := (hRf.cell (j := 0) rfl).2
        have y5 := hRf.fz 5
        have y6 := hRf.fz 6
        have y7 := hRf.fz 7
        have y8 := hRf.fz 8
        have y13 := hRf.fz 13
        have p4 := hWf.2.2.2.2.1
        have pl := hWf.2.2.2.2.2
        have ng0 := HGP.out.1
        have ng0' : ¬ w.heap.size = gp := fun q => ng0 q.symm
        go_upto_region 23 with fail
        have hR16 : R2 w w.heap.size #[.int .i64 p.me, .int .i64 p.ht, .string p.own, .int .i64 s.rd, .int .i64 s.st, .string m.vl, .int .i64 s.rd, .string m.vl, .int .i64 s.rd, .slice a1 s.ps.length c1, .int .i64 (p.n : Int), .int .i64 (p.t : Int), .slice a2 s.vs.length c2, .bool true, .bool s.dn, .string s.dc] (w.heap.size + 1) _ := ((((hRf.fld 13 (.bool true)).fld 7 (.string m.vl)).fld 8 (.int .i64 s.rd)).fld 5 (.string m.vl)).fld 6 (.int .i64 s.rd)
        have hW16 : Wd gp m.kd m.fr m.rd m.va m.vl _ := (((((hWf : Wd gp m.kd m.fr m.rd m.va m.vl _).st (i := 13) (v := .bool true) HGP.out.1).st (i := 7) (v := .string m.vl) HGP.out.1).st (i := 8) (v := .int .i64 s.rd) HGP.out.1).st (i := 5) (v := .string m.vl) HGP.out.1).st (i := 6) (v := .int .i64 s.rd) HGP.out.1
        clear k3 k4 k5 k6 k7 k8 k13 kl
        clear y5 y6 y7 y8 y13 p4 pl ng0 ng0'
        generalize World.setCell _ ⟨w.heap.size, 6, none⟩ (.int .i64 s.rd) = W16 at *
        have p4 := hW16.2.2.2.2.1
        have pl := hW16.2.2.2.2.2
        refine wp_region_lit ?_
        refine wl_ld34 rfl rfl rfl hR16.b0 rfl ?_
        try simp only [sx]
        refine wpList_plain rfl fun K hK => ?_
        go_simp
        refine hK _ _ ?_
        clear hK K
        try simp only [sx]
        refine wpList_plain rfl fun K hK => ?_
        go_simp
        refine hK _ _ ?_
        clear hK K
        try simp only [sx]
        refine wpList_plain rfl fun K hK => ?_
        go_simp
        refine (HV3.out _).mono ?_
        rintro e wy ⟨sa, sn, sc, rfl, ho, hx⟩
        have hR16n := hR16.further hx
        have HO : Hid (wy.ownsRow w.heap.size 39 5 (.slice sa sn sc) (voteA p (lockA s m.vl) 3 m.vl).2.length (wcs (voteA p (lockA s m.vl) 3 m.vl).2)) := own_base ho hR16.ext.size
        have HU : Hid (∀ k, (Value.slice sa sn sc).ownBlock = some k → k ≠ (w.heap.size + 1) ∧ k ≠ w.heap.size ∧ k < wy.heap.size) := fun k q => by
         have := ho.lt k q
         obtain ⟨z, _, qq⟩ := hR16.b1
         have := (Array.getElem?_eq_some_iff.1 qq).1
         have := (Array.getElem?_eq_some_iff.1 hR16.b0).1
         exact ⟨by omega, by omega, (ho.lt k q).2⟩
        clear ho hx
        dsimp only
        refine hK _ _ ?_
        clear hK K
        try simp only [sx]
        refine wpList_plain rfl fun K hK => ?_
        go_simp
        refine hK _ _ ?_
        clear hK K
        try simp only [sx]
        refine wpList_plain rfl fun K hK => ?_
        go_simp
        refine hK _ _ ?_
        clear hK K
        try simp only [sx]
        refine wpList_plain rfl fun K hK => ?_
        go_simp
        refine hK _ _ ?_
        clear hK K
        try simp only [sx]
        refine wl_st34a rfl rfl rfl rfl hR16n rfl rfl (by kernel_rfl) ?_
        intro W1' hR1' hB1' hK1'
        try simp only [sx]
        refine wpList_plain rfl fun K hK => ?_
        go_simp
        refine hK _ _ ?_
        clear hK K
        try simp only [sx]
        go_upto_region 24 with fail
        refine wp_region_lit ?_
        refine wl_ld34 rfl rfl rfl hR1'.b0 rfl ?_
        try simp only [sx]
        refine wpList_plain rfl fun K hK => ?_
        go_simp
        refine hK _ _ ?_
        clear hK K
        try simp only [sx]
        refine wl_st34 rfl rfl rfl rfl hR1' rfl (by kernel_rfl) ?_
        intro W2' hR2' hG2' hB2' hK2'
        try simp only [sx]
        refine wpList_plain rfl fun K hK => ?_
        go_simp
        refine hK _ _ ?_
        clear hK K
        try simp only [sx]
        refine wpList_plain rfl fun K hK => ?_
        go_simp
        refine hK _ _ ?_
        clear hK K
        try simp only [sx]
        go_wp2_with fail
        refine bodyPost_ret (ret_three Try.results36 _ _ (w.heap.size + 1) 34 #[.int .i64 p.me, .int .i64 p.ht, .string p.own, .int .i64 (voteA p (lockA s m.vl) 3 m.vl).1.rd, .int .i64 (voteA p (lockA s m.vl) 3 m.vl).1.st, .string (voteA p (lockA s m.vl) 3 m.vl).1.lk, .int .i64 (voteA p (lockA s m.vl) 3 m.vl).1.lr, .string (voteA p (lockA s m.vl) 3 m.vl).1.vv, .int .i64 (voteA p (lockA s m.vl) 3 m.vl).1.vr, .slice a1 s.ps.length c1, .int .i64 (p.n : Int), .int .i64 (p.t : Int), .slice a2 s.vs.length c2, .bool (fiveA (voteA p (lockA s m.vl) 3 m.vl).1), .bool (voteA p (lockA s m.vl) 3 m.vl).1.dn, .string (voteA p (lockA s m.vl) 3 m.vl).1.dc] (0, 0) rfl hG2' rfl) rfl ?_
        unfold RuP
        rw [HRl.out]
        exact ⟨_, _, _, rfl, own_keep (own_keep HO.out (fun k q => hK1'.1 k (HU.out k q).2.1)) (fun k q => hK2'.1 k (HU.out k q).1), hR2'.ext⟩
       ·have e52 : (s.st == 2) = false := by simpa using h52
        have HRl : Hid (ruleA p s = some (validA s m.vl, [])) := by
         show ruleA p s = _
         have h5 : r5 p s = some (validA s m.vl, []) := by unfold r5; rw [hq]; dsimp only; rw [if_pos ⟨hv5, hs1, hm5⟩, if_neg h52]
         rw [rule_of h1 h2, h3, h5]; rfl
        clear hv5 hs1 h1 h2 h3 hq hm5 h52
        have k3 := (hRe.cell (j := 3) rfl).1
        have k4 := (hRe.cell (j := 4) rfl).1
        have kl := (hRe.cell (j := 0) rfl).2
        have k13 := (hRe.cell (j := 13) (v := .bool (fiveA s)) rfl).1
        rw [F5.out] at k13
        have p4 := hWe.2.2.2.2.1
        have pl := hWe.2.2.2.2.2
        go_upto_region 15 with fail
        refine wp_region_lit ?_
        refine wpList_plain rfl fun K hK => ?_
        go_simp
        refine hK _ _ ?_
        clear hK K
        try simp only [sx]
        refine wpList_plain rfl fun K hK => ?_
        go_simp
        refine hK _ _ ?_
        clear hK K
        try simp only [sx]
        refine BigFrame.wpList_want rfl fun K hK => ?_
        go_simp
        refine hK _ _ ?_
        clear hK K
        try simp only [sx]
        refine BigFrame.wpList_want rfl fun K hK => ?_
        go_simp
        refine hK _ _ ?_
        clear hK K
        try simp only [sx]
        refine BigFrame.wpList_want rfl fun K hK => ?_
        go_simp
        refine hK _ _ ?_
        clear hK K
        try simp only [sx]
        refine wpList_plain rfl fun K hK => ?_
        go_simp
        refine hK _ _ ?_
        clear hK K
        try simp only [sx]
        refine wpList_plain rfl fun K hK => ?_
        go_simp
        refine hK _ _ ?_
        clear hK K
        try simp only [sx]
        refine BigFrame.wpList_want rfl fun K hK => ?_
        go_simp
        refine hK _ _ ?_
        clear hK K
        try simp only [sx]
        refine BigFrame.wpList_want rfl fun K hK => ?_
        go_simp
        refine hK _ _ ?_
        clear hK K
        try simp only [sx]
        refine BigFrame.wpList_want rfl fun K hK => ?_
        go_simp
        refine hK _ _ ?_
        clear hK K
        try simp only [sx]
        refine wpList_plain rfl fun K hK => ?_
        go_simp
        refine hK _ _ ?_
        clear hK K
        try simp only [sx]
        refine wpList_plain rfl fun K hK => ?_
        go_simp
        refine hK _ _ ?_
        clear hK K
        try simp only [sx]
        refine BigFrame.wpList_want rfl fun K hK => ?_
        refine wp_ld34 rfl rfl hRe.b0 rfl ?_
        refine hK _ _ ?_
        clear hK K
        try simp only [sx]
        refine BigFrame.wpList_want rfl fun K hK => ?_
        go_simp
        refine hK _ _ ?_
        clear hK K
        try simp only [sx]
        refine BigFrame.wpList_want rfl fun K hK => ?_
        go_simp
        refine hK _ _ ?_
        clear hK K
        try simp only [sx]
        refine BigFrame.wpList_want rfl fun K hK => ?_
        go_simp
        refine hK _ _ ?_
        clear hK K
        try simp only [sx]
        refine BigFrame.wpList_want rfl fun K hK => ?_
        go_simp
        refine hK _ _ ?_
        clear hK K
        try simp only [sx]
        refine BigFrame.wpList_want rfl fun K hK => ?_
        go_simp
        refine (HI.out _ hRe.ext 2 s.rd m.vl).mono ?_
        rintro e w6 ⟨rfl, HXq⟩
        rw [Hm5.out]
        have hRf := hRe.further HXq
        have hWf := hWe.ext HXq
        clear HXq
        dsimp only
        refine hK _ _ ?_
        clear hK K
        try simp only [sx]
        refine wpList_plain rfl fun K hK => ?_
        go_simp
        refine hK _ _ ?_
        clear hK K
        try simp only [sx]
        clear k3 k4 k13 kl
        clear p4 pl
        have k3 := (hRf.cell (j := 3) rfl).1
        have k4 := (hRf.cell (j := 4) rfl).1
        have k5 := (hRf.cell (j := 5) rfl).1
        have k6 := (hRf.cell (j := 6) rfl).1
        have k7 := (hRf.cell (j := 7) rfl).1
        have k8 := (hRf.cell (j := 8) rfl).1
        have k13 := (hRf.cell (j := 13) rfl).1
        have kl := (hRf.cell (j := 0) rfl).2
        have y5 := hRf.fz 5
        have y6 := hRf.fz 6
        have y7 := hRf.fz 7
        have y8 := hRf.fz 8
        have y13 := hRf.fz 13
        have p4 := hWf.2.2.2.2.1
        have pl := hWf.2.2.2.2.2
        have ng0 := HGP.out.1
        have ng0' : ¬ w.heap.size = gp := fun q => ng0 q.symm
        go_upto_region 24 with fail
        have hR16 : R2 w w.heap.size #[.int .i64 p.me, .int .i64 p.ht, .string p.own, .int .i64 s.rd, .int .i64 s.st, .string s.lk, .int .i64 s.lr, .string m.vl, .int .i64 s.rd, .slice a1 s.ps.length c1, .int .i64 (p.n : Int), .int .i64 (p.t : Int), .slice a2 s.vs.length c2, .bool true, .bool s.dn, .string s.dc] (w.heap.size + 1) _ := ((hRf.fld 13 (.bool true)).fld 7 (.string m.vl)).fld 8 (.int .i64 s.rd)
        clear k3 k4 k5 k6 k7 k8 k13 kl
        clear y5 y6 y7 y8 y13 p4 pl ng0 ng0'
        refine wp_region_lit ?_
        refine wl_ld34 rfl rfl rfl hR16.b0 rfl ?_
        try simp only [sx]
        refine wpList_plain rfl fun K hK => ?_
        go_simp
        refine hK _ _ ?_
        clear hK K
        try simp only [sx]
        refine wl_st34 rfl rfl rfl rfl hR16 rfl (by kernel_rfl) ?_
        intro W1' hR1' hG1' hB1' hK1'
        try simp only [sx]
        refine wpList_plain rfl fun K hK => ?_
        go_simp
        refine hK _ _ ?_
        clear hK K
        try simp only [sx]
        refine wpList_plain rfl fun K hK => ?_
        go_simp
        refine hK _ _ ?_
        clear hK K
        try simp only [sx]
        go_wp2_with fail
        refine bodyPost_ret (ret_three Try.results36 _ _ (w.heap.size + 1) 34 #[.int .i64 p.me, .int .i64 p.ht, .string p.own, .int .i64 s.rd, .int .i64 s.st, .string s.lk, .int .i64 s.lr, .string m.vl, .int .i64 s.rd, .slice a1 s.ps.length c1, .int .i64 (p.n : Int), .int .i64 (p.t : Int), .slice a2 s.vs.length c2, .bool true, .bool s.dn, .string s.dc] (0, 0) rfl hG1' rfl) rfl ?_
        have HAV : av p (validA s m.vl) a1 s.ps.length c1 a2 s.vs.length c2 = .agg #[.int .i64 p.me, .int .i64 p.ht, .string p.own, .int .i64 s.rd, .int .i64 s.st, .string s.lk, .int .i64 s.lr, .string m.vl, .int .i64 s.rd, .slice a1 s.ps.length c1, .int .i64 (p.n : Int), .int .i64 (p.t : Int), .slice a2 s.vs.length c2, .bool true, .bool s.dn, .string s.dc] := by
         show Value.agg #[.int .i64 p.me, .int .i64 p.ht, .string p.own, .int .i64 (validA s m.vl).rd, .int .i64 (validA s m.vl).st, .string (validA s m.vl).lk, .int .i64 (validA s m.vl).lr, .string (validA s m.vl).vv, .int .i64 (validA s m.vl).vr, .slice a1 s.ps.length c1, .int .i64 (p.n : Int), .int .i64 (p.t : Int), .slice a2 s.vs.length c2, .bool (fiveA (validA s m.vl)), .bool (validA s m.vl).dn, .string (validA s m.vl).dc] = _
         rw [five_valid s m.vl H0.out]
         rfl
        unfold RuP
        rw [HRl.out]
        refine ⟨_, _, _, ?_, World.ownsRow_nil _ _ _ _, hR1'.ext⟩
        show _ = Ending.returned (Value.tuple #[av p (validA s m.vl) a1 s.ps.length c1 a2 s.vs.length c2, .slice none 0 0, .bool true])
        rw [HAV]
        rfl

end Go.Proofs.Ytmanacbdldfmfaa
