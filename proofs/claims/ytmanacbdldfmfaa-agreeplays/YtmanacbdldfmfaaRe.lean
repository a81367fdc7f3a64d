/-
 The document's part: timeout, New, called.
-/
import Derived.Test.YtmanacbdldfmfaaRd
namespace Go.Proofs.Ytmanacbdldfmfaa
open Go.RowKit
set_option maxRecDepth 10000
set_option maxHeartbeats 4000000 in
theorem rtime_1 (p : Pm) (s : Ag) (a1 : Option Addr) (n1 c1 : Nat) (a2 : Option Addr) (n2 c2 : Nat) (v : Int) (hv : v = 1) (hs : s.st = 1) (w : World) :
  Calls Try.prog 33 #[av p s a1 n1 c1 a2 n2 c2, .int .i64 v] w fun e w' => SayP p (timeA p s v).1 (timeA p s v).2 a1 n1 c1 a2 n2 c2 w e w' := by
 subst hv
 have HN : Hid (timeA p s 1 = voteA p s 2 emp) := if_pos ⟨rfl, hs⟩
 have e1 : (s.st == 1) = true := by simpa using hs
 clear hs
 have HR : Hid (R2 w w.heap.size #[.int .i64 p.me, .int .i64 p.ht, .string p.own, .int .i64 s.rd, .int .i64 s.st, .string s.lk, .int .i64 s.lr, .string s.vv, .int .i64 s.vr, .slice a1 n1 c1, .int .i64 (p.n : Int), .int .i64 (p.t : Int), .slice a2 n2 c2, .bool (fiveA s), .bool s.dn, .string s.dc] (w.heap.size + 1) ((w.alloc (.cells #[.int .i64 p.me, .int .i64 p.ht, .string p.own, .int .i64 s.rd, .int .i64 s.st, .string s.lk, .int .i64 s.lr, .string s.vv, .int .i64 s.vr, .slice a1 n1 c1, .int .i64 (p.n : Int), .int .i64 (p.t : Int), .slice a2 n2 c2, .bool (fiveA s), .bool s.dn, .string s.dc] 34)).alloc (.cells #[.int .i64 0, .int .i64 0, .string ⟨#[]⟩, .int .i64 0, .int .i64 0, .string ⟨#[]⟩, .int .i64 0, .string ⟨#[]⟩, .int .i64 0, .slice none 0 0, .int .i64 0, .int .i64 0, .slice none 0 0, .bool false, .bool false, .string ⟨#[]⟩] 34))) := R2.new w _ _ rfl
 go_enter Try.func33, Try.ntmps33
 go_upto_region 1 with fail
 obtain ⟨W, hW⟩ : ∃ W, ((w.alloc (.cells #[.int .i64 p.me, .int .i64 p.ht, .string p.own, .int .i64 s.rd, .int .i64 s.st, .string s.lk, .int .i64 s.lr, .string s.vv, .int .i64 s.vr, .slice a1 n1 c1, .int .i64 (p.n : Int), .int .i64 (p.t : Int), .slice a2 n2 c2, .bool (fiveA s), .bool s.dn, .string s.dc] 34)).alloc (.cells #[.int .i64 0, .int .i64 0, .string ⟨#[]⟩, .int .i64 0, .int .i64 0, .string ⟨#[]⟩, .int .i64 0, .string ⟨#[]⟩, .int .i64 0, .slice none 0 0, .int .i64 0, .int .i64 0, .slice none 0 0, .bool false, .bool false, .string ⟨#[]⟩] 34)) = W := ⟨_, rfl⟩
 rw [hW] at HR ⊢
 clear hW
 have hR0 := HR.out
 clear HR
 have k3 := (hR0.cell (j := 3) rfl).1
 have k4 := (hR0.cell (j := 4) rfl).1
 have kl := (hR0.cell (j := 0) rfl).2
 go_upto_region 2 with fail
 clear k3 k4 kl
 refine wp_region_lit ?_
 refine wl_ld34 rfl rfl rfl hR0.b0 rfl ?_
 try simp only [sx]
 refine wpList_plain rfl fun K hK => ?_
 go_simp
 refine (rvote_2 p s a1 n1 c1 a2 n2 c2 emp _).mono ?_
 rintro e wy ⟨sa, sn, sc, rfl, ho, hx⟩
 have hR0n := hR0.further hx
 have HO : Hid (wy.ownsRow w.heap.size 39 5 (.slice sa sn sc) (voteA p s 2 emp).2.length (wcs (voteA p s 2 emp).2)) := own_base ho hR0.ext.size
 have HU : Hid (∀ k, (Value.slice sa sn sc).ownBlock = some k → k ≠ (w.heap.size + 1) ∧ k ≠ w.heap.size ∧ k < wy.heap.size) := fun k q => by
  have := ho.lt k q
  obtain ⟨z, _, qq⟩ := hR0.b1
  have := (Array.getElem?_eq_some_iff.1 qq).1
  have := (Array.getElem?_eq_some_iff.1 hR0.b0).1
  exact ⟨by omega, by omega, (ho.lt k q).2⟩
 clear ho hx
 dsimp only
 refine hK _ _ ?_
 clear hK K
 try simp only [sx]
 refine wpList_plain rfl fun K hK => ?_
 go_simp
 refine hK _ _ ?_
 clear hK K
 try simp only [sx]
 refine wpList_plain rfl fun K hK => ?_
 go_simp
 refine hK _ _ ?_
 clear hK K
 try simp only [sx]
 refine wl_st34 rfl rfl rfl rfl hR0n rfl (by kernel_rfl) ?_
 intro W1' hR1' hG1' hB1' hK1'
 try simp only [sx]
 refine wpList_plain rfl fun K hK => ?_
 go_simp
 refine hK _ _ ?_
 clear hK K
 try simp only [sx]
 go_wp2_with fail
 rw [HN.out]
 refine bodyPost_ret (ret_two Try.results33 _ _ (w.heap.size + 1) 34 #[.int .i64 p.me, .int .i64 p.ht, .string p.own, .int .i64 s.rd, .int .i64 2, .string s.lk, .int .i64 s.lr, .string s.vv, .int .i64 s.vr, .slice a1 n1 c1, .int .i64 (p.n : Int), .int .i64 (p.t : Int), .slice a2 n2 c2, .bool (fiveA s), .bool s.dn, .string s.dc] (0, 0) rfl hG1' rfl) rfl ⟨_, _, _, rfl, own_keep HO.out (fun k q => hK1'.1 k (HU.out k q).1), hR1'.ext⟩
set_option maxHeartbeats 4000000 in
theorem rtime_2 (p : Pm) (s : Ag) (a1 : Option Addr) (n1 c1 : Nat) (a2 : Option Addr) (n2 c2 : Nat) (v : Int) (hv : v = 2) (hs : s.st = 2) (w : World) :
  Calls Try.prog 33 #[av p s a1 n1 c1 a2 n2 c2, .int .i64 v] w fun e w' => SayP p (timeA p s v).1 (timeA p s v).2 a1 n1 c1 a2 n2 c2 w e w' := by
 subst hv
 have HN : Hid (timeA p s 2 = voteA p s 3 emp) := by show timeA p s 2 = _; unfold timeA; rw [if_neg (by rintro ⟨q, _⟩; cases q), if_pos ⟨rfl, hs⟩]
 have e1 : (s.st == 2) = true := by simpa using hs
 clear hs
 have HR : Hid (R2 w w.heap.size #[.int .i64 p.me, .int .i64 p.ht, .string p.own, .int .i64 s.rd, .int .i64 s.st, .string s.lk, .int .i64 s.lr, .string s.vv, .int .i64 s.vr, .slice a1 n1 c1, .int .i64 (p.n : Int), .int .i64 (p.t : Int), .slice a2 n2 c2, .bool (fiveA s), .bool s.dn, .string s.dc] (w.heap.size + 1) ((w.alloc (.cells #[.int .i64 p.me, .int .i64 p.ht, .string p.own, .int .i64 s.rd, .int .i64 s.st, .string s.lk, .int .i64 s.lr, .string s.vv, .int .i64 s.vr, .slice a1 n1 c1, .int .i64 (p.n : Int), .int .i64 (p.t : Int), .slice a2 n2 c2, .bool (fiveA s), .bool s.dn, .string s.dc] 34)).alloc (.cells #[.int .i64 0, .int .i64 0, .string ⟨#[]⟩, .int .i64 0, .int .i64 0, .string ⟨#[]⟩, .int .i64 0, .string ⟨#[]⟩, .int .i64 0, .slice none 0 0, .int .i64 0, .int .i64 0, .slice none 0 0, .bool false, .bool false, .string ⟨#[]⟩] 34))) := R2.new w _ _ rfl
 go_enter Try.func33, Try.ntmps33
 go_upto_region 1 with fail
 obtain ⟨W, hW⟩ : ∃ W, ((w.alloc (.cells #[.int .i64 p.me, .int .i64 p.ht, .string p.own, .int .i64 s.rd, .int .i64 s.st, .string s.lk, .int .i64 s.lr, .string s.vv, .int .i64 s.vr, .slice a1 n1 c1, .int .i64 (p.n : Int), .int .i64 (p.t : Int), .slice a2 n2 c2, .bool (fiveA s), .bool s.dn, .string s.dc] 34)).alloc (.cells #[.int .i64 0, .int .i64 0, .string ⟨#[]⟩, .int .i64 0, .int .i64 0, .string ⟨#[]⟩, .int .i64 0, .string ⟨#[]⟩, .int .i64 0, .slice none 0 0, .int .i64 0, .int .i64 0, .slice none 0 0, .bool false, .bool false, .string ⟨#[]⟩] 34)) = W := ⟨_, rfl⟩
 rw [hW] at HR ⊢
 clear hW
 have hR0 := HR.out
 clear HR
 have k3 := (hR0.cell (j := 3) rfl).1
 have k4 := (hR0.cell (j := 4) rfl).1
 have kl := (hR0.cell (j := 0) rfl).2
 go_upto_region 4 with fail
 clear k3 k4 kl
 refine wp_region_lit ?_
 refine wl_ld34 rfl rfl rfl hR0.b0 rfl ?_
 try simp only [sx]
 refine wpList_plain rfl fun K hK => ?_
 go_simp
 refine (rvote_3 p s a1 n1 c1 a2 n2 c2 emp _).mono ?_
 rintro e wy ⟨sa, sn, sc, rfl, ho, hx⟩
 have hR0n := hR0.further hx
 have HO : Hid (wy.ownsRow w.heap.size 39 5 (.slice sa sn sc) (voteA p s 3 emp).2.length (wcs (voteA p s 3 emp).2)) := own_base ho hR0.ext.size
 have HU : Hid (∀ k, (Value.slice sa sn sc).ownBlock = some k → k ≠ (w.heap.size + 1) ∧ k ≠ w.heap.size ∧ k < wy.heap.size) := fun k q => by
  have := ho.lt k q
  obtain ⟨z, _, qq⟩ := hR0.b1
  have := (Array.getElem?_eq_some_iff.1 qq).1
  have := (Array.getElem?_eq_some_iff.1 hR0.b0).1
  exact ⟨by omega, by omega, (ho.lt k q).2⟩
 clear ho hx
 dsimp only
 refine hK _ _ ?_
 clear hK K
 try simp only [sx]
 refine wpList_plain rfl fun K hK => ?_
 go_simp
 refine hK _ _ ?_
 clear hK K
 try simp only [sx]
 refine wpList_plain rfl fun K hK => ?_
 go_simp
 refine hK _ _ ?_
 clear hK K
 try simp only [sx]
 refine wl_st34 rfl rfl rfl rfl hR0n rfl (by kernel_rfl) ?_
 intro W1' hR1' hG1' hB1' hK1'
 try simp only [sx]
 refine wpList_plain rfl fun K hK => ?_
 go_simp
 refine hK _ _ ?_
 clear hK K
 try simp only [sx]
 go_wp2_with fail
 rw [HN.out]
 refine bodyPost_ret (ret_two Try.results33 _ _ (w.heap.size + 1) 34 #[.int .i64 p.me, .int .i64 p.ht, .string p.own, .int .i64 s.rd, .int .i64 3, .string s.lk, .int .i64 s.lr, .string s.vv, .int .i64 s.vr, .slice a1 n1 c1, .int .i64 (p.n : Int), .int .i64 (p.t : Int), .slice a2 n2 c2, .bool (fiveA s), .bool s.dn, .string s.dc] (0, 0) rfl hG1' rfl) rfl ⟨_, _, _, rfl, own_keep HO.out (fun k q => hK1'.1 k (HU.out k q).1), hR1'.ext⟩
set_option maxHeartbeats 4000000 in
theorem rtime_3 (p : Pm) (s : Ag) (a1 : Option Addr) (n1 c1 : Nat) (a2 : Option Addr) (n2 c2 : Nat) (v : Int) (hv : v = 3) (hi : InvA p s) (w : World) :
  Calls Try.prog 33 #[av p s a1 n1 c1 a2 n2 c2, .int .i64 v] w fun e w' => SayP p (timeA p s v).1 (timeA p s v).2 a1 n1 c1 a2 n2 c2 w e w' := by
 subst hv
 have HN : Hid (timeA p s 3 = beginA p s (s.rd + 1)) := by show timeA p s 3 = _; unfold timeA; rw [if_neg (by rintro ⟨q, _⟩; cases q), if_neg (by rintro ⟨q, _⟩; cases q), if_pos rfl]
 have HBg : Hid (∀ wx, Calls Try.prog 30 #[av p s a1 n1 c1 a2 n2 c2, .int .i64 (s.rd + 1)] wx fun e w' => SayP p (beginA p s (s.rd + 1)).1 (beginA p s (s.rd + 1)).2 a1 n1 c1 a2 n2 c2 wx e w') := fun wx => rbegin_any p s a1 n1 c1 a2 n2 c2 _ (by have := hi.vr; omega) wx
 have qw : IntKind.i64.wrap (s.rd + 1) = s.rd + 1 := by rw [IntKind.wrap_i64]; have := hi.rd; omega
 clear hi
 have HR : Hid (R2 w w.heap.size #[.int .i64 p.me, .int .i64 p.ht, .string p.own, .int .i64 s.rd, .int .i64 s.st, .string s.lk, .int .i64 s.lr, .string s.vv, .int .i64 s.vr, .slice a1 n1 c1, .int .i64 (p.n : Int), .int .i64 (p.t : Int), .slice a2 n2 c2, .bool (fiveA s), .bool s.dn, .string s.dc] (w.heap.size + 1) ((w.alloc (.cells #[.int .i64 p.me, .int .i64 p.ht, .string p.own, .int .i64 s.rd, .int .i64 s.st, .string s.lk, .int .i64 s.lr, .string s.vv, .int .i64 s.vr, .slice a1 n1 c1, .int .i64 (p.n : Int), .int .i64 (p.t : Int), .slice a2 n2 c2, .bool (fiveA s), .bool s.dn, .string s.dc] 34)).alloc (.cells #[.int .i64 0, .int .i64 0, .string ⟨#[]⟩, .int .i64 0, .int .i64 0, .string ⟨#[]⟩, .int .i64 0, .string ⟨#[]⟩, .int .i64 0, .slice none 0 0, .int .i64 0, .int .i64 0, .slice none 0 0, .bool false, .bool false, .string ⟨#[]⟩] 34))) := R2.new w _ _ rfl
 go_enter Try.func33, Try.ntmps33
 go_upto_region 1 with fail
 obtain ⟨W, hW⟩ : ∃ W, ((w.alloc (.cells #[.int .i64 p.me, .int .i64 p.ht, .string p.own, .int .i64 s.rd, .int .i64 s.st, .string s.lk, .int .i64 s.lr, .string s.vv, .int .i64 s.vr, .slice a1 n1 c1, .int .i64 (p.n : Int), .int .i64 (p.t : Int), .slice a2 n2 c2, .bool (fiveA s), .bool s.dn, .string s.dc] 34)).alloc (.cells #[.int .i64 0, .int .i64 0, .string ⟨#[]⟩, .int .i64 0, .int .i64 0, .string ⟨#[]⟩, .int .i64 0, .string ⟨#[]⟩, .int .i64 0, .slice none 0 0, .int .i64 0, .int .i64 0, .slice none 0 0, .bool false, .bool false, .string ⟨#[]⟩] 34)) = W := ⟨_, rfl⟩
 rw [hW] at HR ⊢
 clear hW
 have hR0 := HR.out
 clear HR
 have k3 := (hR0.cell (j := 3) rfl).1
 have k4 := (hR0.cell (j := 4) rfl).1
 have kl := (hR0.cell (j := 0) rfl).2
 go_upto_region 6 with fail
 refine wp_region_lit ?_
 refine wl_ld34 rfl rfl rfl hR0.b0 rfl ?_
 try simp only [sx]
 refine wpList_plain rfl fun K hK => ?_
 go_simp
 refine hK _ _ ?_
 clear hK K
 try simp only [sx]
 refine wpList_plain rfl fun K hK => ?_
 go_simp
 refine hK _ _ ?_
 clear hK K
 try simp only [sx]
 refine wpList_plain rfl fun K hK => ?_
 go_simp
 refine hK _ _ ?_
 clear hK K
 try simp only [sx]
 refine wpList_plain rfl fun K hK => ?_
 go_simp
 refine (HBg.out _).mono ?_
 rintro e wy ⟨sa, sn, sc, rfl, ho, hx⟩
 have hR0n := hR0.further hx
 have HO : Hid (wy.ownsRow w.heap.size 39 5 (.slice sa sn sc) (beginA p s (s.rd + 1)).2.length (wcs (beginA p s (s.rd + 1)).2)) := own_base ho hR0.ext.size
 have HU : Hid (∀ k, (Value.slice sa sn sc).ownBlock = some k → k ≠ (w.heap.size + 1) ∧ k ≠ w.heap.size ∧ k < wy.heap.size) := fun k q => by
  have := ho.lt k q
  obtain ⟨z, _, qq⟩ := hR0.b1
  have := (Array.getElem?_eq_some_iff.1 qq).1
  have := (Array.getElem?_eq_some_iff.1 hR0.b0).1
  exact ⟨by omega, by omega, (ho.lt k q).2⟩
 clear ho hx
 dsimp only
 refine hK _ _ ?_
 clear hK K
 try simp only [sx]
 refine wpList_plain rfl fun K hK => ?_
 go_simp
 refine hK _ _ ?_
 clear hK K
 try simp only [sx]
 refine wpList_plain rfl fun K hK => ?_
 go_simp
 refine hK _ _ ?_
 clear hK K
 try simp only [sx]
 refine wl_st34 rfl rfl rfl rfl hR0n rfl (by kernel_rfl) ?_
 intro W1' hR1' hG1' hB1' hK1'
 try simp only [sx]
 refine wpList_plain rfl fun K hK => ?_
 go_simp
 refine hK _ _ ?_
 clear hK K
 try simp only [sx]
 clear k3 k4 kl
 go_wp2_with fail
 rw [HN.out]
 refine bodyPost_ret (ret_two Try.results33 _ _ (w.heap.size + 1) 34 #[.int .i64 p.me, .int .i64 p.ht, .string p.own, .int .i64 (beginA p s (s.rd + 1)).1.rd, .int .i64 (beginA p s (s.rd + 1)).1.st, .string (beginA p s (s.rd + 1)).1.lk, .int .i64 (beginA p s (s.rd + 1)).1.lr, .string (beginA p s (s.rd + 1)).1.vv, .int .i64 (beginA p s (s.rd + 1)).1.vr, .slice a1 n1 c1, .int .i64 (p.n : Int), .int .i64 (p.t : Int), .slice a2 n2 c2, .bool (fiveA (beginA p s (s.rd + 1)).1), .bool (beginA p s (s.rd + 1)).1.dn, .string (beginA p s (s.rd + 1)).1.dc] (0, 0) rfl hG1' rfl) rfl ⟨_, _, _, rfl, own_keep HO.out (fun k q => hK1'.1 k (HU.out k q).1), hR1'.ext⟩
set_option maxHeartbeats 4000000 in
theorem rtime_1n (p : Pm) (s : Ag) (a1 : Option Addr) (n1 c1 : Nat) (a2 : Option Addr) (n2 c2 : Nat) (v : Int) (hv : v = 1) (hs : ¬ s.st = 1) (w : World) :
  Calls Try.prog 33 #[av p s a1 n1 c1 a2 n2 c2, .int .i64 v] w fun e w' => SayP p (timeA p s v).1 (timeA p s v).2 a1 n1 c1 a2 n2 c2 w e w' := by
 subst hv
 have HN : Hid (timeA p s 1 = (s, [])) := by show timeA p s 1 = _; unfold timeA; rw [if_neg (fun q => hs q.2), if_neg (by rintro ⟨q, _⟩; cases q), if_neg (by decide)]
 have e1 : (s.st == 1) = false := by simpa using hs
 clear hs
 have HR : Hid (R2 w w.heap.size #[.int .i64 p.me, .int .i64 p.ht, .string p.own, .int .i64 s.rd, .int .i64 s.st, .string s.lk, .int .i64 s.lr, .string s.vv, .int .i64 s.vr, .slice a1 n1 c1, .int .i64 (p.n : Int), .int .i64 (p.t : Int), .slice a2 n2 c2, .bool (fiveA s), .bool s.dn, .string s.dc] (w.heap.size + 1) ((w.alloc (.cells #[.int .i64 p.me, .int .i64 p.ht, .string p.own, .int .i64 s.rd, .int .i64 s.st, .string s.lk, .int .i64 s.lr, .string s.vv, .int .i64 s.vr, .slice a1 n1 c1, .int .i64 (p.n : Int), .int .i64 (p.t : Int), .slice a2 n2 c2, .bool (fiveA s), .bool s.dn, .string s.dc] 34)).alloc (.cells #[.int .i64 0, .int .i64 0, .string ⟨#[]⟩, .int .i64 0, .int .i64 0, .string ⟨#[]⟩, .int .i64 0, .string ⟨#[]⟩, .int .i64 0, .slice none 0 0, .int .i64 0, .int .i64 0, .slice none 0 0, .bool false, .bool false, .string ⟨#[]⟩] 34))) := R2.new w _ _ rfl
 go_enter Try.func33, Try.ntmps33
 go_upto_region 1 with fail
 obtain ⟨W, hW⟩ : ∃ W, ((w.alloc (.cells #[.int .i64 p.me, .int .i64 p.ht, .string p.own, .int .i64 s.rd, .int .i64 s.st, .string s.lk, .int .i64 s.lr, .string s.vv, .int .i64 s.vr, .slice a1 n1 c1, .int .i64 (p.n : Int), .int .i64 (p.t : Int), .slice a2 n2 c2, .bool (fiveA s), .bool s.dn, .string s.dc] 34)).alloc (.cells #[.int .i64 0, .int .i64 0, .string ⟨#[]⟩, .int .i64 0, .int .i64 0, .string ⟨#[]⟩, .int .i64 0, .string ⟨#[]⟩, .int .i64 0, .slice none 0 0, .int .i64 0, .int .i64 0, .slice none 0 0, .bool false, .bool false, .string ⟨#[]⟩] 34)) = W := ⟨_, rfl⟩
 rw [hW] at HR ⊢
 clear hW
 have hR0 := HR.out
 clear HR
 have k3 := (hR0.cell (j := 3) rfl).1
 have k4 := (hR0.cell (j := 4) rfl).1
 have kl := (hR0.cell (j := 0) rfl).2
 go_upto_region 7 with fail
 clear k3 k4 kl
 refine wp_region_lit ?_
 refine wl_ld34 rfl rfl rfl hR0.b0 rfl ?_
 try simp only [sx]
 refine wl_st34 rfl rfl rfl rfl hR0 rfl (by kernel_rfl) ?_
 intro W1' hR1' hG1' hB1' hK1'
 try simp only [sx]
 refine wpList_plain rfl fun K hK => ?_
 go_simp
 refine hK _ _ ?_
 clear hK K
 try simp only [sx]
 go_wp2_with fail
 rw [HN.out]
 refine bodyPost_ret (ret_two Try.results33 _ _ (w.heap.size + 1) 34 #[.int .i64 p.me, .int .i64 p.ht, .string p.own, .int .i64 s.rd, .int .i64 s.st, .string s.lk, .int .i64 s.lr, .string s.vv, .int .i64 s.vr, .slice a1 n1 c1, .int .i64 (p.n : Int), .int .i64 (p.t : Int), .slice a2 n2 c2, .bool (fiveA s), .bool s.dn, .string s.dc] (0, 0) rfl hG1' rfl) rfl ⟨_, _, _, rfl, World.ownsRow_nil _ _ _ _, hR1'.ext⟩
set_option maxHeartbeats 4000000 in
theorem rtime_2n (p : Pm) (s : Ag) (a1 : Option Addr) (n1 c1 : Nat) (a2 : Option Addr) (n2 c2 : Nat) (v : Int) (hv : v = 2) (hs : ¬ s.st = 2) (w : World) :
  Calls Try.prog 33 #[av p s a1 n1 c1 a2 n2 c2, .int .i64 v] w fun e w' => SayP p (timeA p s v).1 (timeA p s v).2 a1 n1 c1 a2 n2 c2 w e w' := by
 subst hv
 have HN : Hid (timeA p s 2 = (s, [])) := by show timeA p s 2 = _; unfold timeA; rw [if_neg (by rintro ⟨q, _⟩; cases q), if_neg (fun q => hs q.2), if_neg (by decide)]
 have e1 : (s.st == 2) = false := by simpa using hs
 clear hs
 have HR : Hid (R2 w w.heap.size #[.int .i64 p.me, .int .i64 p.ht, .string p.own, .int .i64 s.rd, .int .i64 s.st, .string s.lk, .int .i64 s.lr, .string s.vv, .int .i64 s.vr, .slice a1 n1 c1, .int .i64 (p.n : Int), .int .i64 (p.t : Int), .slice a2 n2 c2, .bool (fiveA s), .bool s.dn, .string s.dc] (w.heap.size + 1) ((w.alloc (.cells #[.int .i64 p.me, .int .i64 p.ht, .string p.own, .int .i64 s.rd, .int .i64 s.st, .string s.lk, .int .i64 s.lr, .string s.vv, .int .i64 s.vr, .slice a1 n1 c1, .int .i64 (p.n : Int), .int .i64 (p.t : Int), .slice a2 n2 c2, .bool (fiveA s), .bool s.dn, .string s.dc] 34)).alloc (.cells #[.int .i64 0, .int .i64 0, .string ⟨#[]⟩, .int .i64 0, .int .i64 0, .string ⟨#[]⟩, .int .i64 0, .string ⟨#[]⟩, .int .i64 0, .slice none 0 0, .int .i64 0, .int .i64 0, .slice none 0 0, .bool false, .bool false, .string ⟨#[]⟩] 34))) := R2.new w _ _ rfl
 go_enter Try.func33, Try.ntmps33
 go_upto_region 1 with fail
 obtain ⟨W, hW⟩ : ∃ W, ((w.alloc (.cells #[.int .i64 p.me, .int .i64 p.ht, .string p.own, .int .i64 s.rd, .int .i64 s.st, .string s.lk, .int .i64 s.lr, .string s.vv, .int .i64 s.vr, .slice a1 n1 c1, .int .i64 (p.n : Int), .int .i64 (p.t : Int), .slice a2 n2 c2, .bool (fiveA s), .bool s.dn, .string s.dc] 34)).alloc (.cells #[.int .i64 0, .int .i64 0, .string ⟨#[]⟩, .int .i64 0, .int .i64 0, .string ⟨#[]⟩, .int .i64 0, .string ⟨#[]⟩, .int .i64 0, .slice none 0 0, .int .i64 0, .int .i64 0, .slice none 0 0, .bool false, .bool false, .string ⟨#[]⟩] 34)) = W := ⟨_, rfl⟩
 rw [hW] at HR ⊢
 clear hW
 have hR0 := HR.out
 clear HR
 have k3 := (hR0.cell (j := 3) rfl).1
 have k4 := (hR0.cell (j := 4) rfl).1
 have kl := (hR0.cell (j := 0) rfl).2
 go_upto_region 7 with fail
 clear k3 k4 kl
 refine wp_region_lit ?_
 refine wl_ld34 rfl rfl rfl hR0.b0 rfl ?_
 try simp only [sx]
 refine wl_st34 rfl rfl rfl rfl hR0 rfl (by kernel_rfl) ?_
 intro W1' hR1' hG1' hB1' hK1'
 try simp only [sx]
 refine wpList_plain rfl fun K hK => ?_
 go_simp
 refine hK _ _ ?_
 clear hK K
 try simp only [sx]
 go_wp2_with fail
 rw [HN.out]
 refine bodyPost_ret (ret_two Try.results33 _ _ (w.heap.size + 1) 34 #[.int .i64 p.me, .int .i64 p.ht, .string p.own, .int .i64 s.rd, .int .i64 s.st, .string s.lk, .int .i64 s.lr, .string s.vv, .int .i64 s.vr, .slice a1 n1 c1, .int .i64 (p.n : Int), .int .i64 (p.t : Int), .slice a2 n2 c2, .bool (fiveA s), .bool s.dn, .string s.dc] (0, 0) rfl hG1' rfl) rfl ⟨_, _, _, rfl, World.ownsRow_nil _ _ _ _, hR1'.ext⟩
theorem rtime_any (p : Pm) (s : Ag) (a1 : Option Addr) (n1 c1 : Nat) (a2 : Option Addr) (n2 c2 : Nat) (hi : InvA p s) (v : Int) (h1 : 1 ≤ v) (h3 : v ≤ 3) (w : World) :
  Calls Try.prog 33 #[av p s a1 n1 c1 a2 n2 c2, .int .i64 v] w fun e w' => SayP p (timeA p s v).1 (timeA p s v).2 a1 n1 c1 a2 n2 c2 w e w' := by
 have : v = 1 ∨ v = 2 ∨ v = 3 := by omega
 rcases this with e | e | e
 ·by_cases hs : s.st = 1
  ·exact rtime_1 p s a1 n1 c1 a2 n2 c2 v e hs w
  ·exact rtime_1n p s a1 n1 c1 a2 n2 c2 v e hs w
 ·by_cases hs : s.st = 2
  ·exact rtime_2 p s a1 n1 c1 a2 n2 c2 v e hs w
  ·exact rtime_2n p s a1 n1 c1 a2 n2 c2 v e hs w
 ·exact rtime_3 p s a1 n1 c1 a2 n2 c2 v e hi w
theorem new_five : fiveA newA = false := by decide
theorem rnewA_good (p : Pm) (h : okP p) (w : World) : Calls Try.prog 13 #[.int .i64 (p.n : Int), .int .i64 (p.t : Int), .int .i64 p.me, .int .i64 p.ht, .string p.own] w fun e w' => e = .returned (.tuple #[av p newA none 0 0 none 0 0, .bool true]) ∧ Ext w w' := by
 have HQ : Hid (hasQ p.n p.t) := h.1
 have HE : Hid (Ext w (w.alloc (.cells #[.int .i64 0, .int .i64 0, .string ⟨#[]⟩, .int .i64 0, .int .i64 0, .string ⟨#[]⟩, .int .i64 0, .string ⟨#[]⟩, .int .i64 0, .slice none 0 0, .int .i64 0, .int .i64 0, .slice none 0 0, .bool false, .bool false, .string ⟨#[]⟩] 34))) := (Ext.refl w).alloc _
 obtain ⟨_, h0, h1, h2, h3, h4, h5⟩ := h
 have d0 : decide (p.me < 1) = false := decide_eq_false (by omega)
 have d1 : decide ((p.n : Int) < p.me) = false := decide_eq_false (by omega)
 have d2 : decide (p.ht < 0) = false := decide_eq_false (by omega)
 have d3 : decide ((64 : Int) < p.ht) = false := decide_eq_false (by omega)
 have q4 := isEmpty_some h4
 have q5 := toList_some h4
 have d5 : decide ((4096 : Int) < (p.own.size : Int)) = false := decide_eq_false (by omega)
 clear h0 h1 h2 h3 h4 h5
 go_enter Try.func13, Try.ntmps13
 go_wp2_with fail
 refine (rnew_good p.n p.t HQ.out _).mono ?_
 rintro e w1 ⟨rfl, HX⟩
 have hb1 : w1.heap[w.heap.size]? = some (.cells #[.int .i64 0, .int .i64 0, .string ⟨#[]⟩, .int .i64 0, .int .i64 0, .string ⟨#[]⟩, .int .i64 0, .string ⟨#[]⟩, .int .i64 0, .slice none 0 0, .int .i64 0, .int .i64 0, .slice none 0 0, .bool false, .bool false, .string ⟨#[]⟩] 34 (0, 0)) := (Below.block HX w.heap.size (by simp)).trans (heap_alloc_new w _)
 have HX1 : Hid (Ext w w1) := HE.out.trans HX
 clear HX
 go_upto_region 4 with fail
 have hb2 := heap_old (o := .cells #[.int .i64 (p.n : Int), .int .i64 (p.t : Int), .slice none 0 0] 32) hb1
 have HX2 : Hid (Ext w (w1.alloc (.cells #[.int .i64 (p.n : Int), .int .i64 (p.t : Int), .slice none 0 0] 32))) := HX1.out.alloc _
 refine wp_region_lit ?_
 refine wpList_plain rfl fun K hK => ?_
 go_simp
 refine hK _ _ ?_
 clear hK K
 try simp only [sx]
 refine wpList_plain rfl fun K hK => ?_
 go_simp
 refine hK _ _ ?_
 clear hK K
 try simp only [sx]
 refine wpList_plain rfl fun K hK => ?_
 go_simp
 refine hK _ _ ?_
 clear hK K
 try simp only [sx]
 refine wpList_plain rfl fun K hK => ?_
 go_simp
 refine hK _ _ ?_
 clear hK K
 try simp only [sx]
 refine wpList_plain rfl fun K hK => ?_
 go_simp
 refine hK _ _ ?_
 clear hK K
 try simp only [sx]
 refine wpList_plain rfl fun K hK => ?_
 refine wp_store_row 34 (.tmp 10) (.tmp 53) rfl w.heap.size #[.int .i64 p.me, .int .i64 p.ht, .string p.own, .int .i64 (-1), .int .i64 0, .string ⟨#[]⟩, .int .i64 (-1), .string ⟨#[]⟩, .int .i64 (-1), .slice none 0 0, .int .i64 (p.n : Int), .int .i64 (p.t : Int), .slice none 0 0, .bool false, .bool false, .string ⟨#[]⟩] rfl rfl 34 #[.int .i64 0, .int .i64 0, .string ⟨#[]⟩, .int .i64 0, .int .i64 0, .string ⟨#[]⟩, .int .i64 0, .string ⟨#[]⟩, .int .i64 0, .slice none 0 0, .int .i64 0, .int .i64 0, .slice none 0 0, .bool false, .bool false, .string ⟨#[]⟩] hb2 size34 rfl (by kernel_rfl) ?_
 refine hK _ _ ?_
 clear hK K
 try simp only [sx]
 go_wp2_with fail
 have hb3 := setRow_heap _ w.heap.size _ #[.int .i64 p.me, .int .i64 p.ht, .string p.own, .int .i64 (-1), .int .i64 0, .string ⟨#[]⟩, .int .i64 (-1), .string ⟨#[]⟩, .int .i64 (-1), .slice none 0 0, .int .i64 (p.n : Int), .int .i64 (p.t : Int), .slice none 0 0, .bool false, .bool false, .string ⟨#[]⟩] 34 (0, 0) hb2
 refine bodyPost_ret (ret_two Try.results13 _ _ w.heap.size 34 #[.int .i64 p.me, .int .i64 p.ht, .string p.own, .int .i64 (-1), .int .i64 0, .string ⟨#[]⟩, .int .i64 (-1), .string ⟨#[]⟩, .int .i64 (-1), .slice none 0 0, .int .i64 (p.n : Int), .int .i64 (p.t : Int), .slice none 0 0, .bool false, .bool false, .string ⟨#[]⟩] (0, 0) rfl hb3 rfl) rfl ⟨?_, HX2.out.row (Nat.le_refl _) _⟩
 show _ = Ending.returned (.tuple #[.agg #[.int .i64 p.me, .int .i64 p.ht, .string p.own, .int .i64 newA.rd, .int .i64 newA.st, .string newA.lk, .int .i64 newA.lr, .string newA.vv, .int .i64 newA.vr, .slice none 0 0, .int .i64 (p.n : Int), .int .i64 (p.t : Int), .slice none 0 0, .bool ((fiveA newA)), .bool newA.dn, .string newA.dc], .bool true])
 rw [new_five]
 rfl
set_option maxHeartbeats 8000000 in
theorem rnewA_bad (n t me ht : Int) (own : ByteArray) (h : ¬ okPm n t me ht own) (w : World) : Calls Try.prog 13 #[.int .i64 n, .int .i64 t, .int .i64 me, .int .i64 ht, .string own] w fun e w' => e = .returned (.tuple #[.agg #[.int .i64 0, .int .i64 0, .string ⟨#[]⟩, .int .i64 0, .int .i64 0, .string ⟨#[]⟩, .int .i64 0, .string ⟨#[]⟩, .int .i64 0, .slice none 0 0, .int .i64 0, .int .i64 0, .slice none 0 0, .bool false, .bool false, .string ⟨#[]⟩], .bool false]) ∧ Ext w w' := by
 have HE : Hid (Ext w (w.alloc (.cells #[.int .i64 0, .int .i64 0, .string ⟨#[]⟩, .int .i64 0, .int .i64 0, .string ⟨#[]⟩, .int .i64 0, .string ⟨#[]⟩, .int .i64 0, .slice none 0 0, .int .i64 0, .int .i64 0, .slice none 0 0, .bool false, .bool false, .string ⟨#[]⟩] 34))) := (Ext.refl w).alloc _
 by_cases hq : hasQ n t
 ·obtain ⟨N, rfl⟩ : ∃ N : Nat, n = (N : Int) := ⟨n.toNat, by have := hq.1; have := hq.2.2.1; omega⟩
  obtain ⟨T, rfl⟩ : ∃ T : Nat, t = (T : Int) := ⟨t.toNat, by have := hq.1; omega⟩
  have HQ : Hid (hasQ N T) := hq
  have Hn : Hid (¬ okPm N T me ht own) := h
  clear hq h
  by_cases h0 : me < 1
  ·have d0 : decide (me < 1) = true := decide_eq_true h0
   clear h0
   go_enter Try.func13, Try.ntmps13
   go_wp2_with fail
   refine (rnew_good N T HQ.out _).mono ?_
   rintro e w1 ⟨rfl, HX⟩
   have hb1 : w1.heap[w.heap.size]? = some (.cells #[.int .i64 0, .int .i64 0, .string ⟨#[]⟩, .int .i64 0, .int .i64 0, .string ⟨#[]⟩, .int .i64 0, .string ⟨#[]⟩, .int .i64 0, .slice none 0 0, .int .i64 0, .int .i64 0, .slice none 0 0, .bool false, .bool false, .string ⟨#[]⟩] 34 (0, 0)) := (Below.block HX w.heap.size (by simp)).trans (heap_alloc_new w _)
   have HX1 : Hid (Ext w w1) := HE.out.trans HX
   clear HX
   go_upto_region 3 with fail
   have hb2 := heap_old (o := .cells #[.int .i64 (N : Int), .int .i64 (T : Int), .slice none 0 0] 32) hb1
   have HX2 : Hid (Ext w (w1.alloc (.cells #[.int .i64 (N : Int), .int .i64 (T : Int), .slice none 0 0] 32))) := HX1.out.alloc _
   refine wp_region_lit ?_
   refine wpList_plain rfl fun K hK => ?_
   go_simp
   refine hK _ _ ?_
   clear hK K
   try simp only [sx]
   refine wpList_plain rfl fun K hK => ?_
   refine wp_store_row 34 (.tmp 10) (.tmp 48) rfl w.heap.size #[.int .i64 0, .int .i64 0, .string ⟨#[]⟩, .int .i64 0, .int .i64 0, .string ⟨#[]⟩, .int .i64 0, .string ⟨#[]⟩, .int .i64 0, .slice none 0 0, .int .i64 0, .int .i64 0, .slice none 0 0, .bool false, .bool false, .string ⟨#[]⟩] rfl rfl 34 #[.int .i64 0, .int .i64 0, .string ⟨#[]⟩, .int .i64 0, .int .i64 0, .string ⟨#[]⟩, .int .i64 0, .string ⟨#[]⟩, .int .i64 0, .slice none 0 0, .int .i64 0, .int .i64 0, .slice none 0 0, .bool false, .bool false, .string ⟨#[]⟩] hb2 size34 rfl (by kernel_rfl) ?_
   refine hK _ _ ?_
   clear hK K
   try simp only [sx]
   go_wp2_with fail
   have hb3 := setRow_heap _ w.heap.size _ #[.int .i64 0, .int .i64 0, .string ⟨#[]⟩, .int .i64 0, .int .i64 0, .string ⟨#[]⟩, .int .i64 0, .string ⟨#[]⟩, .int .i64 0, .slice none 0 0, .int .i64 0, .int .i64 0, .slice none 0 0, .bool false, .bool false, .string ⟨#[]⟩] 34 (0, 0) hb2
   refine bodyPost_ret (ret_two Try.results13 _ _ w.heap.size 34 #[.int .i64 0, .int .i64 0, .string ⟨#[]⟩, .int .i64 0, .int .i64 0, .string ⟨#[]⟩, .int .i64 0, .string ⟨#[]⟩, .int .i64 0, .slice none 0 0, .int .i64 0, .int .i64 0, .slice none 0 0, .bool false, .bool false, .string ⟨#[]⟩] (0, 0) rfl hb3 rfl) rfl ⟨rfl, HX2.out.row (Nat.le_refl _) _⟩
  have d0 : decide (me < 1) = false := decide_eq_false h0
  by_cases h1 : (N : Int) < me
  ·have d1 : decide ((N : Int) < me) = true := decide_eq_true h1
   clear h0 h1
   go_enter Try.func13, Try.ntmps13
   go_wp2_with fail
   refine (rnew_good N T HQ.out _).mono ?_
   rintro e w1 ⟨rfl, HX⟩
   have hb1 : w1.heap[w.heap.size]? = some (.cells #[.int .i64 0, .int .i64 0, .string ⟨#[]⟩, .int .i64 0, .int .i64 0, .string ⟨#[]⟩, .int .i64 0, .string ⟨#[]⟩, .int .i64 0, .slice none 0 0, .int .i64 0, .int .i64 0, .slice none 0 0, .bool false, .bool false, .string ⟨#[]⟩] 34 (0, 0)) := (Below.block HX w.heap.size (by simp)).trans (heap_alloc_new w _)
   have HX1 : Hid (Ext w w1) := HE.out.trans HX
   clear HX
   go_upto_region 3 with fail
   have hb2 := heap_old (o := .cells #[.int .i64 (N : Int), .int .i64 (T : Int), .slice none 0 0] 32) hb1
   have HX2 : Hid (Ext w (w1.alloc (.cells #[.int .i64 (N : Int), .int .i64 (T : Int), .slice none 0 0] 32))) := HX1.out.alloc _
   refine wp_region_lit ?_
   refine wpList_plain rfl fun K hK => ?_
   go_simp
   refine hK _ _ ?_
   clear hK K
   try simp only [sx]
   refine wpList_plain rfl fun K hK => ?_
   refine wp_store_row 34 (.tmp 10) (.tmp 48) rfl w.heap.size #[.int .i64 0, .int .i64 0, .string ⟨#[]⟩, .int .i64 0, .int .i64 0, .string ⟨#[]⟩, .int .i64 0, .string ⟨#[]⟩, .int .i64 0, .slice none 0 0, .int .i64 0, .int .i64 0, .slice none 0 0, .bool false, .bool false, .string ⟨#[]⟩] rfl rfl 34 #[.int .i64 0, .int .i64 0, .string ⟨#[]⟩, .int .i64 0, .int .i64 0, .string ⟨#[]⟩, .int .i64 0, .string ⟨#[]⟩, .int .i64 0, .slice none 0 0, .int .i64 0, .int .i64 0, .slice none 0 0, .bool false, .bool false, .string ⟨#[]⟩] hb2 size34 rfl (by kernel_rfl) ?_
   refine hK _ _ ?_
   clear hK K
   try simp only [sx]
   go_wp2_with fail
   have hb3 := setRow_heap _ w.heap.size _ #[.int .i64 0, .int .i64 0, .string ⟨#[]⟩, .int .i64 0, .int .i64 0, .string ⟨#[]⟩, .int .i64 0, .string ⟨#[]⟩, .int .i64 0, .slice none 0 0, .int .i64 0, .int .i64 0, .slice none 0 0, .bool false, .bool false, .string ⟨#[]⟩] 34 (0, 0) hb2
   refine bodyPost_ret (ret_two Try.results13 _ _ w.heap.size 34 #[.int .i64 0, .int .i64 0, .string ⟨#[]⟩, .int .i64 0, .int .i64 0, .string ⟨#[]⟩, .int .i64 0, .string ⟨#[]⟩, .int .i64 0, .slice none 0 0, .int .i64 0, .int .i64 0, .slice none 0 0, .bool false, .bool false, .string ⟨#[]⟩] (0, 0) rfl hb3 rfl) rfl ⟨rfl, HX2.out.row (Nat.le_refl _) _⟩
  have d1 : decide ((N : Int) < me) = false := decide_eq_false h1
  by_cases h2 : ht < 0
  ·have d2 : decide (ht < 0) = true := decide_eq_true h2
   clear h0 h1 h2
   go_enter Try.func13, Try.ntmps13
   go_wp2_with fail
   refine (rnew_good N T HQ.out _).mono ?_
   rintro e w1 ⟨rfl, HX⟩
   have hb1 : w1.heap[w.heap.size]? = some (.cells #[.int .i64 0, .int .i64 0, .string ⟨#[]⟩, .int .i64 0, .int .i64 0, .string ⟨#[]⟩, .int .i64 0, .string ⟨#[]⟩, .int .i64 0, .slice none 0 0, .int .i64 0, .int .i64 0, .slice none 0 0, .bool false, .bool false, .string ⟨#[]⟩] 34 (0, 0)) := (Below.block HX w.heap.size (by simp)).trans (heap_alloc_new w _)
   have HX1 : Hid (Ext w w1) := HE.out.trans HX
   clear HX
   go_upto_region 3 with fail
   have hb2 := heap_old (o := .cells #[.int .i64 (N : Int), .int .i64 (T : Int), .slice none 0 0] 32) hb1
   have HX2 : Hid (Ext w (w1.alloc (.cells #[.int .i64 (N : Int), .int .i64 (T : Int), .slice none 0 0] 32))) := HX1.out.alloc _
   refine wp_region_lit ?_
   refine wpList_plain rfl fun K hK => ?_
   go_simp
   refine hK _ _ ?_
   clear hK K
   try simp only [sx]
   refine wpList_plain rfl fun K hK => ?_
   refine wp_store_row 34 (.tmp 10) (.tmp 48) rfl w.heap.size #[.int .i64 0, .int .i64 0, .string ⟨#[]⟩, .int .i64 0, .int .i64 0, .string ⟨#[]⟩, .int .i64 0, .string ⟨#[]⟩, .int .i64 0, .slice none 0 0, .int .i64 0, .int .i64 0, .slice none 0 0, .bool false, .bool false, .string ⟨#[]⟩] rfl rfl 34 #[.int .i64 0, .int .i64 0, .string ⟨#[]⟩, .int .i64 0, .int .i64 0, .string ⟨#[]⟩, .int .i64 0, .string ⟨#[]⟩, .int .i64 0, .slice none 0 0, .int .i64 0, .int .i64 0, .slice none 0 0, .bool false, .bool false, .string ⟨#[]⟩] hb2 size34 rfl (by kernel_rfl) ?_
   refine hK _ _ ?_
   clear hK K
   try simp only [sx]
   go_wp2_with fail
   have hb3 := setRow_heap _ w.heap.size _ #[.int .i64 0, .int .i64 0, .string ⟨#[]⟩, .int .i64 0, .int .i64 0, .string ⟨#[]⟩, .int .i64 0, .string ⟨#[]⟩, .int .i64 0, .slice none 0 0, .int .i64 0, .int .i64 0, .slice none 0 0, .bool false, .bool false, .string ⟨#[]⟩] 34 (0, 0) hb2
   refine bodyPost_ret (ret_two Try.results13 _ _ w.heap.size 34 #[.int .i64 0, .int .i64 0, .string ⟨#[]⟩, .int .i64 0, .int .i64 0, .string ⟨#[]⟩, .int .i64 0, .string ⟨#[]⟩, .int .i64 0, .slice none 0 0, .int .i64 0, .int .i64 0, .slice none 0 0, .bool false, .bool false, .string ⟨#[]⟩] (0, 0) rfl hb3 rfl) rfl ⟨rfl, HX2.out.row (Nat.le_refl _) _⟩
  have d2 : decide (ht < 0) = false := decide_eq_false h2
  by_cases h3 : (64 : Int) < ht
  ·have d3 : decide ((64 : Int) < ht) = true := decide_eq_true h3
   clear h0 h1 h2 h3
   go_enter Try.func13, Try.ntmps13
   go_wp2_with fail
   refine (rnew_good N T HQ.out _).mono ?_
   rintro e w1 ⟨rfl, HX⟩
   have hb1 : w1.heap[w.heap.size]? = some (.cells #[.int .i64 0, .int .i64 0, .string ⟨#[]⟩, .int .i64 0, .int .i64 0, .string ⟨#[]⟩, .int .i64 0, .string ⟨#[]⟩, .int .i64 0, .slice none 0 0, .int .i64 0, .int .i64 0, .slice none 0 0, .bool false, .bool false, .string ⟨#[]⟩] 34 (0, 0)) := (Below.block HX w.heap.size (by simp)).trans (heap_alloc_new w _)
   have HX1 : Hid (Ext w w1) := HE.out.trans HX
   clear HX
   go_upto_region 3 with fail
   have hb2 := heap_old (o := .cells #[.int .i64 (N : Int), .int .i64 (T : Int), .slice none 0 0] 32) hb1
   have HX2 : Hid (Ext w (w1.alloc (.cells #[.int .i64 (N : Int), .int .i64 (T : Int), .slice none 0 0] 32))) := HX1.out.alloc _
   refine wp_region_lit ?_
   refine wpList_plain rfl fun K hK => ?_
   go_simp
   refine hK _ _ ?_
   clear hK K
   try simp only [sx]
   refine wpList_plain rfl fun K hK => ?_
   refine wp_store_row 34 (.tmp 10) (.tmp 48) rfl w.heap.size #[.int .i64 0, .int .i64 0, .string ⟨#[]⟩, .int .i64 0, .int .i64 0, .string ⟨#[]⟩, .int .i64 0, .string ⟨#[]⟩, .int .i64 0, .slice none 0 0, .int .i64 0, .int .i64 0, .slice none 0 0, .bool false, .bool false, .string ⟨#[]⟩] rfl rfl 34 #[.int .i64 0, .int .i64 0, .string ⟨#[]⟩, .int .i64 0, .int .i64 0, .string ⟨#[]⟩, .int .i64 0, .string ⟨#[]⟩, .int .i64 0, .slice none 0 0, .int .i64 0, .int .i64 0, .slice none 0 0, .bool false, .bool false, .string ⟨#[]⟩] hb2 size34 rfl (by kernel_rfl) ?_
   refine hK _ _ ?_
   clear hK K
   try simp only [sx]
   go_wp2_with fail
   have hb3 := setRow_heap _ w.heap.size _ #[.int .i64 0, .int .i64 0, .string ⟨#[]⟩, .int .i64 0, .int .i64 0, .string ⟨#[]⟩, .int .i64 0, .string ⟨#[]⟩, .int .i64 0, .slice none 0 0, .int .i64 0, .int .i64 0, .slice none 0 0, .bool false, .bool false, .string ⟨#[]⟩] 34 (0, 0) hb2
   refine bodyPost_ret (ret_two Try.results13 _ _ w.heap.size 34 #[.int .i64 0, .int .i64 0, .string ⟨#[]⟩, .int .i64 0, .int .i64 0, .string ⟨#[]⟩, .int .i64 0, .string ⟨#[]⟩, .int .i64 0, .slice none 0 0, .int .i64 0, .int .i64 0, .slice none 0 0, .bool false, .bool false, .string ⟨#[]⟩] (0, 0) rfl hb3 rfl) rfl ⟨rfl, HX2.out.row (Nat.le_refl _) _⟩
  have d3 : decide ((64 : Int) < ht) = false := decide_eq_false h3
  by_cases h4 : own.size = 0
  ·have q4 := isEmpty_nil h4
   have q5 := toList_nil h4
   clear h0 h1 h2 h3 h4
   go_enter Try.func13, Try.ntmps13
   go_wp2_with fail
   refine (rnew_good N T HQ.out _).mono ?_
   rintro e w1 ⟨rfl, HX⟩
   have hb1 : w1.heap[w.heap.size]? = some (.cells #[.int .i64 0, .int .i64 0, .string ⟨#[]⟩, .int .i64 0, .int .i64 0, .string ⟨#[]⟩, .int .i64 0, .string ⟨#[]⟩, .int .i64 0, .slice none 0 0, .int .i64 0, .int .i64 0, .slice none 0 0, .bool false, .bool false, .string ⟨#[]⟩] 34 (0, 0)) := (Below.block HX w.heap.size (by simp)).trans (heap_alloc_new w _)
   have HX1 : Hid (Ext w w1) := HE.out.trans HX
   clear HX
   go_upto_region 3 with fail
   have hb2 := heap_old (o := .cells #[.int .i64 (N : Int), .int .i64 (T : Int), .slice none 0 0] 32) hb1
   have HX2 : Hid (Ext w (w1.alloc (.cells #[.int .i64 (N : Int), .int .i64 (T : Int), .slice none 0 0] 32))) := HX1.out.alloc _
   refine wp_region_lit ?_
   refine wpList_plain rfl fun K hK => ?_
   go_simp
   refine hK _ _ ?_
   clear hK K
   try simp only [sx]
   refine wpList_plain rfl fun K hK => ?_
   refine wp_store_row 34 (.tmp 10) (.tmp 48) rfl w.heap.size #[.int .i64 0, .int .i64 0, .string ⟨#[]⟩, .int .i64 0, .int .i64 0, .string ⟨#[]⟩, .int .i64 0, .string ⟨#[]⟩, .int .i64 0, .slice none 0 0, .int .i64 0, .int .i64 0, .slice none 0 0, .bool false, .bool false, .string ⟨#[]⟩] rfl rfl 34 #[.int .i64 0, .int .i64 0, .string ⟨#[]⟩, .int .i64 0, .int .i64 0, .string ⟨#[]⟩, .int .i64 0, .string ⟨#[]⟩, .int .i64 0, .slice none 0 0, .int .i64 0, .int .i64 0, .slice none 0 0, .bool false, .bool false, .string ⟨#[]⟩] hb2 size34 rfl (by kernel_rfl) ?_
   refine hK _ _ ?_
   clear hK K
   try simp only [sx]
   go_wp2_with fail
   have hb3 := setRow_heap _ w.heap.size _ #[.int .i64 0, .int .i64 0, .string ⟨#[]⟩, .int .i64 0, .int .i64 0, .string ⟨#[]⟩, .int .i64 0, .string ⟨#[]⟩, .int .i64 0, .slice none 0 0, .int .i64 0, .int .i64 0, .slice none 0 0, .bool false, .bool false, .string ⟨#[]⟩] 34 (0, 0) hb2
   refine bodyPost_ret (ret_two Try.results13 _ _ w.heap.size 34 #[.int .i64 0, .int .i64 0, .string ⟨#[]⟩, .int .i64 0, .int .i64 0, .string ⟨#[]⟩, .int .i64 0, .string ⟨#[]⟩, .int .i64 0, .slice none 0 0, .int .i64 0, .int .i64 0, .slice none 0 0, .bool false, .bool false, .string ⟨#[]⟩] (0, 0) rfl hb3 rfl) rfl ⟨rfl, HX2.out.row (Nat.le_refl _) _⟩
  have q4 := isEmpty_some h4
  have q5 := toList_some h4
  by_cases h5 : (4096 : Int) < (own.size : Int)
  ·have d5 : decide ((4096 : Int) < (own.size : Int)) = true := decide_eq_true h5
   clear h0 h1 h2 h3 h4 h5
   go_enter Try.func13, Try.ntmps13
   go_wp2_with fail
   refine (rnew_good N T HQ.out _).mono ?_
   rintro e w1 ⟨rfl, HX⟩
   have hb1 : w1.heap[w.heap.size]? = some (.cells #[.int .i64 0, .int .i64 0, .string ⟨#[]⟩, .int .i64 0, .int .i64 0, .string ⟨#[]⟩, .int .i64 0, .string ⟨#[]⟩, .int .i64 0, .slice none 0 0, .int .i64 0, .int .i64 0, .slice none 0 0, .bool false, .bool false, .string ⟨#[]⟩] 34 (0, 0)) := (Below.block HX w.heap.size (by simp)).trans (heap_alloc_new w _)
   have HX1 : Hid (Ext w w1) := HE.out.trans HX
   clear HX
   go_upto_region 3 with fail
   have hb2 := heap_old (o := .cells #[.int .i64 (N : Int), .int .i64 (T : Int), .slice none 0 0] 32) hb1
   have HX2 : Hid (Ext w (w1.alloc (.cells #[.int .i64 (N : Int), .int .i64 (T : Int), .slice none 0 0] 32))) := HX1.out.alloc _
   refine wp_region_lit ?_
   refine wpList_plain rfl fun K hK => ?_
   go_simp
   refine hK _ _ ?_
   clear hK K
   try simp only [sx]
   refine wpList_plain rfl fun K hK => ?_
   refine wp_store_row 34 (.tmp 10) (.tmp 48) rfl w.heap.size #[.int .i64 0, .int .i64 0, .string ⟨#[]⟩, .int .i64 0, .int .i64 0, .string ⟨#[]⟩, .int .i64 0, .string ⟨#[]⟩, .int .i64 0, .slice none 0 0, .int .i64 0, .int .i64 0, .slice none 0 0, .bool false, .bool false, .string ⟨#[]⟩] rfl rfl 34 #[.int .i64 0, .int .i64 0, .string ⟨#[]⟩, .int .i64 0, .int .i64 0, .string ⟨#[]⟩, .int .i64 0, .string ⟨#[]⟩, .int .i64 0, .slice none 0 0, .int .i64 0, .int .i64 0, .slice none 0 0, .bool false, .bool false, .string ⟨#[]⟩] hb2 size34 rfl (by kernel_rfl) ?_
   refine hK _ _ ?_
   clear hK K
   try simp only [sx]
   go_wp2_with fail
   have hb3 := setRow_heap _ w.heap.size _ #[.int .i64 0, .int .i64 0, .string ⟨#[]⟩, .int .i64 0, .int .i64 0, .string ⟨#[]⟩, .int .i64 0, .string ⟨#[]⟩, .int .i64 0, .slice none 0 0, .int .i64 0, .int .i64 0, .slice none 0 0, .bool false, .bool false, .string ⟨#[]⟩] 34 (0, 0) hb2
   refine bodyPost_ret (ret_two Try.results13 _ _ w.heap.size 34 #[.int .i64 0, .int .i64 0, .string ⟨#[]⟩, .int .i64 0, .int .i64 0, .string ⟨#[]⟩, .int .i64 0, .string ⟨#[]⟩, .int .i64 0, .slice none 0 0, .int .i64 0, .int .i64 0, .slice none 0 0, .bool false, .bool false, .string ⟨#[]⟩] (0, 0) rfl hb3 rfl) rfl ⟨rfl, HX2.out.row (Nat.le_refl _) _⟩
  exact absurd ⟨HQ.out, by omega, by omega, by omega, by omega, h4, by omega⟩ Hn.out
 ·have HQ : Hid (¬ hasQ n t) := hq
  clear hq h
  go_enter Try.func13, Try.ntmps13
  go_wp2_with fail
  refine (rnew_bad n t HQ.out _).mono ?_
  rintro e w1 ⟨rfl, HX⟩
  have hb1 : w1.heap[w.heap.size]? = some (.cells #[.int .i64 0, .int .i64 0, .string ⟨#[]⟩, .int .i64 0, .int .i64 0, .string ⟨#[]⟩, .int .i64 0, .string ⟨#[]⟩, .int .i64 0, .slice none 0 0, .int .i64 0, .int .i64 0, .slice none 0 0, .bool false, .bool false, .string ⟨#[]⟩] 34 (0, 0)) := (Below.block HX w.heap.size (by simp)).trans (heap_alloc_new w _)
  have HX1 : Hid (Ext w w1) := HE.out.trans HX
  clear HX
  go_upto_region 3 with fail
  have hb2 := heap_old (o := .cells #[.int .i64 0, .int .i64 0, .slice none 0 0] 32) hb1
  have HX2 : Hid (Ext w (w1.alloc (.cells #[.int .i64 0, .int .i64 0, .slice none 0 0] 32))) := HX1.out.alloc _
  refine wp_region_lit ?_
  refine wpList_plain rfl fun K hK => ?_
  go_simp
  refine hK _ _ ?_
  clear hK K
  try simp only [sx]
  refine wpList_plain rfl fun K hK => ?_
  refine wp_store_row 34 (.tmp 10) (.tmp 48) rfl w.heap.size #[.int .i64 0, .int .i64 0, .string ⟨#[]⟩, .int .i64 0, .int .i64 0, .string ⟨#[]⟩, .int .i64 0, .string ⟨#[]⟩, .int .i64 0, .slice none 0 0, .int .i64 0, .int .i64 0, .slice none 0 0, .bool false, .bool false, .string ⟨#[]⟩] rfl rfl 34 #[.int .i64 0, .int .i64 0, .string ⟨#[]⟩, .int .i64 0, .int .i64 0, .string ⟨#[]⟩, .int .i64 0, .string ⟨#[]⟩, .int .i64 0, .slice none 0 0, .int .i64 0, .int .i64 0, .slice none 0 0, .bool false, .bool false, .string ⟨#[]⟩] hb2 size34 rfl (by kernel_rfl) ?_
  refine hK _ _ ?_
  clear hK K
  try simp only [sx]
  go_wp2_with fail
  have hb3 := setRow_heap _ w.heap.size _ #[.int .i64 0, .int .i64 0, .string ⟨#[]⟩, .int .i64 0, .int .i64 0, .string ⟨#[]⟩, .int .i64 0, .string ⟨#[]⟩, .int .i64 0, .slice none 0 0, .int .i64 0, .int .i64 0, .slice none 0 0, .bool false, .bool false, .string ⟨#[]⟩] 34 (0, 0) hb2
  refine bodyPost_ret (ret_two Try.results13 _ _ w.heap.size 34 #[.int .i64 0, .int .i64 0, .string ⟨#[]⟩, .int .i64 0, .int .i64 0, .string ⟨#[]⟩, .int .i64 0, .string ⟨#[]⟩, .int .i64 0, .slice none 0 0, .int .i64 0, .int .i64 0, .slice none 0 0, .bool false, .bool false, .string ⟨#[]⟩] (0, 0) rfl hb3 rfl) rfl ⟨rfl, HX2.out.row (Nat.le_refl _) _⟩
end Go.Proofs.Ytmanacbdldfmfaa
