/-
 The document's part: begin, Start, called.
-/
import Derived.Test.YtmanacbdldfmfaaRa
namespace Go.Proofs.Ytmanacbdldfmfaa
open Go.RowKit
set_option maxRecDepth 10000
theorem wp_ld34 {o : Oper} {a : Act} {w : World} {K : Act → World → Prop} {Q : Exit → Act → World → Prop} {x : Operand} (ho : o.op = .load 34 x) {g : Nat} (hx : a.eval x = .pointer (some ⟨g, 0, none⟩)) {cs : Array Value} (hg : w.heap[g]? = some (.cells cs 34 (0, 0))) (hs : cs.size = 16) (h : K (a.put o.dst (.agg cs)) w) : o.wp Try.prog a w K Q :=
 wp_load_row 34 x ho g hx 34 cs (0, 0) _ hg Try.underlying34 rfl (by rw [hs]; exact size34) h
theorem wp_st34 {o : Oper} {a : Act} {W : World} {K : Act → World → Prop} {Q : Exit → Act → World → Prop} {x y : Operand} (ho : o.op = .store 34 x y) {g1 : Nat} {cs' : Array Value} (hx : a.eval x = .pointer (some ⟨g1, 0, none⟩)) (hy : a.eval y = .agg cs') {w : World} {g0 : Nat} {cs : Array Value} (hR : R2 w g0 cs g1 W) (hs : cs'.size = 16) (h1 : cs'.all (·.oneCell') = true)
  (h : ∀ W', R2 w g0 cs g1 W' → W'.heap[g1]? = some (.cells cs' 34 (0, 0)) → W'.heap[g0]? = some (.cells cs 34 (0, 0)) → (∀ k, k ≠ g1 → W'.heap[k]? = W.heap[k]?) ∧ W'.heap.size = W.heap.size → K (a.put o.dst undef) W') : o.wp Try.prog a W K Q := by
 obtain ⟨z, hz, hb⟩ := hR.b1
 refine wp_store_row 34 x y ho g1 cs' hx hy 34 z hb (by rw [hs]; exact size34) (by rw [hz, hs]) h1 ?_
 obtain ⟨q1, q2⟩ := hR.set (cs' := cs') hs
 exact h _ q1 q2 q1.b0 ⟨fun k hk => setRow_other W g1 k cs' hk, by simp [World.setRow]⟩
theorem wp_st34n {o : Oper} {a : Act} {W : World} {z : Array Value} {K : Act → World → Prop} {Q : Exit → Act → World → Prop} {x y : Operand} (ho : o.op = .store 34 x y) {cs' : Array Value} (hx : a.eval x = .pointer (some ⟨W.heap.size, 0, none⟩)) (hy : a.eval y = .agg cs') (hz : z.size = 16) (hs : cs'.size = 16) (h1 : cs'.all (·.oneCell') = true)
  (h : K (a.put o.dst undef) (W.alloc (.cells cs' 34))) : o.wp Try.prog a (W.alloc (.cells z 34)) K Q := by
 refine wp_store_row 34 x y ho W.heap.size cs' hx hy 34 z (heap_alloc_new W _) (by rw [hs]; exact size34) (by rw [hz, hs]) h1 ?_
 rw [World.setRow_alloc_new]
 exact h
theorem wl_ld34 {ops : Array Oper} {rest : List Oper} {o : Oper} {a : Act} {w : World} {Q : Exit → Act → World → Prop} {x : Operand} (hgd : o.guard = none) (ho : o.op = .load 34 x) {g : Nat} (hx : a.eval x = .pointer (some ⟨g, 0, none⟩)) {cs : Array Value} (hg : w.heap[g]? = some (.cells cs 34 (0, 0))) (hs : cs.size = 16) (h : wpList Try.prog ops Q rest (a.put o.dst (.agg cs)) w) : wpList Try.prog ops Q (o :: rest) a w :=
 wpList_plain hgd fun _ hK => wp_ld34 ho hx hg hs (hK _ _ h)
theorem wl_st34 {ops : Array Oper} {rest : List Oper} {o : Oper} {a : Act} {W : World} {Q : Exit → Act → World → Prop} {x y : Operand} (hgd : o.guard = none) (ho : o.op = .store 34 x y) {g1 : Nat} {cs' : Array Value} (hx : a.eval x = .pointer (some ⟨g1, 0, none⟩)) (hy : a.eval y = .agg cs') {w : World} {g0 : Nat} {cs : Array Value} (hR : R2 w g0 cs g1 W) (hs : cs'.size = 16) (h1 : cs'.all (·.oneCell') = true)
  (h : ∀ W', R2 w g0 cs g1 W' → W'.heap[g1]? = some (.cells cs' 34 (0, 0)) → W'.heap[g0]? = some (.cells cs 34 (0, 0)) → (∀ k, k ≠ g1 → W'.heap[k]? = W.heap[k]?) ∧ W'.heap.size = W.heap.size → wpList Try.prog ops Q rest (a.put o.dst undef) W') : wpList Try.prog ops Q (o :: rest) a W :=
 wpList_plain hgd fun _ hK => wp_st34 ho hx hy hR hs h1 (fun W' q1 q2 q3 q4 => hK _ _ (h W' q1 q2 q3 q4))
theorem wl_st34n {ops : Array Oper} {rest : List Oper} {o : Oper} {a : Act} {W : World} {z : Array Value} {Q : Exit → Act → World → Prop} {x y : Operand} (hgd : o.guard = none) (ho : o.op = .store 34 x y) {cs' : Array Value} (hx : a.eval x = .pointer (some ⟨W.heap.size, 0, none⟩)) (hy : a.eval y = .agg cs') (hz : z.size = 16) (hs : cs'.size = 16) (h1 : cs'.all (·.oneCell') = true)
  (h : wpList Try.prog ops Q rest (a.put o.dst undef) (W.alloc (.cells cs' 34))) : wpList Try.prog ops Q (o :: rest) a (W.alloc (.cells z 34)) :=
 wpList_plain hgd fun _ hK => wp_st34n ho hx hy hz hs h1 (hK _ _ h)
set_option maxHeartbeats 4000000 in
theorem rbegin_high (p : Pm) (s : Ag) (a1 : Option Addr) (n1 c1 : Nat) (a2 : Option Addr) (n2 c2 : Nat) (r : Int) (h6 : 64 ≤ r) (w : World) :
  Calls Try.prog 30 #[av p s a1 n1 c1 a2 n2 c2, .int .i64 r] w fun e w' => SayP p (beginA p s r).1 (beginA p s r).2 a1 n1 c1 a2 n2 c2 w e w' := by
 have HB : Hid (beginA p s r = (s, [])) := if_pos h6
 have d6 : decide ((64 : Int) ≤ r) = true := decide_eq_true h6
 have HR : Hid (R2 w w.heap.size #[.int .i64 p.me, .int .i64 p.ht, .string p.own, .int .i64 s.rd, .int .i64 s.st, .string s.lk, .int .i64 s.lr, .string s.vv, .int .i64 s.vr, .slice a1 n1 c1, .int .i64 (p.n : Int), .int .i64 (p.t : Int), .slice a2 n2 c2, .bool (fiveA s), .bool s.dn, .string s.dc] (w.heap.size + 1) ((w.alloc (.cells #[.int .i64 p.me, .int .i64 p.ht, .string p.own, .int .i64 s.rd, .int .i64 s.st, .string s.lk, .int .i64 s.lr, .string s.vv, .int .i64 s.vr, .slice a1 n1 c1, .int .i64 (p.n : Int), .int .i64 (p.t : Int), .slice a2 n2 c2, .bool (fiveA s), .bool s.dn, .string s.dc] 34)).alloc (.cells #[.int .i64 0, .int .i64 0, .string ⟨#[]⟩, .int .i64 0, .int .i64 0, .string ⟨#[]⟩, .int .i64 0, .string ⟨#[]⟩, .int .i64 0, .slice none 0 0, .int .i64 0, .int .i64 0, .slice none 0 0, .bool false, .bool false, .string ⟨#[]⟩] 34))) := R2.new w _ _ rfl
 clear h6
 go_enter Try.func30, Try.ntmps30
 go_upto_region 1 with fail
 obtain ⟨W, hW⟩ : ∃ W, (w.alloc (.cells #[.int .i64 p.me, .int .i64 p.ht, .string p.own, .int .i64 s.rd, .int .i64 s.st, .string s.lk, .int .i64 s.lr, .string s.vv, .int .i64 s.vr, .slice a1 n1 c1, .int .i64 (p.n : Int), .int .i64 (p.t : Int), .slice a2 n2 c2, .bool (fiveA s), .bool s.dn, .string s.dc] 34)).alloc (.cells #[.int .i64 0, .int .i64 0, .string ⟨#[]⟩, .int .i64 0, .int .i64 0, .string ⟨#[]⟩, .int .i64 0, .string ⟨#[]⟩, .int .i64 0, .slice none 0 0, .int .i64 0, .int .i64 0, .slice none 0 0, .bool false, .bool false, .string ⟨#[]⟩] 34) = W := ⟨_, rfl⟩
 rw [hW] at HR ⊢
 clear hW
 have hR := HR.out
 have hB := hR.b0
 go_upto_region 2 with fail
 refine wp_region_lit ?_
 refine wl_ld34 rfl rfl rfl hB rfl ?_
 try simp only [sx]
 refine wl_st34 rfl rfl rfl rfl hR rfl (by kernel_rfl) ?_
 intro W' hR' hG' hB' hK'
 try simp only [sx]
 go_wp2_with fail
 rw [HB.out]
 refine bodyPost_ret (ret_two Try.results30 _ _ (w.heap.size + 1) 34 #[.int .i64 p.me, .int .i64 p.ht, .string p.own, .int .i64 s.rd, .int .i64 s.st, .string s.lk, .int .i64 s.lr, .string s.vv, .int .i64 s.vr, .slice a1 n1 c1, .int .i64 (p.n : Int), .int .i64 (p.t : Int), .slice a2 n2 c2, .bool (fiveA s), .bool s.dn, .string s.dc] (0, 0) rfl hG' rfl) rfl ⟨_, _, _, rfl, World.ownsRow_nil _ _ _ _, hR'.ext⟩
set_option maxHeartbeats 4000000 in
theorem rbegin_no (p : Pm) (s : Ag) (a1 : Option Addr) (n1 c1 : Nat) (a2 : Option Addr) (n2 c2 : Nat) (r : Int) (h6 : r < 64) (hr : s.vr < r) (hle : ¬ leadA p.n p.ht r = p.me) (w : World) :
  Calls Try.prog 30 #[av p s a1 n1 c1 a2 n2 c2, .int .i64 r] w fun e w' => SayP p (beginA p s r).1 (beginA p s r).2 a1 n1 c1 a2 n2 c2 w e w' := by
 have HB : Hid (beginA p s r = ({ s with rd := r, st := 1 }, [])) := by show _ = _; rw [begin_eq h6, if_neg hle]
 have HF : Hid (fiveA { s with rd := r, st := 1 } = false) := decide_eq_false (fun q => by have : s.vr = r := q.2; omega)
 have d6 : decide ((64 : Int) ≤ r) = false := decide_eq_false (by omega)
 have ql : (leadA p.n p.ht r != p.me) = true := by simpa using hle
 skip
 have HR : Hid (R2 w w.heap.size #[.int .i64 p.me, .int .i64 p.ht, .string p.own, .int .i64 r, .int .i64 1, .string s.lk, .int .i64 s.lr, .string s.vv, .int .i64 s.vr, .slice a1 n1 c1, .int .i64 (p.n : Int), .int .i64 (p.t : Int), .slice a2 n2 c2, .bool false, .bool s.dn, .string s.dc] (w.heap.size + 1) ((w.alloc (.cells #[.int .i64 p.me, .int .i64 p.ht, .string p.own, .int .i64 r, .int .i64 1, .string s.lk, .int .i64 s.lr, .string s.vv, .int .i64 s.vr, .slice a1 n1 c1, .int .i64 (p.n : Int), .int .i64 (p.t : Int), .slice a2 n2 c2, .bool false, .bool s.dn, .string s.dc] 34)).alloc (.cells #[.int .i64 0, .int .i64 0, .string ⟨#[]⟩, .int .i64 0, .int .i64 0, .string ⟨#[]⟩, .int .i64 0, .string ⟨#[]⟩, .int .i64 0, .slice none 0 0, .int .i64 0, .int .i64 0, .slice none 0 0, .bool false, .bool false, .string ⟨#[]⟩] 34))) := R2.new w _ _ rfl
 clear h6 hr hle
 go_enter Try.func30, Try.ntmps30
 go_wp2_with fail
 obtain ⟨W, hW⟩ : ∃ W, (w.alloc (.cells #[.int .i64 p.me, .int .i64 p.ht, .string p.own, .int .i64 r, .int .i64 1, .string s.lk, .int .i64 s.lr, .string s.vv, .int .i64 s.vr, .slice a1 n1 c1, .int .i64 (p.n : Int), .int .i64 (p.t : Int), .slice a2 n2 c2, .bool false, .bool s.dn, .string s.dc] 34)).alloc (.cells #[.int .i64 0, .int .i64 0, .string ⟨#[]⟩, .int .i64 0, .int .i64 0, .string ⟨#[]⟩, .int .i64 0, .string ⟨#[]⟩, .int .i64 0, .slice none 0 0, .int .i64 0, .int .i64 0, .slice none 0 0, .bool false, .bool false, .string ⟨#[]⟩] 34) = W := ⟨_, rfl⟩
 rw [hW] at HR ⊢
 clear hW
 refine wp_region_noPanic ?_
 refine wp_region_held (S := R2 w w.heap.size #[.int .i64 p.me, .int .i64 p.ht, .string p.own, .int .i64 r, .int .i64 1, .string s.lk, .int .i64 s.lr, .string s.vv, .int .i64 s.vr, .slice a1 n1 c1, .int .i64 (p.n : Int), .int .i64 (p.t : Int), .slice a2 n2 c2, .bool false, .bool s.dn, .string s.dc] (w.heap.size + 1)) (by kernel_rfl) ?_
 rw [show ({ W with drawn := W.drawn + 1 } : World) = W.drew from rfl]
 have HS3 := HR.out.further (Ext.refl W).drew
 generalize W.drew = y3 at *
 refine takeH (i := 0) (v := ?vb0) ?hyb0 HS3 ?restb0
 case hyb0 => (intro wx hSx; have e0 := (hSx.cell (j := 0) rfl).1; have e1 := (hSx.cell (j := 1) rfl).1; have e10 := (hSx.cell (j := 10) rfl).1; have el := (hSx.cell (j := 0) rfl).2; go_simp; try with_reducible rfl)
 try simp only [sx]
 refine takeH (i := 1) (v := ?vb1) ?hyb1 HS3 ?restb1
 case hyb1 => (intro wx hSx; have e0 := (hSx.cell (j := 0) rfl).1; have e1 := (hSx.cell (j := 1) rfl).1; have e10 := (hSx.cell (j := 10) rfl).1; have el := (hSx.cell (j := 0) rfl).2; go_simp; try with_reducible rfl)
 try simp only [sx]
 refine takeH (i := 2) (v := ?vb2) ?hyb2 HS3 ?restb2
 case hyb2 => (intro wx hSx; have e0 := (hSx.cell (j := 0) rfl).1; have e1 := (hSx.cell (j := 1) rfl).1; have e10 := (hSx.cell (j := 10) rfl).1; have el := (hSx.cell (j := 0) rfl).2; go_simp; try with_reducible rfl)
 try simp only [sx]
 refine takeH (i := 3) (v := ?vb3) ?hyb3 HS3 ?restb3
 case hyb3 => (intro wx hSx; have e0 := (hSx.cell (j := 0) rfl).1; have e1 := (hSx.cell (j := 1) rfl).1; have e10 := (hSx.cell (j := 10) rfl).1; have el := (hSx.cell (j := 0) rfl).2; go_simp; try with_reducible rfl)
 try simp only [sx]
 refine takeH (i := 4) (v := ?vb4) ?hyb4 HS3 ?restb4
 case hyb4 => (intro wx hSx; have e0 := (hSx.cell (j := 0) rfl).1; have e1 := (hSx.cell (j := 1) rfl).1; have e10 := (hSx.cell (j := 10) rfl).1; have el := (hSx.cell (j := 0) rfl).2; go_simp; try with_reducible rfl)
 try simp only [sx]
 refine takeH (i := 5) (v := ?vb5) ?hyb5 HS3 ?restb5
 case hyb5 => (intro wx hSx; have e0 := (hSx.cell (j := 0) rfl).1; have e1 := (hSx.cell (j := 1) rfl).1; have e10 := (hSx.cell (j := 10) rfl).1; have el := (hSx.cell (j := 0) rfl).2; go_simp; try with_reducible rfl)
 try simp only [sx]
 refine takeH (i := 7) (v := ?vb7) ?hyb7 HS3 ?restb7
 case hyb7 => (intro wx hSx; have e0 := (hSx.cell (j := 0) rfl).1; have e1 := (hSx.cell (j := 1) rfl).1; have e10 := (hSx.cell (j := 10) rfl).1; have el := (hSx.cell (j := 0) rfl).2; go_simp; try with_reducible rfl)
 try simp only [sx]
 refine takeH (i := 8) (v := ?vb8) ?hyb8 HS3 ?restb8
 case hyb8 => (intro wx hSx; have e0 := (hSx.cell (j := 0) rfl).1; have e1 := (hSx.cell (j := 1) rfl).1; have e10 := (hSx.cell (j := 10) rfl).1; have el := (hSx.cell (j := 0) rfl).2; go_simp; try with_reducible rfl)
 try simp only [sx]
 refine held_one (i := 6) (by kernel_rfl) rfl rfl (fun K hK => ?_)
 go_simp
 refine (rlead_any (p.n : Int) p.ht r _).mono ?_
 rintro e w3 ⟨rfl, ew⟩
 subst ew
 try go_simp
 refine hK.out _ _ ⟨HS3, ?_⟩
 clear hK K
 try simp only [sx]
 refine takeH (i := 9) (v := ?vb9) ?hyb9 HS3 ?restb9
 case hyb9 => (intro wx hSx; have e0 := (hSx.cell (j := 0) rfl).1; have e1 := (hSx.cell (j := 1) rfl).1; have e10 := (hSx.cell (j := 10) rfl).1; have el := (hSx.cell (j := 0) rfl).2; go_simp; try with_reducible rfl)
 try simp only [sx]
 refine wpAnyH_done (by kernel_rfl) ?_ _
 refine NoPanic.normal ?_
 have hR := HS3
 have hB := hR.b0
 go_upto_region 7 with fail
 refine wp_region_lit ?_
 refine wl_ld34 rfl rfl rfl hB rfl ?_
 try simp only [sx]
 refine wl_st34 rfl rfl rfl rfl hR rfl (by kernel_rfl) ?_
 intro W' hR' hG' hB' hK'
 try simp only [sx]
 go_wp2_with fail
 rw [HB.out]
 refine bodyPost_ret (ret_two Try.results30 _ _ (w.heap.size + 1) 34 #[.int .i64 p.me, .int .i64 p.ht, .string p.own, .int .i64 r, .int .i64 1, .string s.lk, .int .i64 s.lr, .string s.vv, .int .i64 s.vr, .slice a1 n1 c1, .int .i64 (p.n : Int), .int .i64 (p.t : Int), .slice a2 n2 c2, .bool false, .bool s.dn, .string s.dc] (0, 0) rfl hG' rfl) rfl ⟨_, _, _, (by rw [← HF.out]; rfl), World.ownsRow_nil _ _ _ _, hR'.ext⟩
set_option maxHeartbeats 4000000 in
theorem rbegin_own (p : Pm) (s : Ag) (a1 : Option Addr) (n1 c1 : Nat) (a2 : Option Addr) (n2 c2 : Nat) (r : Int) (h6 : r < 64) (hr : s.vr < r) (hle : leadA p.n p.ht r = p.me) (hv : s.vr < 0) (w : World) :
  Calls Try.prog 30 #[av p s a1 n1 c1 a2 n2 c2, .int .i64 r] w fun e w' => SayP p (beginA p s r).1 (beginA p s r).2 a1 n1 c1 a2 n2 c2 w e w' := by
 have HB : Hid (beginA p s r = ({ s with rd := r, st := 1 }, [⟨1, p.me, r, s.vr, p.own⟩])) := by show _ = _; rw [begin_eq h6, if_pos hle, if_pos hv]
 have HF : Hid (fiveA { s with rd := r, st := 1 } = false) := decide_eq_false (fun q => by have : s.vr = r := q.2; omega)
 have d6 : decide ((64 : Int) ≤ r) = false := decide_eq_false (by omega)
 have ql : (leadA p.n p.ht r != p.me) = false := by simpa using hle
 have qv : decide (s.vr < 0) = true := decide_eq_true hv
 have HR : Hid (R2 w w.heap.size #[.int .i64 p.me, .int .i64 p.ht, .string p.own, .int .i64 r, .int .i64 1, .string s.lk, .int .i64 s.lr, .string s.vv, .int .i64 s.vr, .slice a1 n1 c1, .int .i64 (p.n : Int), .int .i64 (p.t : Int), .slice a2 n2 c2, .bool false, .bool s.dn, .string s.dc] (w.heap.size + 1) ((w.alloc (.cells #[.int .i64 p.me, .int .i64 p.ht, .string p.own, .int .i64 r, .int .i64 1, .string s.lk, .int .i64 s.lr, .string s.vv, .int .i64 s.vr, .slice a1 n1 c1, .int .i64 (p.n : Int), .int .i64 (p.t : Int), .slice a2 n2 c2, .bool false, .bool s.dn, .string s.dc] 34)).alloc (.cells #[.int .i64 0, .int .i64 0, .string ⟨#[]⟩, .int .i64 0, .int .i64 0, .string ⟨#[]⟩, .int .i64 0, .string ⟨#[]⟩, .int .i64 0, .slice none 0 0, .int .i64 0, .int .i64 0, .slice none 0 0, .bool false, .bool false, .string ⟨#[]⟩] 34))) := R2.new w _ _ rfl
 clear h6 hr hle hv
 go_enter Try.func30, Try.ntmps30
 go_wp2_with fail
 obtain ⟨W, hW⟩ : ∃ W, (w.alloc (.cells #[.int .i64 p.me, .int .i64 p.ht, .string p.own, .int .i64 r, .int .i64 1, .string s.lk, .int .i64 s.lr, .string s.vv, .int .i64 s.vr, .slice a1 n1 c1, .int .i64 (p.n : Int), .int .i64 (p.t : Int), .slice a2 n2 c2, .bool false, .bool s.dn, .string s.dc] 34)).alloc (.cells #[.int .i64 0, .int .i64 0, .string ⟨#[]⟩, .int .i64 0, .int .i64 0, .string ⟨#[]⟩, .int .i64 0, .string ⟨#[]⟩, .int .i64 0, .slice none 0 0, .int .i64 0, .int .i64 0, .slice none 0 0, .bool false, .bool false, .string ⟨#[]⟩] 34) = W := ⟨_, rfl⟩
 rw [hW] at HR ⊢
 clear hW
 refine wp_region_noPanic ?_
 refine wp_region_held (S := R2 w w.heap.size #[.int .i64 p.me, .int .i64 p.ht, .string p.own, .int .i64 r, .int .i64 1, .string s.lk, .int .i64 s.lr, .string s.vv, .int .i64 s.vr, .slice a1 n1 c1, .int .i64 (p.n : Int), .int .i64 (p.t : Int), .slice a2 n2 c2, .bool false, .bool s.dn, .string s.dc] (w.heap.size + 1)) (by kernel_rfl) ?_
 rw [show ({ W with drawn := W.drawn + 1 } : World) = W.drew from rfl]
 have HS3 := HR.out.further (Ext.refl W).drew
 generalize W.drew = y3 at *
 refine takeH (i := 0) (v := ?vb0) ?hyb0 HS3 ?restb0
 case hyb0 => (intro wx hSx; have e0 := (hSx.cell (j := 0) rfl).1; have e1 := (hSx.cell (j := 1) rfl).1; have e10 := (hSx.cell (j := 10) rfl).1; have el := (hSx.cell (j := 0) rfl).2; go_simp; try with_reducible rfl)
 try simp only [sx]
 refine takeH (i := 1) (v := ?vb1) ?hyb1 HS3 ?restb1
 case hyb1 => (intro wx hSx; have e0 := (hSx.cell (j := 0) rfl).1; have e1 := (hSx.cell (j := 1) rfl).1; have e10 := (hSx.cell (j := 10) rfl).1; have el := (hSx.cell (j := 0) rfl).2; go_simp; try with_reducible rfl)
 try simp only [sx]
 refine takeH (i := 2) (v := ?vb2) ?hyb2 HS3 ?restb2
 case hyb2 => (intro wx hSx; have e0 := (hSx.cell (j := 0) rfl).1; have e1 := (hSx.cell (j := 1) rfl).1; have e10 := (hSx.cell (j := 10) rfl).1; have el := (hSx.cell (j := 0) rfl).2; go_simp; try with_reducible rfl)
 try simp only [sx]
 refine takeH (i := 3) (v := ?vb3) ?hyb3 HS3 ?restb3
 case hyb3 => (intro wx hSx; have e0 := (hSx.cell (j := 0) rfl).1; have e1 := (hSx.cell (j := 1) rfl).1; have e10 := (hSx.cell (j := 10) rfl).1; have el := (hSx.cell (j := 0) rfl).2; go_simp; try with_reducible rfl)
 try simp only [sx]
 refine takeH (i := 4) (v := ?vb4) ?hyb4 HS3 ?restb4
 case hyb4 => (intro wx hSx; have e0 := (hSx.cell (j := 0) rfl).1; have e1 := (hSx.cell (j := 1) rfl).1; have e10 := (hSx.cell (j := 10) rfl).1; have el := (hSx.cell (j := 0) rfl).2; go_simp; try with_reducible rfl)
 try simp only [sx]
 refine takeH (i := 5) (v := ?vb5) ?hyb5 HS3 ?restb5
 case hyb5 => (intro wx hSx; have e0 := (hSx.cell (j := 0) rfl).1; have e1 := (hSx.cell (j := 1) rfl).1; have e10 := (hSx.cell (j := 10) rfl).1; have el := (hSx.cell (j := 0) rfl).2; go_simp; try with_reducible rfl)
 try simp only [sx]
 refine takeH (i := 7) (v := ?vb7) ?hyb7 HS3 ?restb7
 case hyb7 => (intro wx hSx; have e0 := (hSx.cell (j := 0) rfl).1; have e1 := (hSx.cell (j := 1) rfl).1; have e10 := (hSx.cell (j := 10) rfl).1; have el := (hSx.cell (j := 0) rfl).2; go_simp; try with_reducible rfl)
 try simp only [sx]
 refine takeH (i := 8) (v := ?vb8) ?hyb8 HS3 ?restb8
 case hyb8 => (intro wx hSx; have e0 := (hSx.cell (j := 0) rfl).1; have e1 := (hSx.cell (j := 1) rfl).1; have e10 := (hSx.cell (j := 10) rfl).1; have el := (hSx.cell (j := 0) rfl).2; go_simp; try with_reducible rfl)
 try simp only [sx]
 refine held_one (i := 6) (by kernel_rfl) rfl rfl (fun K hK => ?_)
 go_simp
 refine (rlead_any (p.n : Int) p.ht r _).mono ?_
 rintro e w3 ⟨rfl, ew⟩
 subst ew
 try go_simp
 refine hK.out _ _ ⟨HS3, ?_⟩
 clear hK K
 try simp only [sx]
 refine takeH (i := 9) (v := ?vb9) ?hyb9 HS3 ?restb9
 case hyb9 => (intro wx hSx; have e0 := (hSx.cell (j := 0) rfl).1; have e1 := (hSx.cell (j := 1) rfl).1; have e10 := (hSx.cell (j := 10) rfl).1; have el := (hSx.cell (j := 0) rfl).2; go_simp; try with_reducible rfl)
 try simp only [sx]
 refine wpAnyH_done (by kernel_rfl) ?_ _
 refine NoPanic.normal ?_
 obtain ⟨e0, el⟩ := HS3.cell (j := 0) rfl
 have e2 := (HS3.cell (j := 2) rfl).1
 have e7 := (HS3.cell (j := 7) rfl).1
 have e8 := (HS3.cell (j := 8) rfl).1
 go_wp2_with fail
 obtain ⟨y5, hy5⟩ : ∃ y, w3.alloc (.cells #[.int .i64 1, .int .i64 p.me, .int .i64 r, .int .i64 s.vr, .string p.own] 39) = y := ⟨_, rfl⟩
 have HWd : Hid (Wd w3.heap.size 1 p.me r s.vr p.own y5) := by rw [← hy5]; exact Wd.new w3 _ _ _ _ _
 have HR5 : Hid (R2 w w.heap.size #[.int .i64 p.me, .int .i64 p.ht, .string p.own, .int .i64 r, .int .i64 1, .string s.lk, .int .i64 s.lr, .string s.vv, .int .i64 s.vr, .slice a1 n1 c1, .int .i64 (p.n : Int), .int .i64 (p.t : Int), .slice a2 n2 c2, .bool false, .bool s.dn, .string s.dc] (w.heap.size + 1) y5) := by rw [← hy5]; exact HS3.further ((Ext.refl w3).alloc _)
 have HGW : Hid (w3.heap.size ≠ (w.heap.size + 1)) := by obtain ⟨z, _, q⟩ := HS3.b1; have := (Array.getElem?_eq_some_iff.1 q).1; exact fun e => by omega
 rw [hy5]
 clear hy5 e0 el e2 e7 e8
 generalize w3.heap.size = gw at *
 refine wp_region_noPanic ?_
 refine wp_region_held (S := fun wx => R2 w w.heap.size #[.int .i64 p.me, .int .i64 p.ht, .string p.own, .int .i64 r, .int .i64 1, .string s.lk, .int .i64 s.lr, .string s.vv, .int .i64 s.vr, .slice a1 n1 c1, .int .i64 (p.n : Int), .int .i64 (p.t : Int), .slice a2 n2 c2, .bool false, .bool s.dn, .string s.dc] (w.heap.size + 1) wx ∧ Wd gw 1 p.me r s.vr p.own wx) (by kernel_rfl) ?_
 rw [show ({ y5 with drawn := y5.drawn + 1 } : World) = y5.drew from rfl]
 have HQ : (fun wx => R2 w w.heap.size #[.int .i64 p.me, .int .i64 p.ht, .string p.own, .int .i64 r, .int .i64 1, .string s.lk, .int .i64 s.lr, .string s.vv, .int .i64 s.vr, .slice a1 n1 c1, .int .i64 (p.n : Int), .int .i64 (p.t : Int), .slice a2 n2 c2, .bool false, .bool s.dn, .string s.dc] (w.heap.size + 1) wx ∧ Wd gw 1 p.me r s.vr p.own wx) y5.drew := ⟨HR5.out.further (Ext.refl y5).drew, Wd.ext HWd.out (Ext.refl y5).drew⟩
 generalize y5.drew = y6 at *
 refine takeH (i := 0) (v := ?ve0) ?hye0 HQ ?reste0
 case hye0 => (intro wx hSx; refine ld34 (.tmp 2) ?_ w.heap.size ?_ #[.int .i64 p.me, .int .i64 p.ht, .string p.own, .int .i64 r, .int .i64 1, .string s.lk, .int .i64 s.lr, .string s.vv, .int .i64 s.vr, .slice a1 n1 c1, .int .i64 (p.n : Int), .int .i64 (p.t : Int), .slice a2 n2 c2, .bool false, .bool s.dn, .string s.dc] hSx.1.b0 rfl <;> rfl)
 try simp only [sx]
 refine takeH (i := 1) (v := ?ve1) ?hye1 HQ ?reste1
 case hye1 => (intro wx hSx; obtain ⟨_, x0, x1, x2, x3, x4, xl⟩ := hSx; go_simp; try with_reducible rfl)
 try simp only [sx]
 refine held_two (i := 2) (k := 3) (by kernel_rfl) rfl rfl rfl rfl (fun K hK => ?_) (fun K hK => ?_)
 ·go_simp
  have HByb : (fun wx => R2 w w.heap.size #[.int .i64 p.me, .int .i64 p.ht, .string p.own, .int .i64 r, .int .i64 1, .string s.lk, .int .i64 s.lr, .string s.vv, .int .i64 s.vr, .slice a1 n1 c1, .int .i64 (p.n : Int), .int .i64 (p.t : Int), .slice a2 n2 c2, .bool false, .bool s.dn, .string s.dc] (w.heap.size + 1) wx ∧ Wd gw 1 p.me r s.vr p.own wx) (y6.alloc (.cells #[.int .i64 1, .int .i64 p.me, .int .i64 r, .int .i64 s.vr, .string p.own] 39)) := ⟨HQ.1.further ((Ext.refl y6).alloc _), Wd.ext HQ.2 ((Ext.refl y6).alloc _)⟩
  have HO : Hid ((y6.alloc (.cells #[.int .i64 1, .int .i64 p.me, .int .i64 r, .int .i64 s.vr, .string p.own] 39)).ownsRow w.heap.size 39 5 (.slice (some ⟨y6.heap.size, 0, none⟩) 1 1) 1 (wcs [⟨1, p.me, r, s.vr, p.own⟩])) := own_base (own_one y6 ⟨1, p.me, r, s.vr, p.own⟩) HQ.1.ext.size
  have HL : Hid ((w.heap.size + 1) < y6.heap.size) := by obtain ⟨z, _, q⟩ := HQ.1.b1; exact (Array.getElem?_eq_some_iff.1 q).1
  obtain ⟨yb, hyb⟩ : ∃ y, y6.alloc (.cells #[.int .i64 1, .int .i64 p.me, .int .i64 r, .int .i64 s.vr, .string p.own] 39) = y := ⟨_, rfl⟩
  rw [hyb] at HByb HO ⊢
  clear hyb
  try go_simp
  refine hK.out _ _ ⟨HByb, ?_⟩
  clear hK K
  try simp only [sx]
  refine held_one (i := 3) (by kernel_rfl) rfl rfl (fun K hK => ?_)
  refine wp_st34 (x := .tmp 4) (y := .tmp 39) rfl (cs' := #[.int .i64 p.me, .int .i64 p.ht, .string p.own, .int .i64 r, .int .i64 1, .string s.lk, .int .i64 s.lr, .string s.vv, .int .i64 s.vr, .slice a1 n1 c1, .int .i64 (p.n : Int), .int .i64 (p.t : Int), .slice a2 n2 c2, .bool false, .bool s.dn, .string s.dc]) rfl rfl HByb.1 rfl (by kernel_rfl) ?_
  intro ysb hR2 hG2 _ hK2
  have HTysb : (fun wx => R2 w w.heap.size #[.int .i64 p.me, .int .i64 p.ht, .string p.own, .int .i64 r, .int .i64 1, .string s.lk, .int .i64 s.lr, .string s.vv, .int .i64 s.vr, .slice a1 n1 c1, .int .i64 (p.n : Int), .int .i64 (p.t : Int), .slice a2 n2 c2, .bool false, .bool s.dn, .string s.dc] (w.heap.size + 1) wx ∧ Wd gw 1 p.me r s.vr p.own wx) ysb := ⟨hR2, Wd.keep HByb.2 (by rw [hK2.2]; exact Nat.le_refl _) (hK2.1 gw HGW.out)⟩
  have HG : Hid (ysb.heap[(w.heap.size + 1)]? = some (.cells #[.int .i64 p.me, .int .i64 p.ht, .string p.own, .int .i64 r, .int .i64 1, .string s.lk, .int .i64 s.lr, .string s.vv, .int .i64 s.vr, .slice a1 n1 c1, .int .i64 (p.n : Int), .int .i64 (p.t : Int), .slice a2 n2 c2, .bool false, .bool s.dn, .string s.dc] 34 (0, 0))) := hG2
  have HO2 : Hid (ysb.ownsRow w.heap.size 39 5 (.slice (some ⟨y6.heap.size, 0, none⟩) 1 1) 1 (wcs [⟨1, p.me, r, s.vr, p.own⟩])) := own_keep HO.out (fun k q => hK2.1 k (fun e => by injection q with q; have := HL.out; have q2 : y6.heap.size = k := q; omega))
  clear hR2 hG2 hK2
  skip
  refine hK.out _ _ ⟨HTysb, ?_⟩
  clear hK K
  try simp only [sx]
  refine takeH (i := 4) (v := ?ve4n1) ?hye4n1 HTysb ?reste4n1
  case hye4n1 => (intro wx hSx; go_simp; try with_reducible rfl)
  try simp only [sx]
  refine wpAnyH_done (by kernel_rfl) ?_ _
  refine NoPanic.normal ?_
  go_wp2_with fail
  rw [HB.out]
  refine bodyPost_ret (ret_two Try.results30 _ _ (w.heap.size + 1) 34 #[.int .i64 p.me, .int .i64 p.ht, .string p.own, .int .i64 r, .int .i64 1, .string s.lk, .int .i64 s.lr, .string s.vv, .int .i64 s.vr, .slice a1 n1 c1, .int .i64 (p.n : Int), .int .i64 (p.t : Int), .slice a2 n2 c2, .bool false, .bool s.dn, .string s.dc] (0, 0) rfl HG.out rfl) rfl ⟨_, _, _, (by rw [← HF.out]; rfl), HO2.out, HTysb.1.ext⟩
 ·refine wp_st34 (x := .tmp 4) (y := .tmp 39) rfl (cs' := #[.int .i64 p.me, .int .i64 p.ht, .string p.own, .int .i64 r, .int .i64 1, .string s.lk, .int .i64 s.lr, .string s.vv, .int .i64 s.vr, .slice a1 n1 c1, .int .i64 (p.n : Int), .int .i64 (p.t : Int), .slice a2 n2 c2, .bool false, .bool s.dn, .string s.dc]) rfl rfl HQ.1 rfl (by kernel_rfl) ?_
  intro ys hR2 hG2 _ hK2
  have HTys : (fun wx => R2 w w.heap.size #[.int .i64 p.me, .int .i64 p.ht, .string p.own, .int .i64 r, .int .i64 1, .string s.lk, .int .i64 s.lr, .string s.vv, .int .i64 s.vr, .slice a1 n1 c1, .int .i64 (p.n : Int), .int .i64 (p.t : Int), .slice a2 n2 c2, .bool false, .bool s.dn, .string s.dc] (w.heap.size + 1) wx ∧ Wd gw 1 p.me r s.vr p.own wx) ys := ⟨hR2, Wd.keep HQ.2 (by rw [hK2.2]; exact Nat.le_refl _) (hK2.1 gw HGW.out)⟩
  have HG : Hid (ys.heap[(w.heap.size + 1)]? = some (.cells #[.int .i64 p.me, .int .i64 p.ht, .string p.own, .int .i64 r, .int .i64 1, .string s.lk, .int .i64 s.lr, .string s.vv, .int .i64 s.vr, .slice a1 n1 c1, .int .i64 (p.n : Int), .int .i64 (p.t : Int), .slice a2 n2 c2, .bool false, .bool s.dn, .string s.dc] 34 (0, 0))) := hG2
  clear hR2 hG2 hK2
  skip
  refine hK.out _ _ ⟨HTys, ?_⟩
  clear hK K
  try simp only [sx]
  refine held_one (i := 2) (by kernel_rfl) rfl rfl (fun K hK => ?_)
  go_simp
  have HBybs : (fun wx => R2 w w.heap.size #[.int .i64 p.me, .int .i64 p.ht, .string p.own, .int .i64 r, .int .i64 1, .string s.lk, .int .i64 s.lr, .string s.vv, .int .i64 s.vr, .slice a1 n1 c1, .int .i64 (p.n : Int), .int .i64 (p.t : Int), .slice a2 n2 c2, .bool false, .bool s.dn, .string s.dc] (w.heap.size + 1) wx ∧ Wd gw 1 p.me r s.vr p.own wx) (ys.alloc (.cells #[.int .i64 1, .int .i64 p.me, .int .i64 r, .int .i64 s.vr, .string p.own] 39)) := ⟨HTys.1.further ((Ext.refl ys).alloc _), Wd.ext HTys.2 ((Ext.refl ys).alloc _)⟩
  have HO : Hid ((ys.alloc (.cells #[.int .i64 1, .int .i64 p.me, .int .i64 r, .int .i64 s.vr, .string p.own] 39)).ownsRow w.heap.size 39 5 (.slice (some ⟨ys.heap.size, 0, none⟩) 1 1) 1 (wcs [⟨1, p.me, r, s.vr, p.own⟩])) := own_base (own_one ys ⟨1, p.me, r, s.vr, p.own⟩) HTys.1.ext.size
  have HL : Hid ((w.heap.size + 1) < ys.heap.size) := by obtain ⟨z, _, q⟩ := HTys.1.b1; exact (Array.getElem?_eq_some_iff.1 q).1
  have HG2 : Hid ((ys.alloc (.cells #[.int .i64 1, .int .i64 p.me, .int .i64 r, .int .i64 s.vr, .string p.own] 39)).heap[(w.heap.size + 1)]? = some (.cells #[.int .i64 p.me, .int .i64 p.ht, .string p.own, .int .i64 r, .int .i64 1, .string s.lk, .int .i64 s.lr, .string s.vv, .int .i64 s.vr, .slice a1 n1 c1, .int .i64 (p.n : Int), .int .i64 (p.t : Int), .slice a2 n2 c2, .bool false, .bool s.dn, .string s.dc] 34 (0, 0))) := heap_old HG.out
  obtain ⟨ybs, hybs⟩ : ∃ y, ys.alloc (.cells #[.int .i64 1, .int .i64 p.me, .int .i64 r, .int .i64 s.vr, .string p.own] 39) = y := ⟨_, rfl⟩
  rw [hybs] at HBybs HO HG2 ⊢
  clear hybs
  try go_simp
  refine hK.out _ _ ⟨HBybs, ?_⟩
  clear hK K
  try simp only [sx]
  refine takeH (i := 4) (v := ?ve4n2) ?hye4n2 HBybs ?reste4n2
  case hye4n2 => (intro wx hSx; go_simp; try with_reducible rfl)
  try simp only [sx]
  refine wpAnyH_done (by kernel_rfl) ?_ _
  refine NoPanic.normal ?_
  go_wp2_with fail
  rw [HB.out]
  refine bodyPost_ret (ret_two Try.results30 _ _ (w.heap.size + 1) 34 #[.int .i64 p.me, .int .i64 p.ht, .string p.own, .int .i64 r, .int .i64 1, .string s.lk, .int .i64 s.lr, .string s.vv, .int .i64 s.vr, .slice a1 n1 c1, .int .i64 (p.n : Int), .int .i64 (p.t : Int), .slice a2 n2 c2, .bool false, .bool s.dn, .string s.dc] (0, 0) rfl HG2.out rfl) rfl ⟨_, _, _, (by rw [← HF.out]; rfl), HO.out, HBybs.1.ext⟩
set_option maxHeartbeats 4000000 in
theorem rbegin_val (p : Pm) (s : Ag) (a1 : Option Addr) (n1 c1 : Nat) (a2 : Option Addr) (n2 c2 : Nat) (r : Int) (h6 : r < 64) (hr : s.vr < r) (hle : leadA p.n p.ht r = p.me) (hv : ¬ s.vr < 0) (w : World) :
  Calls Try.prog 30 #[av p s a1 n1 c1 a2 n2 c2, .int .i64 r] w fun e w' => SayP p (beginA p s r).1 (beginA p s r).2 a1 n1 c1 a2 n2 c2 w e w' := by
 have HB : Hid (beginA p s r = ({ s with rd := r, st := 1 }, [⟨1, p.me, r, s.vr, s.vv⟩])) := by show _ = _; rw [begin_eq h6, if_pos hle, if_neg hv]
 have HF : Hid (fiveA { s with rd := r, st := 1 } = false) := decide_eq_false (fun q => by have : s.vr = r := q.2; omega)
 have d6 : decide ((64 : Int) ≤ r) = false := decide_eq_false (by omega)
 have ql : (leadA p.n p.ht r != p.me) = false := by simpa using hle
 have qv : decide (s.vr < 0) = false := decide_eq_false hv
 have HR : Hid (R2 w w.heap.size #[.int .i64 p.me, .int .i64 p.ht, .string p.own, .int .i64 r, .int .i64 1, .string s.lk, .int .i64 s.lr, .string s.vv, .int .i64 s.vr, .slice a1 n1 c1, .int .i64 (p.n : Int), .int .i64 (p.t : Int), .slice a2 n2 c2, .bool false, .bool s.dn, .string s.dc] (w.heap.size + 1) ((w.alloc (.cells #[.int .i64 p.me, .int .i64 p.ht, .string p.own, .int .i64 r, .int .i64 1, .string s.lk, .int .i64 s.lr, .string s.vv, .int .i64 s.vr, .slice a1 n1 c1, .int .i64 (p.n : Int), .int .i64 (p.t : Int), .slice a2 n2 c2, .bool false, .bool s.dn, .string s.dc] 34)).alloc (.cells #[.int .i64 0, .int .i64 0, .string ⟨#[]⟩, .int .i64 0, .int .i64 0, .string ⟨#[]⟩, .int .i64 0, .string ⟨#[]⟩, .int .i64 0, .slice none 0 0, .int .i64 0, .int .i64 0, .slice none 0 0, .bool false, .bool false, .string ⟨#[]⟩] 34))) := R2.new w _ _ rfl
 clear h6 hr hle hv
 go_enter Try.func30, Try.ntmps30
 go_wp2_with fail
 obtain ⟨W, hW⟩ : ∃ W, (w.alloc (.cells #[.int .i64 p.me, .int .i64 p.ht, .string p.own, .int .i64 r, .int .i64 1, .string s.lk, .int .i64 s.lr, .string s.vv, .int .i64 s.vr, .slice a1 n1 c1, .int .i64 (p.n : Int), .int .i64 (p.t : Int), .slice a2 n2 c2, .bool false, .bool s.dn, .string s.dc] 34)).alloc (.cells #[.int .i64 0, .int .i64 0, .string ⟨#[]⟩, .int .i64 0, .int .i64 0, .string ⟨#[]⟩, .int .i64 0, .string ⟨#[]⟩, .int .i64 0, .slice none 0 0, .int .i64 0, .int .i64 0, .slice none 0 0, .bool false, .bool false, .string ⟨#[]⟩] 34) = W := ⟨_, rfl⟩
 rw [hW] at HR ⊢
 clear hW
 refine wp_region_noPanic ?_
 refine wp_region_held (S := R2 w w.heap.size #[.int .i64 p.me, .int .i64 p.ht, .string p.own, .int .i64 r, .int .i64 1, .string s.lk, .int .i64 s.lr, .string s.vv, .int .i64 s.vr, .slice a1 n1 c1, .int .i64 (p.n : Int), .int .i64 (p.t : Int), .slice a2 n2 c2, .bool false, .bool s.dn, .string s.dc] (w.heap.size + 1)) (by kernel_rfl) ?_
 rw [show ({ W with drawn := W.drawn + 1 } : World) = W.drew from rfl]
 have HS3 := HR.out.further (Ext.refl W).drew
 generalize W.drew = y3 at *
 refine takeH (i := 0) (v := ?vb0) ?hyb0 HS3 ?restb0
 case hyb0 => (intro wx hSx; have e0 := (hSx.cell (j := 0) rfl).1; have e1 := (hSx.cell (j := 1) rfl).1; have e10 := (hSx.cell (j := 10) rfl).1; have el := (hSx.cell (j := 0) rfl).2; go_simp; try with_reducible rfl)
 try simp only [sx]
 refine takeH (i := 1) (v := ?vb1) ?hyb1 HS3 ?restb1
 case hyb1 => (intro wx hSx; have e0 := (hSx.cell (j := 0) rfl).1; have e1 := (hSx.cell (j := 1) rfl).1; have e10 := (hSx.cell (j := 10) rfl).1; have el := (hSx.cell (j := 0) rfl).2; go_simp; try with_reducible rfl)
 try simp only [sx]
 refine takeH (i := 2) (v := ?vb2) ?hyb2 HS3 ?restb2
 case hyb2 => (intro wx hSx; have e0 := (hSx.cell (j := 0) rfl).1; have e1 := (hSx.cell (j := 1) rfl).1; have e10 := (hSx.cell (j := 10) rfl).1; have el := (hSx.cell (j := 0) rfl).2; go_simp; try with_reducible rfl)
 try simp only [sx]
 refine takeH (i := 3) (v := ?vb3) ?hyb3 HS3 ?restb3
 case hyb3 => (intro wx hSx; have e0 := (hSx.cell (j := 0) rfl).1; have e1 := (hSx.cell (j := 1) rfl).1; have e10 := (hSx.cell (j := 10) rfl).1; have el := (hSx.cell (j := 0) rfl).2; go_simp; try with_reducible rfl)
 try simp only [sx]
 refine takeH (i := 4) (v := ?vb4) ?hyb4 HS3 ?restb4
 case hyb4 => (intro wx hSx; have e0 := (hSx.cell (j := 0) rfl).1; have e1 := (hSx.cell (j := 1) rfl).1; have e10 := (hSx.cell (j := 10) rfl).1; have el := (hSx.cell (j := 0) rfl).2; go_simp; try with_reducible rfl)
 try simp only [sx]
 refine takeH (i := 5) (v := ?vb5) ?hyb5 HS3 ?restb5
 case hyb5 => (intro wx hSx; have e0 := (hSx.cell (j := 0) rfl).1; have e1 := (hSx.cell (j := 1) rfl).1; have e10 := (hSx.cell (j := 10) rfl).1; have el := (hSx.cell (j := 0) rfl).2; go_simp; try with_reducible rfl)
 try simp only [sx]
 refine takeH (i := 7) (v := ?vb7) ?hyb7 HS3 ?restb7
 case hyb7 => (intro wx hSx; have e0 := (hSx.cell (j := 0) rfl).1; have e1 := (hSx.cell (j := 1) rfl).1; have e10 := (hSx.cell (j := 10) rfl).1; have el := (hSx.cell (j := 0) rfl).2; go_simp; try with_reducible rfl)
 try simp only [sx]
 refine takeH (i := 8) (v := ?vb8) ?hyb8 HS3 ?restb8
 case hyb8 => (intro wx hSx; have e0 := (hSx.cell (j := 0) rfl).1; have e1 := (hSx.cell (j := 1) rfl).1; have e10 := (hSx.cell (j := 10) rfl).1; have el := (hSx.cell (j := 0) rfl).2; go_simp; try with_reducible rfl)
 try simp only [sx]
 refine held_one (i := 6) (by kernel_rfl) rfl rfl (fun K hK => ?_)
 go_simp
 refine (rlead_any (p.n : Int) p.ht r _).mono ?_
 rintro e w3 ⟨rfl, ew⟩
 subst ew
 try go_simp
 refine hK.out _ _ ⟨HS3, ?_⟩
 clear hK K
 try simp only [sx]
 refine takeH (i := 9) (v := ?vb9) ?hyb9 HS3 ?restb9
 case hyb9 => (intro wx hSx; have e0 := (hSx.cell (j := 0) rfl).1; have e1 := (hSx.cell (j := 1) rfl).1; have e10 := (hSx.cell (j := 10) rfl).1; have el := (hSx.cell (j := 0) rfl).2; go_simp; try with_reducible rfl)
 try simp only [sx]
 refine wpAnyH_done (by kernel_rfl) ?_ _
 refine NoPanic.normal ?_
 obtain ⟨e0, el⟩ := HS3.cell (j := 0) rfl
 have e2 := (HS3.cell (j := 2) rfl).1
 have e7 := (HS3.cell (j := 7) rfl).1
 have e8 := (HS3.cell (j := 8) rfl).1
 go_wp2_with fail
 obtain ⟨y5, hy5⟩ : ∃ y, w3.alloc (.cells #[.int .i64 1, .int .i64 p.me, .int .i64 r, .int .i64 s.vr, .string s.vv] 39) = y := ⟨_, rfl⟩
 have HWd : Hid (Wd w3.heap.size 1 p.me r s.vr s.vv y5) := by rw [← hy5]; exact Wd.new w3 _ _ _ _ _
 have HR5 : Hid (R2 w w.heap.size #[.int .i64 p.me, .int .i64 p.ht, .string p.own, .int .i64 r, .int .i64 1, .string s.lk, .int .i64 s.lr, .string s.vv, .int .i64 s.vr, .slice a1 n1 c1, .int .i64 (p.n : Int), .int .i64 (p.t : Int), .slice a2 n2 c2, .bool false, .bool s.dn, .string s.dc] (w.heap.size + 1) y5) := by rw [← hy5]; exact HS3.further ((Ext.refl w3).alloc _)
 have HGW : Hid (w3.heap.size ≠ (w.heap.size + 1)) := by obtain ⟨z, _, q⟩ := HS3.b1; have := (Array.getElem?_eq_some_iff.1 q).1; exact fun e => by omega
 rw [hy5]
 clear hy5 e0 el e2 e7 e8
 generalize w3.heap.size = gw at *
 refine wp_region_noPanic ?_
 refine wp_region_held (S := fun wx => R2 w w.heap.size #[.int .i64 p.me, .int .i64 p.ht, .string p.own, .int .i64 r, .int .i64 1, .string s.lk, .int .i64 s.lr, .string s.vv, .int .i64 s.vr, .slice a1 n1 c1, .int .i64 (p.n : Int), .int .i64 (p.t : Int), .slice a2 n2 c2, .bool false, .bool s.dn, .string s.dc] (w.heap.size + 1) wx ∧ Wd gw 1 p.me r s.vr s.vv wx) (by kernel_rfl) ?_
 rw [show ({ y5 with drawn := y5.drawn + 1 } : World) = y5.drew from rfl]
 have HQ : (fun wx => R2 w w.heap.size #[.int .i64 p.me, .int .i64 p.ht, .string p.own, .int .i64 r, .int .i64 1, .string s.lk, .int .i64 s.lr, .string s.vv, .int .i64 s.vr, .slice a1 n1 c1, .int .i64 (p.n : Int), .int .i64 (p.t : Int), .slice a2 n2 c2, .bool false, .bool s.dn, .string s.dc] (w.heap.size + 1) wx ∧ Wd gw 1 p.me r s.vr s.vv wx) y5.drew := ⟨HR5.out.further (Ext.refl y5).drew, Wd.ext HWd.out (Ext.refl y5).drew⟩
 generalize y5.drew = y6 at *
 refine takeH (i := 0) (v := ?ve0) ?hye0 HQ ?reste0
 case hye0 => (intro wx hSx; refine ld34 (.tmp 2) ?_ w.heap.size ?_ #[.int .i64 p.me, .int .i64 p.ht, .string p.own, .int .i64 r, .int .i64 1, .string s.lk, .int .i64 s.lr, .string s.vv, .int .i64 s.vr, .slice a1 n1 c1, .int .i64 (p.n : Int), .int .i64 (p.t : Int), .slice a2 n2 c2, .bool false, .bool s.dn, .string s.dc] hSx.1.b0 rfl <;> rfl)
 try simp only [sx]
 refine takeH (i := 1) (v := ?ve1) ?hye1 HQ ?reste1
 case hye1 => (intro wx hSx; obtain ⟨_, x0, x1, x2, x3, x4, xl⟩ := hSx; go_simp; try with_reducible rfl)
 try simp only [sx]
 refine held_two (i := 2) (k := 3) (by kernel_rfl) rfl rfl rfl rfl (fun K hK => ?_) (fun K hK => ?_)
 ·go_simp
  have HByb : (fun wx => R2 w w.heap.size #[.int .i64 p.me, .int .i64 p.ht, .string p.own, .int .i64 r, .int .i64 1, .string s.lk, .int .i64 s.lr, .string s.vv, .int .i64 s.vr, .slice a1 n1 c1, .int .i64 (p.n : Int), .int .i64 (p.t : Int), .slice a2 n2 c2, .bool false, .bool s.dn, .string s.dc] (w.heap.size + 1) wx ∧ Wd gw 1 p.me r s.vr s.vv wx) (y6.alloc (.cells #[.int .i64 1, .int .i64 p.me, .int .i64 r, .int .i64 s.vr, .string s.vv] 39)) := ⟨HQ.1.further ((Ext.refl y6).alloc _), Wd.ext HQ.2 ((Ext.refl y6).alloc _)⟩
  have HO : Hid ((y6.alloc (.cells #[.int .i64 1, .int .i64 p.me, .int .i64 r, .int .i64 s.vr, .string s.vv] 39)).ownsRow w.heap.size 39 5 (.slice (some ⟨y6.heap.size, 0, none⟩) 1 1) 1 (wcs [⟨1, p.me, r, s.vr, s.vv⟩])) := own_base (own_one y6 ⟨1, p.me, r, s.vr, s.vv⟩) HQ.1.ext.size
  have HL : Hid ((w.heap.size + 1) < y6.heap.size) := by obtain ⟨z, _, q⟩ := HQ.1.b1; exact (Array.getElem?_eq_some_iff.1 q).1
  obtain ⟨yb, hyb⟩ : ∃ y, y6.alloc (.cells #[.int .i64 1, .int .i64 p.me, .int .i64 r, .int .i64 s.vr, .string s.vv] 39) = y := ⟨_, rfl⟩
  rw [hyb] at HByb HO ⊢
  clear hyb
  try go_simp
  refine hK.out _ _ ⟨HByb, ?_⟩
  clear hK K
  try simp only [sx]
  refine held_one (i := 3) (by kernel_rfl) rfl rfl (fun K hK => ?_)
  refine wp_st34 (x := .tmp 4) (y := .tmp 39) rfl (cs' := #[.int .i64 p.me, .int .i64 p.ht, .string p.own, .int .i64 r, .int .i64 1, .string s.lk, .int .i64 s.lr, .string s.vv, .int .i64 s.vr, .slice a1 n1 c1, .int .i64 (p.n : Int), .int .i64 (p.t : Int), .slice a2 n2 c2, .bool false, .bool s.dn, .string s.dc]) rfl rfl HByb.1 rfl (by kernel_rfl) ?_
  intro ysb hR2 hG2 _ hK2
  have HTysb : (fun wx => R2 w w.heap.size #[.int .i64 p.me, .int .i64 p.ht, .string p.own, .int .i64 r, .int .i64 1, .string s.lk, .int .i64 s.lr, .string s.vv, .int .i64 s.vr, .slice a1 n1 c1, .int .i64 (p.n : Int), .int .i64 (p.t : Int), .slice a2 n2 c2, .bool false, .bool s.dn, .string s.dc] (w.heap.size + 1) wx ∧ Wd gw 1 p.me r s.vr s.vv wx) ysb := ⟨hR2, Wd.keep HByb.2 (by rw [hK2.2]; exact Nat.le_refl _) (hK2.1 gw HGW.out)⟩
  have HG : Hid (ysb.heap[(w.heap.size + 1)]? = some (.cells #[.int .i64 p.me, .int .i64 p.ht, .string p.own, .int .i64 r, .int .i64 1, .string s.lk, .int .i64 s.lr, .string s.vv, .int .i64 s.vr, .slice a1 n1 c1, .int .i64 (p.n : Int), .int .i64 (p.t : Int), .slice a2 n2 c2, .bool false, .bool s.dn, .string s.dc] 34 (0, 0))) := hG2
  have HO2 : Hid (ysb.ownsRow w.heap.size 39 5 (.slice (some ⟨y6.heap.size, 0, none⟩) 1 1) 1 (wcs [⟨1, p.me, r, s.vr, s.vv⟩])) := own_keep HO.out (fun k q => hK2.1 k (fun e => by injection q with q; have := HL.out; have q2 : y6.heap.size = k := q; omega))
  clear hR2 hG2 hK2
  skip
  refine hK.out _ _ ⟨HTysb, ?_⟩
  clear hK K
  try simp only [sx]
  refine takeH (i := 4) (v := ?ve4n1) ?hye4n1 HTysb ?reste4n1
  case hye4n1 => (intro wx hSx; go_simp; try with_reducible rfl)
  try simp only [sx]
  refine wpAnyH_done (by kernel_rfl) ?_ _
  refine NoPanic.normal ?_
  go_wp2_with fail
  rw [HB.out]
  refine bodyPost_ret (ret_two Try.results30 _ _ (w.heap.size + 1) 34 #[.int .i64 p.me, .int .i64 p.ht, .string p.own, .int .i64 r, .int .i64 1, .string s.lk, .int .i64 s.lr, .string s.vv, .int .i64 s.vr, .slice a1 n1 c1, .int .i64 (p.n : Int), .int .i64 (p.t : Int), .slice a2 n2 c2, .bool false, .bool s.dn, .string s.dc] (0, 0) rfl HG.out rfl) rfl ⟨_, _, _, (by rw [← HF.out]; rfl), HO2.out, HTysb.1.ext⟩
 ·refine wp_st34 (x := .tmp 4) (y := .tmp 39) rfl (cs' := #[.int .i64 p.me, .int .i64 p.ht, .string p.own, .int .i64 r, .int .i64 1, .string s.lk, .int .i64 s.lr, .string s.vv, .int .i64 s.vr, .slice a1 n1 c1, .int .i64 (p.n : Int), .int .i64 (p.t : Int), .slice a2 n2 c2, .bool false, .bool s.dn, .string s.dc]) rfl rfl HQ.1 rfl (by kernel_rfl) ?_
  intro ys hR2 hG2 _ hK2
  have HTys : (fun wx => R2 w w.heap.size #[.int .i64 p.me, .int .i64 p.ht, .string p.own, .int .i64 r, .int .i64 1, .string s.lk, .int .i64 s.lr, .string s.vv, .int .i64 s.vr, .slice a1 n1 c1, .int .i64 (p.n : Int), .int .i64 (p.t : Int), .slice a2 n2 c2, .bool false, .bool s.dn, .string s.dc] (w.heap.size + 1) wx ∧ Wd gw 1 p.me r s.vr s.vv wx) ys := ⟨hR2, Wd.keep HQ.2 (by rw [hK2.2]; exact Nat.le_refl _) (hK2.1 gw HGW.out)⟩
  have HG : Hid (ys.heap[(w.heap.size + 1)]? = some (.cells #[.int .i64 p.me, .int .i64 p.ht, .string p.own, .int .i64 r, .int .i64 1, .string s.lk, .int .i64 s.lr, .string s.vv, .int .i64 s.vr, .slice a1 n1 c1, .int .i64 (p.n : Int), .int .i64 (p.t : Int), .slice a2 n2 c2, .bool false, .bool s.dn, .string s.dc] 34 (0, 0))) := hG2
  clear hR2 hG2 hK2
  skip
  refine hK.out _ _ ⟨HTys, ?_⟩
  clear hK K
  try simp only [sx]
  refine held_one (i := 2) (by kernel_rfl) rfl rfl (fun K hK => ?_)
  go_simp
  have HBybs : (fun wx => R2 w w.heap.size #[.int .i64 p.me, .int .i64 p.ht, .string p.own, .int .i64 r, .int .i64 1, .string s.lk, .int .i64 s.lr, .string s.vv, .int .i64 s.vr, .slice a1 n1 c1, .int .i64 (p.n : Int), .int .i64 (p.t : Int), .slice a2 n2 c2, .bool false, .bool s.dn, .string s.dc] (w.heap.size + 1) wx ∧ Wd gw 1 p.me r s.vr s.vv wx) (ys.alloc (.cells #[.int .i64 1, .int .i64 p.me, .int .i64 r, .int .i64 s.vr, .string s.vv] 39)) := ⟨HTys.1.further ((Ext.refl ys).alloc _), Wd.ext HTys.2 ((Ext.refl ys).alloc _)⟩
  have HO : Hid ((ys.alloc (.cells #[.int .i64 1, .int .i64 p.me, .int .i64 r, .int .i64 s.vr, .string s.vv] 39)).ownsRow w.heap.size 39 5 (.slice (some ⟨ys.heap.size, 0, none⟩) 1 1) 1 (wcs [⟨1, p.me, r, s.vr, s.vv⟩])) := own_base (own_one ys ⟨1, p.me, r, s.vr, s.vv⟩) HTys.1.ext.size
  have HL : Hid ((w.heap.size + 1) < ys.heap.size) := by obtain ⟨z, _, q⟩ := HTys.1.b1; exact (Array.getElem?_eq_some_iff.1 q).1
  have HG2 : Hid ((ys.alloc (.cells #[.int .i64 1, .int .i64 p.me, .int .i64 r, .int .i64 s.vr, .string s.vv] 39)).heap[(w.heap.size + 1)]? = some (.cells #[.int .i64 p.me, .int .i64 p.ht, .string p.own, .int .i64 r, .int .i64 1, .string s.lk, .int .i64 s.lr, .string s.vv, .int .i64 s.vr, .slice a1 n1 c1, .int .i64 (p.n : Int), .int .i64 (p.t : Int), .slice a2 n2 c2, .bool false, .bool s.dn, .string s.dc] 34 (0, 0))) := heap_old HG.out
  obtain ⟨ybs, hybs⟩ : ∃ y, ys.alloc (.cells #[.int .i64 1, .int .i64 p.me, .int .i64 r, .int .i64 s.vr, .string s.vv] 39) = y := ⟨_, rfl⟩
  rw [hybs] at HBybs HO HG2 ⊢
  clear hybs
  try go_simp
  refine hK.out _ _ ⟨HBybs, ?_⟩
  clear hK K
  try simp only [sx]
  refine takeH (i := 4) (v := ?ve4n2) ?hye4n2 HBybs ?reste4n2
  case hye4n2 => (intro wx hSx; go_simp; try with_reducible rfl)
  try simp only [sx]
  refine wpAnyH_done (by kernel_rfl) ?_ _
  refine NoPanic.normal ?_
  go_wp2_with fail
  rw [HB.out]
  refine bodyPost_ret (ret_two Try.results30 _ _ (w.heap.size + 1) 34 #[.int .i64 p.me, .int .i64 p.ht, .string p.own, .int .i64 r, .int .i64 1, .string s.lk, .int .i64 s.lr, .string s.vv, .int .i64 s.vr, .slice a1 n1 c1, .int .i64 (p.n : Int), .int .i64 (p.t : Int), .slice a2 n2 c2, .bool false, .bool s.dn, .string s.dc] (0, 0) rfl HG2.out rfl) rfl ⟨_, _, _, (by rw [← HF.out]; rfl), HO.out, HBybs.1.ext⟩
theorem rbegin_any (p : Pm) (s : Ag) (a1 : Option Addr) (n1 c1 : Nat) (a2 : Option Addr) (n2 c2 : Nat) (r : Int) (hr : s.vr < r) (w : World) :
  Calls Try.prog 30 #[av p s a1 n1 c1 a2 n2 c2, .int .i64 r] w fun e w' => SayP p (beginA p s r).1 (beginA p s r).2 a1 n1 c1 a2 n2 c2 w e w' := by
 by_cases h6 : 64 ≤ r
 ·exact rbegin_high p s a1 n1 c1 a2 n2 c2 r h6 w
 by_cases hle : leadA p.n p.ht r = p.me
 ·by_cases hv : s.vr < 0
  ·exact rbegin_own p s a1 n1 c1 a2 n2 c2 r (by omega) hr hle hv w
  ·exact rbegin_val p s a1 n1 c1 a2 n2 c2 r (by omega) hr hle hv w
 ·exact rbegin_no p s a1 n1 c1 a2 n2 c2 r (by omega) hr hle w
set_option maxHeartbeats 4000000 in
theorem rstart_any (p : Pm) (s : Ag) (a1 : Option Addr) (n1 c1 : Nat) (a2 : Option Addr) (n2 c2 : Nat) (h0 : ¬ 0 ≤ s.rd) (hv : s.vr < 0) (w : World) :
  Calls Try.prog 15 #[av p s a1 n1 c1 a2 n2 c2] w fun e w' => SayP p (startA p s).1 (startA p s).2 a1 n1 c1 a2 n2 c2 w e w' := by
 have HB : Hid (startA p s = beginA p s 0) := if_neg h0
 have d0 : decide ((0 : Int) ≤ s.rd) = false := decide_eq_false h0
 have HR : Hid (R2 w w.heap.size #[.int .i64 p.me, .int .i64 p.ht, .string p.own, .int .i64 s.rd, .int .i64 s.st, .string s.lk, .int .i64 s.lr, .string s.vv, .int .i64 s.vr, .slice a1 n1 c1, .int .i64 (p.n : Int), .int .i64 (p.t : Int), .slice a2 n2 c2, .bool (fiveA s), .bool s.dn, .string s.dc] (w.heap.size + 1) ((w.alloc (.cells #[.int .i64 p.me, .int .i64 p.ht, .string p.own, .int .i64 s.rd, .int .i64 s.st, .string s.lk, .int .i64 s.lr, .string s.vv, .int .i64 s.vr, .slice a1 n1 c1, .int .i64 (p.n : Int), .int .i64 (p.t : Int), .slice a2 n2 c2, .bool (fiveA s), .bool s.dn, .string s.dc] 34)).alloc (.cells #[.int .i64 0, .int .i64 0, .string ⟨#[]⟩, .int .i64 0, .int .i64 0, .string ⟨#[]⟩, .int .i64 0, .string ⟨#[]⟩, .int .i64 0, .slice none 0 0, .int .i64 0, .int .i64 0, .slice none 0 0, .bool false, .bool false, .string ⟨#[]⟩] 34))) := R2.new w _ _ rfl
 have HC : Hid (∀ wx, Calls Try.prog 30 #[av p s a1 n1 c1 a2 n2 c2, .int .i64 0] wx fun e w' => SayP p (beginA p s 0).1 (beginA p s 0).2 a1 n1 c1 a2 n2 c2 wx e w') := fun wx => rbegin_any p s a1 n1 c1 a2 n2 c2 0 hv wx
 clear h0 hv
 go_enter Try.func15, Try.ntmps15
 go_upto_region 3 with fail
 obtain ⟨W, hW⟩ : ∃ W, (w.alloc (.cells #[.int .i64 p.me, .int .i64 p.ht, .string p.own, .int .i64 s.rd, .int .i64 s.st, .string s.lk, .int .i64 s.lr, .string s.vv, .int .i64 s.vr, .slice a1 n1 c1, .int .i64 (p.n : Int), .int .i64 (p.t : Int), .slice a2 n2 c2, .bool (fiveA s), .bool s.dn, .string s.dc] 34)).alloc (.cells #[.int .i64 0, .int .i64 0, .string ⟨#[]⟩, .int .i64 0, .int .i64 0, .string ⟨#[]⟩, .int .i64 0, .string ⟨#[]⟩, .int .i64 0, .slice none 0 0, .int .i64 0, .int .i64 0, .slice none 0 0, .bool false, .bool false, .string ⟨#[]⟩] 34) = W := ⟨_, rfl⟩
 rw [hW] at HR ⊢
 clear hW
 have hB := HR.out.b0
 refine wp_region_lit ?_
 refine wl_ld34 rfl rfl rfl hB rfl ?_
 try simp only [sx]
 clear hB
 go_wp2_with fail
 refine (HC.out _).mono ?_
 rintro e w1 ⟨a, n, c, rfl, ho, hx⟩
 have hR := HR.out.further hx
 have HO : Hid (w1.ownsRow w.heap.size 39 5 (.slice a n c) (beginA p s 0).2.length (wcs (beginA p s 0).2)) := own_base ho HR.out.ext.size
 have HU : Hid (∀ k, (Value.slice a n c).ownBlock = some k → k ≠ (w.heap.size + 1)) := fun k q e => by
  have := (ho.lt k q).1
  obtain ⟨z, _, qq⟩ := HR.out.b1
  have := (Array.getElem?_eq_some_iff.1 qq).1
  omega
 clear ho hx
 dsimp only
 refine (‹Shut (∀ a w, wpList _ _ _ _ a w → _)›).out _ _ ?_
 refine wpList_plain rfl fun K hK => ?_
 go_simp
 refine hK _ _ ?_
 clear hK K
 refine wpList_plain rfl fun K hK => ?_
 go_simp
 refine hK _ _ ?_
 clear hK K
 refine wl_st34 rfl rfl rfl rfl hR rfl (by kernel_rfl) ?_
 intro W' hR' hG' hB' hK'
 try simp only [sx]
 go_wp2_with fail
 rw [HB.out]
 refine bodyPost_ret (ret_two Try.results15 _ _ (w.heap.size + 1) 34 _ (0, 0) rfl hG' rfl) rfl ⟨_, _, _, rfl, own_keep HO.out (fun k q => hK'.1 k (HU.out k q)), hR'.ext⟩
end Go.Proofs.Ytmanacbdldfmfaa
