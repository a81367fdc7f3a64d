/-
  A letter is put under way: send, called.
  What is said goes to all: spread, called.
-/
import Derived.Test.YtkfpmjepeikpjaaCoA
import Derived.Test.YtkfpmjepeikpjaaTill
namespace Go.Proofs.Ytkfpmjepeikpjaa
open Go.RowKit Go.Maps
set_option maxRecDepth 10000
theorem app46 (w : World) {o : Oper} {a : Act} {K : Act → World → Prop} {Q : Exit → Act → World → Prop} (s x : Operand) (ho : o.op = .call { callee := .builtin .append, args := #[s, x], argTypes := #[46, 46] }) (base : Nat)
  (v : Value) (n : Nat) (xs : List Value) (hs : a.eval s = v) (hown : w.ownsRow base 57 6 v n xs) (u : Value) (m : Nat) (news : List Value) (hx : a.eval x = u) (hu : SlV w u m news) (hl : news.length = m * 6) (h1 : ∀ u ∈ news, u.oneCell' = true) (hn : n + m ≤ 100000) (hbase : base ≤ w.heap.size)
  (h : ∀ v' w', w'.ownsRow base 57 6 v' (n + m) (xs ++ news) → w.grownBy w' v.ownBlock → (v'.ownBlock = v.ownBlock ∨ v'.ownBlock = some w.heap.size) → K (a.put o.dst v') w') : o.wp Try.prog a w K Q := by
 obtain ⟨i, h2, h3, h4, h5⟩ := info_split info57l
 exact wp_app w s x 46 ho base 57 i _ 6 56 Try.underlying46 h2 h3 h4 h5 rfl (by decide) v n xs hs hown u m news hx hu hl h1 (by simp only [maxLen]; omega) (by omega) hbase h
theorem cx_post {w W W1 W0 : World} {cb mb mn : Nat} {q : Cp} {nd : List Ag} {wy wy' : List (Nat × Vt)} {lv : Nat → Bool} {dec : Nat → ByteArray} {M M' : Value} {P lab : Nat → Nat} {F : Nat → Prop} (h : CO w W cb mb q nd wy mn lv dec M P lab) (hs : W0.heap.size ≤ W.heap.size) (hf : ∀ k, F k → k < W0.heap.size ∧ lab k = 0 ∧ W.heap[k]? = W0.heap[k]?)
  (hg : W.grownBy W1 M.ownBlock) (hm : W1.ownsRow w.heap.size 57 6 M' wy'.length (lcs wy')) (ho : M'.ownBlock = M.ownBlock ∨ M'.ownBlock = some W.heap.size) (hc : wy'.length ≤ 4096) : CX w cb q nd wy' mn lv dec P F W0 (W1.setCell ⟨cb, 10, none⟩ M') := by
 obtain ⟨h1, h2⟩ := h.post hg hm ho hc
 refine ⟨mb, M', _, h1, by simpa using Nat.le_trans hs hg.size, fun k hk => ?_⟩
 obtain ⟨a, b, c⟩ := hf k hk
 obtain ⟨d, e⟩ := h2 k (Nat.lt_of_lt_of_le a hs) b
 exact ⟨a, d, e.trans c⟩
theorem one6 (k kd fr rd va : Int) (vl : ByteArray) : ∀ u ∈ ([.int .i64 k, .int .i64 kd, .int .i64 fr, .int .i64 rd, .int .i64 va, .string vl] : List Value), u.oneCell' = true := by
 intro u hu
 simp at hu
 rcases hu with rfl | rfl | rfl | rfl | rfl | rfl <;> rfl
section
variable {w W W0 : World} {cb mn : Nat} {q : Cp} {nd : List Ag} {wy : List (Nat × Vt)} {lv : Nat → Bool} {dec : Nat → ByteArray} {P : Nat → Nat} {F : Nat → Prop}
theorem send_full (h : CX w cb q nd wy mn lv dec P F W0 W) (k : Nat) (m : Vt) (hn : ¬ wy.length < 4096) : Calls Try.prog 25 #[.pointer (some ⟨cb, 0, none⟩), .int .i64 (k : Int), wv m] W fun e w' => e = .returned (.tuple #[]) ∧ CX w cb q nd ((wy ++ [(k, m)]).take 4096) mn lv dec P F W0 w' := by
 have hcap := h.cap
 have e : (wy ++ [(k, m)]).take 4096 = wy := by rw [List.take_append_of_le_length (by omega), List.take_of_length_le hcap]
 rw [e]
 have HF : Hid (CX w cb q nd wy mn lv dec P F W0 (W.alloc (.cells #[.int .i64 m.kd, .int .i64 m.fr, .int .i64 m.rd, .int .i64 m.va, .string m.vl] 32))) := h.ext ((Ext.refl W).alloc _)
 obtain ⟨mb, M, lab, hc, _, _⟩ := h
 obtain ⟨a, c, _, c10⟩ := hc.mcell
 have hb := hc.blk.1
 have hlt : ¬ (wy.length : Int) < 4096 := by omega
 generalize wy.length = n at *
 clear hc e hcap hn
 go_enter Try.func25, Try.ntmps25
 go_wp2
 refine bodyPost_end (v := .tuple #[]) (by simp [results, Try.results25, go_sem]) rfl ⟨rfl, HF.out⟩
set_option maxHeartbeats 2000000 in
theorem send_room (h : CX w cb q nd wy mn lv dec P F W0 W) (k : Nat) (m : Vt) (hn : wy.length < 4096) : Calls Try.prog 25 #[.pointer (some ⟨cb, 0, none⟩), .int .i64 (k : Int), wv m] W fun e w' => e = .returned (.tuple #[]) ∧ CX w cb q nd ((wy ++ [(k, m)]).take 4096) mn lv dec P F W0 w' := by
 have e : (wy ++ [(k, m)]).take 4096 = wy ++ [(k, m)] := List.take_of_length_le (by simp; omega)
 rw [e]
 obtain ⟨mb, M, lab, hc, hs, hf⟩ := h
 obtain ⟨X, hX⟩ : ∃ X, W.alloc (.cells #[.int .i64 m.kd, .int .i64 m.fr, .int .i64 m.rd, .int .i64 m.va, .string m.vl] 32) = X := ⟨_, rfl⟩
 have hx : Ext W X := by rw [← hX]; exact (Ext.refl W).alloc _
 have hB : Blk X W.heap.size 5 (fun j => (#[.int .i64 m.kd, .int .i64 m.fr, .int .i64 m.rd, .int .i64 m.va, .string m.vl] : Array Value).getD j undef) := by
  rw [← hX]
  refine Blk.new W _ 32 fun j hj => ?_
  match j, hj with
  | 0, _ => rfl
  | 1, _ => rfl
  | 2, _ => rfl
  | 3, _ => rfl
  | 4, _ => rfl
 have hc1 := hc.ext hx
 obtain ⟨a, c, eM, c10⟩ := hc1.mcell
 subst eM
 have hb := hc1.blk.1
 have hbW : W.heap.size ≠ cb := Nat.ne_of_gt hc.blk.1
 obtain ⟨bx, hbx⟩ : ∃ bx, W.heap.size = bx := ⟨_, rfl⟩
 rw [hbx] at hB hbW
 have hlt : (wy.length : Int) < 4096 := by omega
 have HN : Hid (wy.length < 4096) := hn
 have HCO : Hid (CO w X cb mb q nd wy mn lv dec (.slice a wy.length c) P lab) := hc1
 have HF0 : Hid (W0.heap.size ≤ X.heap.size ∧ ∀ k, F k → k < W0.heap.size ∧ lab k = 0 ∧ X.heap[k]? = W0.heap[k]?) := ⟨Nat.le_trans hs hx.size, fun k hk => by
  obtain ⟨a, b, c⟩ := hf k hk
  exact ⟨a, b, (Below.block hx k (Nat.lt_of_lt_of_le a hs)).trans c⟩⟩
 have nbx : ¬ (Value.slice a wy.length c).ownBlock = some bx := fun z => by have := (hc.mail.lt _ z).2; omega
 have ncb : ¬ (Value.slice a wy.length c).ownBlock = some cb := fun z => by have := hc1.lr _ z; have := hc1.lc; omega
 have HC : Hid (∀ wx, Chg (fun k => (Value.slice a wy.length c).ownBlock = some k) X wx → cb < wx.heap.size ∧ bx < wx.heap.size ∧ wx.cell? ⟨cb, 10, none⟩ = some (.slice a wy.length c) ∧ wx.cell? ⟨bx, 0, none⟩ = some (.int .i64 m.kd) ∧ wx.cell? ⟨bx, 1, none⟩ = some (.int .i64 m.fr) ∧ wx.cell? ⟨bx, 2, none⟩ = some (.int .i64 m.rd) ∧ wx.cell? ⟨bx, 3, none⟩ = some (.int .i64 m.va) ∧ wx.cell? ⟨bx, 4, none⟩ = some (.string m.vl) ∧ wx.frozen? ⟨cb, 10, none⟩ = false) := fun wx hx => by
  exact ⟨Nat.lt_of_lt_of_le hb hx.size, Nat.lt_of_lt_of_le hB.1 hx.size, (hx.cell hb ncb).trans c10, (hx.cell hB.1 nbx).trans (hB.2 0 (by decide)).1, (hx.cell hB.1 nbx).trans (hB.2 1 (by decide)).1, (hx.cell hB.1 nbx).trans (hB.2 2 (by decide)).1, (hx.cell hB.1 nbx).trans (hB.2 3 (by decide)).1, (hx.cell hB.1 nbx).trans (hB.2 4 (by decide)).1, (hx.frozen hb ncb).trans (hc1.blk.2 10 (by decide)).2⟩
 clear hc hc1 hs hf e hB nbx ncb hn hbW hx
 obtain ⟨n, hnn⟩ : ∃ n, wy.length = n := ⟨_, rfl⟩
 rw [hnn] at HC HCO c10 hlt HN
 go_enter Try.func25, Try.ntmps25
 go_wp2_with fail
 clear hX hbx
 refine wp_region_noPanic ?_
 refine wp_region_until (X := 10) (S := Chg (fun k => (Value.slice a n c).ownBlock = some k) X) (by kernel_rfl) ?_
 have HS : Chg (fun k => (Value.slice a n c).ownBlock = some k) X X.drew := (Chg.refl _ X).drew
 have HE : Hid (Ext X X.drew) := (Ext.refl X).drew
 clear c10
 obtain ⟨y1, hy1⟩ : ∃ y1, X.drew = y1 := ⟨_, rfl⟩
 rw [hy1] at HS HE ⊢
 clear hy1
 refine takeT [10, 11, 12] (i := 0) (v := ?vs0) ?hys0 HS ?rests0
 case hys0 => (intro wx hSw; obtain ⟨l1, l2, q0, p0, p1, p2, p3, p4, _⟩ := HC.out _ hSw; go_simp; try with_reducible rfl)
 try simp only [sx]
 refine takeT [10, 11, 12] (i := 1) (v := ?vs1) ?hys1 HS ?rests1
 case hys1 => (intro wx hSw; obtain ⟨l1, l2, q0, p0, p1, p2, p3, p4, _⟩ := HC.out _ hSw; go_simp; try with_reducible rfl)
 try simp only [sx]
 refine takeT [10, 11, 12] (i := 2) (v := ?vs2) ?hys2 HS ?rests2
 case hys2 => (intro wx hSw; obtain ⟨l1, l2, q0, p0, p1, p2, p3, p4, _⟩ := HC.out _ hSw; go_simp; try with_reducible rfl)
 try simp only [sx]
 refine takeT [10, 11, 12] (i := 3) (v := ?vs3) ?hys3 HS ?rests3
 case hys3 => (intro wx hSw; obtain ⟨l1, l2, q0, p0, p1, p2, p3, p4, _⟩ := HC.out _ hSw; go_simp; try with_reducible rfl)
 try simp only [sx]
 refine takeT [10, 11, 12] (i := 4) (v := ?vs4) ?hys4 HS ?rests4
 case hys4 => (intro wx hSw; obtain ⟨l1, l2, q0, p0, p1, p2, p3, p4, _⟩ := HC.out _ hSw; go_simp; try with_reducible rfl)
 try simp only [sx]
 refine takeT [10, 11, 12] (i := 5) (v := ?vs5) ?hys5 HS ?rests5
 case hys5 => (intro wx hSw; obtain ⟨l1, l2, q0, p0, p1, p2, p3, p4, _⟩ := HC.out _ hSw; go_simp; try with_reducible rfl)
 try simp only [sx]
 refine takeT [10, 11, 12] (i := 6) (v := ?vs6) ?hys6 HS ?rests6
 case hys6 => (intro wx hSw; obtain ⟨l1, l2, q0, p0, p1, p2, p3, p4, _⟩ := HC.out _ hSw; go_simp; try with_reducible rfl)
 try simp only [sx]
 refine takeT [10, 11, 12] (i := 7) (v := ?vs7) ?hys7 HS ?rests7
 case hys7 => (intro wx hSw; obtain ⟨l1, l2, q0, p0, p1, p2, p3, p4, _⟩ := HC.out _ hSw; go_simp; try with_reducible rfl)
 try simp only [sx]
 refine until_one (i := 8) (by kernel_rfl) (by kernel_rfl) rfl rfl (fun K hK => ?_)
 go_simp
 have HS2 := HS.alloc (.cells #[.int .i64 (k : Int), .int .i64 m.kd, .int .i64 m.fr, .int .i64 m.rd, .int .i64 m.va, .string m.vl] 57)
 have HE2 : Hid (Ext X (y1.alloc (.cells #[.int .i64 (k : Int), .int .i64 m.kd, .int .i64 m.fr, .int .i64 m.rd, .int .i64 m.va, .string m.vl] 57))) := HE.out.alloc _
 have HU : Hid (SlV (y1.alloc (.cells #[.int .i64 (k : Int), .int .i64 m.kd, .int .i64 m.fr, .int .i64 m.rd, .int .i64 m.va, .string m.vl] 57)) (.slice (some ⟨y1.heap.size, 0, none⟩) 1 1) 1 [.int .i64 (k : Int), .int .i64 m.kd, .int .i64 m.fr, .int .i64 m.rd, .int .i64 m.va, .string m.vl]) := slv_new y1 _ 57 1 1 rfl
 generalize y1.alloc (.cells #[.int .i64 (k : Int), .int .i64 m.kd, .int .i64 m.fr, .int .i64 m.rd, .int .i64 m.va, .string m.vl] 57) = y2 at *
 try go_simp
 refine hK.out _ _ HS2 ?_
 clear hK K
 try simp only [sx]
 refine until_one (i := 9) (by kernel_rfl) (by kernel_rfl) rfl rfl (fun K hK => ?_)
 have HCO2 : Hid (CO w y2 cb mb q nd wy mn lv dec (.slice a n c) P lab) := HCO.out.ext HE2.out
 refine app46 y2 (.tmp 16) (.tmp 20) rfl w.heap.size (.slice a n c) n (lcs wy) rfl (by have := HCO2.out.mail; rw [hnn] at this; exact this) _ 1 [.int .i64 (k : Int), .int .i64 m.kd, .int .i64 m.fr, .int .i64 m.rd, .int .i64 m.va, .string m.vl] rfl HU.out rfl (one6 _ _ _ _ _ _) (by have := HN.out; omega) HCO2.out.old.size ?_
 intro u' y3 hown hgr hu'
 have HS3 : Chg (fun k => (Value.slice a n c).ownBlock = some k) X y3 := HS2.grown hgr (fun k q => .inl q)
 have HF : Hid (CX w cb q nd (wy ++ [(k, m)]) mn lv dec P F W0 (y3.setCell ⟨cb, 10, none⟩ u')) := cx_post HCO2.out (Nat.le_trans HF0.out.1 HE2.out.size) (fun k hk => by
  obtain ⟨a, b, c⟩ := HF0.out.2 k hk
  exact ⟨a, b, (Below.block HE2.out k (Nat.lt_of_lt_of_le a HF0.out.1)).trans c⟩) hgr (by rw [lcs_app, List.length_append, hnn]; exact hown) hu' (by rw [List.length_append, hnn]; exact HN.out)
 obtain ⟨pa', n', cap', eu⟩ : ∃ a n cap, u' = .slice a n cap := by obtain ⟨a, c, e⟩ := own_len hown; exact ⟨a, _, c, e⟩
 subst eu
 obtain ⟨l1, _, q1, _, _, _, _, _, fz⟩ := HC.out _ HS3
 refine hK.out _ _ HS3 ?_
 clear hK K
 try simp only [sx]
 refine till_stop (by kernel_rfl) ?_
 refine takeN (i := 10) (v := ?vs10) ?hys10 ?rests10
 case hys10 => (intro wx; go_simp; try with_reducible rfl)
 try simp only [sx]
 refine takeN (i := 11) (v := ?vs11) ?hys11 ?rests11
 case hys11 => (intro wx; go_simp; try with_reducible rfl)
 try simp only [sx]
 refine any_one (i := 12) (by kernel_rfl) rfl rfl (fun K hK => ?_)
 go_simp
 refine hK.out _ _ ?_
 clear hK K
 try simp only [sx]
 refine wpAny_done (by kernel_rfl) ?_ _
 refine NoPanic.normal ?_
 go_wp2
 refine bodyPost_end (v := .tuple #[]) (by simp [results, Try.results25, go_sem]) rfl ⟨rfl, HF.out⟩
theorem send_any (h : CX w cb q nd wy mn lv dec P F W0 W) (k : Nat) (m : Vt) : Calls Try.prog 25 #[.pointer (some ⟨cb, 0, none⟩), .int .i64 (k : Int), wv m] W fun e w' => e = .returned (.tuple #[]) ∧ CX w cb q nd ((wy ++ [(k, m)]).take 4096) mn lv dec P F W0 w' := by
 by_cases hn : wy.length < 4096
 · exact send_room h k m hn
 · exact send_full h k m hn
end
end Go.Proofs.Ytkfpmjepeikpjaa
namespace Go.Proofs.Ytkfpmjepeikpjaa
open Go.RowKit Go.Maps
set_option maxRecDepth 10000
theorem take_snoc {α : Type} (l : List α) (x : α) (n : Nat) : (l.take n ++ [x]).take n = (l ++ [x]).take n := by
 by_cases h : l.length ≤ n
 · rw [List.take_of_length_le h]
 · rw [List.take_append_of_le_length (by rw [List.length_take]; omega), List.take_take, Nat.min_self, List.take_append_of_le_length (by omega)]
/-- What is under way, with more of what is said. -/
def mdC (H : Nat) (wy : List (Nat × Vt)) (l : List Vt) (m : Vt) (i : Nat) : List (Nat × Vt) := (wy ++ (allC H l ++ (List.range i).map fun k => (k + 1, m))).take 4096
theorem md_step (H : Nat) (wy : List (Nat × Vt)) (l : List Vt) (m : Vt) (i : Nat) : (mdC H wy l m i ++ [(i + 1, m)]).take 4096 = mdC H wy l m (i + 1) := by
 unfold mdC
 rw [take_snoc, List.range_succ, List.map_append]
 simp
theorem md_zero (H : Nat) (wy : List (Nat × Vt)) (l : List Vt) (m : Vt) : mdC H wy l m 0 = sayC H wy l := by unfold mdC sayC; simp
theorem md_all (H : Nat) (wy : List (Nat × Vt)) (l : List Vt) (m : Vt) : mdC H wy l m H = sayC H wy (l ++ [m]) := by
 unfold mdC sayC
 unfold allC
 rw [List.flatMap_append]
 simp
section
variable {w W W0 : World} {cb mn : Nat} {q : Cp} {nd : List Ag} {wy : List (Nat × Vt)} {lv : Nat → Bool} {dec : Nat → ByteArray} {P : Nat → Nat} {F : Nat → Prop}
theorem CX.back {F' : Nat → Prop} {W5 W'' : World} (h : CX w cb q nd wy mn lv dec P F' W5 W'') (hs : W0.heap.size ≤ W5.heap.size) (hF : ∀ k, F k → F' k ∧ k < W0.heap.size ∧ W5.heap[k]? = W0.heap[k]?) : CX w cb q nd wy mn lv dec P F W0 W'' := by
 obtain ⟨mb, M, lab, hc, h1, hf⟩ := h
 refine ⟨mb, M, lab, hc, Nat.le_trans hs h1, fun k hk => ?_⟩
 obtain ⟨a, b, c⟩ := hF k hk
 obtain ⟨d, e, f⟩ := hf k a
 exact ⟨b, e, f.trans c⟩
theorem CX.at (h : CX w cb q nd wy mn lv dec P F W0 W) {k : Nat} (hk : F k) : k < W0.heap.size ∧ W.heap[k]? = W0.heap[k]? := by
 obtain ⟨_, _, _, _, _, hf⟩ := h
 obtain ⟨a, _, c⟩ := hf k hk
 exact ⟨a, c⟩
theorem CX.size (h : CX w cb q nd wy mn lv dec P F W0 W) : W0.heap.size ≤ W.heap.size := by
 obtain ⟨_, _, _, _, hs, _⟩ := h
 exact hs
set_option maxHeartbeats 2000000 in
theorem spread_any {L : List Vt} {a : Option Addr} {c : Nat} (h : CX w cb q nd wy mn lv dec P F W0 W) (hu : WsIs W0 (.slice a L.length c) L) (hF : ∀ b o, a = some ⟨b, o, none⟩ → F b) (hn : L.length ≤ 10000) (hH : q.vals.length ≤ 7) :
  Calls Try.prog 18 #[.pointer (some ⟨cb, 0, none⟩), .slice a L.length c] W fun e w' => e = .returned (.tuple #[]) ∧ CX w cb q nd (sayC q.vals.length wy L) mn lv dec P F W0 w' := by
 obtain ⟨H, hHe⟩ : ∃ H, q.vals.length = H := ⟨_, rfl⟩
 have HHe : Hid (q.vals.length = H) := hHe
 rw [hHe] at hH ⊢
 have HU : Hid (WsIs W0 (.slice a L.length c) L) := hu
 have HFF : Hid (∀ b o, a = some ⟨b, o, none⟩ → F b) := hF
 have HX0 : Hid (CX w cb q nd wy mn lv dec P F W0 W) := h
 obtain ⟨n, hnn⟩ : ∃ n, L.length = n := ⟨_, rfl⟩
 have HN : Hid (L.length = n) := hnn
 rw [hnn] at hn ⊢
 have Hn : Hid (n ≤ 10000) := hn
 have HH : Hid (H ≤ 7) := hH
 clear h hu hF hHe hnn hn hH
 go_enter Try.func18, Try.ntmps18
 go_wp2_with fail
 go_loopw [9] (fun u9 wr => ∃ j : Nat, j ≤ n ∧ u9 = .int .i64 j ∧ Hid (CX w cb q nd (sayC H wy (L.take j)) mn lv dec P F W0 wr)) (fun u9 _ => n - (intOf u9).toNat)
 case atStart => exact ⟨0, Nat.zero_le _, rfl, by
  have e : sayC H wy (L.take 0) = wy := by unfold sayC allC; simp; exact List.take_of_length_le HX0.out.cap
  rw [e]; exact HX0⟩
 case round =>
  obtain ⟨j, hj, rfl, HX⟩ := hrel
  by_cases hlj : j < n
  · obtain ⟨p1, p0, pw⟩ := lp_nums j n hlj (by have := Hn.out; omega)
    obtain ⟨m, hm⟩ : ∃ m, Hid (L[j]? = some m) := ⟨L[j]'(by rw [HN.out]; exact hlj), List.getElem?_eq_getElem _⟩
    have HU2 : WsIs W0 (.slice a L.length c) L := HU.out
    obtain ⟨g, o, ea, hbl, hd0, hd1, hd2, hd3, hd4⟩ := HU2.get hm.out
    have hFg := HFF.out g o ea
    subst ea
    have cl : ∀ k, wr.cell? ⟨g, k, none⟩ = W0.cell? ⟨g, k, none⟩ := fun k => (HX.out.cell hFg).1
    rw [← cl] at hd0 hd1 hd2 hd3 hd4
    have hgl : g < wr.heap.size := (HX.out.cell (o := 0) hFg).2
    obtain ⟨hb, h0⟩ := HX.out.honest
    rw [HHe.out] at h0
    have Hj : Hid (j + 1 ≤ n) := hlj
    clear HU2 hFg cl hbl hj
    go_wp2_with fail
    have HW : Hid (CX w cb q nd (sayC H wy (L.take j)) mn lv dec P (fun k => F k ∨ k = wr.heap.size) (wr.alloc (.cells #[.int .i64 m.kd, .int .i64 m.fr, .int .i64 m.rd, .int .i64 m.va, .string m.vl] 32)) (wr.alloc (.cells #[.int .i64 m.kd, .int .i64 m.fr, .int .i64 m.rd, .int .i64 m.va, .string m.vl] 32))) := HX.out.watch ((Ext.refl wr).alloc _) _ fun k hk => by
     rcases hk with z | z
     · exact .inl z
     · subst z; exact .inr ⟨Nat.le_refl _, by simp⟩
    have HB : Hid (Blk (wr.alloc (.cells #[.int .i64 m.kd, .int .i64 m.fr, .int .i64 m.rd, .int .i64 m.va, .string m.vl] 32)) wr.heap.size 5 (fun i => (#[.int .i64 m.kd, .int .i64 m.fr, .int .i64 m.rd, .int .i64 m.va, .string m.vl] : Array Value).getD i undef)) := Blk.new wr _ 32 fun i hi => by
     match i, hi with
     | 0, _ => rfl
     | 1, _ => rfl
     | 2, _ => rfl
     | 3, _ => rfl
     | 4, _ => rfl
    have HBK : Hid (W0.heap.size ≤ (wr.alloc (.cells #[.int .i64 m.kd, .int .i64 m.fr, .int .i64 m.rd, .int .i64 m.va, .string m.vl] 32)).heap.size ∧ ∀ k, F k → k < W0.heap.size ∧ (wr.alloc (.cells #[.int .i64 m.kd, .int .i64 m.fr, .int .i64 m.rd, .int .i64 m.va, .string m.vl] 32)).heap[k]? = W0.heap[k]?) := ⟨Nat.le_trans HX.out.size (by simp), fun k hk => by
     obtain ⟨a, b⟩ := HX.out.at hk
     exact ⟨a, (Below.block ((Ext.refl wr).alloc _) k (Nat.lt_of_lt_of_le a HX.out.size)).trans b⟩⟩
    clear hd0 hd1 hd2 hd3 hd4 hgl hb h0 HX
    generalize wr.alloc (.cells #[.int .i64 m.kd, .int .i64 m.fr, .int .i64 m.rd, .int .i64 m.va, .string m.vl] 32) = W5 at *
    generalize wr.heap.size = bx at *
    clear wr
    go_loopw [17] (fun u17 wr => ∃ i : Nat, i ≤ H ∧ u17 = .int .i64 i ∧ Hid (CX w cb q nd (mdC H wy (L.take j) m i) mn lv dec P (fun k => F k ∨ k = bx) W5 wr)) (fun u17 _ => H - (intOf u17).toNat)
    case atStart => exact ⟨0, Nat.zero_le _, rfl, by rw [md_zero]; exact HW⟩
    case round =>
     obtain ⟨i, hi, rfl, HX⟩ := hrel
     by_cases hli : i < H
     · obtain ⟨r1, r0, rw1⟩ := lp_nums i H hli (by have := HH.out; omega)
       have Hi : Hid (i + 1 ≤ H) := hli
       have HB2 := HB.out
       have cl : ∀ o, wr.cell? ⟨bx, o, none⟩ = W5.cell? ⟨bx, o, none⟩ := fun o => (HX.out.cell (.inr rfl)).1
       have b0 := (cl 0).trans (HB2.2 0 (by decide)).1
       have b1 := (cl 1).trans (HB2.2 1 (by decide)).1
       have b2 := (cl 2).trans (HB2.2 2 (by decide)).1
       have b3 := (cl 3).trans (HB2.2 3 (by decide)).1
       have b4 := (cl 4).trans (HB2.2 4 (by decide)).1
       have bl : bx < wr.heap.size := (HX.out.cell (o := 0) (.inr rfl)).2
       have HS : Hid (Calls Try.prog 25 #[.pointer (some ⟨cb, 0, none⟩), .int .i64 ((i : Int) + 1), wv m] wr fun e w' => e = .returned (.tuple #[]) ∧ CX w cb q nd (mdC H wy (L.take j) m (i + 1)) mn lv dec P (fun k => F k ∨ k = bx) W5 w') := by
        have := send_any HX.out (i + 1) m
        rw [md_step] at this
        exact this
       clear HB2 cl HX hi
       go_wp2_with fail
       refine HS.out.mono ?_
       rintro e w1 ⟨rfl, hX⟩
       have HX1 : Hid (CX w cb q nd (mdC H wy (L.take j) m (i + 1)) mn lv dec P (fun k => F k ∨ k = bx) W5 w1) := hX
       clear hX b0 b1 b2 b3 b4 bl HS
       go_wp2_with fail
       go_roundw
       case rel => exact ⟨i + 1, Hi.out, by push_cast; rfl, HX1⟩
       case measure => exact lp_meas Hi.out
     · obtain rfl : i = H := by omega
       have hnl : ¬ (i : Int) < (i : Int) := by omega
       have HX1 : Hid (CX w cb q nd (sayC i wy (L.take (j + 1))) mn lv dec P F W0 wr) := by
        have e : L.take (j + 1) = L.take j ++ [m] := by rw [List.take_add_one, hm.out]; rfl
        have h1 := HX.out.back (F := F) HBK.out.1 (fun k hk => ⟨.inl hk, HBK.out.2 k hk⟩)
        rw [md_all, ← e] at h1
        exact h1
       clear HX
       go_wp2_with fail
       go_roundw
       case rel => exact ⟨j + 1, Hj.out, by push_cast; rfl, HX1⟩
       case measure => exact lp_meas Hj.out
  · obtain rfl : j = n := by omega
    have hnl : ¬ (j : Int) < (j : Int) := by omega
    have HX1 : Hid (CX w cb q nd (sayC H wy L) mn lv dec P F W0 wr) := by
     have := HX.out
     rw [List.take_of_length_le (by rw [HN.out]; exact Nat.le_refl _)] at this
     exact this
    clear HX
    go_wp2
    refine bodyPost_end (v := .tuple #[]) (by simp [results, Try.results18, go_sem]) rfl ⟨rfl, HX1.out⟩
end
end Go.Proofs.Ytkfpmjepeikpjaa
