/-
 append of a slice to a slice that the call made, whatever the elements; a drawn region's two ways up to its last operation. No function of the program is named here.
-/
import Derived.Test.YtmanacbdldfmfaaPa
import Derived.Laws.AppendOwnNone
import Derived.Maps.AppendAt
namespace Go.Proofs.Ytmanacbdldfmfaa
set_option maxRecDepth 10000
open Go.RowKit
/-- A slice that is read: its cells are news. -/
def SlV (w : World) (u : Value) (m : Nat) (news : List Value) : Prop :=
 (u = .slice none 0 0 ∧ m = 0 ∧ news = []) ∨ ∃ b o c, u = .slice (some ⟨b, o, none⟩) m c ∧ ∀ j x, news[j]? = some x → w.cell? ⟨b, o + j, none⟩ = some x
theorem add_at (b o j : Nat) : Addr.add ⟨b, o, none⟩ j = ⟨b, o + j, none⟩ := by unfold Addr.add; split <;> simp_all
theorem own_slv {w : World} {base : Nat} {e : TypeId} {sz : Nat} {v : Value} {n : Nat} {xs : List Value} (h : w.ownsRow base e sz v n xs) : SlV w v n xs := by
 have hc := h
 have hl := h.1
 rcases h.2 with ⟨rfl, rfl⟩ | ⟨g, cap, cur, rfl, hb, hgg, hnc, hm, hs, ht⟩
 ·exact .inl ⟨rfl, rfl, List.eq_nil_of_length_eq_zero (by omega)⟩
 ·refine .inr ⟨g, 0, cap, rfl, fun j x hj => ?_⟩
  have := hc.cells (g := g) rfl j x hj
  rw [add_at] at this
  exact this
theorem SlV.ext {w w' : World} {u : Value} {m : Nat} {news : List Value} (h : SlV w u m news) (hx : Ext w w') : SlV w' u m news := by
 rcases h with h | ⟨b, o, c, rfl, h⟩
 ·exact .inl h
 ·exact .inr ⟨b, o, c, rfl, fun j x hj => later hx (h j x hj)⟩
theorem run_app {P : Program} (w : World) (base : Nat) (t ty e : TypeId) (i : TypeInfo) (z : Value) (size bytes : Nat) (ht : P.underlying t = some (.slice e)) (hi : P.info? e = some i) (hz : i.zero = some z)
  (hsize : i.size = size) (hby : i.bytes = bytes) (hzs : z.cells.size = size) (hsz : 0 < size) (v : Value) (n : Nat) (xs : List Value) (hown : w.ownsRow base e size v n xs)
  (u : Value) (m : Nat) (news : List Value) (hu : SlV w u m news) (hl : news.length = m * size) (h1 : ∀ u ∈ news, u.oneCell' = true) (h63 : n + m ≤ maxLen) (hbytes : (n + m) * bytes ≤ 140737488355328) (hbase : base ≤ w.heap.size) :
  ∃ v' w', (Builtin.append_ #[t, t] ty #[v, u]).run P w = .ok v' w' ∧ w'.ownsRow base e size v' (n + m) (xs ++ news) ∧ w.grownBy w' v.ownBlock ∧ (v'.ownBlock = v.ownBlock ∨ v'.ownBlock = some w.heap.size) := by
 rcases hu with ⟨rfl, rfl, rfl⟩ | ⟨b, o, c, rfl, hc⟩
 ·have hr := run_append_owned_none (P := P) (w := w) base t ty e i size ht hi v n xs hown
  exact ⟨v, w, hr, by simpa using hown, World.grownBy.refl w _, .inl rfl⟩
 ·obtain ⟨v', w', hr, h2, h3, _, h5⟩ := run_append_own_at (P := P) w base t ty e i z size bytes ht hi hz hsize hby hzs hsz v n xs hown ⟨b, o, none⟩ m c news hl (fun j x hj => by rw [add_at]; exact hc j x hj) h1 h63 hbytes hbase
  exact ⟨v', w', hr, h2, h3, h5⟩
theorem wp_app {P : Program} (w : World) {o : Oper} {a : Act} {K : Act → World → Prop} {Q : Exit → Act → World → Prop} (s x : Operand) (t : TypeId)
  (ho : o.op = .call { callee := .builtin .append, args := #[s, x], argTypes := #[t, t] }) (base : Nat) (e : TypeId) (i : TypeInfo) (z : Value) (size bytes : Nat) (ht : P.underlying t = some (.slice e)) (hi : P.info? e = some i) (hz : i.zero = some z)
  (hsize : i.size = size) (hby : i.bytes = bytes) (hzs : z.cells.size = size) (hsz : 0 < size) (v : Value) (n : Nat) (xs : List Value) (hs : a.eval s = v) (hown : w.ownsRow base e size v n xs)
  (u : Value) (m : Nat) (news : List Value) (hx : a.eval x = u) (hu : SlV w u m news) (hl : news.length = m * size) (h1 : ∀ u ∈ news, u.oneCell' = true) (h63 : n + m ≤ maxLen) (hbytes : (n + m) * bytes ≤ 140737488355328) (hbase : base ≤ w.heap.size)
  (h : ∀ v' w', w'.ownsRow base e size v' (n + m) (xs ++ news) → w.grownBy w' v.ownBlock → (v'.ownBlock = v.ownBlock ∨ v'.ownBlock = some w.heap.size) → K (a.put o.dst v') w') : o.wp P a w K Q := by
 obtain ⟨v', w', hr, h2, h3, h4⟩ := run_app (P := P) w base t o.type e i z size bytes ht hi hz hsize hby hzs hsz v n xs hown u m news hu hl h1 h63 hbytes hbase
 unfold Oper.wp execOp
 simp only [ho, resolve, invoke, builtin, Sem.run_bind, Sem.run_pure, Result.andThen_ok, List.map_toArray, List.map_cons, List.map_nil, hs, hx, hr]
 exact h v' w' h2 h3 h4
theorem info57p : (Try.prog.info? 100).map (fun i => (i.zero, i.size, i.bytes)) = some (some (.agg #[.string ⟨#[]⟩, .complex .f64 0 0]), 2, 32) := by kernel_rfl
theorem info32p : (Try.prog.info? 39).map (fun i => (i.zero, i.size, i.bytes)) = some (some (.agg #[.int .i64 0, .int .i64 0, .int .i64 0, .int .i64 0, .string ⟨#[]⟩]), 5, 48) := by kernel_rfl
theorem info_split {e : TypeId} {z : Value} {sz by' : Nat} (h : (Try.prog.info? e).map (fun i => (i.zero, i.size, i.bytes)) = some (some z, sz, by')) : ∃ i, Try.prog.info? e = some i ∧ i.zero = some z ∧ i.size = sz ∧ i.bytes = by' := by
 cases q : Try.prog.info? e with
 | none => rw [q] at h; cases h
 | some i =>
  rw [q] at h
  simp at h
  exact ⟨i, rfl, h⟩
/-- append to piles. -/
theorem app51 (w : World) {o : Oper} {a : Act} {K : Act → World → Prop} {Q : Exit → Act → World → Prop} (s x : Operand) (ho : o.op = .call { callee := .builtin .append, args := #[s, x], argTypes := #[89, 89] }) (base : Nat)
  (v : Value) (n : Nat) (xs : List Value) (hs : a.eval s = v) (hown : w.ownsRow base 100 2 v n xs) (u : Value) (m : Nat) (news : List Value) (hx : a.eval x = u) (hu : SlV w u m news) (hl : news.length = m * 2) (h1 : ∀ u ∈ news, u.oneCell' = true) (hn : n + m ≤ 100000) (hbase : base ≤ w.heap.size)
  (h : ∀ v' w', w'.ownsRow base 100 2 v' (n + m) (xs ++ news) → w.grownBy w' v.ownBlock → (v'.ownBlock = v.ownBlock ∨ v'.ownBlock = some w.heap.size) → K (a.put o.dst v') w') : o.wp Try.prog a w K Q := by
 obtain ⟨i, i1, i2, i3, i4⟩ := info_split info57p
 exact wp_app w s x 89 ho base 100 i _ 2 32 Try.underlying89 i1 i2 i3 i4 rfl (by decide) v n xs hs hown u m news hx hu hl h1 (Nat.le_trans hn (by decide)) (Nat.le_trans (Nat.mul_le_mul_right 32 hn) (by decide)) hbase h
/-- append to words. -/
theorem app22 (w : World) {o : Oper} {a : Act} {K : Act → World → Prop} {Q : Exit → Act → World → Prop} (s x : Operand) (ho : o.op = .call { callee := .builtin .append, args := #[s, x], argTypes := #[27, 27] }) (base : Nat)
  (v : Value) (n : Nat) (xs : List Value) (hs : a.eval s = v) (hown : w.ownsRow base 39 5 v n xs) (u : Value) (m : Nat) (news : List Value) (hx : a.eval x = u) (hu : SlV w u m news) (hl : news.length = m * 5) (h1 : ∀ u ∈ news, u.oneCell' = true) (hn : n + m ≤ 100000) (hbase : base ≤ w.heap.size)
  (h : ∀ v' w', w'.ownsRow base 39 5 v' (n + m) (xs ++ news) → w.grownBy w' v.ownBlock → (v'.ownBlock = v.ownBlock ∨ v'.ownBlock = some w.heap.size) → K (a.put o.dst v') w') : o.wp Try.prog a w K Q := by
 obtain ⟨i, i1, i2, i3, i4⟩ := info_split info32p
 exact wp_app w s x 27 ho base 39 i _ 5 48 Try.underlying27 i1 i2 i3 i4 rfl (by decide) v n xs hs hown u m news hx hu hl h1 (Nat.le_trans hn (by decide)) (Nat.le_trans (Nat.mul_le_mul_right 48 hn) (by decide)) hbase h
/-- In a plain region. -/
theorem list_of_wp {P : Program} {w : World} {ops : Array Oper} {rest : List Oper} {o : Oper} {a : Act} {Q : Exit → Act → World → Prop} (hgd : o.guard = none) (h : ∀ K : Act → World → Prop, Shut (∀ a w, wpList P ops Q rest a w → K a w) → o.wp P a w K Q) : wpList P ops Q (o :: rest) a w :=
 wpList_plain hgd fun K hK => h K hK
section
variable {P : Program} {ops : Array Oper} {Q : Exit → Act → World → Prop} {md : Region.Mode} {S : World → Prop} {X : Nat}
/-- Two may come up, neither is X. -/
theorem until_two {i k : Nat} {oi ok : Oper} {f : Nat} {L : Array Bool} {a : Act} {w : World} (hr : Region.ready md ops L = [i, k]) (hiX : (i == X) = false) (hkX : (k == X) = false) (hi : ops.toList[i]? = some oi) (hk : ops.toList[k]? = some ok) (hg : oi.guard = none) (hg2 : ok.guard = none)
  (h : ∀ K' : Act → World → Prop, Shut (∀ a w, S w → wpUntil P md ops Q S X f (L.setIfInBounds i true) a w → K' a w) → Oper.wp P oi a w K' Q)
  (h2 : ∀ K' : Act → World → Prop, Shut (∀ a w, S w → wpUntil P md ops Q S X f (L.setIfInBounds k true) a w → K' a w) → Oper.wp P ok a w K' Q) : wpUntil P md ops Q S X (f + 1) L a w := by
 refine ⟨fun hX => ?_, fun _ => ⟨fun h0 => (by rw [hr] at h0; cases h0), fun j hj => ?_⟩⟩
 ·rw [hr] at hX
  simp at hX
  rcases hX with rfl | rfl
  ·simp at hiX
  ·simp at hkX
 ·rw [hr] at hj
  simp at hj
  rcases hj with rfl | rfl
  ·exact wpOp_step (toList_at hi) (fun K' hK => by
    have hw : Region.wanted oi (yielded ops a.tmps) = true := by simp [Region.wanted, hg]
    rw [if_pos hw]
    exact h K' (fun a w hS hU => hK a w ⟨hS, hU⟩))
  ·exact wpOp_step (toList_at hk) (fun K' hK => by
    have hw : Region.wanted ok (yielded ops a.tmps) = true := by simp [Region.wanted, hg2]
    rw [if_pos hw]
    exact h2 K' (fun a w hS hU => hK a w ⟨hS, hU⟩))
end
theorem own_keep {w w' : World} {base : Nat} {e : TypeId} {sz : Nat} {v : Value} {n : Nat} {xs : List Value} (h : w.ownsRow base e sz v n xs) (hk : ∀ k, v.ownBlock = some k → w'.heap[k]? = w.heap[k]?) : w'.ownsRow base e sz v n xs := by
 refine ⟨h.1, ?_⟩
 rcases h.2 with hn | ⟨g, cap, cur, rfl, hb, hgg, rest⟩
 ·exact .inl hn
 ·exact .inr ⟨g, cap, cur, rfl, hb, (hk g rfl).trans hgg, rest⟩
theorem own_len {w : World} {base sz n : Nat} {e : TypeId} {v : Value} {xs : List Value} (h : w.ownsRow base e sz v n xs) : ∃ a c, v = .slice a n c := by
 rcases h.2 with ⟨rfl, rfl⟩ | ⟨g, cap, cur, rfl, _⟩
 ·exact ⟨none, 0, rfl⟩
 ·exact ⟨_, cap, rfl⟩
/-- A slice that was just written out. -/
theorem slv_new (w : World) (cs : Array Value) (t : TypeId) (m c : Nat) {b : Nat} (hb : w.heap.size = b) : SlV (w.alloc (.cells cs t)) (.slice (some ⟨b, 0, none⟩) m c) m cs.toList := by
 subst hb
 refine .inr ⟨_, 0, c, rfl, fun j x hj => ?_⟩
 rw [World.cell?_alloc_at _ _ _ _ (by rfl)]
 simpa using hj
end Go.Proofs.Ytmanacbdldfmfaa
