/-
 A council's memory: a map from numbers to pointers, letters in a row, a letter that is struck. 
-/
import Derived.Test.YtkfpmjepeikpjaaAa
import Derived.Maps.OwnSet
import Derived.Maps.Keyed
namespace Go.Proofs.Ytkfpmjepeikpjaa
open Go.RowKit Go.Maps
set_option maxRecDepth 10000
theorem kint : Keyed Try.prog 3 := int_keyed Try.underlying3
theorem zero49 (w : World) : (zeroValue 49).run Try.prog w = .ok (.pointer none) w := by kernel_rfl
/-- Block b is a map of at most n pointers; that of a number is g. -/
def Im (w : World) (b n : Nat) (g : Int → Value) : Prop :=
 ∃ D : DataW Value, w.ownsMap Try.prog 3 rh b n D ∧ ∀ k, (Lit.int .i64 k).wf = true → D.atKey (.int .i64 k) (.held (.pointer none)) = .held (g k)
theorem Im.lt {w : World} {b n : Nat} {g : Int → Value} (h : Im w b n g) : b < w.heap.size := by
 obtain ⟨D, h, _⟩ := h
 exact h.lt
theorem Im.keep {w w' : World} {b n : Nat} {g : Int → Value} (h : Im w b n g) (hb : w'.heap[b]? = w.heap[b]?) : Im w' b n g := by
 obtain ⟨D, ⟨es, clock, h1, h2⟩, h3⟩ := h
 exact ⟨D, ⟨es, clock, hb.trans h1, h2⟩, h3⟩
theorem Im.mono {w : World} {b n m : Nat} {g : Int → Value} (h : Im w b n g) (hm : n ≤ m) : Im w b m g := by
 obtain ⟨D, h, h3⟩ := h
 exact ⟨D, h.mono hm, h3⟩
theorem Im.congr {w : World} {b n : Nat} {g g' : Int → Value} (h : Im w b n g) (e : ∀ k, g k = g' k) : Im w b n g' := by
 rw [← funext e]; exact h
theorem im_new (w : World) : Im (w.alloc (.map #[] 0)) w.heap.size 0 (fun _ => .pointer none) := ⟨.map [], World.ownsMap_made w Try.prog 3 _, fun _k _ => rfl⟩
theorem Im.look {w : World} {b n : Nat} {g : Int → Value} (h : Im w b n g) {k : Int} (hk : (Lit.int .i64 k).wf = true) :
  (Instr.lookup 44 (.map (some b)) (.int .i64 k) false).run Try.prog w = .ok (g k) w := by
 obtain ⟨D, h1, h2⟩ := h
 obtain ⟨v, ps, hrun, hv⟩ := h1.lookup kint Try.underlying44 (zero49 w) (zd := .held (.pointer none)) (zp := []) rfl (keyOf_int_mk Try.underlying3 hk)
 rw [h2 k hk] at hv
 unfold rh at hv
 injection hv with hv
 injection hv with hv _
 injection hv with hv
 rw [hrun, hv]
theorem lit_ne {j k : Int} (h : j ≠ k) : Lit.int .i64 j ≠ Lit.int .i64 k := fun e => h (by injection e)
theorem Im.put {w : World} {b n : Nat} {g : Int → Value} (h : Im w b n g) (hn : n < maxLen) {k : Int} (hk : (Lit.int .i64 k).wf = true) (v : Value) :
  ∃ w', (Instr.mapUpdate 44 (.map (some b)) (.int .i64 k) v).run Try.prog w = .ok () w' ∧ Im w' b (n + 1) (fun j => if j = k then v else g j) ∧ w.grownBy w' (some b) := by
 obtain ⟨D, h1, h2⟩ := h
 have h1' := h1
 obtain ⟨w', hrun, hown, hgr⟩ := h1'.update kint Try.underlying44 hn (keyOf_int_mk Try.underlying3 hk) (d := .held v) (ps := []) rfl
 obtain ⟨es, clock, hb, hF, hs, hD⟩ := h1
 refine ⟨w', hrun, ⟨_, hown, fun j hj => ?_⟩, hgr⟩
 by_cases e : j = k
 · subst e
   rw [atKey_put_same ⟨_, hD⟩ (show WideAt.IsKeyLit (Lit.int .i64 j) from trivial)]
   show _ = DataW.held (if j = j then v else g j)
   rw [if_pos rfl]
 · rw [atKey_put_other (lit_ne e)]
   show _ = DataW.held (if j = k then v else g j)
   rw [if_neg e]
   exact h2 j hj
theorem Im.del {w : World} {b n : Nat} {g : Int → Value} (h : Im w b n g) {k : Int} (hk : (Lit.int .i64 k).wf = true) (ty : TypeId) :
  ∃ w', (Builtin.delete_ #[44, 3] ty #[.map (some b), .int .i64 k]).run Try.prog w = .ok (.tuple #[]) w' ∧ Im w' b n (fun j => if j = k then .pointer none else g j) ∧ w.grownBy w' (some b) := by
 obtain ⟨D, h1, h2⟩ := h
 obtain ⟨w', hrun, hown, ht⟩ := h1.drop kint Try.underlying44 (keyOf_int_mk Try.underlying3 hk) ty
 refine ⟨w', hrun, ⟨_, hown, fun j hj => ?_⟩, ht.grown⟩
 by_cases e : j = k
 · subst e
   rw [atKey_del_same]
   show _ = DataW.held (if j = j then _ else g j)
   rw [if_pos rfl]
 · rw [atKey_del_other (lit_ne e)]
   show _ = DataW.held (if j = k then _ else g j)
   rw [if_neg e]
   exact h2 j hj
/-- Letters as cells. -/
def lcs (L : List (Nat × Vt)) : List Value := L.flatMap fun x => [.int .i64 (x.1 : Int), .int .i64 x.2.kd, .int .i64 x.2.fr, .int .i64 x.2.rd, .int .i64 x.2.va, .string x.2.vl]
theorem lcs_len (L : List (Nat × Vt)) : (lcs L).length = L.length * 6 := by
 induction L with
 | nil => rfl
 | cons m r ih => show (_ :: _ :: _ :: _ :: _ :: _ :: lcs r).length = _; simp [ih]; omega
theorem lcs_app (L M : List (Nat × Vt)) : lcs (L ++ M) = lcs L ++ lcs M := by unfold lcs; simp
theorem lcs_take : ∀ (L : List (Nat × Vt)) (i : Nat), (lcs L).take (i * 6) = lcs (L.take i)
 | [], i => by simp [lcs]
 | x :: r, 0 => by simp [lcs]
 | x :: r, i + 1 => by
  rw [show (i + 1) * 6 = i * 6 + 6 from by omega]
  show _ :: _ :: _ :: _ :: _ :: _ :: (lcs r).take (i * 6) = _ :: _ :: _ :: _ :: _ :: _ :: lcs (r.take i)
  rw [lcs_take r i]
theorem lcs_drop : ∀ (L : List (Nat × Vt)) (i : Nat), (lcs L).drop (i * 6) = lcs (L.drop i)
 | [], i => by simp [lcs]
 | x :: r, 0 => by simp
 | x :: r, i + 1 => by
  rw [show (i + 1) * 6 = i * 6 + 6 from by omega]
  show (lcs r).drop (i * 6) = lcs (r.drop i)
  rw [lcs_drop r i]
theorem lcs_get : ∀ (L : List (Nat × Vt)) {j : Nat} {x : Nat × Vt}, L[j]? = some x → (lcs L)[j * 6]? = some (.int .i64 (x.1 : Int)) ∧ (lcs L)[j * 6 + 1]? = some (.int .i64 x.2.kd) ∧ (lcs L)[j * 6 + 2]? = some (.int .i64 x.2.fr) ∧ (lcs L)[j * 6 + 3]? = some (.int .i64 x.2.rd) ∧ (lcs L)[j * 6 + 4]? = some (.int .i64 x.2.va) ∧ (lcs L)[j * 6 + 5]? = some (.string x.2.vl)
 | [], j, m, h => by simp at h
 | x :: r, 0, m, h => by
  simp at h
  subst h
  exact ⟨rfl, rfl, rfl, rfl, rfl, rfl⟩
 | x :: r, j + 1, m, h => by
  have := lcs_get r (j := j) (x := m) (by simpa using h)
  show (_ :: _ :: _ :: _ :: _ :: _ :: lcs r)[(j + 1) * 6]? = _ ∧ (_ :: _ :: _ :: _ :: _ :: _ :: lcs r)[(j + 1) * 6 + 1]? = _ ∧ (_ :: _ :: _ :: _ :: _ :: _ :: lcs r)[(j + 1) * 6 + 2]? = _ ∧ (_ :: _ :: _ :: _ :: _ :: _ :: lcs r)[(j + 1) * 6 + 3]? = _ ∧ (_ :: _ :: _ :: _ :: _ :: _ :: lcs r)[(j + 1) * 6 + 4]? = _ ∧ (_ :: _ :: _ :: _ :: _ :: _ :: lcs r)[(j + 1) * 6 + 5]? = _
  rw [show (j + 1) * 6 = j * 6 + 6 from by omega]
  exact this
theorem lcs_one (L : List (Nat × Vt)) : ∀ u ∈ lcs L, u.oneCell' = true := by
 intro u hu
 obtain ⟨m, _, q⟩ := List.mem_flatMap.1 hu
 simp at q
 rcases q with rfl | rfl | rfl | rfl | rfl | rfl <;> rfl
theorem info57l : (Try.prog.info? 57).map (fun i => (i.zero, i.size, i.bytes)) = some (some (.agg #[.int .i64 0, .int .i64 0, .int .i64 0, .int .i64 0, .int .i64 0, .string ⟨#[]⟩]), 6, 56) := by kernel_rfl
theorem zero57 (w : World) : (zeroValue 57).run Try.prog w = .ok (.agg #[.int .i64 0, .int .i64 0, .int .i64 0, .int .i64 0, .int .i64 0, .string ⟨#[]⟩]) w := by kernel_rfl
theorem own_cutg {w : World} {base n m g cap sz : Nat} {e : TypeId} {xs : List Value} (h : w.ownsRow base e sz (.slice (some ⟨g, 0, none⟩) n cap) n xs) (hm : m ≤ n) : w.ownsRow base e sz (.slice (some ⟨g, 0, none⟩) m cap) m (xs.take (m * sz)) := by
 have hms : m * sz ≤ n * sz := Nat.mul_le_mul_right _ hm
 refine ⟨by rw [List.length_take, h.1]; omega, ?_⟩
 rcases h.2 with ⟨h0, _⟩ | ⟨g', cap', cur, hv, hb, hg, hnc, hcm, hcs, ht⟩
 · cases h0
 · injection hv with e1 _ e3
   injection e1 with e1
   injection e1 with e1 _ _
   subst e1 e3
   refine .inr ⟨g, cap, cur, rfl, hb, hg, by omega, hcm, hcs, ?_⟩
   rw [← ht, List.take_take, Nat.min_eq_left hms]
/-- An empty letter. -/
def zl : List Value := [.int .i64 0, .int .i64 0, .int .i64 0, .int .i64 0, .int .i64 0, .string ⟨#[]⟩]
/-- What is left of a row of letters where one is struck: the append that moves the rest, and the clear behind it. -/
theorem del_steps {W : World} {base g n cap : Nat} {L : List (Nat × Vt)} (h : W.ownsRow base 57 6 (.slice (some ⟨g, 0, none⟩) n cap) n (lcs L)) {i : Nat} (hi : i < n) (A : Addr) (hA : A = if cap = i + 1 then ⟨g, 0, none⟩ else ⟨g, (i + 1) * 6, none⟩) :
  L.length = n ∧ n ≤ cap ∧ cap ≤ maxLen ∧ ∃ w1 w2, (∀ ty, (Builtin.append_ #[46, 46] ty #[.slice (some ⟨g, 0, none⟩) i cap, .slice (some A) (n - (i + 1)) (cap - (i + 1))]).run Try.prog W = .ok (.slice (some ⟨g, 0, none⟩) (n - 1) cap) w1) ∧
   (∀ ty c, (Builtin.clear_ #[46] ty #[.slice (some ⟨g, (n - 1) * 6, none⟩) 1 c]).run Try.prog w1 = .ok (.tuple #[]) w2) ∧
   w2.ownsRow base 57 6 (.slice (some ⟨g, 0, none⟩) (n - 1) cap) (n - 1) (lcs (L.eraseIdx i)) ∧ W.grownBy w2 (some g) := by
 have hlen : L.length = n := by have := h.1; rw [lcs_len] at this; omega
 have hc := fun j u => h.cells (g := g) rfl j u
 rcases h.2 with ⟨h0, _⟩ | ⟨g', cap', cur, hv, hb, hg, hnc, hcm, hcs, ht⟩
 · cases h0
 · injection hv with e1 _ e3
   injection e1 with e1
   injection e1 with e1 _ _
   subst e1 e3
   have hnews : (lcs (L.drop (i + 1))).length = (n - (i + 1)) * 6 := by rw [lcs_len, List.length_drop, hlen]
   obtain ⟨ti, h1, h2, h3, h4⟩ := info_split info57l
   have hlt : (lcs (L.take i)).length = i * 6 := by rw [lcs_len, List.length_take, Nat.min_eq_left (by omega)]
   have hr := fun ty => run_append_room (P := Try.prog) W 46 ty 57 ti Try.underlying46 h1 g i cap cur hg A (n - (i + 1)) (cap - (i + 1)) (lcs (L.drop (i + 1))) (by rw [h3]; exact hnews) (fun j u hj => by
     have hjl := (List.getElem?_eq_some_iff.1 hj).1
     rw [hnews] at hjl
     rw [hA, if_neg (by omega), add_at]
     rw [← lcs_drop, List.getElem?_drop] at hj
     have := hc _ u hj
     rw [add_at] at this
     rw [← this]
     congr 2
     omega) (lcs_one _) (by omega) (by rw [h3, hnews, hcs]; omega)
   rw [h3] at hr
   have hcut : cur.toList.take (i * 6) = lcs (L.take i) := by
    rw [← lcs_take, ← ht, List.take_take, Nat.min_eq_left (by omega)]
   rw [hcut] at hr
   have hlc : cur.toList.length = cap * 6 := by simpa using hcs
   have hws := setRow_heap W g cur (lcs (L.take i) ++ lcs (L.drop (i + 1)) ++ cur.toList.drop (i * 6 + (lcs (L.drop (i + 1))).length)).toArray 57 (0, 0) hg
   obtain ⟨X, hX⟩ : ∃ X, (lcs (L.take i) ++ lcs (L.drop (i + 1)) ++ cur.toList.drop (i * 6 + (lcs (L.drop (i + 1))).length)).toArray = X := ⟨_, rfl⟩
   have hXs : X.size = cap * 6 := by
    rw [← hX]
    simp only [List.size_toArray, List.length_append, List.length_drop, hlt, hnews, hlc]
    omega
   have hXt : X.toList.take ((n - 1) * 6) = lcs (L.eraseIdx i) := by
    rw [← hX, List.eraseIdx_eq_take_drop_succ, lcs_app]
    show List.take _ (_ ++ _) = _
    rw [List.take_append_of_le_length (by rw [List.length_append, hlt, hnews]; omega), List.take_of_length_le (by rw [List.length_append, hlt, hnews]; omega)]
   rw [hX] at hr hws
   have hst := run_storeCells_at Try.prog g ((n - 1) * 6) 57 zl 0 X (W.setRow g X) hws (by show (n - 1) * 6 + 0 + 6 ≤ X.size; rw [hXs]; omega) (by intro v hv'; simp [zl] at hv'; rcases hv' with rfl | rfl <;> rfl)
   simp only [Nat.add_zero] at hst
   obtain ⟨Y, hY⟩ : ∃ Y, (X.toList.take ((n - 1) * 6) ++ zl ++ X.toList.drop ((n - 1) * 6 + zl.length)).toArray = Y := ⟨_, rfl⟩
   rw [hY] at hst
   have hXl : X.toList.length = cap * 6 := by simpa using hXs
   have hYs : Y.size = cap * 6 := by
    rw [← hY]
    simp only [List.size_toArray, List.length_append, List.length_take, List.length_drop, hXl]
    show min ((n - 1) * 6) (cap * 6) + 6 + (cap * 6 - ((n - 1) * 6 + 6)) = cap * 6
    omega
   have hYt : Y.toList.take ((n - 1) * 6) = lcs (L.eraseIdx i) := by
    rw [← hY]
    show List.take _ (_ ++ _ ++ _) = _
    rw [List.append_assoc, List.take_append_of_le_length (by rw [List.length_take, hXl]; omega), List.take_take, Nat.min_self, hXt]
   have hel : (lcs (L.eraseIdx i)).length = (n - 1) * 6 := by rw [lcs_len, List.length_eraseIdx]; split <;> omega
   have hrow : ((W.setRow g X).setRow g Y).ownsRow base 57 6 (.slice (some ⟨g, 0, none⟩) (n - 1) cap) (n - 1) (lcs (L.eraseIdx i)) :=
    ⟨hel, .inr ⟨g, cap, Y, rfl, hb, setRow_heap _ g X Y 57 _ hws, by omega, hcm, hYs, hYt⟩⟩
   have hgr : W.grownBy ((W.setRow g X).setRow g Y) (some g) := ⟨rfl, rfl, rfl, by simp, fun k _ hk => by
    rw [setRow_other _ g k _ (fun e => hk (by rw [e])), setRow_other _ g k _ (fun e => hk (by rw [e]))]⟩
   refine ⟨hlen, hnc, hcm, W.setRow g X, (W.setRow g X).setRow g Y, fun ty => ?_, fun ty c => ?_, hrow, hgr⟩
   · rw [hr ty, show i + (n - (i + 1)) = n - 1 from by omega]
   · have hz : (Builtin.zeroCells (Value.agg zl.toArray).cells 1).toList = zl := by kernel_rfl
     have zr : ∀ w : World, (zeroValue 57).run Try.prog w = .ok (.agg zl.toArray) w := zero57
     simp [Builtin.clear_, run_underlying Try.underlying46, zr, hz, hst]
end Go.Proofs.Ytkfpmjepeikpjaa
