/-
  A calm council: rows of words are delivered in order. No Go here.
-/
import Derived.Test.YtkfpmjepeikpjaaKMath
namespace Go.Proofs.Ytkfpmjepeikpjaa
set_option maxRecDepth 10000
/-- So many words are delivered, always the first. -/
def dlC (q : Cp) (c : Cn) : Nat → Cn
 | 0 => c
 | n + 1 => (delC q (dlC q c n) 0).1
theorem dl_add (q : Cp) (c : Cn) (a : Nat) : ∀ b, dlC q c (a + b) = dlC q (dlC q c a) b
 | 0 => rfl
 | b + 1 => by
  show (delC q (dlC q c (a + b)) 0).1 = (delC q (dlC q (dlC q c a) b) 0).1
  rw [dl_add q c a b]
theorem del_nil (q : Cp) (nd : List Ag) (i : Int) : delC q ⟨nd, []⟩ i = (⟨nd, []⟩, false) := by
 unfold delC
 rw [show (⟨nd, []⟩ : Cn).wy[atC ⟨nd, []⟩ i]? = none from List.getElem?_nil]
theorem dl_nil (q : Cp) (nd : List Ag) : ∀ n, dlC q ⟨nd, []⟩ n = ⟨nd, []⟩
 | 0 => rfl
 | n + 1 => by
  show (delC q (dlC q ⟨nd, []⟩ n) 0).1 = _
  rw [dl_nil q nd n, del_nil]
theorem del_cons (q : Cp) (nd : List Ag) (x : Nat × Vt) (w : List (Nat × Vt)) : delC q ⟨nd, x :: w⟩ 0 = (takeC q ⟨nd, w⟩ (x.1 - 1) x.2, true) := by
 have h0 : atC ⟨nd, x :: w⟩ 0 = 0 := by unfold atC; simp
 unfold delC
 rw [h0]
 rfl
theorem all_app (H : Nat) (a b : List Vt) : allC H (a ++ b) = allC H a ++ allC H b := List.flatMap_append
theorem all_len (H : Nat) : ∀ l : List Vt, (allC H l).length = H * l.length
 | [] => rfl
 | m :: l => by
  have : allC H (m :: l) = ((List.range H).map fun k => (k + 1, m)) ++ allC H l := rfl
  rw [this, List.length_append, all_len H l, List.length_map, List.length_range, List.length_cons, Nat.mul_succ, Nat.add_comm]
theorem say_all {H : Nat} {w : List (Nat × Vt)} {l : List Vt} (h : w.length + H * l.length ≤ 4096) : sayC H w l = w ++ allC H l := by
 unfold sayC
 rw [List.take_of_length_le]
 rw [List.length_append, all_len]
 exact h
/-- What is left of a row. -/
def rowC (H : Nat) (m : Vt) (k : Nat) : List (Nat × Vt) := (List.range' k (H - k)).map fun j => (j + 1, m)
theorem row_cons {H k : Nat} (m : Vt) (h : k < H) : rowC H m k = (k + 1, m) :: rowC H m (k + 1) := by
 unfold rowC
 rw [show H - k = (H - (k + 1)) + 1 by omega, List.range'_succ]
 rfl
theorem row_end (H : Nat) (m : Vt) : rowC H m H = [] := by unfold rowC; rw [Nat.sub_self]; rfl
theorem row_len (H : Nat) (m : Vt) (k : Nat) : (rowC H m k).length = H - k := by unfold rowC; rw [List.length_map, List.length_range']
theorem all_cons (H : Nat) (m : Vt) (l : List Vt) : allC H (m :: l) = rowC H m 0 ++ allC H l := by
 have : allC H (m :: l) = ((List.range H).map fun k => (k + 1, m)) ++ allC H l := rfl
 rw [this]
 unfold rowC
 rw [List.range_eq_range', Nat.sub_zero]
/-- The nodes, the first k of them one step on. -/
def mixC (H : Nat) (S S' : Nat → Ag) (k : Nat) : List Ag := (List.range H).map fun i => if i < k then S' i else S i
theorem mixC_set {H k : Nat} (S S' : Nat → Ag) (h : k < H) : (mixC H S S' k).set k (S' k) = mixC H S S' (k + 1) := by
 refine List.ext_getElem? fun i => ?_
 unfold mixC
 rw [List.getElem?_set, List.getElem?_map, List.getElem?_map, List.length_map, List.length_range]
 by_cases e : k = i
 · subst e
   rw [if_pos rfl, if_pos h, List.getElem?_range h]
   show some (S' k) = some (if k < k + 1 then S' k else S k)
   rw [if_pos (Nat.lt_succ_self k)]
 · rw [if_neg e]
   by_cases hi : i < H
   · rw [List.getElem?_range hi]
     show some (if i < k then S' i else S i) = some (if i < k + 1 then S' i else S i)
     by_cases c : i < k
     · rw [if_pos c, if_pos (by omega)]
     · rw [if_neg c, if_neg (by omega)]
   · rw [List.getElem?_eq_none (by rw [List.length_range]; omega)]
     rfl
theorem mixC_get {H k : Nat} (S S' : Nat → Ag) (h : k < H) : (mixC H S S' k)[k]? = some (S k) := by
 unfold mixC
 rw [List.getElem?_map, List.getElem?_range h]
 show some (if k < k then S' k else S k) = some (S k)
 rw [if_neg (Nat.lt_irrefl k)]
/-- A row is delivered. -/
theorem row_del (q : Cp) (H : Nat) (m : Vt) (S S' : Nat → Ag) (O : Nat → List Vt) (rest : List (Nat × Vt)) (ht : ∀ i, i < H → takeA (pmC q i) (S i) m = (S' i, O i)) (hc : H + rest.length + H * ((List.range H).flatMap O).length ≤ 4096) : ∀ k, k ≤ H → dlC q ⟨mixC H S S' 0, rowC H m 0 ++ rest⟩ k = ⟨mixC H S S' k, rowC H m k ++ (rest ++ allC H ((List.range k).flatMap O))⟩
 | 0, _ => by
  show (⟨_, _⟩ : Cn) = ⟨_, _⟩
  rw [show allC H ((List.range 0).flatMap O) = [] from rfl, List.append_nil]
 | k + 1, hk => by
  show (delC q (dlC q ⟨mixC H S S' 0, rowC H m 0 ++ rest⟩ k) 0).1 = _
  rw [row_del q H m S S' O rest ht hc k (by omega), row_cons m hk, List.cons_append, del_cons]
  dsimp only
  unfold takeC
  rw [Nat.add_sub_cancel, show (⟨mixC H S S' k, rowC H m (k + 1) ++ (rest ++ allC H ((List.range k).flatMap O))⟩ : Cn).nd[k]? = some (S k) from mixC_get S S' hk]
  dsimp only
  rw [ht k hk, mixC_set S S' hk]
  have hl : (mixC H S S' k).length = H := by unfold mixC; rw [List.length_map, List.length_range]
  have mono : ((List.range k).flatMap O).length + (O k).length ≤ ((List.range H).flatMap O).length := by
   have e : List.range H = List.range (k + 1) ++ (List.range' (k + 1) (H - (k + 1))) := by
    rw [List.range_eq_range', List.range_eq_range', show H = (k + 1) + (H - (k + 1)) by omega, ← List.range'_append_1]
    simp
   rw [e, List.flatMap_append, List.length_append, List.range_succ, List.flatMap_append, List.length_append]
   simp
  rw [hl, say_all, List.append_assoc, List.append_assoc, ← all_app, List.range_succ, List.flatMap_append]
  · simp
  · rw [List.length_append, row_len, List.length_append, all_len]
    have h1 := Nat.mul_le_mul_left H mono
    rw [Nat.mul_add] at h1
    dsimp only
    omega
theorem mixC_end (H : Nat) (S S' : Nat → Ag) (S2 : Nat → Ag) : mixC H S S' H = mixC H S' S2 0 := by
 unfold mixC
 refine List.map_congr_left fun i hi => ?_
 rw [if_pos (List.mem_range.1 hi), if_neg (Nat.not_lt_zero i)]
/-- Rows are delivered. -/
theorem rows_del (q : Cp) (H : Nat) : ∀ (l : List Vt) (S : Nat → Nat → Ag) (O : Nat → Nat → List Vt) (acc : List Vt), (∀ j m, l[j]? = some m → ∀ i, i < H → takeA (pmC q i) (S j i) m = (S (j + 1) i, O j i)) → H * (l.length + acc.length + ((List.range l.length).flatMap fun j => (List.range H).flatMap (O j)).length) ≤ 4096 →
  dlC q ⟨mixC H (S 0) (S 0) 0, allC H l ++ allC H acc⟩ (H * l.length) = ⟨mixC H (S l.length) (S l.length) 0, allC H (acc ++ (List.range l.length).flatMap fun j => (List.range H).flatMap (O j))⟩
 | [], S, O, acc, _, _ => by
  show (⟨_, _⟩ : Cn) = ⟨_, _⟩
  rw [show allC H [] ++ allC H acc = allC H acc from rfl]
  simp
 | m :: l, S, O, acc, ht, hc => by
  have sp : (List.range (l.length + 1)).flatMap (fun j => (List.range H).flatMap (O j)) = (List.range H).flatMap (O 0) ++ (List.range l.length).flatMap fun j => (List.range H).flatMap (O (j + 1)) := by
   rw [List.range_succ_eq_map, List.flatMap_cons, List.flatMap_map]
  rw [List.length_cons] at hc ⊢
  rw [sp] at hc ⊢
  rw [List.length_append] at hc
  have m0 : mixC H (S 0) (S 0) 0 = mixC H (S 0) (S 1) 0 := by
   unfold mixC
   refine List.map_congr_left fun i _ => ?_
   rw [if_neg (Nat.not_lt_zero i), if_neg (Nat.not_lt_zero i)]
  have hr := row_del q H m (S 0) (S 1) (O 0) (allC H l ++ allC H acc) (fun i hi => ht 0 m rfl i hi) (by
   rw [List.length_append, all_len, all_len]
   simp only [Nat.mul_add, Nat.mul_one] at hc
   omega) H (Nat.le_refl H)
  rw [row_end, List.nil_append, mixC_end H (S 0) (S 1) (S 1)] at hr
  rw [show H * (l.length + 1) = H + H * l.length by rw [Nat.mul_succ, Nat.add_comm], dl_add, all_cons, List.append_assoc, m0, hr, List.append_assoc, ← all_app]
  have := rows_del q H l (fun j => S (j + 1)) (fun j => O (j + 1)) (acc ++ (List.range H).flatMap (O 0)) (fun j x hj i hi => ht (j + 1) x (by rw [List.getElem?_cons_succ]; exact hj) i hi) (by
   rw [List.length_append]
   refine Nat.le_trans (Nat.mul_le_mul_left H ?_) hc
   omega)
  rw [this, List.append_assoc]
theorem flat_one {α : Type} (Q : Nat) (L : List α) : ∀ n, (List.range n).flatMap (fun j => if j + 1 = Q then L else []) = if 1 ≤ Q ∧ Q ≤ n then L else []
 | 0 => by rw [if_neg (by omega)]; rfl
 | n + 1 => by
  rw [List.range_succ, List.flatMap_append, flat_one Q L n, List.flatMap_singleton]
  by_cases e : n + 1 = Q
  · rw [if_neg (by omega), if_pos e, if_pos (by omega), List.nil_append]
  · rw [if_neg e, List.append_nil]
    by_cases c : 1 ≤ Q ∧ Q ≤ n
    · rw [if_pos c, if_pos (by omega)]
    · rw [if_neg c, if_neg (by omega)]
theorem flat_vt (k : Int) (v : ByteArray) (n : Nat) : (List.range n).flatMap (fun i : Nat => [(⟨k, (i : Int) + 1, 0, 0, v⟩ : Vt)]) = vtC k v n := by
 unfold vtC
 induction n with
 | zero => rfl
 | succ n ih => rw [List.range_succ, List.flatMap_append, ih, List.map_append, List.flatMap_singleton]; rfl
theorem vt_get {k : Int} {v : ByteArray} {n j : Nat} {m : Vt} (h : (vtC k v n)[j]? = some m) : j < n ∧ m = ⟨k, (j : Int) + 1, 0, 0, v⟩ := by
 unfold vtC at h
 have hj : j < n := by have := (List.getElem?_eq_some_iff.1 h).1; rw [List.length_map, List.length_range] at this; exact this
 rw [List.getElem?_map, List.getElem?_range hj] at h
 injection h with h
 exact ⟨hj, h.symm⟩
theorem vt_len (k : Int) (v : ByteArray) (n : Nat) : (vtC k v n).length = n := by unfold vtC; rw [List.length_map, List.length_range]
section
variable {q : Cp} {m0 : Vt}
theorem inv_pv (h : ∀ i, i < q.vals.length → P0 (pmC q i) m0) {i : Nat} (hi : i < q.vals.length) : ∀ a, a ≤ q.n → InvA (pmC q i) (nsC (qmV q.n q.t) m0 a 0)
 | 0, _ => by
  have := (inv_take (start_quiet (pmC q i)).1 m0).1
  rw [take_m0 (h i hi)] at this
  exact this
 | a + 1, ha => by
  have hv := inv_pv h hi a (by omega)
  have := (inv_take hv ⟨2, (a : Int) + 1, 0, 0, m0.vl⟩).1
  have e := take_pv (h i hi) (a := a) (show a < q.n by omega) hv
  have e2 : takeA (pmC q i) (nsC (qmV q.n q.t) m0 a 0) ⟨2, (a : Int) + 1, 0, 0, m0.vl⟩ = _ := e
  rw [e2] at this
  exact this
theorem inv_pc (h : ∀ i, i < q.vals.length → P0 (pmC q i) m0) {i : Nat} (hi : i < q.vals.length) {a : Nat} (ha : a ≤ q.n) (hQ : qmV q.n q.t ≤ a) : ∀ b, b ≤ q.n → InvA (pmC q i) (nsC (qmV q.n q.t) m0 a b)
 | 0, _ => inv_pv h hi a ha
 | b + 1, hb => by
  have hv := inv_pc h hi ha hQ b (by omega)
  have := (inv_take hv ⟨3, (b : Int) + 1, 0, 0, m0.vl⟩).1
  have e2 : takeA (pmC q i) (nsC (qmV q.n q.t) m0 a b) ⟨3, (b : Int) + 1, 0, 0, m0.vl⟩ = _ := take_pc (h i hi) (a := a) (b := b) hQ (show b < q.n by omega) hv
  rw [e2] at this
  exact this
/-- All words arrive in order: all decide. -/
theorem calm_rows (hq : okC q) (h7 : q.vals.length ≤ 7) (hQ : qmV q.n q.t ≤ q.vals.length) (h : ∀ i, i < q.vals.length → P0 (pmC q i) m0) : dlC q ⟨mixC q.vals.length (fun i => (startA (pmC q i) newA).1) (fun i => (startA (pmC q i) newA).1) 0, allC q.vals.length [m0]⟩ (q.vals.length * 1 + (q.vals.length * q.vals.length + q.vals.length * q.vals.length)) = ⟨mixC q.vals.length (fun _ => nsC (qmV q.n q.t) m0 q.vals.length q.vals.length) (fun _ => nsC (qmV q.n q.t) m0 q.vals.length q.vals.length) 0, []⟩ := by
 have hn : q.vals.length ≤ q.n := by have := hq.1; omega
 have Q1 := qm_pos q.n q.t
 obtain ⟨H, hH⟩ : ∃ H, q.vals.length = H := ⟨_, rfl⟩
 rw [hH] at h7 hQ h hn ⊢
 have hb : ∀ x y z : Nat, x + y + z ≤ 21 → H * (x + y + z) ≤ 4096 := fun x y z hx => Nat.le_trans (Nat.mul_le_mul h7 hx) (by decide)
 have A := rows_del q H [m0] (fun j i => if j = 0 then (startA (pmC q i) newA).1 else nsC (qmV q.n q.t) m0 0 0) (fun _ i => [⟨2, (i : Int) + 1, 0, 0, m0.vl⟩]) [] (fun j m hj i hi => by
  cases j with
  | zero => injection hj with hj; subst hj; exact take_m0 (h i hi)
  | succ j => rw [List.getElem?_cons_succ, List.getElem?_nil] at hj; cases hj) (hb _ _ _ (by
   rw [List.length_singleton, show List.range 1 = [0] from rfl, List.flatMap_singleton, flat_vt, vt_len]; simp; omega))
 rw [List.length_singleton, show List.range 1 = [0] from rfl, List.flatMap_singleton, flat_vt, List.nil_append, show allC H [] = [] from rfl, List.append_nil] at A
 have B := rows_del q H (vtC 2 m0.vl H) (fun j _ => nsC (qmV q.n q.t) m0 j 0) (fun j i => if j + 1 = qmV q.n q.t then [⟨3, (i : Int) + 1, 0, 0, m0.vl⟩] else []) [] (fun j m hj i hi => by
  obtain ⟨h1, rfl⟩ := vt_get hj
  exact take_pv (h i hi) (show j < q.n by omega) (inv_pv (hH ▸ h) (hH ▸ hi) j (by omega)))
 have C := rows_del q H (vtC 3 m0.vl H) (fun j _ => nsC (qmV q.n q.t) m0 H j) (fun _ _ => []) [] (fun j m hj i hi => by
  obtain ⟨h1, rfl⟩ := vt_get hj
  exact take_pc (h i hi) hQ (show j < q.n by omega) (inv_pc (hH ▸ h) (hH ▸ hi) hn hQ j (by omega)))
 have fB : ((List.range H).flatMap fun j => (List.range H).flatMap fun i : Nat => if j + 1 = qmV q.n q.t then [(⟨3, (i : Int) + 1, 0, 0, m0.vl⟩ : Vt)] else []) = vtC 3 m0.vl H := by
  have : (fun j => (List.range H).flatMap fun i : Nat => if j + 1 = qmV q.n q.t then [(⟨3, (i : Int) + 1, 0, 0, m0.vl⟩ : Vt)] else []) = fun j => if j + 1 = qmV q.n q.t then vtC 3 m0.vl H else [] := by
   funext j
   by_cases e : j + 1 = qmV q.n q.t
   · simp only [if_pos e]; exact flat_vt 3 m0.vl H
   · simp only [if_neg e]; simp
  rw [this, flat_one, if_pos ⟨Q1, hQ⟩]
 have fC : ((List.range H).flatMap fun _ => (List.range H).flatMap fun _ : Nat => ([] : List Vt)) = [] := by simp
 rw [vt_len, fB] at B
 rw [vt_len, fC] at C
 rw [dl_add]
 have A2 : dlC q ⟨mixC H (fun i => (startA (pmC q i) newA).1) (fun i => (startA (pmC q i) newA).1) 0, allC H [m0]⟩ (H * 1) = _ := A
 rw [A2, dl_add]
 have B2 := B (hb _ _ _ (by rw [vt_len]; simp; omega))
 have C2 := C (hb _ _ _ (by simp; omega))
 rw [show allC H [] = [] from rfl, List.append_nil, List.nil_append] at B2
 rw [show allC H [] = [] from rfl, List.append_nil, List.nil_append] at C2
 show dlC q (dlC q ⟨mixC H (fun _ => nsC (qmV q.n q.t) m0 0 0) (fun _ => nsC (qmV q.n q.t) m0 0 0) 0, allC H (vtC 2 m0.vl H)⟩ (H * H)) (H * H) = _
 rw [B2, C2]
 rfl
end
theorem start_out (q : Cp) (i : Nat) : (startA (pmC q i) newA).2 = if leadA q.n q.ht 0 = (i : Int) + 1 then [⟨1, (i : Int) + 1, 0, -1, q.vals[i]?.getD emp⟩] else [] := by rw [start_eq]; rfl
theorem start_few (q : Cp) : ∀ i, ((List.range i).flatMap fun k => (startA (pmC q k) newA).2).length ≤ i
 | 0 => Nat.le_refl 0
 | i + 1 => by
  rw [List.range_succ, List.flatMap_append, List.length_append, List.flatMap_singleton]
  have := start_few q i
  have : (startA (pmC q i) newA).2.length ≤ 1 := by rw [start_out]; split <;> simp
  omega
theorem start_all (q : Cp) (h7 : q.vals.length ≤ 7) : ∀ i, i ≤ q.vals.length → (startC q i).wy = allC q.vals.length ((List.range i).flatMap fun k => (startA (pmC q k) newA).2)
 | 0, _ => rfl
 | i + 1, hi => by
  show sayC q.vals.length (startC q i).wy (startA (pmC q i) newA).2 = _
  rw [start_all q h7 i (by omega), say_all, ← all_app, List.range_succ, List.flatMap_append, List.flatMap_singleton]
  rw [all_len, ← Nat.mul_add]
  have := start_few q (i + 1)
  rw [List.range_succ, List.flatMap_append, List.length_append, List.flatMap_singleton] at this
  exact Nat.le_trans (Nat.mul_le_mul h7 (Nat.le_trans this (Nat.le_trans hi h7))) (by decide)
/-- The first leader is honest: all words arrive in order, and all decide its value. -/
theorem calm {q : Cp} (hq : okC q) {l : Nat} (hl : l < q.vals.length) (he : leadA q.n q.ht 0 = (l : Int) + 1) {n : Nat} (hn : q.vals.length * 1 + (q.vals.length * q.vals.length + q.vals.length * q.vals.length) ≤ n) : dlC q (startC q q.vals.length) n = ⟨mixC q.vals.length (fun _ => nsC (qmV q.n q.t) ⟨1, (l : Int) + 1, 0, -1, q.vals[l]?.getD emp⟩ q.vals.length q.vals.length) (fun _ => nsC (qmV q.n q.t) ⟨1, (l : Int) + 1, 0, -1, q.vals[l]?.getD emp⟩ q.vals.length q.vals.length) 0, []⟩ ∧ qmV q.n q.t ≤ q.vals.length := by
 obtain ⟨⟨g1, g2, g3, g4⟩, _, _, _, _, o1, o2⟩ := hq.2 l hl
 have g3' : 3 * (q.t : Int) + 1 ≤ (q.n : Int) := by have : (pmC q l).n = q.n := rfl; have : (pmC q l).t = q.t := rfl; omega
 have g4' : (q.n : Int) ≤ 7 := g4
 have h0 := hq.1
 have h7 : q.vals.length ≤ 7 := by omega
 have hQ : qmV q.n q.t ≤ q.vals.length := by unfold qmV; omega
 refine ⟨?_, hQ⟩
 have hP : ∀ i, i < q.vals.length → P0 (pmC q i) ⟨1, (l : Int) + 1, 0, -1, q.vals[l]?.getD emp⟩ := fun i hi => ⟨hq.2 i hi, wOk_iff.2 ⟨by dsimp only; omega, by dsimp only; omega, Int.le_refl 0, (by decide : (0 : Int) < 64), o2, .inl ⟨rfl, (by decide : (-1 : Int) ≤ -1), (by decide : (-1 : Int) < 0), o1⟩⟩, rfl, rfl, rfl, he.symm⟩
 have hS : startC q q.vals.length = ⟨mixC q.vals.length (fun i => (startA (pmC q i) newA).1) (fun i => (startA (pmC q i) newA).1) 0, allC q.vals.length [⟨1, (l : Int) + 1, 0, -1, q.vals[l]?.getD emp⟩]⟩ := by
  have e1 : (startC q q.vals.length).nd = mixC q.vals.length (fun i => (startA (pmC q i) newA).1) (fun i => (startA (pmC q i) newA).1) 0 := by
   refine List.ext_getElem? fun i => ?_
   unfold mixC
   by_cases hi : i < q.vals.length
   · rw [start_nd q _ i hi, if_pos hi, List.getElem?_map, List.getElem?_range hi]
     rfl
   · rw [List.getElem?_eq_none (by rw [start_len]; omega), List.getElem?_eq_none (by rw [List.length_map, List.length_range]; omega)]
  have e2 : (startC q q.vals.length).wy = allC q.vals.length [⟨1, (l : Int) + 1, 0, -1, q.vals[l]?.getD emp⟩] := by
   rw [start_all q h7 _ (Nat.le_refl _)]
   have : (fun k => (startA (pmC q k) newA).2) = fun k => if k + 1 = l + 1 then [(⟨1, (l : Int) + 1, 0, -1, q.vals[l]?.getD emp⟩ : Vt)] else [] := by
    funext k
    rw [start_out, he]
    by_cases e : k = l
    · subst e; rw [if_pos rfl, if_pos rfl]
    · rw [if_neg (by omega), if_neg (by omega)]
   rw [this, flat_one, if_pos ⟨by omega, hl⟩]
  rw [← e1, ← e2]
 rw [show n = (q.vals.length * 1 + (q.vals.length * q.vals.length + q.vals.length * q.vals.length)) + (n - (q.vals.length * 1 + (q.vals.length * q.vals.length + q.vals.length * q.vals.length))) by omega, dl_add, hS, calm_rows hq h7 hQ hP, dl_nil]
end Go.Proofs.Ytkfpmjepeikpjaa
