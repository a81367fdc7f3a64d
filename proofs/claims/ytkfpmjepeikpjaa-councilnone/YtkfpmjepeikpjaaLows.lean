/-
  n cells of one kind of number in a block, which may be written; and slices over them. No function of the program is named here.
  A whole block of n numbers of one kind: known by the heap; loaded, stored, written. No function of the program is named here.
  A slice that a call has made, whatever mark its row bears (a row that '[]byte(s)' made bears one): appended to. No function of the program is named here.
  Texts as bytes; slices of bytes that are made into texts. No function of the program is named here.
  Slices that are read: cells of a slice by their number. No function of the program is named here.
-/
import Derived.Test.YtkfpmjepeikpjaaEx
import Derived.Test.YtkfpmjepeikpjaaMulMath
import Derived.Laws.BitsAllLaws
import Derived.ArgAppend
import Derived.Deep.AppendLies
import Derived.Lib.ConvBytes
import Derived.Laws.BytesString
namespace Go.Proofs.Ytkfpmjepeikpjaa
set_option maxRecDepth 10000
open Go.RowKit
/-- n numbers in block b, which may be written. -/
def TabN (w : World) (b : Nat) (kd : IntKind) (n : Nat) (T : Nat → Nat) : Prop := b < w.heap.size ∧ ∀ k, k < n → w.cell? ⟨b, k, none⟩ = some (.int kd (T k : Int)) ∧ w.frozen? ⟨b, k, none⟩ = false
theorem TabN.ext {w w' : World} {b n : Nat} {kd : IntKind} {T : Nat → Nat} (h : TabN w b kd n T) (hx : Ext w w') : TabN w' b kd n T :=
 ⟨Nat.lt_of_lt_of_le h.1 hx.size, fun k hk => ⟨later hx (h.2 k hk).1, (hx.cells.2 b k h.1).trans (h.2 k hk).2⟩⟩
theorem TabN.set {w : World} {b n : Nat} {kd : IntKind} {T : Nat → Nat} (h : TabN w b kd n T) (o v : Nat) : TabN (w.setCell ⟨b, o, none⟩ (.int kd (v : Int))) b kd n (put T o v) := by
 refine ⟨by simpa using h.1, fun k hk => ⟨?_, by simpa using (h.2 k hk).2⟩⟩
 by_cases e : k = o
 ·subst e
  rw [put_same]
  exact World.cell?_setCell_same' _ _ _ (by rw [(h.2 k hk).1]; rfl)
 ·rw [put_other _ _ e, World.cell?_setCell_other _ _ _ _ (fun q => e (by injection q with _ q _; exact q.symm))]
  exact (h.2 k hk).1
theorem TabN.other {w : World} {b c i n : Nat} {kd : IntKind} {T : Nat → Nat} {v : Value} (hne : c ≠ b) (h : TabN w c kd n T) : TabN (w.setCell ⟨b, i, none⟩ v) c kd n T :=
 ⟨by simpa using h.1, fun k hk => ⟨by rw [World.cell?_setCell_far _ _ _ _ (fun q => hne q.symm)]; exact (h.2 k hk).1, by simpa using (h.2 k hk).2⟩⟩
theorem TabN.new (w : World) (kd : IntKind) (n : Nat) (t : TypeId) : TabN (w.alloc (.cells (Array.replicate n (.int kd 0)) t)) w.heap.size kd n (fun _ => 0) :=
 ⟨by simp, fun k hk => ⟨by rw [World.cell?_alloc_at _ _ _ _ rfl]; simp [hk], World.frozen?_alloc_at _ _ _ _ rfl⟩⟩
/-- The first n numbers, as a list of cells. -/
def lst (kd : IntKind) (T : Nat → Nat) (n : Nat) : List Value := (List.range n).map fun (i : Nat) => Value.int kd (T i : Int)
theorem lst_len (kd : IntKind) (T : Nat → Nat) (n : Nat) : (lst kd T n).length = n := by simp [lst]
theorem lst_get {kd : IntKind} {T : Nat → Nat} {n i : Nat} (h : i < n) : (lst kd T n)[i]? = some (.int kd (T i : Int)) := by
 unfold lst
 rw [List.getElem?_map, List.getElem?_range h]
 rfl
theorem lst_of {kd : IntKind} {T : Nat → Nat} {n i : Nat} {x : Value} (h : (lst kd T n)[i]? = some x) : i < n ∧ x = .int kd (T i : Int) := by
 have hi : i < n := by
  have := (List.getElem?_eq_some_iff.1 h).1
  rwa [lst_len] at this
 rw [lst_get hi] at h
 exact ⟨hi, (Option.some.inj h).symm⟩
theorem lst_succ (kd : IntKind) (T : Nat → Nat) (n : Nat) : lst kd T (n + 1) = lst kd T n ++ [.int kd (T n : Int)] := by simp [lst, List.range_succ]
theorem lst_congr {kd : IntKind} {T S : Nat → Nat} {n : Nat} (h : ∀ k, k < n → T k = S k) : lst kd T n = lst kd S n := by
 unfold lst
 refine List.map_congr_left fun i hi => ?_
 rw [h i (List.mem_range.1 hi)]
theorem TabN.slice {w : World} {b n c : Nat} {kd : IntKind} {T : Nat → Nat} (h : TabN w b kd n T) (hn : n ≤ maxLen) : SlIs w (.slice (some ⟨b, 0, none⟩) n c) (lst kd T n) :=
 .inr ⟨b, 0, c, by rw [lst_len], h.1, by rw [lst_len]; exact hn, fun j x hj => by obtain ⟨hk, rfl⟩ := lst_of hj; rw [Nat.zero_add]; exact (h.2 j hk).1⟩
/-- A slice that is read, its first cell's place given. -/
theorem SlIs.form {w : World} {v : Value} {kd : IntKind} {T : Nat → Nat} {n : Nat} (h : SlIs w v (lst kd T n)) (hn : 0 < n) : ∃ b o c, v = .slice (some ⟨b, o, none⟩) n c ∧ b < w.heap.size ∧ ∀ j, j < n → w.cell? ⟨b, o + j, none⟩ = some (.int kd (T j : Int)) := by
 rcases h with ⟨_, h⟩ | ⟨b, o, c, h1, h2, _, h4⟩
 ·have := lst_len kd T n
  rw [h] at this
  simp at this
  omega
 ·rw [lst_len] at h1
  exact ⟨b, o, c, h1, h2, fun j hj => h4 j _ (lst_get hj)⟩
theorem own_tab {w : World} {base g n c : Nat} {e : TypeId} {kd : IntKind} {T : Nat → Nat} (h : w.ownsRow base e 1 (.slice (some ⟨g, 0, none⟩) n c) n (lst kd T n)) : TabN w g kd n T := by
 have hc := h.cells (g := g) rfl
 rcases h.2 with ⟨h0, _⟩ | ⟨g', cap, cur, hv, hb, hgg, rest⟩
 ·cases h0
 ·injection hv with hv _ _
  injection hv with hv
  injection hv with hv _ _
  subst hv
  refine ⟨(Array.getElem?_eq_some_iff.1 hgg).1, fun k hk => ⟨?_, by simp [World.frozen?, hgg]⟩⟩
  have := hc k _ (lst_get hk)
  have hadd : (⟨g, 0, none⟩ : Addr).add k = ⟨g, k, none⟩ := by unfold Addr.add; split <;> simp_all
  rwa [hadd] at this
theorem made_lst (kd : IntKind) (n : Nat) : (madeCells (Value.int kd 0).cells (n * 1)).toList = lst kd (fun _ => 0) n := by
 unfold madeCells lst
 rw [Nat.mul_one]
 simp [Value.cells, Nat.mod_one]
theorem made_lst' (kd : IntKind) (n : Nat) : (madeCells #[Value.int kd 0] n).toList = lst kd (fun _ => 0) n := by
 have h := made_lst kd n
 rw [Nat.mul_one] at h
 exact h
theorem and32 (t : Nat) (h : t < 18446744073709551616) : bits BinOp.and IntKind.u64 (t : Int) 4294967295 = ((t % BW : Nat) : Int) := by
 have := u64_and_nat t 4294967295 h (by decide)
 rw [show ((4294967295 : Nat) : Int) = 4294967295 from rfl, show (4294967295 : Nat) = 2 ^ 32 - 1 from by decide, Nat.and_two_pow_sub_one_eq_mod] at this
 exact this
end Go.Proofs.Ytkfpmjepeikpjaa
namespace Go.Proofs.Ytkfpmjepeikpjaa
set_option maxRecDepth 10000
open Go.RowKit
/-- Block b is n numbers, and may be written. -/
def RowH (w : World) (b : Nat) (ty : TypeId) (kd : IntKind) (n : Nat) (T : Nat → Nat) : Prop := w.heap[b]? = some (.cells (lst kd T n).toArray ty (0, 0))
theorem RowH.lt {w : World} {b n : Nat} {ty : TypeId} {kd : IntKind} {T : Nat → Nat} (h : RowH w b ty kd n T) : b < w.heap.size := (Array.getElem?_eq_some_iff.1 h).1
theorem RowH.ext {w w' : World} {b n : Nat} {ty : TypeId} {kd : IntKind} {T : Nat → Nat} (h : RowH w b ty kd n T) (hx : Ext w w') : RowH w' b ty kd n T := (Below.block hx b h.lt).trans h
theorem RowH.tab {w : World} {b n : Nat} {ty : TypeId} {kd : IntKind} {T : Nat → Nat} (h : RowH w b ty kd n T) : TabN w b kd n T := by
 refine ⟨h.lt, fun k hk => ⟨?_, ?_⟩⟩
 ·have h2 : w.heap[b]? = some (.cells (lst kd T n).toArray ty (0, 0)) := h
  rw [cell_of_row w b k _ _ _ h2]
  simpa using lst_get hk
 ·have h2 : w.heap[b]? = some (.cells (lst kd T n).toArray ty (0, 0)) := h
  simp [World.frozen?, h2]
theorem lst_put (kd : IntKind) (T : Nat → Nat) (n o v : Nat) : (lst kd T n).set o (.int kd (v : Int)) = lst kd (put T o v) n := by
 apply List.ext_getElem?
 intro k
 rw [List.getElem?_set]
 by_cases hk : k < n
 ·rw [lst_get hk, lst_get hk]
  by_cases e : o = k
  ·subst e
   rw [if_pos rfl, if_pos (by rw [lst_len]; exact hk), put_same]
  ·rw [if_neg e, put_other _ _ (fun q => e q.symm)]
 ·rw [List.getElem?_eq_none (by rw [lst_len]; omega), List.getElem?_eq_none (by rw [lst_len]; omega)]
  split
  ·rw [if_neg (by rw [lst_len]; omega)]
  ·rfl
theorem RowH.set {w : World} {b n : Nat} {ty : TypeId} {kd : IntKind} {T : Nat → Nat} (h : RowH w b ty kd n T) (o v : Nat) : RowH (w.setCell ⟨b, o, none⟩ (.int kd (v : Int))) b ty kd n (put T o v) := by
 have h2 : w.heap[b]? = some (.cells (lst kd T n).toArray ty (0, 0)) := h
 unfold RowH
 rw [setCell_eq_setRow w b o _ ty (0, 0) _ h2, setRow_heap w b _ _ ty _ h2]
 congr 2
 rw [← lst_put]
 simp
theorem RowH.other {w : World} {b c i n : Nat} {ty : TypeId} {kd : IntKind} {T : Nat → Nat} {v : Value} (hne : c ≠ b) (h : RowH w c ty kd n T) (hb : ∃ cs t fr, w.heap[b]? = some (.cells cs t fr)) : RowH (w.setCell ⟨b, i, none⟩ v) c ty kd n T := by
 obtain ⟨cs, t, fr, hb⟩ := hb
 unfold RowH
 rw [setCell_eq_setRow w b i cs t fr v hb, setRow_other w b c _ hne]
 exact h
theorem RowH.new (w : World) (kd : IntKind) (n : Nat) (t : TypeId) : RowH (w.alloc (.cells (Array.replicate n (.int kd 0)) t)) w.heap.size t kd n (fun _ => 0) := by
 unfold RowH
 rw [heap_alloc_new]
 congr 2
 apply Array.ext'
 apply List.ext_getElem?
 intro k
 by_cases hk : k < n
 ·simp [lst_get hk, hk]
 ·rw [List.getElem?_eq_none (by simp; omega), List.getElem?_eq_none (by simp [lst_len]; omega)]
theorem RowH.load {P : Program} {w : World} {b n : Nat} {ty : TypeId} {kd : IntKind} {T : Nat → Nat} {e : TypeId} {m : Nat} (h : RowH w b ty kd n T) (t : TypeId) (hu : P.underlying t = some (.array m e)) (hi : (P.info? t).map (·.size) = some n) :
  (loadVar t ⟨b, 0, none⟩).run P w = .ok (.agg (lst kd T n).toArray) w :=
 run_loadVar_row w b ty t _ _ _ h hu rfl (by rw [hi]; simp [lst_len])
theorem lst_one (kd : IntKind) (T : Nat → Nat) (n : Nat) : (lst kd T n).toArray.all (·.oneCell') = true := by
 rw [Array.all_eq_true_iff_forall_mem]
 intro v hv
 simp [lst] at hv
 obtain ⟨i, _, rfl⟩ := hv
 rfl
theorem RowH.store {P : Program} {w : World} {b n : Nat} {ty : TypeId} {kd : IntKind} {T : Nat → Nat} (h : RowH w b ty kd n T) (t : TypeId) (S : Nat → Nat) (hi : (P.info? t).map (·.size) = some n) :
  (storeVar t ⟨b, 0, none⟩ (.agg (lst kd S n).toArray)).run P w = .ok () (w.setRow b (lst kd S n).toArray) :=
 run_storeVar_row w b ty t _ _ h (by rw [hi]; simp [lst_len]) (by simp [lst_len]) (lst_one kd S n)
theorem RowH.row {w : World} {b n : Nat} {ty : TypeId} {kd : IntKind} {T : Nat → Nat} (h : RowH w b ty kd n T) (S : Nat → Nat) : RowH (w.setRow b (lst kd S n).toArray) b ty kd n S := setRow_heap w b _ _ ty _ h
theorem Ext.row {a w : World} (h : Ext a w) {b : Nat} (hb : a.heap.size ≤ b) (cs : Array Value) : Ext a (w.setRow b cs) :=
 Below.trans h ⟨rfl, rfl, rfl, by simp [World.setRow], fun k hk => setRow_other w b k cs (by omega)⟩
end Go.Proofs.Ytkfpmjepeikpjaa
namespace Go.Proofs.Ytkfpmjepeikpjaa
set_option maxRecDepth 10000
open Go.RowKit
/-- v is a slice of n numbers T 0 .. from the beginning of a block of its own; all its cells may be written. -/
def OwnF (w : World) (base : Nat) (kd : IntKind) (v : Value) (n : Nat) (T : Nat → Nat) : Prop :=
 ∃ g cap, v = .slice (some ⟨g, 0, none⟩) n cap ∧ base ≤ g ∧ g < w.heap.size ∧ n ≤ cap ∧ cap ≤ maxLen ∧ (∀ j, j < n → w.cell? ⟨g, j, none⟩ = some (.int kd (T j : Int))) ∧ ∀ j, j < cap → (w.cell? ⟨g, j, none⟩).isSome = true ∧ w.frozen? ⟨g, j, none⟩ = false
theorem OwnF.ext {w w' : World} {base n : Nat} {kd : IntKind} {v : Value} {T : Nat → Nat} (h : OwnF w base kd v n T) (hx : Ext w w') : OwnF w' base kd v n T := by
 obtain ⟨g, cap, rfl, hb, hg, hn, hm, hc, hf⟩ := h
 exact ⟨g, cap, rfl, hb, Nat.lt_of_lt_of_le hg hx.size, hn, hm, fun j hj => later hx (hc j hj), fun j hj => ⟨by rw [hx.cells.1 g j hg]; exact (hf j hj).1, (hx.cells.2 g j hg).trans (hf j hj).2⟩⟩
theorem OwnF.at {w : World} {base n : Nat} {kd : IntKind} {v : Value} {T : Nat → Nat} (h : OwnF w base kd v n T) : ∀ k, v.ownBlock = some k → base ≤ k := by
 obtain ⟨g, cap, rfl, hb, _⟩ := h
 intro k hk
 cases hk
 exact hb
theorem OwnF.read {w : World} {base n : Nat} {kd : IntKind} {v : Value} {T : Nat → Nat} (h : OwnF w base kd v n T) : SlIs w v (lst kd T n) := by
 obtain ⟨g, cap, rfl, hb, hg, hn, hm, hc, hf⟩ := h
 exact .inr ⟨g, 0, cap, by rw [lst_len], hg, by rw [lst_len]; omega, fun j x hj => by obtain ⟨hk, rfl⟩ := lst_of hj; rw [Nat.zero_add]; exact hc j hk⟩
theorem own_to_f {w : World} {base n : Nat} {e : TypeId} {kd : IntKind} {v : Value} {T : Nat → Nat} (h : w.ownsRow base e 1 v n (lst kd T n)) (hn : 0 < n) : OwnF w base kd v n T := by
 rcases h.2 with ⟨_, h0⟩ | ⟨g, cap, cur, rfl, hb, hgg, hnc, hm, hs, ht⟩
 ·omega
 ·refine ⟨g, cap, rfl, hb, (Array.getElem?_eq_some_iff.1 hgg).1, hnc, hm, (fun j hj => (own_tab h).2 j hj |>.1), fun j hj => ⟨?_, by simp [World.frozen?, hgg]⟩⟩
  rw [cell_of_row w g j cur e (0, 0) hgg]
  have : j < cur.size := by omega
  simp [this]
theorem setCells_heap (b : Nat) : ∀ (vs : List Value) (o : Nat) (w : World), (w.setCells b o vs).heap.size = w.heap.size ∧ ∀ k, k ≠ b → (w.setCells b o vs).heap[k]? = w.heap[k]?
 | [], _, _ => ⟨rfl, fun _ _ => rfl⟩
 | v :: r, o, w => by
  obtain ⟨h1, h2⟩ := setCells_heap b r (o + 1) (w.setCell ⟨b, o, none⟩ v)
  refine ⟨?_, fun k hk => ?_⟩
  ·show ((w.setCell ⟨b, o, none⟩ v).setCells b (o + 1) r).heap.size = _
   rw [h1, World.size_setCell]
  ·show ((w.setCell ⟨b, o, none⟩ v).setCells b (o + 1) r).heap[k]? = _
   rw [h2 k hk, heap_setCell_other w ⟨b, o, none⟩ k v hk]
theorem setCells_same (b : Nat) : ∀ (vs : List Value) (o : Nat) (w : World), (w.setCells b o vs).os = w.os ∧ (w.setCells b o vs).tape = w.tape ∧ (w.setCells b o vs).output = w.output
 | [], _, _ => ⟨rfl, rfl, rfl⟩
 | v :: r, o, w => setCells_same b r (o + 1) (w.setCell ⟨b, o, none⟩ v)
theorem setCells_grown (w : World) (b o : Nat) (vs : List Value) : w.grownBy (w.setCells b o vs) (some b) :=
 ⟨(setCells_same b vs o w).1, (setCells_same b vs o w).2.1, (setCells_same b vs o w).2.2, by rw [(setCells_heap b vs o w).1]; exact Nat.le_refl _, fun k _ hk => (setCells_heap b vs o w).2 k (fun q => hk (by rw [q]))⟩
/-- What is appended. -/
def newsL (kd : IntKind) (T : Nat → Nat) (n m : Nat) : List Value := lst kd (fun j => T (n + j)) m
theorem lst_app (kd : IntKind) (T : Nat → Nat) (n m : Nat) : lst kd T n ++ newsL kd T n m = lst kd T (n + m) := by
 induction m with
 | zero => simp [newsL, lst]
 | succ m ih =>
  rw [show n + (m + 1) = (n + m) + 1 from rfl, lst_succ, ← ih]
  unfold newsL
  rw [lst_succ, List.append_assoc]
theorem run_append_f {P : Program} (w : World) (base : Nat) (t ty e : TypeId) (i : TypeInfo) (z : Value) (bytes : Nat) (ht : P.underlying t = some (.slice e)) (hi : P.info? e = some i) (hz : i.zero = some z) (hsize : i.size = 1) (hby : i.bytes = bytes) (hzs : z.cells.size = 1)
  (kd : IntKind) (v : Value) (n : Nat) (T : Nat → Nat) (hown : OwnF w base kd v n T) (a : Addr) (m c : Nat) (hnews : ∀ j u, (newsL kd T n m)[j]? = some u → w.cell? (a.add j) = some u) (_hm : 0 ≤ m)
  (h63 : n + m ≤ maxLen) (hbytes : (n + m) * bytes ≤ 140737488355328) (hbase : base ≤ w.heap.size) :
  ∃ v' w', (Builtin.append_ #[t, t] ty #[v, .slice (some a) m c]).run P w = .ok v' w' ∧ OwnF w' base kd v' (n + m) T ∧ w.grownBy w' v.ownBlock := by
 obtain ⟨g, cap, rfl, hb, hg, hn, hcm, hc, hf⟩ := hown
 have hl : (newsL kd T n m).length = m * 1 := by unfold newsL; rw [lst_len, Nat.mul_one]
 have h1 : ∀ u ∈ newsL kd T n m, u.oneCell' = true := fun u hu => by
  simp [newsL, lst] at hu
  obtain ⟨i, _, rfl⟩ := hu
  rfl
 by_cases hroom : n + m ≤ cap
 ·have hr := run_append_room_cells (P := P) w t ty e i ht hi g 0 n cap a m c (newsL kd T n m) (by rw [hsize]; exact hl) hnews h1 hroom (fun j hj => by rw [hsize, Nat.mul_one, Nat.zero_add]; exact (hf (n + j) (by omega)).1) (fun j hj => by rw [hsize, Nat.mul_one, Nat.zero_add]; exact (hf (n + j) (by omega)).2)
  rw [hsize, Nat.mul_one, Nat.zero_add] at hr
  refine ⟨_, _, hr, ⟨g, cap, rfl, hb, by rw [(setCells_heap g _ n w).1]; exact hg, hroom, hcm, fun j hj => ?_, fun j hj => ⟨?_, by rw [World.frozen?_setCells]; exact (hf j hj).2⟩⟩, setCells_grown w g n _⟩
  ·by_cases hj2 : j < n
   ·rw [World.cell?_setCells_out g _ n w ⟨g, j, none⟩ (fun _ _ => Or.inl hj2)]
    exact hc j hj2
   ·obtain ⟨k, rfl⟩ : ∃ k, j = n + k := ⟨j - n, by omega⟩
    have hk : k < (newsL kd T n m).length := by rw [hl]; omega
    rw [World.cell?_setCells_in g _ n w (fun q hq => (hf (n + q) (by rw [hl] at hq; omega)).1) k hk]
    have := lst_get (kd := kd) (T := fun j => T (n + j)) (n := m) (i := k) (by omega)
    rw [← List.getElem?_eq_getElem hk]
    exact this
  ·by_cases hj2 : j < n ∨ n + (newsL kd T n m).length ≤ j
   ·rw [World.cell?_setCells_out g _ n w ⟨g, j, none⟩ (fun _ _ => hj2)]
    exact (hf j hj).1
   ·obtain ⟨k, rfl⟩ : ∃ k, j = n + k := ⟨j - n, by omega⟩
    rw [World.cell?_setCells_in g _ n w (fun q hq => (hf (n + q) (by rw [hl] at hq; omega)).1) k (by omega)]
    rfl
 ·obtain ⟨v', w', hr, ho, hgr⟩ := run_append_arg_grows (P := P) w t ty e i z 1 bytes ht hi hz hsize hby hzs (by decide) ⟨g, 0, none⟩ n cap (lst kd T n) (by rw [lst_len, Nat.mul_one]) (fun j u hu => by
   obtain ⟨hj, rfl⟩ := lst_of hu
   have hadd : (⟨g, 0, none⟩ : Addr).add j = ⟨g, j, none⟩ := by unfold Addr.add; split <;> simp_all
   rw [hadd]; exact hc j hj) a m c (newsL kd T n m) hl hnews (by omega) h63 hbytes
  rw [lst_app] at ho
  exact ⟨v', w', hr, own_to_f (own_base ho hbase) (by omega), ⟨hgr.os, hgr.tape, hgr.output, hgr.size, fun k hk _ => hgr.block k hk (by simp)⟩⟩
theorem wp_append_f {P : Program} (w : World) {o : Oper} {a : Act} {K : Act → World → Prop} {Q : Exit → Act → World → Prop} (s x : Operand) (t : TypeId)
  (ho : o.op = .call { callee := .builtin .append, args := #[s, x], argTypes := #[t, t] })
  (base : Nat) (e : TypeId) (i : TypeInfo) (z : Value) (bytes : Nat) (ht : P.underlying t = some (.slice e)) (hi : P.info? e = some i) (hz : i.zero = some z) (hsize : i.size = 1) (hby : i.bytes = bytes) (hzs : z.cells.size = 1)
  (kd : IntKind) (v : Value) (n : Nat) (T : Nat → Nat) (hs : a.eval s = v) (hown : OwnF w base kd v n T) (ad : Addr) (m c : Nat) (hx : a.eval x = .slice (some ad) m c) (hnews : ∀ j u, (newsL kd T n m)[j]? = some u → w.cell? (ad.add j) = some u) (hm : 0 ≤ m)
  (h63 : n + m ≤ maxLen) (hbytes : (n + m) * bytes ≤ 140737488355328) (hbase : base ≤ w.heap.size)
  (h : ∀ v' w', OwnF w' base kd v' (n + m) T → w.grownBy w' v.ownBlock → K (a.put o.dst v') w') : o.wp P a w K Q := by
 obtain ⟨v', w', hr, h2, h3⟩ := run_append_f (P := P) w base t o.type e i z bytes ht hi hz hsize hby hzs kd v n T hown ad m c hnews hm h63 hbytes hbase
 unfold Oper.wp execOp
 simp only [ho, resolve, invoke, builtin, Sem.run_bind, Sem.run_pure, Result.andThen_ok, List.map_toArray, List.map_cons, List.map_nil, hs, hx, hr]
 exact h v' w' h2 h3
theorem wpList_append_f {P : Program} (w : World) {ops : Array Oper} {rest : List Oper} {o : Oper} {a : Act} {Q : Exit → Act → World → Prop} (hgd : o.guard = none) (s x : Operand) (t : TypeId)
  (ho : o.op = .call { callee := .builtin .append, args := #[s, x], argTypes := #[t, t] })
  (base : Nat) (e : TypeId) (i : TypeInfo) (z : Value) (bytes : Nat) (ht : P.underlying t = some (.slice e)) (hi : P.info? e = some i) (hz : i.zero = some z) (hsize : i.size = 1) (hby : i.bytes = bytes) (hzs : z.cells.size = 1)
  (kd : IntKind) (v : Value) (n : Nat) (T : Nat → Nat) (hs : a.eval s = v) (hown : OwnF w base kd v n T) (ad : Addr) (m c : Nat) (hx : a.eval x = .slice (some ad) m c) (hnews : ∀ j u, (newsL kd T n m)[j]? = some u → w.cell? (ad.add j) = some u) (hm : 0 ≤ m)
  (h63 : n + m ≤ maxLen) (hbytes : (n + m) * bytes ≤ 140737488355328) (hbase : base ≤ w.heap.size)
  (h : ∀ v' w', OwnF w' base kd v' (n + m) T → w.grownBy w' v.ownBlock → wpList P ops Q rest (a.put o.dst v') w') : wpList P ops Q (o :: rest) a w :=
 wpList_plain hgd fun _ hK => wp_append_f w s x t ho base e i z bytes ht hi hz hsize hby hzs kd v n T hs hown ad m c hx hnews hm h63 hbytes hbase fun v' w' h2 h3 => hK _ _ (h v' w' h2 h3)
theorem step_append_f {P : Program} (w : World) {ops : Array Oper} {o : Oper} {a : Act} {K : Act → World → Prop} {Q : Exit → Act → World → Prop} {E : Prop} (hgd : o.guard = none) (s x : Operand) (t : TypeId)
  (ho : o.op = .call { callee := .builtin .append, args := #[s, x], argTypes := #[t, t] })
  (base : Nat) (e : TypeId) (i : TypeInfo) (z : Value) (bytes : Nat) (ht : P.underlying t = some (.slice e)) (hi : P.info? e = some i) (hz : i.zero = some z) (hsize : i.size = 1) (hby : i.bytes = bytes) (hzs : z.cells.size = 1)
  (kd : IntKind) (v : Value) (n : Nat) (T : Nat → Nat) (hs : a.eval s = v) (hown : OwnF w base kd v n T) (ad : Addr) (m c : Nat) (hx : a.eval x = .slice (some ad) m c) (hnews : ∀ j u, (newsL kd T n m)[j]? = some u → w.cell? (ad.add j) = some u) (hm : 0 ≤ m)
  (h63 : n + m ≤ maxLen) (hbytes : (n + m) * bytes ≤ 140737488355328) (hbase : base ≤ w.heap.size)
  (h : ∀ v' w', OwnF w' base kd v' (n + m) T → w.grownBy w' v.ownBlock → K (a.put o.dst v') w') :
  if Region.wanted o (yielded ops a.tmps) = true then Oper.wp P o a w K Q else E := by
 have hw : Region.wanted o (yielded ops a.tmps) = true := by simp [Region.wanted, hgd]
 rw [if_pos hw]
 exact wp_append_f w s x t ho base e i z bytes ht hi hz hsize hby hzs kd v n T hs hown ad m c hx hnews hm h63 hbytes hbase h
end Go.Proofs.Ytkfpmjepeikpjaa
namespace Go.Proofs.Ytkfpmjepeikpjaa
set_option maxRecDepth 10000
open Go.RowKit
/-- Byte j of a text. -/
def sb (s : ByteArray) (j : Nat) : Nat := (s.data.toList.getD j 0).toNat
theorem sb_lt (s : ByteArray) (j : Nat) : sb s j < 256 := UInt8.toNat_lt _
theorem bytes_ext (W : World) (e : TypeId) (s : ByteArray) : Ext W (Lib.bytesWorld W e s) :=
 ⟨rfl, rfl, rfl, by rw [Lib.bytesWorld_size]; omega, fun k hk => Lib.bytesWorld_at_old W e s k hk⟩
theorem bytes_cap (W : World) (e : TypeId) (s : ByteArray) : (Lib.bytesCells W e s).size = grownCap W s.size 0 e := by
 have := grownCap_ge W s.size 0 e
 unfold Lib.bytesCells
 simp
 omega
theorem bytes_own (W : World) (e : TypeId) (s : ByteArray) (hs : s.size ≤ maxLen) : OwnF (Lib.bytesWorld W e s) W.heap.size .u8 (.slice (some ⟨W.heap.size, 0, none⟩) s.size (grownCap W s.size 0 e)) s.size (sb s) := by
 have hb := bytes_cap W e s
 refine ⟨_, _, rfl, Nat.le_refl _, by rw [Lib.bytesWorld_size]; omega, grownCap_ge _ _ _ _, grownCap_le_maxLen _ _ _ _ hs, fun j hj => Lib.bytesWorld_cell W e s j hj, fun j hj => ⟨?_, ?_⟩⟩
 ·simp only [World.cell?, Lib.bytesWorld_at_new]
  have : j < (Lib.bytesCells W e s).size := by omega
  simp [this]
 ·simp only [World.frozen?, Lib.bytesWorld_at_new]
  simp
  omega
theorem OwnF.congr {w : World} {base n : Nat} {kd : IntKind} {v : Value} {T S : Nat → Nat} (h : OwnF w base kd v n T) (e : ∀ j, j < n → T j = S j) : OwnF w base kd v n S := by
 obtain ⟨g, cap, rfl, hb, hg, hn, hm, hc, hf⟩ := h
 exact ⟨g, cap, rfl, hb, hg, hn, hm, fun j hj => by rw [← e j hj]; exact hc j hj, hf⟩
theorem foldl_push (ns : List Int) (l : List UInt8) : ns.foldl (fun r n => r.push (UInt8.ofNat n.toNat)) (⟨l.toArray⟩ : ByteArray) = ⟨(l ++ ns.map fun n => UInt8.ofNat n.toNat).toArray⟩ := by
 induction ns generalizing l with
 | nil => simp
 | cons n ns ih =>
  rw [List.foldl_cons]
  have : (⟨l.toArray⟩ : ByteArray).push (UInt8.ofNat n.toNat) = ⟨(l ++ [UInt8.ofNat n.toNat]).toArray⟩ := by
   show ByteArray.mk (l.toArray.push _) = _
   simp
  rw [this, ih]
  simp
/-- The text of n bytes. -/
def mkS (T : Nat → Nat) (n : Nat) : ByteArray := ⟨((List.range n).map fun i => UInt8.ofNat (T i)).toArray⟩
theorem run_lst_string (P : Program) (t5 t33 t9 : TypeId) (h33 : P.underlying t33 = some (.slice t5)) (h5 : P.underlying t5 = some (.int .u8)) (h9 : P.underlying t9 = some .string) (w : World) (T : Nat → Nat) (n : Nat) (v : Value) (h : SlIs w v (lst .u8 T n)) (hn : 0 < n) :
  (convert t33 t9 v).run P w = .ok (.string (mkS T n)) w := by
 obtain ⟨b, o, c, rfl, hb, hc⟩ := h.form hn
 rw [run_convert_bytes_string _ t33 t9 t5 _ _ _ h33 h5 h9]
 rw [run_bytesToString _ _ _ _ ((List.range n).map fun i => ((T i : Nat) : Int))]
 ·have := foldl_push ((List.range n).map fun i => ((T i : Nat) : Int)) []
  rw [show (ByteArray.empty : ByteArray) = ⟨([] : List UInt8).toArray⟩ from rfl, this]
  unfold mkS
  simp
 ·have := run_loadCells_list (P := P) (w := w) ⟨b, o, none⟩ (((List.range n).map fun i => ((T i : Nat) : Int)).map (Value.int .u8)) (by
   intro j v hv
   have hj : j < n := by
    have := (List.getElem?_eq_some_iff.1 hv).1
    simpa using this
   have e : (((List.range n).map fun i => ((T i : Nat) : Int)).map (Value.int .u8))[j]? = some (.int .u8 ((T j : Nat) : Int)) := by simp [hj]
   rw [e] at hv
   have hadd : (⟨b, o, none⟩ : Addr).add j = ⟨b, o + j, none⟩ := by unfold Addr.add; split <;> simp_all
   rw [hadd, ← hv]
   exact hc j hj)
  simpa using this
end Go.Proofs.Ytkfpmjepeikpjaa
namespace Go.Proofs.Ytkfpmjepeikpjaa
set_option maxRecDepth 10000
open Go.RowKit
/-- The slice v of n elements of sz cells each: its cell k holds g k. -/
def Lies (w : World) (v : Value) (n sz : Nat) (g : Nat → Value) : Prop :=
 ∃ (a : Option Addr) (cap : Nat), v = .slice a n cap ∧ (0 < n → ∃ b o, a = some ⟨b, o, none⟩ ∧ b < w.heap.size ∧ ∀ k, k < n * sz → w.cell? ⟨b, o + k, none⟩ = some (g k))
theorem Lies.ext {w w' : World} {v : Value} {n sz : Nat} {g : Nat → Value} (h : Lies w v n sz g) (hx : Ext w w') : Lies w' v n sz g := by
 obtain ⟨a, cap, hv, h⟩ := h
 refine ⟨a, cap, hv, fun hn => ?_⟩
 obtain ⟨b, o, ha, hb, hc⟩ := h hn
 exact ⟨b, o, ha, Nat.lt_of_lt_of_le hb hx.size, fun k hk => later hx (hc k hk)⟩
theorem Lies.congr {w : World} {v : Value} {n sz : Nat} {g g' : Nat → Value} (h : Lies w v n sz g) (e : ∀ k, k < n * sz → g k = g' k) : Lies w v n sz g' := by
 obtain ⟨a, cap, hv, h⟩ := h
 refine ⟨a, cap, hv, fun hn => ?_⟩
 obtain ⟨b, o, ha, hb, hc⟩ := h hn
 exact ⟨b, o, ha, hb, fun k hk => by rw [hc k hk, e k hk]⟩
theorem lies_nil (w : World) (sz : Nat) (g : Nat → Value) : Lies w (.slice none 0 0) 0 sz g := ⟨none, 0, rfl, fun h => absurd h (Nat.lt_irrefl 0)⟩
/-- What a call has built by append is read so. -/
theorem Lies.own {w : World} {base : Nat} {e : TypeId} {sz : Nat} {v : Value} {n : Nat} {xs : List Value} (h : w.ownsRow base e sz v n xs) {g : Nat → Value} (hg : ∀ k, k < n * sz → xs[k]? = some (g k)) : Lies w v n sz g := by
 rcases h.2 with ⟨rfl, rfl⟩ | ⟨b, cap, cur, rfl, _, hb, hn, _, hs, hx⟩
 ·exact lies_nil _ _ _
 ·refine ⟨_, cap, rfl, fun _ => ⟨b, 0, rfl, ?_, fun k hk => ?_⟩⟩
  ·rcases Nat.lt_or_ge b w.heap.size with hlt | hge
   ·exact hlt
   ·rw [Array.getElem?_eq_none hge] at hb; cases hb
  ·have := hg k hk
   rw [← hx, List.getElem?_take_of_lt hk] at this
   simp only [World.cell?, hb, Nat.zero_add]
   simpa using this
theorem Ext.grown {a w w' : World} {base : Nat} {e : TypeId} {sz : Nat} {v : Value} {n : Nat} {xs : List Value} (h : Ext a w) (ho : w.ownsRow base e sz v n xs) (hb : a.heap.size ≤ base) (hg : w.grownBy w' v.ownBlock) : Ext a w' :=
 Below.grown h hg h.size fun k hk => Nat.le_trans hb (ho.lt k hk).1
theorem own_setCell {w : World} {base : Nat} {e : TypeId} {sz : Nat} {v : Value} {n : Nat} {xs : List Value} (h : w.ownsRow base e sz v n xs) {b i : Nat} {u : Value} (hne : v.ownBlock ≠ some b) : (w.setCell ⟨b, i, none⟩ u).ownsRow base e sz v n xs := by
 refine ⟨h.1, ?_⟩
 rcases h.2 with h0 | ⟨g, cap, cur, hv, hb, hg, rest⟩
 ·exact .inl h0
 ·refine .inr ⟨g, cap, cur, hv, hb, ?_, rest⟩
  rw [Below.heap_setCell w ⟨b, i, none⟩ u g (fun q => hne (by rw [hv]; exact congrArg some q))]
  exact hg
end Go.Proofs.Ytkfpmjepeikpjaa
