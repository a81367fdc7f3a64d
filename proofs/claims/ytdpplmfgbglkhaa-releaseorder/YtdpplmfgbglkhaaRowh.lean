/-
  A whole block of n numbers of one kind: known by the heap; loaded, stored, written. No function of the program is named here.
-/
import Derived.Test.YtdpplmfgbglkhaaTabn
namespace Go.Proofs.Ytdpplmfgbglkhaa
open Go.RowKit
/-- Block b is n numbers, and may be written. -/
def RowH (w : World) (b : Nat) (ty : TypeId) (kd : IntKind) (n : Nat) (T : Nat → Nat) : Prop := w.heap[b]? = some (.cells (lst kd T n).toArray ty (0, 0))
theorem RowH.lt {w : World} {b n : Nat} {ty : TypeId} {kd : IntKind} {T : Nat → Nat} (h : RowH w b ty kd n T) : b < w.heap.size := (Array.getElem?_eq_some_iff.1 h).1
theorem RowH.ext {w w' : World} {b n : Nat} {ty : TypeId} {kd : IntKind} {T : Nat → Nat} (h : RowH w b ty kd n T) (hx : Ext w w') : RowH w' b ty kd n T := (Below.block hx b h.lt).trans h
theorem RowH.tab {w : World} {b n : Nat} {ty : TypeId} {kd : IntKind} {T : Nat → Nat} (h : RowH w b ty kd n T) : TabN w b kd n T := by
  refine ⟨h.lt, fun k hk => ⟨?_, ?_⟩⟩
  · have h2 : w.heap[b]? = some (.cells (lst kd T n).toArray ty (0, 0)) := h
    rw [cell_of_row w b k _ _ _ h2]
    simpa using lst_get hk
  · have h2 : w.heap[b]? = some (.cells (lst kd T n).toArray ty (0, 0)) := h
    simp [World.frozen?, h2]
theorem lst_put (kd : IntKind) (T : Nat → Nat) (n o v : Nat) : (lst kd T n).set o (.int kd (v : Int)) = lst kd (put T o v) n := by
  apply List.ext_getElem?
  intro k
  rw [List.getElem?_set]
  by_cases hk : k < n
  · rw [lst_get hk, lst_get hk]
    by_cases e : o = k
    · subst e
      rw [if_pos rfl, if_pos (by rw [lst_len]; exact hk), put_same]
    · rw [if_neg e, put_other _ _ (fun q => e q.symm)]
  · rw [List.getElem?_eq_none (by rw [lst_len]; omega), List.getElem?_eq_none (by rw [lst_len]; omega)]
    split
    · rw [if_neg (by rw [lst_len]; omega)]
    · rfl
theorem RowH.set {w : World} {b n : Nat} {ty : TypeId} {kd : IntKind} {T : Nat → Nat} (h : RowH w b ty kd n T) (o v : Nat) : RowH (w.setCell ⟨b, o, none⟩ (.int kd (v : Int))) b ty kd n (put T o v) := by
  have h2 : w.heap[b]? = some (.cells (lst kd T n).toArray ty (0, 0)) := h
  unfold RowH
  rw [setCell_eq_setRow w b o _ ty (0, 0) _ h2, setRow_heap w b _ _ ty _ h2]
  congr 2
  rw [← lst_put]
  simp
theorem RowH.other {w : World} {b c i n : Nat} {ty : TypeId} {kd : IntKind} {T : Nat → Nat} {v : Value} (hne : c ≠ b) (h : RowH w c ty kd n T) (hb : ∃ cs t fr, w.heap[b]? = some (.cells cs t fr)) : RowH (w.setCell ⟨b, i, none⟩ v) c ty kd n T := by
  obtain ⟨cs, t, fr, hb⟩ := hb
  unfold RowH
  rw [setCell_eq_setRow w b i cs t fr v hb, setRow_other w b c _ hne]
  exact h
theorem RowH.new (w : World) (kd : IntKind) (n : Nat) (t : TypeId) : RowH (w.alloc (.cells (Array.replicate n (.int kd 0)) t)) w.heap.size t kd n (fun _ => 0) := by
  unfold RowH
  rw [heap_alloc_new]
  congr 2
  apply Array.ext'
  apply List.ext_getElem?
  intro k
  by_cases hk : k < n
  · simp [lst_get hk, hk]
  · rw [List.getElem?_eq_none (by simp; omega), List.getElem?_eq_none (by simp [lst_len]; omega)]
theorem RowH.load {P : Program} {w : World} {b n : Nat} {ty : TypeId} {kd : IntKind} {T : Nat → Nat} {e : TypeId} {m : Nat} (h : RowH w b ty kd n T) (t : TypeId) (hu : P.underlying t = some (.array m e)) (hi : (P.info? t).map (·.size) = some n) :
    (loadVar t ⟨b, 0, none⟩).run P w = .ok (.agg (lst kd T n).toArray) w :=
  run_loadVar_row w b ty t _ _ _ h hu rfl (by rw [hi]; simp [lst_len])
theorem lst_one (kd : IntKind) (T : Nat → Nat) (n : Nat) : (lst kd T n).toArray.all (·.oneCell') = true := by
  rw [Array.all_eq_true_iff_forall_mem]
  intro v hv
  simp [lst] at hv
  obtain ⟨i, _, rfl⟩ := hv
  rfl
theorem RowH.store {P : Program} {w : World} {b n : Nat} {ty : TypeId} {kd : IntKind} {T : Nat → Nat} (h : RowH w b ty kd n T) (t : TypeId) (S : Nat → Nat) (hi : (P.info? t).map (·.size) = some n) :
    (storeVar t ⟨b, 0, none⟩ (.agg (lst kd S n).toArray)).run P w = .ok () (w.setRow b (lst kd S n).toArray) :=
  run_storeVar_row w b ty t _ _ h (by rw [hi]; simp [lst_len]) (by simp [lst_len]) (lst_one kd S n)
theorem RowH.row {w : World} {b n : Nat} {ty : TypeId} {kd : IntKind} {T : Nat → Nat} (h : RowH w b ty kd n T) (S : Nat → Nat) : RowH (w.setRow b (lst kd S n).toArray) b ty kd n S := setRow_heap w b _ _ ty _ h
theorem Ext.row {a w : World} (h : Ext a w) {b : Nat} (hb : a.heap.size ≤ b) (cs : Array Value) : Ext a (w.setRow b cs) :=
  Below.trans h ⟨rfl, rfl, rfl, by simp [World.setRow], fun k hk => setRow_other w b k cs (by omega)⟩
end Go.Proofs.Ytdpplmfgbglkhaa
