/-
  A slice that a call has made, whatever mark its row bears (a row that '[]byte(s)' made bears one): appended to. No function of the program is named here.
-/
import Derived.Test.YtdpplmfgbglkhaaRowh
import Derived.ArgAppend
import Derived.Deep.AppendLies
import Derived.Lib.ConvBytes
namespace Go.Proofs.Ytdpplmfgbglkhaa
open Go.RowKit
/-- v is a slice of n numbers T 0 .. from the beginning of a block of its own; all its cells may be written. -/
def OwnF (w : World) (base : Nat) (kd : IntKind) (v : Value) (n : Nat) (T : Nat → Nat) : Prop :=
  ∃ g cap, v = .slice (some ⟨g, 0, none⟩) n cap ∧ base ≤ g ∧ g < w.heap.size ∧ n ≤ cap ∧ cap ≤ maxLen ∧ (∀ j, j < n → w.cell? ⟨g, j, none⟩ = some (.int kd (T j : Int))) ∧ ∀ j, j < cap → (w.cell? ⟨g, j, none⟩).isSome = true ∧ w.frozen? ⟨g, j, none⟩ = false
theorem OwnF.ext {w w' : World} {base n : Nat} {kd : IntKind} {v : Value} {T : Nat → Nat} (h : OwnF w base kd v n T) (hx : Ext w w') : OwnF w' base kd v n T := by
  obtain ⟨g, cap, rfl, hb, hg, hn, hm, hc, hf⟩ := h
  exact ⟨g, cap, rfl, hb, Nat.lt_of_lt_of_le hg hx.size, hn, hm, fun j hj => later hx (hc j hj), fun j hj => ⟨by rw [hx.cells.1 g j hg]; exact (hf j hj).1, (hx.cells.2 g j hg).trans (hf j hj).2⟩⟩
theorem OwnF.at {w : World} {base n : Nat} {kd : IntKind} {v : Value} {T : Nat → Nat} (h : OwnF w base kd v n T) : ∀ k, v.ownBlock = some k → base ≤ k := by
  obtain ⟨g, cap, rfl, hb, _⟩ := h
  intro k hk
  cases hk
  exact hb
theorem OwnF.read {w : World} {base n : Nat} {kd : IntKind} {v : Value} {T : Nat → Nat} (h : OwnF w base kd v n T) : SlIs w v (lst kd T n) := by
  obtain ⟨g, cap, rfl, hb, hg, hn, hm, hc, hf⟩ := h
  exact .inr ⟨g, 0, cap, by rw [lst_len], hg, by rw [lst_len]; omega, fun j x hj => by obtain ⟨hk, rfl⟩ := lst_of hj; rw [Nat.zero_add]; exact hc j hk⟩
theorem own_to_f {w : World} {base n : Nat} {e : TypeId} {kd : IntKind} {v : Value} {T : Nat → Nat} (h : w.ownsRow base e 1 v n (lst kd T n)) (hn : 0 < n) : OwnF w base kd v n T := by
  rcases h.2 with ⟨_, h0⟩ | ⟨g, cap, cur, rfl, hb, hgg, hnc, hm, hs, ht⟩
  · omega
  · refine ⟨g, cap, rfl, hb, (Array.getElem?_eq_some_iff.1 hgg).1, hnc, hm, (fun j hj => (own_tab h).2 j hj |>.1), fun j hj => ⟨?_, by simp [World.frozen?, hgg]⟩⟩
    rw [cell_of_row w g j cur e (0, 0) hgg]
    have : j < cur.size := by omega
    simp [this]
theorem setCells_heap (b : Nat) : ∀ (vs : List Value) (o : Nat) (w : World), (w.setCells b o vs).heap.size = w.heap.size ∧ ∀ k, k ≠ b → (w.setCells b o vs).heap[k]? = w.heap[k]?
  | [], _, _ => ⟨rfl, fun _ _ => rfl⟩
  | v :: r, o, w => by
    obtain ⟨h1, h2⟩ := setCells_heap b r (o + 1) (w.setCell ⟨b, o, none⟩ v)
    refine ⟨?_, fun k hk => ?_⟩
    · show ((w.setCell ⟨b, o, none⟩ v).setCells b (o + 1) r).heap.size = _
      rw [h1, World.size_setCell]
    · show ((w.setCell ⟨b, o, none⟩ v).setCells b (o + 1) r).heap[k]? = _
      rw [h2 k hk, heap_setCell_other w ⟨b, o, none⟩ k v hk]
theorem setCells_same (b : Nat) : ∀ (vs : List Value) (o : Nat) (w : World), (w.setCells b o vs).os = w.os ∧ (w.setCells b o vs).tape = w.tape ∧ (w.setCells b o vs).output = w.output
  | [], _, _ => ⟨rfl, rfl, rfl⟩
  | v :: r, o, w => setCells_same b r (o + 1) (w.setCell ⟨b, o, none⟩ v)
theorem setCells_grown (w : World) (b o : Nat) (vs : List Value) : w.grownBy (w.setCells b o vs) (some b) :=
  ⟨(setCells_same b vs o w).1, (setCells_same b vs o w).2.1, (setCells_same b vs o w).2.2, by rw [(setCells_heap b vs o w).1]; exact Nat.le_refl _, fun k _ hk => (setCells_heap b vs o w).2 k (fun q => hk (by rw [q]))⟩
/-- What is appended. -/
def newsL (kd : IntKind) (T : Nat → Nat) (n m : Nat) : List Value := lst kd (fun j => T (n + j)) m
theorem lst_app (kd : IntKind) (T : Nat → Nat) (n m : Nat) : lst kd T n ++ newsL kd T n m = lst kd T (n + m) := by
  induction m with
  | zero => simp [newsL, lst]
  | succ m ih =>
    rw [show n + (m + 1) = (n + m) + 1 from rfl, lst_succ, ← ih]
    unfold newsL
    rw [lst_succ, List.append_assoc]
theorem run_append_f {P : Program} (w : World) (base : Nat) (t ty e : TypeId) (i : TypeInfo) (z : Value) (bytes : Nat) (ht : P.underlying t = some (.slice e)) (hi : P.info? e = some i) (hz : i.zero = some z) (hsize : i.size = 1) (hby : i.bytes = bytes) (hzs : z.cells.size = 1)
    (kd : IntKind) (v : Value) (n : Nat) (T : Nat → Nat) (hown : OwnF w base kd v n T) (a : Addr) (m c : Nat) (hnews : ∀ j u, (newsL kd T n m)[j]? = some u → w.cell? (a.add j) = some u) (_hm : 0 ≤ m)
    (h63 : n + m ≤ maxLen) (hbytes : (n + m) * bytes ≤ 140737488355328) (hbase : base ≤ w.heap.size) :
    ∃ v' w', (Builtin.append_ #[t, t] ty #[v, .slice (some a) m c]).run P w = .ok v' w' ∧ OwnF w' base kd v' (n + m) T ∧ w.grownBy w' v.ownBlock := by
  obtain ⟨g, cap, rfl, hb, hg, hn, hcm, hc, hf⟩ := hown
  have hl : (newsL kd T n m).length = m * 1 := by unfold newsL; rw [lst_len, Nat.mul_one]
  have h1 : ∀ u ∈ newsL kd T n m, u.oneCell' = true := fun u hu => by
    simp [newsL, lst] at hu
    obtain ⟨i, _, rfl⟩ := hu
    rfl
  by_cases hroom : n + m ≤ cap
  · have hr := run_append_room_cells (P := P) w t ty e i ht hi g 0 n cap a m c (newsL kd T n m) (by rw [hsize]; exact hl) hnews h1 hroom (fun j hj => by rw [hsize, Nat.mul_one, Nat.zero_add]; exact (hf (n + j) (by omega)).1) (fun j hj => by rw [hsize, Nat.mul_one, Nat.zero_add]; exact (hf (n + j) (by omega)).2)
    rw [hsize, Nat.mul_one, Nat.zero_add] at hr
    refine ⟨_, _, hr, ⟨g, cap, rfl, hb, by rw [(setCells_heap g _ n w).1]; exact hg, hroom, hcm, fun j hj => ?_, fun j hj => ⟨?_, by rw [World.frozen?_setCells]; exact (hf j hj).2⟩⟩, setCells_grown w g n _⟩
    · by_cases hj2 : j < n
      · rw [World.cell?_setCells_out g _ n w ⟨g, j, none⟩ (fun _ _ => Or.inl hj2)]
        exact hc j hj2
      · obtain ⟨k, rfl⟩ : ∃ k, j = n + k := ⟨j - n, by omega⟩
        have hk : k < (newsL kd T n m).length := by rw [hl]; omega
        rw [World.cell?_setCells_in g _ n w (fun q hq => (hf (n + q) (by rw [hl] at hq; omega)).1) k hk]
        have := lst_get (kd := kd) (T := fun j => T (n + j)) (n := m) (i := k) (by omega)
        rw [← List.getElem?_eq_getElem hk]
        exact this
    · by_cases hj2 : j < n ∨ n + (newsL kd T n m).length ≤ j
      · rw [World.cell?_setCells_out g _ n w ⟨g, j, none⟩ (fun _ _ => hj2)]
        exact (hf j hj).1
      · obtain ⟨k, rfl⟩ : ∃ k, j = n + k := ⟨j - n, by omega⟩
        rw [World.cell?_setCells_in g _ n w (fun q hq => (hf (n + q) (by rw [hl] at hq; omega)).1) k (by omega)]
        rfl
  · obtain ⟨v', w', hr, ho, hgr⟩ := run_append_arg_grows (P := P) w t ty e i z 1 bytes ht hi hz hsize hby hzs (by decide) ⟨g, 0, none⟩ n cap (lst kd T n) (by rw [lst_len, Nat.mul_one]) (fun j u hu => by
      obtain ⟨hj, rfl⟩ := lst_of hu
      have hadd : (⟨g, 0, none⟩ : Addr).add j = ⟨g, j, none⟩ := by unfold Addr.add; split <;> simp_all
      rw [hadd]; exact hc j hj) a m c (newsL kd T n m) hl hnews (by omega) h63 hbytes
    rw [lst_app] at ho
    exact ⟨v', w', hr, own_to_f (own_base ho hbase) (by omega), ⟨hgr.os, hgr.tape, hgr.output, hgr.size, fun k hk _ => hgr.block k hk (by simp)⟩⟩
theorem wp_append_f {P : Program} (w : World) {o : Oper} {a : Act} {K : Act → World → Prop} {Q : Exit → Act → World → Prop} (s x : Operand) (t : TypeId)
    (ho : o.op = .call { callee := .builtin .append, args := #[s, x], argTypes := #[t, t] })
    (base : Nat) (e : TypeId) (i : TypeInfo) (z : Value) (bytes : Nat) (ht : P.underlying t = some (.slice e)) (hi : P.info? e = some i) (hz : i.zero = some z) (hsize : i.size = 1) (hby : i.bytes = bytes) (hzs : z.cells.size = 1)
    (kd : IntKind) (v : Value) (n : Nat) (T : Nat → Nat) (hs : a.eval s = v) (hown : OwnF w base kd v n T) (ad : Addr) (m c : Nat) (hx : a.eval x = .slice (some ad) m c) (hnews : ∀ j u, (newsL kd T n m)[j]? = some u → w.cell? (ad.add j) = some u) (hm : 0 ≤ m)
    (h63 : n + m ≤ maxLen) (hbytes : (n + m) * bytes ≤ 140737488355328) (hbase : base ≤ w.heap.size)
    (h : ∀ v' w', OwnF w' base kd v' (n + m) T → w.grownBy w' v.ownBlock → K (a.put o.dst v') w') : o.wp P a w K Q := by
  obtain ⟨v', w', hr, h2, h3⟩ := run_append_f (P := P) w base t o.type e i z bytes ht hi hz hsize hby hzs kd v n T hown ad m c hnews hm h63 hbytes hbase
  unfold Oper.wp execOp
  simp only [ho, resolve, invoke, builtin, Sem.run_bind, Sem.run_pure, Result.andThen_ok, List.map_toArray, List.map_cons, List.map_nil, hs, hx, hr]
  exact h v' w' h2 h3
theorem wpList_append_f {P : Program} (w : World) {ops : Array Oper} {rest : List Oper} {o : Oper} {a : Act} {Q : Exit → Act → World → Prop} (hgd : o.guard = none) (s x : Operand) (t : TypeId)
    (ho : o.op = .call { callee := .builtin .append, args := #[s, x], argTypes := #[t, t] })
    (base : Nat) (e : TypeId) (i : TypeInfo) (z : Value) (bytes : Nat) (ht : P.underlying t = some (.slice e)) (hi : P.info? e = some i) (hz : i.zero = some z) (hsize : i.size = 1) (hby : i.bytes = bytes) (hzs : z.cells.size = 1)
    (kd : IntKind) (v : Value) (n : Nat) (T : Nat → Nat) (hs : a.eval s = v) (hown : OwnF w base kd v n T) (ad : Addr) (m c : Nat) (hx : a.eval x = .slice (some ad) m c) (hnews : ∀ j u, (newsL kd T n m)[j]? = some u → w.cell? (ad.add j) = some u) (hm : 0 ≤ m)
    (h63 : n + m ≤ maxLen) (hbytes : (n + m) * bytes ≤ 140737488355328) (hbase : base ≤ w.heap.size)
    (h : ∀ v' w', OwnF w' base kd v' (n + m) T → w.grownBy w' v.ownBlock → wpList P ops Q rest (a.put o.dst v') w') : wpList P ops Q (o :: rest) a w :=
  wpList_plain hgd fun _ hK => wp_append_f w s x t ho base e i z bytes ht hi hz hsize hby hzs kd v n T hs hown ad m c hx hnews hm h63 hbytes hbase fun v' w' h2 h3 => hK _ _ (h v' w' h2 h3)
theorem step_append_f {P : Program} (w : World) {ops : Array Oper} {o : Oper} {a : Act} {K : Act → World → Prop} {Q : Exit → Act → World → Prop} {E : Prop} (hgd : o.guard = none) (s x : Operand) (t : TypeId)
    (ho : o.op = .call { callee := .builtin .append, args := #[s, x], argTypes := #[t, t] })
    (base : Nat) (e : TypeId) (i : TypeInfo) (z : Value) (bytes : Nat) (ht : P.underlying t = some (.slice e)) (hi : P.info? e = some i) (hz : i.zero = some z) (hsize : i.size = 1) (hby : i.bytes = bytes) (hzs : z.cells.size = 1)
    (kd : IntKind) (v : Value) (n : Nat) (T : Nat → Nat) (hs : a.eval s = v) (hown : OwnF w base kd v n T) (ad : Addr) (m c : Nat) (hx : a.eval x = .slice (some ad) m c) (hnews : ∀ j u, (newsL kd T n m)[j]? = some u → w.cell? (ad.add j) = some u) (hm : 0 ≤ m)
    (h63 : n + m ≤ maxLen) (hbytes : (n + m) * bytes ≤ 140737488355328) (hbase : base ≤ w.heap.size)
    (h : ∀ v' w', OwnF w' base kd v' (n + m) T → w.grownBy w' v.ownBlock → K (a.put o.dst v') w') :
    if Region.wanted o (yielded ops a.tmps) = true then Oper.wp P o a w K Q else E := by
  have hw : Region.wanted o (yielded ops a.tmps) = true := by simp [Region.wanted, hgd]
  rw [if_pos hw]
  exact wp_append_f w s x t ho base e i z bytes ht hi hz hsize hby hzs kd v n T hs hown ad m c hx hnews hm h63 hbytes hbase h
end Go.Proofs.Ytdpplmfgbglkhaa
