/-
  append(s, make([]T, m)...): the zeros that it writes. No function of the program is named here.
-/
import Derived.Test.YtfhglfldmboanaaDoorOwnF
namespace Go.Proofs.YtfhglfldmboanaaDoor
open Go.RowKit
theorem newsL_zero {kd : IntKind} {T : Nat → Nat} {n m : Nat} (h : ∀ j, n ≤ j → j < n + m → T j = 0) : newsL kd T n m = lst kd (fun _ => 0) m := by
  unfold newsL lst
  refine List.map_congr_left fun j hj => ?_
  dsimp only
  rw [h (n + j) (by omega) (by have := List.mem_range.1 hj; omega)]
theorem zeroCells_lst (kd : IntKind) (m : Nat) : (Builtin.zeroCells (#[.int kd 0] : Array Value) m).toList = lst kd (fun _ => 0) m := by
  unfold Builtin.zeroCells lst
  simp only [Array.toList_map, Array.toList_range, List.size_toArray, List.length_cons, List.length_nil, Nat.zero_add, Nat.mul_one]
  refine List.map_congr_left fun j _ => ?_
  rw [Nat.mod_one]
  rfl
theorem run_append_zeros_f {P : Program} (w : World) (base : Nat) (t ti ty e : TypeId) (i : TypeInfo) (bytes : Nat) (ki : IntKind) (ht : P.underlying t = some (.slice e)) (hti : P.underlying ti = some (.int ki)) (hi : P.info? e = some i) (kd : IntKind) (hz : i.zero = some (.int kd 0)) (hsize : i.size = 1) (hby : i.bytes = bytes)
    (v : Value) (n : Nat) (T : Nat → Nat) (hown : OwnF w base kd v n T) (kx : IntKind) (m : Nat) (hnews : ∀ j, n ≤ j → j < n + m → T j = 0)
    (h63 : n + m ≤ maxLen) (hbytes : (n + m) * bytes ≤ 140737488355328) (hbase : base ≤ w.heap.size) :
    ∃ v' w', (Builtin.append_ #[t, ti] ty #[v, .int kx (m : Int)]).run P w = .ok v' w' ∧ OwnF w' base kd v' (n + m) T ∧ w.grownBy w' v.ownBlock := by
  obtain ⟨g, cap, rfl, hb, hg, hn, hcm, hc, hf⟩ := hown
  have hsmall : n + m ≤ 9223372036854775807 := by simp only [maxLen] at h63; omega
  have hw : IntKind.i64.wrap (m : Int) = (m : Int) := by rw [IntKind.wrap_i64]; omega
  have hnl := newsL_zero (kd := kd) hnews
  have hzc := zeroCells_lst kd m
  have hl : (newsL kd T n m).length = m := by unfold newsL; rw [lst_len]
  have h1 : ∀ u ∈ newsL kd T n m, u.oneCell' = true := fun u hu => by
    simp [newsL, lst] at hu
    obtain ⟨i, _, rfl⟩ := hu
    rfl
  have hb2 : ¬ (281474976710656 : Int) < (m : Int) * (bytes : Int) := by
    have : m * bytes ≤ (n + m) * bytes := Nat.mul_le_mul_right _ (by omega)
    have h3 : ((m * bytes : Nat) : Int) ≤ 140737488355328 := by omega
    rw [Int.natCast_mul] at h3
    omega
  have hai : (asInt (.int kx (m : Int))).run P w = .ok (m : Int) w := rfl
  have hzv : ((.int kd 0 : Value).cells) = #[.int kd 0] := rfl
  have hneg : ¬ (m : Int) < 0 := by omega
  by_cases hroom : n + m ≤ cap
  · have hst := run_storeCells_cells (P := P) g n (newsL kd T n m) 0 w (fun j hj => by rw [hl] at hj; rw [Nat.add_zero]; exact (hf (n + j) (by omega)).1) (fun j hj => by rw [hl] at hj; rw [Nat.add_zero]; exact (hf (n + j) (by omega)).2) h1
    simp only [Nat.add_zero] at hst
    have hr : (Builtin.append_ #[t, ti] ty #[.slice (some ⟨g, 0, none⟩) n cap, .int kx (m : Int)]).run P w = .ok (.slice (some ⟨g, 0, none⟩) (n + m) cap) (w.setCells g n (newsL kd T n m)) := by
      by_cases hm0 : m = 0
      · subst hm0
        have e0 : newsL kd T n 0 = [] := rfl
        rw [e0] at hst ⊢
        have hai0 : (asInt (.int kx 0)).run P w = .ok 0 w := rfl
        have hw0 : IntKind.i64.wrap 0 = 0 := by decide
        simp [Builtin.append_, run_underlying ht, run_underlying hti, sizeOf, typeInfo, hi, hai0, hw0, hn, Addr.add_lit, hst, hsize]
      · simp [Builtin.append_, run_underlying ht, run_underlying hti, sizeOf, typeInfo, zeroValue, hz, hi, hai, hsize, hby, hroom, hw, hb2, hm0, Addr.add_lit, hzv, hzc, hneg]
        rw [← hnl, hst]
        rfl
    refine ⟨_, _, hr, ⟨g, cap, rfl, hb, by rw [(setCells_heap g _ n w).1]; exact hg, hroom, hcm, fun j hj => ?_, fun j hj => ⟨?_, by rw [World.frozen?_setCells]; exact (hf j hj).2⟩⟩, setCells_grown w g n _⟩
    · by_cases hj2 : j < n
      · rw [World.cell?_setCells_out g _ n w ⟨g, j, none⟩ (fun _ _ => Or.inl hj2)]
        exact hc j hj2
      · obtain ⟨k, rfl⟩ : ∃ k, j = n + k := ⟨j - n, by omega⟩
        have hk : k < (newsL kd T n m).length := by rw [hl]; omega
        rw [World.cell?_setCells_in g _ n w (fun q hq => (hf (n + q) (by rw [hl] at hq; omega)).1) k hk]
        have := lst_get (kd := kd) (T := fun j => T (n + j)) (n := m) (i := k) (by omega)
        rw [← List.getElem?_eq_getElem hk]
        exact this
    · by_cases hj2 : j < n ∨ n + (newsL kd T n m).length ≤ j
      · rw [World.cell?_setCells_out g _ n w ⟨g, j, none⟩ (fun _ _ => hj2)]
        exact (hf j hj).1
      · obtain ⟨k, rfl⟩ : ∃ k, j = n + k := ⟨j - n, by omega⟩
        rw [World.cell?_setCells_in g _ n w (fun q hq => (hf (n + q) (by rw [hl] at hq; omega)).1) k (by omega)]
        rfl
  · have hm0 : m ≠ 0 := by omega
    have h63' : ¬ (9223372036854775807 < ((n : Int) + (m : Int))) := by omega
    have hfit : Builtin.nextslicecap (n + m) cap * bytes ≤ 281474976710656 := growslice_fits (by omega) hbytes
    have h48' : ¬ (281474976710656 < Builtin.nextslicecap (n + m) cap * bytes) := by omega
    have hfo := run_firstCells_some (P := P) w.drew 1 n ⟨g, 0, none⟩ n cap (lst kd T n) (by rw [lst_len, Nat.mul_one]) (by
      intro j u hu
      obtain ⟨hj, rfl⟩ := lst_of hu
      rw [Addr.add_lit, Nat.zero_add]
      simpa using hc j hj)
    have hr : (Builtin.append_ #[t, ti] ty #[.slice (some ⟨g, 0, none⟩) n cap, .int kx (m : Int)]).run P w = .ok (.slice (some ⟨w.heap.size, 0, none⟩) (n + m) (grownCap w (n + m) cap e))
        (w.drew.alloc (.cells ((lst kd T n).toArray ++ (newsL kd T n m).toArray ++ Builtin.zeroCells #[.int kd 0] (grownCap w (n + m) cap e - (n + m))) e)) := by
      simp [Builtin.append_, run_underlying ht, run_underlying hti, sizeOf, typeInfo, zeroValue, hz, hi, hai, hsize, hby, hroom, hw, hb2, hm0, Addr.add_lit, hzv, h63', h48', Question.forced, hfo, newRow, grownCap, hneg]
      congr 2
      apply Array.ext'
      rw [← hnl] at hzc
      simp [List.append_assoc, hzc]
    have hlen : (lst kd T n ++ newsL kd T n m).length = (n + m) * 1 := by rw [List.length_append, lst_len, hl, Nat.mul_one]
    have hown : (w.drew.alloc (.cells ((lst kd T n).toArray ++ (newsL kd T n m).toArray ++ Builtin.zeroCells #[.int kd 0] (grownCap w (n + m) cap e - (n + m))) e)).ownsRow w.heap.size e 1 (.slice (some ⟨w.heap.size, 0, none⟩) (n + m) (grownCap w (n + m) cap e)) (n + m) (lst kd T n ++ newsL kd T n m) := by
      refine ⟨hlen, .inr ⟨w.heap.size, _, _, rfl, Nat.le_refl _, heap_alloc_new w.drew _, grownCap_ge w (n + m) cap e, grownCap_le_maxLen w (n + m) cap e h63, ?_, ?_⟩⟩
      · have := grownCap_ge w (n + m) cap e
        simp only [Array.size_append, List.size_toArray, size_zeroCells, lst_len, hl, List.length_cons, List.length_nil]
        omega
      · simp only [Array.toList_append, List.append_assoc]
        rw [← List.append_assoc, ← hlen]
        exact List.take_left
    rw [lst_app] at hown
    exact ⟨_, _, hr, own_to_f (own_base hown hbase) (by omega), ⟨rfl, rfl, rfl, by simp, fun k hk _ => Go.heap_alloc_old w.drew _ hk⟩⟩
theorem wpList_append_zeros {P : Program} (w : World) {ops : Array Oper} {rest : List Oper} {o : Oper} {a : Act} {Q : Exit → Act → World → Prop} (hgd : o.guard = none) (s x : Operand) (t ti : TypeId)
    (ho : o.op = .call { callee := .builtin .append, args := #[s, x], argTypes := #[t, ti] })
    (base : Nat) (e : TypeId) (i : TypeInfo) (bytes : Nat) (ki : IntKind) (ht : P.underlying t = some (.slice e)) (hti : P.underlying ti = some (.int ki)) (hi : P.info? e = some i) (kd : IntKind) (hz : i.zero = some (.int kd 0)) (hsize : i.size = 1) (hby : i.bytes = bytes)
    (v : Value) (n : Nat) (T : Nat → Nat) (hs : a.eval s = v) (hown : OwnF w base kd v n T) (kx : IntKind) (m : Nat) (hx : a.eval x = .int kx (m : Int)) (hnews : ∀ j, n ≤ j → j < n + m → T j = 0)
    (h63 : n + m ≤ maxLen) (hbytes : (n + m) * bytes ≤ 140737488355328) (hbase : base ≤ w.heap.size)
    (h : ∀ v' w', OwnF w' base kd v' (n + m) T → w.grownBy w' v.ownBlock → wpList P ops Q rest (a.put o.dst v') w') : wpList P ops Q (o :: rest) a w := by
  refine wpList_plain hgd fun K hK => ?_
  obtain ⟨v', w', hr, h2, h3⟩ := run_append_zeros_f (P := P) w base t ti o.type e i bytes ki ht hti hi kd hz hsize hby v n T hown kx m hnews h63 hbytes hbase
  unfold Oper.wp execOp
  simp only [ho, resolve, invoke, builtin, Sem.run_bind, Sem.run_pure, Result.andThen_ok, List.map_toArray, List.map_cons, List.map_nil, hs, hx, hr]
  exact hK _ _ (h v' w' h2 h3)
end Go.Proofs.YtfhglfldmboanaaDoor
