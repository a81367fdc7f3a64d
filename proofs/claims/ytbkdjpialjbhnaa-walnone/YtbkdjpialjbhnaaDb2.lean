/-
  A row of bytes that a disk owns: cut, cleared in part, appended to; a crash's bytes sector by sector. No function of the program is named here.
-/
import Derived.Test.YtbkdjpialjbhnaaDb
import Derived.Test.YtbkdjpialjbhnaaMem
import Derived.Lib.AppendStr
import Derived.Lib.SliceRun
namespace Go.Proofs.Ytbkdjpialjbhnaa
open Go.RowKit
theorem strCells_lst (s : ByteArray) : Lib.strCells s = lst .u8 (sb s) s.size := by
  apply List.ext_getElem?
  intro i
  unfold Lib.strCells lst
  rw [List.getElem?_map, List.getElem?_map]
  by_cases h : i < s.size
  · have h2 : i < s.data.toList.length := by rw [ba_len]; exact h
    rw [List.getElem?_eq_getElem h2, List.getElem?_range h]
    show some (Value.int .u8 (s.data.toList[i].toNat : Int)) = some (Value.int .u8 (sb s i : Int))
    unfold sb
    rw [List.getD_eq_getElem?_getD, List.getElem?_eq_getElem h2]
    rfl
  · have h2 : s.data.toList.length ≤ i := by rw [ba_len]; omega
    rw [List.getElem?_eq_none h2, List.getElem?_eq_none (by simpa using Nat.not_lt.1 h)]
    rfl
theorem lst_text (T x : ByteArray) : lst .u8 (sb T) T.size ++ Lib.strCells x = lst .u8 (sb (T ++ x)) (T ++ x).size := by
  rw [← strCells_lst, ← strCells_lst]
  unfold Lib.strCells
  rw [ba_app, List.map_append]
theorem own_keep {w w' : World} {base : Nat} {e : TypeId} {sz : Nat} {v : Value} {n : Nat} {xs : List Value} (h : w.ownsRow base e sz v n xs) (hk : ∀ k, v.ownBlock = some k → w'.heap[k]? = w.heap[k]?) : w'.ownsRow base e sz v n xs := by
  refine ⟨h.1, ?_⟩
  rcases h.2 with h0 | ⟨g, cap, cur, hv, hb, hg, rest⟩
  · exact .inl h0
  · exact .inr ⟨g, cap, cur, hv, hb, (hk g (by rw [hv]; rfl)).trans hg, rest⟩
theorem lst_take (kd : IntKind) (T : Nat → Nat) (n m : Nat) (h : m ≤ n) : (lst kd T n).take m = lst kd T m := by
  unfold lst
  rw [← List.map_take, List.take_range, Nat.min_eq_left h]
/-- The first m of n. -/
theorem own_cut {w : World} {base n m g cap : Nat} {T : Nat → Nat} (h : w.ownsRow base 5 1 (.slice (some ⟨g, 0, none⟩) n cap) n (lst .u8 T n)) (hm : m ≤ n) : w.ownsRow base 5 1 (.slice (some ⟨g, 0, none⟩) m cap) m (lst .u8 T m) := by
  refine ⟨by rw [lst_len, Nat.mul_one], ?_⟩
  rcases h.2 with ⟨h0, _⟩ | ⟨g', cap', cur, hv, hb, hg, hnc, hcm, hcs, ht⟩
  · cases h0
  · injection hv with e1 _ e3
    injection e1 with e1
    injection e1 with e1 _ _
    subst e1 e3
    refine .inr ⟨g, cap, cur, rfl, hb, hg, by omega, hcm, hcs, ?_⟩
    rw [← lst_take .u8 T n m hm, ← ht, List.take_take, Nat.mul_one, Nat.mul_one, Nat.min_eq_left hm]
/-- Bytes a .. of which m are 0 now. -/
def zer (T : Nat → Nat) (a m : Nat) : Nat → Nat := fun i => if a ≤ i ∧ i < a + m then 0 else T i
theorem own_clear {w : World} {base n g cap a m : Nat} {T : Nat → Nat} (h : w.ownsRow base 5 1 (.slice (some ⟨g, 0, none⟩) n cap) n (lst .u8 T n)) (hm : a + m ≤ n) (hm0 : 0 < m) {P : Program} (t ty : TypeId) (ht : P.underlying t = some (.slice 5)) (hz : ∀ w, (zeroValue 5).run P w = .ok (.int .u8 0) w) (c : Nat) :
    ∃ w', (Builtin.clear_ #[t] ty #[.slice (some ⟨g, a, none⟩) m c]).run P w = .ok (.tuple #[]) w' ∧ w'.ownsRow base 5 1 (.slice (some ⟨g, 0, none⟩) n cap) n (lst .u8 (zer T a m) n) ∧ w.grownBy w' (some g) ∧ w'.heap.size = w.heap.size := by
  rcases h.2 with ⟨h0, _⟩ | ⟨g', cap', cur, hv, hb, hg, hnc, hcm, hcs, htk⟩
  · cases h0
  · injection hv with e1 _ e3
    injection e1 with e1
    injection e1 with e1 _ _
    subst e1 e3
    rw [Nat.mul_one] at hcs htk
    have hst := run_storeCells_at P g a 5 (List.replicate m (Value.int .u8 0)) 0 cur w hg (by simp; omega) (by intro v hv'; rw [List.eq_of_mem_replicate hv']; rfl)
    have hzc : (Builtin.zeroCells (Value.int .u8 0).cells m).toList = List.replicate m (.int .u8 0) := by
      show (Builtin.zeroCells #[Value.int .u8 0] m).toList = _
      simp [Builtin.zeroCells]
      apply List.ext_getElem
      · simp
      · intro i h1 h2
        simp [Nat.mod_one]
    simp only [Nat.add_zero, List.length_replicate] at hst
    refine ⟨w.setRow g (cur.toList.take a ++ List.replicate m (Value.int .u8 0) ++ cur.toList.drop (a + m)).toArray, ?_, ⟨by rw [lst_len, Nat.mul_one], .inr ⟨g, cap, _, rfl, hb, setRow_heap w g cur _ 5 _ hg, hnc, hcm, ?_, ?_⟩⟩, ⟨rfl, rfl, rfl, by simp, fun k _ hk => setRow_other w g k _ (fun e => hk (by rw [e]))⟩, by simp⟩
    · obtain ⟨m', rfl⟩ : ∃ m', m = m' + 1 := ⟨m - 1, by omega⟩
      simp [Builtin.clear_, run_underlying ht, hz, hzc, hst]
    · simp only [List.size_toArray, List.length_append, List.length_take, List.length_drop, Array.length_toList, List.length_replicate]
      omega
    · rw [Nat.mul_one]
      have hc : ∀ i, i < n → cur.toList[i]? = some (.int .u8 (T i : Int)) := fun i hi => by
        have := lst_get (kd := .u8) (T := T) hi
        rw [← htk, List.getElem?_take_of_lt hi] at this
        exact this
      apply List.ext_getElem?
      intro i
      have hla : (cur.toList.take a).length = a := by rw [List.length_take, Array.length_toList]; omega
      by_cases hi : i < n
      · rw [List.getElem?_take_of_lt hi, lst_get hi]
        unfold zer
        by_cases h1 : i < a
        · rw [if_neg (by omega), List.append_assoc, List.getElem?_append_left (by omega), List.getElem?_take_of_lt h1]
          exact hc i hi
        · by_cases h2 : i < a + m
          · rw [if_pos ⟨by omega, h2⟩, List.append_assoc, List.getElem?_append_right (by omega), List.getElem?_append_left (by rw [List.length_replicate]; omega), List.getElem?_replicate, if_pos (by omega)]
            rfl
          · rw [if_neg (by omega), List.getElem?_append_right (by rw [List.length_append, List.length_replicate]; omega), List.length_append, hla, List.length_replicate, List.getElem?_drop, show a + m + (i - (a + m)) = i from by omega]
            exact hc i hi
      · rw [List.getElem?_eq_none (by rw [List.length_take]; omega), List.getElem?_eq_none (by rw [lst_len]; omega)]
/-- Where what was appended to lies: where it lay, or in a new block. -/
theorem app_where {P : Program} (w : World) (t u ty : TypeId) (i : TypeInfo) (ht : P.underlying t = some (.slice 5)) (hu : P.underlying u = some .string) (hi : P.info? 5 = some i) (hz : i.zero = some (.int .u8 0)) (hsize : i.size = 1) (hby : i.bytes = 1)
    (v : Value) (n : Nat) (xs : List Value) (hown : w.ownsRow 0 5 1 v n xs) (s : ByteArray) (h63 : n + s.size ≤ maxLen) (hbytes : n + s.size ≤ 140737488355328) :
    ∃ v' w', (Builtin.append_ #[t, u] ty #[v, .string s]).run P w = .ok v' w' ∧ w'.ownsRow 0 5 1 v' (n + s.size) (xs ++ Lib.strCells s) ∧ w.grownBy w' v.ownBlock ∧ (v'.ownBlock = v.ownBlock ∨ v'.ownBlock = some w.heap.size) := by
  obtain ⟨v', w', hr, h2, h3, h4⟩ := Lib.run_append_own_string (P := P) w 0 t u ty 5 i ht hu hi hz hsize hby v n xs hown s h63 hbytes (Nat.zero_le _)
  refine ⟨v', w', hr, h2, h3, ?_⟩
  have hsmall : n + s.size ≤ 9223372036854775807 := by simp only [maxLen] at h63; omega
  have hxl : xs.length = n := by simpa using hown.1
  rcases hown.2 with ⟨rfl, rfl⟩ | ⟨g, cap, cur, rfl, hbg, hg, hnc, hcm, hcs, htake⟩
  · by_cases hm : s.size = 0
    · rw [h4.2 ⟨rfl, hm⟩]; exact .inl rfl
    · have hr2 := run_append_nil_string (P := P) w t u ty 5 i (.int .u8 0) ht hu hi hz s (by omega) (by omega) (by rw [hby]; omega)
      rw [hr] at hr2
      injection hr2 with e1 _
      rw [e1]
      exact .inr rfl
  · by_cases hroom : n + s.size ≤ cap
    · have hr2 := Lib.run_append_room_string (P := P) w t u ty 5 i ht hu hi hsize g n cap cur hg s hroom (by omega)
      rw [hr] at hr2
      injection hr2 with e1 _
      rw [e1]
      exact .inl rfl
    · have holds : ∀ j u, xs[j]? = some u → w.cell? ((⟨g, 0, none⟩ : Addr).add j) = some u := hown.cells (g := g) rfl
      have hr2 := Lib.run_append_grow_string (P := P) w t u ty 5 i (.int .u8 0) ht hu hi hz ⟨g, 0, none⟩ n cap xs (by rw [hsize]; simpa using hxl) holds s (by omega) (by omega) (by rw [hby]; exact growslice_fits (by omega) (by omega))
      rw [hr] at hr2
      injection hr2 with e1 _
      rw [e1]
      exact .inr rfl
theorem wpList_app_where {P : Program} (w : World) {ops : Array Oper} {rest : List Oper} {o : Oper} {a : Act} {Q : Exit → Act → World → Prop} (hgd : o.guard = none) (sl x : Operand) (t u : TypeId)
    (ho : o.op = .call { callee := .builtin .append, args := #[sl, x], argTypes := #[t, u] }) (i : TypeInfo) (ht : P.underlying t = some (.slice 5)) (hu : P.underlying u = some .string) (hi : P.info? 5 = some i) (hz : i.zero = some (.int .u8 0)) (hsize : i.size = 1) (hby : i.bytes = 1)
    (v : Value) (n : Nat) (xs : List Value) (hs : a.eval sl = v) (hown : w.ownsRow 0 5 1 v n xs) (s : ByteArray) (hx : a.eval x = .string s) (h63 : n + s.size ≤ maxLen) (hbytes : n + s.size ≤ 140737488355328)
    (h : ∀ v' w', w'.ownsRow 0 5 1 v' (n + s.size) (xs ++ Lib.strCells s) → w.grownBy w' v.ownBlock → (v'.ownBlock = v.ownBlock ∨ v'.ownBlock = some w.heap.size) → wpList P ops Q rest (a.put o.dst v') w') : wpList P ops Q (o :: rest) a w := by
  refine wpList_plain hgd fun K hK => ?_
  obtain ⟨v', w', hr, h2, h3, h4⟩ := app_where (P := P) w t u o.type i ht hu hi hz hsize hby v n xs hown s h63 hbytes
  unfold Oper.wp execOp
  simp only [ho, resolve, invoke, builtin, Sem.run_bind, Sem.run_pure, Result.andThen_ok, List.map_toArray, List.map_cons, List.map_nil, hs, hx, hr]
  exact hK _ _ (h v' w' h2 h3 h4)
/-- A whole sector stays, or goes. -/
theorem kept_bit {K y a i : Nat} (hK : K < 18446744073709551616) (h : i / 64 = a / 64) : kept K y i = decide (K / 2 ^ (a / 64 - y / 64) % 2 = 1) := by
  unfold kept
  rw [h]
  by_cases h64 : a / 64 - y / 64 < 64
  · simp [h64]
  · have : K / 2 ^ (a / 64 - y / 64) = 0 := Nat.div_eq_of_lt (Nat.lt_of_lt_of_le hK (Nat.pow_le_pow_right (n := 2) (by decide) (Nat.le_of_not_lt h64)))
    simp [h64, this]
theorem dendF_some (K y : Nat) : ∀ j, 0 < j → kept K y (y + (j - 1)) = true → dendF K y j = y + j
  | 0, h, _ => absurd h (Nat.lt_irrefl 0)
  | j + 1, _, h => by
    have h : kept K y (y + j) = true := h
    unfold dendF
    rw [if_pos h]
    rfl
theorem dendF_skip (K y j : Nat) : ∀ m, (∀ i, j ≤ i → i < j + m → kept K y (y + i) = false) → dendF K y (j + m) = dendF K y j
  | 0, _ => rfl
  | m + 1, h => by
    show (if kept K y (y + (j + m)) = true then y + (j + m) + 1 else dendF K y (j + m)) = _
    rw [h (j + m) (by omega) (by omega), if_neg (by decide)]
    exact dendF_skip K y j m (fun i h1 h2 => h i h1 (by omega))
theorem dbyte_keeps {B : Nat → Nat} {K y a : Nat} : ∀ m, (∀ i, a ≤ i → i < a + m → kept K y i = true) → dbyte B K y (a + m) = dbyte B K y a
  | 0, _ => rfl
  | m + 1, h => by
    show dbyte B K y ((a + m) + 1) = _
    rw [dbyte_keep (h (a + m) (by omega) (by omega))]
    exact dbyte_keeps m (fun i h1 h2 => h i h1 (by omega))
theorem dbyte_zer {B : Nat → Nat} {K y a m : Nat} (hya : y ≤ a) (h : ∀ i, a ≤ i → i < a + m → kept K y i = false) : dbyte B K y (a + m) = zer (dbyte B K y a) a m := by
  funext i
  unfold zer dbyte
  by_cases h1 : a ≤ i ∧ i < a + m
  · rw [if_pos h1, if_pos ⟨by omega, h1.2, h i h1.1 h1.2⟩]
  · rw [if_neg h1]
    by_cases q : y ≤ i ∧ i < a ∧ kept K y i = false
    · rw [if_pos q, if_pos ⟨q.1, by omega, q.2.2⟩]
    · rw [if_neg q, if_neg (fun r => q ⟨r.1, by omega, r.2.2⟩)]
/-- Where a sector ends. -/
def sEnd (a S : Nat) : Nat := min ((a / 64 + 1) * 64) S
theorem sEnd_lt {a S : Nat} (h : a < S) : a < sEnd a S ∧ sEnd a S ≤ S ∧ (∀ i, a ≤ i → i < sEnd a S → i / 64 = a / 64) ∧ (sEnd a S = S ∨ (sEnd a S % 64 = 0 ∧ sEnd a S / 64 = a / 64 + 1)) := by
  unfold sEnd
  rcases Nat.le_total ((a / 64 + 1) * 64) S with q | q
  · rw [Nat.min_eq_left q]
    refine ⟨by omega, q, fun i h1 h2 => ?_, .inr ⟨by omega, by omega⟩⟩
    have := Nat.div_le_div_right (c := 64) h1
    omega
  · rw [Nat.min_eq_right q]
    refine ⟨h, Nat.le_refl _, fun i h1 h2 => ?_, .inl rfl⟩
    have := Nat.div_le_div_right (c := 64) h1
    omega
theorem half_pow (K q : Nat) : K / 2 ^ q / 2 = K / 2 ^ (q + 1) := by rw [Nat.div_div_eq_div_mul, Nat.pow_succ]
end Go.Proofs.Ytbkdjpialjbhnaa
