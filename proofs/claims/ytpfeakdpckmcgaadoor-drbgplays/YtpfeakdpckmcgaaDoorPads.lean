/-
  A slice that a call has made, whatever mark its row bears (a row that '[]byte(s)' made bears one): appended to. No function of the program is named here.
  Texts as bytes, padded; and what a sum's text is. No function of the program is named here.
  append(s, make([]T, m)...): the zeros that it writes. No function of the program is named here.
  HMAC over texts, by its definition; no function of the program is named here.
  Bytes xored one after another. No function of the program is named here.
-/
import Derived.Test.YtpfeakdpckmcgaaDoorTabx
import Derived.ArgAppend
import Derived.Deep.AppendLies
import Derived.Lib.ConvBytes
import Derived.Laws.BytesString
namespace Go.Proofs.YtpfeakdpckmcgaaDoor
open Go.RowKit
/-- v is a slice of n numbers T 0 .. from the beginning of a block of its own; all its cells may be written. -/
def OwnF (w : World) (base : Nat) (kd : IntKind) (v : Value) (n : Nat) (T : Nat → Nat) : Prop :=
  ∃ g cap, v = .slice (some ⟨g, 0, none⟩) n cap ∧ base ≤ g ∧ g < w.heap.size ∧ n ≤ cap ∧ cap ≤ maxLen ∧ (∀ j, j < n → w.cell? ⟨g, j, none⟩ = some (.int kd (T j : Int))) ∧ ∀ j, j < cap → (w.cell? ⟨g, j, none⟩).isSome = true ∧ w.frozen? ⟨g, j, none⟩ = false
theorem OwnF.ext {w w' : World} {base n : Nat} {kd : IntKind} {v : Value} {T : Nat → Nat} (h : OwnF w base kd v n T) (hx : Ext w w') : OwnF w' base kd v n T := by
  obtain ⟨g, cap, rfl, hb, hg, hn, hm, hc, hf⟩ := h
  exact ⟨g, cap, rfl, hb, Nat.lt_of_lt_of_le hg hx.size, hn, hm, fun j hj => later hx (hc j hj), fun j hj => ⟨by rw [hx.cells.1 g j hg]; exact (hf j hj).1, (hx.cells.2 g j hg).trans (hf j hj).2⟩⟩
theorem OwnF.at {w : World} {base n : Nat} {kd : IntKind} {v : Value} {T : Nat → Nat} (h : OwnF w base kd v n T) : ∀ k, v.ownBlock = some k → base ≤ k := by
  obtain ⟨g, cap, rfl, hb, _⟩ := h
  intro k hk
  cases hk
  exact hb
theorem OwnF.read {w : World} {base n : Nat} {kd : IntKind} {v : Value} {T : Nat → Nat} (h : OwnF w base kd v n T) : SlIs w v (lst kd T n) := by
  obtain ⟨g, cap, rfl, hb, hg, hn, hm, hc, hf⟩ := h
  exact .inr ⟨g, 0, cap, by rw [lst_len], hg, by rw [lst_len]; omega, fun j x hj => by obtain ⟨hk, rfl⟩ := lst_of hj; rw [Nat.zero_add]; exact hc j hk⟩
theorem own_to_f {w : World} {base n : Nat} {e : TypeId} {kd : IntKind} {v : Value} {T : Nat → Nat} (h : w.ownsRow base e 1 v n (lst kd T n)) (hn : 0 < n) : OwnF w base kd v n T := by
  rcases h.2 with ⟨_, h0⟩ | ⟨g, cap, cur, rfl, hb, hgg, hnc, hm, hs, ht⟩
  · omega
  · refine ⟨g, cap, rfl, hb, (Array.getElem?_eq_some_iff.1 hgg).1, hnc, hm, (fun j hj => (own_tab h).2 j hj |>.1), fun j hj => ⟨?_, by simp [World.frozen?, hgg]⟩⟩
    rw [cell_of_row w g j cur e (0, 0) hgg]
    have : j < cur.size := by omega
    simp [this]
theorem setCells_heap (b : Nat) : ∀ (vs : List Value) (o : Nat) (w : World), (w.setCells b o vs).heap.size = w.heap.size ∧ ∀ k, k ≠ b → (w.setCells b o vs).heap[k]? = w.heap[k]?
  | [], _, _ => ⟨rfl, fun _ _ => rfl⟩
  | v :: r, o, w => by
    obtain ⟨h1, h2⟩ := setCells_heap b r (o + 1) (w.setCell ⟨b, o, none⟩ v)
    refine ⟨?_, fun k hk => ?_⟩
    · show ((w.setCell ⟨b, o, none⟩ v).setCells b (o + 1) r).heap.size = _
      rw [h1, World.size_setCell]
    · show ((w.setCell ⟨b, o, none⟩ v).setCells b (o + 1) r).heap[k]? = _
      rw [h2 k hk, heap_setCell_other w ⟨b, o, none⟩ k v hk]
theorem setCells_same (b : Nat) : ∀ (vs : List Value) (o : Nat) (w : World), (w.setCells b o vs).os = w.os ∧ (w.setCells b o vs).tape = w.tape ∧ (w.setCells b o vs).output = w.output
  | [], _, _ => ⟨rfl, rfl, rfl⟩
  | v :: r, o, w => setCells_same b r (o + 1) (w.setCell ⟨b, o, none⟩ v)
theorem setCells_grown (w : World) (b o : Nat) (vs : List Value) : w.grownBy (w.setCells b o vs) (some b) :=
  ⟨(setCells_same b vs o w).1, (setCells_same b vs o w).2.1, (setCells_same b vs o w).2.2, by rw [(setCells_heap b vs o w).1]; exact Nat.le_refl _, fun k _ hk => (setCells_heap b vs o w).2 k (fun q => hk (by rw [q]))⟩
/-- What is appended. -/
def newsL (kd : IntKind) (T : Nat → Nat) (n m : Nat) : List Value := lst kd (fun j => T (n + j)) m
theorem lst_app (kd : IntKind) (T : Nat → Nat) (n m : Nat) : lst kd T n ++ newsL kd T n m = lst kd T (n + m) := by
  induction m with
  | zero => simp [newsL, lst]
  | succ m ih =>
    rw [show n + (m + 1) = (n + m) + 1 from rfl, lst_succ, ← ih]
    unfold newsL
    rw [lst_succ, List.append_assoc]
theorem run_append_f {P : Program} (w : World) (base : Nat) (t ty e : TypeId) (i : TypeInfo) (z : Value) (bytes : Nat) (ht : P.underlying t = some (.slice e)) (hi : P.info? e = some i) (hz : i.zero = some z) (hsize : i.size = 1) (hby : i.bytes = bytes) (hzs : z.cells.size = 1)
    (kd : IntKind) (v : Value) (n : Nat) (T : Nat → Nat) (hown : OwnF w base kd v n T) (a : Addr) (m c : Nat) (hnews : ∀ j u, (newsL kd T n m)[j]? = some u → w.cell? (a.add j) = some u) (_hm : 0 ≤ m)
    (h63 : n + m ≤ maxLen) (hbytes : (n + m) * bytes ≤ 140737488355328) (hbase : base ≤ w.heap.size) :
    ∃ v' w', (Builtin.append_ #[t, t] ty #[v, .slice (some a) m c]).run P w = .ok v' w' ∧ OwnF w' base kd v' (n + m) T ∧ w.grownBy w' v.ownBlock := by
  obtain ⟨g, cap, rfl, hb, hg, hn, hcm, hc, hf⟩ := hown
  have hl : (newsL kd T n m).length = m * 1 := by unfold newsL; rw [lst_len, Nat.mul_one]
  have h1 : ∀ u ∈ newsL kd T n m, u.oneCell' = true := fun u hu => by
    simp [newsL, lst] at hu
    obtain ⟨i, _, rfl⟩ := hu
    rfl
  by_cases hroom : n + m ≤ cap
  · have hr := run_append_room_cells (P := P) w t ty e i ht hi g 0 n cap a m c (newsL kd T n m) (by rw [hsize]; exact hl) hnews h1 hroom (fun j hj => by rw [hsize, Nat.mul_one, Nat.zero_add]; exact (hf (n + j) (by omega)).1) (fun j hj => by rw [hsize, Nat.mul_one, Nat.zero_add]; exact (hf (n + j) (by omega)).2)
    rw [hsize, Nat.mul_one, Nat.zero_add] at hr
    refine ⟨_, _, hr, ⟨g, cap, rfl, hb, by rw [(setCells_heap g _ n w).1]; exact hg, hroom, hcm, fun j hj => ?_, fun j hj => ⟨?_, by rw [World.frozen?_setCells]; exact (hf j hj).2⟩⟩, setCells_grown w g n _⟩
    · by_cases hj2 : j < n
      · rw [World.cell?_setCells_out g _ n w ⟨g, j, none⟩ (fun _ _ => Or.inl hj2)]
        exact hc j hj2
      · obtain ⟨k, rfl⟩ : ∃ k, j = n + k := ⟨j - n, by omega⟩
        have hk : k < (newsL kd T n m).length := by rw [hl]; omega
        rw [World.cell?_setCells_in g _ n w (fun q hq => (hf (n + q) (by rw [hl] at hq; omega)).1) k hk]
        have := lst_get (kd := kd) (T := fun j => T (n + j)) (n := m) (i := k) (by omega)
        rw [← List.getElem?_eq_getElem hk]
        exact this
    · by_cases hj2 : j < n ∨ n + (newsL kd T n m).length ≤ j
      · rw [World.cell?_setCells_out g _ n w ⟨g, j, none⟩ (fun _ _ => hj2)]
        exact (hf j hj).1
      · obtain ⟨k, rfl⟩ : ∃ k, j = n + k := ⟨j - n, by omega⟩
        rw [World.cell?_setCells_in g _ n w (fun q hq => (hf (n + q) (by rw [hl] at hq; omega)).1) k (by omega)]
        rfl
  · obtain ⟨v', w', hr, ho, hgr⟩ := run_append_arg_grows (P := P) w t ty e i z 1 bytes ht hi hz hsize hby hzs (by decide) ⟨g, 0, none⟩ n cap (lst kd T n) (by rw [lst_len, Nat.mul_one]) (fun j u hu => by
      obtain ⟨hj, rfl⟩ := lst_of hu
      have hadd : (⟨g, 0, none⟩ : Addr).add j = ⟨g, j, none⟩ := by unfold Addr.add; split <;> simp_all
      rw [hadd]; exact hc j hj) a m c (newsL kd T n m) hl hnews (by omega) h63 hbytes
    rw [lst_app] at ho
    exact ⟨v', w', hr, own_to_f (own_base ho hbase) (by omega), ⟨hgr.os, hgr.tape, hgr.output, hgr.size, fun k hk _ => hgr.block k hk (by simp)⟩⟩
theorem wp_append_f {P : Program} (w : World) {o : Oper} {a : Act} {K : Act → World → Prop} {Q : Exit → Act → World → Prop} (s x : Operand) (t : TypeId)
    (ho : o.op = .call { callee := .builtin .append, args := #[s, x], argTypes := #[t, t] })
    (base : Nat) (e : TypeId) (i : TypeInfo) (z : Value) (bytes : Nat) (ht : P.underlying t = some (.slice e)) (hi : P.info? e = some i) (hz : i.zero = some z) (hsize : i.size = 1) (hby : i.bytes = bytes) (hzs : z.cells.size = 1)
    (kd : IntKind) (v : Value) (n : Nat) (T : Nat → Nat) (hs : a.eval s = v) (hown : OwnF w base kd v n T) (ad : Addr) (m c : Nat) (hx : a.eval x = .slice (some ad) m c) (hnews : ∀ j u, (newsL kd T n m)[j]? = some u → w.cell? (ad.add j) = some u) (hm : 0 ≤ m)
    (h63 : n + m ≤ maxLen) (hbytes : (n + m) * bytes ≤ 140737488355328) (hbase : base ≤ w.heap.size)
    (h : ∀ v' w', OwnF w' base kd v' (n + m) T → w.grownBy w' v.ownBlock → K (a.put o.dst v') w') : o.wp P a w K Q := by
  obtain ⟨v', w', hr, h2, h3⟩ := run_append_f (P := P) w base t o.type e i z bytes ht hi hz hsize hby hzs kd v n T hown ad m c hnews hm h63 hbytes hbase
  unfold Oper.wp execOp
  simp only [ho, resolve, invoke, builtin, Sem.run_bind, Sem.run_pure, Result.andThen_ok, List.map_toArray, List.map_cons, List.map_nil, hs, hx, hr]
  exact h v' w' h2 h3
theorem wpList_append_f {P : Program} (w : World) {ops : Array Oper} {rest : List Oper} {o : Oper} {a : Act} {Q : Exit → Act → World → Prop} (hgd : o.guard = none) (s x : Operand) (t : TypeId)
    (ho : o.op = .call { callee := .builtin .append, args := #[s, x], argTypes := #[t, t] })
    (base : Nat) (e : TypeId) (i : TypeInfo) (z : Value) (bytes : Nat) (ht : P.underlying t = some (.slice e)) (hi : P.info? e = some i) (hz : i.zero = some z) (hsize : i.size = 1) (hby : i.bytes = bytes) (hzs : z.cells.size = 1)
    (kd : IntKind) (v : Value) (n : Nat) (T : Nat → Nat) (hs : a.eval s = v) (hown : OwnF w base kd v n T) (ad : Addr) (m c : Nat) (hx : a.eval x = .slice (some ad) m c) (hnews : ∀ j u, (newsL kd T n m)[j]? = some u → w.cell? (ad.add j) = some u) (hm : 0 ≤ m)
    (h63 : n + m ≤ maxLen) (hbytes : (n + m) * bytes ≤ 140737488355328) (hbase : base ≤ w.heap.size)
    (h : ∀ v' w', OwnF w' base kd v' (n + m) T → w.grownBy w' v.ownBlock → wpList P ops Q rest (a.put o.dst v') w') : wpList P ops Q (o :: rest) a w :=
  wpList_plain hgd fun _ hK => wp_append_f w s x t ho base e i z bytes ht hi hz hsize hby hzs kd v n T hs hown ad m c hx hnews hm h63 hbytes hbase fun v' w' h2 h3 => hK _ _ (h v' w' h2 h3)
theorem step_append_f {P : Program} (w : World) {ops : Array Oper} {o : Oper} {a : Act} {K : Act → World → Prop} {Q : Exit → Act → World → Prop} {E : Prop} (hgd : o.guard = none) (s x : Operand) (t : TypeId)
    (ho : o.op = .call { callee := .builtin .append, args := #[s, x], argTypes := #[t, t] })
    (base : Nat) (e : TypeId) (i : TypeInfo) (z : Value) (bytes : Nat) (ht : P.underlying t = some (.slice e)) (hi : P.info? e = some i) (hz : i.zero = some z) (hsize : i.size = 1) (hby : i.bytes = bytes) (hzs : z.cells.size = 1)
    (kd : IntKind) (v : Value) (n : Nat) (T : Nat → Nat) (hs : a.eval s = v) (hown : OwnF w base kd v n T) (ad : Addr) (m c : Nat) (hx : a.eval x = .slice (some ad) m c) (hnews : ∀ j u, (newsL kd T n m)[j]? = some u → w.cell? (ad.add j) = some u) (hm : 0 ≤ m)
    (h63 : n + m ≤ maxLen) (hbytes : (n + m) * bytes ≤ 140737488355328) (hbase : base ≤ w.heap.size)
    (h : ∀ v' w', OwnF w' base kd v' (n + m) T → w.grownBy w' v.ownBlock → K (a.put o.dst v') w') :
    if Region.wanted o (yielded ops a.tmps) = true then Oper.wp P o a w K Q else E := by
  have hw : Region.wanted o (yielded ops a.tmps) = true := by simp [Region.wanted, hgd]
  rw [if_pos hw]
  exact wp_append_f w s x t ho base e i z bytes ht hi hz hsize hby hzs kd v n T hs hown ad m c hx hnews hm h63 hbytes hbase h
end Go.Proofs.YtpfeakdpckmcgaaDoor
namespace Go.Proofs.YtpfeakdpckmcgaaDoor
open Go.RowKit
/-- Byte j of a text. -/
def sb (s : ByteArray) (j : Nat) : Nat := (s.data.toList.getD j 0).toNat
theorem sb_lt (s : ByteArray) (j : Nat) : sb s j < 256 := UInt8.toNat_lt _
theorem bytes_ext (W : World) (e : TypeId) (s : ByteArray) : Ext W (Lib.bytesWorld W e s) :=
  ⟨rfl, rfl, rfl, by rw [Lib.bytesWorld_size]; omega, fun k hk => Lib.bytesWorld_at_old W e s k hk⟩
theorem bytes_cap (W : World) (e : TypeId) (s : ByteArray) : (Lib.bytesCells W e s).size = grownCap W s.size 0 e := by
  have := grownCap_ge W s.size 0 e
  unfold Lib.bytesCells
  simp
  omega
theorem bytes_own (W : World) (e : TypeId) (s : ByteArray) (hs : s.size ≤ maxLen) : OwnF (Lib.bytesWorld W e s) W.heap.size .u8 (.slice (some ⟨W.heap.size, 0, none⟩) s.size (grownCap W s.size 0 e)) s.size (sb s) := by
  have hb := bytes_cap W e s
  refine ⟨_, _, rfl, Nat.le_refl _, by rw [Lib.bytesWorld_size]; omega, grownCap_ge _ _ _ _, grownCap_le_maxLen _ _ _ _ hs, fun j hj => Lib.bytesWorld_cell W e s j hj, fun j hj => ⟨?_, ?_⟩⟩
  · simp only [World.cell?, Lib.bytesWorld_at_new]
    have : j < (Lib.bytesCells W e s).size := by omega
    simp [this]
  · simp only [World.frozen?, Lib.bytesWorld_at_new]
    simp
    omega
/-- The padded text's bytes. -/
def pb (s : ByteArray) (i : Nat) : Nat := padB (sb s) s.size i
theorem pb_lt (s : ByteArray) (i : Nat) : pb s i < 256 := by
  unfold pb padB
  split
  · exact sb_lt s i
  · split
    · decide
    · split
      · decide
      · exact Nat.mod_lt _ (by decide)
theorem pb_text {s : ByteArray} {i : Nat} (h : i < s.size) : pb s i = sb s i := if_pos h
theorem pb_mark (s : ByteArray) : pb s s.size = 128 := by unfold pb padB; rw [if_neg (by omega), if_pos rfl]
theorem pb_zero {s : ByteArray} {i : Nat} (h1 : s.size < i) (h2 : i < 64 * nblk s.size - 8) : pb s i = 0 := by unfold pb padB; rw [if_neg (by omega), if_neg (by omega), if_pos h2]
theorem pb_len {s : ByteArray} {j : Nat} (h : j < 8) : pb s (64 * nblk s.size - 8 + j) = s.size * 8 / 256 ^ (7 - j) % 256 := by
  have : s.size < 64 * nblk s.size - 8 := by unfold nblk; omega
  unfold pb padB
  rw [if_neg (by omega), if_neg (by omega), if_neg (by omega), show 64 * nblk s.size - 1 - (64 * nblk s.size - 8 + j) = 7 - j from by omega]
theorem OwnF.congr {w : World} {base n : Nat} {kd : IntKind} {v : Value} {T S : Nat → Nat} (h : OwnF w base kd v n T) (e : ∀ j, j < n → T j = S j) : OwnF w base kd v n S := by
  obtain ⟨g, cap, rfl, hb, hg, hn, hm, hc, hf⟩ := h
  exact ⟨g, cap, rfl, hb, hg, hn, hm, fun j hj => by rw [← e j hj]; exact hc j hj, hf⟩
theorem foldl_push (ns : List Int) (l : List UInt8) : ns.foldl (fun r n => r.push (UInt8.ofNat n.toNat)) (⟨l.toArray⟩ : ByteArray) = ⟨(l ++ ns.map fun n => UInt8.ofNat n.toNat).toArray⟩ := by
  induction ns generalizing l with
  | nil => simp
  | cons n ns ih =>
    rw [List.foldl_cons]
    have : (⟨l.toArray⟩ : ByteArray).push (UInt8.ofNat n.toNat) = ⟨(l ++ [UInt8.ofNat n.toNat]).toArray⟩ := by
      show ByteArray.mk (l.toArray.push _) = _
      simp
    rw [this, ih]
    simp
/-- The text of n bytes. -/
def mkS (T : Nat → Nat) (n : Nat) : ByteArray := ⟨((List.range n).map fun i => UInt8.ofNat (T i)).toArray⟩
theorem run_lst_string (P : Program) (t5 t33 t9 : TypeId) (h33 : P.underlying t33 = some (.slice t5)) (h5 : P.underlying t5 = some (.int .u8)) (h9 : P.underlying t9 = some .string) (w : World) (T : Nat → Nat) (n : Nat) (v : Value) (h : SlIs w v (lst .u8 T n)) (hn : 0 < n) :
    (convert t33 t9 v).run P w = .ok (.string (mkS T n)) w := by
  obtain ⟨b, o, c, rfl, hb, hc⟩ := h.form hn
  rw [run_convert_bytes_string _ t33 t9 t5 _ _ _ h33 h5 h9]
  rw [run_bytesToString _ _ _ _ ((List.range n).map fun i => ((T i : Nat) : Int))]
  · have := foldl_push ((List.range n).map fun i => ((T i : Nat) : Int)) []
    rw [show (ByteArray.empty : ByteArray) = ⟨([] : List UInt8).toArray⟩ from rfl, this]
    unfold mkS
    simp
  · have := run_loadCells_list (P := P) (w := w) ⟨b, o, none⟩ (((List.range n).map fun i => ((T i : Nat) : Int)).map (Value.int .u8)) (by
      intro j v hv
      have hj : j < n := by
        have := (List.getElem?_eq_some_iff.1 hv).1
        simpa using this
      have e : (((List.range n).map fun i => ((T i : Nat) : Int)).map (Value.int .u8))[j]? = some (.int .u8 ((T j : Nat) : Int)) := by simp [hj]
      rw [e] at hv
      have hadd : (⟨b, o, none⟩ : Addr).add j = ⟨b, o + j, none⟩ := by unfold Addr.add; split <;> simp_all
      rw [hadd, ← hv]
      exact hc j hj)
    simpa using this
theorem shaB_lt (s : Nat → Nat) (n i : Nat) : shaB s n i < 256 := Nat.mod_lt _ (by decide)
theorem shaB_at (s : Nat → Nat) (n i j : Nat) (hj : j < 4) : shaB s n (4 * i + j) = (hashF s n (nblk n)).getD i 0 / 256 ^ (3 - j) % 256 := by
  unfold shaB
  rw [show (4 * i + j) / 4 = i from by omega, show (4 * i + j) % 4 = j from by omega]
/-- The sum of a text. -/
def shaS (s : ByteArray) : ByteArray := mkS (shaB (sb s) s.size) 32
end Go.Proofs.YtpfeakdpckmcgaaDoor
namespace Go.Proofs.YtpfeakdpckmcgaaDoor
open Go.RowKit
theorem newsL_zero {kd : IntKind} {T : Nat → Nat} {n m : Nat} (h : ∀ j, n ≤ j → j < n + m → T j = 0) : newsL kd T n m = lst kd (fun _ => 0) m := by
  unfold newsL lst
  refine List.map_congr_left fun j hj => ?_
  dsimp only
  rw [h (n + j) (by omega) (by have := List.mem_range.1 hj; omega)]
theorem zeroCells_lst (kd : IntKind) (m : Nat) : (Builtin.zeroCells (#[.int kd 0] : Array Value) m).toList = lst kd (fun _ => 0) m := by
  unfold Builtin.zeroCells lst
  simp only [Array.toList_map, Array.toList_range, List.size_toArray, List.length_cons, List.length_nil, Nat.zero_add, Nat.mul_one]
  refine List.map_congr_left fun j _ => ?_
  rw [Nat.mod_one]
  rfl
theorem run_append_zeros_f {P : Program} (w : World) (base : Nat) (t ti ty e : TypeId) (i : TypeInfo) (bytes : Nat) (ki : IntKind) (ht : P.underlying t = some (.slice e)) (hti : P.underlying ti = some (.int ki)) (hi : P.info? e = some i) (kd : IntKind) (hz : i.zero = some (.int kd 0)) (hsize : i.size = 1) (hby : i.bytes = bytes)
    (v : Value) (n : Nat) (T : Nat → Nat) (hown : OwnF w base kd v n T) (kx : IntKind) (m : Nat) (hnews : ∀ j, n ≤ j → j < n + m → T j = 0)
    (h63 : n + m ≤ maxLen) (hbytes : (n + m) * bytes ≤ 140737488355328) (hbase : base ≤ w.heap.size) :
    ∃ v' w', (Builtin.append_ #[t, ti] ty #[v, .int kx (m : Int)]).run P w = .ok v' w' ∧ OwnF w' base kd v' (n + m) T ∧ w.grownBy w' v.ownBlock := by
  obtain ⟨g, cap, rfl, hb, hg, hn, hcm, hc, hf⟩ := hown
  have hsmall : n + m ≤ 9223372036854775807 := by simp only [maxLen] at h63; omega
  have hw : IntKind.i64.wrap (m : Int) = (m : Int) := by rw [IntKind.wrap_i64]; omega
  have hnl := newsL_zero (kd := kd) hnews
  have hzc := zeroCells_lst kd m
  have hl : (newsL kd T n m).length = m := by unfold newsL; rw [lst_len]
  have h1 : ∀ u ∈ newsL kd T n m, u.oneCell' = true := fun u hu => by
    simp [newsL, lst] at hu
    obtain ⟨i, _, rfl⟩ := hu
    rfl
  have hb2 : ¬ (281474976710656 : Int) < (m : Int) * (bytes : Int) := by
    have : m * bytes ≤ (n + m) * bytes := Nat.mul_le_mul_right _ (by omega)
    have h3 : ((m * bytes : Nat) : Int) ≤ 140737488355328 := by omega
    rw [Int.natCast_mul] at h3
    omega
  have hai : (asInt (.int kx (m : Int))).run P w = .ok (m : Int) w := rfl
  have hzv : ((.int kd 0 : Value).cells) = #[.int kd 0] := rfl
  have hneg : ¬ (m : Int) < 0 := by omega
  by_cases hroom : n + m ≤ cap
  · have hst := run_storeCells_cells (P := P) g n (newsL kd T n m) 0 w (fun j hj => by rw [hl] at hj; rw [Nat.add_zero]; exact (hf (n + j) (by omega)).1) (fun j hj => by rw [hl] at hj; rw [Nat.add_zero]; exact (hf (n + j) (by omega)).2) h1
    simp only [Nat.add_zero] at hst
    have hr : (Builtin.append_ #[t, ti] ty #[.slice (some ⟨g, 0, none⟩) n cap, .int kx (m : Int)]).run P w = .ok (.slice (some ⟨g, 0, none⟩) (n + m) cap) (w.setCells g n (newsL kd T n m)) := by
      by_cases hm0 : m = 0
      · subst hm0
        have e0 : newsL kd T n 0 = [] := rfl
        rw [e0] at hst ⊢
        have hai0 : (asInt (.int kx 0)).run P w = .ok 0 w := rfl
        have hw0 : IntKind.i64.wrap 0 = 0 := by decide
        simp [Builtin.append_, run_underlying ht, run_underlying hti, sizeOf, typeInfo, hi, hai0, hw0, hn, Addr.add_lit, hst, hsize]
      · simp [Builtin.append_, run_underlying ht, run_underlying hti, sizeOf, typeInfo, zeroValue, hz, hi, hai, hsize, hby, hroom, hw, hb2, hm0, Addr.add_lit, hzv, hzc, hneg]
        rw [← hnl, hst]
        rfl
    refine ⟨_, _, hr, ⟨g, cap, rfl, hb, by rw [(setCells_heap g _ n w).1]; exact hg, hroom, hcm, fun j hj => ?_, fun j hj => ⟨?_, by rw [World.frozen?_setCells]; exact (hf j hj).2⟩⟩, setCells_grown w g n _⟩
    · by_cases hj2 : j < n
      · rw [World.cell?_setCells_out g _ n w ⟨g, j, none⟩ (fun _ _ => Or.inl hj2)]
        exact hc j hj2
      · obtain ⟨k, rfl⟩ : ∃ k, j = n + k := ⟨j - n, by omega⟩
        have hk : k < (newsL kd T n m).length := by rw [hl]; omega
        rw [World.cell?_setCells_in g _ n w (fun q hq => (hf (n + q) (by rw [hl] at hq; omega)).1) k hk]
        have := lst_get (kd := kd) (T := fun j => T (n + j)) (n := m) (i := k) (by omega)
        rw [← List.getElem?_eq_getElem hk]
        exact this
    · by_cases hj2 : j < n ∨ n + (newsL kd T n m).length ≤ j
      · rw [World.cell?_setCells_out g _ n w ⟨g, j, none⟩ (fun _ _ => hj2)]
        exact (hf j hj).1
      · obtain ⟨k, rfl⟩ : ∃ k, j = n + k := ⟨j - n, by omega⟩
        rw [World.cell?_setCells_in g _ n w (fun q hq => (hf (n + q) (by rw [hl] at hq; omega)).1) k (by omega)]
        rfl
  · have hm0 : m ≠ 0 := by omega
    have h63' : ¬ (9223372036854775807 < ((n : Int) + (m : Int))) := by omega
    have hfit : Builtin.nextslicecap (n + m) cap * bytes ≤ 281474976710656 := growslice_fits (by omega) hbytes
    have h48' : ¬ (281474976710656 < Builtin.nextslicecap (n + m) cap * bytes) := by omega
    have hfo := run_firstCells_some (P := P) w.drew 1 n ⟨g, 0, none⟩ n cap (lst kd T n) (by rw [lst_len, Nat.mul_one]) (by
      intro j u hu
      obtain ⟨hj, rfl⟩ := lst_of hu
      rw [Addr.add_lit, Nat.zero_add]
      simpa using hc j hj)
    have hr : (Builtin.append_ #[t, ti] ty #[.slice (some ⟨g, 0, none⟩) n cap, .int kx (m : Int)]).run P w = .ok (.slice (some ⟨w.heap.size, 0, none⟩) (n + m) (grownCap w (n + m) cap e))
        (w.drew.alloc (.cells ((lst kd T n).toArray ++ (newsL kd T n m).toArray ++ Builtin.zeroCells #[.int kd 0] (grownCap w (n + m) cap e - (n + m))) e)) := by
      simp [Builtin.append_, run_underlying ht, run_underlying hti, sizeOf, typeInfo, zeroValue, hz, hi, hai, hsize, hby, hroom, hw, hb2, hm0, Addr.add_lit, hzv, h63', h48', Question.forced, hfo, newRow, grownCap, hneg]
      congr 2
      apply Array.ext'
      rw [← hnl] at hzc
      simp [List.append_assoc, hzc]
    have hlen : (lst kd T n ++ newsL kd T n m).length = (n + m) * 1 := by rw [List.length_append, lst_len, hl, Nat.mul_one]
    have hown : (w.drew.alloc (.cells ((lst kd T n).toArray ++ (newsL kd T n m).toArray ++ Builtin.zeroCells #[.int kd 0] (grownCap w (n + m) cap e - (n + m))) e)).ownsRow w.heap.size e 1 (.slice (some ⟨w.heap.size, 0, none⟩) (n + m) (grownCap w (n + m) cap e)) (n + m) (lst kd T n ++ newsL kd T n m) := by
      refine ⟨hlen, .inr ⟨w.heap.size, _, _, rfl, Nat.le_refl _, heap_alloc_new w.drew _, grownCap_ge w (n + m) cap e, grownCap_le_maxLen w (n + m) cap e h63, ?_, ?_⟩⟩
      · have := grownCap_ge w (n + m) cap e
        simp only [Array.size_append, List.size_toArray, size_zeroCells, lst_len, hl, List.length_cons, List.length_nil]
        omega
      · simp only [Array.toList_append, List.append_assoc]
        rw [← List.append_assoc, ← hlen]
        exact List.take_left
    rw [lst_app] at hown
    exact ⟨_, _, hr, own_to_f (own_base hown hbase) (by omega), ⟨rfl, rfl, rfl, by simp, fun k hk _ => Go.heap_alloc_old w.drew _ hk⟩⟩
theorem wpList_append_zeros {P : Program} (w : World) {ops : Array Oper} {rest : List Oper} {o : Oper} {a : Act} {Q : Exit → Act → World → Prop} (hgd : o.guard = none) (s x : Operand) (t ti : TypeId)
    (ho : o.op = .call { callee := .builtin .append, args := #[s, x], argTypes := #[t, ti] })
    (base : Nat) (e : TypeId) (i : TypeInfo) (bytes : Nat) (ki : IntKind) (ht : P.underlying t = some (.slice e)) (hti : P.underlying ti = some (.int ki)) (hi : P.info? e = some i) (kd : IntKind) (hz : i.zero = some (.int kd 0)) (hsize : i.size = 1) (hby : i.bytes = bytes)
    (v : Value) (n : Nat) (T : Nat → Nat) (hs : a.eval s = v) (hown : OwnF w base kd v n T) (kx : IntKind) (m : Nat) (hx : a.eval x = .int kx (m : Int)) (hnews : ∀ j, n ≤ j → j < n + m → T j = 0)
    (h63 : n + m ≤ maxLen) (hbytes : (n + m) * bytes ≤ 140737488355328) (hbase : base ≤ w.heap.size)
    (h : ∀ v' w', OwnF w' base kd v' (n + m) T → w.grownBy w' v.ownBlock → wpList P ops Q rest (a.put o.dst v') w') : wpList P ops Q (o :: rest) a w := by
  refine wpList_plain hgd fun K hK => ?_
  obtain ⟨v', w', hr, h2, h3⟩ := run_append_zeros_f (P := P) w base t ti o.type e i bytes ki ht hti hi kd hz hsize hby v n T hown kx m hnews h63 hbytes hbase
  unfold Oper.wp execOp
  simp only [ho, resolve, invoke, builtin, Sem.run_bind, Sem.run_pure, Result.andThen_ok, List.map_toArray, List.map_cons, List.map_nil, hs, hx, hr]
  exact hK _ _ (h v' w' h2 h3)
end Go.Proofs.YtpfeakdpckmcgaaDoor
namespace Go.Proofs.YtpfeakdpckmcgaaDoor
open Go.RowKit
/-- The key's own bytes: a longer one is its sum. -/
def keyS (key : ByteArray) : ByteArray := if 64 < key.size then shaS key else key
/-- 64 bytes of the key, each xored. -/
def padS (key : ByteArray) (x : Nat) : ByteArray := mkS (fun i => sb (keyS key) i ^^^ x) 64
def macS (key s : ByteArray) : ByteArray := shaS (padS key 92 ++ shaS (padS key 54 ++ s))
theorem mkS_size (T : Nat → Nat) (n : Nat) : (mkS T n).size = n := by
  show (((List.range n).map fun i => UInt8.ofNat (T i)).toArray).size = n
  simp
theorem shaS_size (s : ByteArray) : (shaS s).size = 32 := mkS_size _ _
theorem keyS_size (key : ByteArray) : (keyS key).size ≤ 64 := by
  unfold keyS
  split
  · rw [shaS_size]; decide
  · omega
theorem sb_past {s : ByteArray} {j : Nat} (h : s.size ≤ j) : sb s j = 0 := by
  unfold sb
  rw [List.getD_eq_getElem?_getD, List.getElem?_eq_none (by simpa using h)]
  rfl
end Go.Proofs.YtpfeakdpckmcgaaDoor
namespace Go.Proofs.YtpfeakdpckmcgaaDoor
open Go.RowKit
/-- The first i bytes are xored. -/
def xorF (T : Nat → Nat) (x i : Nat) : Nat → Nat := fun j => if j < i then T j ^^^ x else T j
theorem xorF_step (T : Nat → Nat) (x i : Nat) : put (xorF T x i) i (T i ^^^ x) = xorF T x (i + 1) := by
  funext j
  unfold put xorF
  by_cases e : j = i
  · subst e; simp
  · rw [if_neg e]
    by_cases h : j < i
    · rw [if_pos h, if_pos (by omega)]
    · rw [if_neg h, if_neg (by omega)]
theorem xorF_at (T : Nat → Nat) (x i : Nat) : xorF T x i i = T i := if_neg (by omega)
theorem xorF_zero (T : Nat → Nat) (x : Nat) : xorF T x 0 = T := by funext j; exact if_neg (by omega)
theorem padS_of {key K : ByteArray} {x : Nat} (h : keyS key = K) : mkS (xorF (sb K) x 64) 64 = padS key x := by
  unfold padS mkS
  rw [h]
  congr 2
end Go.Proofs.YtpfeakdpckmcgaaDoor
