/-
  Texts as bytes; slices of bytes that are made into texts. No function of the program is named here.
-/
import Derived.Test.YtdpplmfgbglkhaaOwnF
import Derived.Laws.BytesString
namespace Go.Proofs.Ytdpplmfgbglkhaa
open Go.RowKit
/-- Byte j of a text. -/
def sb (s : ByteArray) (j : Nat) : Nat := (s.data.toList.getD j 0).toNat
theorem sb_lt (s : ByteArray) (j : Nat) : sb s j < 256 := UInt8.toNat_lt _
theorem bytes_ext (W : World) (e : TypeId) (s : ByteArray) : Ext W (Lib.bytesWorld W e s) :=
  ⟨rfl, rfl, rfl, by rw [Lib.bytesWorld_size]; omega, fun k hk => Lib.bytesWorld_at_old W e s k hk⟩
theorem bytes_cap (W : World) (e : TypeId) (s : ByteArray) : (Lib.bytesCells W e s).size = grownCap W s.size 0 e := by
  have := grownCap_ge W s.size 0 e
  unfold Lib.bytesCells
  simp
  omega
theorem bytes_own (W : World) (e : TypeId) (s : ByteArray) (hs : s.size ≤ maxLen) : OwnF (Lib.bytesWorld W e s) W.heap.size .u8 (.slice (some ⟨W.heap.size, 0, none⟩) s.size (grownCap W s.size 0 e)) s.size (sb s) := by
  have hb := bytes_cap W e s
  refine ⟨_, _, rfl, Nat.le_refl _, by rw [Lib.bytesWorld_size]; omega, grownCap_ge _ _ _ _, grownCap_le_maxLen _ _ _ _ hs, fun j hj => Lib.bytesWorld_cell W e s j hj, fun j hj => ⟨?_, ?_⟩⟩
  · simp only [World.cell?, Lib.bytesWorld_at_new]
    have : j < (Lib.bytesCells W e s).size := by omega
    simp [this]
  · simp only [World.frozen?, Lib.bytesWorld_at_new]
    simp
    omega
theorem OwnF.congr {w : World} {base n : Nat} {kd : IntKind} {v : Value} {T S : Nat → Nat} (h : OwnF w base kd v n T) (e : ∀ j, j < n → T j = S j) : OwnF w base kd v n S := by
  obtain ⟨g, cap, rfl, hb, hg, hn, hm, hc, hf⟩ := h
  exact ⟨g, cap, rfl, hb, hg, hn, hm, fun j hj => by rw [← e j hj]; exact hc j hj, hf⟩
theorem foldl_push (ns : List Int) (l : List UInt8) : ns.foldl (fun r n => r.push (UInt8.ofNat n.toNat)) (⟨l.toArray⟩ : ByteArray) = ⟨(l ++ ns.map fun n => UInt8.ofNat n.toNat).toArray⟩ := by
  induction ns generalizing l with
  | nil => simp
  | cons n ns ih =>
    rw [List.foldl_cons]
    have : (⟨l.toArray⟩ : ByteArray).push (UInt8.ofNat n.toNat) = ⟨(l ++ [UInt8.ofNat n.toNat]).toArray⟩ := by
      show ByteArray.mk (l.toArray.push _) = _
      simp
    rw [this, ih]
    simp
/-- The text of n bytes. -/
def mkS (T : Nat → Nat) (n : Nat) : ByteArray := ⟨((List.range n).map fun i => UInt8.ofNat (T i)).toArray⟩
theorem run_lst_string (P : Program) (t5 t33 t9 : TypeId) (h33 : P.underlying t33 = some (.slice t5)) (h5 : P.underlying t5 = some (.int .u8)) (h9 : P.underlying t9 = some .string) (w : World) (T : Nat → Nat) (n : Nat) (v : Value) (h : SlIs w v (lst .u8 T n)) (hn : 0 < n) :
    (convert t33 t9 v).run P w = .ok (.string (mkS T n)) w := by
  obtain ⟨b, o, c, rfl, hb, hc⟩ := h.form hn
  rw [run_convert_bytes_string _ t33 t9 t5 _ _ _ h33 h5 h9]
  rw [run_bytesToString _ _ _ _ ((List.range n).map fun i => ((T i : Nat) : Int))]
  · have := foldl_push ((List.range n).map fun i => ((T i : Nat) : Int)) []
    rw [show (ByteArray.empty : ByteArray) = ⟨([] : List UInt8).toArray⟩ from rfl, this]
    unfold mkS
    simp
  · have := run_loadCells_list (P := P) (w := w) ⟨b, o, none⟩ (((List.range n).map fun i => ((T i : Nat) : Int)).map (Value.int .u8)) (by
      intro j v hv
      have hj : j < n := by
        have := (List.getElem?_eq_some_iff.1 hv).1
        simpa using this
      have e : (((List.range n).map fun i => ((T i : Nat) : Int)).map (Value.int .u8))[j]? = some (.int .u8 ((T j : Nat) : Int)) := by simp [hj]
      rw [e] at hv
      have hadd : (⟨b, o, none⟩ : Addr).add j = ⟨b, o + j, none⟩ := by unfold Addr.add; split <;> simp_all
      rw [hadd, ← hv]
      exact hc j hj)
    simpa using this
end Go.Proofs.Ytdpplmfgbglkhaa
