/-
  Two texts of 32 bytes as arrays within a struct, a number behind them: how they are read as slices, and what a copy into one leaves. No function of the program is named here.
-/
import Derived.Test.YtpfeakdpckmcgaaDoorMem
import Derived.Test.YtpfeakdpckmcgaaDoorPads
import Derived.Laws.IdiomCopy
import Derived.Lib.LazyBuf
namespace Go.Proofs.YtpfeakdpckmcgaaDoor
open Go.RowKit
/-- The bytes of both. -/
def kvT (K V : ByteArray) : Nat → Nat := fun j => if j < 32 then sb K j else sb V (j - 32)
/-- The cells of a generator in block b. -/
def KB (w : World) (b : Nat) (K V : ByteArray) (A : Int) : Prop := TabN w b .u8 64 (kvT K V) ∧ w.cell? ⟨b, 64, none⟩ = some (.int .i64 A) ∧ w.frozen? ⟨b, 64, none⟩ = false
theorem KB.lt {w : World} {b : Nat} {K V : ByteArray} {A : Int} (h : KB w b K V A) : b < w.heap.size := h.1.1
theorem KB.ext {w w' : World} {b : Nat} {K V : ByteArray} {A : Int} (h : KB w b K V A) (hx : Ext w w') : KB w' b K V A :=
  ⟨h.1.ext hx, later hx h.2.1, (hx.cells.2 b 64 h.1.1).trans h.2.2⟩
theorem KB.far {w w' : World} {b : Nat} {K V : ByteArray} {A : Int} {G : Nat → Prop} (h : KB w b K V A) (hc : Chg G w w') (hn : ¬ G b) : KB w' b K V A :=
  ⟨⟨Nat.lt_of_lt_of_le h.1.1 hc.size, fun k hk => ⟨(hc.cell h.1.1 hn).trans (h.1.2 k hk).1, (hc.frozen h.1.1 hn).trans (h.1.2 k hk).2⟩⟩, (hc.cell h.1.1 hn).trans h.2.1, (hc.frozen h.1.1 hn).trans h.2.2⟩
theorem KB.key {w : World} {b : Nat} {K V : ByteArray} {A : Int} (h : KB w b K V A) : SlIs w (.slice (some ⟨b, 0, none⟩) 32 32) (lst .u8 (sb K) 32) :=
  .inr ⟨b, 0, 32, by rw [lst_len], h.1.1, by rw [lst_len]; decide, fun j x hj => by
    obtain ⟨hk, rfl⟩ := lst_of hj
    rw [Nat.zero_add]
    have := (h.1.2 j (by omega)).1
    unfold kvT at this
    rwa [if_pos hk] at this⟩
theorem KB.val {w : World} {b : Nat} {K V : ByteArray} {A : Int} (h : KB w b K V A) : SlIs w (.slice (some ⟨b, 32, none⟩) 32 32) (lst .u8 (sb V) 32) :=
  .inr ⟨b, 32, 32, by rw [lst_len], h.1.1, by rw [lst_len]; decide, fun j x hj => by
    obtain ⟨hk, rfl⟩ := lst_of hj
    have := (h.1.2 (32 + j) (by omega)).1
    unfold kvT at this
    rw [if_neg (by omega), show 32 + j - 32 = j from by omega] at this
    exact this⟩
theorem mkS_sb {s : ByteArray} {n : Nat} (h : s.size = n) : mkS (sb s) n = s := by
  subst h
  apply ByteArray.ext
  apply Array.ext'
  apply List.ext_getElem?
  intro k
  by_cases hk : k < s.size
  · have h1 : (mkS (sb s) s.size).data.toList[k]? = some (UInt8.ofNat (sb s k)) := by
      show ((List.range s.size).map fun i => UInt8.ofNat (sb s i)).toArray.toList[k]? = _
      simp [hk]
    rw [h1]
    unfold sb
    rw [List.getD_eq_getElem?_getD, List.getElem?_eq_getElem (by simpa using hk)]
    simp
  · rw [List.getElem?_eq_none (by have : (mkS (sb s) s.size).data.toList.length = s.size := by show (((List.range s.size).map fun i => UInt8.ofNat (sb s i)).toArray.toList).length = _; simp
                                  omega), List.getElem?_eq_none (by have : s.data.toList.length = s.size := by simp
                                                                    omega)]
/-- The bytes of a text, as cells. -/
def byS (s : ByteArray) : List Value := s.data.toList.map fun x => Value.int .u8 (x.toNat : Int)
theorem byS_len (s : ByteArray) : (byS s).length = s.size := by unfold byS; rw [List.length_map]; simp
theorem byS_get (s : ByteArray) (j : Nat) (h : j < (byS s).length) : (byS s)[j] = .int .u8 ((sb s j : Nat) : Int) := by
  unfold byS at h ⊢
  rw [List.getElem_map]
  unfold sb
  rw [List.getD_eq_getElem?_getD, List.getElem?_eq_getElem (by simpa using h)]
  simp
theorem Chg.sts {F : Nat → Prop} {a w : World} {b : Nat} (hb : F b ∨ a.heap.size ≤ b) (h : Chg F a w) : ∀ (vs : List Value) (o : Nat), Chg F a (w.setCells b o vs) := by
  intro vs
  induction vs generalizing w with
  | nil => exact fun o => h
  | cons v r ih => exact fun o => ih (Chg.st hb h) (o + 1)
theorem KB.put {w : World} {b o : Nat} {K V K' V' M : ByteArray} {A : Int} (h : KB w b K V A) (hM : M.size = 32) (ho : o = 0 ∨ o = 32) (hT : ∀ j, j < 64 → kvT K' V' j = if o ≤ j ∧ j < o + 32 then sb M (j - o) else kvT K V j) : KB (w.setCells b o (byS M)) b K' V' A := by
  have hl : (byS M).length = 32 := (byS_len M).trans hM
  have hc : ∀ j, j < (byS M).length → (w.cell? ⟨b, o + j, none⟩).isSome = true := fun j hj => by
    rw [(h.1.2 (o + j) (by omega)).1]; rfl
  refine ⟨⟨?_, fun k hk => ⟨?_, ?_⟩⟩, ?_, ?_⟩
  · have := (Chg.sts (F := fun k => k = b) (.inl rfl) (Chg.refl _ w) (byS M) o).size
    exact Nat.lt_of_lt_of_le h.1.1 this
  · rw [hT k hk]
    by_cases hin : o ≤ k ∧ k < o + 32
    · rw [if_pos hin]
      obtain ⟨j, rfl⟩ : ∃ j, k = o + j := ⟨k - o, by omega⟩
      rw [World.cell?_setCells_in b (byS M) o w hc j (by omega), byS_get]
      rw [show o + j - o = j from by omega]
    · rw [if_neg hin, World.cell?_setCells_out b (byS M) o w _ (fun _ _ => by show k < o ∨ o + (byS M).length ≤ k; omega)]
      exact (h.1.2 k hk).1
  · rw [World.frozen?_setCells]; exact (h.1.2 k hk).2
  · rw [World.cell?_setCells_out b (byS M) o w _ (fun _ _ => by show 64 < o ∨ o + (byS M).length ≤ 64; omega)]
    exact h.2.1
  · rw [World.frozen?_setCells]; exact h.2.2
theorem KB.putK {w : World} {b : Nat} {K V M : ByteArray} {A : Int} (h : KB w b K V A) (hM : M.size = 32) : KB (w.setCells b 0 (byS M)) b M V A :=
  h.put hM (.inl rfl) fun j hj => by
    unfold kvT
    by_cases e : j < 32
    · rw [if_pos e, if_pos ⟨Nat.zero_le _, by omega⟩, Nat.sub_zero]
    · rw [if_neg e, if_neg (by omega), if_neg e]
theorem KB.putV {w : World} {b : Nat} {K V M : ByteArray} {A : Int} (h : KB w b K V A) (hM : M.size = 32) : KB (w.setCells b 32 (byS M)) b K M A :=
  h.put hM (.inr rfl) fun j hj => by
    unfold kvT
    by_cases e : j < 32
    · rw [if_pos e, if_neg (by omega), if_pos e]
    · rw [if_neg e, if_pos ⟨by omega, by omega⟩]
theorem KB.setA {w : World} {b : Nat} {K V : ByteArray} {A : Int} (h : KB w b K V A) (B : Int) : KB (w.setCell ⟨b, 64, none⟩ (.int .i64 B)) b K V B := by
  refine ⟨⟨by simpa using h.1.1, fun k hk => ⟨?_, by simpa using (h.1.2 k hk).2⟩⟩, World.cell?_setCell_same _ _ _ h.2.1, by simpa using h.2.2⟩
  rw [World.cell?_setCell_other _ _ _ _ (fun q => by injection q with _ q _; omega)]
  exact (h.1.2 k hk).1
/-- What the walk wants of the cells that a copy writes. -/
theorem KB.there {w : World} {b o : Nat} {K V : ByteArray} {A : Int} (h : KB w b K V A) (ho : o ≤ 32) : (∀ j, j < 32 → (w.cell? ⟨b, o + j, none⟩).isSome = true) ∧ ∀ j, j < 32 → w.frozen? ⟨b, o + j, none⟩ = false :=
  ⟨fun j hj => by rw [(h.1.2 (o + j) (by omega)).1]; rfl, fun j hj => (h.1.2 (o + j) (by omega)).2⟩
end Go.Proofs.YtpfeakdpckmcgaaDoor
