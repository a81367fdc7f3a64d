/-
  n cells of one kind of number in a block, which may be written; and slices over them. No function of the program is named here.
-/
import Derived.Test.YtdpplmfgbglkhaaEx
import Derived.Test.YtdpplmfgbglkhaaMulMath
import Derived.Laws.BitsAllLaws
namespace Go.Proofs.Ytdpplmfgbglkhaa
open Go.RowKit
/-- n numbers in block b, which may be written. -/
def TabN (w : World) (b : Nat) (kd : IntKind) (n : Nat) (T : Nat → Nat) : Prop := b < w.heap.size ∧ ∀ k, k < n → w.cell? ⟨b, k, none⟩ = some (.int kd (T k : Int)) ∧ w.frozen? ⟨b, k, none⟩ = false
theorem TabN.ext {w w' : World} {b n : Nat} {kd : IntKind} {T : Nat → Nat} (h : TabN w b kd n T) (hx : Ext w w') : TabN w' b kd n T :=
  ⟨Nat.lt_of_lt_of_le h.1 hx.size, fun k hk => ⟨later hx (h.2 k hk).1, (hx.cells.2 b k h.1).trans (h.2 k hk).2⟩⟩
theorem TabN.set {w : World} {b n : Nat} {kd : IntKind} {T : Nat → Nat} (h : TabN w b kd n T) (o v : Nat) : TabN (w.setCell ⟨b, o, none⟩ (.int kd (v : Int))) b kd n (put T o v) := by
  refine ⟨by simpa using h.1, fun k hk => ⟨?_, by simpa using (h.2 k hk).2⟩⟩
  by_cases e : k = o
  · subst e
    rw [put_same]
    exact World.cell?_setCell_same' _ _ _ (by rw [(h.2 k hk).1]; rfl)
  · rw [put_other _ _ e, World.cell?_setCell_other _ _ _ _ (fun q => e (by injection q with _ q _; exact q.symm))]
    exact (h.2 k hk).1
theorem TabN.other {w : World} {b c i n : Nat} {kd : IntKind} {T : Nat → Nat} {v : Value} (hne : c ≠ b) (h : TabN w c kd n T) : TabN (w.setCell ⟨b, i, none⟩ v) c kd n T :=
  ⟨by simpa using h.1, fun k hk => ⟨by rw [World.cell?_setCell_far _ _ _ _ (fun q => hne q.symm)]; exact (h.2 k hk).1, by simpa using (h.2 k hk).2⟩⟩
theorem TabN.new (w : World) (kd : IntKind) (n : Nat) (t : TypeId) : TabN (w.alloc (.cells (Array.replicate n (.int kd 0)) t)) w.heap.size kd n (fun _ => 0) :=
  ⟨by simp, fun k hk => ⟨by rw [World.cell?_alloc_at _ _ _ _ rfl]; simp [hk], World.frozen?_alloc_at _ _ _ _ rfl⟩⟩
/-- The first n numbers, as a list of cells. -/
def lst (kd : IntKind) (T : Nat → Nat) (n : Nat) : List Value := (List.range n).map fun (i : Nat) => Value.int kd (T i : Int)
theorem lst_len (kd : IntKind) (T : Nat → Nat) (n : Nat) : (lst kd T n).length = n := by simp [lst]
theorem lst_get {kd : IntKind} {T : Nat → Nat} {n i : Nat} (h : i < n) : (lst kd T n)[i]? = some (.int kd (T i : Int)) := by
  unfold lst
  rw [List.getElem?_map, List.getElem?_range h]
  rfl
theorem lst_of {kd : IntKind} {T : Nat → Nat} {n i : Nat} {x : Value} (h : (lst kd T n)[i]? = some x) : i < n ∧ x = .int kd (T i : Int) := by
  have hi : i < n := by
    have := (List.getElem?_eq_some_iff.1 h).1
    rwa [lst_len] at this
  rw [lst_get hi] at h
  exact ⟨hi, (Option.some.inj h).symm⟩
theorem lst_succ (kd : IntKind) (T : Nat → Nat) (n : Nat) : lst kd T (n + 1) = lst kd T n ++ [.int kd (T n : Int)] := by simp [lst, List.range_succ]
theorem lst_congr {kd : IntKind} {T S : Nat → Nat} {n : Nat} (h : ∀ k, k < n → T k = S k) : lst kd T n = lst kd S n := by
  unfold lst
  refine List.map_congr_left fun i hi => ?_
  rw [h i (List.mem_range.1 hi)]
theorem TabN.slice {w : World} {b n c : Nat} {kd : IntKind} {T : Nat → Nat} (h : TabN w b kd n T) (hn : n ≤ maxLen) : SlIs w (.slice (some ⟨b, 0, none⟩) n c) (lst kd T n) :=
  .inr ⟨b, 0, c, by rw [lst_len], h.1, by rw [lst_len]; exact hn, fun j x hj => by obtain ⟨hk, rfl⟩ := lst_of hj; rw [Nat.zero_add]; exact (h.2 j hk).1⟩
/-- A slice that is read, its first cell's place given. -/
theorem SlIs.form {w : World} {v : Value} {kd : IntKind} {T : Nat → Nat} {n : Nat} (h : SlIs w v (lst kd T n)) (hn : 0 < n) : ∃ b o c, v = .slice (some ⟨b, o, none⟩) n c ∧ b < w.heap.size ∧ ∀ j, j < n → w.cell? ⟨b, o + j, none⟩ = some (.int kd (T j : Int)) := by
  rcases h with ⟨_, h⟩ | ⟨b, o, c, h1, h2, _, h4⟩
  · have := lst_len kd T n
    rw [h] at this
    simp at this
    omega
  · rw [lst_len] at h1
    exact ⟨b, o, c, h1, h2, fun j hj => h4 j _ (lst_get hj)⟩
theorem own_tab {w : World} {base g n c : Nat} {e : TypeId} {kd : IntKind} {T : Nat → Nat} (h : w.ownsRow base e 1 (.slice (some ⟨g, 0, none⟩) n c) n (lst kd T n)) : TabN w g kd n T := by
  have hc := h.cells (g := g) rfl
  rcases h.2 with ⟨h0, _⟩ | ⟨g', cap, cur, hv, hb, hgg, rest⟩
  · cases h0
  · injection hv with hv _ _
    injection hv with hv
    injection hv with hv _ _
    subst hv
    refine ⟨(Array.getElem?_eq_some_iff.1 hgg).1, fun k hk => ⟨?_, by simp [World.frozen?, hgg]⟩⟩
    have := hc k _ (lst_get hk)
    have hadd : (⟨g, 0, none⟩ : Addr).add k = ⟨g, k, none⟩ := by unfold Addr.add; split <;> simp_all
    rwa [hadd] at this
theorem made_lst (kd : IntKind) (n : Nat) : (madeCells (Value.int kd 0).cells (n * 1)).toList = lst kd (fun _ => 0) n := by
  unfold madeCells lst
  rw [Nat.mul_one]
  simp [Value.cells, Nat.mod_one]
theorem made_lst' (kd : IntKind) (n : Nat) : (madeCells #[Value.int kd 0] n).toList = lst kd (fun _ => 0) n := by
  have h := made_lst kd n
  rw [Nat.mul_one] at h
  exact h
theorem and32 (t : Nat) (h : t < 18446744073709551616) : bits BinOp.and IntKind.u64 (t : Int) 4294967295 = ((t % BW : Nat) : Int) := by
  have := u64_and_nat t 4294967295 h (by decide)
  rw [show ((4294967295 : Nat) : Int) = 4294967295 from rfl, show (4294967295 : Nat) = 2 ^ 32 - 1 from by decide, Nat.and_two_pow_sub_one_eq_mod] at this
  exact this
end Go.Proofs.Ytdpplmfgbglkhaa
