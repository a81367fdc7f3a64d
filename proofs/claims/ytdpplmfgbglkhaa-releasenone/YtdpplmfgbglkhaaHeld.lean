/-
  A drawn region by hand, with a predicate S that every operation leaves true: what reads memory is taken first where S tells what it reads; guarded operations too. No function of the program is named here.
-/
import Derived.Test.YtdpplmfgbglkhaaUntil
namespace Go.Proofs.Ytdpplmfgbglkhaa
section
variable {P : Program} {ops : Array Oper} {Q : Exit → Act → World → Prop} {md : Region.Mode} {S : World → Prop}
/-- Take number i first: it is wanted, and S tells what it yields. -/
theorem held_take {i : Nat} {oi : Oper} {v : Value} {f : Nat} {L : Array Bool} {a : Act} {w : World} (hi : ops.toList[i]? = some oi)
    (hs : Region.noSelect ops = true) (hf : Region.free md ops L i = true) (hr : (Region.ready md ops L).contains i = true)
    (hQ : ∀ c a w, Q (.panic c) (a.put oi.dst v) w → Q (.panic c) a w) (hw : Region.wanted oi (yielded ops a.tmps) = true) (hy : ∀ w, S w → (execOp a.eval oi).run P w = .ok (.value v) w) (hS : S w)
    (h : wpAnyH P md ops Q S f (L.setIfInBounds i true) (a.put oi.dst v) w) : wpAnyH P md ops Q S (f + 1) L a w :=
  wpAnyH_take (toList_at hi) hs hf hr hQ (Or.inl ⟨hw, hy⟩) hS h
/-- Pass number i by: its guard is false. -/
theorem held_skip {i : Nat} {oi : Oper} {f : Nat} {L : Array Bool} {a : Act} {w : World} (hi : ops.toList[i]? = some oi)
    (hs : Region.noSelect ops = true) (hf : Region.free md ops L i = true) (hr : (Region.ready md ops L).contains i = true)
    (hQ : ∀ c a w, Q (.panic c) (a.put oi.dst undef) w → Q (.panic c) a w) (hw : Region.wanted oi (yielded ops a.tmps) = false) (hS : S w)
    (h : wpAnyH P md ops Q S f (L.setIfInBounds i true) (a.put oi.dst undef) w) : wpAnyH P md ops Q S (f + 1) L a w :=
  wpAnyH_take (toList_at hi) hs hf hr hQ (Or.inr ⟨hw, rfl⟩) hS h
theorem held_op {i : Nat} {oi : Oper} {K : Act → World → Prop} {a : Act} {w : World} (hi : ops.toList[i]? = some oi) (hw : Region.wanted oi (yielded ops a.tmps) = true)
    (h : ∀ K' : Act → World → Prop, Shut (∀ a w, K a w → K' a w) → Oper.wp P oi a w K' Q) : wpOp P ops Q i K a w :=
  wpOp_step (toList_at hi) (fun K' hK => by rw [if_pos hw]; exact h K' hK)
/-- One alone may come up. -/
theorem held_one {i : Nat} {oi : Oper} {f : Nat} {L : Array Bool} {a : Act} {w : World} (hr : Region.ready md ops L = [i]) (hi : ops.toList[i]? = some oi) (hw : Region.wanted oi (yielded ops a.tmps) = true)
    (h : ∀ K' : Act → World → Prop, Shut (∀ a w, S w ∧ wpAnyH P md ops Q S f (L.setIfInBounds i true) a w → K' a w) → Oper.wp P oi a w K' Q) : wpAnyH P md ops Q S (f + 1) L a w :=
  wpAnyH_all hr (by simp) fun j hj => by
    obtain rfl : j = i := by simpa using hj
    exact held_op hi hw h
/-- Two may come up. -/
theorem held_two {i k : Nat} {oi ok : Oper} {f : Nat} {L : Array Bool} {a : Act} {w : World} (hr : Region.ready md ops L = [i, k]) (hi : ops.toList[i]? = some oi) (hk : ops.toList[k]? = some ok)
    (hwi : Region.wanted oi (yielded ops a.tmps) = true) (hwk : Region.wanted ok (yielded ops a.tmps) = true)
    (h1 : ∀ K' : Act → World → Prop, Shut (∀ a w, S w ∧ wpAnyH P md ops Q S f (L.setIfInBounds i true) a w → K' a w) → Oper.wp P oi a w K' Q)
    (h2 : ∀ K' : Act → World → Prop, Shut (∀ a w, S w ∧ wpAnyH P md ops Q S f (L.setIfInBounds k true) a w → K' a w) → Oper.wp P ok a w K' Q) : wpAnyH P md ops Q S (f + 1) L a w :=
  wpAnyH_all hr (by simp) fun j hj => by
    have : j = i ∨ j = k := by simpa using hj
    rcases this with rfl | rfl
    · exact held_op hi hwi h1
    · exact held_op hk hwk h2
end
end Go.Proofs.Ytdpplmfgbglkhaa
