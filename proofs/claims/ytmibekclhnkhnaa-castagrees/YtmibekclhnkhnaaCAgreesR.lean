/-
  CastAgrees, proved: for every nodes, sender and whatever comes next that come in, the law CastAgrees of layer 20 returns true, and what comes in reads as it did. Conditions: none beyond the given statement.
-/
import Derived.Test.YtmibekclhnkhnaaLi
import Derived.Test.YtmibekclhnkhnaaOpen
namespace Go.Proofs.Ytmibekclhnkhnaa
open Go.ChangeShapes Go.WideShapes Go.ChangeAt Go.RowKit
theorem castAgrees_any (n t f : Int) (v : Value) (M : List (Int × Msg)) (w : World) (hM : BrIs w v M) (hMw : ∀ (j : Nat) x, M[j]? = some x → (Lit.int .i64 x.1).wf = true) : Calls Try.prog 6 #[.agg #[.int .i64 n, .int .i64 t, .int .i64 f], v] w fun e w' => e = .returned (.bool true) ∧ Ext w w' := by
  by_cases h : hasC n t f
  · by_cases hl : M.length ≤ 200
    · obtain ⟨N, T, F, rfl, rfl, rfl⟩ := good_nats h
      exact castAgrees_main N T F v M h hl w hM hMw
    · exact castAgrees_early n t f v M (.inl (by omega)) w hM
  · exact castAgrees_early n t f v M (.inr h) w hM
set_option maxRecDepth 100000 in
theorem castAgrees_lifted (os : Os) (started : os.Started) (H : Type) (enc : TypeId × Value → H) :
    ReturnsInHanded {} Try.checked os 6 .any (Rows.castAgreesSpec.pre6 enc Try.prog Try.f6 Rows.castAgreesRow.domain false) (Rows.castAgreesSpec.post enc Try.prog Try.f6 false true false false) := by
  refine returnsInHanded_of_change (C := Try.checked) Try.own started (by kernel_rfl) Try.func6
    (ChangeSpec.witness6 (enc := enc) (C := Try.checked) false ⟨#[], #[.agg #[.int .i64 0, .int .i64 0, .int .i64 0], .slice none 0 0], []⟩ 8 (by kernel_rfl) (by kernel_rfl) (by kernel_rfl) (by kernel_rfl)) ?_
  intro W base args ds gs before hval0 hW _ _
  have hval : ∀ (j : Nat) t v, Try.f6.params[j]? = some t → args[j]? = some v → Value.okWide Try.prog W .any base t v := hval0
  have hW' := hW
  obtain ⟨p, q, hA0, hV, rfl, _, _⟩ := hW
  have hA : DataW.TrodAll enc Try.prog W 0 (fun _ => true) true Try.f6.params.toList args.toList ds p := hA0
  rw [Try.params6] at hA hval
  obtain ⟨v0, vs0, d0, ds0, p0, q0, hargs, rfl, rfl, h0, r0⟩ := trodAll_cons hA
  obtain ⟨v1, vs1, d1, ds1, p1, q1, rfl, rfl, rfl, h1, r1⟩ := trodAll_cons r0
  obtain ⟨rfl, rfl, rfl⟩ := trodAll_nil r1
  obtain rfl : args = #[v0, v1] := by cases args; simp_all
  obtain ⟨rfl, rfl⟩ := trodVars_none hV
  have lt0 : ∀ x ∈ p0, x.block < W.heap.size := by obtain ⟨m, hm⟩ := h0; exact DataW.trod_lt m _ _ _ hm
  have lt1 : ∀ x ∈ p1, x.block < W.heap.size := by obtain ⟨m, hm⟩ := h1; exact DataW.trod_lt m _ _ _ hm
  obtain ⟨wn, wt, wf, rfl⟩ := open_who (hval 0 26 v0 rfl rfl) h0
  obtain ⟨M, hM, hMw⟩ := open_brs (hval 1 45 v1 rfl rfl) h1
  clear hA0 hval0
  refine (castAgrees_any wn wt wf v1 M W hM hMw).mono fun e W' ⟨he, bel⟩ => ?_
  subst he
  exact ⟨_, rfl, _, _, _, [], _, [], hW', trodAll_mk1 (shut_bool Try.underlying4 _), (trodAll_cons_mk (Below.trod Try.laidOut (by kernel_rfl) (of_decide_eq_true (by kernel_rfl)) h0 bel lt0) (trodAll_cons_mk (Below.trod Try.laidOut (by kernel_rfl) (of_decide_eq_true (by kernel_rfl)) h1 bel lt1) trodAll_mk0)), rfl, Below.frame bel _, fun h => by cases h⟩
theorem castAgrees_holds : Rows.CastAgreesSaid :=
  OpenClaim.holds_of_wide 6 Try.f6 rfl rfl rfl rfl rfl rfl rfl ⟨rfl, rfl, rfl, rfl, rfl⟩ rfl rfl rfl rfl rfl (by kernel_rfl) Try.func6 (by kernel_rfl)
    (of_decide_eq_true (by kernel_rfl)) (by unfold Func.isWrapper; first | (rw [if_pos (by decide +kernel)]; kernel_rfl) | (rw [if_neg (by decide +kernel)]; exact ⟨rfl, rfl⟩))
    (fun os started H enc _ => castAgrees_lifted os started H enc)
#print axioms castAgrees_holds
end Go.Proofs.Ytmibekclhnkhnaa
