/-
  sandglassref20.Take, called: whatever the message; sandglasslaw20.awake, called.
-/
import Derived.Test.YtmibekclhnkhnaaRd
import Derived.Test.YtmibekclhnkhnaaRf
namespace Go.Proofs.Ytmibekclhnkhnaa
open Go.RowKit
theorem rtake_any {N T F : Nat} {s : St} {u : Value} (m : Msg) (hok : Ok N T F s) (hT : hasQ N T) (hl : s.L.length ≤ 900) (w : World) (hu : w.ownsRow 0 38 3 u s.L.length (mcs s.L)) :
    Calls Try.prog 14 #[rC N T F u s.rb.isSome s.tb.isSome (s.tb.getD ⟨#[]⟩), mv3 m] w fun e w' => RkP N T F s m u w e w' := by
  cases hm : mayB N F m with
  | false => exact rtake_bad m hm w hu
  | true =>
    cases hh : hrd s.L m.kd m.fr with
    | true =>
      by_cases hk : m.kd = 1
      · exact rtake_heard1 m hm hh hk hl w hu
      · exact rtake_heard2 m hm hh hk hl w hu
    | false =>
      have hc : ctsB N F s.L m = true := by unfold ctsB; rw [hm, hh]; rfl
      by_cases hk : m.kd = 1
      · exact rtake_good1 m hok hT hc hk hl w hu
      · exact rtake_good2 m hok hT hc hk hl w hu
end Go.Proofs.Ytmibekclhnkhnaa
