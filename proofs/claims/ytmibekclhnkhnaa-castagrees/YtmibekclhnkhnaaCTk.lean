/-
  (*cast.Cast).Take, called: whatever the message.
-/
import Derived.Test.YtmibekclhnkhnaaCv1
import Derived.Test.YtmibekclhnkhnaaCv2
import Derived.Test.YtmibekclhnkhnaaCv3
import Derived.Test.YtmibekclhnkhnaaCv4
import Derived.Test.YtmibekclhnkhnaaCv5
import Derived.Test.YtmibekclhnkhnaaCv6
import Derived.Test.YtmibekclhnkhnaaCv7
namespace Go.Proofs.Ytmibekclhnkhnaa
open Go.RowKit
theorem ctake_any {N T F : Nat} {s : St} {G : Nat → Prop} {v : Value} (m : Msg) (hT : hasQ N T) (hok : Ok N T F s) (hl : s.L.length ≤ 900) (w : World) (h : CAt w v N T F s G) :
    Calls Try.prog 17 #[v, mv3 m] w fun e w' => TkP N T F s m v G w e w' := by
  have hN : N ≤ 7 := by have := hT.2.2.2; omega
  cases hc : ctsB N F s.L m with
  | false => exact ctake_bad m hN hc w h
  | true =>
    by_cases hk : m.kd = 1
    · exact ctake_send m hN hc hk w h
    cases htb : s.tb with
    | some B => exact ctake_v0 m hN hT hl hc hk (by rw [htb]; rfl) (hok.tr (by rw [htb]; rfl)) w h
    | none =>
      by_cases h2 : 2 * T < cnt (s.L ++ [m]) 3 m.bd
      · cases hR : s.rb.isSome with
        | true => exact ctake_v1 m hN hT hl hc hk htb hR h2 w h
        | false =>
          by_cases he : cnt (s.L ++ [m]) 2 m.bd < qm N T
          · exact ctake_v3 m hN hT hl hc hk htb hR h2 he (by omega) w h
          · exact ctake_v2 m hN hT hl hc hk htb hR h2 he w h
      · cases hR : s.rb.isSome with
        | true => exact ctake_v4 m hN hT hl hc hk htb hR h2 w h
        | false =>
          by_cases he : cnt (s.L ++ [m]) 2 m.bd < qm N T
          · by_cases hr : cnt (s.L ++ [m]) 3 m.bd ≤ T
            · exact ctake_v7 m hN hT hl hc hk htb hR h2 he hr w h
            · exact ctake_v6 m hN hT hl hc hk htb hR h2 he hr w h
          · exact ctake_v5 m hN hT hl hc hk htb hR h2 he w h
end Go.Proofs.Ytmibekclhnkhnaa
