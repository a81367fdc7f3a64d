/-
 (*votes.Votes).may, called.
-/
import Derived.Test.YtmanacbdldfmfaaVb
namespace Go.Proofs.Ytmanacbdldfmfaa
set_option maxRecDepth 10000
open Go.RowKit
theorem may_not {N : Nat} {m : Vt} (h : ¬ ((m.kd = 2 ∨ m.kd = 3) ∧ 1 ≤ m.fr ∧ m.fr ≤ (N : Int) ∧ 0 ≤ m.rd ∧ m.rd < 64 ∧ m.vl.size ≤ 4096)) : mayV N m = false := decide_eq_false h
set_option maxHeartbeats 2000000 in
theorem vmay_any {b bm : Nat} {sl : Int → Int → Value} {N T : Nat} {L : List Vt} (m : Vt) (w : World) (h : VB w b bm sl N T L) : Calls Try.prog 52 #[.pointer (some ⟨b, 0, none⟩), wv m] w fun e w' => e = .returned (.bool (mayV N m)) ∧ Ext w w' := by
 have HE : Hid (Ext w w) := Ext.refl w
 obtain ⟨c0, _, _, hb⟩ := vbx h
 clear h
 by_cases hk : m.kd = 2 ∨ m.kd = 3
 ·by_cases h1 : (1 : Int) ≤ m.fr
  ·by_cases h2 : m.fr ≤ (N : Int)
   ·by_cases h3 : (0 : Int) ≤ m.rd
    ·by_cases h4 : m.rd < 64
     ·have HM : Hid (mayV N m = decide ((m.vl.size : Int) ≤ 4096)) := decide_eq_decide.2 ⟨fun q => by omega, fun q => ⟨hk, h1, h2, h3, h4, by omega⟩⟩
      have hkd : (m.kd != 2) = false ∨ ((m.kd != 2) = true ∧ (m.kd != 3) = false) := by
       rcases hk with e | e
       ·exact .inl (by simp [e])
       ·exact .inr ⟨by simp [e], by simp [e]⟩
      clear hk
      rcases hkd with k2 | ⟨k2, k3⟩
      ·go_enter Try.func52, Try.ntmps52
       go_wp2_with fail
       go_quiet (fail)
       go_wp2
       go_ret
       exact ⟨by rw [HM.out]; rfl, (HE.out.alloc _).drewN _⟩
      ·go_enter Try.func52, Try.ntmps52
       go_wp2_with fail
       go_quiet (fail)
       go_wp2
       go_ret
       exact ⟨by rw [HM.out]; rfl, (HE.out.alloc _).drewN _⟩
     ·have HM : Hid (mayV N m = false) := may_not (fun q => by omega)
      have hkd : (m.kd != 2) = false ∨ ((m.kd != 2) = true ∧ (m.kd != 3) = false) := by
       rcases hk with e | e
       ·exact .inl (by simp [e])
       ·exact .inr ⟨by simp [e], by simp [e]⟩
      have hd : decide (m.rd < 64) = false := decide_eq_false h4
      clear h4
      clear hk
      rcases hkd with k2 | ⟨k2, k3⟩
      ·go_enter Try.func52, Try.ntmps52
       go_wp2_with fail
       go_quiet (fail)
       go_wp2
       go_ret
       exact ⟨by rw [HM.out]; rfl, (HE.out.alloc _).drewN _⟩
      ·go_enter Try.func52, Try.ntmps52
       go_wp2_with fail
       go_quiet (fail)
       go_wp2
       go_ret
       exact ⟨by rw [HM.out]; rfl, (HE.out.alloc _).drewN _⟩
    ·have HM : Hid (mayV N m = false) := may_not (fun q => by omega)
     have hkd : (m.kd != 2) = false ∨ ((m.kd != 2) = true ∧ (m.kd != 3) = false) := by
      rcases hk with e | e
      ·exact .inl (by simp [e])
      ·exact .inr ⟨by simp [e], by simp [e]⟩
     have hd : decide ((0 : Int) ≤ m.rd) = false := decide_eq_false h3
     clear h3
     clear hk
     rcases hkd with k2 | ⟨k2, k3⟩
     ·go_enter Try.func52, Try.ntmps52
      go_wp2_with fail
      go_quiet (fail)
      go_wp2
      go_ret
      exact ⟨by rw [HM.out]; rfl, (HE.out.alloc _).drewN _⟩
     ·go_enter Try.func52, Try.ntmps52
      go_wp2_with fail
      go_quiet (fail)
      go_wp2
      go_ret
      exact ⟨by rw [HM.out]; rfl, (HE.out.alloc _).drewN _⟩
   ·have HM : Hid (mayV N m = false) := may_not (fun q => by omega)
    have hkd : (m.kd != 2) = false ∨ ((m.kd != 2) = true ∧ (m.kd != 3) = false) := by
     rcases hk with e | e
     ·exact .inl (by simp [e])
     ·exact .inr ⟨by simp [e], by simp [e]⟩
    have hd : decide (m.fr ≤ (N : Int)) = false := decide_eq_false h2
    clear h2
    clear hk
    rcases hkd with k2 | ⟨k2, k3⟩
    ·go_enter Try.func52, Try.ntmps52
     go_wp2_with fail
     go_quiet (fail)
     go_wp2
     go_ret
     exact ⟨by rw [HM.out]; rfl, (HE.out.alloc _).drewN _⟩
    ·go_enter Try.func52, Try.ntmps52
     go_wp2_with fail
     go_quiet (fail)
     go_wp2
     go_ret
     exact ⟨by rw [HM.out]; rfl, (HE.out.alloc _).drewN _⟩
  ·have HM : Hid (mayV N m = false) := may_not (fun q => by omega)
   have hkd : (m.kd != 2) = false ∨ ((m.kd != 2) = true ∧ (m.kd != 3) = false) := by
    rcases hk with e | e
    ·exact .inl (by simp [e])
    ·exact .inr ⟨by simp [e], by simp [e]⟩
   have hd : decide ((1 : Int) ≤ m.fr) = false := decide_eq_false h1
   clear h1
   clear hk
   rcases hkd with k2 | ⟨k2, k3⟩
   ·go_enter Try.func52, Try.ntmps52
    go_wp2_with fail
    go_quiet (fail)
    go_wp2
    go_ret
    exact ⟨by rw [HM.out]; rfl, (HE.out.alloc _).drewN _⟩
   ·go_enter Try.func52, Try.ntmps52
    go_wp2_with fail
    go_quiet (fail)
    go_wp2
    go_ret
    exact ⟨by rw [HM.out]; rfl, (HE.out.alloc _).drewN _⟩
 ·have HM : Hid (mayV N m = false) := may_not (fun q => hk q.1)
  have k2 : (m.kd != 2) = true := by simpa using fun e => hk (.inl e)
  have k3 : (m.kd != 3) = true := by simpa using fun e => hk (.inr e)
  clear hk
  go_enter Try.func52, Try.ntmps52
  go_wp2
  go_ret
  exact ⟨by rw [HM.out]; rfl, HE.out.alloc _⟩
end Go.Proofs.Ytmanacbdldfmfaa
