/-
  The polynomial through shares and a first coefficient, step by step, over whole numbers: no Go in this text.
-/
import Derived.Test.YtnaiccfdbapdpaaDoorHBack
namespace Go.Proofs.YtnaiccfdbapdpaaDoor
/-- One step: the values less the first coefficient, by their places; and what they are at 0. -/
def stp (P : Nat → Int) (m : Nat) (q : Int × (Nat → Int)) : Int × (Nat → Int) := (smN (fun i => wI P i m * ((q.2 i - q.1) * qiv (P i) % FQ)) m % FQ, fun i => (q.2 i - q.1) * qiv (P i) % FQ)
def fsq (P : Nat → Int) (n : Nat) (S : Int) (V : Nat → Int) : Nat → Int × (Nat → Int)
  | 0 => (S, V)
  | t + 1 => stp P (n - t) (fsq P n S V t)
theorem thr_fsq (P : Nat → Int) (n : Nat) (S : Int) (V : Nat → Int) : ∀ k t, t + k = n → thrI P (fsq P n S V t).1 (fsq P n S V t).2 k = (List.range k).map fun j => (fsq P n S V (t + 1 + j)).1
  | 0, _, _ => rfl
  | k + 1, t, h => by
    have e : fsq P n S V (t + 1) = stp P (k + 1) (fsq P n S V t) := by
      show stp P (n - t) _ = _
      rw [show n - t = k + 1 from by omega]
    have IH := thr_fsq P n S V k (t + 1) (by omega)
    rw [List.range_succ_eq_map, List.map_cons, List.map_map]
    unfold thrI
    rw [show t + 1 + 0 = t + 1 from rfl, e]
    refine congr (congrArg _ rfl) ?_
    rw [e] at IH
    refine IH.trans ?_
    refine List.map_congr_left fun j _ => ?_
    show (fsq P n S V (t + 1 + 1 + j)).1 = (fsq P n S V (t + 1 + (j + 1))).1
    rw [show t + 1 + 1 + j = t + 1 + (j + 1) from by omega]
/-- The coefficients, one behind the other. -/
def crd (P : Nat → Int) (n : Nat) (S : Int) (V : Nat → Int) (t : Nat) : Int := (fsq P n S V t).1
theorem crd_list (P : Nat → Int) (n : Nat) (S : Int) (V : Nat → Int) : (List.range (n + 1)).map (crd P n S V) = S :: thrI P S V n := by
  rw [List.range_succ_eq_map, List.map_cons, List.map_map]
  refine congr (congrArg _ rfl) ?_
  rw [show thrI P S V n = _ from thr_fsq P n S V n 0 (by omega)]
  refine List.map_congr_left fun j _ => ?_
  show crd P n S V (j + 1) = (fsq P n S V (0 + 1 + j)).1
  rw [show 0 + 1 + j = j + 1 from by omega]; rfl
theorem crd_red {P : Nat → Int} {n : Nat} {S : Int} {V : Nat → Int} (hS : 0 ≤ S ∧ S < FQ) : ∀ t, crd P n S V t % FQ = crd P n S V t
  | 0 => Int.emod_eq_of_lt hS.1 hS.2
  | _ + 1 => Int.emod_emod_of_dvd _ (Int.dvd_refl _)
theorem fsq_red {P : Nat → Int} {n : Nat} {S : Int} {V : Nat → Int} (hV : ∀ i, i < n → 0 ≤ V i ∧ V i < FQ) : ∀ t i, i < n → (fsq P n S V t).2 i % FQ = (fsq P n S V t).2 i
  | 0, i, h => Int.emod_eq_of_lt (hV i h).1 (hV i h).2
  | _ + 1, _, _ => Int.emod_emod_of_dvd _ (Int.dvd_refl _)
/-- The next value. -/
theorem less_mod {P : Nat → Int} {n t i : Nat} {S : Int} {V : Nat → Int} {d0 d1 d2 d3 v0 v1 v2 v3 m0 m1 m2 m3 : Int}
    (hd : QMod (val (qw ((fsq P n S V t).2 i) 0) (qw ((fsq P n S V t).2 i) 1) (qw ((fsq P n S V t).2 i) 2) (qw ((fsq P n S V t).2 i) 3) - val (qw (crd P n S V t) 0) (qw (crd P n S V t) 1) (qw (crd P n S V t) 2) (qw (crd P n S V t) 3)) d0 d1 d2 d3)
    (hv : InvP (val (P i) 0 0 0) v0 v1 v2 v3) (hm : QMod (val d0 d1 d2 d3 * val v0 v1 v2 v3) m0 m1 m2 m3) : QMod ((fsq P n S V (t + 1)).2 i) m0 m1 m2 m3 := by
  have hq := invP_qiv hv
  rw [val_one] at hq
  refine hm.cong ?_
  show _ = ((fsq P n S V t).2 i - (fsq P n S V t).1) * qiv (P i) % FQ % FQ
  rw [Int.emod_emod_of_dvd _ (Int.dvd_refl _), hd.2, hq.2, modq_mul_mod, mul_modq_mod, (qw_mod _).2, (qw_mod _).2]
  rw [← modq_mul_mod (_ - _), ← Int.sub_emod, modq_mul_mod]
  rfl
/-- The next coefficient. -/
theorem join_mod {P : Nat → Int} {n t m : Nat} {S : Int} {V : Nat → Int} (htm : t + m = n) {r0 r1 r2 r3 : Int}
    (h : QMod (smN (fun i => wI P i m * val (qw ((fsq P n S V (t + 1)).2 i) 0) (qw ((fsq P n S V (t + 1)).2 i) 1) (qw ((fsq P n S V (t + 1)).2 i) 2) (qw ((fsq P n S V (t + 1)).2 i) 3)) m) r0 r1 r2 r3) : QMod (crd P n S V (t + 1)) r0 r1 r2 r3 := by
  refine h.cong ?_
  show _ = smN (fun i => wI P i (n - t) * ((fsq P n S V (t + 1)).2 i)) (n - t) % FQ % FQ
  rw [Int.emod_emod_of_dvd _ (Int.dvd_refl _), show n - t = m from by omega]
  congr 1
  refine smN_congr fun i hi => ?_
  rw [(qw_mod _).2]
  show _ * (((fsq P n S V t).2 i - (fsq P n S V t).1) * qiv (P i) % FQ % FQ) = _
  rw [Int.emod_emod_of_dvd _ (Int.dvd_refl _)]
  rfl
/-- The polynomial's values are the shares'; its first coefficient is the secret. -/
theorem hides {P : Nat → Int} {n : Nat} {S : Int} {V : Nat → Int} (ho : OkP P n ∨ n = 0) (hS : 0 ≤ S ∧ S < FQ) :
    (∀ i, i < n → evL (cfs (fun i j => qw (crd P n S V i) j) (n + 1)) (P i) % FQ = V i % FQ) ∧ evL (cfs (fun i j => qw (crd P n S V i) j) (n + 1)) 0 % FQ = S % FQ := by
  have e : cfs (fun i j => qw (crd P n S V i) j) (n + 1) = S :: thrI P S V n := by
    rw [← crd_list]
    refine List.map_congr_left fun i _ => ?_
    rw [(qw_mod _).2, crd_red hS]
  rw [e]
  refine ⟨fun i hi => ?_, ?_⟩
  · have ho' : OkP P n := ho.resolve_right (by omega)
    exact throughI ho'.dis ho'.unit S V i hi
  · show (S + 0 * _) % FQ = _
    rw [Int.zero_mul, Int.add_zero]
theorem OkP.less {P : Nat → Int} {n m : Nat} (h : OkP P n) (h0 : 0 < m) (hm : m ≤ n) : OkP P m := ⟨h0, fun i hi => h.2 i (by omega)⟩
end Go.Proofs.YtnaiccfdbapdpaaDoor
