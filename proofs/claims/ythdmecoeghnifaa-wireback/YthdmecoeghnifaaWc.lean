/-
  wire.mayBeCommand, mayBeWord, called; nothing old is turned.
-/
import Derived.Test.YthdmecoeghnifaaWa
namespace Go.Proofs.Ythdmecoeghnifaa
open Go.RowKit
theorem false_is {r : Bool} {p : Prop} [Decidable p] (h : decide p = r) (hp : ¬ p) : false = r := by rw [← h, decide_eq_false hp]
theorem true_is {r : Bool} {p : Prop} [Decidable p] (h : decide p = r) (hp : p) : true = r := by rw [← h, decide_eq_true hp]
theorem dec_is {r : Bool} {p q : Prop} [Decidable p] [Decidable q] (h : decide p = r) (hp : q ↔ p) : decide q = r := by rw [← h]; exact decide_eq_decide.2 hp
theorem beq_is {r : Bool} {p : Prop} [Decidable p] {x y : Int} (h : decide p = r) (hp : x = y ↔ p) : (x == y) = r := by rw [← h, Bool.eq_iff_iff, beq_iff_eq, decide_eq_true_iff]; exact hp
theorem and_is {r : Bool} {p q q' : Prop} [Decidable p] [Decidable q] [Decidable q'] (h : decide p = r) (hp : (q ∧ q') ↔ p) : (decide q && decide q') = r := by rw [← h, Bool.eq_iff_iff, Bool.and_eq_true, decide_eq_true_iff, decide_eq_true_iff, decide_eq_true_iff]; exact hp
set_option maxHeartbeats 4000000 in
theorem wmayC_any (k e : Int) (nm bd : ByteArray) (w : World) :
    Calls Try.prog 49 #[.agg #[.int .i64 k, .int .i64 e, .string nm, .string bd]] w fun ex w' => ex = .returned (.bool (cmdOk k e nm bd)) ∧ Ext w w' := by
  obtain ⟨r0, HR⟩ : ∃ r0, Hid (cmdOk k e nm bd = r0) := ⟨_, rfl⟩
  rw [HR.out]
  obtain ⟨K, HK⟩ : ∃ K, Hid (K = k) := ⟨_, rfl⟩
  rw [← HK.out] at HR
  unfold cmdOk at HR
  by_cases hnm : nm.size = 0
  · have qnm := toList_nil hnm
    have pnm := isEmpty_nil hnm
    by_cases hbd : bd.size = 0
    · have qbd := toList_nil hbd
      have pbd := isEmpty_nil hbd
      by_cases k1 : k = 1
      · subst k1
        go_enter Try.func49, Try.ntmps49
        go_wp2
        all_goals (have hK : _ = _ := HK.out; go_ret; refine ⟨congrArg (fun b => Ending.returned (.bool b)) (?_ : _ = r0), (Ext.refl _).alloc _⟩; first | exact false_is HR.out (by omega) | exact true_is HR.out (by omega) | exact beq_is HR.out (by omega) | exact dec_is HR.out (by omega) | exact and_is HR.out (by omega))
      · skip
        by_cases k2 : k = 2
        · subst k2
          go_enter Try.func49, Try.ntmps49
          go_wp2
          all_goals (have hK : _ = _ := HK.out; go_ret; refine ⟨congrArg (fun b => Ending.returned (.bool b)) (?_ : _ = r0), (Ext.refl _).alloc _⟩; first | exact false_is HR.out (by omega) | exact true_is HR.out (by omega) | exact beq_is HR.out (by omega) | exact dec_is HR.out (by omega) | exact and_is HR.out (by omega))
        · skip
          by_cases k3 : k = 3
          · subst k3
            go_enter Try.func49, Try.ntmps49
            go_wp2
            all_goals (have hK : _ = _ := HK.out; go_ret; refine ⟨congrArg (fun b => Ending.returned (.bool b)) (?_ : _ = r0), (Ext.refl _).alloc _⟩; first | exact false_is HR.out (by omega) | exact true_is HR.out (by omega) | exact beq_is HR.out (by omega) | exact dec_is HR.out (by omega) | exact and_is HR.out (by omega))
          · skip
            go_enter Try.func49, Try.ntmps49
            go_wp2
            all_goals (have hK : _ = _ := HK.out; go_ret; refine ⟨congrArg (fun b => Ending.returned (.bool b)) (?_ : _ = r0), (Ext.refl _).alloc _⟩; first | exact false_is HR.out (by omega) | exact true_is HR.out (by omega) | exact beq_is HR.out (by omega) | exact dec_is HR.out (by omega) | exact and_is HR.out (by omega))
    · have qbd := toList_some hbd
      have pbd := isEmpty_some hbd
      by_cases k1 : k = 1
      · subst k1
        go_enter Try.func49, Try.ntmps49
        go_wp2
        all_goals (have hK : _ = _ := HK.out; go_ret; refine ⟨congrArg (fun b => Ending.returned (.bool b)) (?_ : _ = r0), (Ext.refl _).alloc _⟩; first | exact false_is HR.out (by omega) | exact true_is HR.out (by omega) | exact beq_is HR.out (by omega) | exact dec_is HR.out (by omega) | exact and_is HR.out (by omega))
      · skip
        by_cases k2 : k = 2
        · subst k2
          go_enter Try.func49, Try.ntmps49
          go_wp2
          all_goals (have hK : _ = _ := HK.out; go_ret; refine ⟨congrArg (fun b => Ending.returned (.bool b)) (?_ : _ = r0), (Ext.refl _).alloc _⟩; first | exact false_is HR.out (by omega) | exact true_is HR.out (by omega) | exact beq_is HR.out (by omega) | exact dec_is HR.out (by omega) | exact and_is HR.out (by omega))
        · skip
          by_cases k3 : k = 3
          · subst k3
            go_enter Try.func49, Try.ntmps49
            go_wp2
            all_goals (have hK : _ = _ := HK.out; go_ret; refine ⟨congrArg (fun b => Ending.returned (.bool b)) (?_ : _ = r0), (Ext.refl _).alloc _⟩; first | exact false_is HR.out (by omega) | exact true_is HR.out (by omega) | exact beq_is HR.out (by omega) | exact dec_is HR.out (by omega) | exact and_is HR.out (by omega))
          · skip
            go_enter Try.func49, Try.ntmps49
            go_wp2
            all_goals (have hK : _ = _ := HK.out; go_ret; refine ⟨congrArg (fun b => Ending.returned (.bool b)) (?_ : _ = r0), (Ext.refl _).alloc _⟩; first | exact false_is HR.out (by omega) | exact true_is HR.out (by omega) | exact beq_is HR.out (by omega) | exact dec_is HR.out (by omega) | exact and_is HR.out (by omega))
  · have qnm := toList_some hnm
    have pnm := isEmpty_some hnm
    by_cases hbd : bd.size = 0
    · have qbd := toList_nil hbd
      have pbd := isEmpty_nil hbd
      by_cases k1 : k = 1
      · subst k1
        go_enter Try.func49, Try.ntmps49
        go_wp2
        all_goals (have hK : _ = _ := HK.out; go_ret; refine ⟨congrArg (fun b => Ending.returned (.bool b)) (?_ : _ = r0), (Ext.refl _).alloc _⟩; first | exact false_is HR.out (by omega) | exact true_is HR.out (by omega) | exact beq_is HR.out (by omega) | exact dec_is HR.out (by omega) | exact and_is HR.out (by omega))
      · skip
        by_cases k2 : k = 2
        · subst k2
          go_enter Try.func49, Try.ntmps49
          go_wp2
          all_goals (have hK : _ = _ := HK.out; go_ret; refine ⟨congrArg (fun b => Ending.returned (.bool b)) (?_ : _ = r0), (Ext.refl _).alloc _⟩; first | exact false_is HR.out (by omega) | exact true_is HR.out (by omega) | exact beq_is HR.out (by omega) | exact dec_is HR.out (by omega) | exact and_is HR.out (by omega))
        · skip
          by_cases k3 : k = 3
          · subst k3
            go_enter Try.func49, Try.ntmps49
            go_wp2
            all_goals (have hK : _ = _ := HK.out; go_ret; refine ⟨congrArg (fun b => Ending.returned (.bool b)) (?_ : _ = r0), (Ext.refl _).alloc _⟩; first | exact false_is HR.out (by omega) | exact true_is HR.out (by omega) | exact beq_is HR.out (by omega) | exact dec_is HR.out (by omega) | exact and_is HR.out (by omega))
          · skip
            go_enter Try.func49, Try.ntmps49
            go_wp2
            all_goals (have hK : _ = _ := HK.out; go_ret; refine ⟨congrArg (fun b => Ending.returned (.bool b)) (?_ : _ = r0), (Ext.refl _).alloc _⟩; first | exact false_is HR.out (by omega) | exact true_is HR.out (by omega) | exact beq_is HR.out (by omega) | exact dec_is HR.out (by omega) | exact and_is HR.out (by omega))
    · have qbd := toList_some hbd
      have pbd := isEmpty_some hbd
      by_cases k1 : k = 1
      · subst k1
        go_enter Try.func49, Try.ntmps49
        go_wp2
        all_goals (have hK : _ = _ := HK.out; go_ret; refine ⟨congrArg (fun b => Ending.returned (.bool b)) (?_ : _ = r0), (Ext.refl _).alloc _⟩; first | exact false_is HR.out (by omega) | exact true_is HR.out (by omega) | exact beq_is HR.out (by omega) | exact dec_is HR.out (by omega) | exact and_is HR.out (by omega))
      · skip
        by_cases k2 : k = 2
        · subst k2
          go_enter Try.func49, Try.ntmps49
          go_wp2
          all_goals (have hK : _ = _ := HK.out; go_ret; refine ⟨congrArg (fun b => Ending.returned (.bool b)) (?_ : _ = r0), (Ext.refl _).alloc _⟩; first | exact false_is HR.out (by omega) | exact true_is HR.out (by omega) | exact beq_is HR.out (by omega) | exact dec_is HR.out (by omega) | exact and_is HR.out (by omega))
        · skip
          by_cases k3 : k = 3
          · subst k3
            go_enter Try.func49, Try.ntmps49
            go_wp2
            all_goals (have hK : _ = _ := HK.out; go_ret; refine ⟨congrArg (fun b => Ending.returned (.bool b)) (?_ : _ = r0), (Ext.refl _).alloc _⟩; first | exact false_is HR.out (by omega) | exact true_is HR.out (by omega) | exact beq_is HR.out (by omega) | exact dec_is HR.out (by omega) | exact and_is HR.out (by omega))
          · skip
            go_enter Try.func49, Try.ntmps49
            go_wp2
            all_goals (have hK : _ = _ := HK.out; go_ret; refine ⟨congrArg (fun b => Ending.returned (.bool b)) (?_ : _ = r0), (Ext.refl _).alloc _⟩; first | exact false_is HR.out (by omega) | exact true_is HR.out (by omega) | exact beq_is HR.out (by omega) | exact dec_is HR.out (by omega) | exact and_is HR.out (by omega))
set_option maxHeartbeats 4000000 in
theorem wmayW_any (k f r v : Int) (x : ByteArray) (w : World) :
    Calls Try.prog 52 #[.agg #[.int .i64 k, .int .i64 f, .int .i64 r, .int .i64 v, .string x]] w fun ex w' => ex = .returned (.bool (wrdOk k f r v x)) ∧ Ext w w' := by
  obtain ⟨r0, HR⟩ : ∃ r0, Hid (wrdOk k f r v x = r0) := ⟨_, rfl⟩
  rw [HR.out]
  obtain ⟨K, HK⟩ : ∃ K, Hid (K = k) := ⟨_, rfl⟩
  obtain ⟨V, HV⟩ : ∃ V, Hid (V = v) := ⟨_, rfl⟩
  rw [← HK.out, ← HV.out] at HR
  unfold wrdOk at HR
  by_cases f1 : f < 1
  · skip
    go_enter Try.func52, Try.ntmps52
    go_wp2
    all_goals (have hK : _ = _ := HK.out; have hV : _ = _ := HV.out; go_ret; refine ⟨congrArg (fun b => Ending.returned (.bool b)) (?_ : _ = r0), (Ext.refl _).alloc _⟩; first | exact false_is HR.out (by omega) | exact true_is HR.out (by omega) | exact beq_is HR.out (by omega) | exact dec_is HR.out (by omega) | exact and_is HR.out (by omega))
  · skip
    by_cases f2 : 7 < f
    · skip
      go_enter Try.func52, Try.ntmps52
      go_wp2
      all_goals (have hK : _ = _ := HK.out; have hV : _ = _ := HV.out; go_ret; refine ⟨congrArg (fun b => Ending.returned (.bool b)) (?_ : _ = r0), (Ext.refl _).alloc _⟩; first | exact false_is HR.out (by omega) | exact true_is HR.out (by omega) | exact beq_is HR.out (by omega) | exact dec_is HR.out (by omega) | exact and_is HR.out (by omega))
    · skip
      by_cases r1 : r < 0
      · skip
        go_enter Try.func52, Try.ntmps52
        go_wp2
        all_goals (have hK : _ = _ := HK.out; have hV : _ = _ := HV.out; go_ret; refine ⟨congrArg (fun b => Ending.returned (.bool b)) (?_ : _ = r0), (Ext.refl _).alloc _⟩; first | exact false_is HR.out (by omega) | exact true_is HR.out (by omega) | exact beq_is HR.out (by omega) | exact dec_is HR.out (by omega) | exact and_is HR.out (by omega))
      · skip
        by_cases r2 : 64 ≤ r
        · skip
          go_enter Try.func52, Try.ntmps52
          go_wp2
          all_goals (have hK : _ = _ := HK.out; have hV : _ = _ := HV.out; go_ret; refine ⟨congrArg (fun b => Ending.returned (.bool b)) (?_ : _ = r0), (Ext.refl _).alloc _⟩; first | exact false_is HR.out (by omega) | exact true_is HR.out (by omega) | exact beq_is HR.out (by omega) | exact dec_is HR.out (by omega) | exact and_is HR.out (by omega))
        · skip
          by_cases z1 : 4096 < (x.size : Int)
          · skip
            go_enter Try.func52, Try.ntmps52
            go_wp2
            all_goals (have hK : _ = _ := HK.out; have hV : _ = _ := HV.out; go_ret; refine ⟨congrArg (fun b => Ending.returned (.bool b)) (?_ : _ = r0), (Ext.refl _).alloc _⟩; first | exact false_is HR.out (by omega) | exact true_is HR.out (by omega) | exact beq_is HR.out (by omega) | exact dec_is HR.out (by omega) | exact and_is HR.out (by omega))
          · skip
            by_cases k1 : k = 1
            · subst k1
              by_cases v1 : -1 ≤ v
              · by_cases v2 : v < r
                · skip
                  by_cases hx : x.size = 0
                  · have qx := toList_nil hx
                    have px := isEmpty_nil hx
                    go_enter Try.func52, Try.ntmps52
                    go_wp2
                    all_goals (have hK : _ = _ := HK.out; have hV : _ = _ := HV.out; go_ret; refine ⟨congrArg (fun b => Ending.returned (.bool b)) (?_ : _ = r0), (Ext.refl _).alloc _⟩; first | exact false_is HR.out (by omega) | exact true_is HR.out (by omega) | exact beq_is HR.out (by omega) | exact dec_is HR.out (by omega) | exact and_is HR.out (by omega))
                  · have qx := toList_some hx
                    have px := isEmpty_some hx
                    go_enter Try.func52, Try.ntmps52
                    go_wp2
                    all_goals (have hK : _ = _ := HK.out; have hV : _ = _ := HV.out; go_ret; refine ⟨congrArg (fun b => Ending.returned (.bool b)) (?_ : _ = r0), (Ext.refl _).alloc _⟩; first | exact false_is HR.out (by omega) | exact true_is HR.out (by omega) | exact beq_is HR.out (by omega) | exact dec_is HR.out (by omega) | exact and_is HR.out (by omega))
                · skip
                  go_enter Try.func52, Try.ntmps52
                  go_wp2
                  all_goals (have hK : _ = _ := HK.out; have hV : _ = _ := HV.out; go_ret; refine ⟨congrArg (fun b => Ending.returned (.bool b)) (?_ : _ = r0), (Ext.refl _).alloc _⟩; first | exact false_is HR.out (by omega) | exact true_is HR.out (by omega) | exact beq_is HR.out (by omega) | exact dec_is HR.out (by omega) | exact and_is HR.out (by omega))
              · skip
                go_enter Try.func52, Try.ntmps52
                go_wp2
                all_goals (have hK : _ = _ := HK.out; have hV : _ = _ := HV.out; go_ret; refine ⟨congrArg (fun b => Ending.returned (.bool b)) (?_ : _ = r0), (Ext.refl _).alloc _⟩; first | exact false_is HR.out (by omega) | exact true_is HR.out (by omega) | exact beq_is HR.out (by omega) | exact dec_is HR.out (by omega) | exact and_is HR.out (by omega))
            · skip
              by_cases k2 : k = 2
              · subst k2
                by_cases v1 : v = 0
                · subst v1
                  go_enter Try.func52, Try.ntmps52
                  go_wp2
                  all_goals (have hK : _ = _ := HK.out; have hV : _ = _ := HV.out; go_ret; refine ⟨congrArg (fun b => Ending.returned (.bool b)) (?_ : _ = r0), (Ext.refl _).alloc _⟩; first | exact false_is HR.out (by omega) | exact true_is HR.out (by omega) | exact beq_is HR.out (by omega) | exact dec_is HR.out (by omega) | exact and_is HR.out (by omega))
                · skip
                  go_enter Try.func52, Try.ntmps52
                  go_wp2
                  all_goals (have hK : _ = _ := HK.out; have hV : _ = _ := HV.out; go_ret; refine ⟨congrArg (fun b => Ending.returned (.bool b)) (?_ : _ = r0), (Ext.refl _).alloc _⟩; first | exact false_is HR.out (by omega) | exact true_is HR.out (by omega) | exact beq_is HR.out (by omega) | exact dec_is HR.out (by omega) | exact and_is HR.out (by omega))
              · skip
                by_cases k3 : k = 3
                · subst k3
                  by_cases v1 : v = 0
                  · subst v1
                    go_enter Try.func52, Try.ntmps52
                    go_wp2
                    all_goals (have hK : _ = _ := HK.out; have hV : _ = _ := HV.out; go_ret; refine ⟨congrArg (fun b => Ending.returned (.bool b)) (?_ : _ = r0), (Ext.refl _).alloc _⟩; first | exact false_is HR.out (by omega) | exact true_is HR.out (by omega) | exact beq_is HR.out (by omega) | exact dec_is HR.out (by omega) | exact and_is HR.out (by omega))
                  · skip
                    go_enter Try.func52, Try.ntmps52
                    go_wp2
                    all_goals (have hK : _ = _ := HK.out; have hV : _ = _ := HV.out; go_ret; refine ⟨congrArg (fun b => Ending.returned (.bool b)) (?_ : _ = r0), (Ext.refl _).alloc _⟩; first | exact false_is HR.out (by omega) | exact true_is HR.out (by omega) | exact beq_is HR.out (by omega) | exact dec_is HR.out (by omega) | exact and_is HR.out (by omega))
                · skip
                  go_enter Try.func52, Try.ntmps52
                  go_wp2
                  all_goals (have hK : _ = _ := HK.out; have hV : _ = _ := HV.out; go_ret; refine ⟨congrArg (fun b => Ending.returned (.bool b)) (?_ : _ = r0), (Ext.refl _).alloc _⟩; first | exact false_is HR.out (by omega) | exact true_is HR.out (by omega) | exact beq_is HR.out (by omega) | exact dec_is HR.out (by omega) | exact and_is HR.out (by omega))
end Go.Proofs.Ythdmecoeghnifaa
