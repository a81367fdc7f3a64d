/-
 sandglassref16.CheckCommand, CheckWord, called; nothing old is turned.
-/
import Derived.Test.YtmanacbdldfmfaaVe
namespace Go.Proofs.Ytmanacbdldfmfaa
set_option maxRecDepth 10000
open Go.RowKit
theorem toList_nil {s : ByteArray} (h : s.size = 0) : s.toList = [] := by
 rw [ByteArray.toList_eq]
 exact List.eq_nil_of_length_eq_zero (by rw [ba_len]; exact h)
theorem toList_some {s : ByteArray} (h : s.size ≠ 0) : ¬ s.toList = [] := by
 rw [ByteArray.toList_eq]
 intro q
 have := congrArg List.length q
 rw [ba_len] at this
 exact h this
theorem isEmpty_nil {s : ByteArray} (h : s.size = 0) : s.toList.isEmpty = true := by rw [toList_nil h]; rfl
theorem isEmpty_some {s : ByteArray} (h : s.size ≠ 0) : s.toList.isEmpty = false := by
 have := toList_some h
 cases hs : s.toList with
 | nil => exact absurd hs this
 | cons a l => rfl
theorem if_ok {b : Bool} {r : Int} (h : (if b then (0 : Int) else 1) = r) : (b = true → r = 0) ∧ (b = false → r = 1) := by
 cases b
 ·exact ⟨fun q => (by cases q), fun _ => h.symm⟩
 ·exact ⟨fun _ => h.symm, fun q => (by cases q)⟩
/-- The two answers of a check, as numbers tell it. -/
theorem chk_nums {p : Prop} [Decidable p] {r : Int} (h : (if decide p then (0 : Int) else 1) = r) : (p → r = 0) ∧ (¬ p → r = 1) := by
 by_cases hp : p
 ·simp [hp] at h; exact ⟨fun _ => h.symm, fun q => absurd hp q⟩
 ·simp [hp] at h; exact ⟨fun q => absurd q hp, fun _ => h.symm⟩
set_option maxHeartbeats 4000000 in
theorem rchkW_any (k f r v : Int) (x : ByteArray) (w : World) :
  Calls Try.prog 22 #[.agg #[.int .i64 k, .int .i64 f, .int .i64 r, .int .i64 v, .string x]] w fun ex w' => ex = .returned (.int .i64 (if wrdOk k f r v x then 0 else 1)) ∧ Ext w w' := by
 obtain ⟨m, HR⟩ : ∃ m, (if wrdOk k f r v x then (0 : Int) else 1) = m := ⟨_, rfl⟩
 rw [HR]
 obtain ⟨K, HK⟩ : ∃ K, Hid (K = k) := ⟨_, rfl⟩
 obtain ⟨V, HV⟩ : ∃ V, Hid (V = v) := ⟨_, rfl⟩
 rw [← HK.out, ← HV.out] at HR
 unfold wrdOk at HR
 have HY : Hid _ := chk_nums HR
 clear HR
 by_cases f1 : f < 1
 ·skip
  go_enter Try.func22, Try.ntmps22
  go_wp2
  all_goals (have hK : _ = _ := HK.out; have hV : _ = _ := HV.out; first | (have q : m = 0 := by (refine HY.out.1 ?_; omega)); obtain rfl := q; go_ret; exact ⟨rfl, (Ext.refl _).alloc _⟩ | (have q : m = 1 := by (refine HY.out.2 ?_; omega)); obtain rfl := q; go_ret; exact ⟨rfl, (Ext.refl _).alloc _⟩)
 ·skip
  by_cases f2 : 7 < f
  ·skip
   go_enter Try.func22, Try.ntmps22
   go_wp2
   all_goals (have hK : _ = _ := HK.out; have hV : _ = _ := HV.out; first | (have q : m = 0 := by (refine HY.out.1 ?_; omega)); obtain rfl := q; go_ret; exact ⟨rfl, (Ext.refl _).alloc _⟩ | (have q : m = 1 := by (refine HY.out.2 ?_; omega)); obtain rfl := q; go_ret; exact ⟨rfl, (Ext.refl _).alloc _⟩)
  ·skip
   by_cases r1 : r < 0
   ·skip
    go_enter Try.func22, Try.ntmps22
    go_wp2
    all_goals (have hK : _ = _ := HK.out; have hV : _ = _ := HV.out; first | (have q : m = 0 := by (refine HY.out.1 ?_; omega)); obtain rfl := q; go_ret; exact ⟨rfl, (Ext.refl _).alloc _⟩ | (have q : m = 1 := by (refine HY.out.2 ?_; omega)); obtain rfl := q; go_ret; exact ⟨rfl, (Ext.refl _).alloc _⟩)
   ·skip
    by_cases r2 : 64 ≤ r
    ·skip
     go_enter Try.func22, Try.ntmps22
     go_wp2
     all_goals (have hK : _ = _ := HK.out; have hV : _ = _ := HV.out; first | (have q : m = 0 := by (refine HY.out.1 ?_; omega)); obtain rfl := q; go_ret; exact ⟨rfl, (Ext.refl _).alloc _⟩ | (have q : m = 1 := by (refine HY.out.2 ?_; omega)); obtain rfl := q; go_ret; exact ⟨rfl, (Ext.refl _).alloc _⟩)
    ·skip
     by_cases z1 : 4096 < (x.size : Int)
     ·skip
      go_enter Try.func22, Try.ntmps22
      go_wp2
      all_goals (have hK : _ = _ := HK.out; have hV : _ = _ := HV.out; first | (have q : m = 0 := by (refine HY.out.1 ?_; omega)); obtain rfl := q; go_ret; exact ⟨rfl, (Ext.refl _).alloc _⟩ | (have q : m = 1 := by (refine HY.out.2 ?_; omega)); obtain rfl := q; go_ret; exact ⟨rfl, (Ext.refl _).alloc _⟩)
     ·skip
      by_cases k1 : k = 1
      ·subst k1
       by_cases v1 : -1 ≤ v
       ·by_cases v2 : v < r
        ·skip
         by_cases hx : x.size = 0
         ·have qx := toList_nil hx
          have px := isEmpty_nil hx
          go_enter Try.func22, Try.ntmps22
          go_wp2
          all_goals (have hK : _ = _ := HK.out; have hV : _ = _ := HV.out; first | (have q : m = 0 := by (refine HY.out.1 ?_; omega)); obtain rfl := q; go_ret; exact ⟨rfl, (Ext.refl _).alloc _⟩ | (have q : m = 1 := by (refine HY.out.2 ?_; omega)); obtain rfl := q; go_ret; exact ⟨rfl, (Ext.refl _).alloc _⟩)
         ·have qx := toList_some hx
          have px := isEmpty_some hx
          go_enter Try.func22, Try.ntmps22
          go_wp2
          all_goals (have hK : _ = _ := HK.out; have hV : _ = _ := HV.out; first | (have q : m = 0 := by (refine HY.out.1 ?_; omega)); obtain rfl := q; go_ret; exact ⟨rfl, (Ext.refl _).alloc _⟩ | (have q : m = 1 := by (refine HY.out.2 ?_; omega)); obtain rfl := q; go_ret; exact ⟨rfl, (Ext.refl _).alloc _⟩)
        ·skip
         go_enter Try.func22, Try.ntmps22
         go_wp2
         all_goals (have hK : _ = _ := HK.out; have hV : _ = _ := HV.out; first | (have q : m = 0 := by (refine HY.out.1 ?_; omega)); obtain rfl := q; go_ret; exact ⟨rfl, (Ext.refl _).alloc _⟩ | (have q : m = 1 := by (refine HY.out.2 ?_; omega)); obtain rfl := q; go_ret; exact ⟨rfl, (Ext.refl _).alloc _⟩)
       ·skip
        go_enter Try.func22, Try.ntmps22
        go_wp2
        all_goals (have hK : _ = _ := HK.out; have hV : _ = _ := HV.out; first | (have q : m = 0 := by (refine HY.out.1 ?_; omega)); obtain rfl := q; go_ret; exact ⟨rfl, (Ext.refl _).alloc _⟩ | (have q : m = 1 := by (refine HY.out.2 ?_; omega)); obtain rfl := q; go_ret; exact ⟨rfl, (Ext.refl _).alloc _⟩)
      ·skip
       by_cases k2 : k = 2
       ·subst k2
        by_cases v1 : v = 0
        ·subst v1
         go_enter Try.func22, Try.ntmps22
         go_wp2
         all_goals (have hK : _ = _ := HK.out; have hV : _ = _ := HV.out; first | (have q : m = 0 := by (refine HY.out.1 ?_; omega)); obtain rfl := q; go_ret; exact ⟨rfl, (Ext.refl _).alloc _⟩ | (have q : m = 1 := by (refine HY.out.2 ?_; omega)); obtain rfl := q; go_ret; exact ⟨rfl, (Ext.refl _).alloc _⟩)
        ·skip
         go_enter Try.func22, Try.ntmps22
         go_wp2
         all_goals (have hK : _ = _ := HK.out; have hV : _ = _ := HV.out; first | (have q : m = 0 := by (refine HY.out.1 ?_; omega)); obtain rfl := q; go_ret; exact ⟨rfl, (Ext.refl _).alloc _⟩ | (have q : m = 1 := by (refine HY.out.2 ?_; omega)); obtain rfl := q; go_ret; exact ⟨rfl, (Ext.refl _).alloc _⟩)
       ·skip
        by_cases k3 : k = 3
        ·subst k3
         by_cases v1 : v = 0
         ·subst v1
          go_enter Try.func22, Try.ntmps22
          go_wp2
          all_goals (have hK : _ = _ := HK.out; have hV : _ = _ := HV.out; first | (have q : m = 0 := by (refine HY.out.1 ?_; omega)); obtain rfl := q; go_ret; exact ⟨rfl, (Ext.refl _).alloc _⟩ | (have q : m = 1 := by (refine HY.out.2 ?_; omega)); obtain rfl := q; go_ret; exact ⟨rfl, (Ext.refl _).alloc _⟩)
         ·skip
          go_enter Try.func22, Try.ntmps22
          go_wp2
          all_goals (have hK : _ = _ := HK.out; have hV : _ = _ := HV.out; first | (have q : m = 0 := by (refine HY.out.1 ?_; omega)); obtain rfl := q; go_ret; exact ⟨rfl, (Ext.refl _).alloc _⟩ | (have q : m = 1 := by (refine HY.out.2 ?_; omega)); obtain rfl := q; go_ret; exact ⟨rfl, (Ext.refl _).alloc _⟩)
        ·skip
         go_enter Try.func22, Try.ntmps22
         go_wp2
         all_goals (have hK : _ = _ := HK.out; have hV : _ = _ := HV.out; first | (have q : m = 0 := by (refine HY.out.1 ?_; omega)); obtain rfl := q; go_ret; exact ⟨rfl, (Ext.refl _).alloc _⟩ | (have q : m = 1 := by (refine HY.out.2 ?_; omega)); obtain rfl := q; go_ret; exact ⟨rfl, (Ext.refl _).alloc _⟩)
end Go.Proofs.Ytmanacbdldfmfaa
