/-
  slices.Sorted(slices.Values(s)) as this program bears it, called at a slice of ints: its ints, sorted, in new memory; nothing old is turned. slices.Sort is taken by the library's contract, laid.
-/
import Derived.RangeFuncBox
import Derived.RangeFuncLeaves
import Derived.Shelf.Abstract
import Derived.WalkKit
import Derived.OwnWalkIn
import Derived.TacticsInMore
import Derived.LoopNIn
import Derived.LoopIn
import Derived.Maps.AppendAt
import Derived.Lib.SlKeysI
import Derived.Shelf.SortM.Plain
import Derived.Shelf.SortM.SortNone
import Derived.Test.YtnaiccfdbapdpaaDoorSrtMath
namespace Go.Proofs.YtnaiccfdbapdpaaDoor
open Go.RowKit Go.Shelf Go.Sort
def laysSort_ren : Go.Shelf.Ren := ⟨fun | 5 => 59 | 8 => 68 | 7 => 67 | 19 => 79 | 20 => 80 | 10 => 70 | 11 => 71 | 12 => 72 | 13 => 73 | 14 => 74 | 15 => 75 | 16 => 76 | 17 => 77 | 18 => 78 | 30 => 81 | 31 => 82 | 32 => 83 | 33 => 84 | 34 => 85 | 35 => 86 | 40 => 87 | n => n, fun | 23 => 32 | 25 => 3 | 3 => 3 | 32 => 79 | 22 => 32 | 0 => 0 | 44 => 100 | 46 => 24 | 4 => 4 | 36 => 92 | 35 => 91 | 41 => 97 | 5 => 5 | 9 => 9 | 53 => 102 | 57 => 106 | 63 => 108 | 64 => 109 | n => n, fun | n => n⟩
theorem laysSort : Go.Proofs.SlLaysM.n5 Tryd.prog laysSort_ren := {
  mixed := by kernel_rfl
  f5 := ⟨Tryd.f59.name, by decide, Tryd.func59.trans (congrArg some (by kernel_rfl))⟩
  f7 := ⟨Tryd.f67.name, by decide, Tryd.func67.trans (congrArg some (by kernel_rfl))⟩
  f8 := Tryd.func68.trans (congrArg some (by kernel_rfl))
  f10 := ⟨Tryd.f70.name, by decide, Tryd.func70.trans (congrArg some (by kernel_rfl))⟩
  f11 := ⟨Tryd.f71.name, by decide, Tryd.func71.trans (congrArg some (by kernel_rfl))⟩
  f12 := ⟨Tryd.f72.name, by decide, Tryd.func72.trans (congrArg some (by kernel_rfl))⟩
  f13 := ⟨Tryd.f73.name, by decide, Tryd.func73.trans (congrArg some (by kernel_rfl))⟩
  f14 := ⟨Tryd.f74.name, by decide, Tryd.func74.trans (congrArg some (by kernel_rfl))⟩
  f15 := ⟨Tryd.f75.name, by decide, Tryd.func75.trans (congrArg some (by kernel_rfl))⟩
  f16 := ⟨Tryd.f76.name, by decide, Tryd.func76.trans (congrArg some (by kernel_rfl))⟩
  f17 := ⟨Tryd.f77.name, by decide, Tryd.func77.trans (congrArg some (by kernel_rfl))⟩
  f18 := ⟨Tryd.f78.name, by decide, Tryd.func78.trans (congrArg some (by kernel_rfl))⟩
  f19 := Tryd.func79.trans (congrArg some (by kernel_rfl))
  f20 := Tryd.func80.trans (congrArg some (by kernel_rfl))
  f30 := ⟨Tryd.f81.name, by decide, Tryd.func81.trans (congrArg some (by kernel_rfl))⟩
  f31 := Tryd.func82.trans (congrArg some (by kernel_rfl))
  f32 := Tryd.func83.trans (congrArg some (by kernel_rfl))
  f33 := ⟨Tryd.f84.name, by decide, Tryd.func84.trans (congrArg some (by kernel_rfl))⟩
  f34 := ⟨Tryd.f85.name, by decide, Tryd.func85.trans (congrArg some (by kernel_rfl))⟩
  f35 := ⟨Tryd.f86.name, by decide, Tryd.func86.trans (congrArg some (by kernel_rfl))⟩
  f40 := ⟨Tryd.f87.name, by decide, Tryd.func87.trans (congrArg some (by kernel_rfl))⟩
  t0 := Tryd.underlying0
  a0 := Tryd.isAgg0
  z0 := Tryd.sizeOf0
  v0 := Tryd.zeroValue0
  t3 := Tryd.underlying3
  a3 := Tryd.isAgg3
  z3 := Tryd.sizeOf3
  v3 := Tryd.zeroValue3
  t4 := Tryd.underlying4
  a4 := Tryd.isAgg4
  z4 := Tryd.sizeOf4
  v4 := Tryd.zeroValue4
  t5 := Tryd.underlying5
  a5 := Tryd.isAgg5
  z5 := Tryd.sizeOf5
  v5 := Tryd.zeroValue5
  t9 := Tryd.underlying9
  a9 := Tryd.isAgg9
  z9 := Tryd.sizeOf9
  v9 := Tryd.zeroValue9
  t22 := Tryd.underlying32
  a22 := Tryd.isAgg32
  z22 := Tryd.sizeOf32
  v22 := Tryd.zeroValue32
  t23 := Tryd.underlying32
  a23 := Tryd.isAgg32
  z23 := Tryd.sizeOf32
  v23 := Tryd.zeroValue32
  t25 := Tryd.underlying3
  a25 := Tryd.isAgg3
  z25 := Tryd.sizeOf3
  v25 := Tryd.zeroValue3
  t32 := Tryd.underlying79
  a32 := Tryd.isAgg79
  z32 := Tryd.sizeOf79
  v32 := Tryd.zeroValue79
  t35 := Tryd.underlying91
  a35 := Tryd.isAgg91
  z35 := Tryd.sizeOf91
  v35 := Tryd.zeroValue91
  t36 := Tryd.underlying92
  a36 := Tryd.isAgg92
  z36 := Tryd.sizeOf92
  v36 := Tryd.zeroValue92
  t41 := Tryd.underlying97
  a41 := Tryd.isAgg97
  z41 := Tryd.sizeOf97
  v41 := Tryd.zeroValue97
  t44 := Tryd.underlying100
  a44 := Tryd.isAgg100
  z44 := Tryd.sizeOf100
  v44 := Tryd.zeroValue100
  t46 := Tryd.underlying24
  a46 := Tryd.isAgg24
  z46 := Tryd.sizeOf24
  v46 := Tryd.zeroValue24
  t53 := Tryd.underlying102
  a53 := Tryd.isAgg102
  z53 := Tryd.sizeOf102
  v53 := Tryd.zeroValue102
  t57 := Tryd.underlying106
  a57 := Tryd.isAgg106
  z57 := Tryd.sizeOf106
  v57 := Tryd.zeroValue106
  t63 := Tryd.underlying108
  a63 := Tryd.isAgg108
  z63 := Tryd.sizeOf108
  v63 := Tryd.zeroValue108
  t64 := Tryd.underlying109
  a64 := Tryd.isAgg109
  z64 := Tryd.sizeOf109
  v64 := Tryd.zeroValue109 }
section walks
attribute [local go_sem] Oper.semAt_some
set_option maxRecDepth 100000 in
set_option maxHeartbeats 2000000 in
/-- The iterator that slices.Values hands back: each int of the slice is handed on, in order. -/
theorem values1_any (m : Nat) (hm : 1 ≤ m) (l Bs n₀ n cap : Nat) (a : Option Addr) (P : Nat → Int) (hn : n ≤ 1000) (J Jx : List Int → World → Prop)
    (hY : ∀ pre x W, J pre W → pre.length < n → YieldAt Fence.wide (m - 1) Tryd.prog l #[.int .i64 x] W fun e W' =>
      (e = .returned (.bool true) ∧ J (pre ++ [x]) W' ∧ Below n₀ W W') ∨ (e = .returned (.bool false) ∧ Jx (pre ++ [x]) W'))
    (W : World) (hBs : W.cell? ⟨Bs, 0, none⟩ = some (.slice a n cap))
    (hc : 0 < n → ∃ b o, a = some ⟨b, o, none⟩ ∧ b < n₀ ∧ ∀ k, k < n → W.cell? ⟨b, o + k, none⟩ = some (.int .i64 (P k))) (h0 : J [] W) :
    CallsIn Fence.wide m Tryd.prog 60 #[.func (.yield l) #[] #[], .pointer (some ⟨Bs, 0, none⟩)] W fun e W' => (∃ v, e = .returned v) ∧
      ((∃ ys, ys = upto P n ∧ J ys W') ∨ (∃ pre, True ∧ Jx pre W')) := by
  refine callsIn_of_wp Tryd.func60 rfl trivial ?_ rfl
  simp only [Tryd.ntmps60, List.size_toArray, List.length_cons, List.length_nil, Nat.reduceAdd, Nat.reduceSub, Array.replicate_succ, Array.replicate_zero, List.push_toArray, List.append_toArray, List.nil_append, List.cons_append]
  gi_wp2
  gi_loopw [7] (fun i wr => ∃ k : Nat, k ≤ n ∧ i = .int .i64 k ∧ J (upto P k) wr ∧ Below n₀ W wr)
    (fun i _ => n - (intOf i).toNat)
  case atStart => exact ⟨0, Nat.zero_le _, rfl, h0, Below.refl _ _⟩
  case round =>
    obtain ⟨k, hk, rfl, hJs, hnx⟩ := hrel
    by_cases hlt : k < n
    · obtain ⟨b, o, rfl, hb, hcs⟩ := hc (by omega)
      have hcx : wr.cell? ⟨b, o + k, none⟩ = some (.int .i64 (P k)) := (hnx.cell (p := ⟨b, o + k, none⟩) hb).trans (hcs k hlt)
      obtain ⟨fn, tmps, assign, body, hy, hR⟩ := hY _ (P k) wr hJs (by rw [upto_len]; exact hlt)
      gi_wp2
      refine hR.mono ?_
      rintro e W3 (⟨rfl, hJ3, hk3⟩ | ⟨rfl, hJx3⟩)
      · gi_wp2
        go_roundw
        case rel => exact ⟨k + 1, by omega, by simp, by rw [upto_succ]; exact hJ3, hnx.trans hk3⟩
        case measure => simp [intOf]; omega
      · gi_wp2
        refine bodyPost_ret (results_none rfl _ _ _) rfl ?_
        exact ⟨⟨_, rfl⟩, .inr ⟨_, trivial, hJx3⟩⟩
    · obtain rfl : k = n := by omega
      gi_wp2
      go_end0
      exact ⟨⟨_, rfl⟩, .inl ⟨_, rfl, hJs⟩⟩
set_option maxHeartbeats 1000000 in
theorem values_in (m : Nat) (a : Option Addr) (n cap : Nat) (w : World) :
    CallsIn Fence.wide m Tryd.prog 47 #[.slice a n cap] w fun e w' => e = .returned (.func (.func 60) #[] #[.pointer (some ⟨w.heap.size, 0, none⟩)]) ∧ w' = w.alloc (.cells #[.slice a n cap] 32) := by
  refine callsIn_of_wp Tryd.func47 rfl trivial ?_ rfl
  simp only [Tryd.ntmps47, List.size_toArray, List.length_cons, List.length_nil, Nat.reduceAdd, Nat.reduceSub, Array.replicate_succ, Array.replicate_zero, List.push_toArray, List.append_toArray, List.nil_append, List.cons_append]
  gi_wp2
  go_ret
  exact ⟨rfl, rfl⟩
theorem values_stops (m : Nat) (hm : 1 ≤ m) (Bs n₀ n cap : Nat) (a : Option Addr) (P : Nat → Int) (hn : n ≤ 1000) (w : World) (hBs : Bs < w.heap.size) (hn₀ : n₀ ≤ w.heap.size) (hcs : w.cell? ⟨Bs, 0, none⟩ = some (.slice a n cap))
    (hc : 0 < n → ∃ b o, a = some ⟨b, o, none⟩ ∧ b < n₀ ∧ ∀ k, k < n → w.cell? ⟨b, o + k, none⟩ = some (.int .i64 (P k))) :
    SeqStopsK Fence.wide m Tryd.prog 60 #[.pointer (some ⟨Bs, 0, none⟩)] (fun x : Int => #[Value.int .i64 x]) (Below n₀) (fun ys => ys = upto P n) (fun _ => True) n w := fun l J Jx W hW _ _ hY h0 =>
  values1_any m hm l Bs n₀ n cap a P hn J Jx hY W ((hW.cell (p := ⟨Bs, 0, none⟩) hBs).trans hcs) (fun h => by
    obtain ⟨b, o, ha, hb, hk⟩ := hc h
    exact ⟨b, o, ha, hb, fun k hk' => (hW.cell (p := ⟨b, o + k, none⟩) (Nat.lt_of_lt_of_le hb hn₀)).trans (hk k hk')⟩) h0
theorem info3 : (Tryd.prog.info? 3).map (fun i => (i.zero, i.size, i.bytes)) = some (some (.int .i64 0), 1, 8) := by kernel_rfl
set_option maxRecDepth 100000 in
set_option maxHeartbeats 2000000 in
/-- slices.AppendSeq(nil, slices.Values(s)). -/
theorem append_in (m : Nat) (hm : 3 ≤ m) (Bs n₀ n cap : Nat) (a : Option Addr) (P : Nat → Int) (hn : n ≤ 1000) (w : World) (hBs : Bs < w.heap.size) (hn₀ : n₀ ≤ w.heap.size) (hcs : w.cell? ⟨Bs, 0, none⟩ = some (.slice a n cap))
    (hc : 0 < n → ∃ b o, a = some ⟨b, o, none⟩ ∧ b < n₀ ∧ ∀ k, k < n → w.cell? ⟨b, o + k, none⟩ = some (.int .i64 (P k))) :
    CallsIn Fence.wide m Tryd.prog 66 #[.slice none 0 0, .func (.func 60) #[] #[.pointer (some ⟨Bs, 0, none⟩)]] w fun e w' => ∃ v, e = .returned v ∧ w'.ownsRow w.heap.size 3 1 v n ((upto P n).map (Value.int .i64)) ∧ Below w.heap.size w w' := by
  have h1 : 1 ≤ m := by omega
  obtain ⟨i0, hi, hz0, hz1, hz2⟩ := info_parts info3
  have hb0 : Below w.heap.size w (w.alloc (.cells #[.slice none 0 0] 32)) := (Below.refl _ w).alloc (Nat.le_refl _) _
  have bO := Boxed.new w 32 (.slice none 0 0)
  have hSt := (values_stops (m - 1) (by omega) Bs n₀ n cap a P hn (w.alloc (.cells #[.slice none 0 0] 32)) (by simp; omega) (by simp; omega) ((hb0.cell (p := ⟨Bs, 0, none⟩) hBs).trans hcs) (fun h => by
    obtain ⟨b, o, ha, hb, hk⟩ := hc h
    exact ⟨b, o, ha, hb, fun k hk' => (hb0.cell (p := ⟨b, o + k, none⟩) (Nat.lt_of_lt_of_le hb hn₀)).trans (hk k hk')⟩))
  refine callsIn_of_wp_marks Tryd.func66 rfl trivial ?_ rfl
  simp only [Tryd.ntmps66, List.size_toArray, List.length_cons, List.length_nil, Nat.reduceAdd, Nat.reduceSub, Array.replicate_succ, Array.replicate_zero, List.push_toArray, List.append_toArray, List.nil_append, List.cons_append]
  gi_wp2
  refine wpIn_rangeFunc_ownG rfl h1 (gf := 60) (lb := #[.pointer (some ⟨Bs, 0, none⟩)]) rfl trivial (enters_of Tryd.func60 (by kernel_rfl) rfl)
    hSt belowK_t (belowK_b (by simp; omega)) (Below.refl _ _) (fun _ => rfl)
    (fun pre W => (∃ v, Boxed W w.heap.size 32 v ∧ W.ownsRow w.heap.size 3 1 v pre.length (pre.map (Value.int .i64)) ∧ True) ∧ Below w.heap.size w W)
    (fun _ _ _ => False)
    (OwnFrom.and (Own.from (holdsRow_own w.heap.size w.heap.size 32 3 1 (fun pre : List Int => pre.length) (fun pre : List Int => pre.map (Value.int .i64)) (fun _ _ => True)) _) (ownFrom_below (Nat.le_refl _) (by simp)))
    (fun _ _ _ _ _ hs _ _ => hs)
    ⟨⟨_, bO, World.ownsRow_nil _ _ _ _, trivial⟩, hb0⟩
    (fun x => { tmps := #[.slice none 0 0, .func (.func 60) #[] #[.pointer (some ⟨Bs, 0, none⟩)], .pointer (some ⟨w.heap.size, 0, none⟩), undef, .slice none 0 0, .int .i64 x, .func (.func 60) #[] #[.pointer (some ⟨Bs, 0, none⟩)], .int .i64 x, undef, undef, undef, undef, undef], defers := [] }) ?assign ?body ?done ?stop
  case assign =>
    intro l x W K hK
    gi_wp2
    exact hK
  case body =>
    rintro l pre x W ⟨⟨v, hv, hrow, _⟩, hB⟩ hlt
    have hc := hv.cell
    gi_wp2_with (gi_at_builtin; refine wpListIn_append_own _ rfl _ _ 32 rfl w.heap.size 3 i0 (.int .i64 0) 1 8 Tryd.underlying32 hi hz0 hz1 hz2 rfl (by decide) _ _ _ rfl (hrow.alloc _) ⟨W.heap.size, 0, none⟩ 1 1 [.int .i64 x] rfl rfl (cell_one_new _ _ _) (by simp [Value.oneCell']) (by unfold maxLen; omega) (by omega) (by have := hB.size; simp; omega) ?_; intro v' w1 hown' hgrow _; obtain ⟨g', cap', rfl⟩ := ownsRow_succ hown'; obtain ⟨hv1, hv2, hr2, hk2, hb2⟩ := hv.appended (by decide) hrow hB.size (Nat.le_refl _) hown' hgrow; have hc1 := hv1.cell; have hf1 := hv1.frozen)
    exact ⟨hk2.from _, hb2.mono hn₀, ⟨_, hv2, by simpa using hr2, trivial⟩, hB.trans hb2⟩
  case done =>
    rintro D ys W hD rfl ⟨⟨v, hv, hrow, _⟩, hB⟩ hK
    have hc := hv.cell
    rw [upto_len] at hrow
    gi_wp2
    refine ⟨by simp, .inl ⟨_, _, rfl, run_takeDeferred hK, ?_⟩⟩
    exact ⟨_, results_tmp rfl _ _ _, v, rfl, ownsRow_putObj hrow _ hK rfl, hB.trans (belowK_b (w := w) (Nat.le_refl _) W D _ _ (by simp at hD; omega) hK rfl rfl)⟩
  case stop =>
    rintro D c pre W _ _ h _
    exact h.elim
end walks
theorem vals_any (a : Option Addr) (n cap : Nat) (w : World) :
    Calls Tryd.prog 47 #[.slice a n cap] w fun e w' => e = .returned (.func (.func 60) #[] #[.pointer (some ⟨w.heap.size, 0, none⟩)]) ∧ w' = w.alloc (.cells #[.slice a n cap] 32) := (callsIn_wide (n := 6)).1 (values_in 6 a n cap w)
theorem append_any (Bs n cap : Nat) (a : Option Addr) (P : Nat → Int) (hn : n ≤ 1000) (w : World) (hBs : Bs < w.heap.size) (hcs : w.cell? ⟨Bs, 0, none⟩ = some (.slice a n cap)) (hL : Lies w (.slice a n cap) n 1 (fun k => .int .i64 (P k))) :
    Calls Tryd.prog 66 #[.slice none 0 0, .func (.func 60) #[] #[.pointer (some ⟨Bs, 0, none⟩)]] w fun e w' => ∃ v, e = .returned v ∧ w'.ownsRow w.heap.size 3 1 v n ((upto P n).map (Value.int .i64)) ∧ Ext w w' := by
  obtain ⟨a', cap', e, hl⟩ := hL
  cases e
  exact (callsIn_wide (n := 6)).1 (append_in 6 (by omega) Bs w.heap.size n cap a P hn w hBs (Nat.le_refl _) hcs (fun h => by
    obtain ⟨b, o, ha, hb, hk⟩ := hl h
    exact ⟨b, o, ha, hb, fun k hk' => hk k (by omega)⟩))
set_option maxHeartbeats 400000 in
theorem collect_any (Bs n cap : Nat) (a : Option Addr) (P : Nat → Int) (hn : n ≤ 1000) (w : World) (hBs : Bs < w.heap.size) (hcs : w.cell? ⟨Bs, 0, none⟩ = some (.slice a n cap)) (hL : Lies w (.slice a n cap) n 1 (fun k => .int .i64 (P k))) :
    Calls Tryd.prog 58 #[.func (.func 60) #[] #[.pointer (some ⟨Bs, 0, none⟩)]] w fun e w' => ∃ v, e = .returned v ∧ w'.ownsRow w.heap.size 3 1 v n ((upto P n).map (Value.int .i64)) ∧ Ext w w' := by
  have HA := append_any Bs n cap a P hn w hBs hcs hL
  have HC : Hid (Calls Tryd.prog 66 #[.slice none 0 0, .func (.func 60) #[] #[.pointer (some ⟨Bs, 0, none⟩)]] w fun e w' => ∃ v, e = .returned v ∧ w'.ownsRow w.heap.size 3 1 v n ((upto P n).map (Value.int .i64)) ∧ Ext w w') := HA
  clear HA hL hcs hBs
  go_enter Tryd.func58, Tryd.ntmps58
  go_wp2_with fail
  refine HC.out.mono ?_
  rintro e w1 ⟨v, rfl, ho, hx⟩
  have HO : Hid (w1.ownsRow w.heap.size 3 1 v n ((upto P n).map (Value.int .i64)) ∧ Ext w w1) := ⟨ho, hx⟩
  clear ho hx
  go_wp2
  go_ret
  exact ⟨v, rfl, HO.out.1, HO.out.2⟩
set_option maxHeartbeats 400000 in
/-- slices.Sorted(slices.Values(s)). -/
theorem sorted_any (Bs n cap : Nat) (a : Option Addr) (P : Nat → Int) (hn : n ≤ 1000) (w : World) (hBs : Bs < w.heap.size) (hcs : w.cell? ⟨Bs, 0, none⟩ = some (.slice a n cap)) (hL : Lies w (.slice a n cap) n 1 (fun k => .int .i64 (P k))) :
    Calls Tryd.prog 46 #[.func (.func 60) #[] #[.pointer (some ⟨Bs, 0, none⟩)]] w fun e w' => ∃ u Q, e = .returned u ∧ SortOf P Q n ∧ Lies w' u n 1 (fun k => .int .i64 (Q k)) ∧ Ext w w' := by
  have HA := collect_any Bs n cap a P hn w hBs hcs hL
  have HC : Hid (Calls Tryd.prog 58 #[.func (.func 60) #[] #[.pointer (some ⟨Bs, 0, none⟩)]] w fun e w' => ∃ v, e = .returned v ∧ w'.ownsRow w.heap.size 3 1 v n ((upto P n).map (Value.int .i64)) ∧ Ext w w') := HA
  clear HA hL hcs hBs
  go_enter Tryd.func46, Tryd.ntmps46
  go_wp2_with fail
  refine HC.out.mono ?_
  rintro e w1 ⟨v, rfl, ho, hx⟩
  rcases ho.2 with ⟨rfl, rfl⟩ | ⟨gb, cp, cur, rfl, hbase, hgb, r1, r2, r3, r4⟩
  · have HE : Hid (Ext w w1) := hx
    have cS := AnyM.slices_Sort_int_none laysSort none 0 w1
    have HS : Hid (Calls Tryd.prog 59 #[.slice none 0 0] w1 fun e w' => e = .returned (.tuple #[]) ∧ w' = w1) := cS
    clear ho hx cS
    go_wp2_with fail
    refine HS.out.mono ?_
    rintro e w2 ⟨rfl, rfl⟩
    go_wp2
    go_ret
    exact ⟨_, P, rfl, ⟨List.Perm.refl _, fun i j _ h => absurd h (Nat.not_lt_zero j)⟩, lies_nil _ _ _, HE.out⟩
  · have hH : Holds (Value.int .i64) w1 gb 0 (upto P n).toArray := holds_of_block_i hgb (by rw [show n * 1 = n from Nat.mul_one n] at r4; simpa [upto_len, encZ] using r4)
    have hgl : gb < w1.heap.size := (Array.getElem?_eq_some_iff.1 hgb).1
    have cS := AnyM.slices_Sort_int laysSort gb 0 cp (upto P n) w1 hH hgl (by rw [upto_len]; omega)
    rw [upto_len] at cS
    have HS : Hid (Calls Tryd.prog 59 #[.slice (some ⟨gb, 0, none⟩) n cp] w1 fun e w' => e = .returned (.tuple #[]) ∧ ∃ k os, w' = grow (putRow (Value.int .i64) (Sort.ahead w1 k) gb 0 ((upto P n).mergeSort fun x y => decide (x ≤ y)).toArray) os) := cS
    have HF : Hid (∀ k os, Ext w (grow (putRow (Value.int .i64) (Sort.ahead w1 k) gb 0 ((upto P n).mergeSort fun x y => decide (x ≤ y)).toArray) os) ∧ Lies (grow (putRow (Value.int .i64) (Sort.ahead w1 k) gb 0 ((upto P n).mergeSort fun x y => decide (x ≤ y)).toArray) os) (.slice (some ⟨gb, 0, none⟩) n cp) n 1 (fun k => .int .i64 ((srt P n)[k]?.getD 0))) := by
      intro k os
      refine ⟨Below.grown hx (grownBy_sorted_i _) hx.size (fun j hj => by cases hj; exact hbase), ?_⟩
      have ho2 := ownsRow_sorted_i (ss := upto P n) (ts := srt P n) (n := k) (os := os) (by rw [srt_len, upto_len]) hbase hgb (by rw [upto_len]; exact r1) r2 r3
      rw [upto_len] at ho2
      refine Lies.own ho2 fun j hj => ?_
      have hj' : j < (srt P n).length := by rw [srt_len]; omega
      show ((srt P n).map encZ)[j]? = _
      simp [encZ, hj']
    clear ho hx cS hH hgl hgb r1 r2 r3 r4 hbase
    go_wp2_with fail
    refine HS.out.mono ?_
    rintro e w2 ⟨rfl, k, os, rfl⟩
    have HG : Hid _ := HF.out k os
    generalize grow (putRow (Value.int .i64) (Sort.ahead w1 k) gb 0 ((upto P n).mergeSort fun x y => decide (x ≤ y)).toArray) os = W2 at *
    go_wp2
    go_ret
    exact ⟨_, fun k => (srt P n)[k]?.getD 0, rfl, srt_of P n, HG.out.2, HG.out.1⟩
end Go.Proofs.YtnaiccfdbapdpaaDoor
