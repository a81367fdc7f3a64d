/-
  poly.fill, called.
-/
import Derived.Test.YtbcgipapbamgfaaDoorPads
import Derived.Test.YtbcgipapbamgfaaDoorUntils
import Derived.Laws.CopyRow
import Derived.Lib.SliceRun
import Derived.Deep.QuietTactic
import Derived.BigQuiet
namespace Go.Proofs.YtbcgipapbamgfaaDoor
open Go.RowKit
theorem Tryd.size5 : (Tryd.prog.info? 5).map (·.size) = some 1 := by kernel_rfl
theorem zero5 (w : World) : (zeroValue 5).run Tryd.prog w = .ok (.int .u8 0) w := by kernel_rfl
/-- 'copy(b[:m], s)' into a row of n bytes: as many of s's bytes as fit; the rest of the row stays. -/
theorem run_copy_part {P : Program} (w : World) (dT sT ty elem t : TypeId) (g m n c : Nat) (s : ByteArray) (T : Nat → Nat) (hmn : m ≤ n)
    (hu : P.underlying dT = some (.slice elem)) (hs : (P.info? elem).map (·.size) = some 1) (hg : RowH w g t .u8 n T) :
    (Builtin.copy_ #[dT, sT] ty #[.slice (some ⟨g, 0, none⟩) m c, .string s]).run P w =
      .ok (goInt ((Nat.min s.size m : Nat) : Int)) (w.setRow g (lst .u8 (fun j => if j < min s.size m then sb s j else T j) n).toArray) := by
  have hcs : List.take (Nat.min s.size m) (List.map (fun b : UInt8 => Value.int IntKind.u8 (b.toNat : Int)) s.data.toList) = lst .u8 (sb s) (min s.size m) := by
    apply List.ext_getElem?
    intro k
    by_cases hk : k < min s.size m
    · have hk2 : k < Nat.min s.size m := hk
      have hk3 : k < s.size := by omega
      rw [lst_get hk, List.getElem?_take, if_pos hk2, List.getElem?_map]
      have : s.data.toList[k]? = some s[k] := by
        rw [List.getElem?_eq_getElem (by simpa using hk3)]
        rfl
      rw [this]
      simp [sb, hk3]
      rfl
    · have hk2 : ¬ k < Nat.min s.size m := hk
      rw [List.getElem?_take, if_neg hk2, List.getElem?_eq_none (by rw [lst_len]; omega)]
  have hlen : (lst .u8 (sb s) (min s.size m)).length = min s.size m := lst_len _ _ _
  have hst := run_storeCells_at P g 0 t (lst .u8 (sb s) (min s.size m)) 0 (lst .u8 T n).toArray w hg (by rw [hlen]; simp [lst_len]; omega) (fun v hv => by
    simp [lst] at hv
    obtain ⟨i, _, rfl⟩ := hv
    rfl)
  rw [hlen] at hst
  simp only [Nat.add_zero, Nat.zero_add, List.take_zero, List.nil_append] at hst
  have hrow : (lst .u8 (sb s) (min s.size m) ++ List.drop (min s.size m) (lst .u8 T n)) = lst .u8 (fun j => if j < min s.size m then sb s j else T j) n := by
    apply List.ext_getElem?
    intro k
    by_cases hk : k < min s.size m
    · rw [List.getElem?_append_left (by rw [hlen]; exact hk), lst_get hk, lst_get (by omega), if_pos hk]
    · rw [List.getElem?_append_right (by rw [hlen]; omega), hlen, List.getElem?_drop, show min s.size m + (k - min s.size m) = k from by omega]
      by_cases hk2 : k < n
      · rw [lst_get hk2, lst_get hk2, if_neg hk]
      · rw [List.getElem?_eq_none (by rw [lst_len]; omega), List.getElem?_eq_none (by rw [lst_len]; omega)]
  cases hq : P.info? elem with
  | none => simp [hq] at hs
  | some i =>
    simp [Builtin.copy_, run_underlying hu, Builtin.lenOf, Builtin.firstCells, sizeOf, typeInfo, hq]
    rw [hcs, hst]
    simp [Result.andThen, hrow]
/-- 'clear(b[:])' of a row of n bytes. -/
theorem run_clear_row {P : Program} (w : World) (dT ty elem t : TypeId) (g n c : Nat) (T : Nat → Nat) (hn : 0 < n)
    (hu : P.underlying dT = some (.slice elem)) (hv : ∀ w, (zeroValue elem).run P w = .ok (.int .u8 0) w) (hg : RowH w g t .u8 n T) :
    (Builtin.clear_ #[dT] ty #[.slice (some ⟨g, 0, none⟩) n c]).run P w = .ok (.tuple #[]) (w.setRow g (lst .u8 (fun _ => 0) n).toArray) := by
  have h1 : ∀ j, j < n → (w.cell? ⟨g, 0 + j, none⟩).isSome = true := fun j hj => by rw [Nat.zero_add, (hg.tab.2 j hj).1]; rfl
  have h2 : ∀ j, j < n → w.frozen? ⟨g, 0 + j, none⟩ = false := fun j hj => by rw [Nat.zero_add]; exact (hg.tab.2 j hj).2
  rw [Lib.run_clear_slice w dT elem ty (.int .u8 0) hu hv rfl rfl g 0 n c hn h1 h2]
  have hlen : (List.replicate n (Value.int .u8 0)).length = n := List.length_replicate
  have h3 := run_storeCells_cells (P := P) g 0 (List.replicate n (Value.int .u8 0)) 0 w (by rw [hlen]; exact h1) (by rw [hlen]; exact h2) (by intro v hv'; rw [List.eq_of_mem_replicate hv']; rfl)
  have h4 := run_storeCells_at P g 0 t (List.replicate n (Value.int .u8 0)) 0 (lst .u8 T n).toArray w hg (by rw [hlen]; simp [lst_len]) (by intro v hv'; rw [List.eq_of_mem_replicate hv']; rfl)
  rw [h3] at h4
  have h5 : (List.replicate n (Value.int .u8 0) ++ List.drop n (lst .u8 T n)) = lst .u8 (fun _ => 0) n := by
    rw [List.drop_eq_nil_of_le (by rw [lst_len]; exact Nat.le_refl _), List.append_nil]
    apply List.ext_getElem?
    intro k
    by_cases hk : k < n
    · rw [lst_get hk, List.getElem?_replicate, if_pos hk]; rfl
    · rw [List.getElem?_eq_none (by rw [hlen]; omega), List.getElem?_eq_none (by rw [lst_len]; omega)]
  simp only [hlen, Nat.add_zero, Nat.zero_add, List.take_zero, List.nil_append, h5] at h4
  injection h4 with _ h6
  rw [h6]
theorem grown_trans {a b c : World} {r : Option Nat} (h : a.grownBy b r) (k : b.grownBy c r) : a.grownBy c r :=
  ⟨k.os.trans h.os, k.tape.trans h.tape, k.output.trans h.output, Nat.le_trans h.size k.size, fun j hj hne => (k.block j (Nat.lt_of_lt_of_le hj h.size) hne).trans (h.block j hj hne)⟩
theorem grown_row (w : World) (m : Nat) (cs : Array Value) : w.grownBy (w.setRow m cs) (some m) :=
  ⟨rfl, rfl, rfl, by simp [World.setRow], fun k _ hne => setRow_other w m k cs (fun e => hne (by rw [e]))⟩
theorem grown_ext {w w' : World} (h : Ext w w') (r : Option Nat) : w.grownBy w' r := ⟨h.1, h.2, h.3, h.4, fun k hk _ => h.5 k hk⟩
theorem grown_cell (w : World) (m o : Nat) (v : Value) : w.grownBy (w.setCell ⟨m, o, none⟩ v) (some m) := setCells_grown w m o [v]
theorem RowH.grown {w w' : World} {b m n : Nat} {ty : TypeId} {kd : IntKind} {T : Nat → Nat} (h : RowH w b ty kd n T) (hg : w.grownBy w' (some m)) (hne : b ≠ m) : RowH w' b ty kd n T :=
  (hg.block b h.lt (fun e => hne (by injection e))).trans h
/-- The block that is filled. -/
def fl (T : Nat → Nat) (L e j : Nat) : Nat := if j < min L 16 then T j else if j = min L 16 then e else 0
theorem fl_put (T : Nat → Nat) (L e : Nat) : put (fun j => if j < min L 16 then T j else 0) (min L 16) e = fl T L e := by
  funext j
  unfold put fl
  by_cases h : j = min L 16
  · rw [if_pos h, if_neg (by omega), if_pos h]
  · rw [if_neg h, if_neg h]
set_option maxHeartbeats 1000000 in
theorem fill_any (s : ByteArray) (e m : Nat) (B : Nat → Nat) (w : World) (hR : RowH w m 73 .u8 17 B) :
    Calls Tryd.prog 39 #[.pointer (some ⟨m, 0, none⟩), .string s, .int .u8 (e : Int)] w fun r w' => r = .returned (.tuple #[]) ∧ RowH w' m 73 .u8 17 (fl (sb s) s.size e) ∧ w.grownBy w' (some m) := by
  have hcl := run_clear_row (P := Tryd.prog) w 31 0 5 73 m 17 17 B (by decide) Tryd.underlying31 zero5 hR
  have HR1 := hR.row (fun _ => 0)
  have HG1 := grown_row w m (lst .u8 (fun _ => 0) 17).toArray
  generalize w.setRow m (lst .u8 (fun _ => 0) 17).toArray = W1 at *
  have hx : Ext W1 W1.drew := (Ext.refl _).drew
  have HR2 := HR1.ext hx
  have HG2 := grown_trans HG1 (grown_ext hx _)
  have hcp := run_copy_part (P := Tryd.prog) W1.drew 31 9 3 5 73 m 16 17 17 s (fun _ => 0) (by decide) Tryd.underlying31 Tryd.size5 HR2
  have HR3 := HR2.row (fun j => if j < min s.size 16 then sb s j else (fun _ => 0) j)
  have HG3 := grown_trans HG2 (grown_row W1.drew m (lst .u8 (fun j => if j < min s.size 16 then sb s j else (fun _ => 0) j) 17).toArray)
  obtain ⟨q, hq⟩ : ∃ q, min s.size 16 = q := ⟨_, rfl⟩
  have hq2 : Nat.min s.size 16 = q := hq
  have hql : q ≤ 16 := by omega
  rw [hq2] at hcp
  have HF := fl_put (sb s) s.size e
  rw [hq] at HF HR3 HG3 hcp
  generalize W1.drew.setRow m (lst .u8 (fun j => if j < q then sb s j else (fun _ => 0) j) 17).toArray = W3 at *
  obtain ⟨c3, f3⟩ := HR3.tab.2 q (by omega)
  have HR4 := HR3.set q e
  have HG4 := grown_trans HG3 (grown_cell W3 m q (.int .u8 (e : Int)))
  have HZ : Hid (RowH (W3.setCell ⟨m, q, none⟩ (.int .u8 (e : Int))) m 73 .u8 17 (fl (sb s) s.size e) ∧ w.grownBy (W3.setCell ⟨m, q, none⟩ (.int .u8 (e : Int))) (some m)) := ⟨by rw [← HF]; exact HR4, HG4⟩
  have q0 : (0 : Int) ≤ (q : Int) := by omega
  have q1 : (q : Int) < 17 := by omega
  clear hR HR1 HR2 HR3 HR4 HG1 HG2 HG3 HG4 HF hq2 hx hq
  go_enter Tryd.func39, Tryd.ntmps39
  go_wp2_with fail
  refine wp_region_noPanic ?_
  refine wp_region_any (by kernel_rfl) ?_
  refine any_take (i := 0) (v := ?v0) rfl (by kernel_rfl) (by kernel_rfl) (by kernel_rfl) (fun _ _ _ h => h) rfl ?hy0 ?rest0
  case hy0 => (intro w; go_simp; try with_reducible rfl)
  try simp only [Act.put, List.setIfInBounds_toArray, List.set_cons_zero, List.set_cons_succ]
  refine any_take (i := 1) (v := ?v1) rfl (by kernel_rfl) (by kernel_rfl) (by kernel_rfl) (fun _ _ _ h => h) rfl ?hy1 ?rest1
  case hy1 => (intro w; go_simp; try with_reducible rfl)
  try simp only [Act.put, List.setIfInBounds_toArray, List.set_cons_zero, List.set_cons_succ]
  refine any_take (i := 2) (v := ?v2) rfl (by kernel_rfl) (by kernel_rfl) (by kernel_rfl) (fun _ _ _ h => h) rfl ?hy2 ?rest2
  case hy2 => (intro w; go_simp; try with_reducible rfl)
  try simp only [Act.put, List.setIfInBounds_toArray, List.set_cons_zero, List.set_cons_succ]
  refine any_take (i := 3) (v := ?v3) rfl (by kernel_rfl) (by kernel_rfl) (by kernel_rfl) (fun _ _ _ h => h) rfl ?hy3 ?rest3
  case hy3 => (intro w; go_simp; try with_reducible rfl)
  try simp only [Act.put, List.setIfInBounds_toArray, List.set_cons_zero, List.set_cons_succ]
  refine any_take (i := 4) (v := ?v4) rfl (by kernel_rfl) (by kernel_rfl) (by kernel_rfl) (fun _ _ _ h => h) rfl ?hy4 ?rest4
  case hy4 => (intro w; go_simp; try with_reducible rfl)
  try simp only [Act.put, List.setIfInBounds_toArray, List.set_cons_zero, List.set_cons_succ]
  refine any_take (i := 6) (v := ?v6) rfl (by kernel_rfl) (by kernel_rfl) (by kernel_rfl) (fun _ _ _ h => h) rfl ?hy6 ?rest6
  case hy6 => (intro w; go_simp; try with_reducible rfl)
  try simp only [Act.put, List.setIfInBounds_toArray, List.set_cons_zero, List.set_cons_succ]
  refine any_take (i := 7) (v := ?v7) rfl (by kernel_rfl) (by kernel_rfl) (by kernel_rfl) (fun _ _ _ h => h) rfl ?hy7 ?rest7
  case hy7 => (intro w; go_simp; try with_reducible rfl)
  try simp only [Act.put, List.setIfInBounds_toArray, List.set_cons_zero, List.set_cons_succ]
  refine any_one (i := 5) (by kernel_rfl) rfl rfl (fun K hK => ?_)
  go_simp
  refine hK.out _ _ ?_
  clear hK K hcp hcl
  try simp only [Act.put, List.setIfInBounds_toArray, List.set_cons_zero, List.set_cons_succ]
  refine any_take (i := 8) (v := ?v8) rfl (by kernel_rfl) (by kernel_rfl) (by kernel_rfl) (fun _ _ _ h => h) rfl ?hy8 ?rest8
  case hy8 => (intro w; go_simp; try with_reducible rfl)
  try simp only [Act.put, List.setIfInBounds_toArray, List.set_cons_zero, List.set_cons_succ]
  refine any_one (i := 9) (by kernel_rfl) rfl rfl (fun K hK => ?_)
  go_simp
  refine hK.out _ _ ?_
  clear hK K c3 f3
  try simp only [Act.put, List.setIfInBounds_toArray, List.set_cons_zero, List.set_cons_succ]
  refine wpAny_done (by kernel_rfl) ?_ _
  refine NoPanic.normal ?_
  go_wp2_with fail
  go_end0
  exact ⟨rfl, HZ.out⟩
end Go.Proofs.YtbcgipapbamgfaaDoor
