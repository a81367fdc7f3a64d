/-
  sandglassref16.Command, Word, called; nothing old is turned.
-/
import Derived.Test.YthdmecoeghnifaaRefD
import Derived.Deep.RegionHeld3
namespace Go.Proofs.Ythdmecoeghnifaa
open Go.RowKit
/-- A struct of four fields lies in block b. -/
def T4 (W : World) (b : Nat) (x0 x1 x2 x3 : Value) : Prop := W.cell? ⟨b, 0, none⟩ = some x0 ∧ W.cell? ⟨b, 1, none⟩ = some x1 ∧ W.cell? ⟨b, 2, none⟩ = some x2 ∧ W.cell? ⟨b, 3, none⟩ = some x3
theorem keepT4 {W0 wx : World} {b : Nat} {x0 x1 x2 x3 : Value} (h : Ext W0 wx) (r : T4 W0 b x0 x1 x2 x3) : Ext W0 wx ∧ wx.cell? ⟨b, 0, none⟩ = some x0 ∧ wx.cell? ⟨b, 1, none⟩ = some x1 ∧ wx.cell? ⟨b, 2, none⟩ = some x2 ∧ wx.cell? ⟨b, 3, none⟩ = some x3 := ⟨h, later h r.1, later h r.2.1, later h r.2.2.1, later h r.2.2.2⟩
/-- A struct of five fields lies in block b. -/
def T5 (W : World) (b : Nat) (x0 x1 x2 x3 x4 : Value) : Prop := T4 W b x0 x1 x2 x3 ∧ W.cell? ⟨b, 4, none⟩ = some x4
theorem keepT5 {W0 wx : World} {b : Nat} {x0 x1 x2 x3 x4 : Value} (h : Ext W0 wx) (r : T5 W0 b x0 x1 x2 x3 x4) : Ext W0 wx ∧ (wx.cell? ⟨b, 0, none⟩ = some x0 ∧ wx.cell? ⟨b, 1, none⟩ = some x1 ∧ wx.cell? ⟨b, 2, none⟩ = some x2 ∧ wx.cell? ⟨b, 3, none⟩ = some x3) ∧ wx.cell? ⟨b, 4, none⟩ = some x4 := ⟨h, (keepT4 h r.1).2, later h r.2⟩
theorem lies_lit (W : World) (xs : List ByteArray) (t : TypeId) (c : Nat) (u : Array Value) (hu : u = (xs.map Value.string).toArray) : LiesT (W.alloc (.cells u t)) (.slice (some ⟨W.heap.size, 0, none⟩) xs.length c) xs.length (fun k => xs.getD k ⟨#[]⟩) := by
  subst hu
  refine ⟨_, c, rfl, fun _ => ⟨W.heap.size, 0, rfl, by simp, fun k hk => ?_⟩⟩
  have hk2 : k < xs.length := by omega
  rw [World.cell?_alloc_at _ _ _ _ rfl]
  simp [hk2]
theorem lsT_getD (xs : List ByteArray) : lsT (fun k => xs.getD k ⟨#[]⟩) xs.length = xs := by
  apply List.ext_getElem?
  intro i
  unfold lsT
  rw [List.getElem?_map]
  by_cases h : i < xs.length
  · rw [List.getElem?_range h]; simp [h]
  · rw [List.getElem?_eq_none (by simp; omega), List.getElem?_eq_none (by omega)]; rfl
/-- Texts of a literal list. -/
theorem rtexts_lit (xs : List ByteArray) (hz : (txs xs).size ≤ 100000) (W : World) (t : TypeId) (c : Nat) (u : Array Value) (hu : u = (xs.map Value.string).toArray) :
    Calls Try.prog 14 #[.slice (some ⟨W.heap.size, 0, none⟩) xs.length c] (W.alloc (.cells u t)) fun e w' => e = .returned (.string (txs xs)) ∧ Ext (W.alloc (.cells u t)) w' := by
  have h := rtexts_any (.slice (some ⟨W.heap.size, 0, none⟩) xs.length c) xs.length (fun k => xs.getD k ⟨#[]⟩) (by unfold txN; rw [lsT_getD]; exact hz) _ (lies_lit W xs t c u hu)
  unfold txN at h
  rw [lsT_getD] at h
  exact h
theorem cmdB_size {k e : Int} {nm bd : ByteArray} (h : cmdOk k e nm bd = true) : (cmdB k e nm bd).size ≤ 100000 := by
  have h' := of_decide_eq_true h
  unfold cmdB txs txs txs txs txs
  simp only [ByteArray.size_append, txt_size, oneB_size]
  show _ + (_ + (_ + (_ + 0))) ≤ _
  omega
theorem wrdB_size {k f r v : Int} {x : ByteArray} (h : wrdOk k f r v x = true) : (wrdB k f r v x).size ≤ 100000 := by
  have h' := of_decide_eq_true h
  unfold wrdB txs txs txs txs txs txs
  simp only [ByteArray.size_append, txt_size, oneB_size]
  show _ + (_ + (_ + (_ + (_ + 0)))) ≤ _
  omega
set_option maxHeartbeats 1000000 in
theorem rcmd_bad (k e : Int) (nm bd : ByteArray) (h : cmdOk k e nm bd = false) (w : World) :
    Calls Try.prog 19 #[.agg #[.int .i64 k, .int .i64 e, .string nm, .string bd]] w fun ex w' => ex = .returned (.tuple #[.string ⟨#[]⟩, .int .i64 1]) ∧ Ext w w' := by
  have HC : Hid (∀ W, Calls Try.prog 34 #[.agg #[.int .i64 k, .int .i64 e, .string nm, .string bd]] W fun ex w' => ex = .returned (.int .i64 1) ∧ Ext W w') := fun W => by
    have := rchkC_any k e nm bd W
    rw [h] at this
    exact this
  go_enter Try.func19, Try.ntmps19
  go_wp2_with fail
  refine (HC.out _).mono ?_
  rintro ex w1 ⟨rfl, HX⟩
  have HX1 : Hid (Ext w w1) := ((Ext.refl w).alloc _).trans HX
  clear HX
  go_wp2
  refine bodyPost_ret (v := .tuple #[.string ⟨#[]⟩, .int .i64 1]) (by simp [results, Try.results19, go_sem]) rfl ⟨rfl, HX1.out⟩
set_option maxHeartbeats 2000000 in
theorem rcmd_good (k e : Int) (nm bd : ByteArray) (h : cmdOk k e nm bd = true) (w : World) :
    Calls Try.prog 19 #[.agg #[.int .i64 k, .int .i64 e, .string nm, .string bd]] w fun ex w' => ex = .returned (.tuple #[.string (cmdB k e nm bd), .int .i64 0]) ∧ Ext w w' := by
  have HC : Hid (∀ W, Calls Try.prog 34 #[.agg #[.int .i64 k, .int .i64 e, .string nm, .string bd]] W fun ex w' => ex = .returned (.int .i64 0) ∧ Ext W w') := fun W => by
    have := rchkC_any k e nm bd W
    rw [h] at this
    exact this
  have HT : Hid (∀ (W : World) (t : TypeId), Calls Try.prog 14 #[.slice (some ⟨W.heap.size, 0, none⟩) 4 4] (W.alloc (.cells #[.string (oneB k), .string (oneB e), .string nm, .string bd] t)) fun ex w' => ex = .returned (.string (cmdB k e nm bd)) ∧ Ext (W.alloc (.cells #[.string (oneB k), .string (oneB e), .string nm, .string bd] t)) w') := fun W t => rtexts_lit [oneB k, oneB e, nm, bd] (cmdB_size h) W t 4 _ rfl
  clear h
  generalize cmdB k e nm bd = R at *
  have HR0 : Hid (T4 (w.alloc (.cells #[.int .i64 k, .int .i64 e, .string nm, .string bd] 36)) w.heap.size (.int .i64 k) (.int .i64 e) (.string nm) (.string bd)) := ⟨by rw [World.cell?_alloc_at _ _ _ _ rfl]; rfl, by rw [World.cell?_alloc_at _ _ _ _ rfl]; rfl, by rw [World.cell?_alloc_at _ _ _ _ rfl]; rfl, by rw [World.cell?_alloc_at _ _ _ _ rfl]; rfl⟩
  go_enter Try.func19, Try.ntmps19
  go_wp2_with fail
  refine (HC.out _).mono ?_
  rintro ex W0 ⟨rfl, HX⟩
  have HX1 : Hid (Ext w W0) := ((Ext.refl w).alloc _).trans HX
  have R0 : T4 W0 w.heap.size (.int .i64 k) (.int .i64 e) (.string nm) (.string bd) := (keepT4 HX HR0.out).2
  have HB0 : Hid (w.heap.size < W0.heap.size) := Nat.lt_of_lt_of_le (by simp) HX.size
  clear HX HR0
  generalize w.heap.size = b at *
  go_wp2_with fail
  go_region_held3 (fun wx : World => Ext W0 wx ∧ wx.cell? ⟨b, 0, none⟩ = some (.int .i64 k) ∧ wx.cell? ⟨b, 1, none⟩ = some (.int .i64 e) ∧ wx.cell? ⟨b, 2, none⟩ = some (.string nm) ∧ wx.cell? ⟨b, 3, none⟩ = some (.string bd)) (first | exact keepT4 (Ext.refl _) R0 | exact keepT4 (Ext.drew (Ext.refl _)) R0 | exact keepT4 (by assumption) R0 | exact keepT4 (Ext.alloc (by assumption) _) R0 | (refine keepT4 ?_ R0; simp (maxDischargeDepth := 30) only [*])) (first | (go_at_call 35; with_reducible refine (rone_any k _).mono ?_; rintro e wy ⟨rfl, HX⟩; have hEy : Ext W0 wy := (by refine Ext.trans ?_ HX; simp only [*])) | (go_at_call 35; with_reducible refine (rone_any e _).mono ?_; rintro e wy ⟨rfl, HX⟩; have hEy : Ext W0 wy := (by refine Ext.trans ?_ HX; simp only [*])) | (go_at_call 14; with_reducible refine (HT.out _ _).mono ?_; rintro e wy ⟨rfl, HX⟩; have hEy : Ext W0 wy := (by refine Ext.trans ?_ HX; refine Ext.alloc ?_ _; simp only [*])))
  have HE : Hid (Ext w wy) := HX1.out.trans hEy
  go_wp2
  refine bodyPost_ret (v := .tuple #[.string R, .int .i64 0]) (by simp [results, Try.results19, go_sem]) rfl ⟨rfl, HE.out⟩
set_option maxHeartbeats 1000000 in
theorem rwrd_bad (k f r v : Int) (x : ByteArray) (h : wrdOk k f r v x = false) (w : World) :
    Calls Try.prog 23 #[.agg #[.int .i64 k, .int .i64 f, .int .i64 r, .int .i64 v, .string x]] w fun ex w' => ex = .returned (.tuple #[.string ⟨#[]⟩, .int .i64 1]) ∧ Ext w w' := by
  have HC : Hid (∀ W, Calls Try.prog 39 #[.agg #[.int .i64 k, .int .i64 f, .int .i64 r, .int .i64 v, .string x]] W fun ex w' => ex = .returned (.int .i64 1) ∧ Ext W w') := fun W => by
    have := rchkW_any k f r v x W
    rw [h] at this
    exact this
  go_enter Try.func23, Try.ntmps23
  go_wp2_with fail
  refine (HC.out _).mono ?_
  rintro ex w1 ⟨rfl, HX⟩
  have HX1 : Hid (Ext w w1) := ((Ext.refl w).alloc _).trans HX
  clear HX
  go_wp2
  refine bodyPost_ret (v := .tuple #[.string ⟨#[]⟩, .int .i64 1]) (by simp [results, Try.results23, go_sem]) rfl ⟨rfl, HX1.out⟩
set_option maxHeartbeats 2000000 in
theorem rwrd_good (k f r v : Int) (x : ByteArray) (h : wrdOk k f r v x = true) (w : World) :
    Calls Try.prog 23 #[.agg #[.int .i64 k, .int .i64 f, .int .i64 r, .int .i64 v, .string x]] w fun ex w' => ex = .returned (.tuple #[.string (wrdB k f r v x), .int .i64 0]) ∧ Ext w w' := by
  have HC : Hid (∀ W, Calls Try.prog 39 #[.agg #[.int .i64 k, .int .i64 f, .int .i64 r, .int .i64 v, .string x]] W fun ex w' => ex = .returned (.int .i64 0) ∧ Ext W w') := fun W => by
    have := rchkW_any k f r v x W
    rw [h] at this
    exact this
  have HT : Hid (∀ (W : World) (t : TypeId), Calls Try.prog 14 #[.slice (some ⟨W.heap.size, 0, none⟩) 5 5] (W.alloc (.cells #[.string (oneB k), .string (oneB f), .string (oneB r), .string (oneB (v + 1)), .string x] t)) fun ex w' => ex = .returned (.string (wrdB k f r v x)) ∧ Ext (W.alloc (.cells #[.string (oneB k), .string (oneB f), .string (oneB r), .string (oneB (v + 1)), .string x] t)) w') := fun W t => rtexts_lit [oneB k, oneB f, oneB r, oneB (v + 1), x] (wrdB_size h) W t 5 _ rfl
  have hv : IntKind.i64.wrap (v + 1) = v + 1 := by
    have := of_decide_eq_true h
    rw [IntKind.wrap_i64]
    omega
  clear h
  generalize wrdB k f r v x = R at *
  have HR0 : Hid (T5 (w.alloc (.cells #[.int .i64 k, .int .i64 f, .int .i64 r, .int .i64 v, .string x] 47)) w.heap.size (.int .i64 k) (.int .i64 f) (.int .i64 r) (.int .i64 v) (.string x)) := ⟨⟨by rw [World.cell?_alloc_at _ _ _ _ rfl]; rfl, by rw [World.cell?_alloc_at _ _ _ _ rfl]; rfl, by rw [World.cell?_alloc_at _ _ _ _ rfl]; rfl, by rw [World.cell?_alloc_at _ _ _ _ rfl]; rfl⟩, by rw [World.cell?_alloc_at _ _ _ _ rfl]; rfl⟩
  go_enter Try.func23, Try.ntmps23
  go_wp2_with fail
  refine (HC.out _).mono ?_
  rintro ex W0 ⟨rfl, HX⟩
  have HX1 : Hid (Ext w W0) := ((Ext.refl w).alloc _).trans HX
  have R0 : T5 W0 w.heap.size (.int .i64 k) (.int .i64 f) (.int .i64 r) (.int .i64 v) (.string x) := (keepT5 HX HR0.out).2
  have HB0 : Hid (w.heap.size < W0.heap.size) := Nat.lt_of_lt_of_le (by simp) HX.size
  clear HX HR0
  generalize w.heap.size = b at *
  go_wp2_with fail
  go_region_held3 (fun wx : World => Ext W0 wx ∧ (wx.cell? ⟨b, 0, none⟩ = some (.int .i64 k) ∧ wx.cell? ⟨b, 1, none⟩ = some (.int .i64 f) ∧ wx.cell? ⟨b, 2, none⟩ = some (.int .i64 r) ∧ wx.cell? ⟨b, 3, none⟩ = some (.int .i64 v)) ∧ wx.cell? ⟨b, 4, none⟩ = some (.string x)) (first | exact keepT5 (Ext.refl _) R0 | exact keepT5 (Ext.drew (Ext.refl _)) R0 | exact keepT5 (by assumption) R0 | exact keepT5 (Ext.alloc (by assumption) _) R0 | (refine keepT5 ?_ R0; simp (maxDischargeDepth := 30) only [*])) (first | (go_at_call 35; with_reducible refine (rone_any k _).mono ?_; rintro e wy ⟨rfl, HX⟩; have hEy : Ext W0 wy := (by refine Ext.trans ?_ HX; simp only [*])) | (go_at_call 35; with_reducible refine (rone_any f _).mono ?_; rintro e wy ⟨rfl, HX⟩; have hEy : Ext W0 wy := (by refine Ext.trans ?_ HX; simp only [*])) | (go_at_call 35; with_reducible refine (rone_any r _).mono ?_; rintro e wy ⟨rfl, HX⟩; have hEy : Ext W0 wy := (by refine Ext.trans ?_ HX; simp only [*])) | (go_at_call 35; with_reducible refine (rone_any (v + 1) _).mono ?_; rintro e wy ⟨rfl, HX⟩; have hEy : Ext W0 wy := (by refine Ext.trans ?_ HX; simp only [*])) | (go_at_call 14; with_reducible refine (HT.out _ _).mono ?_; rintro e wy ⟨rfl, HX⟩; have hEy : Ext W0 wy := (by refine Ext.trans ?_ HX; refine Ext.alloc ?_ _; simp only [*])))
  have HE : Hid (Ext w wy) := HX1.out.trans hEy
  go_wp2
  refine bodyPost_ret (v := .tuple #[.string R, .int .i64 0]) (by simp [results, Try.results23, go_sem]) rfl ⟨rfl, HE.out⟩
end Go.Proofs.Ythdmecoeghnifaa
