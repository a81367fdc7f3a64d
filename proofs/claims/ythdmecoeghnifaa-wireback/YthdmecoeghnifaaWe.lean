/-
  (wire.fields[T]).write for commands and words; wire.Command, wire.Word, called; nothing old is turned.
-/
import Derived.Test.YthdmecoeghnifaaWd
import Derived.Test.YthdmecoeghnifaaWc
import Derived.Test.YthdmecoeghnifaaWt
namespace Go.Proofs.Ythdmecoeghnifaa
open Go.RowKit
/-- Texts of a literal list that lies somewhere. -/
theorem wtexts_lit (xs : List ByteArray) (hz : (txs xs).size ≤ 100000) (W : World) (u : Value) (h : LiesT W u xs.length (fun k => xs.getD k ⟨#[]⟩)) :
    Calls Try.prog 13 #[u] W fun e w' => e = .returned (.string (txs xs)) ∧ Ext W w' := by
  have h := wtexts_any u xs.length (fun k => xs.getD k ⟨#[]⟩) (by unfold txN; rw [lsT_getD]; exact hz) W h
  unfold txN at h
  rw [lsT_getD] at h
  exact h
set_option maxHeartbeats 1000000 in
theorem wwrC_bad (k e : Int) (nm bd : ByteArray) (h : cmdOk k e nm bd = false) (w : World) :
    Calls Try.prog 33 #[.agg #[.int .i64 4, .func (.func 45) #[] #[], .func (.func 47) #[] #[], .func (.func 49) #[] #[]], .agg #[.int .i64 k, .int .i64 e, .string nm, .string bd]] w fun ex w' => ex = .returned (.tuple #[.string ⟨#[]⟩, .int .i64 1]) ∧ Ext w w' := by
  have HC : Hid (∀ W, Calls Try.prog 49 #[.agg #[.int .i64 k, .int .i64 e, .string nm, .string bd]] W fun ex w' => ex = .returned (.bool false) ∧ Ext W w') := fun W => by
    have := wmayC_any k e nm bd W
    rw [h] at this
    exact this
  have HX0 : Hid (Ext w ((w.alloc (.cells #[.int .i64 4, .func (.func 45) #[] #[], .func (.func 47) #[] #[], .func (.func 49) #[] #[]] 75)).alloc (.cells #[.int .i64 k, .int .i64 e, .string nm, .string bd] 36))) := ((Ext.refl w).alloc _).alloc _
  have HF0 : Hid (T4 (w.alloc (.cells #[.int .i64 4, .func (.func 45) #[] #[], .func (.func 47) #[] #[], .func (.func 49) #[] #[]] 75)) w.heap.size (.int .i64 4) (.func (.func 45) #[] #[]) (.func (.func 47) #[] #[]) (.func (.func 49) #[] #[])) := ⟨by rw [World.cell?_alloc_at _ _ _ _ rfl]; rfl, by rw [World.cell?_alloc_at _ _ _ _ rfl]; rfl, by rw [World.cell?_alloc_at _ _ _ _ rfl]; rfl, by rw [World.cell?_alloc_at _ _ _ _ rfl]; rfl⟩
  have HF1 : Hid (T4 ((w.alloc (.cells #[.int .i64 4, .func (.func 45) #[] #[], .func (.func 47) #[] #[], .func (.func 49) #[] #[]] 75)).alloc (.cells #[.int .i64 k, .int .i64 e, .string nm, .string bd] 36)) w.heap.size (.int .i64 4) (.func (.func 45) #[] #[]) (.func (.func 47) #[] #[]) (.func (.func 49) #[] #[])) := HF0.out.ext ((Ext.refl _).alloc _)
  have HV1 : Hid (T4 ((w.alloc (.cells #[.int .i64 4, .func (.func 45) #[] #[], .func (.func 47) #[] #[], .func (.func 49) #[] #[]] 75)).alloc (.cells #[.int .i64 k, .int .i64 e, .string nm, .string bd] 36)) (w.heap.size + 1) (.int .i64 k) (.int .i64 e) (.string nm) (.string bd)) := ⟨by rw [World.cell?_alloc_at _ _ _ _ (by simp)]; rfl, by rw [World.cell?_alloc_at _ _ _ _ (by simp)]; rfl, by rw [World.cell?_alloc_at _ _ _ _ (by simp)]; rfl, by rw [World.cell?_alloc_at _ _ _ _ (by simp)]; rfl⟩
  clear h HF0
  go_enter Try.func33, Try.ntmps33
  go_wp2_with fail
  obtain ⟨bk, Hb⟩ : ∃ bk, Hid (w.heap.size = bk) := ⟨_, rfl⟩
  rw [Hb.out] at HF1 HV1 ⊢
  generalize (w.alloc (.cells #[.int .i64 4, .func (.func 45) #[] #[], .func (.func 47) #[] #[], .func (.func 49) #[] #[]] 75)).alloc (.cells #[.int .i64 k, .int .i64 e, .string nm, .string bd] 36) = W at *
  refine (HC.out _).mono ?_
  rintro ex w1 ⟨rfl, HX1⟩
  have HE1 : Hid (Ext w w1) := HX0.out.trans HX1
  clear HX0 HX1 HF1 HV1
  go_wp2
  refine bodyPost_ret (v := .tuple #[.string ⟨#[]⟩, .int .i64 1]) (by simp [results, Try.results33, go_sem]) rfl ⟨rfl, HE1.out⟩
set_option maxHeartbeats 1000000 in
theorem wwrC_good (k e : Int) (nm bd : ByteArray) (h : cmdOk k e nm bd = true) (w : World) :
    Calls Try.prog 33 #[.agg #[.int .i64 4, .func (.func 45) #[] #[], .func (.func 47) #[] #[], .func (.func 49) #[] #[]], .agg #[.int .i64 k, .int .i64 e, .string nm, .string bd]] w fun ex w' => ex = .returned (.tuple #[.string (cmdB k e nm bd), .int .i64 0]) ∧ Ext w w' := by
  have HC : Hid (∀ W, Calls Try.prog 49 #[.agg #[.int .i64 k, .int .i64 e, .string nm, .string bd]] W fun ex w' => ex = .returned (.bool true) ∧ Ext W w') := fun W => by
    have := wmayC_any k e nm bd W
    rw [h] at this
    exact this
  have HX0 : Hid (Ext w ((w.alloc (.cells #[.int .i64 4, .func (.func 45) #[] #[], .func (.func 47) #[] #[], .func (.func 49) #[] #[]] 75)).alloc (.cells #[.int .i64 k, .int .i64 e, .string nm, .string bd] 36))) := ((Ext.refl w).alloc _).alloc _
  have HF0 : Hid (T4 (w.alloc (.cells #[.int .i64 4, .func (.func 45) #[] #[], .func (.func 47) #[] #[], .func (.func 49) #[] #[]] 75)) w.heap.size (.int .i64 4) (.func (.func 45) #[] #[]) (.func (.func 47) #[] #[]) (.func (.func 49) #[] #[])) := ⟨by rw [World.cell?_alloc_at _ _ _ _ rfl]; rfl, by rw [World.cell?_alloc_at _ _ _ _ rfl]; rfl, by rw [World.cell?_alloc_at _ _ _ _ rfl]; rfl, by rw [World.cell?_alloc_at _ _ _ _ rfl]; rfl⟩
  have HF1 : Hid (T4 ((w.alloc (.cells #[.int .i64 4, .func (.func 45) #[] #[], .func (.func 47) #[] #[], .func (.func 49) #[] #[]] 75)).alloc (.cells #[.int .i64 k, .int .i64 e, .string nm, .string bd] 36)) w.heap.size (.int .i64 4) (.func (.func 45) #[] #[]) (.func (.func 47) #[] #[]) (.func (.func 49) #[] #[])) := HF0.out.ext ((Ext.refl _).alloc _)
  have HV1 : Hid (T4 ((w.alloc (.cells #[.int .i64 4, .func (.func 45) #[] #[], .func (.func 47) #[] #[], .func (.func 49) #[] #[]] 75)).alloc (.cells #[.int .i64 k, .int .i64 e, .string nm, .string bd] 36)) (w.heap.size + 1) (.int .i64 k) (.int .i64 e) (.string nm) (.string bd)) := ⟨by rw [World.cell?_alloc_at _ _ _ _ (by simp)]; rfl, by rw [World.cell?_alloc_at _ _ _ _ (by simp)]; rfl, by rw [World.cell?_alloc_at _ _ _ _ (by simp)]; rfl, by rw [World.cell?_alloc_at _ _ _ _ (by simp)]; rfl⟩
  have HZ : Hid (∀ W u, LiesT W u 4 (fun i => [oneB k, oneB e, nm, bd].getD i ⟨#[]⟩) → Calls Try.prog 13 #[u] W fun ex w' => ex = .returned (.string (cmdB k e nm bd)) ∧ Ext W w') := fun W u hl => wtexts_lit [oneB k, oneB e, nm, bd] (cmdB_size h) W u hl
  have HTx : Hid (∀ W, Calls Try.prog 45 #[.agg #[.int .i64 k, .int .i64 e, .string nm, .string bd]] W _) := fun W => wtxC_any k e nm bd W
  generalize cmdB k e nm bd = R at *
  clear h HF0
  go_enter Try.func33, Try.ntmps33
  go_wp2_with fail
  obtain ⟨bk, Hb⟩ : ∃ bk, Hid (w.heap.size = bk) := ⟨_, rfl⟩
  rw [Hb.out] at HF1 HV1 ⊢
  generalize (w.alloc (.cells #[.int .i64 4, .func (.func 45) #[] #[], .func (.func 47) #[] #[], .func (.func 49) #[] #[]] 75)).alloc (.cells #[.int .i64 k, .int .i64 e, .string nm, .string bd] 36) = W at *
  refine (HC.out _).mono ?_
  rintro ex w1 ⟨rfl, HX1⟩
  have HE1 : Hid (Ext w w1) := HX0.out.trans HX1
  obtain ⟨f0, f1, f2, f3⟩ := HF1.out.ext HX1
  obtain ⟨v0, v1, v2, v3⟩ := HV1.out.ext HX1
  clear HX0 HX1 HF1 HV1
  go_wp2_with fail
  refine (HTx.out _).mono ?_
  rintro ex w2 ⟨u, rfl, HL, HX2⟩
  have HE2 : Hid (Ext w w2) := HE1.out.trans HX2
  have HZ2 := HZ.out w2 u HL
  clear HX2 HE1 HL HZ v0 v1 v2 v3 f0 f1 f2 f3
  go_wp2_with fail
  refine HZ2.mono ?_
  rintro ex w3 ⟨rfl, HX3⟩
  have HE3 : Hid (Ext w w3) := HE2.out.trans HX3
  clear HX3 HZ2
  go_wp2
  refine bodyPost_ret (v := .tuple #[.string R, .int .i64 0]) (by simp [results, Try.results33, go_sem]) rfl ⟨rfl, HE3.out⟩
set_option maxHeartbeats 2000000 in
theorem wcmd_bad (k e : Int) (nm bd : ByteArray) (h : cmdOk k e nm bd = false) (w : World) :
    Calls Try.prog 18 #[.agg #[.int .i64 k, .int .i64 e, .string nm, .string bd]] w fun ex w' => ex = .returned (.tuple #[.string ⟨#[]⟩, .int .i64 1]) ∧ Ext w w' := by
  have HC : Hid (∀ W, Calls Try.prog 33 #[.agg #[.int .i64 4, .func (.func 45) #[] #[], .func (.func 47) #[] #[], .func (.func 49) #[] #[]], .agg #[.int .i64 k, .int .i64 e, .string nm, .string bd]] W fun ex w' => ex = .returned (.tuple #[.string ⟨#[]⟩, .int .i64 1]) ∧ Ext W w') := fun W => wwrC_bad k e nm bd h W
  clear h
  have HR0 : Hid (T4 (w.alloc (.cells #[.int .i64 k, .int .i64 e, .string nm, .string bd] 36)) w.heap.size (.int .i64 k) (.int .i64 e) (.string nm) (.string bd)) := ⟨by rw [World.cell?_alloc_at _ _ _ _ rfl]; rfl, by rw [World.cell?_alloc_at _ _ _ _ rfl]; rfl, by rw [World.cell?_alloc_at _ _ _ _ rfl]; rfl, by rw [World.cell?_alloc_at _ _ _ _ rfl]; rfl⟩
  have HX1 : Hid (Ext w (w.alloc (.cells #[.int .i64 k, .int .i64 e, .string nm, .string bd] 36))) := (Ext.refl w).alloc _
  go_enter Try.func18, Try.ntmps18
  go_wp2_with fail
  obtain ⟨b, Hb⟩ : ∃ b, Hid (w.heap.size = b) := ⟨_, rfl⟩
  rw [Hb.out] at HR0 ⊢
  generalize w.alloc (.cells #[.int .i64 k, .int .i64 e, .string nm, .string bd] 36) = W0 at *
  have R0 : T4 W0 b (.int .i64 k) (.int .i64 e) (.string nm) (.string bd) := HR0.out
  clear HR0
  go_region_held3 (fun wx : World => Ext W0 wx ∧ wx.cell? ⟨b, 0, none⟩ = some (.int .i64 k) ∧ wx.cell? ⟨b, 1, none⟩ = some (.int .i64 e) ∧ wx.cell? ⟨b, 2, none⟩ = some (.string nm) ∧ wx.cell? ⟨b, 3, none⟩ = some (.string bd)) (first | exact keepT4 (Ext.refl _) R0 | exact keepT4 (Ext.drew (Ext.refl _)) R0 | exact keepT4 (by assumption) R0) (first | (go_at_call 32; with_reducible refine (wcf_any _).mono ?_; rintro ex wy ⟨rfl, HX⟩; have hEy : Ext W0 wy := (by refine Ext.trans ?_ HX; simp only [*])) | (go_at_call 33; with_reducible refine (HC.out _).mono ?_; rintro ex wy ⟨rfl, HX⟩; have hEy : Ext W0 wy := (by refine Ext.trans ?_ HX; simp only [*])))
  have HE : Hid (Ext w wy) := HX1.out.trans hEy
  go_wp2
  refine bodyPost_ret (v := .tuple #[.string ⟨#[]⟩, .int .i64 1]) (by simp [results, Try.results18, go_sem]) rfl ⟨rfl, HE.out⟩
set_option maxHeartbeats 2000000 in
theorem wcmd_good (k e : Int) (nm bd : ByteArray) (h : cmdOk k e nm bd = true) (w : World) :
    Calls Try.prog 18 #[.agg #[.int .i64 k, .int .i64 e, .string nm, .string bd]] w fun ex w' => ex = .returned (.tuple #[.string (cmdB k e nm bd), .int .i64 0]) ∧ Ext w w' := by
  have HC : Hid (∀ W, Calls Try.prog 33 #[.agg #[.int .i64 4, .func (.func 45) #[] #[], .func (.func 47) #[] #[], .func (.func 49) #[] #[]], .agg #[.int .i64 k, .int .i64 e, .string nm, .string bd]] W fun ex w' => ex = .returned (.tuple #[.string (cmdB k e nm bd), .int .i64 0]) ∧ Ext W w') := fun W => wwrC_good k e nm bd h W
  clear h
  generalize cmdB k e nm bd = R at *
  have HR0 : Hid (T4 (w.alloc (.cells #[.int .i64 k, .int .i64 e, .string nm, .string bd] 36)) w.heap.size (.int .i64 k) (.int .i64 e) (.string nm) (.string bd)) := ⟨by rw [World.cell?_alloc_at _ _ _ _ rfl]; rfl, by rw [World.cell?_alloc_at _ _ _ _ rfl]; rfl, by rw [World.cell?_alloc_at _ _ _ _ rfl]; rfl, by rw [World.cell?_alloc_at _ _ _ _ rfl]; rfl⟩
  have HX1 : Hid (Ext w (w.alloc (.cells #[.int .i64 k, .int .i64 e, .string nm, .string bd] 36))) := (Ext.refl w).alloc _
  go_enter Try.func18, Try.ntmps18
  go_wp2_with fail
  obtain ⟨b, Hb⟩ : ∃ b, Hid (w.heap.size = b) := ⟨_, rfl⟩
  rw [Hb.out] at HR0 ⊢
  generalize w.alloc (.cells #[.int .i64 k, .int .i64 e, .string nm, .string bd] 36) = W0 at *
  have R0 : T4 W0 b (.int .i64 k) (.int .i64 e) (.string nm) (.string bd) := HR0.out
  clear HR0
  go_region_held3 (fun wx : World => Ext W0 wx ∧ wx.cell? ⟨b, 0, none⟩ = some (.int .i64 k) ∧ wx.cell? ⟨b, 1, none⟩ = some (.int .i64 e) ∧ wx.cell? ⟨b, 2, none⟩ = some (.string nm) ∧ wx.cell? ⟨b, 3, none⟩ = some (.string bd)) (first | exact keepT4 (Ext.refl _) R0 | exact keepT4 (Ext.drew (Ext.refl _)) R0 | exact keepT4 (by assumption) R0) (first | (go_at_call 32; with_reducible refine (wcf_any _).mono ?_; rintro ex wy ⟨rfl, HX⟩; have hEy : Ext W0 wy := (by refine Ext.trans ?_ HX; simp only [*])) | (go_at_call 33; with_reducible refine (HC.out _).mono ?_; rintro ex wy ⟨rfl, HX⟩; have hEy : Ext W0 wy := (by refine Ext.trans ?_ HX; simp only [*])))
  have HE : Hid (Ext w wy) := HX1.out.trans hEy
  go_wp2
  refine bodyPost_ret (v := .tuple #[.string R, .int .i64 0]) (by simp [results, Try.results18, go_sem]) rfl ⟨rfl, HE.out⟩
set_option maxHeartbeats 1000000 in
theorem wwrW_bad (k f r v : Int) (x : ByteArray) (h : wrdOk k f r v x = false) (w : World) :
    Calls Try.prog 38 #[.agg #[.int .i64 5, .func (.func 50) #[] #[], .func (.func 51) #[] #[], .func (.func 52) #[] #[]], .agg #[.int .i64 k, .int .i64 f, .int .i64 r, .int .i64 v, .string x]] w fun ex w' => ex = .returned (.tuple #[.string ⟨#[]⟩, .int .i64 1]) ∧ Ext w w' := by
  have HC : Hid (∀ W, Calls Try.prog 52 #[.agg #[.int .i64 k, .int .i64 f, .int .i64 r, .int .i64 v, .string x]] W fun ex w' => ex = .returned (.bool false) ∧ Ext W w') := fun W => by
    have := wmayW_any k f r v x W
    rw [h] at this
    exact this
  have HX0 : Hid (Ext w ((w.alloc (.cells #[.int .i64 5, .func (.func 50) #[] #[], .func (.func 51) #[] #[], .func (.func 52) #[] #[]] 83)).alloc (.cells #[.int .i64 k, .int .i64 f, .int .i64 r, .int .i64 v, .string x] 47))) := ((Ext.refl w).alloc _).alloc _
  have HF0 : Hid (T4 (w.alloc (.cells #[.int .i64 5, .func (.func 50) #[] #[], .func (.func 51) #[] #[], .func (.func 52) #[] #[]] 83)) w.heap.size (.int .i64 5) (.func (.func 50) #[] #[]) (.func (.func 51) #[] #[]) (.func (.func 52) #[] #[])) := ⟨by rw [World.cell?_alloc_at _ _ _ _ rfl]; rfl, by rw [World.cell?_alloc_at _ _ _ _ rfl]; rfl, by rw [World.cell?_alloc_at _ _ _ _ rfl]; rfl, by rw [World.cell?_alloc_at _ _ _ _ rfl]; rfl⟩
  have HF1 : Hid (T4 ((w.alloc (.cells #[.int .i64 5, .func (.func 50) #[] #[], .func (.func 51) #[] #[], .func (.func 52) #[] #[]] 83)).alloc (.cells #[.int .i64 k, .int .i64 f, .int .i64 r, .int .i64 v, .string x] 47)) w.heap.size (.int .i64 5) (.func (.func 50) #[] #[]) (.func (.func 51) #[] #[]) (.func (.func 52) #[] #[])) := HF0.out.ext ((Ext.refl _).alloc _)
  have HV1 : Hid (T5 ((w.alloc (.cells #[.int .i64 5, .func (.func 50) #[] #[], .func (.func 51) #[] #[], .func (.func 52) #[] #[]] 83)).alloc (.cells #[.int .i64 k, .int .i64 f, .int .i64 r, .int .i64 v, .string x] 47)) (w.heap.size + 1) (.int .i64 k) (.int .i64 f) (.int .i64 r) (.int .i64 v) (.string x)) := ⟨⟨by rw [World.cell?_alloc_at _ _ _ _ (by simp)]; rfl, by rw [World.cell?_alloc_at _ _ _ _ (by simp)]; rfl, by rw [World.cell?_alloc_at _ _ _ _ (by simp)]; rfl, by rw [World.cell?_alloc_at _ _ _ _ (by simp)]; rfl⟩, by rw [World.cell?_alloc_at _ _ _ _ (by simp)]; rfl⟩
  clear h HF0
  go_enter Try.func38, Try.ntmps38
  go_wp2_with fail
  obtain ⟨bk, Hb⟩ : ∃ bk, Hid (w.heap.size = bk) := ⟨_, rfl⟩
  rw [Hb.out] at HF1 HV1 ⊢
  generalize (w.alloc (.cells #[.int .i64 5, .func (.func 50) #[] #[], .func (.func 51) #[] #[], .func (.func 52) #[] #[]] 83)).alloc (.cells #[.int .i64 k, .int .i64 f, .int .i64 r, .int .i64 v, .string x] 47) = W at *
  refine (HC.out _).mono ?_
  rintro ex w1 ⟨rfl, HX1⟩
  have HE1 : Hid (Ext w w1) := HX0.out.trans HX1
  clear HX0 HX1 HF1 HV1
  go_wp2
  refine bodyPost_ret (v := .tuple #[.string ⟨#[]⟩, .int .i64 1]) (by simp [results, Try.results38, go_sem]) rfl ⟨rfl, HE1.out⟩
set_option maxHeartbeats 1000000 in
theorem wwrW_good (k f r v : Int) (x : ByteArray) (h : wrdOk k f r v x = true) (w : World) :
    Calls Try.prog 38 #[.agg #[.int .i64 5, .func (.func 50) #[] #[], .func (.func 51) #[] #[], .func (.func 52) #[] #[]], .agg #[.int .i64 k, .int .i64 f, .int .i64 r, .int .i64 v, .string x]] w fun ex w' => ex = .returned (.tuple #[.string (wrdB k f r v x), .int .i64 0]) ∧ Ext w w' := by
  have HC : Hid (∀ W, Calls Try.prog 52 #[.agg #[.int .i64 k, .int .i64 f, .int .i64 r, .int .i64 v, .string x]] W fun ex w' => ex = .returned (.bool true) ∧ Ext W w') := fun W => by
    have := wmayW_any k f r v x W
    rw [h] at this
    exact this
  have HX0 : Hid (Ext w ((w.alloc (.cells #[.int .i64 5, .func (.func 50) #[] #[], .func (.func 51) #[] #[], .func (.func 52) #[] #[]] 83)).alloc (.cells #[.int .i64 k, .int .i64 f, .int .i64 r, .int .i64 v, .string x] 47))) := ((Ext.refl w).alloc _).alloc _
  have HF0 : Hid (T4 (w.alloc (.cells #[.int .i64 5, .func (.func 50) #[] #[], .func (.func 51) #[] #[], .func (.func 52) #[] #[]] 83)) w.heap.size (.int .i64 5) (.func (.func 50) #[] #[]) (.func (.func 51) #[] #[]) (.func (.func 52) #[] #[])) := ⟨by rw [World.cell?_alloc_at _ _ _ _ rfl]; rfl, by rw [World.cell?_alloc_at _ _ _ _ rfl]; rfl, by rw [World.cell?_alloc_at _ _ _ _ rfl]; rfl, by rw [World.cell?_alloc_at _ _ _ _ rfl]; rfl⟩
  have HF1 : Hid (T4 ((w.alloc (.cells #[.int .i64 5, .func (.func 50) #[] #[], .func (.func 51) #[] #[], .func (.func 52) #[] #[]] 83)).alloc (.cells #[.int .i64 k, .int .i64 f, .int .i64 r, .int .i64 v, .string x] 47)) w.heap.size (.int .i64 5) (.func (.func 50) #[] #[]) (.func (.func 51) #[] #[]) (.func (.func 52) #[] #[])) := HF0.out.ext ((Ext.refl _).alloc _)
  have HV1 : Hid (T5 ((w.alloc (.cells #[.int .i64 5, .func (.func 50) #[] #[], .func (.func 51) #[] #[], .func (.func 52) #[] #[]] 83)).alloc (.cells #[.int .i64 k, .int .i64 f, .int .i64 r, .int .i64 v, .string x] 47)) (w.heap.size + 1) (.int .i64 k) (.int .i64 f) (.int .i64 r) (.int .i64 v) (.string x)) := ⟨⟨by rw [World.cell?_alloc_at _ _ _ _ (by simp)]; rfl, by rw [World.cell?_alloc_at _ _ _ _ (by simp)]; rfl, by rw [World.cell?_alloc_at _ _ _ _ (by simp)]; rfl, by rw [World.cell?_alloc_at _ _ _ _ (by simp)]; rfl⟩, by rw [World.cell?_alloc_at _ _ _ _ (by simp)]; rfl⟩
  have HZ : Hid (∀ W u, LiesT W u 5 (fun i => [oneB k, oneB f, oneB r, oneB (v + 1), x].getD i ⟨#[]⟩) → Calls Try.prog 13 #[u] W fun ex w' => ex = .returned (.string (wrdB k f r v x)) ∧ Ext W w') := fun W u hl => wtexts_lit [oneB k, oneB f, oneB r, oneB (v + 1), x] (wrdB_size h) W u hl
  have hv : IntKind.i64.wrap (v + 1) = v + 1 := by
    have := of_decide_eq_true h
    rw [IntKind.wrap_i64]
    omega
  have HTx : Hid (∀ W, Calls Try.prog 50 #[.agg #[.int .i64 k, .int .i64 f, .int .i64 r, .int .i64 v, .string x]] W _) := fun W => wtxW_any k f r v x hv W
  generalize wrdB k f r v x = R at *
  clear h HF0
  go_enter Try.func38, Try.ntmps38
  go_wp2_with fail
  obtain ⟨bk, Hb⟩ : ∃ bk, Hid (w.heap.size = bk) := ⟨_, rfl⟩
  rw [Hb.out] at HF1 HV1 ⊢
  generalize (w.alloc (.cells #[.int .i64 5, .func (.func 50) #[] #[], .func (.func 51) #[] #[], .func (.func 52) #[] #[]] 83)).alloc (.cells #[.int .i64 k, .int .i64 f, .int .i64 r, .int .i64 v, .string x] 47) = W at *
  refine (HC.out _).mono ?_
  rintro ex w1 ⟨rfl, HX1⟩
  have HE1 : Hid (Ext w w1) := HX0.out.trans HX1
  obtain ⟨f0, f1, f2, f3⟩ := HF1.out.ext HX1
  obtain ⟨⟨v0, v1, v2, v3⟩, v4⟩ := HV1.out.ext HX1
  clear HX0 HX1 HF1 HV1
  go_wp2_with fail
  refine (HTx.out _).mono ?_
  rintro ex w2 ⟨u, rfl, HL, HX2⟩
  have HE2 : Hid (Ext w w2) := HE1.out.trans HX2
  have HZ2 := HZ.out w2 u HL
  clear HX2 HE1 HL HZ v0 v1 v2 v3 v4 f0 f1 f2 f3
  go_wp2_with fail
  refine HZ2.mono ?_
  rintro ex w3 ⟨rfl, HX3⟩
  have HE3 : Hid (Ext w w3) := HE2.out.trans HX3
  clear HX3 HZ2
  go_wp2
  refine bodyPost_ret (v := .tuple #[.string R, .int .i64 0]) (by simp [results, Try.results38, go_sem]) rfl ⟨rfl, HE3.out⟩
set_option maxHeartbeats 2000000 in
theorem wwrd_bad (k f r v : Int) (x : ByteArray) (h : wrdOk k f r v x = false) (w : World) :
    Calls Try.prog 22 #[.agg #[.int .i64 k, .int .i64 f, .int .i64 r, .int .i64 v, .string x]] w fun ex w' => ex = .returned (.tuple #[.string ⟨#[]⟩, .int .i64 1]) ∧ Ext w w' := by
  have HC : Hid (∀ W, Calls Try.prog 38 #[.agg #[.int .i64 5, .func (.func 50) #[] #[], .func (.func 51) #[] #[], .func (.func 52) #[] #[]], .agg #[.int .i64 k, .int .i64 f, .int .i64 r, .int .i64 v, .string x]] W fun ex w' => ex = .returned (.tuple #[.string ⟨#[]⟩, .int .i64 1]) ∧ Ext W w') := fun W => wwrW_bad k f r v x h W
  clear h
  have HR0 : Hid (T5 (w.alloc (.cells #[.int .i64 k, .int .i64 f, .int .i64 r, .int .i64 v, .string x] 47)) w.heap.size (.int .i64 k) (.int .i64 f) (.int .i64 r) (.int .i64 v) (.string x)) := ⟨⟨by rw [World.cell?_alloc_at _ _ _ _ rfl]; rfl, by rw [World.cell?_alloc_at _ _ _ _ rfl]; rfl, by rw [World.cell?_alloc_at _ _ _ _ rfl]; rfl, by rw [World.cell?_alloc_at _ _ _ _ rfl]; rfl⟩, by rw [World.cell?_alloc_at _ _ _ _ rfl]; rfl⟩
  have HX1 : Hid (Ext w (w.alloc (.cells #[.int .i64 k, .int .i64 f, .int .i64 r, .int .i64 v, .string x] 47))) := (Ext.refl w).alloc _
  go_enter Try.func22, Try.ntmps22
  go_wp2_with fail
  obtain ⟨b, Hb⟩ : ∃ b, Hid (w.heap.size = b) := ⟨_, rfl⟩
  rw [Hb.out] at HR0 ⊢
  generalize w.alloc (.cells #[.int .i64 k, .int .i64 f, .int .i64 r, .int .i64 v, .string x] 47) = W0 at *
  have R0 : T5 W0 b (.int .i64 k) (.int .i64 f) (.int .i64 r) (.int .i64 v) (.string x) := HR0.out
  clear HR0
  go_region_held3 (fun wx : World => Ext W0 wx ∧ (wx.cell? ⟨b, 0, none⟩ = some (.int .i64 k) ∧ wx.cell? ⟨b, 1, none⟩ = some (.int .i64 f) ∧ wx.cell? ⟨b, 2, none⟩ = some (.int .i64 r) ∧ wx.cell? ⟨b, 3, none⟩ = some (.int .i64 v)) ∧ wx.cell? ⟨b, 4, none⟩ = some (.string x)) (first | exact keepT5 (Ext.refl _) R0 | exact keepT5 (Ext.drew (Ext.refl _)) R0 | exact keepT5 (by assumption) R0) (first | (go_at_call 37; with_reducible refine (wwf_any _).mono ?_; rintro ex wy ⟨rfl, HX⟩; have hEy : Ext W0 wy := (by refine Ext.trans ?_ HX; simp only [*])) | (go_at_call 38; with_reducible refine (HC.out _).mono ?_; rintro ex wy ⟨rfl, HX⟩; have hEy : Ext W0 wy := (by refine Ext.trans ?_ HX; simp only [*])))
  have HE : Hid (Ext w wy) := HX1.out.trans hEy
  go_wp2
  refine bodyPost_ret (v := .tuple #[.string ⟨#[]⟩, .int .i64 1]) (by simp [results, Try.results22, go_sem]) rfl ⟨rfl, HE.out⟩
set_option maxHeartbeats 2000000 in
theorem wwrd_good (k f r v : Int) (x : ByteArray) (h : wrdOk k f r v x = true) (w : World) :
    Calls Try.prog 22 #[.agg #[.int .i64 k, .int .i64 f, .int .i64 r, .int .i64 v, .string x]] w fun ex w' => ex = .returned (.tuple #[.string (wrdB k f r v x), .int .i64 0]) ∧ Ext w w' := by
  have HC : Hid (∀ W, Calls Try.prog 38 #[.agg #[.int .i64 5, .func (.func 50) #[] #[], .func (.func 51) #[] #[], .func (.func 52) #[] #[]], .agg #[.int .i64 k, .int .i64 f, .int .i64 r, .int .i64 v, .string x]] W fun ex w' => ex = .returned (.tuple #[.string (wrdB k f r v x), .int .i64 0]) ∧ Ext W w') := fun W => wwrW_good k f r v x h W
  clear h
  generalize wrdB k f r v x = R at *
  have HR0 : Hid (T5 (w.alloc (.cells #[.int .i64 k, .int .i64 f, .int .i64 r, .int .i64 v, .string x] 47)) w.heap.size (.int .i64 k) (.int .i64 f) (.int .i64 r) (.int .i64 v) (.string x)) := ⟨⟨by rw [World.cell?_alloc_at _ _ _ _ rfl]; rfl, by rw [World.cell?_alloc_at _ _ _ _ rfl]; rfl, by rw [World.cell?_alloc_at _ _ _ _ rfl]; rfl, by rw [World.cell?_alloc_at _ _ _ _ rfl]; rfl⟩, by rw [World.cell?_alloc_at _ _ _ _ rfl]; rfl⟩
  have HX1 : Hid (Ext w (w.alloc (.cells #[.int .i64 k, .int .i64 f, .int .i64 r, .int .i64 v, .string x] 47))) := (Ext.refl w).alloc _
  go_enter Try.func22, Try.ntmps22
  go_wp2_with fail
  obtain ⟨b, Hb⟩ : ∃ b, Hid (w.heap.size = b) := ⟨_, rfl⟩
  rw [Hb.out] at HR0 ⊢
  generalize w.alloc (.cells #[.int .i64 k, .int .i64 f, .int .i64 r, .int .i64 v, .string x] 47) = W0 at *
  have R0 : T5 W0 b (.int .i64 k) (.int .i64 f) (.int .i64 r) (.int .i64 v) (.string x) := HR0.out
  clear HR0
  go_region_held3 (fun wx : World => Ext W0 wx ∧ (wx.cell? ⟨b, 0, none⟩ = some (.int .i64 k) ∧ wx.cell? ⟨b, 1, none⟩ = some (.int .i64 f) ∧ wx.cell? ⟨b, 2, none⟩ = some (.int .i64 r) ∧ wx.cell? ⟨b, 3, none⟩ = some (.int .i64 v)) ∧ wx.cell? ⟨b, 4, none⟩ = some (.string x)) (first | exact keepT5 (Ext.refl _) R0 | exact keepT5 (Ext.drew (Ext.refl _)) R0 | exact keepT5 (by assumption) R0) (first | (go_at_call 37; with_reducible refine (wwf_any _).mono ?_; rintro ex wy ⟨rfl, HX⟩; have hEy : Ext W0 wy := (by refine Ext.trans ?_ HX; simp only [*])) | (go_at_call 38; with_reducible refine (HC.out _).mono ?_; rintro ex wy ⟨rfl, HX⟩; have hEy : Ext W0 wy := (by refine Ext.trans ?_ HX; simp only [*])))
  have HE : Hid (Ext w wy) := HX1.out.trans hEy
  go_wp2
  refine bodyPost_ret (v := .tuple #[.string R, .int .i64 0]) (by simp [results, Try.results22, go_sem]) rfl ⟨rfl, HE.out⟩
end Go.Proofs.Ythdmecoeghnifaa
