/-
  record.Frame, Next, called; nothing old is turned.
-/
import Derived.Test.YtbkdjpialjbhnaaRa
import Derived.Test.YtbkdjpialjbhnaaWt
import Derived.Test.YtbkdjpialjbhnaaTill
namespace Go.Proofs.Ytbkdjpialjbhnaa
open Go.RowKit
set_option maxHeartbeats 1000000 in
theorem cframe_bad (s : ByteArray) (h1 : 4096 < s.size) (w : World) :
    Calls Try.prog 28 #[.string s] w fun e w' => e = .returned (.tuple #[.string ⟨#[]⟩, .int .i64 2]) ∧ Ext w w' := by
  have h2 : (4096 : Int) < (s.size : Int) := by omega
  go_enter Try.func28, Try.ntmps28
  go_wp2
  refine bodyPost_ret (v := .tuple #[.string ⟨#[]⟩, .int .i64 2]) (by simp [results, Try.results28, go_sem]) rfl ⟨rfl, Ext.refl _⟩
theorem txt_head (s : ByteArray) : (txt s).extract 0 4 = be4 s.size := by
  show (be4 s.size ++ s).extract 0 4 = _
  apply ba_eq
  rw [ba_ext, ba_app, List.drop_zero, Nat.sub_zero, show 4 = (be4 s.size).data.toList.length from by rw [ba_len, be4_size], List.take_left]
set_option maxHeartbeats 1000000 in
theorem cframe_good (s : ByteArray) (h1 : s.size ≤ 4096) (w : World) :
    Calls Try.prog 28 #[.string s] w fun e w' => e = .returned (.tuple #[.string (frm s), .int .i64 0]) ∧ Ext w w' := by
  have h2 : ¬ (4096 : Int) < (s.size : Int) := by omega
  have HT : Hid (∀ W, Calls Try.prog 37 #[.string s] W fun e w' => e = .returned (.string (txt s)) ∧ Ext W w') := fun W => wtext_any s (by omega) W
  have hz : (txt s).size = s.size + 4 := txt_size s
  have H2 : Hid (∀ W, Calls Try.prog 39 #[.string (txt s)] W fun e w' => e = .returned (.int .u32 (crcN (txt s))) ∧ Ext W w') := fun W => csum_any _ (by omega) W
  have H3 : Hid (∀ W, Calls Try.prog 38 #[.int .u32 (crcN (txt s) : Int)] W fun e w' => e = .returned (.string (be4 (crcN (txt s)))) ∧ Ext W w') := fun W => pnt_any _ (crcN_lt _) W
  have HF : Hid (frm s = (be4 s.size ++ be4 (crcN (txt s))) ++ s) := rfl
  have hx : (txt s).extract 0 4 = be4 s.size := txt_head s
  have z1 := be4_size s.size
  have z2 := be4_size (crcN (txt s))
  generalize crcN (txt s) = c at *
  generalize be4 s.size = x at *
  generalize be4 c = y at *
  generalize txt s = t at *
  have hb2 : ¬ 9223372036854775807 < x.size + y.size := by omega
  have hb3 : ¬ 9223372036854775807 < x.size + y.size + s.size := by omega
  have hq : (4 : Int) ≤ (t.size : Int) := by omega
  clear z1 z2 hz h1
  go_enter Try.func28, Try.ntmps28
  go_wp2_with fail
  refine (HT.out _).mono ?_
  rintro e w1 ⟨rfl, HX⟩
  have HE1 : Hid (Ext w w1) := HX
  clear HX
  go_wp2_with fail
  have HEw2 : Hid (Ext w w1.drew) := HE1.out.drew
  clear HE1
  refine wp_region_noPanic ?_
  refine wp_region_any (by kernel_rfl) ?_
  rw [show ({ w1 with drawn := w1.drawn + 1 } : World) = w1.drew from rfl]
  generalize w1.drew = w2 at *
  refine any_take (i := 0) (v := ?v0) rfl (by kernel_rfl) (by kernel_rfl) (by kernel_rfl) (fun _ _ _ h => h) rfl ?hy0 ?rest0
  case hy0 => (intro w; go_simp; try with_reducible rfl)
  try simp only [Act.put, List.setIfInBounds_toArray, List.set_cons_zero, List.set_cons_succ]
  refine any_take (i := 1) (v := ?v1) rfl (by kernel_rfl) (by kernel_rfl) (by kernel_rfl) (fun _ _ _ h => h) rfl ?hy1 ?rest1
  case hy1 => (intro w; go_simp; try with_reducible rfl)
  try simp only [Act.put, List.setIfInBounds_toArray, List.set_cons_zero, List.set_cons_succ]
  refine any_take (i := 2) (v := ?v2) rfl (by kernel_rfl) (by kernel_rfl) (by kernel_rfl) (fun _ _ _ h => h) rfl ?hy2 ?rest2
  case hy2 => (intro w; go_simp; try with_reducible rfl)
  try simp only [Act.put, List.setIfInBounds_toArray, List.set_cons_zero, List.set_cons_succ]
  refine any_take (i := 6) (v := ?v6) rfl (by kernel_rfl) (by kernel_rfl) (by kernel_rfl) (fun _ _ _ h => h) rfl ?hy6 ?rest6
  case hy6 => (intro w; go_simp; try with_reducible rfl)
  try simp only [Act.put, List.setIfInBounds_toArray, List.set_cons_zero, List.set_cons_succ]
  try rw [hx]
  refine any_one (i := 3) (by kernel_rfl) rfl rfl (fun K hK => ?_)
  go_simp
  refine (H2.out _).mono ?_
  rintro e w3 ⟨rfl, HXw3⟩
  have HEw3 : Hid (Ext w w3) := HEw2.out.trans HXw3
  go_simp
  refine hK.out _ _ ?_
  clear hK K HXw3
  try simp only [Act.put, List.setIfInBounds_toArray, List.set_cons_zero, List.set_cons_succ]
  refine any_one (i := 4) (by kernel_rfl) rfl rfl (fun K hK => ?_)
  go_simp
  refine (H3.out _).mono ?_
  rintro e w4 ⟨rfl, HXw4⟩
  have HEw4 : Hid (Ext w w4) := HEw3.out.trans HXw4
  go_simp
  refine hK.out _ _ ?_
  clear hK K HXw4
  try simp only [Act.put, List.setIfInBounds_toArray, List.set_cons_zero, List.set_cons_succ]
  refine any_take (i := 5) (v := ?v5) rfl (by kernel_rfl) (by kernel_rfl) (by kernel_rfl) (fun _ _ _ h => h) rfl ?hy5 ?rest5
  case hy5 => (intro w; go_simp; try with_reducible rfl)
  try simp only [Act.put, List.setIfInBounds_toArray, List.set_cons_zero, List.set_cons_succ]
  refine any_take (i := 7) (v := ?v7) rfl (by kernel_rfl) (by kernel_rfl) (by kernel_rfl) (fun _ _ _ h => h) rfl ?hy7 ?rest7
  case hy7 => (intro w; go_simp; try with_reducible rfl)
  try simp only [Act.put, List.setIfInBounds_toArray, List.set_cons_zero, List.set_cons_succ]
  refine any_take (i := 8) (v := ?v8) rfl (by kernel_rfl) (by kernel_rfl) (by kernel_rfl) (fun _ _ _ h => h) rfl ?hy8 ?rest8
  case hy8 => (intro w; go_simp; try with_reducible rfl)
  try simp only [Act.put, List.setIfInBounds_toArray, List.set_cons_zero, List.set_cons_succ]
  refine any_take (i := 9) (v := ?v9) rfl (by kernel_rfl) (by kernel_rfl) (by kernel_rfl) (fun _ _ _ h => h) rfl ?hy9 ?rest9
  case hy9 => (intro w; go_simp; try with_reducible rfl)
  try simp only [Act.put, List.setIfInBounds_toArray, List.set_cons_zero, List.set_cons_succ]
  refine wpAny_done (by kernel_rfl) ?_ _
  refine NoPanic.normal ?_
  go_wp2
  refine bodyPost_ret (v := .tuple #[.string (x ++ y ++ s), .int .i64 0]) (by simp [results, Try.results28, go_sem]) rfl ⟨by rw [HF.out], HEw4.out⟩
set_option maxHeartbeats 1000000 in
theorem cnext_1 (s : ByteArray) (h : s.size < 4) (w : World) :
    Calls Try.prog 33 #[.string s] w fun e w' => e = .returned (nxtV s) ∧ Ext w w' := by
  have HR : Hid (nxtV s = .tuple #[.string ⟨#[]⟩, .int .i64 ((0 : Nat) : Int), .int .i64 2]) := nxtV_of (nxt_1 h)
  have h1 : (s.size : Int) < 4 := by omega
  go_enter Try.func33, Try.ntmps33
  go_wp2
  refine bodyPost_ret (v := .tuple #[.string ⟨#[]⟩, .int .i64 0, .int .i64 2]) (by simp [results, Try.results33, go_sem]) rfl ⟨by rw [HR.out]; rfl, Ext.refl _⟩
set_option maxHeartbeats 2000000 in
theorem cnext_2 (s : ByteArray) (hs : s.size ≤ 100000) (n : Nat) (hn : num4 s 0 = n) (h : ¬ s.size < 4) (h2 : 4096 < n) (w : World) :
    Calls Try.prog 33 #[.string s] w fun e w' => e = .returned (nxtV s) ∧ Ext w w' := by
  have HR : Hid (nxtV s = .tuple #[.string ⟨#[]⟩, .int .i64 ((0 : Nat) : Int), .int .i64 3]) := nxtV_of (nxt_2 h (by rw [hn]; exact h2))
  have c1 : (4096 : Int) < (n : Int) := by omega
  have h4 : ¬ (s.size : Int) < 4 := by omega
  have HTN : Hid (∀ W, Calls Try.prog 41 #[.string s] W fun e w' => e = .returned (.int .u32 (n : Nat)) ∧ Ext W w') := fun W => by
    have := ptn_any s h W
    rw [hn] at this
    exact this
  clear hn
  go_enter Try.func33, Try.ntmps33
  go_wp2_with fail
  refine (HTN.out _).mono ?_
  rintro e w1 ⟨rfl, HX⟩
  have HE1 : Hid (Ext w w1) := HX
  clear HX HTN h4
  go_wp2
  refine bodyPost_ret (v := .tuple #[.string ⟨#[]⟩, .int .i64 0, .int .i64 3]) (by simp [results, Try.results33, go_sem]) rfl ⟨by rw [HR.out]; rfl, HE1.out⟩
set_option maxHeartbeats 2000000 in
theorem cnext_3 (s : ByteArray) (hs : s.size ≤ 100000) (n : Nat) (hn : num4 s 0 = n) (h : ¬ s.size < 4) (h2 : ¬ 4096 < n) (h3 : s.size < 8 + n) (w : World) :
    Calls Try.prog 33 #[.string s] w fun e w' => e = .returned (nxtV s) ∧ Ext w w' := by
  have HR : Hid (nxtV s = .tuple #[.string ⟨#[]⟩, .int .i64 ((0 : Nat) : Int), .int .i64 2]) := nxtV_of (nxt_3 h (by rw [hn]; exact h2) (by rw [hn]; exact h3))
  have c1 : ¬ (4096 : Int) < (n : Int) := by omega
  have c2 : (s.size : Int) < 8 + (n : Int) := by omega
  have wn : IntKind.i64.wrap (8 + (n : Int)) = 8 + (n : Int) := by rw [IntKind.wrap_i64]; omega
  have wm : IntKind.i64.wrap (n : Int) = (n : Int) := by rw [IntKind.wrap_i64]; omega
  have h4 : ¬ (s.size : Int) < 4 := by omega
  have HTN : Hid (∀ W, Calls Try.prog 41 #[.string s] W fun e w' => e = .returned (.int .u32 (n : Nat)) ∧ Ext W w') := fun W => by
    have := ptn_any s h W
    rw [hn] at this
    exact this
  clear hn
  go_enter Try.func33, Try.ntmps33
  go_wp2_with fail
  refine (HTN.out _).mono ?_
  rintro e w1 ⟨rfl, HX⟩
  have HE1 : Hid (Ext w w1) := HX
  clear HX HTN h4
  go_wp2
  refine bodyPost_ret (v := .tuple #[.string ⟨#[]⟩, .int .i64 0, .int .i64 2]) (by simp [results, Try.results33, go_sem]) rfl ⟨by rw [HR.out]; rfl, HE1.out⟩
set_option maxHeartbeats 2000000 in
theorem cnext_4 (s : ByteArray) (hs : s.size ≤ 100000) (n : Nat) (hn : num4 s 0 = n) (h : ¬ s.size < 4) (h2 : ¬ 4096 < n) (h3 : ¬ s.size < 8 + n) (h5 : ¬ frm (s.extract 8 (8 + n)) = s.extract 0 (8 + n)) (w : World) :
    Calls Try.prog 33 #[.string s] w fun e w' => e = .returned (nxtV s) ∧ Ext w w' := by
  have HR : Hid (nxtV s = .tuple #[.string ⟨#[]⟩, .int .i64 ((0 : Nat) : Int), .int .i64 4]) := nxtV_of (nxt_4 h (by rw [hn]; exact h2) (by rw [hn]; exact h3) (by rw [hn]; exact h5))
  have c1 : ¬ (4096 : Int) < (n : Int) := by omega
  have c2 : ¬ (s.size : Int) < 8 + (n : Int) := by omega
  have wn : IntKind.i64.wrap (8 + (n : Int)) = 8 + (n : Int) := by rw [IntKind.wrap_i64]; omega
  have wm : IntKind.i64.wrap (n : Int) = (n : Int) := by rw [IntKind.wrap_i64]; omega
  have t1 : (8 + (n : Int)).toNat = 8 + n := by omega
  have t2 : (0 : Int) ≤ 8 + (n : Int) := by omega
  have t3 : (8 : Int) ≤ 8 + (n : Int) := by omega
  have t4 : 8 + (n : Int) ≤ (s.size : Int) := by omega
  have hz : (s.extract 8 (8 + n)).size ≤ 4096 := by rw [ByteArray.size_extract]; omega
  have HC : Hid (∀ W, Calls Try.prog 28 #[.string (s.extract 8 (8 + n))] W fun e w' => e = .returned (.tuple #[.string (frm (s.extract 8 (8 + n))), .int .i64 0]) ∧ Ext W w') := fun W => cframe_good _ hz W
  have hd : ((frm (s.extract 8 (8 + n))).toList == (s.extract 0 (8 + n)).toList) = false := toList_ne h5
  generalize frm (s.extract 8 (8 + n)) = fr at *
  clear h5 hz
  have h4 : ¬ (s.size : Int) < 4 := by omega
  have HTN : Hid (∀ W, Calls Try.prog 41 #[.string s] W fun e w' => e = .returned (.int .u32 (n : Nat)) ∧ Ext W w') := fun W => by
    have := ptn_any s h W
    rw [hn] at this
    exact this
  clear hn
  go_enter Try.func33, Try.ntmps33
  go_wp2_with fail
  refine (HTN.out _).mono ?_
  rintro e w1 ⟨rfl, HX⟩
  have HE1 : Hid (Ext w w1) := HX
  clear HX HTN h4
  go_wp2_with fail
  refine (HC.out _).mono ?_
  rintro e w2 ⟨rfl, HX⟩
  have HE2 : Hid (Ext w w2) := HE1.out.trans HX
  clear HX
  go_wp2
  refine bodyPost_ret (v := .tuple #[.string ⟨#[]⟩, .int .i64 0, .int .i64 4]) (by simp [results, Try.results33, go_sem]) rfl ⟨by rw [HR.out]; rfl, HE2.out⟩
set_option maxHeartbeats 2000000 in
theorem cnext_5 (s : ByteArray) (hs : s.size ≤ 100000) (n : Nat) (hn : num4 s 0 = n) (h : ¬ s.size < 4) (h2 : ¬ 4096 < n) (h3 : ¬ s.size < 8 + n) (h5 : frm (s.extract 8 (8 + n)) = s.extract 0 (8 + n)) (w : World) :
    Calls Try.prog 33 #[.string s] w fun e w' => e = .returned (nxtV s) ∧ Ext w w' := by
  have HR : Hid (nxtV s = .tuple #[.string (s.extract 8 (8 + n)), .int .i64 ((8 + n : Nat) : Int), .int .i64 0]) := by
    have := nxt_5 h (by rw [hn]; exact h2) (by rw [hn]; exact h3) (by rw [hn]; exact h5)
    rw [hn] at this
    exact nxtV_of this
  have c1 : ¬ (4096 : Int) < (n : Int) := by omega
  have c2 : ¬ (s.size : Int) < 8 + (n : Int) := by omega
  have wn : IntKind.i64.wrap (8 + (n : Int)) = 8 + (n : Int) := by rw [IntKind.wrap_i64]; omega
  have wm : IntKind.i64.wrap (n : Int) = (n : Int) := by rw [IntKind.wrap_i64]; omega
  have t1 : (8 + (n : Int)).toNat = 8 + n := by omega
  have t2 : (0 : Int) ≤ 8 + (n : Int) := by omega
  have t3 : (8 : Int) ≤ 8 + (n : Int) := by omega
  have t4 : 8 + (n : Int) ≤ (s.size : Int) := by omega
  have hz : (s.extract 8 (8 + n)).size ≤ 4096 := by rw [ByteArray.size_extract]; omega
  have HC : Hid (∀ W, Calls Try.prog 28 #[.string (s.extract 8 (8 + n))] W fun e w' => e = .returned (.tuple #[.string (frm (s.extract 8 (8 + n))), .int .i64 0]) ∧ Ext W w') := fun W => cframe_good _ hz W
  have hfz : (s.extract 0 (8 + n)).size = 8 + n := by rw [ByteArray.size_extract]; omega
  have hfe : (s.extract 0 (8 + n)).extract 8 (8 + n) = s.extract 8 (8 + n) := by
    rw [ByteArray.extract_extract]
    congr 1
    omega
  rw [h5] at HC
  have hd : ((s.extract 0 (8 + n)).toList == (s.extract 0 (8 + n)).toList) = true := beq_self_eq_true _
  generalize hfr : s.extract 0 (8 + n) = fr at *
  have hf8 : (8 : Int) ≤ (fr.size : Int) := by omega
  clear h5 hz
  have h4 : ¬ (s.size : Int) < 4 := by omega
  have HTN : Hid (∀ W, Calls Try.prog 41 #[.string s] W fun e w' => e = .returned (.int .u32 (n : Nat)) ∧ Ext W w') := fun W => by
    have := ptn_any s h W
    rw [hn] at this
    exact this
  clear hn
  go_enter Try.func33, Try.ntmps33
  go_wp2_with fail
  refine (HTN.out _).mono ?_
  rintro e w1 ⟨rfl, HX⟩
  have HE1 : Hid (Ext w w1) := HX
  clear HX HTN h4
  go_wp2_with fail
  refine (HC.out _).mono ?_
  rintro e w2 ⟨rfl, HX⟩
  have HE2 : Hid (Ext w w2) := HE1.out.trans HX
  clear HX
  go_wp2
  refine bodyPost_ret (v := .tuple #[.string (s.extract 8 (8 + n)), .int .i64 (8 + (n : Int)), .int .i64 0]) (by simp [results, Try.results33, go_sem]) rfl ⟨by rw [HR.out]; push_cast; rfl, HE2.out⟩
theorem cnext_any (s : ByteArray) (hs : s.size ≤ 100000) (w : World) :
    Calls Try.prog 33 #[.string s] w fun e w' => e = .returned (nxtV s) ∧ Ext w w' := by
  by_cases h : s.size < 4
  · exact cnext_1 s h w
  · by_cases h2 : 4096 < num4 s 0
    · exact cnext_2 s hs _ rfl h h2 w
    · by_cases h3 : s.size < 8 + num4 s 0
      · exact cnext_3 s hs _ rfl h h2 h3 w
      · by_cases h5 : frm (s.extract 8 (8 + num4 s 0)) = s.extract 0 (8 + num4 s 0)
        · exact cnext_5 s hs _ rfl h h2 h3 h5 w
        · exact cnext_4 s hs _ rfl h h2 h3 h5 w
end Go.Proofs.Ytbkdjpialjbhnaa
