/-
  WireOnly, called: true for every input; nothing old is turned.
-/
import Derived.Test.YthdmecoeghnifaaWLaws2
import Derived.Deep.DeepCutAuto
namespace Go.Proofs.Ythdmecoeghnifaa
open Go.RowKit
/-- What stays through WireOnly: the two things that came in. -/
def St (w : World) (b0 b1 : Nat) (c0 c1 c2 c3 d0 d1 d2 d3 d4 : Value) (wx : World) : Prop := T4 wx b0 c0 c1 c2 c3 ∧ T5 wx b1 d0 d1 d2 d3 d4 ∧ Ext w wx ∧ b0 < wx.heap.size ∧ b1 < wx.heap.size
theorem St.ext {w : World} {b0 b1 : Nat} {c0 c1 c2 c3 d0 d1 d2 d3 d4 : Value} {wx wy : World} (h : St w b0 b1 c0 c1 c2 c3 d0 d1 d2 d3 d4 wx) (hx : Ext wx wy) : St w b0 b1 c0 c1 c2 c3 d0 d1 d2 d3 d4 wy :=
  ⟨(keepT4 hx h.1).2, (keepT5 hx h.2.1).2, h.2.2.1.trans hx, Nat.lt_of_lt_of_le h.2.2.2.1 hx.size, Nat.lt_of_lt_of_le h.2.2.2.2 hx.size⟩
set_option maxHeartbeats 4000000 in
set_option maxRecDepth 10000 in
theorem wireOnly_walk (k e : Int) (nm bd : ByteArray) (k' f r v : Int) (x s : ByteArray) (cnm : ¬ (20000 : Int) < (nm.size : Int)) (cbd : ¬ (20000 : Int) < (bd.size : Int)) (cx : ¬ (20000 : Int) < (x.size : Int)) (cs : ¬ (20000 : Int) < (s.size : Int))
    (t1 t2 : ByteArray) (m1 m2 m3 m4 k3 e3 : Int) (nm3 bd3 : ByteArray) (k4 f4 r4 v4 : Int) (x4 : ByteArray)
    (H1 : Hid (∀ W, Calls Try.prog 18 #[.agg #[.int .i64 k, .int .i64 e, .string nm, .string bd]] W fun ex w' => ex = .returned (.tuple #[.string t1, .int .i64 m1]) ∧ Ext W w')) (H2 : Hid (m1 = 0 → ∀ W, Calls Try.prog 20 #[.string t1] W fun ex w' => ex = .returned (.tuple #[.agg #[.int .i64 k, .int .i64 e, .string nm, .string bd], .int .i64 0]) ∧ Ext W w'))
    (H3 : Hid (∀ W, Calls Try.prog 22 #[.agg #[.int .i64 k', .int .i64 f, .int .i64 r, .int .i64 v, .string x]] W fun ex w' => ex = .returned (.tuple #[.string t2, .int .i64 m2]) ∧ Ext W w')) (H4 : Hid (m2 = 0 → ∀ W, Calls Try.prog 24 #[.string t2] W fun ex w' => ex = .returned (.tuple #[.agg #[.int .i64 k', .int .i64 f, .int .i64 r, .int .i64 v, .string x], .int .i64 0]) ∧ Ext W w'))
    (H5 : Hid (∀ W, Calls Try.prog 20 #[.string s] W fun ex w' => ex = .returned (.tuple #[.agg #[.int .i64 k3, .int .i64 e3, .string nm3, .string bd3], .int .i64 m3]) ∧ Ext W w')) (H6 : Hid (m3 = 0 → ∀ W, Calls Try.prog 18 #[.agg #[.int .i64 k3, .int .i64 e3, .string nm3, .string bd3]] W fun ex w' => ex = .returned (.tuple #[.string s, .int .i64 0]) ∧ Ext W w'))
    (H7 : Hid (∀ W, Calls Try.prog 24 #[.string s] W fun ex w' => ex = .returned (.tuple #[.agg #[.int .i64 k4, .int .i64 f4, .int .i64 r4, .int .i64 v4, .string x4], .int .i64 m4]) ∧ Ext W w')) (H8 : Hid (m4 = 0 → ∀ W, Calls Try.prog 22 #[.agg #[.int .i64 k4, .int .i64 f4, .int .i64 r4, .int .i64 v4, .string x4]] W fun ex w' => ex = .returned (.tuple #[.string s, .int .i64 0]) ∧ Ext W w')) (w : World) :
    Calls Try.prog 8 #[.agg #[.int .i64 k, .int .i64 e, .string nm, .string bd], .agg #[.int .i64 k', .int .i64 f, .int .i64 r, .int .i64 v, .string x], .string s] w fun ex w' => ex = .returned (.bool true) ∧ Ext w w' := by
  have HS0 : Hid (St w w.heap.size (w.heap.size + 1) (.int .i64 k) (.int .i64 e) (.string nm) (.string bd) (.int .i64 k') (.int .i64 f) (.int .i64 r) (.int .i64 v) (.string x) ((w.alloc (.cells #[.int .i64 k, .int .i64 e, .string nm, .string bd] 36)).alloc (.cells #[.int .i64 k', .int .i64 f, .int .i64 r, .int .i64 v, .string x] 47))) := ⟨(keepT4 ((Ext.refl _).alloc _) (new4 w _ _ _ _ 36)).2, new5 (w.alloc (.cells #[.int .i64 k, .int .i64 e, .string nm, .string bd] 36)) _ _ _ _ _ 47 (by simp), ((Ext.refl w).alloc _).alloc _, by simp; omega, by simp⟩
  go_enter Try.func8, Try.ntmps8
  go_wp2_with fail
  refine (H1.out _).mono ?_
  rintro ex w1 ⟨rfl, HX⟩
  have HS1 : Hid (St w w.heap.size (w.heap.size + 1) (.int .i64 k) (.int .i64 e) (.string nm) (.string bd) (.int .i64 k') (.int .i64 f) (.int .i64 r) (.int .i64 v) (.string x) w1) := HS0.out.ext HX
  clear HX HS0
  obtain ⟨b0, Hb0⟩ : ∃ b0, Hid (w.heap.size = b0) := ⟨_, rfl⟩
  obtain ⟨b1, Hb1⟩ : ∃ b1, Hid (w.heap.size + 1 = b1) := ⟨_, rfl⟩
  rw [Hb1.out] at HS1 ⊢
  rw [Hb0.out] at HS1 ⊢
  go_upto_if 51 with fail
  go_cut [] (fun wx => St w b0 b1 (.int .i64 k) (.int .i64 e) (.string nm) (.string bd) (.int .i64 k') (.int .i64 f) (.int .i64 r) (.int .i64 v) (.string x) wx)
  case first =>
    by_cases hm : m1 = 0
    · have HC2 : Hid _ := H2.out hm
      subst hm
      go_wp2_with fail
      refine (HC2.out _).mono ?_
      rintro ex w2 ⟨rfl, HX⟩
      have HS2 : Hid (St w b0 b1 (.int .i64 k) (.int .i64 e) (.string nm) (.string bd) (.int .i64 k') (.int .i64 f) (.int .i64 r) (.int .i64 v) (.string x) w2) := HS1.out.ext HX
      clear HX HS1
      obtain ⟨⟨p0, p1, p2, p3⟩, _, _, hb, _⟩ := HS2.out
      go_wp2_with fail
      go_meet
      case rel => exact HS2.out.ext ((Ext.refl _).alloc _)
    · go_wp2_with fail
      go_meet
      case rel => exact HS1.out
  case rest =>
    have HSa : Hid (St w b0 b1 (.int .i64 k) (.int .i64 e) (.string nm) (.string bd) (.int .i64 k') (.int .i64 f) (.int .i64 r) (.int .i64 v) (.string x) wc) := hcut
    clear hcut HS1
    obtain ⟨_, ⟨⟨p0, p1, p2, p3⟩, p4⟩, _, _, hb⟩ := HSa.out
    go_wp2_with fail
    refine (H3.out _).mono ?_
    rintro ex w3 ⟨rfl, HX⟩
    have HSw3 : Hid (St w b0 b1 (.int .i64 k) (.int .i64 e) (.string nm) (.string bd) (.int .i64 k') (.int .i64 f) (.int .i64 r) (.int .i64 v) (.string x) w3) := HSa.out.ext HX
    clear HX HSa
    go_upto_if 70 with fail
    go_cut [] (fun wx => St w b0 b1 (.int .i64 k) (.int .i64 e) (.string nm) (.string bd) (.int .i64 k') (.int .i64 f) (.int .i64 r) (.int .i64 v) (.string x) wx)
    case first =>
      by_cases hm : m2 = 0
      · have HC2 : Hid _ := H4.out hm
        subst hm
        go_wp2_with fail
        refine (HC2.out _).mono ?_
        rintro ex w4 ⟨rfl, HX⟩
        have HSn : Hid (St w b0 b1 (.int .i64 k) (.int .i64 e) (.string nm) (.string bd) (.int .i64 k') (.int .i64 f) (.int .i64 r) (.int .i64 v) (.string x) w4) := HSw3.out.ext HX
        clear HX HSw3
        obtain ⟨_, ⟨⟨p0, p1, p2, p3⟩, p4⟩, _, _, hb⟩ := HSn.out
        go_wp2_with fail
        go_meet
        case rel => exact HSn.out.ext ((Ext.refl _).alloc _)
      · go_wp2_with fail
        go_meet
        case rel => exact HSw3.out
    case rest =>
      have HSb : Hid (St w b0 b1 (.int .i64 k) (.int .i64 e) (.string nm) (.string bd) (.int .i64 k') (.int .i64 f) (.int .i64 r) (.int .i64 v) (.string x) _) := hcut
      clear hcut HSw3
      go_wp2_with fail
      refine (H5.out _).mono ?_
      rintro ex w5 ⟨rfl, HX⟩
      have HSw5 : Hid (St w b0 b1 (.int .i64 k) (.int .i64 e) (.string nm) (.string bd) (.int .i64 k') (.int .i64 f) (.int .i64 r) (.int .i64 v) (.string x) w5) := HSb.out.ext HX
      clear HX HSb
      go_upto_if 89 with fail
      go_cut [] (fun wx => St w b0 b1 (.int .i64 k) (.int .i64 e) (.string nm) (.string bd) (.int .i64 k') (.int .i64 f) (.int .i64 r) (.int .i64 v) (.string x) wx)
      case first =>
        by_cases hm : m3 = 0
        · have HC2 : Hid _ := H6.out hm
          subst hm
          go_wp2_with fail
          refine (HC2.out _).mono ?_
          rintro ex w6 ⟨rfl, HX⟩
          have HSn : Hid (St w b0 b1 (.int .i64 k) (.int .i64 e) (.string nm) (.string bd) (.int .i64 k') (.int .i64 f) (.int .i64 r) (.int .i64 v) (.string x) w6) := (HSw5.out.ext ((Ext.refl _).alloc _)).ext HX
          clear HX HSw5
          go_wp2_with fail
          go_meet
          case rel => exact HSn.out
        · go_wp2_with fail
          go_meet
          case rel => exact HSw5.out.ext ((Ext.refl _).alloc _)
      case rest =>
        have HSc : Hid (St w b0 b1 (.int .i64 k) (.int .i64 e) (.string nm) (.string bd) (.int .i64 k') (.int .i64 f) (.int .i64 r) (.int .i64 v) (.string x) _) := hcut
        clear hcut HSw5
        go_wp2_with fail
        refine (H7.out _).mono ?_
        rintro ex w7 ⟨rfl, HX⟩
        have HSw7 : Hid (St w b0 b1 (.int .i64 k) (.int .i64 e) (.string nm) (.string bd) (.int .i64 k') (.int .i64 f) (.int .i64 r) (.int .i64 v) (.string x) w7) := HSc.out.ext HX
        clear HX HSc
        go_upto_if 104 with fail
        go_cut [] (fun wx => St w b0 b1 (.int .i64 k) (.int .i64 e) (.string nm) (.string bd) (.int .i64 k') (.int .i64 f) (.int .i64 r) (.int .i64 v) (.string x) wx)
        case first =>
          by_cases hm : m4 = 0
          · have HC2 : Hid _ := H8.out hm
            subst hm
            go_wp2_with fail
            refine (HC2.out _).mono ?_
            rintro ex w8 ⟨rfl, HX⟩
            have HSn : Hid (St w b0 b1 (.int .i64 k) (.int .i64 e) (.string nm) (.string bd) (.int .i64 k') (.int .i64 f) (.int .i64 r) (.int .i64 v) (.string x) w8) := (HSw7.out.ext ((Ext.refl _).alloc _)).ext HX
            clear HX HSw7
            go_wp2_with fail
            go_meet
            case rel => exact HSn.out
          · go_wp2_with fail
            go_meet
            case rel => exact HSw7.out.ext ((Ext.refl _).alloc _)
        case rest =>
          have HSd : Hid (St w b0 b1 (.int .i64 k) (.int .i64 e) (.string nm) (.string bd) (.int .i64 k') (.int .i64 f) (.int .i64 r) (.int .i64 v) (.string x) _) := hcut
          clear hcut HSw7
          go_wp2_with fail
          refine (awake_any _).mono ?_
          rintro ex w9 ⟨rfl, HX⟩
          have HE9 : Hid (Ext w w9) := HSd.out.2.2.1.trans HX
          clear HX
          go_wp2
          go_ret
          exact ⟨rfl, HE9.out⟩
theorem wrdC_at {s : ByteArray} {k e : Int} {nm bd : ByteArray} (hs : s.size ≤ 100000) (h : rdC s = some (k, e, nm, bd)) (W : World) : Calls Try.prog 20 #[.string s] W fun ex w' => ex = .returned (.tuple #[.agg #[.int .i64 k, .int .i64 e, .string nm, .string bd], .int .i64 0]) ∧ Ext W w' := by
  have := wrdC_any s hs W
  unfold rrdCV at this
  rw [h] at this
  exact this
theorem wrdW_at {s : ByteArray} {k f r v : Int} {x : ByteArray} (hs : s.size ≤ 100000) (h : rdW s = some (k, f, r, v, x)) (W : World) : Calls Try.prog 24 #[.string s] W fun ex w' => ex = .returned (.tuple #[.agg #[.int .i64 k, .int .i64 f, .int .i64 r, .int .i64 v, .string x], .int .i64 0]) ∧ Ext W w' := by
  have := wrdW_any s hs W
  unfold rrdWV at this
  rw [h] at this
  exact this
theorem only_h0 (k e : Int) (nm bd : ByteArray) : ∃ (t : ByteArray) (m : Int), Hid (∀ W, Calls Try.prog 18 #[.agg #[.int .i64 k, .int .i64 e, .string nm, .string bd]] W fun ex w' => ex = .returned (.tuple #[.string t, .int .i64 m]) ∧ Ext W w') ∧ Hid (m = 0 → ∀ W, Calls Try.prog 20 #[.string t] W fun ex w' => ex = .returned (.tuple #[.agg #[.int .i64 k, .int .i64 e, .string nm, .string bd], .int .i64 0]) ∧ Ext W w') := by
  cases hok : cmdOk k e nm bd with
  | true => exact ⟨_, _, fun W => wcmd_good k e nm bd hok W, fun _ W => wrdC_at (cmdB_size hok) (cmd_back hok) W⟩
  | false => exact ⟨_, _, fun W => wcmd_bad k e nm bd hok W, fun q => absurd q (by decide)⟩
theorem only_h1 (k' f r v : Int) (x : ByteArray) : ∃ (t : ByteArray) (m : Int), Hid (∀ W, Calls Try.prog 22 #[.agg #[.int .i64 k', .int .i64 f, .int .i64 r, .int .i64 v, .string x]] W fun ex w' => ex = .returned (.tuple #[.string t, .int .i64 m]) ∧ Ext W w') ∧ Hid (m = 0 → ∀ W, Calls Try.prog 24 #[.string t] W fun ex w' => ex = .returned (.tuple #[.agg #[.int .i64 k', .int .i64 f, .int .i64 r, .int .i64 v, .string x], .int .i64 0]) ∧ Ext W w') := by
  cases hok : wrdOk k' f r v x with
  | true => exact ⟨_, _, fun W => wwrd_good k' f r v x hok W, fun _ W => wrdW_at (wrdB_size hok) (wrd_back hok) W⟩
  | false => exact ⟨_, _, fun W => wwrd_bad k' f r v x hok W, fun q => absurd q (by decide)⟩
theorem only_h2 (s : ByteArray) (Hs : Hid (s.size ≤ 100000)) : ∃ (k3 e3 : Int) (nm3 bd3 : ByteArray) (m : Int), Hid (∀ W, Calls Try.prog 20 #[.string s] W fun ex w' => ex = .returned (.tuple #[.agg #[.int .i64 k3, .int .i64 e3, .string nm3, .string bd3], .int .i64 m]) ∧ Ext W w') ∧ Hid (m = 0 → ∀ W, Calls Try.prog 18 #[.agg #[.int .i64 k3, .int .i64 e3, .string nm3, .string bd3]] W fun ex w' => ex = .returned (.tuple #[.string s, .int .i64 0]) ∧ Ext W w') := by
  have h0 := fun W => wrdC_any s Hs.out W
  unfold rrdCV at h0
  cases hr : rdC s with
  | none => (rw [hr] at h0; exact ⟨_, _, _, _, _, h0, fun q => absurd q (by decide)⟩)
  | some y =>
    obtain ⟨k3, e3, nm3, bd3⟩ := y
    rw [hr] at h0
    refine ⟨_, _, _, _, _, h0, fun _ W => ?_⟩
    have := wcmd_good k3 e3 nm3 bd3 (cmd_only hr).1 W
    rw [(cmd_only hr).2] at this
    exact this
theorem only_h3 (s : ByteArray) (Hs : Hid (s.size ≤ 100000)) : ∃ (k4 f4 r4 v4 : Int) (x4 : ByteArray) (m : Int), Hid (∀ W, Calls Try.prog 24 #[.string s] W fun ex w' => ex = .returned (.tuple #[.agg #[.int .i64 k4, .int .i64 f4, .int .i64 r4, .int .i64 v4, .string x4], .int .i64 m]) ∧ Ext W w') ∧ Hid (m = 0 → ∀ W, Calls Try.prog 22 #[.agg #[.int .i64 k4, .int .i64 f4, .int .i64 r4, .int .i64 v4, .string x4]] W fun ex w' => ex = .returned (.tuple #[.string s, .int .i64 0]) ∧ Ext W w') := by
  have h0 := fun W => wrdW_any s Hs.out W
  unfold rrdWV at h0
  cases hr : rdW s with
  | none => (rw [hr] at h0; exact ⟨_, _, _, _, _, _, h0, fun q => absurd q (by decide)⟩)
  | some y =>
    obtain ⟨k4, f4, r4, v4, x4⟩ := y
    rw [hr] at h0
    refine ⟨_, _, _, _, _, _, h0, fun _ W => ?_⟩
    have := wwrd_good k4 f4 r4 v4 x4 (wrd_only hr).1 W
    rw [(wrd_only hr).2] at this
    exact this
set_option maxHeartbeats 4000000 in
theorem wireOnly_in (k e : Int) (nm bd : ByteArray) (k' f r v : Int) (x s : ByteArray) (cnm : ¬ (20000 : Int) < (nm.size : Int)) (cbd : ¬ (20000 : Int) < (bd.size : Int)) (cx : ¬ (20000 : Int) < (x.size : Int)) (cs : ¬ (20000 : Int) < (s.size : Int)) (w : World) :
    Calls Try.prog 8 #[.agg #[.int .i64 k, .int .i64 e, .string nm, .string bd], .agg #[.int .i64 k', .int .i64 f, .int .i64 r, .int .i64 v, .string x], .string s] w fun ex w' => ex = .returned (.bool true) ∧ Ext w w' := by
  have Hs : Hid (s.size ≤ 100000) := by show _ ≤ _; omega
  obtain ⟨t1, m1, H1, H2⟩ := only_h0 k e nm bd
  obtain ⟨t2, m2, H3, H4⟩ := only_h1 k' f r v x
  obtain ⟨k3, e3, nm3, bd3, m3, H5, H6⟩ := only_h2 s Hs
  obtain ⟨k4, f4, r4, v4, x4, m4, H7, H8⟩ := only_h3 s Hs
  exact wireOnly_walk k e nm bd k' f r v x s cnm cbd cx cs t1 t2 m1 m2 m3 m4 k3 e3 nm3 bd3 k4 f4 r4 v4 x4 H1 H2 H3 H4 H5 H6 H7 H8 w
set_option maxHeartbeats 4000000 in
theorem wireOnly_any (k e : Int) (nm bd : ByteArray) (k' f r v : Int) (x s : ByteArray) (hnm : nm.size ≤ maxLen) (hbd : bd.size ≤ maxLen) (hx : x.size ≤ maxLen) (hs : s.size ≤ maxLen) (w : World) :
    Calls Try.prog 8 #[.agg #[.int .i64 k, .int .i64 e, .string nm, .string bd], .agg #[.int .i64 k', .int .i64 f, .int .i64 r, .int .i64 v, .string x], .string s] w fun ex w' => ex = .returned (.bool true) ∧ Ext w w' := by
  have HE0 : Hid (Ext w ((w.alloc (.cells #[.int .i64 k, .int .i64 e, .string nm, .string bd] 36)).alloc (.cells #[.int .i64 k', .int .i64 f, .int .i64 r, .int .i64 v, .string x] 47))) := ((Ext.refl w).alloc _).alloc _
  unfold maxLen at hnm hbd hx hs
  by_cases bnm : 20000 < nm.size
  · have cnm : (20000 : Int) < (nm.size : Int) := by omega
    go_enter Try.func8, Try.ntmps8
    go_wp2_with fail
    refine (awake_any _).mono ?_
    rintro ex w1 ⟨rfl, HX⟩
    have HEw1 : Hid (Ext w w1) := HE0.out.trans HX
    clear HX
    go_wp2
    go_ret
    exact ⟨rfl, HEw1.out⟩
  · have cnm : ¬ (20000 : Int) < (nm.size : Int) := by omega
    by_cases bbd : 20000 < bd.size
    · have cbd : (20000 : Int) < (bd.size : Int) := by omega
      go_enter Try.func8, Try.ntmps8
      go_wp2_with fail
      refine (awake_any _).mono ?_
      rintro ex w1 ⟨rfl, HX⟩
      have HEw1 : Hid (Ext w w1) := HE0.out.trans HX
      clear HX
      go_wp2
      go_ret
      exact ⟨rfl, HEw1.out⟩
    · have cbd : ¬ (20000 : Int) < (bd.size : Int) := by omega
      by_cases bx : 20000 < x.size
      · have cx : (20000 : Int) < (x.size : Int) := by omega
        go_enter Try.func8, Try.ntmps8
        go_wp2_with fail
        refine (awake_any _).mono ?_
        rintro ex w1 ⟨rfl, HX⟩
        have HEw1 : Hid (Ext w w1) := HE0.out.trans HX
        clear HX
        go_wp2
        go_ret
        exact ⟨rfl, HEw1.out⟩
      · have cx : ¬ (20000 : Int) < (x.size : Int) := by omega
        by_cases bs : 20000 < s.size
        · have cs : (20000 : Int) < (s.size : Int) := by omega
          go_enter Try.func8, Try.ntmps8
          go_wp2_with fail
          refine (awake_any _).mono ?_
          rintro ex w1 ⟨rfl, HX⟩
          have HEw1 : Hid (Ext w w1) := HE0.out.trans HX
          clear HX
          go_wp2
          go_ret
          exact ⟨rfl, HEw1.out⟩
        · have cs : ¬ (20000 : Int) < (s.size : Int) := by omega
          exact wireOnly_in k e nm bd k' f r v x s cnm cbd cx cs w
end Go.Proofs.Ythdmecoeghnifaa
