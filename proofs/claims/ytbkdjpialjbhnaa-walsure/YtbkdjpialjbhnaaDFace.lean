/-
  (*disk.Disk).Do, called: what is done to a disk is what the document's definition says.
-/
import Derived.Test.YtbkdjpialjbhnaaDt
namespace Go.Proofs.Ytbkdjpialjbhnaa
open Go.RowKit
/-- What Do leaves. -/
def DoP (w : World) (v : Value) (F : Nat → Prop) (T : ByteArray) (y : Nat) (w' : World) : Prop := ∃ F', DAt w' v T y F' ∧ Sub F' F w ∧ Chg F w w'
theorem DoP.same {w w' : World} {v : Value} {F : Nat → Prop} {T : ByteArray} {y : Nat} (h : DAt w v T y F) (hx : Ext w w') : DoP w v F T y w' := ⟨F, h.ext hx, Sub.refl _ _, Chg.of_ext F hx⟩
theorem DAt.sync {w : World} {b : Nat} {T : ByteArray} {y : Nat} {F : Nat → Prop} (h : DAt w (.pointer (some ⟨b, 0, none⟩)) T y F) (z : Nat) : DAt (w.setCell ⟨b, 1, none⟩ (.int .i64 (z : Int))) (.pointer (some ⟨b, 0, none⟩)) T z F := by
  obtain ⟨b', s, e, hb, h0, h1, h2, h3, h4, h5, rfl⟩ := h
  injection e with e
  injection e with e
  injection e with e _ _
  subst e
  exact ⟨b, s, rfl, by simpa using hb, by simp [World.cell?_setCell_other, h0], by simp [World.cell?_setCell_same, h1], by simpa using h2, by simpa using h3, own_st h4 h5, h5, rfl⟩
theorem DAt.own {w : World} {b : Nat} {T : ByteArray} {y : Nat} {F : Nat → Prop} (h : DAt w (.pointer (some ⟨b, 0, none⟩)) T y F) : F b := by
  obtain ⟨b', s, e, hb, h0, h1, h2, h3, h4, h5, rfl⟩ := h
  injection e with e
  injection e with e
  injection e with e _ _
  exact .inl e
theorem DAt.head {w : World} {v : Value} {T : ByteArray} {y : Nat} {F : Nat → Prop} (h : DAt w v T y F) : ∃ b p c, v = .pointer (some ⟨b, 0, none⟩) ∧ b < w.heap.size ∧ w.cell? ⟨b, 0, none⟩ = some (.slice p T.size c) ∧ (∃ u, w.cell? ⟨b, 1, none⟩ = some (.int .i64 u)) ∧ w.frozen? ⟨b, 1, none⟩ = false := by
  obtain ⟨b, s, rfl, hb, h0, h1, h2, h3, h4, h5, rfl⟩ := h
  obtain ⟨p, c, rfl, _⟩ := own_form h4
  exact ⟨b, p, c, rfl, hb, h0, ⟨_, h1⟩, h3⟩
set_option maxHeartbeats 1000000 in
theorem dtear_any {v : Value} {T : ByteArray} {y : Nat} {F : Nat → Prop} (K : Nat) (hk : dOk T y) (hK : K < 18446744073709551616) (w : World) (h : DAt w v T y F) :
    Calls Try.prog 31 #[v, .int .u64 (K : Int)] w fun e w' => e = .returned (.tuple #[]) ∧ DAt w' v (dcrash T K y) y F ∧ Chg F w w' := by
  obtain ⟨b, s, rfl, hb, h0, h1, h2, h3, h4, h5, rfl⟩ := h
  rcases h4.2 with ⟨rfl, hn⟩ | ⟨g, cap, cur, rfl, hgb, hg, hcap, hx⟩
  · have hy : y = 0 := by have := hk.1; omega
    refine (dtear_nil b y K hy w hb h0 h1 h2).mono ?_
    rintro e w' ⟨rfl, rfl⟩
    have hT : (dcrash T K y).size = 0 := by rw [dcrash_size, hn, Nat.zero_sub]; exact hy
    refine ⟨rfl, ⟨b, .slice none 0 0, rfl, by simpa using hb, by simp [World.cell?_setCell_same, h0], by simp [World.cell?_setCell_other, h1], by simpa using h2, by simpa using h3, ?_, h5, rfl⟩, Chg.st (.inl (.inl rfl)) (Chg.refl _ _)⟩
    rw [hT]
    exact World.ownsRow_nil _ _ _ _
  · have hne : g ≠ b := fun q => h5 (by rw [q]; rfl)
    refine (dtear_row K hk hK w ⟨h0, h1, h2, h3, h4, hne, hb, Chg.refl _ _⟩ hcap).mono ?_
    rintro e w' ⟨rfl, s', t0, t1, t2, t3, t4, t5, t6, t7⟩
    exact ⟨rfl, ⟨b, s', rfl, t5, t0, t2, t3, t4, t6, by rw [t1]; exact h5, by rw [t1]; rfl⟩, t7⟩
set_option maxHeartbeats 2000000 in
theorem ddo_write {v : Value} {T : ByteArray} {y : Nat} {F : Nat → Prop} (k : Int) (x : ByteArray) (K : Nat) (hk : dOk T y) (hk1 : k = 1) (w : World) (h : DAt w v T y F) :
    Calls Try.prog 22 #[v, .agg #[.int .i64 k, .string x, .int .u64 (K : Int)]] w fun e w' => e = .returned (.int .i64 (dDo T y k x K).2.2) ∧ DoP w v F (dDo T y k x K).1 (dDo T y k x K).2.1 w' := by
  obtain ⟨b, p, c, rfl, hb, h0, _, _⟩ := h.head
  have HX : Hid (Ext w (w.alloc (.cells #[.int .i64 k, .string x, .int .u64 (K : Int)] 57))) := (Ext.refl w).alloc _
  have HD := h.ext HX.out
  by_cases hz : 65536 < T.size + x.size
  · have HR : Hid (dDo T y k x K = (T, y, 2)) := by show dDo T y k x K = _; unfold dDo; rw [if_pos hk1, if_pos hz]
    have HC := dwrite_over x hk hz _ HD
    have HP : Hid (DoP w (.pointer (some ⟨b, 0, none⟩)) F T y (w.alloc (.cells #[.int .i64 k, .string x, .int .u64 (K : Int)] 57))) := DoP.same h HX.out
    rw [HR.out]
    subst hk1
    go_enter Try.func22, Try.ntmps22
    go_wp2_with fail
    refine HC.mono ?_
    rintro e w1 ⟨rfl, rfl⟩
    go_wp2
    go_ret
    exact ⟨rfl, HP.out⟩
  · have HR : Hid (dDo T y k x K = (T ++ x, y, 0)) := by show dDo T y k x K = _; unfold dDo; rw [if_pos hk1, if_neg hz]
    have HC := dwrite_good x hk hz _ HD
    have HF : Hid (∀ w' F', DAt w' (.pointer (some ⟨b, 0, none⟩)) (T ++ x) y F' → Sub F' F (w.alloc (.cells #[.int .i64 k, .string x, .int .u64 (K : Int)] 57)) → Chg F (w.alloc (.cells #[.int .i64 k, .string x, .int .u64 (K : Int)] 57)) w' → DoP w (.pointer (some ⟨b, 0, none⟩)) F (T ++ x) y w') := fun w' F' q1 q2 q3 =>
      ⟨F', q1, (Sub.refl F w).trans q2 HX.out.size, (Chg.of_ext F HX.out).trans q3 (Sub.refl _ _)⟩
    rw [HR.out]
    subst hk1
    go_enter Try.func22, Try.ntmps22
    go_wp2_with fail
    refine HC.mono ?_
    rintro e w1 ⟨F', rfl, q1, q2, q3⟩
    have HP : Hid (DoP w (.pointer (some ⟨b, 0, none⟩)) F (T ++ x) y w1) := HF.out w1 F' q1 q2 q3
    clear HF q1 q2 q3
    go_wp2
    go_ret
    exact ⟨rfl, HP.out⟩
set_option maxHeartbeats 2000000 in
theorem ddo_sync {v : Value} {T : ByteArray} {y : Nat} {F : Nat → Prop} (k : Int) (x : ByteArray) (K : Nat) (hk2 : k = 2) (w : World) (h : DAt w v T y F) :
    Calls Try.prog 22 #[v, .agg #[.int .i64 k, .string x, .int .u64 (K : Int)]] w fun e w' => e = .returned (.int .i64 (dDo T y k x K).2.2) ∧ DoP w v F (dDo T y k x K).1 (dDo T y k x K).2.1 w' := by
  obtain ⟨b, p, c, rfl, hb, h0, ⟨u, h1⟩, h3⟩ := h.head
  have HP : Hid (DoP w (.pointer (some ⟨b, 0, none⟩)) F T T.size ((w.setCell ⟨b, 1, none⟩ (.int .i64 (T.size : Int))).alloc (.cells #[.int .i64 k, .string x, .int .u64 (K : Int)] 57))) :=
    ⟨F, (h.sync T.size).ext ((Ext.refl _).alloc _), Sub.refl _ _, (Chg.st (.inl h.own) (Chg.refl F w)).alloc _⟩
  have HR : Hid (dDo T y k x K = (T, T.size, 0)) := by show dDo T y k x K = _; unfold dDo; rw [if_neg (by omega), if_pos hk2]
  rw [HR.out]
  subst hk2
  clear h
  go_enter Try.func22, Try.ntmps22
  go_wp2
  go_ret
  exact ⟨rfl, HP.out⟩
set_option maxHeartbeats 2000000 in
theorem ddo_crash {v : Value} {T : ByteArray} {y : Nat} {F : Nat → Prop} (k : Int) (x : ByteArray) (K : Nat) (hk : dOk T y) (hK : K < 18446744073709551616) (hk3 : k = 3) (w : World) (h : DAt w v T y F) :
    Calls Try.prog 22 #[v, .agg #[.int .i64 k, .string x, .int .u64 (K : Int)]] w fun e w' => e = .returned (.int .i64 (dDo T y k x K).2.2) ∧ DoP w v F (dDo T y k x K).1 (dDo T y k x K).2.1 w' := by
  obtain ⟨b, p, c, rfl, hb, h0, ⟨u, h1⟩, h3⟩ := h.head
  have HX : Hid (Ext w (w.alloc (.cells #[.int .i64 k, .string x, .int .u64 (K : Int)] 57))) := (Ext.refl w).alloc _
  have HC := dtear_any K hk hK _ (h.ext HX.out)
  have HR : Hid (dDo T y k x K = (dcrash T K y, (dcrash T K y).size, 0)) := by show dDo T y k x K = _; unfold dDo; rw [if_neg (by omega), if_neg (by omega), if_pos hk3]
  rw [HR.out]
  subst hk3
  generalize dcrash T K y = R at *
  have HF : Hid (∀ w', DAt w' (.pointer (some ⟨b, 0, none⟩)) R y F → Chg F (w.alloc (.cells #[.int .i64 3, .string x, .int .u64 (K : Int)] 57)) w' → DoP w (.pointer (some ⟨b, 0, none⟩)) F R R.size (w'.setCell ⟨b, 1, none⟩ (.int .i64 (R.size : Int)))) := fun w' q1 q3 =>
    ⟨F, q1.sync R.size, Sub.refl _ _, Chg.st (.inl h.own) ((Chg.of_ext F HX.out).trans q3 (Sub.refl _ _))⟩
  clear h HX h0 h1 h3
  go_enter Try.func22, Try.ntmps22
  go_wp2_with fail
  refine HC.mono ?_
  rintro e w1 ⟨rfl, q1, q3⟩
  have HP := HF.out w1 q1 q3
  obtain ⟨b', p', c', e, hb', h0, ⟨u', h1⟩, h3⟩ := q1.head
  injection e with e
  injection e with e
  injection e with e _ _
  subst e
  have HP : Hid (DoP w (.pointer (some ⟨b, 0, none⟩)) F R R.size (w1.setCell ⟨b, 1, none⟩ (.int .i64 (R.size : Int)))) := HP
  clear HF q1 q3
  go_wp2
  go_ret
  exact ⟨rfl, HP.out⟩
set_option maxHeartbeats 2000000 in
theorem ddo_else {v : Value} {T : ByteArray} {y : Nat} {F : Nat → Prop} (k : Int) (x : ByteArray) (K : Nat) (k1 : ¬ k = 1) (k2 : ¬ k = 2) (k3 : ¬ k = 3) (w : World) (h : DAt w v T y F) :
    Calls Try.prog 22 #[v, .agg #[.int .i64 k, .string x, .int .u64 (K : Int)]] w fun e w' => e = .returned (.int .i64 (dDo T y k x K).2.2) ∧ DoP w v F (dDo T y k x K).1 (dDo T y k x K).2.1 w' := by
  obtain ⟨b, p, c, rfl, hb, h0, ⟨u, h1⟩, h3⟩ := h.head
  have HP : Hid (DoP w (.pointer (some ⟨b, 0, none⟩)) F T y (w.alloc (.cells #[.int .i64 k, .string x, .int .u64 (K : Int)] 57))) := DoP.same h ((Ext.refl w).alloc _)
  have HR : Hid (dDo T y k x K = (T, y, 1)) := by show dDo T y k x K = _; unfold dDo; rw [if_neg k1, if_neg k2, if_neg k3]
  rw [HR.out]
  clear h
  go_enter Try.func22, Try.ntmps22
  go_wp2
  go_ret
  exact ⟨rfl, HP.out⟩
theorem ddo_any {v : Value} {T : ByteArray} {y : Nat} {F : Nat → Prop} (k : Int) (x : ByteArray) (K : Nat) (hk : dOk T y) (hK : K < 18446744073709551616) (w : World) (h : DAt w v T y F) :
    Calls Try.prog 22 #[v, .agg #[.int .i64 k, .string x, .int .u64 (K : Int)]] w fun e w' => ∃ F', e = .returned (.int .i64 (dDo T y k x K).2.2) ∧ DAt w' v (dDo T y k x K).1 (dDo T y k x K).2.1 F' ∧ Sub F' F w ∧ Chg F w w' := by
  have key : Calls Try.prog 22 #[v, .agg #[.int .i64 k, .string x, .int .u64 (K : Int)]] w fun e w' => e = .returned (.int .i64 (dDo T y k x K).2.2) ∧ DoP w v F (dDo T y k x K).1 (dDo T y k x K).2.1 w' := by
    by_cases k1 : k = 1
    · exact ddo_write k x K hk k1 w h
    · by_cases k2 : k = 2
      · exact ddo_sync k x K k2 w h
      · by_cases k3 : k = 3
        · exact ddo_crash k x K hk hK k3 w h
        · exact ddo_else k x K k1 k2 k3 w h
  refine key.mono ?_
  rintro e w' ⟨rfl, F', q1, q2, q3⟩
  exact ⟨F', rfl, q1, q2, q3⟩
end Go.Proofs.Ytbkdjpialjbhnaa
