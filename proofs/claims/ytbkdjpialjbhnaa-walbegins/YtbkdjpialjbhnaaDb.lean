/-
  sandglassref18.Do, called; nothing old is turned.
-/
import Derived.Test.YtbkdjpialjbhnaaDa
namespace Go.Proofs.Ytbkdjpialjbhnaa
open Go.RowKit
/-- What Do hands out. -/
def doV (T : ByteArray) (y : Nat) (k : Int) (x : ByteArray) (K : Nat) : Value := .tuple #[.agg #[.string (dDo T y k x K).1, .int .i64 ((dDo T y k x K).2.1 : Int)], .int .i64 (dDo T y k x K).2.2]
set_option maxHeartbeats 2000000 in
theorem rdo_over (T : ByteArray) (y : Nat) (k : Int) (x : ByteArray) (K : Nat) (h : dOk T y) (_hK : K < 18446744073709551616) (hk : k = 1) (hz : 65536 < T.size + x.size) (w : World) :
    Calls Try.prog 23 #[.agg #[.string T, .int .i64 (y : Int)], .agg #[.int .i64 k, .string x, .int .u64 (K : Int)]] w fun e w' => e = .returned (doV T y k x K) ∧ Ext w w' := by
  obtain ⟨h1, h2⟩ := h
  have HR : Hid (doV T y k x K = .tuple #[.agg #[.string T, .int .i64 (y : Int)], .int .i64 2]) := by show doV T y k x K = _; unfold doV dDo; rw [if_pos hk, if_pos hz]
  subst hk
  have w1 : IntKind.i64.wrap (65536 - (T.size : Int)) = 65536 - (T.size : Int) := by rw [IntKind.wrap_i64]; omega
  have c1 : 65536 - (T.size : Int) < (x.size : Int) := by omega
  go_enter Try.func23, Try.ntmps23
  go_wp2
  refine bodyPost_ret (v := .tuple #[.agg #[.string T, .int .i64 (y : Int)], .int .i64 2]) (by simp [results, Try.results23, go_sem]) rfl ⟨by rw [HR.out], (((Ext.refl _).alloc _).alloc _).alloc _⟩
set_option maxHeartbeats 2000000 in
theorem rdo_write (T : ByteArray) (y : Nat) (k : Int) (x : ByteArray) (K : Nat) (h : dOk T y) (_hK : K < 18446744073709551616) (hk : k = 1) (hz : ¬ 65536 < T.size + x.size) (w : World) :
    Calls Try.prog 23 #[.agg #[.string T, .int .i64 (y : Int)], .agg #[.int .i64 k, .string x, .int .u64 (K : Int)]] w fun e w' => e = .returned (doV T y k x K) ∧ Ext w w' := by
  obtain ⟨h1, h2⟩ := h
  have HR : Hid (doV T y k x K = .tuple #[.agg #[.string (T ++ x), .int .i64 (y : Int)], .int .i64 0]) := by show doV T y k x K = _; unfold doV dDo; rw [if_pos hk, if_neg hz]
  subst hk
  have w1 : IntKind.i64.wrap (65536 - (T.size : Int)) = 65536 - (T.size : Int) := by rw [IntKind.wrap_i64]; omega
  have c1 : ¬ 65536 - (T.size : Int) < (x.size : Int) := by omega
  have c2 : ¬ 9223372036854775807 < T.size + x.size := by omega
  go_enter Try.func23, Try.ntmps23
  go_wp2
  refine bodyPost_ret (v := .tuple #[.agg #[.string (T ++ x), .int .i64 (y : Int)], .int .i64 0]) (by simp [results, Try.results23, go_sem]) rfl ⟨by rw [HR.out], (((Ext.refl _).alloc _).alloc _).alloc _⟩
set_option maxHeartbeats 2000000 in
theorem rdo_sync (T : ByteArray) (y : Nat) (k : Int) (x : ByteArray) (K : Nat) (h : dOk T y) (_hK : K < 18446744073709551616) (hk : k = 2) (w : World) :
    Calls Try.prog 23 #[.agg #[.string T, .int .i64 (y : Int)], .agg #[.int .i64 k, .string x, .int .u64 (K : Int)]] w fun e w' => e = .returned (doV T y k x K) ∧ Ext w w' := by
  obtain ⟨h1, h2⟩ := h
  have HR : Hid (doV T y k x K = .tuple #[.agg #[.string T, .int .i64 (T.size : Int)], .int .i64 0]) := by show doV T y k x K = _; unfold doV dDo; rw [if_neg (by omega), if_pos hk]
  subst hk
  go_enter Try.func23, Try.ntmps23
  go_wp2
  refine bodyPost_ret (v := .tuple #[.agg #[.string T, .int .i64 (T.size : Int)], .int .i64 0]) (by simp [results, Try.results23, go_sem]) rfl ⟨by rw [HR.out], (((Ext.refl _).alloc _).alloc _).alloc _⟩
set_option maxHeartbeats 2000000 in
theorem rdo_else (T : ByteArray) (y : Nat) (k : Int) (x : ByteArray) (K : Nat) (h : dOk T y) (_hK : K < 18446744073709551616) (k1 : ¬ k = 1) (k2 : ¬ k = 2) (k3 : ¬ k = 3) (w : World) :
    Calls Try.prog 23 #[.agg #[.string T, .int .i64 (y : Int)], .agg #[.int .i64 k, .string x, .int .u64 (K : Int)]] w fun e w' => e = .returned (doV T y k x K) ∧ Ext w w' := by
  obtain ⟨h1, h2⟩ := h
  have HR : Hid (doV T y k x K = .tuple #[.agg #[.string T, .int .i64 (y : Int)], .int .i64 1]) := by show doV T y k x K = _; unfold doV dDo; rw [if_neg k1, if_neg k2, if_neg k3]
  go_enter Try.func23, Try.ntmps23
  go_wp2
  refine bodyPost_ret (v := .tuple #[.agg #[.string T, .int .i64 (y : Int)], .int .i64 1]) (by simp [results, Try.results23, go_sem]) rfl ⟨by rw [HR.out], (((Ext.refl _).alloc _).alloc _).alloc _⟩
set_option maxHeartbeats 2000000 in
theorem rdo_crash (T : ByteArray) (y : Nat) (k : Int) (x : ByteArray) (K : Nat) (h : dOk T y) (hK : K < 18446744073709551616) (hk : k = 3) (w : World) :
    Calls Try.prog 23 #[.agg #[.string T, .int .i64 (y : Int)], .agg #[.int .i64 k, .string x, .int .u64 (K : Int)]] w fun e w' => e = .returned (doV T y k x K) ∧ Ext w w' := by
  obtain ⟨h1, h2⟩ := h
  have HR : Hid (doV T y k x K = .tuple #[.agg #[.string (dcrash T K y), .int .i64 ((dcrash T K y).size : Int)], .int .i64 0]) := by show doV T y k x K = _; unfold doV dDo; rw [if_neg (by omega), if_neg (by omega), if_pos hk]
  subst hk
  have HC : Hid (∀ W, Calls Try.prog 32 #[.agg #[.string T, .int .i64 (y : Int)], .int .u64 (K : Int)] W fun e w' => e = .returned (.agg #[.string (dcrash T K y), .int .i64 ((dcrash T K y).size : Int)]) ∧ Ext W w') := fun W => rcrash_any T y K ⟨h1, h2⟩ hK W
  generalize (dcrash T K y).size = z at *
  generalize dcrash T K y = R at *
  obtain ⟨W0, hW0⟩ : ∃ W0, ((w.alloc (.cells #[.string T, .int .i64 (y : Int)] 28)).alloc (.cells #[.int .i64 3, .string x, .int .u64 (K : Int)] 57)).alloc (.cells #[.string ⟨#[]⟩, .int .i64 0] 28) = W0 := ⟨_, rfl⟩
  have HC2 : Hid (C2 W0 (w.heap.size + 2)) := by
    rw [← hW0]
    exact ⟨by rw [World.cell?_alloc_at _ _ _ _ (by simp)]; rfl, by rw [World.cell?_alloc_at _ _ _ _ (by simp)]; rfl, World.frozen?_alloc_at _ _ _ _ (by simp), World.frozen?_alloc_at _ _ _ _ (by simp)⟩
  have HW : Hid (Ext w W0) := by rw [← hW0]; exact (((Ext.refl w).alloc _).alloc _).alloc _
  have Hz : Hid (w.heap.size + 2 < W0.heap.size) := by show _ < _; rw [← hW0]; simp
  have HWe : Hid (((w.alloc (.cells #[.string T, .int .i64 (y : Int)] 28)).alloc (.cells #[.int .i64 3, .string x, .int .u64 (K : Int)] 57)).alloc (.cells #[.string ⟨#[]⟩, .int .i64 0] 28) = W0) := hW0
  clear hW0
  go_enter Try.func23, Try.ntmps23
  go_wp2_with fail
  refine (HC.out _).mono ?_
  rintro e w1 ⟨rfl, HX⟩
  rw [HWe.out] at HX
  have HE1 : Hid (Ext w w1) := HW.out.trans HX
  have hb : w.heap.size + 2 < w1.heap.size := Nat.lt_of_lt_of_le Hz.out HX.size
  have z0 := later HX HC2.out.1
  have z1 := later HX HC2.out.2.1
  have z2 := (HX.cells.2 _ 0 Hz.out).trans HC2.out.2.2.1
  have z3 := (HX.cells.2 _ 1 Hz.out).trans HC2.out.2.2.2
  clear HX HC2 HWe HW Hz
  go_wp2
  refine bodyPost_ret (v := .tuple #[.agg #[.string R, .int .i64 (z : Int)], .int .i64 0]) (by simp [results, Try.results23, go_sem, z0, z1]) rfl ⟨by rw [HR.out], Ext.st (by omega) (Ext.st (by omega) HE1.out)⟩
theorem rdo_any (T : ByteArray) (y : Nat) (k : Int) (x : ByteArray) (K : Nat) (h : dOk T y) (hK : K < 18446744073709551616) (w : World) :
    Calls Try.prog 23 #[.agg #[.string T, .int .i64 (y : Int)], .agg #[.int .i64 k, .string x, .int .u64 (K : Int)]] w fun e w' => e = .returned (doV T y k x K) ∧ Ext w w' := by
  by_cases k1 : k = 1
  · by_cases hz : 65536 < T.size + x.size
    · exact rdo_over T y k x K h hK k1 hz w
    · exact rdo_write T y k x K h hK k1 hz w
  · by_cases k2 : k = 2
    · exact rdo_sync T y k x K h hK k2 w
    · by_cases k3 : k = 3
      · exact rdo_crash T y k x K h hK k3 w
      · exact rdo_else T y k x K h hK k1 k2 k3 w
end Go.Proofs.Ytbkdjpialjbhnaa
