/-
  Reseed, Asked, and what a generator that is none tells, called.
-/
import Derived.Test.YtpfeakdpckmcgaaDoorDw
namespace Go.Proofs.YtpfeakdpckmcgaaDoor
set_option maxRecDepth 10000
open Go.RowKit
set_option maxHeartbeats 1000000 in
theorem kreseed_any (K V s : ByteArray) (A : Int) (b : Nat) (hK : K.size = 32) (hV : V.size = 32) (hs : s.size ≤ 1000) (w : World) (hG : SGl w) (h : KB w b K V A) :
    Calls Tryd.prog 20 #[.pointer (some ⟨b, 0, none⟩), .string s] w fun e w' => e = .returned (.tuple #[]) ∧ KB w' b (upK K V s) (upV K V s) A ∧ Chg (fun k => k = b) w w' := by
  have HU : Hid (Calls Tryd.prog 23 #[.pointer (some ⟨b, 0, none⟩), .string s] w fun e w' => e = .returned (.tuple #[]) ∧ KB w' b (upK K V s) (upV K V s) A ∧ Chg (fun k => k = b) w w') := update_any K V s A b hK hV hs w hG h
  generalize upK K V s = UK at *
  generalize upV K V s = UV at *
  clear h hG
  go_enter Tryd.func20, Tryd.ntmps20
  go_wp2_with fail
  refine HU.out.mono ?_
  rintro e w1 ⟨rfl, hB1, hC1⟩
  have HB : Hid (KB w1 b UK UV A ∧ Chg (fun k => k = b) w w1) := ⟨hB1, hC1⟩
  clear hB1 hC1
  go_wp2
  refine bodyPost_end (v := .tuple #[]) (by simp [results, Tryd.results20, go_sem]) rfl ?_
  exact ⟨rfl, HB.out⟩
set_option maxHeartbeats 1000000 in
theorem kasked_any (K V : ByteArray) (A : Int) (b : Nat) (w : World) (h : KB w b K V A) :
    Calls Tryd.prog 21 #[.pointer (some ⟨b, 0, none⟩)] w fun e w' => e = .returned (.int .i64 A) ∧ Ext w w' := by
  have hc := h.2.1
  clear h
  go_enter Tryd.func21, Tryd.ntmps21
  go_wp2
  go_ret
  exact ⟨rfl, Ext.refl w⟩
set_option maxHeartbeats 1000000 in
theorem dbytes_nil (n : Int) (w : World) : Calls Tryd.prog 13 #[.pointer none, .int .i64 n] w fun e w' => e = .returned (.tuple #[.string ⟨#[]⟩, .int .i64 1]) ∧ Ext w w' := by
  go_enter Tryd.func13, Tryd.ntmps13
  go_wp2
  refine bodyPost_ret (v := .tuple #[.string ⟨#[]⟩, .int .i64 1]) (by simp [results, Tryd.results13, go_sem]) rfl ⟨rfl, Ext.refl w⟩
set_option maxHeartbeats 1000000 in
theorem dscalar_nil (w : World) : Calls Tryd.prog 15 #[.pointer none] w fun e w' => e = .returned (.agg #[.int .u64 0, .int .u64 0, .int .u64 0, .int .u64 0]) ∧ Ext w w' := by
  go_enter Tryd.func15, Tryd.ntmps15
  go_wp2
  refine bodyPost_ret (v := .agg #[.int .u64 0, .int .u64 0, .int .u64 0, .int .u64 0]) (by simp [results, Tryd.results15, go_sem]) rfl ⟨rfl, ?_⟩
  exact (Ext.refl w).alloc _
set_option maxHeartbeats 1000000 in
theorem dpoly_nil (n : Int) (w : World) : Calls Tryd.prog 18 #[.pointer none, .int .i64 n] w fun e w' => e = .returned (.slice none 0 0) ∧ Ext w w' := by
  go_enter Tryd.func18, Tryd.ntmps18
  go_wp2
  go_ret
  exact ⟨rfl, Ext.refl w⟩
set_option maxHeartbeats 1000000 in
theorem dreseed_nil (s : ByteArray) (w : World) : Calls Tryd.prog 20 #[.pointer none, .string s] w fun e w' => e = .returned (.tuple #[]) ∧ Ext w w' := by
  go_enter Tryd.func20, Tryd.ntmps20
  go_wp2
  refine bodyPost_end (v := .tuple #[]) (by simp [results, Tryd.results20, go_sem]) rfl ?_
  exact ⟨rfl, Ext.refl w⟩
set_option maxHeartbeats 1000000 in
theorem dasked_nil (w : World) : Calls Tryd.prog 21 #[.pointer none] w fun e w' => e = .returned (.int .i64 0) ∧ Ext w w' := by
  go_enter Tryd.func21, Tryd.ntmps21
  go_wp2
  go_ret
  exact ⟨rfl, Ext.refl w⟩
end Go.Proofs.YtpfeakdpckmcgaaDoor
