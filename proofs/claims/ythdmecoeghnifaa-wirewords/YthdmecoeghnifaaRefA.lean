/-
  sandglassref16.Text, one, called; nothing old is turned.
-/
import Derived.Test.YthdmecoeghnifaaSl
import Derived.Test.YthdmecoeghnifaaWMath
namespace Go.Proofs.Ythdmecoeghnifaa
open Go.RowKit
theorem conv4 (w : World) (T : Nat → Nat) (t : TypeId) (c : Nat) {x0 x1 x2 x3 : Int} (h0 : x0 = (T 0 : Int)) (h1 : x1 = (T 1 : Int)) (h2 : x2 = (T 2 : Int)) (h3 : x3 = (T 3 : Int)) :
    (convert 57 9 (.slice (some ⟨w.heap.size, 0, none⟩) 4 c)).run Try.prog (w.alloc (.cells #[.int .u8 x0, .int .u8 x1, .int .u8 x2, .int .u8 x3] t)) = .ok (.string (mkS T 4)) (w.alloc (.cells #[.int .u8 x0, .int .u8 x1, .int .u8 x2, .int .u8 x3] t)) := by
  subst h0 h1 h2 h3
  refine run_lst_string Try.prog 5 57 9 Try.underlying57 Try.underlying5 Try.underlying9 _ T 4 _ ?_ (by decide)
  refine .inr ⟨w.heap.size, 0, c, by rw [lst_len], by simp, by rw [lst_len]; decide, fun j x hj => ?_⟩
  obtain ⟨hk, rfl⟩ := lst_of hj
  rw [World.cell?_alloc_at _ _ _ _ rfl]
  have : j = 0 ∨ j = 1 ∨ j = 2 ∨ j = 3 := by omega
  rcases this with rfl | rfl | rfl | rfl <;> rfl
theorem conv1 (w : World) (T : Nat → Nat) (t : TypeId) (c : Nat) {x0 : Int} (h0 : x0 = (T 0 : Int)) :
    (convert 57 9 (.slice (some ⟨w.heap.size, 0, none⟩) 1 c)).run Try.prog (w.alloc (.cells #[.int .u8 x0] t)) = .ok (.string (mkS T 1)) (w.alloc (.cells #[.int .u8 x0] t)) := by
  subst h0
  refine run_lst_string Try.prog 5 57 9 Try.underlying57 Try.underlying5 Try.underlying9 _ T 1 _ ?_ (by decide)
  refine .inr ⟨w.heap.size, 0, c, by rw [lst_len], by simp, by rw [lst_len]; decide, fun j x hj => ?_⟩
  obtain ⟨hk, rfl⟩ := lst_of hj
  rw [World.cell?_alloc_at _ _ _ _ rfl]
  obtain rfl : j = 0 := by omega
  rfl
set_option maxHeartbeats 400000 in
theorem rtext_any (s : ByteArray) (hs : s.size ≤ 100000) (w : World) :
    Calls Try.prog 12 #[.string s] w fun e w' => e = .returned (.string (txt s)) ∧ Ext w w' := by
  have hc := conv4 w (fun i => s.size / 256 ^ (3 - i) % 256) 5 4 (x0 := (s.size : Int) / 16777216) (x1 := (s.size : Int) / 65536) (x2 := (s.size : Int) / 256 % 256) (x3 := (s.size : Int) % 256) (by show _ = ((s.size / 16777216 % 256 : Nat) : Int); omega) (by show _ = ((s.size / 65536 % 256 : Nat) : Int); omega) (by show _ = ((s.size / 256 % 256 : Nat) : Int); omega) (by show _ = ((s.size / 1 % 256 : Nat) : Int); omega)
  have hb : ¬ 9223372036854775807 < (mkS (fun i => s.size / 256 ^ (3 - i) % 256) 4).size + s.size := by rw [mkS_len]; omega
  have HT : Hid (mkS (fun i => s.size / 256 ^ (3 - i) % 256) 4 ++ s = txt s) := rfl
  generalize mkS (fun i => s.size / 256 ^ (3 - i) % 256) 4 = x at *
  go_enter Try.func12, Try.ntmps12
  go_wp2
  go_ret
  exact ⟨by rw [← HT.out]; rfl, (Ext.refl _).alloc _⟩
set_option maxHeartbeats 400000 in
theorem rone_any (n : Int) (w : World) :
    Calls Try.prog 35 #[.int .i64 n] w fun e w' => e = .returned (.string (oneB n)) ∧ Ext w w' := by
  have hc := conv1 w (fun _ => (n % 256).toNat) 5 1 (x0 := n % 256) (by show _ = (((n % 256).toNat : Nat) : Int); omega)
  go_enter Try.func35, Try.ntmps35
  go_wp2
  go_ret
  exact ⟨rfl, (Ext.refl _).alloc _⟩
end Go.Proofs.Ythdmecoeghnifaa
