/-
  scalar.modulo, called: the number of eight words modulo q; nothing old is turned.
-/
import Derived.Test.YtnaiccfdbapdpaaDoorSb
namespace Go.Proofs.YtnaiccfdbapdpaaDoor
open Go.RowKit
/-- The state of modulo's run. -/
def PM (w wr : World) (n : Nat) (x0 x1 x2 x3 y0 y1 y2 y3 r0 r1 r2 r3 r4 r5 r6 r7 : Int) : Prop :=
  Row wr n x0 x1 x2 x3 ∧ Row wr (n + 1) y0 y1 y2 y3 ∧ RowF wr (n + 1 + 1) 0 0 0 0 ∧ Eight wr (n + 1 + 1 + 1) r0 r1 r2 r3 r4 r5 r6 r7 ∧ Ext w wr
theorem PM.ext {w wr wy : World} {n : Nat} {x0 x1 x2 x3 y0 y1 y2 y3 r0 r1 r2 r3 r4 r5 r6 r7 : Int} (h : PM w wr n x0 x1 x2 x3 y0 y1 y2 y3 r0 r1 r2 r3 r4 r5 r6 r7) (hx : Ext wr wy) : PM w wy n x0 x1 x2 x3 y0 y1 y2 y3 r0 r1 r2 r3 r4 r5 r6 r7 :=
  ⟨h.1.ext hx, h.2.1.ext hx, h.2.2.1.ext hx, h.2.2.2.1.ext hx, h.2.2.2.2.trans hx⟩
theorem PM.set {w wr : World} {n : Nat} {x0 x1 x2 x3 y0 y1 y2 y3 r0 r1 r2 r3 r4 r5 r6 r7 : Int} (h : PM w wr n x0 x1 x2 x3 y0 y1 y2 y3 r0 r1 r2 r3 r4 r5 r6 r7) (hn : w.heap.size = n) (i : Nat) (v : Int) :
    PM w (wr.setCell ⟨n + 1 + 1 + 1, i, none⟩ (.int .u64 v)) n x0 x1 x2 x3 y0 y1 y2 y3 (if i = 0 then v else r0) (if i = 1 then v else r1) (if i = 2 then v else r2) (if i = 3 then v else r3) (if i = 4 then v else r4) (if i = 5 then v else r5) (if i = 6 then v else r6) (if i = 7 then v else r7) :=
  ⟨h.1.other (by omega), h.2.1.other (by omega), h.2.2.1.other (by omega), h.2.2.2.1.set i v, Ext.st (by omega) h.2.2.2.2⟩
theorem PM.new (w : World) (x0 x1 x2 x3 y0 y1 y2 y3 : Int) : PM w ((((w.alloc (.cells #[.int .u64 x0, .int .u64 x1, .int .u64 x2, .int .u64 x3] 26)).alloc (.cells #[.int .u64 y0, .int .u64 y1, .int .u64 y2, .int .u64 y3] 26)).alloc (.cells #[.int .u64 0, .int .u64 0, .int .u64 0, .int .u64 0] 26)).alloc (.cells #[.int .u64 0, .int .u64 0, .int .u64 0, .int .u64 0, .int .u64 0, .int .u64 0, .int .u64 0, .int .u64 0] 72)) w.heap.size x0 x1 x2 x3 y0 y1 y2 y3 0 0 0 0 0 0 0 0 := by
  have h2 := Row.two w x0 x1 x2 x3 y0 y1 y2 y3
  have h3 := RowF.new ((w.alloc (.cells #[.int .u64 x0, .int .u64 x1, .int .u64 x2, .int .u64 x3] 26)).alloc (.cells #[.int .u64 y0, .int .u64 y1, .int .u64 y2, .int .u64 y3] 26)) 0 0 0 0
  rw [show ((w.alloc (.cells #[.int .u64 x0, .int .u64 x1, .int .u64 x2, .int .u64 x3] 26)).alloc (.cells #[.int .u64 y0, .int .u64 y1, .int .u64 y2, .int .u64 y3] 26)).heap.size = w.heap.size + 1 + 1 from by simp] at h3
  have h4 := Eight.new (((w.alloc (.cells #[.int .u64 x0, .int .u64 x1, .int .u64 x2, .int .u64 x3] 26)).alloc (.cells #[.int .u64 y0, .int .u64 y1, .int .u64 y2, .int .u64 y3] 26)).alloc (.cells #[.int .u64 0, .int .u64 0, .int .u64 0, .int .u64 0] 26)) 72
  rw [show (((w.alloc (.cells #[.int .u64 x0, .int .u64 x1, .int .u64 x2, .int .u64 x3] 26)).alloc (.cells #[.int .u64 y0, .int .u64 y1, .int .u64 y2, .int .u64 y3] 26)).alloc (.cells #[.int .u64 0, .int .u64 0, .int .u64 0, .int .u64 0] 26)).heap.size = w.heap.size + 1 + 1 + 1 from by simp] at h4
  exact ⟨(h2.1.ext ((Ext.refl _).alloc _)).ext ((Ext.refl _).alloc _), (h2.2.ext ((Ext.refl _).alloc _)).ext ((Ext.refl _).alloc _), h3.ext ((Ext.refl _).alloc _), h4, ((((Ext.refl _).alloc _).alloc _).alloc _).alloc _⟩
theorem PM.drew {w wr : World} {n : Nat} {x0 x1 x2 x3 y0 y1 y2 y3 r0 r1 r2 r3 r4 r5 r6 r7 : Int} (h : PM w wr n x0 x1 x2 x3 y0 y1 y2 y3 r0 r1 r2 r3 r4 r5 r6 r7) : PM w wr.drew n x0 x1 x2 x3 y0 y1 y2 y3 r0 r1 r2 r3 r4 r5 r6 r7 := h.ext (Ext.drew (Ext.refl _))
theorem PM.copy1 {w wr : World} {n : Nat} {x0 x1 x2 x3 y0 y1 y2 y3 r0 r1 r2 r3 r4 r5 r6 r7 : Int} (h : PM w wr n x0 x1 x2 x3 y0 y1 y2 y3 r0 r1 r2 r3 r4 r5 r6 r7) :
    (Builtin.copy_ #[73, 73] 3 #[.slice (some ⟨n + 1 + 1 + 1, 0, none⟩) 8 8, .slice (some ⟨n, 0, none⟩) 4 4]).run Tryd.prog wr = .ok (goInt 4) ((((wr.setCell ⟨n + 1 + 1 + 1, 0, none⟩ (.int .u64 x0)).setCell ⟨n + 1 + 1 + 1, 1, none⟩ (.int .u64 x1)).setCell ⟨n + 1 + 1 + 1, 2, none⟩ (.int .u64 x2)).setCell ⟨n + 1 + 1 + 1, 3, none⟩ (.int .u64 x3)) := by
  obtain ⟨⟨_, a0, a1, a2, a3⟩, _, _, ⟨l, ⟨c0, c1, c2, c3, c4, c5, c6, c7⟩, f0, f1, f2, f3, f4, f5, f6, f7⟩, _⟩ := h
  exact copy4 Tryd.prog wr 73 73 3 24 (by kernel_rfl) (by kernel_rfl) (n + 1 + 1 + 1) 0 8 n (by decide) _ _ _ _ a0 a1 a2 a3 (by rw [c0]; rfl) (by rw [c1]; rfl) (by rw [c2]; rfl) (by rw [c3]; rfl) f0 f1 f2 f3 rfl rfl rfl rfl
theorem PM.copy2 {w wr : World} {n : Nat} {x0 x1 x2 x3 y0 y1 y2 y3 r0 r1 r2 r3 r4 r5 r6 r7 : Int} (h : PM w wr n x0 x1 x2 x3 y0 y1 y2 y3 r0 r1 r2 r3 r4 r5 r6 r7) :
    (Builtin.copy_ #[73, 73] 3 #[.slice (some ⟨n + 1 + 1 + 1, 4, none⟩) 4 4, .slice (some ⟨n + 1, 0, none⟩) 4 4]).run Tryd.prog wr = .ok (goInt 4) ((((wr.setCell ⟨n + 1 + 1 + 1, 4, none⟩ (.int .u64 y0)).setCell ⟨n + 1 + 1 + 1, 5, none⟩ (.int .u64 y1)).setCell ⟨n + 1 + 1 + 1, 6, none⟩ (.int .u64 y2)).setCell ⟨n + 1 + 1 + 1, 7, none⟩ (.int .u64 y3)) := by
  obtain ⟨_, ⟨_, a0, a1, a2, a3⟩, _, ⟨l, ⟨c0, c1, c2, c3, c4, c5, c6, c7⟩, f0, f1, f2, f3, f4, f5, f6, f7⟩, _⟩ := h
  exact copy4 Tryd.prog wr 73 73 3 24 (by kernel_rfl) (by kernel_rfl) (n + 1 + 1 + 1) 4 4 (n + 1) (by decide) _ _ _ _ a0 a1 a2 a3 (by rw [c4]; rfl) (by rw [c5]; rfl) (by rw [c6]; rfl) (by rw [c7]; rfl) f4 f5 f6 f7 rfl rfl rfl rfl
theorem zero22 : ∀ w, (zeroValue 24).run Tryd.prog w = .ok (.int .u64 0) w := by
  intro w
  have h : (Tryd.prog.info? 24).map (fun i => i.zero) = some (some (.int .u64 0)) := by kernel_rfl
  cases hq : Tryd.prog.info? 24 with
  | none => simp [hq] at h
  | some i =>
    have hi : i.zero = some (.int .u64 0) := by simpa [hq] using h
    simp [zeroValue, typeInfo, hq, hi]
theorem PM.clear0 {w wr : World} {n : Nat} {x0 x1 x2 x3 y0 y1 y2 y3 r0 r1 r2 r3 r4 r5 r6 r7 : Int} (h : PM w wr n x0 x1 x2 x3 y0 y1 y2 y3 r0 r1 r2 r3 r4 r5 r6 r7) :
    (Builtin.clear_ #[73] 0 #[.slice (some ⟨n + 1 + 1 + 1, 4, none⟩) 4 4]).run Tryd.prog wr = .ok (.tuple #[]) ((((wr.setCell ⟨n + 1 + 1 + 1, 4, none⟩ (.int .u64 0)).setCell ⟨n + 1 + 1 + 1, 5, none⟩ (.int .u64 0)).setCell ⟨n + 1 + 1 + 1, 6, none⟩ (.int .u64 0)).setCell ⟨n + 1 + 1 + 1, 7, none⟩ (.int .u64 0)) := by
  obtain ⟨_, _, _, ⟨l, ⟨c0, c1, c2, c3, c4, c5, c6, c7⟩, f0, f1, f2, f3, f4, f5, f6, f7⟩, _⟩ := h
  refine Lib.run_clear_slice wr 73 24 0 (.int .u64 0) (by kernel_rfl) zero22 rfl rfl (n + 1 + 1 + 1) 4 4 4 (by decide) ?_ ?_
  · intro j hj
    have : j = 0 ∨ j = 1 ∨ j = 2 ∨ j = 3 := by omega
    rcases this with rfl | rfl | rfl | rfl <;> simp [c4, c5, c6, c7]
  · intro j hj
    have : j = 0 ∨ j = 1 ∨ j = 2 ∨ j = 3 := by omega
    rcases this with rfl | rfl | rfl | rfl <;> simp [f4, f5, f6, f7]
theorem PM.clear1 {w wr : World} {n : Nat} {x0 x1 x2 x3 y0 y1 y2 y3 r0 r1 r2 r3 r4 r5 r6 r7 : Int} (h : PM w wr n x0 x1 x2 x3 y0 y1 y2 y3 r0 r1 r2 r3 r4 r5 r6 r7) :
    (Builtin.clear_ #[73] 0 #[.slice (some ⟨n + 1 + 1 + 1, 5, none⟩) 3 3]).run Tryd.prog wr = .ok (.tuple #[]) (((wr.setCell ⟨n + 1 + 1 + 1, 5, none⟩ (.int .u64 0)).setCell ⟨n + 1 + 1 + 1, 6, none⟩ (.int .u64 0)).setCell ⟨n + 1 + 1 + 1, 7, none⟩ (.int .u64 0)) := by
  obtain ⟨_, _, _, ⟨l, ⟨c0, c1, c2, c3, c4, c5, c6, c7⟩, f0, f1, f2, f3, f4, f5, f6, f7⟩, _⟩ := h
  refine Lib.run_clear_slice wr 73 24 0 (.int .u64 0) (by kernel_rfl) zero22 rfl rfl (n + 1 + 1 + 1) 5 3 3 (by decide) ?_ ?_
  · intro j hj
    have : j = 0 ∨ j = 1 ∨ j = 2 := by omega
    rcases this with rfl | rfl | rfl <;> simp [c5, c6, c7]
  · intro j hj
    have : j = 0 ∨ j = 1 ∨ j = 2 := by omega
    rcases this with rfl | rfl | rfl <;> simp [f5, f6, f7]
theorem PM.clear2 {w wr : World} {n : Nat} {x0 x1 x2 x3 y0 y1 y2 y3 r0 r1 r2 r3 r4 r5 r6 r7 : Int} (h : PM w wr n x0 x1 x2 x3 y0 y1 y2 y3 r0 r1 r2 r3 r4 r5 r6 r7) :
    (Builtin.clear_ #[73] 0 #[.slice (some ⟨n + 1 + 1 + 1, 6, none⟩) 2 2]).run Tryd.prog wr = .ok (.tuple #[]) ((wr.setCell ⟨n + 1 + 1 + 1, 6, none⟩ (.int .u64 0)).setCell ⟨n + 1 + 1 + 1, 7, none⟩ (.int .u64 0)) := by
  obtain ⟨_, _, _, ⟨l, ⟨c0, c1, c2, c3, c4, c5, c6, c7⟩, f0, f1, f2, f3, f4, f5, f6, f7⟩, _⟩ := h
  refine Lib.run_clear_slice wr 73 24 0 (.int .u64 0) (by kernel_rfl) zero22 rfl rfl (n + 1 + 1 + 1) 6 2 2 (by decide) ?_ ?_
  · intro j hj
    have : j = 0 ∨ j = 1 := by omega
    rcases this with rfl | rfl <;> simp [c6, c7]
  · intro j hj
    have : j = 0 ∨ j = 1 := by omega
    rcases this with rfl | rfl <;> simp [f6, f7]
theorem PM.clear3 {w wr : World} {n : Nat} {x0 x1 x2 x3 y0 y1 y2 y3 r0 r1 r2 r3 r4 r5 r6 r7 : Int} (h : PM w wr n x0 x1 x2 x3 y0 y1 y2 y3 r0 r1 r2 r3 r4 r5 r6 r7) :
    (Builtin.clear_ #[73] 0 #[.slice (some ⟨n + 1 + 1 + 1, 7, none⟩) 1 1]).run Tryd.prog wr = .ok (.tuple #[]) (wr.setCell ⟨n + 1 + 1 + 1, 7, none⟩ (.int .u64 0)) := by
  obtain ⟨_, _, _, ⟨l, ⟨c0, c1, c2, c3, c4, c5, c6, c7⟩, f0, f1, f2, f3, f4, f5, f6, f7⟩, _⟩ := h
  refine Lib.run_clear_slice wr 73 24 0 (.int .u64 0) (by kernel_rfl) zero22 rfl rfl (n + 1 + 1 + 1) 7 1 1 (by decide) ?_ ?_
  · intro j hj
    have : j = 0 := by omega
    rcases this with rfl <;> simp [c7]
  · intro j hj
    have : j = 0 := by omega
    rcases this with rfl <;> simp [f7]
end Go.Proofs.YtnaiccfdbapdpaaDoor
