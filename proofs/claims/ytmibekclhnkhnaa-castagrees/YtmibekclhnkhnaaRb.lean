/-
  A part of the definition, boxed, while it takes a message; sandglassref20.New, called.
-/
import Derived.Test.YtmibekclhnkhnaaAp
import Derived.Test.YtmibekclhnkhnaaCc
namespace Go.Proofs.Ytmibekclhnkhnaa
open Go.RowKit
/-- A part of the definition, cell by cell. -/
def cr (N T F : Nat) (u : Value) (rd dn : Bool) (B : ByteArray) (j : Nat) : Value :=
  if j = 0 then .int .i64 (N : Int) else if j = 1 then .int .i64 (T : Int) else if j = 2 then .int .i64 (F : Int) else if j = 3 then u else if j = 4 then .bool rd else if j = 5 then .bool dn else .string B
def mg (m : Msg) (j : Nat) : Value := if j = 0 then .int .i64 m.kd else if j = 1 then .int .i64 m.fr else .string m.bd
theorem seven {j : Nat} (h : j < 7) : j = 0 ∨ j = 1 ∨ j = 2 ∨ j = 3 ∨ j = 4 ∨ j = 5 ∨ j = 6 := by omega
theorem cr_new (w : World) (N T F : Nat) (u : Value) (rd dn : Bool) (B : ByteArray) (t : TypeId) : Blk (w.alloc (.cells #[.int .i64 (N : Int), .int .i64 (T : Int), .int .i64 (F : Int), u, .bool rd, .bool dn, .string B] t)) w.heap.size 7 (cr N T F u rd dn B) :=
  Blk.new w _ _ fun j hj => by rcases seven hj with rfl | rfl | rfl | rfl | rfl | rfl | rfl <;> rfl
/-- While a message is taken: the part's box, the message's, the result's; the row of messages, and what is said. -/
structure RS (w : World) (N T F : Nat) (m : Msg) (u : Value) (L : List Msg) (rd dn : Bool) (B : ByteArray) (q : Value) (O : List Msg) (wx : World) : Prop where
  ext : Ext w wx
  hc : Blk wx w.heap.size 7 (cr N T F u rd dn B)
  hm : Blk wx (w.heap.size + 1) 3 (mg m)
  hr : ∃ g, Blk wx (w.heap.size + 1 + 1) 7 g
  hu : wx.ownsRow 0 38 3 u L.length (mcs L)
  hub : ∀ b, u.ownBlock = some b → b < w.heap.size ∨ w.heap.size + 3 ≤ b
  hq : wx.ownsRow (w.heap.size + 3) 38 3 q O.length (mcs O)
  huq : ∀ b, u.ownBlock = some b → q.ownBlock ≠ some b
section
variable {w wx wy : World} {N T F : Nat} {m : Msg} {u u2 q q2 : Value} {L L2 O O2 : List Msg} {rd dn rd2 dn2 : Bool} {B B2 : ByteArray}
theorem RS.further (h : RS w N T F m u L rd dn B q O wx) (hx : Ext wx wy) : RS w N T F m u L rd dn B q O wy := by
  obtain ⟨g, hg⟩ := h.hr
  exact ⟨h.ext.trans hx, h.hc.ext hx, h.hm.ext hx, ⟨g, hg.ext hx⟩, own_ext h.hu hx, h.hub, own_ext h.hq hx, h.huq⟩
/-- A cell of the part is set. -/
theorem RS.st (h : RS w N T F m u L rd dn B q O wx) {i : Nat} (hi : i < 7) (v : Value) (hc : ∀ j, j < 7 → (if j = i then v else cr N T F u rd dn B j) = cr N T F u2 rd2 dn2 B2 j) (hu : wx.ownsRow 0 38 3 u2 L2.length (mcs L2)) (hub : ∀ b, u2.ownBlock = some b → b < w.heap.size ∨ w.heap.size + 3 ≤ b) (huq : ∀ b, u2.ownBlock = some b → q.ownBlock ≠ some b) :
    RS w N T F m u2 L2 rd2 dn2 B2 q O (wx.setCell ⟨w.heap.size, i, none⟩ v) := by
  obtain ⟨g, hg⟩ := h.hr
  exact ⟨Ext.st (Nat.le_refl _) h.ext, (h.hc.put hi v).congr hc, h.hm.st (by omega), ⟨g, hg.st (by omega)⟩, own_setCell hu (fun z => by have := hub _ z; omega), hub, own_setCell h.hq (fun z => by have := (h.hq.lt _ z).1; omega), huq⟩
theorem RS.ready (h : RS w N T F m u L rd dn B q O wx) : RS w N T F m u L true dn B q O (wx.setCell ⟨w.heap.size, 4, none⟩ (.bool true)) :=
  h.st (by decide) _ (fun j hj => by rcases seven hj with rfl | rfl | rfl | rfl | rfl | rfl | rfl <;> rfl) h.hu h.hub h.huq
theorem RS.done (h : RS w N T F m u L rd dn B q O wx) : RS w N T F m u L rd true B q O (wx.setCell ⟨w.heap.size, 5, none⟩ (.bool true)) :=
  h.st (by decide) _ (fun j hj => by rcases seven hj with rfl | rfl | rfl | rfl | rfl | rfl | rfl <;> rfl) h.hu h.hub h.huq
theorem RS.body (h : RS w N T F m u L rd dn B q O wx) (C : ByteArray) : RS w N T F m u L rd dn C q O (wx.setCell ⟨w.heap.size, 6, none⟩ (.string C)) :=
  h.st (by decide) _ (fun j hj => by rcases seven hj with rfl | rfl | rfl | rfl | rfl | rfl | rfl <;> rfl) h.hu h.hub h.huq
theorem RS.row (h : RS w N T F m u L rd dn B q O wx) (hu : wx.ownsRow (w.heap.size + 3) 38 3 u2 L2.length (mcs L2)) (huq : ∀ b, u2.ownBlock = some b → q.ownBlock ≠ some b) : RS w N T F m u2 L2 rd dn B q O (wx.setCell ⟨w.heap.size, 3, none⟩ u2) :=
  h.st (by decide) _ (fun j hj => by rcases seven hj with rfl | rfl | rfl | rfl | rfl | rfl | rfl <;> rfl) (own_base hu (Nat.zero_le _)) (fun b z => .inr (hu.lt b z).1) huq
/-- More is said. -/
theorem RS.says (h : RS w N T F m u L rd dn B q O wx) (hg : wx.grownBy wy q.ownBlock) (hq : wy.ownsRow (w.heap.size + 3) 38 3 q2 O2.length (mcs O2)) (hb : q2.ownBlock = q.ownBlock ∨ q2.ownBlock = some wx.heap.size) : RS w N T F m u L rd dn B q2 O2 wy := by
  obtain ⟨g, hgr⟩ := h.hr
  have hne : ∀ k, k < w.heap.size + 3 → q.ownBlock ≠ some k := fun k hk z => by have := (h.hq.lt k z).1; omega
  refine ⟨ext_grown h.ext hg (fun k z => by have := (h.hq.lt k z).1; omega), h.hc.grown hg (hne _ (by omega)), h.hm.grown hg (hne _ (by omega)), ⟨g, hgr.grown hg (hne _ (by omega))⟩, h.hu.kept hg ?_, h.hub, hq, fun b z y => ?_⟩
  · cases e : u.ownBlock with
    | none => exact .inl rfl
    | some b => exact .inr (fun z => h.huq b e z.symm)
  · rcases hb with e | e
    · exact h.huq b z (e ▸ y)
    · rw [e] at y
      injection y with y
      have := (h.hu.lt b z).2
      omega
theorem RS.new (m : Msg) (hu : w.ownsRow 0 38 3 u L.length (mcs L)) (z : Array Value) (t1 t2 t3 : TypeId) (hz : z.size = 7) : RS w N T F m u L rd dn B (.slice none 0 0) [] (((w.alloc (.cells #[.int .i64 (N : Int), .int .i64 (T : Int), .int .i64 (F : Int), u, .bool rd, .bool dn, .string B] t1)).alloc (.cells #[.int .i64 m.kd, .int .i64 m.fr, .string m.bd] t2)).alloc (.cells z t3)) := by
  have e1 : Ext w (w.alloc (.cells #[.int .i64 (N : Int), .int .i64 (T : Int), .int .i64 (F : Int), u, .bool rd, .bool dn, .string B] t1)) := (Ext.refl w).alloc _
  refine ⟨(e1.alloc _).alloc _, ((cr_new w N T F u rd dn B t1).ext ((Ext.refl _).alloc _)).ext ((Ext.refl _).alloc _), ?_, ⟨fun j => z.getD j undef, ?_⟩, own_ext hu ((e1.alloc _).alloc _), fun b q => .inl (hu.lt b q).2, World.ownsRow_nil _ _ _ _, fun b _ q => by cases q⟩
  · have := Blk.new (w.alloc (.cells #[.int .i64 (N : Int), .int .i64 (T : Int), .int .i64 (F : Int), u, .bool rd, .bool dn, .string B] t1)) (n := 3) (g := mg m) #[.int .i64 m.kd, .int .i64 m.fr, .string m.bd] t2 (fun j hj => by
      have : j = 0 ∨ j = 1 ∨ j = 2 := by omega
      rcases this with rfl | rfl | rfl <;> rfl)
    rw [show (w.alloc (.cells #[.int .i64 (N : Int), .int .i64 (T : Int), .int .i64 (F : Int), u, .bool rd, .bool dn, .string B] t1)).heap.size = w.heap.size + 1 from by simp] at this
    exact this.ext ((Ext.refl _).alloc _)
  · have := Blk.new ((w.alloc (.cells #[.int .i64 (N : Int), .int .i64 (T : Int), .int .i64 (F : Int), u, .bool rd, .bool dn, .string B] t1)).alloc (.cells #[.int .i64 m.kd, .int .i64 m.fr, .string m.bd] t2)) (n := 7) (g := fun j => z.getD j undef) z t3 (fun j hj => by simp [hz, hj])
    rw [show ((w.alloc (.cells #[.int .i64 (N : Int), .int .i64 (T : Int), .int .i64 (F : Int), u, .bool rd, .bool dn, .string B] t1)).alloc (.cells #[.int .i64 m.kd, .int .i64 m.fr, .string m.bd] t2)).heap.size = w.heap.size + 1 + 1 from by simp] at this
    exact this
end
set_option maxHeartbeats 1000000 in
theorem rnew_bad (n t f : Int) (h : ¬ hasC n t f) (w : World) : Calls Try.prog 13 #[.int .i64 n, .int .i64 t, .int .i64 f] w fun e w' => e = .returned (.tuple #[rC 0 0 0 (.slice none 0 0) false false ⟨#[]⟩, .bool false]) ∧ Ext w w' := by
  have HE : Hid (Ext w w) := Ext.refl w
  have HC : Hid (∀ W, Calls Try.prog 9 #[.int .i64 n, .int .i64 t] W fun e w' => e = .returned (.int .i64 (qI n t)) ∧ w' = W) := fun W => rquorum_any n t W
  by_cases hq : hasQ n t
  · have h0 : (qI n t == 0) = false := by simpa using q_pos hq
    by_cases h1 : f < 1
    · clear h hq
      go_enter Try.func13, Try.ntmps13
      go_wp2_with fail
      refine (HC.out _).mono ?_
      rintro e w1 ⟨rfl, ew⟩
      subst w1
      go_wp2
      refine bodyPost_ret (v := .tuple #[rC 0 0 0 (.slice none 0 0) false false ⟨#[]⟩, .bool false]) (by simp [results, Try.results13, go_sem]) rfl ⟨rfl, HE.out.alloc _⟩
    · have h2 : n < f := by unfold hasC at h; have : ¬ (1 ≤ f ∧ f ≤ n) := fun q => h ⟨hq, q⟩; omega
      clear h hq
      go_enter Try.func13, Try.ntmps13
      go_wp2_with fail
      refine (HC.out _).mono ?_
      rintro e w1 ⟨rfl, ew⟩
      subst w1
      go_wp2
      refine bodyPost_ret (v := .tuple #[rC 0 0 0 (.slice none 0 0) false false ⟨#[]⟩, .bool false]) (by simp [results, Try.results13, go_sem]) rfl ⟨rfl, HE.out.alloc _⟩
  · have h0 : qI n t = 0 := if_neg hq
    clear h hq
    go_enter Try.func13, Try.ntmps13
    go_wp2_with fail
    refine (HC.out _).mono ?_
    rintro e w1 ⟨rfl, ew⟩
    subst w1
    go_wp2
    refine bodyPost_ret (v := .tuple #[rC 0 0 0 (.slice none 0 0) false false ⟨#[]⟩, .bool false]) (by simp [results, Try.results13, go_sem]) rfl ⟨rfl, HE.out.alloc _⟩
set_option maxHeartbeats 1000000 in
theorem rnew_good (N T F : Nat) (h : hasC N T F) (w : World) : Calls Try.prog 13 #[.int .i64 (N : Int), .int .i64 (T : Int), .int .i64 (F : Int)] w fun e w' => e = .returned (.tuple #[rC N T F (.slice none 0 0) false false ⟨#[]⟩, .bool true]) ∧ Ext w w' := by
  have HE : Hid (Ext w w) := Ext.refl w
  have HC : Hid (∀ W, Calls Try.prog 9 #[.int .i64 (N : Int), .int .i64 (T : Int)] W fun e w' => e = .returned (.int .i64 (qI N T)) ∧ w' = W) := fun W => rquorum_any N T W
  have h0 : (qI N T == 0) = false := by simpa using q_pos h.1
  have h1 : ¬ (F : Int) < 1 := by have := h.2.1; omega
  have h2 : ¬ (N : Int) < (F : Int) := by have := h.2.2; omega
  clear h
  go_enter Try.func13, Try.ntmps13
  go_wp2_with fail
  refine (HC.out _).mono ?_
  rintro e w1 ⟨rfl, ew⟩
  subst w1
  go_wp2
  refine bodyPost_ret (v := .tuple #[rC N T F (.slice none 0 0) false false ⟨#[]⟩, .bool true]) (by simp [results, Try.results13, go_sem]) rfl ⟨rfl, HE.out.alloc _⟩
end Go.Proofs.Ytmibekclhnkhnaa
