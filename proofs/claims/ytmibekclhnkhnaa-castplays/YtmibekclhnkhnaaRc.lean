/-
  sandglassref20.Take, called: a message that may not be, one that was heard.
-/
import Derived.Test.YtmibekclhnkhnaaRb
namespace Go.Proofs.Ytmibekclhnkhnaa
open Go.RowKit
/-- A ready is said; a body is told. -/
def rrd (N T : Nat) (rd : Bool) (L : List Msg) (B : ByteArray) : Bool := !rd && (decide (qm N T ≤ cnt L 2 B) || decide (T < cnt L 3 B))
def rdn (T : Nat) (dn : Bool) (L : List Msg) (B : ByteArray) : Bool := !dn && decide (2 * T < cnt L 3 B)
def rdL (b : Bool) (B : ByteArray) : List Msg := if b then [⟨3, 0, B⟩] else []
def ecL (m : Msg) : List Msg := if m.kd = 1 then [⟨2, 0, m.bd⟩] else []
/-- What the definition's Take is. -/
theorem ref_is {N T F : Nat} {s : St} {m : Msg} (h : Ok N T F s) (hc : ctsB N F s.L m = true) :
    stp N T F s m = (⟨s.L ++ [m], if rrd N T s.rb.isSome (s.L ++ [m]) m.bd then some m.bd else s.rb, if rdn T s.tb.isSome (s.L ++ [m]) m.bd then some m.bd else s.tb⟩, ecL m ++ rdL (rrd N T s.rb.isSome (s.L ++ [m]) m.bd) m.bd) := by
  unfold ecL rdL
  by_cases hk : m.kd = 1
  · rw [stp_send hc hk, if_pos hk]
    have e2 : cnt (s.L ++ [m]) 2 m.bd = cnt s.L 2 m.bd := cnt_other (fun q => by rw [hk] at q; cases q.1)
    have e3 : cnt (s.L ++ [m]) 3 m.bd = cnt s.L 3 m.bd := cnt_other (fun q => by rw [hk] at q; cases q.1)
    have r1 : rrd N T s.rb.isSome (s.L ++ [m]) m.bd = false := by
      unfold rrd
      rw [e2, e3]
      cases hr : s.rb.isSome with
      | true => rfl
      | false =>
        have n1 : ¬ qm N T ≤ cnt s.L 2 m.bd := fun q => by have := h.rdy m.bd (.inl q); rw [hr] at this; cases this
        have n2 : ¬ T < cnt s.L 3 m.bd := fun q => by have := h.rdy m.bd (.inr q); rw [hr] at this; cases this
        rw [decide_eq_false n1, decide_eq_false n2]
        rfl
    have r2 : rdn T s.tb.isSome (s.L ++ [m]) m.bd = false := by
      unfold rdn
      rw [e3]
      cases hr : s.tb.isSome with
      | true => rfl
      | false =>
        have n2 : ¬ 2 * T < cnt s.L 3 m.bd := fun q => by have := h.tld m.bd q; rw [hr] at this; cases this
        rw [decide_eq_false n2]
        rfl
    rw [r1, r2]
    rfl
  · rw [stp_voice hc hk, if_neg hk]
    rfl
/-- What the definition's Take leaves. -/
def RkP (N T F : Nat) (s : St) (m : Msg) (u : Value) (w : World) (e : Ending) (w' : World) : Prop :=
  ∃ u2 q, e = .returned (.tuple #[rC N T F u2 (stp N T F s m).1.rb.isSome (stp N T F s m).1.tb.isSome ((stp N T F s m).1.tb.getD ⟨#[]⟩), q]) ∧ w'.ownsRow 0 38 3 u2 (stp N T F s m).1.L.length (mcs (stp N T F s m).1.L) ∧
    (∀ b, u2.ownBlock = some b → u.ownBlock = some b ∨ w.heap.size ≤ b) ∧ w'.ownsRow w.heap.size 38 3 q (stp N T F s m).2.length (mcs (stp N T F s m).2) ∧ Ext w w' ∧ ∀ b, u2.ownBlock = some b → q.ownBlock ≠ some b
/-- The result is set. -/
abbrev put7 (Y : World) (b : Nat) (v0 v1 v2 v3 v4 v5 v6 : Value) : World := ((((((Y.setCell ⟨b, 0, none⟩ v0).setCell ⟨b, 1, none⟩ v1).setCell ⟨b, 2, none⟩ v2).setCell ⟨b, 3, none⟩ v3).setCell ⟨b, 4, none⟩ v4).setCell ⟨b, 5, none⟩ v5).setCell ⟨b, 6, none⟩ v6
section
variable {w wx : World} {N T F : Nat} {m : Msg} {u q : Value} {L O : List Msg} {rd dn : Bool} {B : ByteArray}
theorem put7_blk {g : Nat → Value} {b : Nat} (h : Blk wx b 7 g) : Blk (put7 wx b (.int .i64 (N : Int)) (.int .i64 (T : Int)) (.int .i64 (F : Int)) u (.bool rd) (.bool dn) (.string B)) b 7 (cr N T F u rd dn B) := by
  refine (((((((h.put (i := 0) (by decide) _).put (i := 1) (by decide) _).put (i := 2) (by decide) _).put (i := 3) (by decide) _).put (i := 4) (by decide) _).put (i := 5) (by decide) _).put (i := 6) (by decide) _).congr fun j hj => ?_
  rcases seven hj with rfl | rfl | rfl | rfl | rfl | rfl | rfl <;> rfl
theorem put7_own {b base n sz : Nat} {e : TypeId} {v : Value} {xs : List Value} {v0 v1 v2 v3 v4 v5 v6 : Value} (h : wx.ownsRow base e sz v n xs) (hb : v.ownBlock ≠ some b) : (put7 wx b v0 v1 v2 v3 v4 v5 v6).ownsRow base e sz v n xs :=
  own_setCell (own_setCell (own_setCell (own_setCell (own_setCell (own_setCell (own_setCell h hb) hb) hb) hb) hb) hb) hb
theorem put7_ext {b : Nat} {v0 v1 v2 v3 v4 v5 v6 : Value} (h : Ext w wx) (hb : w.heap.size ≤ b) : Ext w (put7 wx b v0 v1 v2 v3 v4 v5 v6) := Ext.st hb (Ext.st hb (Ext.st hb (Ext.st hb (Ext.st hb (Ext.st hb (Ext.st hb h))))))
/-- What lies there when it is handed back. -/
theorem RS.ret (h : RS w N T F m u L rd dn B q O wx) :
    Blk (put7 wx (w.heap.size + 1 + 1) (.int .i64 (N : Int)) (.int .i64 (T : Int)) (.int .i64 (F : Int)) u (.bool rd) (.bool dn) (.string B)) (w.heap.size + 1 + 1) 7 (cr N T F u rd dn B) ∧ Ext w (put7 wx (w.heap.size + 1 + 1) (.int .i64 (N : Int)) (.int .i64 (T : Int)) (.int .i64 (F : Int)) u (.bool rd) (.bool dn) (.string B)) ∧
    World.ownsRow (put7 wx (w.heap.size + 1 + 1) (.int .i64 (N : Int)) (.int .i64 (T : Int)) (.int .i64 (F : Int)) u (.bool rd) (.bool dn) (.string B)) 0 38 3 u L.length (mcs L) ∧ World.ownsRow (put7 wx (w.heap.size + 1 + 1) (.int .i64 (N : Int)) (.int .i64 (T : Int)) (.int .i64 (F : Int)) u (.bool rd) (.bool dn) (.string B)) w.heap.size 38 3 q O.length (mcs O) := by
  obtain ⟨g, hg⟩ := h.hr
  exact ⟨put7_blk hg, put7_ext h.ext (by omega), put7_own h.hu (fun z => by have := h.hub _ z; omega), put7_own (own_base h.hq (by omega)) (fun z => by have := (h.hq.lt _ z).1; omega)⟩
end
set_option maxHeartbeats 2000000 in
theorem rtake_bad {N T F : Nat} {s : St} {u : Value} (m : Msg) (hc : mayB N F m = false) (w : World) (hu : w.ownsRow 0 38 3 u s.L.length (mcs s.L)) :
    Calls Try.prog 14 #[rC N T F u s.rb.isSome s.tb.isSome (s.tb.getD ⟨#[]⟩), mv3 m] w fun e w' => RkP N T F s m u w e w' := by
  have HP : Hid (∀ w' q, q = .slice none 0 0 → w'.ownsRow 0 38 3 u s.L.length (mcs s.L) → Ext w w' → RkP N T F s m u w (.returned (.tuple #[rC N T F u s.rb.isSome s.tb.isSome (s.tb.getD ⟨#[]⟩), q])) w') := fun w' q e h1 h2 => by
    subst e
    unfold RkP
    rw [stp_bad (cts_false hc)]
    exact ⟨u, _, rfl, h1, fun b z => .inl z, World.ownsRow_nil _ _ _ _, h2, fun b _ z => by cases z⟩
  obtain ⟨a, cap, e, _⟩ := own_ms hu
  obtain ⟨n, HN⟩ : ∃ n, Hid (s.L.length = n) := ⟨_, rfl⟩
  obtain ⟨kd, fr, bd⟩ := m
  have HR : Hid (RS w N T F ⟨kd, fr, bd⟩ u s.L s.rb.isSome s.tb.isSome (s.tb.getD ⟨#[]⟩) (.slice none 0 0) [] (((w.alloc (.cells #[.int .i64 (N : Int), .int .i64 (T : Int), .int .i64 (F : Int), u, .bool s.rb.isSome, .bool s.tb.isSome, .string (s.tb.getD ⟨#[]⟩)] 32)).alloc (.cells #[.int .i64 kd, .int .i64 fr, .string bd] 38)).alloc (.cells #[.int .i64 0, .int .i64 0, .int .i64 0, .slice none 0 0, .bool false, .bool false, .string ⟨#[]⟩] 32))) := RS.new ⟨kd, fr, bd⟩ hu #[.int .i64 0, .int .i64 0, .int .i64 0, .slice none 0 0, .bool false, .bool false, .string ⟨#[]⟩] 32 38 32 rfl
  rw [e, HN.out] at HP HR ⊢
  have HU : Hid (w.ownsRow 0 38 3 (.slice a n cap) n (mcs s.L)) := by rw [← HN.out, ← e]; exact hu
  have HE : Hid (Ext w w) := Ext.refl w
  clear hu e HR
  generalize s.rb.isSome = rd at *
  generalize s.tb.isSome = dn at *
  generalize s.tb.getD ⟨#[]⟩ = B at *
  by_cases h1 : fr < 1
  · clear hc
    go_enter Try.func14, Try.ntmps14
    go_wp2
    refine bodyPost_ret (v := .tuple #[rC N T F (.slice a n cap) rd dn B, .slice none 0 0]) (by simp [results, Try.results14, go_sem]) rfl (HP.out _ _ rfl (((HU.out.alloc _).alloc _).alloc _) (((HE.out.alloc _).alloc _).alloc _))
  by_cases h2 : (N : Int) < fr
  · clear hc
    go_enter Try.func14, Try.ntmps14
    go_wp2
    refine bodyPost_ret (v := .tuple #[rC N T F (.slice a n cap) rd dn B, .slice none 0 0]) (by simp [results, Try.results14, go_sem]) rfl (HP.out _ _ rfl (((HU.out.alloc _).alloc _).alloc _) (((HE.out.alloc _).alloc _).alloc _))
  by_cases h3 : kd < 1
  · clear hc
    go_enter Try.func14, Try.ntmps14
    go_wp2
    refine bodyPost_ret (v := .tuple #[rC N T F (.slice a n cap) rd dn B, .slice none 0 0]) (by simp [results, Try.results14, go_sem]) rfl (HP.out _ _ rfl (((HU.out.alloc _).alloc _).alloc _) (((HE.out.alloc _).alloc _).alloc _))
  by_cases h4 : 3 < kd
  · clear hc
    go_enter Try.func14, Try.ntmps14
    go_wp2
    refine bodyPost_ret (v := .tuple #[rC N T F (.slice a n cap) rd dn B, .slice none 0 0]) (by simp [results, Try.results14, go_sem]) rfl (HP.out _ _ rfl (((HU.out.alloc _).alloc _).alloc _) (((HE.out.alloc _).alloc _).alloc _))
  by_cases h5 : (4096 : Int) < (bd.size : Int)
  · clear hc
    go_enter Try.func14, Try.ntmps14
    go_wp2
    refine bodyPost_ret (v := .tuple #[rC N T F (.slice a n cap) rd dn B, .slice none 0 0]) (by simp [results, Try.results14, go_sem]) rfl (HP.out _ _ rfl (((HU.out.alloc _).alloc _).alloc _) (((HE.out.alloc _).alloc _).alloc _))
  have h6 : kd = 1 ∧ fr ≠ (F : Int) := by
    have q := of_decide_eq_false (by unfold mayB at hc; exact hc)
    by_cases e1 : kd = 1
    · refine ⟨e1, fun e2 => q ⟨by simp; omega, by simp; omega, by simp; omega, by simp; omega, by simp; omega, fun _ => e2⟩⟩
    · exact absurd ⟨by simp; omega, by simp; omega, by simp; omega, by simp; omega, by simp; omega, fun z => absurd z e1⟩ q
  obtain ⟨e1, e2⟩ := h6
  subst e1
  have e3 : (fr == (F : Int)) = false := by simpa using e2
  clear hc h3 h4
  go_enter Try.func14, Try.ntmps14
  go_wp2
  refine bodyPost_ret (v := .tuple #[rC N T F (.slice a n cap) rd dn B, .slice none 0 0]) (by simp [results, Try.results14, go_sem]) rfl (HP.out _ _ rfl (((HU.out.alloc _).alloc _).alloc _) (((HE.out.alloc _).alloc _).alloc _))
end Go.Proofs.Ytmibekclhnkhnaa
