/-
 sandglassref21.Put, called.
-/
import Derived.Test.YtmanacbdldfmfaaRh
namespace Go.Proofs.Ytmanacbdldfmfaa
set_option maxRecDepth 10000
open Go.RowKit
def rg (N T : Nat) (u : Value) (j : Nat) : Value := if j = 0 then .int .i64 (N : Int) else if j = 1 then .int .i64 (T : Int) else u
def wg (kd fr rd va : Int) (vl : ByteArray) (j : Nat) : Value := if j = 0 then .int .i64 kd else if j = 1 then .int .i64 fr else if j = 2 then .int .i64 rd else if j = 3 then .int .i64 va else .string vl
/-- While a word is put: the votes' box, the word's, the result's; the row of words. -/
structure RP (w : World) (N T : Nat) (kd fr rd va : Int) (vl : ByteArray) (u : Value) (L : List Vt) (wx : World) : Prop where
 ext : Ext w wx
 hv : Blk wx w.heap.size 3 (rg N T u)
 hw : Blk wx (w.heap.size + 1) 5 (wg kd fr rd va vl)
 hr : ∃ g, Blk wx (w.heap.size + 1 + 1) 3 g
 hu : wx.ownsRow 0 39 5 u L.length (wcs L)
 hub : ∀ b, u.ownBlock = some b → b < w.heap.size ∨ w.heap.size + 3 ≤ b
section
variable {w wx wy : World} {N T : Nat} {kd fr rd va : Int} {vl : ByteArray} {u u2 : Value} {L L2 : List Vt}
theorem RP.further (h : RP w N T kd fr rd va vl u L wx) (hx : Ext wx wy) : RP w N T kd fr rd va vl u L wy := by
 obtain ⟨g, hg⟩ := h.hr
 exact ⟨h.ext.trans hx, h.hv.ext hx, h.hw.ext hx, ⟨g, hg.ext hx⟩, own_ext h.hu hx, h.hub⟩
theorem RP.row (h : RP w N T kd fr rd va vl u L wx) (hu : wx.ownsRow (w.heap.size + 3) 39 5 u2 L2.length (wcs L2)) : RP w N T kd fr rd va vl u2 L2 (wx.setCell ⟨w.heap.size, 2, none⟩ u2) := by
 obtain ⟨g, hg⟩ := h.hr
 refine ⟨Ext.st (Nat.le_refl _) h.ext, (h.hv.put (i := 2) (by decide) u2).congr (fun j hj => ?_), h.hw.st (by omega), ⟨g, hg.st (by omega)⟩, own_setCell (own_base hu (Nat.zero_le _)) (fun z => by have := (hu.lt _ z).1; omega), fun b z => .inr (hu.lt b z).1⟩
 have : j = 0 ∨ j = 1 ∨ j = 2 := by omega
 rcases this with rfl | rfl | rfl <;> rfl
theorem RP.new (hu : w.ownsRow 0 39 5 u L.length (wcs L)) (z : Array Value) (t1 t2 t3 : TypeId) (hz : z.size = 3) : RP w N T kd fr rd va vl u L (((w.alloc (.cells #[.int .i64 (N : Int), .int .i64 (T : Int), u] t1)).alloc (.cells #[.int .i64 kd, .int .i64 fr, .int .i64 rd, .int .i64 va, .string vl] t2)).alloc (.cells z t3)) := by
 have e1 : Ext w (w.alloc (.cells #[.int .i64 (N : Int), .int .i64 (T : Int), u] t1)) := (Ext.refl w).alloc _
 have b1 : Blk (w.alloc (.cells #[.int .i64 (N : Int), .int .i64 (T : Int), u] t1)) w.heap.size 3 (rg N T u) := Blk.new w _ _ (fun j hj => by
  have : j = 0 ∨ j = 1 ∨ j = 2 := by omega
  rcases this with rfl | rfl | rfl <;> rfl)
 refine ⟨(e1.alloc _).alloc _, (b1.ext ((Ext.refl _).alloc _)).ext ((Ext.refl _).alloc _), ?_, ⟨fun j => z.getD j undef, ?_⟩, own_ext hu ((e1.alloc _).alloc _), fun b q => .inl (hu.lt b q).2⟩
 ·have := Blk.new (w.alloc (.cells #[.int .i64 (N : Int), .int .i64 (T : Int), u] t1)) (n := 5) (g := wg kd fr rd va vl) #[.int .i64 kd, .int .i64 fr, .int .i64 rd, .int .i64 va, .string vl] t2 (fun j hj => by
   have : j = 0 ∨ j = 1 ∨ j = 2 ∨ j = 3 ∨ j = 4 := by omega
   rcases this with rfl | rfl | rfl | rfl | rfl <;> rfl)
  rw [show (w.alloc (.cells #[.int .i64 (N : Int), .int .i64 (T : Int), u] t1)).heap.size = w.heap.size + 1 from by simp] at this
  exact this.ext ((Ext.refl _).alloc _)
 ·have := Blk.new ((w.alloc (.cells #[.int .i64 (N : Int), .int .i64 (T : Int), u] t1)).alloc (.cells #[.int .i64 kd, .int .i64 fr, .int .i64 rd, .int .i64 va, .string vl] t2)) (n := 3) (g := fun j => z.getD j undef) z t3 (fun j hj => by simp [hz, hj])
  rw [show ((w.alloc (.cells #[.int .i64 (N : Int), .int .i64 (T : Int), u] t1)).alloc (.cells #[.int .i64 kd, .int .i64 fr, .int .i64 rd, .int .i64 va, .string vl] t2)).heap.size = w.heap.size + 1 + 1 from by simp] at this
  exact this
/-- The result is set. -/
abbrev put3 (Y : World) (b : Nat) (v0 v1 v2 : Value) : World := ((Y.setCell ⟨b, 0, none⟩ v0).setCell ⟨b, 1, none⟩ v1).setCell ⟨b, 2, none⟩ v2
theorem RP.ret (h : RP w N T kd fr rd va vl u L wx) : Blk (put3 wx (w.heap.size + 1 + 1) (.int .i64 (N : Int)) (.int .i64 (T : Int)) u) (w.heap.size + 1 + 1) 3 (rg N T u) ∧ Ext w (put3 wx (w.heap.size + 1 + 1) (.int .i64 (N : Int)) (.int .i64 (T : Int)) u) ∧ World.ownsRow (put3 wx (w.heap.size + 1 + 1) (.int .i64 (N : Int)) (.int .i64 (T : Int)) u) 0 39 5 u L.length (wcs L) := by
 obtain ⟨g, hg⟩ := h.hr
 have hb : u.ownBlock ≠ some (w.heap.size + 1 + 1) := fun z => by have := h.hub _ z; omega
 refine ⟨?_, Ext.st (by omega) (Ext.st (by omega) (Ext.st (by omega) h.ext)), own_setCell (own_setCell (own_setCell h.hu hb) hb) hb⟩
 refine (((hg.put (i := 0) (by decide) _).put (i := 1) (by decide) _).put (i := 2) (by decide) _).congr fun j hj => ?_
 have : j = 0 ∨ j = 1 ∨ j = 2 := by omega
 rcases this with rfl | rfl | rfl <;> rfl
end
/-- What the definition's Put leaves. -/
def RpP (N T : Nat) (L : List Vt) (m : Vt) (u : Value) (w : World) (e : Ending) (w' : World) : Prop :=
 ∃ u', e = .returned (.tuple #[rV N T u', .bool (okV N L m)]) ∧ w'.ownsRow 0 39 5 u' (putV N L m).length (wcs (putV N L m)) ∧ (∀ b, u'.ownBlock = some b → u.ownBlock = some b ∨ w.heap.size ≤ b) ∧ Ext w w'
theorem may_yes {N : Nat} {kd fr rd va : Int} {vl : ByteArray} (hk : kd = 2 ∨ kd = 3) (h1 : ¬ fr < 1) (h2 : ¬ (N : Int) < fr) (h3 : ¬ rd < 0) (h4 : ¬ (64 : Int) ≤ rd) (h5 : ¬ (4096 : Int) < (vl.size : Int)) : mayV N ⟨kd, fr, rd, va, vl⟩ = true := may_iffV.2 ⟨hk, by show 1 ≤ fr; omega, by show fr ≤ (N : Int); omega, by show 0 ≤ rd; omega, by show rd < 64; omega, by show vl.size ≤ 4096; omega⟩
set_option maxRecDepth 10000 in
set_option maxHeartbeats 4000000 in
theorem rput_bad {N T : Nat} {L : List Vt} (kd fr rd va : Int) (vl : ByteArray) (a : Option Addr) (n cap : Nat) (hm : mayV N ⟨kd, fr, rd, va, vl⟩ = false) (w : World) (hu : w.ownsRow 0 39 5 (.slice a n cap) L.length (wcs L)) :
  Calls Try.prog 35 #[rV N T (.slice a n cap), .agg #[.int .i64 kd, .int .i64 fr, .int .i64 rd, .int .i64 va, .string vl]] w fun e w' => RpP N T L ⟨kd, fr, rd, va, vl⟩ (.slice a n cap) w e w' := by
 have HP : Hid (∀ w', w'.ownsRow 0 39 5 (.slice a n cap) L.length (wcs L) → Ext w w' → RpP N T L ⟨kd, fr, rd, va, vl⟩ (.slice a n cap) w (.returned (.tuple #[rV N T (.slice a n cap), .bool false])) w') := fun w' h1 h2 => by
  have hn : okV N L ⟨kd, fr, rd, va, vl⟩ = false := by unfold okV; rw [hm]; rfl
  exact ⟨_, by rw [hn], by rw [put_no hn]; exact h1, fun b q => .inl q, h2⟩
 have HU : Hid (w.ownsRow 0 39 5 (.slice a n cap) L.length (wcs L)) := hu
 have HE : Hid (Ext w w) := Ext.refl w
 clear hu
 by_cases hk : kd = 2 ∨ kd = 3
 ·by_cases h1 : fr < 1
  ·have hkd : (kd != 2) = false ∨ ((kd != 2) = true ∧ (kd != 3) = false) := by
    rcases hk with e | e
    ·exact .inl (by simp [e])
    ·exact .inr ⟨by simp [e], by simp [e]⟩
   clear hk
   rcases hkd with k2 | ⟨k2, k3⟩
   ·clear hm
    go_enter Try.func35, Try.ntmps35
    go_wp2
    refine bodyPost_ret (v := .tuple #[rV N T (.slice a n cap), .bool false]) (by simp [results, Try.results35, go_sem]) rfl (HP.out _ (((HU.out.alloc _).alloc _).alloc _) (((HE.out.alloc _).alloc _).alloc _))
   ·clear hm
    go_enter Try.func35, Try.ntmps35
    go_wp2
    refine bodyPost_ret (v := .tuple #[rV N T (.slice a n cap), .bool false]) (by simp [results, Try.results35, go_sem]) rfl (HP.out _ (((HU.out.alloc _).alloc _).alloc _) (((HE.out.alloc _).alloc _).alloc _))
  ·have d1 : decide (fr < 1) = false := decide_eq_false h1
   by_cases h2 : (N : Int) < fr
   ·have hkd : (kd != 2) = false ∨ ((kd != 2) = true ∧ (kd != 3) = false) := by
     rcases hk with e | e
     ·exact .inl (by simp [e])
     ·exact .inr ⟨by simp [e], by simp [e]⟩
    clear hk
    rcases hkd with k2 | ⟨k2, k3⟩
    ·clear hm
     go_enter Try.func35, Try.ntmps35
     go_wp2
     refine bodyPost_ret (v := .tuple #[rV N T (.slice a n cap), .bool false]) (by simp [results, Try.results35, go_sem]) rfl (HP.out _ (((HU.out.alloc _).alloc _).alloc _) (((HE.out.alloc _).alloc _).alloc _))
    ·clear hm
     go_enter Try.func35, Try.ntmps35
     go_wp2
     refine bodyPost_ret (v := .tuple #[rV N T (.slice a n cap), .bool false]) (by simp [results, Try.results35, go_sem]) rfl (HP.out _ (((HU.out.alloc _).alloc _).alloc _) (((HE.out.alloc _).alloc _).alloc _))
   ·have d2 : decide ((N : Int) < fr) = false := decide_eq_false h2
    by_cases h3 : rd < 0
    ·have hkd : (kd != 2) = false ∨ ((kd != 2) = true ∧ (kd != 3) = false) := by
      rcases hk with e | e
      ·exact .inl (by simp [e])
      ·exact .inr ⟨by simp [e], by simp [e]⟩
     clear hk
     rcases hkd with k2 | ⟨k2, k3⟩
     ·clear hm
      go_enter Try.func35, Try.ntmps35
      go_wp2
      refine bodyPost_ret (v := .tuple #[rV N T (.slice a n cap), .bool false]) (by simp [results, Try.results35, go_sem]) rfl (HP.out _ (((HU.out.alloc _).alloc _).alloc _) (((HE.out.alloc _).alloc _).alloc _))
     ·clear hm
      go_enter Try.func35, Try.ntmps35
      go_wp2
      refine bodyPost_ret (v := .tuple #[rV N T (.slice a n cap), .bool false]) (by simp [results, Try.results35, go_sem]) rfl (HP.out _ (((HU.out.alloc _).alloc _).alloc _) (((HE.out.alloc _).alloc _).alloc _))
    ·have d3 : decide (rd < 0) = false := decide_eq_false h3
     by_cases h4 : (64 : Int) ≤ rd
     ·have hkd : (kd != 2) = false ∨ ((kd != 2) = true ∧ (kd != 3) = false) := by
       rcases hk with e | e
       ·exact .inl (by simp [e])
       ·exact .inr ⟨by simp [e], by simp [e]⟩
      clear hk
      rcases hkd with k2 | ⟨k2, k3⟩
      ·clear hm
       go_enter Try.func35, Try.ntmps35
       go_wp2
       refine bodyPost_ret (v := .tuple #[rV N T (.slice a n cap), .bool false]) (by simp [results, Try.results35, go_sem]) rfl (HP.out _ (((HU.out.alloc _).alloc _).alloc _) (((HE.out.alloc _).alloc _).alloc _))
      ·clear hm
       go_enter Try.func35, Try.ntmps35
       go_wp2
       refine bodyPost_ret (v := .tuple #[rV N T (.slice a n cap), .bool false]) (by simp [results, Try.results35, go_sem]) rfl (HP.out _ (((HU.out.alloc _).alloc _).alloc _) (((HE.out.alloc _).alloc _).alloc _))
     ·have d4 : decide ((64 : Int) ≤ rd) = false := decide_eq_false h4
      by_cases h5 : (4096 : Int) < (vl.size : Int)
      ·have hkd : (kd != 2) = false ∨ ((kd != 2) = true ∧ (kd != 3) = false) := by
        rcases hk with e | e
        ·exact .inl (by simp [e])
        ·exact .inr ⟨by simp [e], by simp [e]⟩
       clear hk
       rcases hkd with k2 | ⟨k2, k3⟩
       ·clear hm
        go_enter Try.func35, Try.ntmps35
        go_wp2
        refine bodyPost_ret (v := .tuple #[rV N T (.slice a n cap), .bool false]) (by simp [results, Try.results35, go_sem]) rfl (HP.out _ (((HU.out.alloc _).alloc _).alloc _) (((HE.out.alloc _).alloc _).alloc _))
       ·clear hm
        go_enter Try.func35, Try.ntmps35
        go_wp2
        refine bodyPost_ret (v := .tuple #[rV N T (.slice a n cap), .bool false]) (by simp [results, Try.results35, go_sem]) rfl (HP.out _ (((HU.out.alloc _).alloc _).alloc _) (((HE.out.alloc _).alloc _).alloc _))
      ·have d5 : decide ((4096 : Int) < (vl.size : Int)) = false := decide_eq_false h5
       exact absurd (hm.symm.trans (may_yes hk h1 h2 h3 h4 h5)) (by decide)
 ·have k2 : (kd != 2) = true := by simpa using fun e => hk (.inl e)
  have k3 : (kd != 3) = true := by simpa using fun e => hk (.inr e)
  clear hk
  clear hm
  go_enter Try.func35, Try.ntmps35
  go_wp2
  refine bodyPost_ret (v := .tuple #[rV N T (.slice a n cap), .bool false]) (by simp [results, Try.results35, go_sem]) rfl (HP.out _ (((HU.out.alloc _).alloc _).alloc _) (((HE.out.alloc _).alloc _).alloc _))
theorem hasV_step {L : List Vt} {j : Nat} {m : Vt} (h : L[j]? = some m) (k r p : Int) : hasV (L.take (j + 1)) k r p = (hasV (L.take j) k r p || decide (m.kd = k ∧ m.rd = r ∧ m.fr = p)) := by
 rw [List.take_add_one, h]
 unfold hasV
 simp
theorem has_at {L : List Vt} {j : Nat} {m : Vt} (h : L[j]? = some m) {k r p : Int} (h1 : m.kd = k) (h2 : m.rd = r) (h3 : m.fr = p) : hasV L k r p = true := has_iff.2 ⟨m, List.mem_of_getElem? h, h1, h2, h3⟩
theorem wcs_snoc (L : List Vt) (m : Vt) : wcs (L ++ [m]) = wcs L ++ [.int .i64 m.kd, .int .i64 m.fr, .int .i64 m.rd, .int .i64 m.va, .string m.vl] := by rw [wcs_app]; rfl
theorem len_snocV (L : List Vt) (m : Vt) : (L ++ [m]).length = L.length + 1 := by simp
theorem one5 (kd fr rd va : Int) (vl : ByteArray) : ∀ u ∈ ([.int .i64 kd, .int .i64 fr, .int .i64 rd, .int .i64 va, .string vl] : List Value), u.oneCell' = true := by
 intro u hu
 simp at hu
 rcases hu with rfl | rfl | rfl | rfl | rfl <;> rfl
set_option maxRecDepth 10000 in
set_option maxHeartbeats 4000000 in
theorem rput_good {N T : Nat} {L : List Vt} (kd fr rd va : Int) (vl : ByteArray) (a : Option Addr) (n cap : Nat) (hn : L.length = n) (hn2 : n ≤ 1000) (hm : mayV N ⟨kd, fr, rd, va, vl⟩ = true) (w : World) (hu : w.ownsRow 0 39 5 (.slice a n cap) L.length (wcs L)) :
  Calls Try.prog 35 #[rV N T (.slice a n cap), .agg #[.int .i64 kd, .int .i64 fr, .int .i64 rd, .int .i64 va, .string vl]] w fun e w' => RpP N T L ⟨kd, fr, rd, va, vl⟩ (.slice a n cap) w e w' := by
 have HN : Hid (L.length = n) := hn
 have HN2 : Hid (n ≤ 1000) := hn2
 have Hm : Hid (mayV N ⟨kd, fr, rd, va, vl⟩ = true) := hm
 have HR0 : Hid (RP w N T kd fr rd va vl (.slice a n cap) L (((w.alloc (.cells #[.int .i64 (N : Int), .int .i64 (T : Int), .slice a n cap] 32)).alloc (.cells #[.int .i64 kd, .int .i64 fr, .int .i64 rd, .int .i64 va, .string vl] 39)).alloc (.cells #[.int .i64 0, .int .i64 0, .slice none 0 0] 32))) := RP.new hu _ _ _ _ rfl
 obtain ⟨hk, h1, h2, h3, h4, h5⟩ := may_iffV.1 hm
 have hkd : (kd != 2 && kd != 3) = false := by
  rcases hk with e | e
  ·have e : kd = 2 := e
   subst e; rfl
  ·have e : kd = 3 := e
   subst e; rfl
 have h1 : (1 : Int) ≤ fr := h1
 have h2 : fr ≤ (N : Int) := h2
 have h3 : (0 : Int) ≤ rd := h3
 have h4 : rd < 64 := h4
 have h5 : vl.size ≤ 4096 := h5
 have d1 : decide (fr < 1) = false := decide_eq_false (by omega)
 have d2 : decide ((N : Int) < fr) = false := decide_eq_false (by omega)
 have d3 : decide (rd < 0) = false := decide_eq_false (by omega)
 have d4 : decide ((64 : Int) ≤ rd) = false := decide_eq_false (by omega)
 have d5 : decide ((4096 : Int) < (vl.size : Int)) = false := decide_eq_false (by omega)
 have hk2 : (kd != 2) = false ∨ ((kd != 2) = true ∧ (kd != 3) = false) := by
  rcases hk with e | e
  ·have e : kd = 2 := e
   exact .inl (by simp [e])
  ·have e : kd = 3 := e
   exact .inr ⟨by simp [e], by simp [e]⟩
 have HMid : Hid (∀ (u : Act → World → Prop), True) := fun _ => trivial
 clear hu hm hn hn2 hk hkd h1 h2 h3 h4 h5 HMid
 rcases hk2 with k2 | ⟨k2, k3⟩
 ·go_enter Try.func35, Try.ntmps35
  go_wp2_with fail
  obtain ⟨W0, hW0⟩ : ∃ W0, (((w.alloc (.cells #[.int .i64 (N : Int), .int .i64 (T : Int), .slice a n cap] 32)).alloc (.cells #[.int .i64 kd, .int .i64 fr, .int .i64 rd, .int .i64 va, .string vl] 39)).alloc (.cells #[.int .i64 0, .int .i64 0, .slice none 0 0] 32)) = W0 := ⟨_, rfl⟩
  rw [hW0] at HR0 ⊢
  clear hW0
  go_loopw [6] (fun u6 wr => ∃ j : Nat, j ≤ n ∧ u6 = .int .i64 j ∧ Hid (RP w N T kd fr rd va vl (.slice a n cap) L wr) ∧ Hid (hasV (L.take j) kd rd fr = false)) (fun u6 _ => n - (intOf u6).toNat)
  case atStart => exact ⟨0, Nat.zero_le _, rfl, HR0, rfl⟩
  case round =>
   obtain ⟨j, hj, rfl, HR, HH⟩ := hrel
   clear HR0
   have hv0 := HR.out.hv.1
   have v0 : wr.cell? ⟨w.heap.size, 0, none⟩ = some (.int .i64 (N : Int)) := (HR.out.hv.2 0 (by decide)).1
   have v1 : wr.cell? ⟨w.heap.size, 1, none⟩ = some (.int .i64 (T : Int)) := (HR.out.hv.2 1 (by decide)).1
   have v2 : wr.cell? ⟨w.heap.size, 2, none⟩ = some (.slice a n cap) := (HR.out.hv.2 2 (by decide)).1
   have hw0 := HR.out.hw.1
   have w0 : wr.cell? ⟨w.heap.size + 1, 0, none⟩ = some (.int .i64 kd) := (HR.out.hw.2 0 (by decide)).1
   have w1 : wr.cell? ⟨w.heap.size + 1, 1, none⟩ = some (.int .i64 fr) := (HR.out.hw.2 1 (by decide)).1
   have w2 : wr.cell? ⟨w.heap.size + 1, 2, none⟩ = some (.int .i64 rd) := (HR.out.hw.2 2 (by decide)).1
   by_cases hlt : j < n
   ·obtain ⟨q1, q0, qw⟩ := num2 hlt HN2.out
    obtain ⟨m, hm⟩ : ∃ m, Hid (L[j]? = some m) := ⟨L[j]'(by rw [HN.out]; exact hlt), List.getElem?_eq_getElem _⟩
    have HL2 : WsIs wr (.slice a L.length cap) L := by rw [HN.out]; exact own_ws HR.out.hu
    obtain ⟨g, o, rfl, hbl, hd0, hd1, hd2, hd3, hd4⟩ := HL2.get hm.out
    clear HL2 hd3 hd4
    have HS : Hid (hasV (L.take (j + 1)) kd rd fr = (hasV (L.take j) kd rd fr || decide (m.kd = kd ∧ m.rd = rd ∧ m.fr = fr))) := hasV_step hm.out _ _ _
    by_cases e1 : m.kd = kd
    ·by_cases e2 : m.fr = fr
     ·by_cases e3 : m.rd = rd
      ·have b1 : (m.kd == kd) = true := by simpa using e1
       have b2 : (m.fr == fr) = true := by simpa using e2
       have b3 : (m.rd == rd) = true := by simpa using e3
       have Hn : Hid (okV N L ⟨kd, fr, rd, va, vl⟩ = false) := by show _ = _; unfold okV; rw [has_at hm.out e1 e3 e2]; simp
       obtain ⟨g2, hg2⟩ := HR.out.hr
       obtain ⟨y1, y2, y3⟩ := (HR.out.further ((Ext.refl wr).drewN 0)).ret
       have r0 := hg2.1
       have HRq : Hid (∀ q, RP w N T kd fr rd va vl (.slice (some ⟨g, o, none⟩) n cap) L (wr.drewN q)) := fun q => HR.out.further ((Ext.refl wr).drewN q)
       have cz0 := (hg2.2 0 (by decide)).1
       have cz1 := (hg2.2 1 (by decide)).1
       have cz2 := (hg2.2 2 (by decide)).1
       have fz0 := (hg2.2 0 (by decide)).2
       have fz1 := (hg2.2 1 (by decide)).2
       have fz2 := (hg2.2 2 (by decide)).2
       clear e1 e2 e3 y1 y2 y3 hg2
       go_wp2_with fail
       go_quiet (fail)
       go_wp2
       obtain ⟨y1, y2, y3⟩ := (HRq.out nq).ret
       have x0 := (y1.2 0 (by decide)).1
       have x1 := (y1.2 1 (by decide)).1
       have x2 := (y1.2 2 (by decide)).1
       simp only [rg] at x0 x1 x2
       refine bodyPost_ret (v := .tuple #[rV N T (.slice (some ⟨g, o, none⟩) n cap), .bool false]) (by simp [results, Try.results35, go_sem, cz0, cz1, cz2]) rfl ⟨_, by rw [Hn.out], by rw [put_no Hn.out]; exact y3, fun b q => .inl q, y2⟩
      ·have b1 : (m.kd == kd) = true := by simpa using e1
       have b2 : (m.fr == fr) = true := by simpa using e2
       have b3 : (m.rd == rd) = false := by simpa using e3
       have HS2 : Hid (hasV (L.take (j + 1)) kd rd fr = false) := by show _ = _; rw [HS.out, HH.out, decide_eq_false (fun z => e3 z.2.1)]; rfl
       clear e1 e2 e3 HS
       go_wp2_with fail
       go_quiet (fail)
       go_wp2
       go_roundw
       case rel => exact ⟨j + 1, hlt, by push_cast; rfl, HR.out.further ((Ext.refl wr).drewN _), HS2⟩
       case measure => exact lp_meas hlt
     ·have b1 : (m.kd == kd) = true := by simpa using e1
      have b2 : (m.fr == fr) = false := by simpa using e2
      have HS2 : Hid (hasV (L.take (j + 1)) kd rd fr = false) := by show _ = _; rw [HS.out, HH.out, decide_eq_false (fun z => e2 z.2.2)]; rfl
      clear e1 e2 HS
      go_wp2_with fail
      go_quiet (fail)
      go_wp2
      go_roundw
      case rel => exact ⟨j + 1, hlt, by push_cast; rfl, HR.out.further ((Ext.refl wr).drewN _), HS2⟩
      case measure => exact lp_meas hlt
    ·have b1 : (m.kd == kd) = false := by simpa using e1
     have HS2 : Hid (hasV (L.take (j + 1)) kd rd fr = false) := by show _ = _; rw [HS.out, HH.out, decide_eq_false (fun z => e1 z.1)]; rfl
     clear e1 HS
     go_wp2_with fail
     go_quiet (fail)
     go_wp2
     go_roundw
     case rel => exact ⟨j + 1, hlt, by push_cast; rfl, HR.out.further ((Ext.refl wr).drewN _), HS2⟩
     case measure => exact lp_meas hlt
   ·obtain rfl : j = n := by omega
    have hnl : ¬ (j : Int) < (j : Int) := by omega
    have HF : Hid (L.take j = L) := List.take_of_length_le (by rw [HN.out]; exact Nat.le_refl _)
    have Hn : Hid (okV N L ⟨kd, fr, rd, va, vl⟩ = true) := by
     show _ = _
     have := HH.out
     rw [HF.out] at this
     unfold okV
     rw [Hm.out, this]
     rfl
    go_upto_region 8 with fail
    clear hv0 v0 v1 v2 hw0 w0 w1 w2 HH HF hnl
    have HS0 : RP w N T kd fr rd va vl (.slice a j cap) L wr.drew := HR.out.further (Ext.refl wr).drew
    clear HR
    refine wp_region_noPanic ?_
    refine wp_region_until (X := 7) (S := Ext wr.drew) (by kernel_rfl) ?_
    generalize wr.drew = y0 at *
    have hE : Ext y0 y0 := Ext.refl y0
    refine takeU (i := 0) (v := ?va0) ?hya0 hE ?resta0
    case hya0 => (intro wq hSw; go_simp; try with_reducible rfl)
    try simp only [sx]
    refine takeU (i := 1) (v := ?va1) ?hya1 hE ?resta1
    case hya1 => (intro wq hSw; have v2 := (((HS0.further hSw).hv).2 2 (by decide)).1; have hv0 := (HS0.further hSw).hv.1; simp only [rg] at v2; go_simp; try with_reducible rfl)
    try simp only [sx]
    refine takeU (i := 3) (v := ?va3) ?hya3 hE ?resta3
    case hya3 => (intro wq hSw; have w0 := (((HS0.further hSw).hw).2 0 (by decide)).1; have w1 := (((HS0.further hSw).hw).2 1 (by decide)).1; have w2 := (((HS0.further hSw).hw).2 2 (by decide)).1; have w3 := (((HS0.further hSw).hw).2 3 (by decide)).1; have w4 := (((HS0.further hSw).hw).2 4 (by decide)).1; have hw0 := (HS0.further hSw).hw.1; simp only [wg] at w0 w1 w2 w3 w4; go_simp; try with_reducible rfl)
    try simp only [sx]
    refine until_two (i := 2) (k := 4) (by kernel_rfl) (by kernel_rfl) (by kernel_rfl) rfl rfl rfl rfl (fun K hK => ?_) (fun K hK => ?_)
    ·refine app22 y0 _ _ rfl y0.heap.size (.slice none 0 0) 0 [] rfl (World.ownsRow_nil _ _ _ _) (.slice a j cap) j (wcs L) rfl (by have := own_slv HS0.hu; rw [HN.out] at this; exact this) (by rw [wcs_len, HN.out]) (wcs_one L) (by have := HN2.out; omega) (Nat.le_refl _) ?_
     intro v2 y1 ho hg hb
     have HX1 : Ext y0 y1 := ext_grown (Ext.refl y0) hg (fun k q => by cases q)
     refine hK.out _ _ HX1 ?_
     clear hK K
     try simp only [sx]
     refine until_one (i := 4) (by kernel_rfl) (by kernel_rfl) rfl rfl (fun K hK => ?_)
     go_simp
     have HX2 : Ext y0 (y1.alloc (.cells #[.int .i64 kd, .int .i64 fr, .int .i64 rd, .int .i64 va, .string vl] 39)) := HX1.alloc _
     refine hK.out _ _ HX2 ?_
     clear hK K
     try simp only [sx]
     refine until_one (i := 5) (by kernel_rfl) (by kernel_rfl) rfl rfl (fun K hK => ?_)
     refine app22 (y1.alloc (.cells #[.int .i64 kd, .int .i64 fr, .int .i64 rd, .int .i64 va, .string vl] 39)) _ _ rfl y0.heap.size v2 (0 + j) ([] ++ wcs L) rfl (ho.alloc _) (.slice (some ⟨y1.heap.size, 0, none⟩) 1 1) 1 [.int .i64 kd, .int .i64 fr, .int .i64 rd, .int .i64 va, .string vl] rfl (slv_new _ _ _ _ _ rfl) rfl (one5 _ _ _ _ _) (by have := HN2.out; omega) (Nat.le_trans HX1.size ((Ext.refl y1).alloc _).size) ?_
     intro v3 y3 ho3 hg3 hb3
     have HX3 : Ext y0 y3 := ext_grown HX2 hg3 (fun k q => (ho.lt k q).1)
     have HO3 : y3.ownsRow y0.heap.size 39 5 v3 (L ++ [(⟨kd, fr, rd, va, vl⟩ : Vt)]).length (wcs (L ++ [(⟨kd, fr, rd, va, vl⟩ : Vt)])) := by rw [wcs_snoc, len_snocV, HN.out]; simpa using ho3
     refine hK.out _ _ HX3 ?_
     clear hK K
     try simp only [sx]
     refine takeU (i := 6) (v := ?vb6) ?hyb6 HX3 ?restb6
     case hyb6 => (intro wq hSw; go_simp; try with_reducible rfl)
     try simp only [sx]
     have HS3 := HS0.further HX3
     have hb0 := HS3.hv.1
     have c2 : y3.cell? ⟨w.heap.size, 2, none⟩ = some (.slice a j cap) := (HS3.hv.2 2 (by decide)).1
     have f2 := (HS3.hv.2 2 (by decide)).2
     obtain ⟨a3, cp3, ev⟩ := own_len HO3
     generalize hL3 : (L ++ [(⟨kd, fr, rd, va, vl⟩ : Vt)]).length = n3 at *
     subst ev
     have hy0 : w.heap.size + 3 ≤ y0.heap.size := by
      obtain ⟨g, hg⟩ := HS0.hr
      have := hg.1
      omega
     have HRow : Hid (RP w N T kd fr rd va vl (.slice a3 n3 cp3) (L ++ [(⟨kd, fr, rd, va, vl⟩ : Vt)]) (y3.setCell ⟨w.heap.size, 2, none⟩ (.slice a3 n3 cp3))) := HS3.row (by rw [hL3]; exact own_base HO3 hy0)
     have Hu3 : Hid (∀ b, Value.ownBlock (.slice a3 n3 cp3) = some b → w.heap.size ≤ b) := fun b q => by have := (HO3.lt b q).1; omega
     clear HO3 ho3 hg3 hb3 HS3 ho hg hb hL3
     refine until_last (by kernel_rfl) (by kernel_rfl) rfl rfl (fun K hK => ?_)
     go_simp
     refine hK.out _ _ (NoPanic.normal ?_)
     clear hK K
     try simp only [sx]
     clear c2 f2 hb0 HX3 HS0
     generalize y3.setCell ⟨w.heap.size, 2, none⟩ (.slice a3 n3 cp3) = y4 at *
     obtain ⟨z1, z2, z3⟩ := HRow.out.ret
     have x0 := (z1.2 0 (by decide)).1
     have x1 := (z1.2 1 (by decide)).1
     have x2 := (z1.2 2 (by decide)).1
     simp only [rg] at x0 x1 x2
     have HZ : Hid (Ext w (put3 y4 (w.heap.size + 1 + 1) (.int .i64 (N : Int)) (.int .i64 (T : Int)) (.slice a3 n3 cp3)) ∧ World.ownsRow (put3 y4 (w.heap.size + 1 + 1) (.int .i64 (N : Int)) (.int .i64 (T : Int)) (.slice a3 n3 cp3)) 0 39 5 (.slice a3 n3 cp3) (L ++ [(⟨kd, fr, rd, va, vl⟩ : Vt)]).length (wcs (L ++ [(⟨kd, fr, rd, va, vl⟩ : Vt)]))) := ⟨z2, z3⟩
     obtain ⟨g2, hg2⟩ := HRow.out.hr
     have r0 := hg2.1
     have cz0 := (hg2.2 0 (by decide)).1
     have cz1 := (hg2.2 1 (by decide)).1
     have cz2 := (hg2.2 2 (by decide)).1
     have fz0 := (hg2.2 0 (by decide)).2
     have fz1 := (hg2.2 1 (by decide)).2
     have fz2 := (hg2.2 2 (by decide)).2
     have hv0 := HRow.out.hv.1
     have v0 : y4.cell? ⟨w.heap.size, 0, none⟩ = some (.int .i64 (N : Int)) := (HRow.out.hv.2 0 (by decide)).1
     have v1 : y4.cell? ⟨w.heap.size, 1, none⟩ = some (.int .i64 (T : Int)) := (HRow.out.hv.2 1 (by decide)).1
     have v2' : y4.cell? ⟨w.heap.size, 2, none⟩ = some (.slice a3 n3 cp3) := (HRow.out.hv.2 2 (by decide)).1
     clear z1 z2 z3 hg2 x0 x1 x2
     go_wp2
     refine bodyPost_ret (v := .tuple #[rV N T (.slice a3 n3 cp3), .bool true]) (by simp [results, Try.results35, go_sem, cz0, cz1, cz2]) rfl ⟨_, by rw [Hn.out], by rw [put_ok Hn.out]; exact HZ.out.2, fun b q => .inr (Hu3.out b q), HZ.out.1⟩
    ·go_simp
     have HX1 : Ext y0 (y0.alloc (.cells #[.int .i64 kd, .int .i64 fr, .int .i64 rd, .int .i64 va, .string vl] 39)) := (Ext.refl y0).alloc _
     refine hK.out _ _ HX1 ?_
     clear hK K
     try simp only [sx]
     refine until_one (i := 2) (by kernel_rfl) (by kernel_rfl) rfl rfl (fun K hK => ?_)
     refine app22 (y0.alloc (.cells #[.int .i64 kd, .int .i64 fr, .int .i64 rd, .int .i64 va, .string vl] 39)) _ _ rfl y0.heap.size (.slice none 0 0) 0 [] rfl (World.ownsRow_nil _ _ _ _) (.slice a j cap) j (wcs L) rfl (by have := own_slv (own_ext HS0.hu ((Ext.refl y0).alloc (.cells #[.int .i64 kd, .int .i64 fr, .int .i64 rd, .int .i64 va, .string vl] 39))); rw [HN.out] at this; exact this) (by rw [wcs_len, HN.out]) (wcs_one L) (by have := HN2.out; omega) ((Ext.refl y0).alloc _).size ?_
     intro v2 y2 ho hg hb
     have HX2 : Ext y0 y2 := ext_grown HX1 hg (fun k q => by cases q)
     have HX12 : Ext (y0.alloc (.cells #[.int .i64 kd, .int .i64 fr, .int .i64 rd, .int .i64 va, .string vl] 39)) y2 := ext_grown (Ext.refl _) hg (fun k q => by cases q)
     refine hK.out _ _ HX2 ?_
     clear hK K
     try simp only [sx]
     refine until_one (i := 5) (by kernel_rfl) (by kernel_rfl) rfl rfl (fun K hK => ?_)
     refine app22 y2 _ _ rfl y0.heap.size v2 (0 + j) ([] ++ wcs L) rfl ho (.slice (some ⟨y0.heap.size, 0, none⟩) 1 1) 1 [.int .i64 kd, .int .i64 fr, .int .i64 rd, .int .i64 va, .string vl] rfl ((slv_new y0 #[.int .i64 kd, .int .i64 fr, .int .i64 rd, .int .i64 va, .string vl] 39 1 1 rfl).ext HX12) rfl (one5 _ _ _ _ _) (by have := HN2.out; omega) HX2.size ?_
     intro v3 y3 ho3 hg3 hb3
     have HX3 : Ext y0 y3 := ext_grown HX2 hg3 (fun k q => (ho.lt k q).1)
     have HO3 : y3.ownsRow y0.heap.size 39 5 v3 (L ++ [(⟨kd, fr, rd, va, vl⟩ : Vt)]).length (wcs (L ++ [(⟨kd, fr, rd, va, vl⟩ : Vt)])) := by rw [wcs_snoc, len_snocV, HN.out]; simpa using ho3
     refine hK.out _ _ HX3 ?_
     clear hK K
     try simp only [sx]
     refine takeU (i := 6) (v := ?vc6) ?hyc6 HX3 ?restc6
     case hyc6 => (intro wq hSw; go_simp; try with_reducible rfl)
     try simp only [sx]
     have HS3 := HS0.further HX3
     have hb0 := HS3.hv.1
     have c2 : y3.cell? ⟨w.heap.size, 2, none⟩ = some (.slice a j cap) := (HS3.hv.2 2 (by decide)).1
     have f2 := (HS3.hv.2 2 (by decide)).2
     obtain ⟨a3, cp3, ev⟩ := own_len HO3
     generalize hL3 : (L ++ [(⟨kd, fr, rd, va, vl⟩ : Vt)]).length = n3 at *
     subst ev
     have hy0 : w.heap.size + 3 ≤ y0.heap.size := by
      obtain ⟨g, hg⟩ := HS0.hr
      have := hg.1
      omega
     have HRow : Hid (RP w N T kd fr rd va vl (.slice a3 n3 cp3) (L ++ [(⟨kd, fr, rd, va, vl⟩ : Vt)]) (y3.setCell ⟨w.heap.size, 2, none⟩ (.slice a3 n3 cp3))) := HS3.row (by rw [hL3]; exact own_base HO3 hy0)
     have Hu3 : Hid (∀ b, Value.ownBlock (.slice a3 n3 cp3) = some b → w.heap.size ≤ b) := fun b q => by have := (HO3.lt b q).1; omega
     clear HO3 ho3 hg3 hb3 HS3 ho hg hb hL3
     refine until_last (by kernel_rfl) (by kernel_rfl) rfl rfl (fun K hK => ?_)
     go_simp
     refine hK.out _ _ (NoPanic.normal ?_)
     clear hK K
     try simp only [sx]
     clear c2 f2 hb0 HX3 HS0
     generalize y3.setCell ⟨w.heap.size, 2, none⟩ (.slice a3 n3 cp3) = y4 at *
     obtain ⟨z1, z2, z3⟩ := HRow.out.ret
     have x0 := (z1.2 0 (by decide)).1
     have x1 := (z1.2 1 (by decide)).1
     have x2 := (z1.2 2 (by decide)).1
     simp only [rg] at x0 x1 x2
     have HZ : Hid (Ext w (put3 y4 (w.heap.size + 1 + 1) (.int .i64 (N : Int)) (.int .i64 (T : Int)) (.slice a3 n3 cp3)) ∧ World.ownsRow (put3 y4 (w.heap.size + 1 + 1) (.int .i64 (N : Int)) (.int .i64 (T : Int)) (.slice a3 n3 cp3)) 0 39 5 (.slice a3 n3 cp3) (L ++ [(⟨kd, fr, rd, va, vl⟩ : Vt)]).length (wcs (L ++ [(⟨kd, fr, rd, va, vl⟩ : Vt)]))) := ⟨z2, z3⟩
     obtain ⟨g2, hg2⟩ := HRow.out.hr
     have r0 := hg2.1
     have cz0 := (hg2.2 0 (by decide)).1
     have cz1 := (hg2.2 1 (by decide)).1
     have cz2 := (hg2.2 2 (by decide)).1
     have fz0 := (hg2.2 0 (by decide)).2
     have fz1 := (hg2.2 1 (by decide)).2
     have fz2 := (hg2.2 2 (by decide)).2
     have hv0 := HRow.out.hv.1
     have v0 : y4.cell? ⟨w.heap.size, 0, none⟩ = some (.int .i64 (N : Int)) := (HRow.out.hv.2 0 (by decide)).1
     have v1 : y4.cell? ⟨w.heap.size, 1, none⟩ = some (.int .i64 (T : Int)) := (HRow.out.hv.2 1 (by decide)).1
     have v2' : y4.cell? ⟨w.heap.size, 2, none⟩ = some (.slice a3 n3 cp3) := (HRow.out.hv.2 2 (by decide)).1
     clear z1 z2 z3 hg2 x0 x1 x2
     go_wp2
     refine bodyPost_ret (v := .tuple #[rV N T (.slice a3 n3 cp3), .bool true]) (by simp [results, Try.results35, go_sem, cz0, cz1, cz2]) rfl ⟨_, by rw [Hn.out], by rw [put_ok Hn.out]; exact HZ.out.2, fun b q => .inr (Hu3.out b q), HZ.out.1⟩
 ·go_enter Try.func35, Try.ntmps35
  go_wp2_with fail
  obtain ⟨W0, hW0⟩ : ∃ W0, (((w.alloc (.cells #[.int .i64 (N : Int), .int .i64 (T : Int), .slice a n cap] 32)).alloc (.cells #[.int .i64 kd, .int .i64 fr, .int .i64 rd, .int .i64 va, .string vl] 39)).alloc (.cells #[.int .i64 0, .int .i64 0, .slice none 0 0] 32)) = W0 := ⟨_, rfl⟩
  rw [hW0] at HR0 ⊢
  clear hW0
  go_loopw [6] (fun u6 wr => ∃ j : Nat, j ≤ n ∧ u6 = .int .i64 j ∧ Hid (RP w N T kd fr rd va vl (.slice a n cap) L wr) ∧ Hid (hasV (L.take j) kd rd fr = false)) (fun u6 _ => n - (intOf u6).toNat)
  case atStart => exact ⟨0, Nat.zero_le _, rfl, HR0, rfl⟩
  case round =>
   obtain ⟨j, hj, rfl, HR, HH⟩ := hrel
   clear HR0
   have hv0 := HR.out.hv.1
   have v0 : wr.cell? ⟨w.heap.size, 0, none⟩ = some (.int .i64 (N : Int)) := (HR.out.hv.2 0 (by decide)).1
   have v1 : wr.cell? ⟨w.heap.size, 1, none⟩ = some (.int .i64 (T : Int)) := (HR.out.hv.2 1 (by decide)).1
   have v2 : wr.cell? ⟨w.heap.size, 2, none⟩ = some (.slice a n cap) := (HR.out.hv.2 2 (by decide)).1
   have hw0 := HR.out.hw.1
   have w0 : wr.cell? ⟨w.heap.size + 1, 0, none⟩ = some (.int .i64 kd) := (HR.out.hw.2 0 (by decide)).1
   have w1 : wr.cell? ⟨w.heap.size + 1, 1, none⟩ = some (.int .i64 fr) := (HR.out.hw.2 1 (by decide)).1
   have w2 : wr.cell? ⟨w.heap.size + 1, 2, none⟩ = some (.int .i64 rd) := (HR.out.hw.2 2 (by decide)).1
   by_cases hlt : j < n
   ·obtain ⟨q1, q0, qw⟩ := num2 hlt HN2.out
    obtain ⟨m, hm⟩ : ∃ m, Hid (L[j]? = some m) := ⟨L[j]'(by rw [HN.out]; exact hlt), List.getElem?_eq_getElem _⟩
    have HL2 : WsIs wr (.slice a L.length cap) L := by rw [HN.out]; exact own_ws HR.out.hu
    obtain ⟨g, o, rfl, hbl, hd0, hd1, hd2, hd3, hd4⟩ := HL2.get hm.out
    clear HL2 hd3 hd4
    have HS : Hid (hasV (L.take (j + 1)) kd rd fr = (hasV (L.take j) kd rd fr || decide (m.kd = kd ∧ m.rd = rd ∧ m.fr = fr))) := hasV_step hm.out _ _ _
    by_cases e1 : m.kd = kd
    ·by_cases e2 : m.fr = fr
     ·by_cases e3 : m.rd = rd
      ·have b1 : (m.kd == kd) = true := by simpa using e1
       have b2 : (m.fr == fr) = true := by simpa using e2
       have b3 : (m.rd == rd) = true := by simpa using e3
       have Hn : Hid (okV N L ⟨kd, fr, rd, va, vl⟩ = false) := by show _ = _; unfold okV; rw [has_at hm.out e1 e3 e2]; simp
       obtain ⟨g2, hg2⟩ := HR.out.hr
       obtain ⟨y1, y2, y3⟩ := (HR.out.further ((Ext.refl wr).drewN 0)).ret
       have r0 := hg2.1
       have HRq : Hid (∀ q, RP w N T kd fr rd va vl (.slice (some ⟨g, o, none⟩) n cap) L (wr.drewN q)) := fun q => HR.out.further ((Ext.refl wr).drewN q)
       have cz0 := (hg2.2 0 (by decide)).1
       have cz1 := (hg2.2 1 (by decide)).1
       have cz2 := (hg2.2 2 (by decide)).1
       have fz0 := (hg2.2 0 (by decide)).2
       have fz1 := (hg2.2 1 (by decide)).2
       have fz2 := (hg2.2 2 (by decide)).2
       clear e1 e2 e3 y1 y2 y3 hg2
       go_wp2_with fail
       go_quiet (fail)
       go_wp2
       obtain ⟨y1, y2, y3⟩ := (HRq.out nq).ret
       have x0 := (y1.2 0 (by decide)).1
       have x1 := (y1.2 1 (by decide)).1
       have x2 := (y1.2 2 (by decide)).1
       simp only [rg] at x0 x1 x2
       refine bodyPost_ret (v := .tuple #[rV N T (.slice (some ⟨g, o, none⟩) n cap), .bool false]) (by simp [results, Try.results35, go_sem, cz0, cz1, cz2]) rfl ⟨_, by rw [Hn.out], by rw [put_no Hn.out]; exact y3, fun b q => .inl q, y2⟩
      ·have b1 : (m.kd == kd) = true := by simpa using e1
       have b2 : (m.fr == fr) = true := by simpa using e2
       have b3 : (m.rd == rd) = false := by simpa using e3
       have HS2 : Hid (hasV (L.take (j + 1)) kd rd fr = false) := by show _ = _; rw [HS.out, HH.out, decide_eq_false (fun z => e3 z.2.1)]; rfl
       clear e1 e2 e3 HS
       go_wp2_with fail
       go_quiet (fail)
       go_wp2
       go_roundw
       case rel => exact ⟨j + 1, hlt, by push_cast; rfl, HR.out.further ((Ext.refl wr).drewN _), HS2⟩
       case measure => exact lp_meas hlt
     ·have b1 : (m.kd == kd) = true := by simpa using e1
      have b2 : (m.fr == fr) = false := by simpa using e2
      have HS2 : Hid (hasV (L.take (j + 1)) kd rd fr = false) := by show _ = _; rw [HS.out, HH.out, decide_eq_false (fun z => e2 z.2.2)]; rfl
      clear e1 e2 HS
      go_wp2_with fail
      go_quiet (fail)
      go_wp2
      go_roundw
      case rel => exact ⟨j + 1, hlt, by push_cast; rfl, HR.out.further ((Ext.refl wr).drewN _), HS2⟩
      case measure => exact lp_meas hlt
    ·have b1 : (m.kd == kd) = false := by simpa using e1
     have HS2 : Hid (hasV (L.take (j + 1)) kd rd fr = false) := by show _ = _; rw [HS.out, HH.out, decide_eq_false (fun z => e1 z.1)]; rfl
     clear e1 HS
     go_wp2_with fail
     go_quiet (fail)
     go_wp2
     go_roundw
     case rel => exact ⟨j + 1, hlt, by push_cast; rfl, HR.out.further ((Ext.refl wr).drewN _), HS2⟩
     case measure => exact lp_meas hlt
   ·obtain rfl : j = n := by omega
    have hnl : ¬ (j : Int) < (j : Int) := by omega
    have HF : Hid (L.take j = L) := List.take_of_length_le (by rw [HN.out]; exact Nat.le_refl _)
    have Hn : Hid (okV N L ⟨kd, fr, rd, va, vl⟩ = true) := by
     show _ = _
     have := HH.out
     rw [HF.out] at this
     unfold okV
     rw [Hm.out, this]
     rfl
    go_upto_region 8 with fail
    clear hv0 v0 v1 v2 hw0 w0 w1 w2 HH HF hnl
    have HS0 : RP w N T kd fr rd va vl (.slice a j cap) L wr.drew := HR.out.further (Ext.refl wr).drew
    clear HR
    refine wp_region_noPanic ?_
    refine wp_region_until (X := 7) (S := Ext wr.drew) (by kernel_rfl) ?_
    generalize wr.drew = y0 at *
    have hE : Ext y0 y0 := Ext.refl y0
    refine takeU (i := 0) (v := ?vd0) ?hyd0 hE ?restd0
    case hyd0 => (intro wq hSw; go_simp; try with_reducible rfl)
    try simp only [sx]
    refine takeU (i := 1) (v := ?vd1) ?hyd1 hE ?restd1
    case hyd1 => (intro wq hSw; have v2 := (((HS0.further hSw).hv).2 2 (by decide)).1; have hv0 := (HS0.further hSw).hv.1; simp only [rg] at v2; go_simp; try with_reducible rfl)
    try simp only [sx]
    refine takeU (i := 3) (v := ?vd3) ?hyd3 hE ?restd3
    case hyd3 => (intro wq hSw; have w0 := (((HS0.further hSw).hw).2 0 (by decide)).1; have w1 := (((HS0.further hSw).hw).2 1 (by decide)).1; have w2 := (((HS0.further hSw).hw).2 2 (by decide)).1; have w3 := (((HS0.further hSw).hw).2 3 (by decide)).1; have w4 := (((HS0.further hSw).hw).2 4 (by decide)).1; have hw0 := (HS0.further hSw).hw.1; simp only [wg] at w0 w1 w2 w3 w4; go_simp; try with_reducible rfl)
    try simp only [sx]
    refine until_two (i := 2) (k := 4) (by kernel_rfl) (by kernel_rfl) (by kernel_rfl) rfl rfl rfl rfl (fun K hK => ?_) (fun K hK => ?_)
    ·refine app22 y0 _ _ rfl y0.heap.size (.slice none 0 0) 0 [] rfl (World.ownsRow_nil _ _ _ _) (.slice a j cap) j (wcs L) rfl (by have := own_slv HS0.hu; rw [HN.out] at this; exact this) (by rw [wcs_len, HN.out]) (wcs_one L) (by have := HN2.out; omega) (Nat.le_refl _) ?_
     intro v2 y1 ho hg hb
     have HX1 : Ext y0 y1 := ext_grown (Ext.refl y0) hg (fun k q => by cases q)
     refine hK.out _ _ HX1 ?_
     clear hK K
     try simp only [sx]
     refine until_one (i := 4) (by kernel_rfl) (by kernel_rfl) rfl rfl (fun K hK => ?_)
     go_simp
     have HX2 : Ext y0 (y1.alloc (.cells #[.int .i64 kd, .int .i64 fr, .int .i64 rd, .int .i64 va, .string vl] 39)) := HX1.alloc _
     refine hK.out _ _ HX2 ?_
     clear hK K
     try simp only [sx]
     refine until_one (i := 5) (by kernel_rfl) (by kernel_rfl) rfl rfl (fun K hK => ?_)
     refine app22 (y1.alloc (.cells #[.int .i64 kd, .int .i64 fr, .int .i64 rd, .int .i64 va, .string vl] 39)) _ _ rfl y0.heap.size v2 (0 + j) ([] ++ wcs L) rfl (ho.alloc _) (.slice (some ⟨y1.heap.size, 0, none⟩) 1 1) 1 [.int .i64 kd, .int .i64 fr, .int .i64 rd, .int .i64 va, .string vl] rfl (slv_new _ _ _ _ _ rfl) rfl (one5 _ _ _ _ _) (by have := HN2.out; omega) (Nat.le_trans HX1.size ((Ext.refl y1).alloc _).size) ?_
     intro v3 y3 ho3 hg3 hb3
     have HX3 : Ext y0 y3 := ext_grown HX2 hg3 (fun k q => (ho.lt k q).1)
     have HO3 : y3.ownsRow y0.heap.size 39 5 v3 (L ++ [(⟨kd, fr, rd, va, vl⟩ : Vt)]).length (wcs (L ++ [(⟨kd, fr, rd, va, vl⟩ : Vt)])) := by rw [wcs_snoc, len_snocV, HN.out]; simpa using ho3
     refine hK.out _ _ HX3 ?_
     clear hK K
     try simp only [sx]
     refine takeU (i := 6) (v := ?ve6) ?hye6 HX3 ?reste6
     case hye6 => (intro wq hSw; go_simp; try with_reducible rfl)
     try simp only [sx]
     have HS3 := HS0.further HX3
     have hb0 := HS3.hv.1
     have c2 : y3.cell? ⟨w.heap.size, 2, none⟩ = some (.slice a j cap) := (HS3.hv.2 2 (by decide)).1
     have f2 := (HS3.hv.2 2 (by decide)).2
     obtain ⟨a3, cp3, ev⟩ := own_len HO3
     generalize hL3 : (L ++ [(⟨kd, fr, rd, va, vl⟩ : Vt)]).length = n3 at *
     subst ev
     have hy0 : w.heap.size + 3 ≤ y0.heap.size := by
      obtain ⟨g, hg⟩ := HS0.hr
      have := hg.1
      omega
     have HRow : Hid (RP w N T kd fr rd va vl (.slice a3 n3 cp3) (L ++ [(⟨kd, fr, rd, va, vl⟩ : Vt)]) (y3.setCell ⟨w.heap.size, 2, none⟩ (.slice a3 n3 cp3))) := HS3.row (by rw [hL3]; exact own_base HO3 hy0)
     have Hu3 : Hid (∀ b, Value.ownBlock (.slice a3 n3 cp3) = some b → w.heap.size ≤ b) := fun b q => by have := (HO3.lt b q).1; omega
     clear HO3 ho3 hg3 hb3 HS3 ho hg hb hL3
     refine until_last (by kernel_rfl) (by kernel_rfl) rfl rfl (fun K hK => ?_)
     go_simp
     refine hK.out _ _ (NoPanic.normal ?_)
     clear hK K
     try simp only [sx]
     clear c2 f2 hb0 HX3 HS0
     generalize y3.setCell ⟨w.heap.size, 2, none⟩ (.slice a3 n3 cp3) = y4 at *
     obtain ⟨z1, z2, z3⟩ := HRow.out.ret
     have x0 := (z1.2 0 (by decide)).1
     have x1 := (z1.2 1 (by decide)).1
     have x2 := (z1.2 2 (by decide)).1
     simp only [rg] at x0 x1 x2
     have HZ : Hid (Ext w (put3 y4 (w.heap.size + 1 + 1) (.int .i64 (N : Int)) (.int .i64 (T : Int)) (.slice a3 n3 cp3)) ∧ World.ownsRow (put3 y4 (w.heap.size + 1 + 1) (.int .i64 (N : Int)) (.int .i64 (T : Int)) (.slice a3 n3 cp3)) 0 39 5 (.slice a3 n3 cp3) (L ++ [(⟨kd, fr, rd, va, vl⟩ : Vt)]).length (wcs (L ++ [(⟨kd, fr, rd, va, vl⟩ : Vt)]))) := ⟨z2, z3⟩
     obtain ⟨g2, hg2⟩ := HRow.out.hr
     have r0 := hg2.1
     have cz0 := (hg2.2 0 (by decide)).1
     have cz1 := (hg2.2 1 (by decide)).1
     have cz2 := (hg2.2 2 (by decide)).1
     have fz0 := (hg2.2 0 (by decide)).2
     have fz1 := (hg2.2 1 (by decide)).2
     have fz2 := (hg2.2 2 (by decide)).2
     have hv0 := HRow.out.hv.1
     have v0 : y4.cell? ⟨w.heap.size, 0, none⟩ = some (.int .i64 (N : Int)) := (HRow.out.hv.2 0 (by decide)).1
     have v1 : y4.cell? ⟨w.heap.size, 1, none⟩ = some (.int .i64 (T : Int)) := (HRow.out.hv.2 1 (by decide)).1
     have v2' : y4.cell? ⟨w.heap.size, 2, none⟩ = some (.slice a3 n3 cp3) := (HRow.out.hv.2 2 (by decide)).1
     clear z1 z2 z3 hg2 x0 x1 x2
     go_wp2
     refine bodyPost_ret (v := .tuple #[rV N T (.slice a3 n3 cp3), .bool true]) (by simp [results, Try.results35, go_sem, cz0, cz1, cz2]) rfl ⟨_, by rw [Hn.out], by rw [put_ok Hn.out]; exact HZ.out.2, fun b q => .inr (Hu3.out b q), HZ.out.1⟩
    ·go_simp
     have HX1 : Ext y0 (y0.alloc (.cells #[.int .i64 kd, .int .i64 fr, .int .i64 rd, .int .i64 va, .string vl] 39)) := (Ext.refl y0).alloc _
     refine hK.out _ _ HX1 ?_
     clear hK K
     try simp only [sx]
     refine until_one (i := 2) (by kernel_rfl) (by kernel_rfl) rfl rfl (fun K hK => ?_)
     refine app22 (y0.alloc (.cells #[.int .i64 kd, .int .i64 fr, .int .i64 rd, .int .i64 va, .string vl] 39)) _ _ rfl y0.heap.size (.slice none 0 0) 0 [] rfl (World.ownsRow_nil _ _ _ _) (.slice a j cap) j (wcs L) rfl (by have := own_slv (own_ext HS0.hu ((Ext.refl y0).alloc (.cells #[.int .i64 kd, .int .i64 fr, .int .i64 rd, .int .i64 va, .string vl] 39))); rw [HN.out] at this; exact this) (by rw [wcs_len, HN.out]) (wcs_one L) (by have := HN2.out; omega) ((Ext.refl y0).alloc _).size ?_
     intro v2 y2 ho hg hb
     have HX2 : Ext y0 y2 := ext_grown HX1 hg (fun k q => by cases q)
     have HX12 : Ext (y0.alloc (.cells #[.int .i64 kd, .int .i64 fr, .int .i64 rd, .int .i64 va, .string vl] 39)) y2 := ext_grown (Ext.refl _) hg (fun k q => by cases q)
     refine hK.out _ _ HX2 ?_
     clear hK K
     try simp only [sx]
     refine until_one (i := 5) (by kernel_rfl) (by kernel_rfl) rfl rfl (fun K hK => ?_)
     refine app22 y2 _ _ rfl y0.heap.size v2 (0 + j) ([] ++ wcs L) rfl ho (.slice (some ⟨y0.heap.size, 0, none⟩) 1 1) 1 [.int .i64 kd, .int .i64 fr, .int .i64 rd, .int .i64 va, .string vl] rfl ((slv_new y0 #[.int .i64 kd, .int .i64 fr, .int .i64 rd, .int .i64 va, .string vl] 39 1 1 rfl).ext HX12) rfl (one5 _ _ _ _ _) (by have := HN2.out; omega) HX2.size ?_
     intro v3 y3 ho3 hg3 hb3
     have HX3 : Ext y0 y3 := ext_grown HX2 hg3 (fun k q => (ho.lt k q).1)
     have HO3 : y3.ownsRow y0.heap.size 39 5 v3 (L ++ [(⟨kd, fr, rd, va, vl⟩ : Vt)]).length (wcs (L ++ [(⟨kd, fr, rd, va, vl⟩ : Vt)])) := by rw [wcs_snoc, len_snocV, HN.out]; simpa using ho3
     refine hK.out _ _ HX3 ?_
     clear hK K
     try simp only [sx]
     refine takeU (i := 6) (v := ?vf6) ?hyf6 HX3 ?restf6
     case hyf6 => (intro wq hSw; go_simp; try with_reducible rfl)
     try simp only [sx]
     have HS3 := HS0.further HX3
     have hb0 := HS3.hv.1
     have c2 : y3.cell? ⟨w.heap.size, 2, none⟩ = some (.slice a j cap) := (HS3.hv.2 2 (by decide)).1
     have f2 := (HS3.hv.2 2 (by decide)).2
     obtain ⟨a3, cp3, ev⟩ := own_len HO3
     generalize hL3 : (L ++ [(⟨kd, fr, rd, va, vl⟩ : Vt)]).length = n3 at *
     subst ev
     have hy0 : w.heap.size + 3 ≤ y0.heap.size := by
      obtain ⟨g, hg⟩ := HS0.hr
      have := hg.1
      omega
     have HRow : Hid (RP w N T kd fr rd va vl (.slice a3 n3 cp3) (L ++ [(⟨kd, fr, rd, va, vl⟩ : Vt)]) (y3.setCell ⟨w.heap.size, 2, none⟩ (.slice a3 n3 cp3))) := HS3.row (by rw [hL3]; exact own_base HO3 hy0)
     have Hu3 : Hid (∀ b, Value.ownBlock (.slice a3 n3 cp3) = some b → w.heap.size ≤ b) := fun b q => by have := (HO3.lt b q).1; omega
     clear HO3 ho3 hg3 hb3 HS3 ho hg hb hL3
     refine until_last (by kernel_rfl) (by kernel_rfl) rfl rfl (fun K hK => ?_)
     go_simp
     refine hK.out _ _ (NoPanic.normal ?_)
     clear hK K
     try simp only [sx]
     clear c2 f2 hb0 HX3 HS0
     generalize y3.setCell ⟨w.heap.size, 2, none⟩ (.slice a3 n3 cp3) = y4 at *
     obtain ⟨z1, z2, z3⟩ := HRow.out.ret
     have x0 := (z1.2 0 (by decide)).1
     have x1 := (z1.2 1 (by decide)).1
     have x2 := (z1.2 2 (by decide)).1
     simp only [rg] at x0 x1 x2
     have HZ : Hid (Ext w (put3 y4 (w.heap.size + 1 + 1) (.int .i64 (N : Int)) (.int .i64 (T : Int)) (.slice a3 n3 cp3)) ∧ World.ownsRow (put3 y4 (w.heap.size + 1 + 1) (.int .i64 (N : Int)) (.int .i64 (T : Int)) (.slice a3 n3 cp3)) 0 39 5 (.slice a3 n3 cp3) (L ++ [(⟨kd, fr, rd, va, vl⟩ : Vt)]).length (wcs (L ++ [(⟨kd, fr, rd, va, vl⟩ : Vt)]))) := ⟨z2, z3⟩
     obtain ⟨g2, hg2⟩ := HRow.out.hr
     have r0 := hg2.1
     have cz0 := (hg2.2 0 (by decide)).1
     have cz1 := (hg2.2 1 (by decide)).1
     have cz2 := (hg2.2 2 (by decide)).1
     have fz0 := (hg2.2 0 (by decide)).2
     have fz1 := (hg2.2 1 (by decide)).2
     have fz2 := (hg2.2 2 (by decide)).2
     have hv0 := HRow.out.hv.1
     have v0 : y4.cell? ⟨w.heap.size, 0, none⟩ = some (.int .i64 (N : Int)) := (HRow.out.hv.2 0 (by decide)).1
     have v1 : y4.cell? ⟨w.heap.size, 1, none⟩ = some (.int .i64 (T : Int)) := (HRow.out.hv.2 1 (by decide)).1
     have v2' : y4.cell? ⟨w.heap.size, 2, none⟩ = some (.slice a3 n3 cp3) := (HRow.out.hv.2 2 (by decide)).1
     clear z1 z2 z3 hg2 x0 x1 x2
     go_wp2
     refine bodyPost_ret (v := .tuple #[rV N T (.slice a3 n3 cp3), .bool true]) (by simp [results, Try.results35, go_sem, cz0, cz1, cz2]) rfl ⟨_, by rw [Hn.out], by rw [put_ok Hn.out]; exact HZ.out.2, fun b q => .inr (Hu3.out b q), HZ.out.1⟩
theorem rput_any {N T : Nat} {L : List Vt} (m : Vt) (u : Value) (hn2 : L.length ≤ 1000) (w : World) (hu : w.ownsRow 0 39 5 u L.length (wcs L)) : Calls Try.prog 35 #[rV N T u, wv m] w fun e w' => RpP N T L m u w e w' := by
 obtain ⟨a, cap, rfl⟩ := own_len hu
 obtain ⟨kd, fr, rd, va, vl⟩ := m
 by_cases hm : mayV N ⟨kd, fr, rd, va, vl⟩ = true
 ·exact rput_good kd fr rd va vl a _ cap rfl hn2 hm w hu
 ·exact rput_bad kd fr rd va vl a _ cap (by simpa using hm) w hu
end Go.Proofs.Ytmanacbdldfmfaa
