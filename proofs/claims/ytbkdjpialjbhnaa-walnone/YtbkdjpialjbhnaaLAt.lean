/-
  A log of package wal: where it lies; New, Append, Sync, All, Sure, called.
-/
import Derived.Test.YtbkdjpialjbhnaaDFace
import Derived.Test.YtbkdjpialjbhnaaRPre
import Derived.Test.YtbkdjpialjbhnaaLMath
import Derived.Test.YtbkdjpialjbhnaaHeld
namespace Go.Proofs.Ytbkdjpialjbhnaa
open Go.RowKit
theorem Chg.wide {F G : Nat → Prop} {w w' : World} (h : Chg G w w') (hs : ∀ k, G k → F k) : Chg F w w' := ⟨h.os, h.tape, h.output, h.size, fun k hk hn => h.block k hk (fun q => hn (hs k q))⟩
/-- v points to a log whose disk holds T, of which y bytes are synced; its blocks are F. -/
def WAtT (w : World) (v : Value) (T : ByteArray) (y : Nat) (F : Nat → Prop) : Prop :=
  ∃ b d G, v = .pointer (some ⟨b, 0, none⟩) ∧ b < w.heap.size ∧ w.cell? ⟨b, 0, none⟩ = some (.pointer (some d)) ∧ w.frozen? ⟨b, 0, none⟩ = false ∧ DAt w (.pointer (some d)) T y G ∧ ¬ G b ∧ F = fun k => k = b ∨ G k
/-- v points to a log of the records l, of which n are sure. -/
def WAt (w : World) (v : Value) (l : List ByteArray) (n : Nat) (F : Nat → Prop) : Prop := WAtT w v (lg l) (wy l n) F
theorem WAtT.lt {w : World} {v : Value} {T : ByteArray} {y : Nat} {F : Nat → Prop} (h : WAtT w v T y F) : ∀ k, F k → k < w.heap.size := by
  obtain ⟨b, d, G, rfl, hb, h0, h1, h2, h3, rfl⟩ := h
  rintro k (rfl | hk)
  · exact hb
  · exact h2.lt k hk
theorem WAtT.keep {w w' : World} {v : Value} {T : ByteArray} {y : Nat} {F : Nat → Prop} (h : WAtT w v T y F) (hs : w.heap.size ≤ w'.heap.size) (hk : ∀ k, F k → w'.heap[k]? = w.heap[k]?) : WAtT w' v T y F := by
  obtain ⟨b, d, G, rfl, hb, h0, h1, h2, h3, rfl⟩ := h
  have e := hk b (.inl rfl)
  exact ⟨b, d, G, rfl, by omega, (World.cell?_of_block (a := ⟨b, 0, none⟩) e).trans h0, (World.frozen?_of_block (a := ⟨b, 0, none⟩) e).trans h1, h2.keep hs (fun k q => hk k (.inr q)), h3, rfl⟩
theorem WAtT.form {w : World} {v : Value} {T : ByteArray} {y : Nat} {F : Nat → Prop} (h : WAtT w v T y F) : ∃ a, v = .pointer (some a) := by
  obtain ⟨b, d, G, rfl, _⟩ := h
  exact ⟨_, rfl⟩
theorem WAtT.ext {w w' : World} {v : Value} {T : ByteArray} {y : Nat} {F : Nat → Prop} (h : WAtT w v T y F) (hx : Ext w w') : WAtT w' v T y F := h.keep hx.size fun k hk => Below.block hx k (h.lt k hk)
theorem WAtT.far {w w' : World} {v : Value} {T : ByteArray} {y : Nat} {F G : Nat → Prop} (h : WAtT w v T y F) (hx : Chg G w w') (ha : Asunder F G) : WAtT w' v T y F := h.keep hx.size fun k hk => hx.block k (h.lt k hk) (fun q => ha k hk q)
/-- What is left of a log by a call on its disk. -/
theorem WAtT.step {w w' : World} {b : Nat} {d : Addr} {G G' : Nat → Prop} {T : ByteArray} {y : Nat} (hb : b < w.heap.size) (h0 : w.cell? ⟨b, 0, none⟩ = some (.pointer (some d))) (h1 : w.frozen? ⟨b, 0, none⟩ = false) (hn : ¬ G b) (hd : DAt w' (.pointer (some d)) T y G') (hs : Sub G' G w) (hc : Chg G w w') :
    WAtT w' (.pointer (some ⟨b, 0, none⟩)) T y (fun k => k = b ∨ G' k) ∧ Sub (fun k => k = b ∨ G' k) (fun k => k = b ∨ G k) w ∧ Chg (fun k => k = b ∨ G k) w w' := by
  refine ⟨⟨b, d, G', rfl, Nat.lt_of_lt_of_le hb hc.size, (hc.cell hb hn).trans h0, (hc.frozen hb hn).trans h1, hd, fun q => ?_, rfl⟩, ?_, hc.wide fun k q => .inr q⟩
  · rcases hs b q with p | p
    · exact hn p
    · omega
  · rintro k (rfl | hk)
    · exact .inl (.inl rfl)
    · rcases hs k hk with p | p
      · exact .inl (.inr p)
      · exact .inr p
/-- What a call on a log leaves. -/
def WPo (w : World) (v : Value) (F : Nat → Prop) (T : ByteArray) (y : Nat) (w' : World) : Prop := ∃ F', WAtT w' v T y F' ∧ Sub F' F w ∧ Chg F w w'
theorem WPo.same {w w' : World} {v : Value} {F : Nat → Prop} {T : ByteArray} {y : Nat} (h : WAtT w v T y F) (hx : Ext w w') : WPo w v F T y w' := ⟨F, h.ext hx, Sub.refl _ _, Chg.of_ext F hx⟩
theorem WPo.then {w w1 w' : World} {v : Value} {F : Nat → Prop} {T T1 : ByteArray} {y y1 : Nat} (h : WPo w v F T1 y1 w1) (k : ∀ F1, WAtT w1 v T1 y1 F1 → WPo w1 v F1 T y w') : WPo w v F T y w' := by
  obtain ⟨F1, a1, a2, a3⟩ := h
  obtain ⟨F2, b1, b2, b3⟩ := k F1 a1
  exact ⟨F2, b1, a2.trans b2 a3.size, a3.trans b3 a2⟩
theorem WPo.ext {w w1 w' : World} {v : Value} {F : Nat → Prop} {T : ByteArray} {y : Nat} (h : WPo w v F T y w1) (hx : Ext w1 w') : WPo w v F T y w' := h.then fun _ q => WPo.same q hx
theorem WPo.of_ext {w w1 w' : World} {v : Value} {F : Nat → Prop} {T : ByteArray} {y : Nat} (hx : Ext w w1) (h : WPo w1 v F T y w') : WPo w v F T y w' := by
  obtain ⟨F2, b1, b2, b3⟩ := h
  exact ⟨F2, b1, (Sub.refl F w).trans b2 hx.size, (Chg.of_ext F hx).trans b3 (Sub.refl _ _)⟩
set_option maxHeartbeats 1000000 in
theorem wnew_any (w : World) : Calls Try.prog 10 #[] w fun e w' => ∃ v F, e = .returned v ∧ WAt w' v [] 0 F ∧ From F w.heap.size ∧ Ext w w' := by
  go_enter Try.func10, Try.ntmps10
  go_wp2_with fail
  refine (dnew_any _).mono ?_
  rintro e w1 ⟨v, G, rfl, HD, HF, HX⟩
  obtain ⟨d, rfl⟩ := HD.form
  have HP : Hid (∃ F, WAt (w1.alloc (.cells #[.pointer (some d)] 55)) (.pointer (some ⟨w1.heap.size, 0, none⟩)) [] 0 F ∧ From F w.heap.size ∧ Ext w (w1.alloc (.cells #[.pointer (some d)] 55))) := by
    refine ⟨_, ⟨w1.heap.size, d, G, rfl, by simp, ?_, World.frozen?_alloc_at _ _ _ _ rfl, HD.ext ((Ext.refl _).alloc _), fun q => by have := HD.lt _ q; omega, rfl⟩, ?_, HX.alloc _⟩
    · rw [World.cell?_alloc_at _ _ _ _ rfl]; rfl
    · rintro k (rfl | hk)
      · exact HX.size
      · exact HF k hk
  clear HD HF HX
  go_wp2
  go_ret
  obtain ⟨F, q1, q2, q3⟩ := HP.out
  exact ⟨_, F, rfl, q1, q2, q3⟩
set_option maxHeartbeats 1000000 in
theorem wsync_any {v : Value} {T : ByteArray} {y : Nat} {F : Nat → Prop} (hk : dOk T y) (w : World) (h : WAtT w v T y F) :
    Calls Try.prog 11 #[v] w fun e w' => e = .returned (.tuple #[]) ∧ WPo w v F T T.size w' := by
  obtain ⟨b, d, G, rfl, hb, h0, h1, h2, h3, rfl⟩ := h
  have HC : Hid (Calls Try.prog 22 #[.pointer (some d), .agg #[.int .i64 2, .string ⟨#[]⟩, .int .u64 0]] w fun e w' => ∃ F', e = .returned (.int .i64 0) ∧ DAt w' (.pointer (some d)) T T.size F' ∧ Sub F' G w ∧ Chg G w w') := ddo_any 2 ⟨#[]⟩ 0 hk (by decide) w h2
  have HP : Hid (∀ w' G', DAt w' (.pointer (some d)) T T.size G' → Sub G' G w → Chg G w w' → WPo w (.pointer (some ⟨b, 0, none⟩)) (fun k => k = b ∨ G k) T T.size w') := fun w' G' a1 a2 a3 => ⟨_, WAtT.step hb h0 h1 h3 a1 a2 a3⟩
  clear h1 h2 h3
  go_enter Try.func11, Try.ntmps11
  go_wp2_with fail
  refine HC.out.mono ?_
  rintro e w1 ⟨G', rfl, a1, a2, a3⟩
  have HQ := HP.out w1 G' a1 a2 a3
  clear HP HC a1 a2 a3 h0 hb
  go_wp2
  refine bodyPost_end (v := .tuple #[]) (by simp [results, Try.results11, go_sem]) rfl ⟨rfl, HQ⟩
set_option maxHeartbeats 1000000 in
theorem wsync_nil (w : World) : Calls Try.prog 11 #[.pointer none] w fun e w' => e = .returned (.tuple #[]) ∧ Ext w w' := by
  go_enter Try.func11, Try.ntmps11
  go_wp2
  refine bodyPost_ret (v := .tuple #[]) (by simp [results, Try.results11, go_sem]) rfl ⟨rfl, Ext.refl w⟩
set_option maxHeartbeats 1000000 in
theorem wcrash_nil (K : Nat) (w : World) : Calls Try.prog 13 #[.pointer none, .int .u64 (K : Int)] w fun e w' => e = .returned (.tuple #[]) ∧ Ext w w' := by
  go_enter Try.func13, Try.ntmps13
  go_wp2
  refine bodyPost_ret (v := .tuple #[]) (by simp [results, Try.results13, go_sem]) rfl ⟨rfl, Ext.refl w⟩
set_option maxHeartbeats 1000000 in
theorem wappend_nil (s : ByteArray) (w : World) : Calls Try.prog 16 #[.pointer none, .string s] w fun e w' => e = .returned (.int .i64 1) ∧ Ext w w' := by
  go_enter Try.func16, Try.ntmps16
  go_wp2
  go_ret
  exact ⟨rfl, Ext.refl w⟩
set_option maxHeartbeats 1000000 in
theorem wall_nil (w : World) : Calls Try.prog 18 #[.pointer none] w fun e w' => e = .returned (.slice none 0 0) ∧ Ext w w' := by
  go_enter Try.func18, Try.ntmps18
  go_wp2
  go_ret
  exact ⟨rfl, Ext.refl w⟩
set_option maxHeartbeats 1000000 in
theorem wsure_nil (w : World) : Calls Try.prog 19 #[.pointer none] w fun e w' => e = .returned (.int .i64 0) ∧ Ext w w' := by
  go_enter Try.func19, Try.ntmps19
  go_wp2
  go_ret
  exact ⟨rfl, Ext.refl w⟩
/-- What Append leaves. -/
def AppP (w : World) (v : Value) (F : Nat → Prop) (l : List ByteArray) (n : Nat) (s : ByteArray) (e : Ending) (w' : World) : Prop := e = .returned (.int .i64 (wApp l s).2) ∧ WPo w v F (lg (wApp l s).1) (wy (wApp l s).1 n) w'
theorem appP_of {w w' : World} {v : Value} {F : Nat → Prop} {l l' : List ByteArray} {n : Nat} {s : ByteArray} {e : Ending} {r : Int} (h : wApp l s = (l', r)) (he : e = .returned (.int .i64 r)) (hp : WPo w v F (lg l') (wy l' n) w') : AppP w v F l n s e w' := by
  unfold AppP
  rw [h]
  exact ⟨he, hp⟩
set_option maxHeartbeats 1000000 in
theorem wappend_any {v : Value} {l : List ByteArray} {n : Nat} {F : Nat → Prop} (s : ByteArray) (hk : wOk l n) (w : World) (h : WAt w v l n F) :
    Calls Try.prog 16 #[v, .string s] w fun e w' => AppP w v F l n s e w' := by
  have HW : Hid (WAtT w v (lg l) (wy l n) F) := h
  obtain ⟨b, d, G, rfl, hb, h0, h1, h2, h3, rfl⟩ := h
  by_cases hl : 4096 < s.size
  · have HC : Hid (∀ W, Calls Try.prog 28 #[.string s] W fun e w' => e = .returned (.tuple #[.string ⟨#[]⟩, .int .i64 2]) ∧ Ext W w') := fun W => cframe_bad s hl W
    have HR : Hid (wApp l s = (l, 2)) := wApp_long hl
    clear h0 h1 h2 h3
    go_enter Try.func16, Try.ntmps16
    go_wp2_with fail
    refine (HC.out _).mono ?_
    rintro e w1 ⟨rfl, HX⟩
    have HQ := WPo.same HW.out HX
    clear HX HW HC
    go_wp2
    go_ret
    exact appP_of HR.out rfl HQ
  · have HC : Hid (∀ W, Calls Try.prog 28 #[.string s] W fun e w' => e = .returned (.tuple #[.string (frm s), .int .i64 0]) ∧ Ext W w') := fun W => cframe_good s (by omega) W
    have HD : Hid (∀ W, Ext w W → Calls Try.prog 22 #[.pointer (some d), .agg #[.int .i64 1, .string (frm s), .int .u64 0]] W fun e w' => ∃ F', e = .returned (.int .i64 (dDo (lg l) (wy l n) 1 (frm s) 0).2.2) ∧ DAt w' (.pointer (some d)) (dDo (lg l) (wy l n) 1 (frm s) 0).1 (dDo (lg l) (wy l n) 1 (frm s) 0).2.1 F' ∧ Sub F' G W ∧ Chg G W w') := fun W hx => ddo_any 1 (frm s) 0 hk.disk (by decide) W (h2.ext hx)
    have HP : Hid (∀ W T y w' G', Ext w W → DAt w' (.pointer (some d)) T y G' → Sub G' G W → Chg G W w' → WPo w (.pointer (some ⟨b, 0, none⟩)) (fun k => k = b ∨ G k) T y w') := fun W T y w' G' hx a1 a2 a3 =>
      WPo.of_ext hx ⟨_, WAtT.step (Nat.lt_of_lt_of_le hb hx.size) (later hx h0) ((World.frozen?_of_block (a := ⟨b, 0, none⟩) (Below.block hx b hb)).trans h1) h3 a1 a2 a3⟩
    by_cases hz : 65536 < (lg l).size + (s.size + 8)
    · have HR : Hid (wApp l s = (l, 7)) := wApp_full hl hz
      have e : dDo (lg l) (wy l n) 1 (frm s) 0 = (lg l, wy l n, 2) := by unfold dDo; rw [if_pos rfl, if_pos (by rw [frm_size]; exact hz)]
      rw [e] at HD
      clear e h1 h2 h3
      generalize frm s = f at *
      go_enter Try.func16, Try.ntmps16
      go_wp2_with fail
      refine (HC.out _).mono ?_
      rintro e w1 ⟨rfl, HX⟩
      have h9 := later HX h0
      have hb9 := Nat.lt_of_lt_of_le hb HX.size
      have HXw : Hid (Ext w w1) := HX
      clear HX HC h0 hb
      go_wp2_with fail
      refine (HD.out _ HXw.out).mono ?_
      rintro e w2 ⟨G', rfl, a1, a2, a3⟩
      have HQ := HP.out w1 _ _ w2 G' HXw.out a1 a2 a3
      clear HP HD a1 a2 a3 h9 hb9 HXw
      go_wp2
      go_ret
      exact appP_of HR.out rfl HQ
    · have HR : Hid (wApp l s = (l ++ [s], 0)) := wApp_good hl hz
      have e : dDo (lg l) (wy l n) 1 (frm s) 0 = (lg (l ++ [s]), wy (l ++ [s]) n, 0) := by unfold dDo; rw [if_pos rfl, if_neg (by rw [frm_size]; exact hz), lg_snoc, wy_app hk.2.2]
      rw [e] at HD
      clear e h1 h2 h3
      generalize frm s = f at *
      go_enter Try.func16, Try.ntmps16
      go_wp2_with fail
      refine (HC.out _).mono ?_
      rintro e w1 ⟨rfl, HX⟩
      have h9 := later HX h0
      have hb9 := Nat.lt_of_lt_of_le hb HX.size
      have HXw : Hid (Ext w w1) := HX
      clear HX HC h0 hb
      go_wp2_with fail
      refine (HD.out _ HXw.out).mono ?_
      rintro e w2 ⟨G', rfl, a1, a2, a3⟩
      have HQ := HP.out w1 _ _ w2 G' HXw.out a1 a2 a3
      clear HP HD a1 a2 a3 h9 hb9 HXw
      go_wp2
      go_ret
      exact appP_of HR.out rfl HQ
theorem own_lies {w : World} {base : Nat} {u : Value} {l : List ByteArray} (h : w.ownsRow base 9 1 u l.length (tcs l)) : LiesT w u l.length (fun k => l.getD k ⟨#[]⟩) := by
  refine Lies.own h fun k hk => ?_
  have hk2 : k < l.length := by omega
  simp [tcs, hk2]
/-- What All hands out: the records, in a slice whose block is new. -/
def AllP (l : List ByteArray) (w : World) (e : Ending) (w' : World) : Prop := ∃ u, e = .returned u ∧ w'.ownsRow w.heap.size 9 1 u l.length (tcs l) ∧ Ext w w'
theorem pfP_lg {l : List ByteArray} {w : World} {e : Ending} {w' : World} (hl : ∀ x ∈ l, x.size ≤ 4096) (h : PfP (lg l) w e w') : ∃ u, e = .returned (.tuple #[u, .int .i64 ((lg l).size : Int)]) ∧ w'.ownsRow w.heap.size 9 1 u l.length (tcs l) ∧ Ext w w' := by
  unfold PfP at h
  rw [pf_lg l hl] at h
  exact h
set_option maxHeartbeats 1000000 in
theorem wall_any {v : Value} {l : List ByteArray} {n : Nat} {F : Nat → Prop} (hk : wOk l n) (w : World) (h : WAt w v l n F) :
    Calls Try.prog 18 #[v] w fun e w' => AllP l w e w' := by
  obtain ⟨b, d, G, rfl, hb, h0, h1, h2, h3, rfl⟩ := h
  have HT : Hid (Calls Try.prog 24 #[.pointer (some d)] w fun e w' => e = .returned (.string (lg l)) ∧ Ext w w') := dtext_any w h2
  have HPx : Hid (∀ W, Calls Try.prog 25 #[.string (lg l)] W fun e w' => PfP (lg l) W e w') := fun W => cprefix_any (lg l) (by have := hk.2.1; omega) W
  have HL : Hid (∀ x ∈ l, x.size ≤ 4096) := hk.1
  clear h1 h2 h3 hk
  go_enter Try.func18, Try.ntmps18
  go_wp2_with fail
  refine HT.out.mono ?_
  rintro e w1 ⟨rfl, HX⟩
  have HE1 : Hid (Ext w w1) := HX
  clear HX HT h0 hb
  go_wp2_with fail
  refine (HPx.out _).mono ?_
  intro e w2 HQ
  obtain ⟨u, rfl, q1, HX⟩ := pfP_lg HL.out HQ
  have HR : Hid (AllP l w (.returned u) w2) := ⟨u, rfl, own_base q1 HE1.out.size, HE1.out.trans HX⟩
  clear HPx HQ q1 HX
  go_wp2
  go_ret
  exact HR.out
set_option maxHeartbeats 1000000 in
theorem wsure_any {v : Value} {l : List ByteArray} {n : Nat} {F : Nat → Prop} (hk : wOk l n) (w : World) (h : WAt w v l n F) :
    Calls Try.prog 19 #[v] w fun e w' => e = .returned (.int .i64 (n : Int)) ∧ Ext w w' := by
  obtain ⟨b, d, G, rfl, hb, h0, h1, h2, h3, rfl⟩ := h
  have HT : Hid (∀ W, Ext w W → Calls Try.prog 24 #[.pointer (some d)] W fun e w' => e = .returned (.string (lg l)) ∧ Ext W w') := fun W hx => dtext_any W (h2.ext hx)
  have HY : Hid (∀ W, Ext w W → Calls Try.prog 29 #[.pointer (some d)] W fun e w' => e = .returned (.int .i64 (wy l n : Int)) ∧ Ext W w') := fun W hx => dsynced_any W (h2.ext hx)
  obtain ⟨y, hy⟩ : ∃ y, wy l n = y := ⟨_, rfl⟩
  have hex : (lg l).extract 0 y = lg (l.take n) := by rw [← hy]; exact lg_take l n
  have hyz : y ≤ (lg l).size := by rw [← hy]; exact lg_take_le l n
  have HPx : Hid (∀ W, Calls Try.prog 25 #[.string ((lg l).extract 0 y)] W fun e w' => ∃ u c, e = .returned (.tuple #[.slice u n c, .int .i64 (y : Int)]) ∧ Ext W w') := fun W => by
    rw [hex]
    refine (cprefix_any (lg (l.take n)) (by have := hk.2.1; have := lg_take_le l n; omega) W).mono ?_
    intro e w' q
    obtain ⟨u, rfl, q1, q3⟩ := pfP_lg (fun x hx => hk.1 x (List.mem_of_mem_take hx)) q
    obtain ⟨a, c, rfl⟩ := liesT_len (own_lies q1)
    have hn : (l.take n).length = n := by rw [List.length_take]; have := hk.2.2; omega
    exact ⟨a, c, by rw [hn, show (lg (l.take n)).size = y from hy], q3⟩
  rw [hy] at HY
  have p1 : (0 : Int) ≤ (y : Int) := by omega
  have p2 : (y : Int) ≤ ((lg l).size : Int) := by omega
  have p3 : ¬ (y : Int) < 0 := by omega
  have p4 : ¬ ((lg l).size : Int) < (y : Int) := by omega
  clear h1 h2 h3 hk hy hex hyz
  generalize lg l = T at *
  go_enter Try.func19, Try.ntmps19
  go_wp2_with fail
  have HS : Ext w w.drew := (Ext.refl w).drew
  refine wp_region_noPanic ?_
  refine wp_region_held (S := Ext w) (by kernel_rfl) ?_
  rw [show ({ w with drawn := w.drawn + 1 } : World) = w.drew from rfl]
  generalize w.drew = x0 at *
  refine held_take (i := 0) (v := ?vs0) rfl (by kernel_rfl) (by kernel_rfl) (by kernel_rfl) (fun _ _ _ h => h) rfl ?hys0 HS ?rests0
  case hys0 => (intro wx hSx; go_simp; try with_reducible rfl)
  try simp only [Act.put, List.setIfInBounds_toArray, List.set_cons_zero, List.set_cons_succ]
  refine held_take (i := 1) (v := ?vs1) rfl (by kernel_rfl) (by kernel_rfl) (by kernel_rfl) (fun _ _ _ h => h) rfl ?hys1 HS ?rests1
  case hys1 => (intro wx hSx; go_simp; try with_reducible rfl)
  try simp only [Act.put, List.setIfInBounds_toArray, List.set_cons_zero, List.set_cons_succ]
  refine held_take (i := 2) (v := ?vs2) rfl (by kernel_rfl) (by kernel_rfl) (by kernel_rfl) (fun _ _ _ h => h) rfl ?hys2 HS ?rests2
  case hys2 => (intro wx hSx; go_simp; try with_reducible rfl)
  try simp only [Act.put, List.setIfInBounds_toArray, List.set_cons_zero, List.set_cons_succ]
  refine held_take (i := 3) (v := ?vs3) rfl (by kernel_rfl) (by kernel_rfl) (by kernel_rfl) (fun _ _ _ h => h) rfl ?hys3 HS ?rests3
  case hys3 => (intro wx hSx; have z0 := later hSx h0; have zb := Nat.lt_of_lt_of_le hb hSx.size; go_simp; try with_reducible rfl)
  try simp only [Act.put, List.setIfInBounds_toArray, List.set_cons_zero, List.set_cons_succ]
  refine held_take (i := 5) (v := ?vs5) rfl (by kernel_rfl) (by kernel_rfl) (by kernel_rfl) (fun _ _ _ h => h) rfl ?hys5 HS ?rests5
  case hys5 => (intro wx hSx; go_simp; try with_reducible rfl)
  try simp only [Act.put, List.setIfInBounds_toArray, List.set_cons_zero, List.set_cons_succ]
  refine held_take (i := 6) (v := ?vs6) rfl (by kernel_rfl) (by kernel_rfl) (by kernel_rfl) (fun _ _ _ h => h) rfl ?hys6 HS ?rests6
  case hys6 => (intro wx hSx; go_simp; try with_reducible rfl)
  try simp only [Act.put, List.setIfInBounds_toArray, List.set_cons_zero, List.set_cons_succ]
  refine held_take (i := 7) (v := ?vs7) rfl (by kernel_rfl) (by kernel_rfl) (by kernel_rfl) (fun _ _ _ h => h) rfl ?hys7 HS ?rests7
  case hys7 => (intro wx hSx; go_simp; try with_reducible rfl)
  try simp only [Act.put, List.setIfInBounds_toArray, List.set_cons_zero, List.set_cons_succ]
  refine held_take (i := 8) (v := ?vs8) rfl (by kernel_rfl) (by kernel_rfl) (by kernel_rfl) (fun _ _ _ h => h) rfl ?hys8 HS ?rests8
  case hys8 => (intro wx hSx; have z0 := later hSx h0; have zb := Nat.lt_of_lt_of_le hb hSx.size; go_simp; try with_reducible rfl)
  try simp only [Act.put, List.setIfInBounds_toArray, List.set_cons_zero, List.set_cons_succ]
  refine held_one (i := 4) (by kernel_rfl) rfl rfl (fun K hK => ?_)
  go_simp
  refine (HT.out _ HS).mono ?_
  rintro e x1 ⟨rfl, HX⟩
  have H1 := HS.trans HX
  clear HX
  try go_simp
  refine hK.out _ _ ⟨H1, ?_⟩
  clear hK K
  try simp only [Act.put, List.setIfInBounds_toArray, List.set_cons_zero, List.set_cons_succ]
  refine held_one (i := 9) (by kernel_rfl) rfl rfl (fun K hK => ?_)
  go_simp
  refine (HY.out _ H1).mono ?_
  rintro e x2 ⟨rfl, HX⟩
  have H2 := H1.trans HX
  clear HX
  try go_simp
  refine hK.out _ _ ⟨H2, ?_⟩
  clear hK K
  try simp only [Act.put, List.setIfInBounds_toArray, List.set_cons_zero, List.set_cons_succ]
  refine held_take (i := 10) (v := ?vs10) rfl (by kernel_rfl) (by kernel_rfl) (by kernel_rfl) (fun _ _ _ h => h) rfl ?hys10 H2 ?rests10
  case hys10 => (intro wx hSx; go_simp; try with_reducible rfl)
  try simp only [Act.put, List.setIfInBounds_toArray, List.set_cons_zero, List.set_cons_succ]
  refine held_one (i := 11) (by kernel_rfl) rfl rfl (fun K hK => ?_)
  go_simp
  refine (HPx.out _).mono ?_
  rintro e x3 ⟨ua, uc, rfl, HX⟩
  have H3 := H2.trans HX
  clear HX
  try go_simp
  refine hK.out _ _ ⟨H3, ?_⟩
  clear hK K
  try simp only [Act.put, List.setIfInBounds_toArray, List.set_cons_zero, List.set_cons_succ]
  refine held_take (i := 12) (v := ?vs12) rfl (by kernel_rfl) (by kernel_rfl) (by kernel_rfl) (fun _ _ _ h => h) rfl ?hys12 H3 ?rests12
  case hys12 => (intro wx hSx; go_simp; try with_reducible rfl)
  try simp only [Act.put, List.setIfInBounds_toArray, List.set_cons_zero, List.set_cons_succ]
  refine held_take (i := 13) (v := ?vs13) rfl (by kernel_rfl) (by kernel_rfl) (by kernel_rfl) (fun _ _ _ h => h) rfl ?hys13 H3 ?rests13
  case hys13 => (intro wx hSx; go_simp; try with_reducible rfl)
  try simp only [Act.put, List.setIfInBounds_toArray, List.set_cons_zero, List.set_cons_succ]
  refine held_take (i := 14) (v := ?vs14) rfl (by kernel_rfl) (by kernel_rfl) (by kernel_rfl) (fun _ _ _ h => h) rfl ?hys14 H3 ?rests14
  case hys14 => (intro wx hSx; go_simp; try with_reducible rfl)
  try simp only [Act.put, List.setIfInBounds_toArray, List.set_cons_zero, List.set_cons_succ]
  refine held_take (i := 15) (v := ?vs15) rfl (by kernel_rfl) (by kernel_rfl) (by kernel_rfl) (fun _ _ _ h => h) rfl ?hys15 H3 ?rests15
  case hys15 => (intro wx hSx; go_simp; try with_reducible rfl)
  try simp only [Act.put, List.setIfInBounds_toArray, List.set_cons_zero, List.set_cons_succ]
  refine held_take (i := 16) (v := ?vs16) rfl (by kernel_rfl) (by kernel_rfl) (by kernel_rfl) (fun _ _ _ h => h) rfl ?hys16 H3 ?rests16
  case hys16 => (intro wx hSx; go_simp; try with_reducible rfl)
  try simp only [Act.put, List.setIfInBounds_toArray, List.set_cons_zero, List.set_cons_succ]
  refine wpAnyH_done (by kernel_rfl) ?_ _
  refine NoPanic.normal ?_
  go_wp2
  go_ret
  exact ⟨rfl, H3⟩
end Go.Proofs.Ytbkdjpialjbhnaa
