/-
  (wire.fields[T]).read for commands and words; wire.ReadCommand, ReadWord, called; nothing old is turned. With it the face of package wire is whole.
-/
import Derived.Test.YthdmecoeghnifaaWe
import Derived.Test.YthdmecoeghnifaaWr
namespace Go.Proofs.Ythdmecoeghnifaa
open Go.RowKit
theorem wread_some {s : ByteArray} {l : List ByteArray} (hs : s.size ≤ 100000) (hr : rd s 0 = some l) (w : World) :
    Calls Try.prog 15 #[.string s] w fun e w' => ∃ u, e = .returned (.tuple #[u, .int .i64 0]) ∧ LiesT w' u l.length (fun k => l.getD k ⟨#[]⟩) ∧ Ext w w' := by
  refine (wread_any s hs w).mono ?_
  rintro e w' ⟨u, m, rfl, ⟨l', h, rfl, _, HL⟩ | ⟨h, _⟩, HX⟩
  · rw [h] at hr
    obtain rfl := Option.some.inj hr
    exact ⟨u, rfl, HL, HX⟩
  · rw [h] at hr; cases hr
theorem wread_none {s : ByteArray} (hs : s.size ≤ 100000) (hr : rd s 0 = none) (w : World) :
    Calls Try.prog 15 #[.string s] w fun e w' => ∃ u, e = .returned (.tuple #[u, .int .i64 3]) ∧ LiesT w' u 0 (fun _ => ⟨#[]⟩) ∧ Ext w w' := by
  refine (wread_any s hs w).mono ?_
  rintro e w' ⟨u, m, rfl, ⟨l', h, _⟩ | ⟨h, rfl, HL⟩, HX⟩
  · rw [h] at hr; cases hr
  · exact ⟨u, rfl, HL, HX⟩
theorem tnum_one {s : ByteArray} (h : s.size = 1) : tnum s = (sb s 0 : Int) := by unfold tnum; rw [if_pos h]
theorem tnum_none {s : ByteArray} (h : ¬ s.size = 1) : tnum s = -1 := by unfold tnum; rw [if_neg h]
theorem cmdOk_tnum (a b c d : ByteArray) : (cmdOk (tnum a) (tnum b) c d = true) ↔ (a.size = 1 ∧ b.size = 1 ∧ cmdOk (sb a 0) (sb b 0) c d = true) := by
  by_cases ha : a.size = 1
  · by_cases hb : b.size = 1
    · rw [tnum_one ha, tnum_one hb]; simp [ha, hb]
    · rw [tnum_none hb]; simp [hb, cmdOk]
  · rw [tnum_none ha]; simp [ha, cmdOk]
theorem wrdOk_tnum (a b c d x : ByteArray) : (wrdOk (tnum a) (tnum b) (tnum c) (tnum d - 1) x = true) ↔ (a.size = 1 ∧ b.size = 1 ∧ c.size = 1 ∧ d.size = 1 ∧ wrdOk (sb a 0) (sb b 0) (sb c 0) ((sb d 0 : Int) - 1) x = true) := by
  by_cases ha : a.size = 1
  · by_cases hb : b.size = 1
    · by_cases hc : c.size = 1
      · by_cases hd : d.size = 1
        · rw [tnum_one ha, tnum_one hb, tnum_one hc, tnum_one hd]; simp [ha, hb, hc, hd]
        · rw [tnum_none hd]; simp [hd, wrdOk]
      · rw [tnum_none hc]; simp [hc, wrdOk]
    · rw [tnum_none hb]; simp [hb, wrdOk]
  · rw [tnum_none ha]; simp [ha, wrdOk]
theorem rdC_tnum {s a b c d : ByteArray} (h : rd s 0 = some [a, b, c, d]) : rdC s = if cmdOk (tnum a) (tnum b) c d = true then some (tnum a, tnum b, c, d) else none := by
  rw [rdC_if h]
  by_cases hk : cmdOk (tnum a) (tnum b) c d = true
  · have h2 := (cmdOk_tnum a b c d).1 hk
    rw [if_pos hk, if_pos h2, tnum_one h2.1, tnum_one h2.2.1]
  · rw [if_neg hk, if_neg (fun h2 => hk ((cmdOk_tnum a b c d).2 h2))]
theorem rdW_tnum {s a b c d x : ByteArray} (h : rd s 0 = some [a, b, c, d, x]) : rdW s = if wrdOk (tnum a) (tnum b) (tnum c) (tnum d - 1) x = true then some (tnum a, tnum b, tnum c, tnum d - 1, x) else none := by
  rw [rdW_if h]
  by_cases hk : wrdOk (tnum a) (tnum b) (tnum c) (tnum d - 1) x = true
  · have h2 := (wrdOk_tnum a b c d x).1 hk
    rw [if_pos hk, if_pos h2, tnum_one h2.1, tnum_one h2.2.1, tnum_one h2.2.2.1, tnum_one h2.2.2.2.1]
  · rw [if_neg hk, if_neg (fun h2 => hk ((wrdOk_tnum a b c d x).2 h2))]
/-- What the call has laid for itself: its receiver, its answer, and none. -/
def RIC (bk : Nat) (W : World) : Prop := T4 W bk (.int .i64 4) (.func (.func 45) #[] #[]) (.func (.func 47) #[] #[]) (.func (.func 49) #[] #[]) ∧ T4 W (bk + 1) (.int .i64 0) (.int .i64 0) (.string ⟨#[]⟩) (.string ⟨#[]⟩) ∧ T4 W (bk + 2) (.int .i64 0) (.int .i64 0) (.string ⟨#[]⟩) (.string ⟨#[]⟩) ∧ (∀ i, W.frozen? ⟨bk + 1, i, none⟩ = false) ∧ bk + 2 < W.heap.size
theorem RIC.ext {bk : Nat} {W W' : World} (h : RIC bk W) (hx : Ext W W') : RIC bk W' :=
  ⟨h.1.ext hx, h.2.1.ext hx, h.2.2.1.ext hx, fun i => (hx.cells.2 _ i (Nat.lt_of_succ_lt h.2.2.2.2)).trans (h.2.2.2.1 i), Nat.lt_of_lt_of_le h.2.2.2.2 hx.size⟩
theorem RIC.start (w : World) : RIC w.heap.size (((w.alloc (.cells #[.int .i64 4, .func (.func 45) #[] #[], .func (.func 47) #[] #[], .func (.func 49) #[] #[]] 75)).alloc (.cells #[.int .i64 0, .int .i64 0, .string ⟨#[]⟩, .string ⟨#[]⟩] 36)).alloc (.cells #[.int .i64 0, .int .i64 0, .string ⟨#[]⟩, .string ⟨#[]⟩] 36)) := by
  have a1 : T4 (w.alloc (.cells #[.int .i64 4, .func (.func 45) #[] #[], .func (.func 47) #[] #[], .func (.func 49) #[] #[]] 75)) w.heap.size (.int .i64 4) (.func (.func 45) #[] #[]) (.func (.func 47) #[] #[]) (.func (.func 49) #[] #[]) := ⟨by rw [World.cell?_alloc_at _ _ _ _ (by simp)]; rfl, by rw [World.cell?_alloc_at _ _ _ _ (by simp)]; rfl, by rw [World.cell?_alloc_at _ _ _ _ (by simp)]; rfl, by rw [World.cell?_alloc_at _ _ _ _ (by simp)]; rfl⟩
  have a2 : T4 ((w.alloc (.cells #[.int .i64 4, .func (.func 45) #[] #[], .func (.func 47) #[] #[], .func (.func 49) #[] #[]] 75)).alloc (.cells #[.int .i64 0, .int .i64 0, .string ⟨#[]⟩, .string ⟨#[]⟩] 36)) (w.heap.size + 1) (.int .i64 0) (.int .i64 0) (.string ⟨#[]⟩) (.string ⟨#[]⟩) := ⟨by rw [World.cell?_alloc_at _ _ _ _ (by simp)]; rfl, by rw [World.cell?_alloc_at _ _ _ _ (by simp)]; rfl, by rw [World.cell?_alloc_at _ _ _ _ (by simp)]; rfl, by rw [World.cell?_alloc_at _ _ _ _ (by simp)]; rfl⟩
  have a3 : T4 (((w.alloc (.cells #[.int .i64 4, .func (.func 45) #[] #[], .func (.func 47) #[] #[], .func (.func 49) #[] #[]] 75)).alloc (.cells #[.int .i64 0, .int .i64 0, .string ⟨#[]⟩, .string ⟨#[]⟩] 36)).alloc (.cells #[.int .i64 0, .int .i64 0, .string ⟨#[]⟩, .string ⟨#[]⟩] 36)) (w.heap.size + 2) (.int .i64 0) (.int .i64 0) (.string ⟨#[]⟩) (.string ⟨#[]⟩) := ⟨by rw [World.cell?_alloc_at _ _ _ _ (by simp)]; rfl, by rw [World.cell?_alloc_at _ _ _ _ (by simp)]; rfl, by rw [World.cell?_alloc_at _ _ _ _ (by simp)]; rfl, by rw [World.cell?_alloc_at _ _ _ _ (by simp)]; rfl⟩
  have x2 : Ext (w.alloc (.cells #[.int .i64 4, .func (.func 45) #[] #[], .func (.func 47) #[] #[], .func (.func 49) #[] #[]] 75)) (((w.alloc (.cells #[.int .i64 4, .func (.func 45) #[] #[], .func (.func 47) #[] #[], .func (.func 49) #[] #[]] 75)).alloc (.cells #[.int .i64 0, .int .i64 0, .string ⟨#[]⟩, .string ⟨#[]⟩] 36)).alloc (.cells #[.int .i64 0, .int .i64 0, .string ⟨#[]⟩, .string ⟨#[]⟩] 36)) := ((Ext.refl _).alloc _).alloc _
  have x3 : Ext ((w.alloc (.cells #[.int .i64 4, .func (.func 45) #[] #[], .func (.func 47) #[] #[], .func (.func 49) #[] #[]] 75)).alloc (.cells #[.int .i64 0, .int .i64 0, .string ⟨#[]⟩, .string ⟨#[]⟩] 36)) (((w.alloc (.cells #[.int .i64 4, .func (.func 45) #[] #[], .func (.func 47) #[] #[], .func (.func 49) #[] #[]] 75)).alloc (.cells #[.int .i64 0, .int .i64 0, .string ⟨#[]⟩, .string ⟨#[]⟩] 36)).alloc (.cells #[.int .i64 0, .int .i64 0, .string ⟨#[]⟩, .string ⟨#[]⟩] 36)) := (Ext.refl _).alloc _
  refine ⟨a1.ext x2, a2.ext x3, a3, fun i => ?_, by simp⟩
  rw [x3.cells.2 _ i (by simp)]
  exact World.frozen?_alloc_at _ _ _ _ (by simp)
set_option maxHeartbeats 1000000 in
theorem wrrC_none (s : ByteArray) (hs : s.size ≤ 100000) (hr : rd s 0 = none) (w : World) :
    Calls Try.prog 36 #[.agg #[.int .i64 4, .func (.func 45) #[] #[], .func (.func 47) #[] #[], .func (.func 49) #[] #[]], .string s] w fun e w' => e = .returned (rrdCV s) ∧ Ext w w' := by
  have HC : Hid (∀ W, Calls Try.prog 15 #[.string s] W _) := fun W => wread_none hs hr W
  have HRes : Hid (rrdCV s = .tuple #[.agg #[.int .i64 0, .int .i64 0, .string ⟨#[]⟩, .string ⟨#[]⟩], .int .i64 3]) := by
    show _ = _
    unfold rrdCV
    rw [rdC_none hr]
  clear hr hs
  have HI0 : Hid (RIC w.heap.size (((w.alloc (.cells #[.int .i64 4, .func (.func 45) #[] #[], .func (.func 47) #[] #[], .func (.func 49) #[] #[]] 75)).alloc (.cells #[.int .i64 0, .int .i64 0, .string ⟨#[]⟩, .string ⟨#[]⟩] 36)).alloc (.cells #[.int .i64 0, .int .i64 0, .string ⟨#[]⟩, .string ⟨#[]⟩] 36))) := RIC.start w
  have HX0 : Hid (Ext w (((w.alloc (.cells #[.int .i64 4, .func (.func 45) #[] #[], .func (.func 47) #[] #[], .func (.func 49) #[] #[]] 75)).alloc (.cells #[.int .i64 0, .int .i64 0, .string ⟨#[]⟩, .string ⟨#[]⟩] 36)).alloc (.cells #[.int .i64 0, .int .i64 0, .string ⟨#[]⟩, .string ⟨#[]⟩] 36))) := (((Ext.refl w).alloc _).alloc _).alloc _
  go_enter Try.func36, Try.ntmps36
  go_wp2_with fail
  obtain ⟨bk, Hb⟩ : ∃ bk, Hid (w.heap.size = bk) := ⟨_, rfl⟩
  have HB : Hid (w.heap.size ≤ bk + 1) := by rw [Hb.out]; exact Nat.le_succ bk
  rw [Hb.out] at HI0 ⊢
  generalize ((w.alloc (.cells #[.int .i64 4, .func (.func 45) #[] #[], .func (.func 47) #[] #[], .func (.func 49) #[] #[]] 75)).alloc (.cells #[.int .i64 0, .int .i64 0, .string ⟨#[]⟩, .string ⟨#[]⟩] 36)).alloc (.cells #[.int .i64 0, .int .i64 0, .string ⟨#[]⟩, .string ⟨#[]⟩] 36) = W at *
  refine (HC.out _).mono ?_
  rintro ex w1 ⟨u, rfl, HL, HX1⟩
  have HE1 : Hid (Ext w w1) := HX0.out.trans HX1
  have HI1 : Hid (RIC bk w1) := HI0.out.ext HX1
  clear HX0 HX1 HI0 HC
  obtain ⟨⟨f0, f1, f2, f3⟩, ⟨z0, z1, z2, z3⟩, ⟨y0, y1, y2, y3⟩, hf, hbk⟩ := HI1.out
  have g0 := hf 0
  have g1 := hf 1
  have g2 := hf 2
  have g3 := hf 3
  clear hf HI1
  obtain ⟨a0, c0, rfl⟩ := liesT_len HL
  clear HL
  go_wp2
  refine bodyPost_ret (v := .tuple #[.agg #[.int .i64 0, .int .i64 0, .string ⟨#[]⟩, .string ⟨#[]⟩], .int .i64 3]) (by simp [results, Try.results36, go_sem, z0, z1, z2, z3]) rfl ⟨by rw [HRes.out], Ext.st HB.out (Ext.st HB.out (Ext.st HB.out (Ext.st HB.out (HE1.out))))⟩
set_option maxHeartbeats 1000000 in
theorem wrrC_len (s : ByteArray) (hs : s.size ≤ 100000) (l : List ByteArray) (hr : rd s 0 = some l) (hlen : l.length ≠ 4) (w : World) :
    Calls Try.prog 36 #[.agg #[.int .i64 4, .func (.func 45) #[] #[], .func (.func 47) #[] #[], .func (.func 49) #[] #[]], .string s] w fun e w' => e = .returned (rrdCV s) ∧ Ext w w' := by
  have HC : Hid (∀ W, Calls Try.prog 15 #[.string s] W _) := fun W => wread_some hs hr W
  have HRes : Hid (rrdCV s = .tuple #[.agg #[.int .i64 0, .int .i64 0, .string ⟨#[]⟩, .string ⟨#[]⟩], .int .i64 3]) := by
    show _ = _
    unfold rrdCV
    rw [rdC_len hr hlen]
  have hln : ¬ (l.length : Int) = 4 := by omega
  clear hlen
  clear hr hs
  have HI0 : Hid (RIC w.heap.size (((w.alloc (.cells #[.int .i64 4, .func (.func 45) #[] #[], .func (.func 47) #[] #[], .func (.func 49) #[] #[]] 75)).alloc (.cells #[.int .i64 0, .int .i64 0, .string ⟨#[]⟩, .string ⟨#[]⟩] 36)).alloc (.cells #[.int .i64 0, .int .i64 0, .string ⟨#[]⟩, .string ⟨#[]⟩] 36))) := RIC.start w
  have HX0 : Hid (Ext w (((w.alloc (.cells #[.int .i64 4, .func (.func 45) #[] #[], .func (.func 47) #[] #[], .func (.func 49) #[] #[]] 75)).alloc (.cells #[.int .i64 0, .int .i64 0, .string ⟨#[]⟩, .string ⟨#[]⟩] 36)).alloc (.cells #[.int .i64 0, .int .i64 0, .string ⟨#[]⟩, .string ⟨#[]⟩] 36))) := (((Ext.refl w).alloc _).alloc _).alloc _
  go_enter Try.func36, Try.ntmps36
  go_wp2_with fail
  obtain ⟨bk, Hb⟩ : ∃ bk, Hid (w.heap.size = bk) := ⟨_, rfl⟩
  have HB : Hid (w.heap.size ≤ bk + 1) := by rw [Hb.out]; exact Nat.le_succ bk
  rw [Hb.out] at HI0 ⊢
  generalize ((w.alloc (.cells #[.int .i64 4, .func (.func 45) #[] #[], .func (.func 47) #[] #[], .func (.func 49) #[] #[]] 75)).alloc (.cells #[.int .i64 0, .int .i64 0, .string ⟨#[]⟩, .string ⟨#[]⟩] 36)).alloc (.cells #[.int .i64 0, .int .i64 0, .string ⟨#[]⟩, .string ⟨#[]⟩] 36) = W at *
  refine (HC.out _).mono ?_
  rintro ex w1 ⟨u, rfl, HL, HX1⟩
  have HE1 : Hid (Ext w w1) := HX0.out.trans HX1
  have HI1 : Hid (RIC bk w1) := HI0.out.ext HX1
  clear HX0 HX1 HI0 HC
  obtain ⟨⟨f0, f1, f2, f3⟩, ⟨z0, z1, z2, z3⟩, ⟨y0, y1, y2, y3⟩, hf, hbk⟩ := HI1.out
  have g0 := hf 0
  have g1 := hf 1
  have g2 := hf 2
  have g3 := hf 3
  clear hf HI1
  obtain ⟨a0, c0, rfl⟩ := liesT_len HL
  clear HL
  go_wp2
  refine bodyPost_ret (v := .tuple #[.agg #[.int .i64 0, .int .i64 0, .string ⟨#[]⟩, .string ⟨#[]⟩], .int .i64 3]) (by simp [results, Try.results36, go_sem, z0, z1, z2, z3]) rfl ⟨by rw [HRes.out], Ext.st HB.out (Ext.st HB.out (Ext.st HB.out (Ext.st HB.out (HE1.out))))⟩
set_option maxHeartbeats 2000000 in
theorem wrrC_bad (s : ByteArray) (hs : s.size ≤ 100000) (a b c d : ByteArray) (hr : rd s 0 = some [a, b, c, d]) (ho : cmdOk (tnum a) (tnum b) c d = false) (w : World) :
    Calls Try.prog 36 #[.agg #[.int .i64 4, .func (.func 45) #[] #[], .func (.func 47) #[] #[], .func (.func 49) #[] #[]], .string s] w fun e w' => e = .returned (rrdCV s) ∧ Ext w w' := by
  have HC : Hid (∀ W, Calls Try.prog 15 #[.string s] W _) := fun W => wread_some hs hr W
  have HRes : Hid (rrdCV s = .tuple #[.agg #[.int .i64 0, .int .i64 0, .string ⟨#[]⟩, .string ⟨#[]⟩], .int .i64 3]) := by
    show _ = _
    unfold rrdCV
    rw [rdC_tnum hr, ho]
    rfl
  have HM : Hid (∀ W, Calls Try.prog 49 #[.agg #[.int .i64 (tnum a), .int .i64 (tnum b), .string c, .string d]] W fun ex w' => ex = .returned (.bool false) ∧ Ext W w') := fun W => by
    have := wmayC_any (tnum a) (tnum b) c d W
    rw [ho] at this
    exact this
  clear hr hs ho
  have HI0 : Hid (RIC w.heap.size (((w.alloc (.cells #[.int .i64 4, .func (.func 45) #[] #[], .func (.func 47) #[] #[], .func (.func 49) #[] #[]] 75)).alloc (.cells #[.int .i64 0, .int .i64 0, .string ⟨#[]⟩, .string ⟨#[]⟩] 36)).alloc (.cells #[.int .i64 0, .int .i64 0, .string ⟨#[]⟩, .string ⟨#[]⟩] 36))) := RIC.start w
  have HX0 : Hid (Ext w (((w.alloc (.cells #[.int .i64 4, .func (.func 45) #[] #[], .func (.func 47) #[] #[], .func (.func 49) #[] #[]] 75)).alloc (.cells #[.int .i64 0, .int .i64 0, .string ⟨#[]⟩, .string ⟨#[]⟩] 36)).alloc (.cells #[.int .i64 0, .int .i64 0, .string ⟨#[]⟩, .string ⟨#[]⟩] 36))) := (((Ext.refl w).alloc _).alloc _).alloc _
  go_enter Try.func36, Try.ntmps36
  go_wp2_with fail
  obtain ⟨bk, Hb⟩ : ∃ bk, Hid (w.heap.size = bk) := ⟨_, rfl⟩
  have HB : Hid (w.heap.size ≤ bk + 1) := by rw [Hb.out]; exact Nat.le_succ bk
  rw [Hb.out] at HI0 ⊢
  generalize ((w.alloc (.cells #[.int .i64 4, .func (.func 45) #[] #[], .func (.func 47) #[] #[], .func (.func 49) #[] #[]] 75)).alloc (.cells #[.int .i64 0, .int .i64 0, .string ⟨#[]⟩, .string ⟨#[]⟩] 36)).alloc (.cells #[.int .i64 0, .int .i64 0, .string ⟨#[]⟩, .string ⟨#[]⟩] 36) = W at *
  refine (HC.out _).mono ?_
  rintro ex w1 ⟨u, rfl, HL, HX1⟩
  have HE1 : Hid (Ext w w1) := HX0.out.trans HX1
  have HI1 : Hid (RIC bk w1) := HI0.out.ext HX1
  clear HX0 HX1 HI0 HC
  have HV := wvlC_any a b c d u w1 HL
  obtain ⟨f0, f1, f2, f3⟩ := HI1.out.1
  obtain ⟨a0, c0, rfl⟩ := liesT_len HL
  clear HL
  generalize tnum a = ta at *
  generalize tnum b = tb at *
  go_wp2_with fail
  refine HV.mono ?_
  rintro ex w2 ⟨rfl, HX2⟩
  have HE2 : Hid (Ext w w2) := HE1.out.trans HX2
  have HI2 : Hid (RIC bk w2) := HI1.out.ext HX2
  clear HX2 HE1 HI1 HV f0 f1 f2 f3
  have HI3 : Hid (RIC bk (w2.alloc (.cells #[.int .i64 ta, .int .i64 tb, .string c, .string d] 36))) := HI2.out.ext ((Ext.refl _).alloc _)
  have HE3 : Hid (Ext w (w2.alloc (.cells #[.int .i64 ta, .int .i64 tb, .string c, .string d] 36))) := HE2.out.alloc _
  obtain ⟨B, HBs⟩ : ∃ B, Hid (w2.heap.size = B) := ⟨_, rfl⟩
  have HV3 : Hid (T4 (w2.alloc (.cells #[.int .i64 ta, .int .i64 tb, .string c, .string d] 36)) B (.int .i64 ta) (.int .i64 tb) (.string c) (.string d)) := by rw [← HBs.out]; exact ⟨by rw [World.cell?_alloc_at _ _ _ _ (by simp)]; rfl, by rw [World.cell?_alloc_at _ _ _ _ (by simp)]; rfl, by rw [World.cell?_alloc_at _ _ _ _ (by simp)]; rfl, by rw [World.cell?_alloc_at _ _ _ _ (by simp)]; rfl⟩
  obtain ⟨f0, f1, f2, f3⟩ := HI2.out.1
  have hb0 : bk < w2.heap.size := Nat.lt_of_le_of_lt (Nat.le_add_right bk 2) HI2.out.2.2.2.2
  clear HI2
  go_wp2_with fail
  rw [HBs.out]
  generalize w2.alloc (.cells #[.int .i64 ta, .int .i64 tb, .string c, .string d] 36) = W4 at *
  refine (HM.out _).mono ?_
  rintro ex w5 ⟨rfl, HX5⟩
  have HE5 : Hid (Ext w w5) := HE3.out.trans HX5
  have HI5 : Hid (RIC bk w5) := HI3.out.ext HX5
  obtain ⟨v0, v1, v2, v3⟩ := HV3.out.ext HX5
  clear HX5 HE3 HI3 HV3 HM f0 f1 f2 f3 hb0 HBs HE2
  obtain ⟨⟨f0, f1, f2, f3⟩, ⟨z0, z1, z2, z3⟩, ⟨y0, y1, y2, y3⟩, hf, hbk⟩ := HI5.out
  have g0 := hf 0
  have g1 := hf 1
  have g2 := hf 2
  have g3 := hf 3
  clear hf HI5
  go_wp2
  refine bodyPost_ret (v := .tuple #[.agg #[.int .i64 0, .int .i64 0, .string ⟨#[]⟩, .string ⟨#[]⟩], .int .i64 3]) (by simp [results, Try.results36, go_sem, z0, z1, z2, z3]) rfl ⟨by rw [HRes.out], Ext.st HB.out (Ext.st HB.out (Ext.st HB.out (Ext.st HB.out (HE5.out))))⟩
set_option maxHeartbeats 2000000 in
theorem wrrC_good (s : ByteArray) (hs : s.size ≤ 100000) (a b c d : ByteArray) (hr : rd s 0 = some [a, b, c, d]) (ho : cmdOk (tnum a) (tnum b) c d = true) (w : World) :
    Calls Try.prog 36 #[.agg #[.int .i64 4, .func (.func 45) #[] #[], .func (.func 47) #[] #[], .func (.func 49) #[] #[]], .string s] w fun e w' => e = .returned (rrdCV s) ∧ Ext w w' := by
  have HC : Hid (∀ W, Calls Try.prog 15 #[.string s] W _) := fun W => wread_some hs hr W
  have HRes : Hid (rrdCV s = .tuple #[.agg #[.int .i64 (tnum a), .int .i64 (tnum b), .string c, .string d], .int .i64 0]) := by
    show _ = _
    unfold rrdCV
    rw [rdC_tnum hr, ho]
    rfl
  have HM : Hid (∀ W, Calls Try.prog 49 #[.agg #[.int .i64 (tnum a), .int .i64 (tnum b), .string c, .string d]] W fun ex w' => ex = .returned (.bool true) ∧ Ext W w') := fun W => by
    have := wmayC_any (tnum a) (tnum b) c d W
    rw [ho] at this
    exact this
  clear hr hs ho
  have HI0 : Hid (RIC w.heap.size (((w.alloc (.cells #[.int .i64 4, .func (.func 45) #[] #[], .func (.func 47) #[] #[], .func (.func 49) #[] #[]] 75)).alloc (.cells #[.int .i64 0, .int .i64 0, .string ⟨#[]⟩, .string ⟨#[]⟩] 36)).alloc (.cells #[.int .i64 0, .int .i64 0, .string ⟨#[]⟩, .string ⟨#[]⟩] 36))) := RIC.start w
  have HX0 : Hid (Ext w (((w.alloc (.cells #[.int .i64 4, .func (.func 45) #[] #[], .func (.func 47) #[] #[], .func (.func 49) #[] #[]] 75)).alloc (.cells #[.int .i64 0, .int .i64 0, .string ⟨#[]⟩, .string ⟨#[]⟩] 36)).alloc (.cells #[.int .i64 0, .int .i64 0, .string ⟨#[]⟩, .string ⟨#[]⟩] 36))) := (((Ext.refl w).alloc _).alloc _).alloc _
  go_enter Try.func36, Try.ntmps36
  go_wp2_with fail
  obtain ⟨bk, Hb⟩ : ∃ bk, Hid (w.heap.size = bk) := ⟨_, rfl⟩
  have HB : Hid (w.heap.size ≤ bk + 1) := by rw [Hb.out]; exact Nat.le_succ bk
  rw [Hb.out] at HI0 ⊢
  generalize ((w.alloc (.cells #[.int .i64 4, .func (.func 45) #[] #[], .func (.func 47) #[] #[], .func (.func 49) #[] #[]] 75)).alloc (.cells #[.int .i64 0, .int .i64 0, .string ⟨#[]⟩, .string ⟨#[]⟩] 36)).alloc (.cells #[.int .i64 0, .int .i64 0, .string ⟨#[]⟩, .string ⟨#[]⟩] 36) = W at *
  refine (HC.out _).mono ?_
  rintro ex w1 ⟨u, rfl, HL, HX1⟩
  have HE1 : Hid (Ext w w1) := HX0.out.trans HX1
  have HI1 : Hid (RIC bk w1) := HI0.out.ext HX1
  clear HX0 HX1 HI0 HC
  have HV := wvlC_any a b c d u w1 HL
  obtain ⟨f0, f1, f2, f3⟩ := HI1.out.1
  obtain ⟨a0, c0, rfl⟩ := liesT_len HL
  clear HL
  generalize tnum a = ta at *
  generalize tnum b = tb at *
  go_wp2_with fail
  refine HV.mono ?_
  rintro ex w2 ⟨rfl, HX2⟩
  have HE2 : Hid (Ext w w2) := HE1.out.trans HX2
  have HI2 : Hid (RIC bk w2) := HI1.out.ext HX2
  clear HX2 HE1 HI1 HV f0 f1 f2 f3
  have HI3 : Hid (RIC bk (w2.alloc (.cells #[.int .i64 ta, .int .i64 tb, .string c, .string d] 36))) := HI2.out.ext ((Ext.refl _).alloc _)
  have HE3 : Hid (Ext w (w2.alloc (.cells #[.int .i64 ta, .int .i64 tb, .string c, .string d] 36))) := HE2.out.alloc _
  obtain ⟨B, HBs⟩ : ∃ B, Hid (w2.heap.size = B) := ⟨_, rfl⟩
  have HV3 : Hid (T4 (w2.alloc (.cells #[.int .i64 ta, .int .i64 tb, .string c, .string d] 36)) B (.int .i64 ta) (.int .i64 tb) (.string c) (.string d)) := by rw [← HBs.out]; exact ⟨by rw [World.cell?_alloc_at _ _ _ _ (by simp)]; rfl, by rw [World.cell?_alloc_at _ _ _ _ (by simp)]; rfl, by rw [World.cell?_alloc_at _ _ _ _ (by simp)]; rfl, by rw [World.cell?_alloc_at _ _ _ _ (by simp)]; rfl⟩
  obtain ⟨f0, f1, f2, f3⟩ := HI2.out.1
  have hb0 : bk < w2.heap.size := Nat.lt_of_le_of_lt (Nat.le_add_right bk 2) HI2.out.2.2.2.2
  clear HI2
  go_wp2_with fail
  rw [HBs.out]
  generalize w2.alloc (.cells #[.int .i64 ta, .int .i64 tb, .string c, .string d] 36) = W4 at *
  refine (HM.out _).mono ?_
  rintro ex w5 ⟨rfl, HX5⟩
  have HE5 : Hid (Ext w w5) := HE3.out.trans HX5
  have HI5 : Hid (RIC bk w5) := HI3.out.ext HX5
  obtain ⟨v0, v1, v2, v3⟩ := HV3.out.ext HX5
  clear HX5 HE3 HI3 HV3 HM f0 f1 f2 f3 hb0 HBs HE2
  obtain ⟨⟨f0, f1, f2, f3⟩, ⟨z0, z1, z2, z3⟩, ⟨y0, y1, y2, y3⟩, hf, hbk⟩ := HI5.out
  have g0 := hf 0
  have g1 := hf 1
  have g2 := hf 2
  have g3 := hf 3
  clear hf HI5
  go_wp2
  refine bodyPost_ret (v := .tuple #[.agg #[.int .i64 ta, .int .i64 tb, .string c, .string d], .int .i64 0]) (by simp [results, Try.results36, go_sem, z0, z1, z2, z3]) rfl ⟨by rw [HRes.out], Ext.st HB.out (Ext.st HB.out (Ext.st HB.out (Ext.st HB.out (HE5.out))))⟩
theorem wrrC_any (s : ByteArray) (hs : s.size ≤ 100000) (w : World) :
    Calls Try.prog 36 #[.agg #[.int .i64 4, .func (.func 45) #[] #[], .func (.func 47) #[] #[], .func (.func 49) #[] #[]], .string s] w fun e w' => e = .returned (rrdCV s) ∧ Ext w w' := by
  cases hr : rd s 0 with
  | none => exact wrrC_none s hs hr w
  | some l =>
    by_cases hl : l.length = 4
    · obtain ⟨a, b, c, d, rfl⟩ := list4 hl
      cases ho : cmdOk (tnum a) (tnum b) c d with
      | false => exact wrrC_bad s hs a b c d hr ho w
      | true => exact wrrC_good s hs a b c d hr ho w
    · exact wrrC_len s hs l hr hl w
theorem wrdC_form (s : ByteArray) : ∃ (k e : Int) (nm bd : ByteArray) (m : Int), rrdCV s = .tuple #[.agg #[.int .i64 k, .int .i64 e, .string nm, .string bd], .int .i64 m] := by
  unfold rrdCV
  cases hr : rdC s with
  | none => exact ⟨0, 0, ⟨#[]⟩, ⟨#[]⟩, 3, rfl⟩
  | some q => obtain ⟨k, e, nm, bd⟩ := q; exact ⟨k, e, nm, bd, 0, rfl⟩
set_option maxHeartbeats 1000000 in
theorem wrdC_any (s : ByteArray) (hs : s.size ≤ 100000) (w : World) :
    Calls Try.prog 20 #[.string s] w fun e w' => e = .returned (rrdCV s) ∧ Ext w w' := by
  have HC : Hid (∀ W, Calls Try.prog 36 #[.agg #[.int .i64 4, .func (.func 45) #[] #[], .func (.func 47) #[] #[], .func (.func 49) #[] #[]], .string s] W fun e w' => e = .returned (rrdCV s) ∧ Ext W w') := fun W => wrrC_any s hs W
  obtain ⟨k, e, nm, bd, m, hv⟩ := wrdC_form s
  rw [hv] at HC ⊢
  clear hv hs
  have HR0 : Hid (T4 (w.alloc (.cells #[.int .i64 0, .int .i64 0, .string ⟨#[]⟩, .string ⟨#[]⟩] 36)) w.heap.size (.int .i64 0) (.int .i64 0) (.string ⟨#[]⟩) (.string ⟨#[]⟩)) := ⟨by rw [World.cell?_alloc_at _ _ _ _ (by simp)]; rfl, by rw [World.cell?_alloc_at _ _ _ _ (by simp)]; rfl, by rw [World.cell?_alloc_at _ _ _ _ (by simp)]; rfl, by rw [World.cell?_alloc_at _ _ _ _ (by simp)]; rfl⟩
  have HF : Hid (∀ i, (w.alloc (.cells #[.int .i64 0, .int .i64 0, .string ⟨#[]⟩, .string ⟨#[]⟩] 36)).frozen? ⟨w.heap.size, i, none⟩ = false) := fun i => World.frozen?_alloc_at _ _ _ _ rfl
  have HX0 : Hid (Ext w (w.alloc (.cells #[.int .i64 0, .int .i64 0, .string ⟨#[]⟩, .string ⟨#[]⟩] 36))) := (Ext.refl w).alloc _
  have HBk : Hid (w.heap.size < (w.alloc (.cells #[.int .i64 0, .int .i64 0, .string ⟨#[]⟩, .string ⟨#[]⟩] 36)).heap.size) := by show _ < _; simp
  go_enter Try.func20, Try.ntmps20
  go_wp2_with fail
  obtain ⟨bk, Hb⟩ : ∃ bk, Hid (w.heap.size = bk) := ⟨_, rfl⟩
  have HB : Hid (w.heap.size ≤ bk) := by rw [Hb.out]; exact Nat.le_refl bk
  rw [Hb.out] at HR0 HF HBk ⊢
  generalize w.alloc (.cells #[.int .i64 0, .int .i64 0, .string ⟨#[]⟩, .string ⟨#[]⟩] 36) = W at *
  refine (wcf_any _).mono ?_
  rintro ex w1 ⟨rfl, HX1⟩
  go_wp2_with fail
  refine (HC.out _).mono ?_
  rintro ex w2 ⟨rfl, HX2⟩
  have HX3 := HX1.trans HX2
  have HE2 : Hid (Ext w w2) := HX0.out.trans HX3
  obtain ⟨z0, z1, z2, z3⟩ := HR0.out.ext HX3
  have hb1 : bk < w2.heap.size := Nat.lt_of_lt_of_le HBk.out HX3.size
  have g0 := (HX3.cells.2 bk 0 HBk.out).trans (HF.out 0)
  have g1 := (HX3.cells.2 bk 1 HBk.out).trans (HF.out 1)
  have g2 := (HX3.cells.2 bk 2 HBk.out).trans (HF.out 2)
  have g3 := (HX3.cells.2 bk 3 HBk.out).trans (HF.out 3)
  clear HX1 HX2 HX3 HX0 HR0 HF HBk HC
  go_wp2
  refine bodyPost_ret (v := .tuple #[.agg #[.int .i64 k, .int .i64 e, .string nm, .string bd], .int .i64 m]) (by simp [results, Try.results20, go_sem, z0, z1, z2, z3]) rfl ⟨rfl, Ext.st HB.out (Ext.st HB.out (Ext.st HB.out (Ext.st HB.out (HE2.out))))⟩
/-- What the call has laid for itself: its receiver, its answer, and none. -/
def RIW (bk : Nat) (W : World) : Prop := T4 W bk (.int .i64 5) (.func (.func 50) #[] #[]) (.func (.func 51) #[] #[]) (.func (.func 52) #[] #[]) ∧ T5 W (bk + 1) (.int .i64 0) (.int .i64 0) (.int .i64 0) (.int .i64 0) (.string ⟨#[]⟩) ∧ T5 W (bk + 2) (.int .i64 0) (.int .i64 0) (.int .i64 0) (.int .i64 0) (.string ⟨#[]⟩) ∧ (∀ i, W.frozen? ⟨bk + 1, i, none⟩ = false) ∧ bk + 2 < W.heap.size
theorem RIW.ext {bk : Nat} {W W' : World} (h : RIW bk W) (hx : Ext W W') : RIW bk W' :=
  ⟨h.1.ext hx, h.2.1.ext hx, h.2.2.1.ext hx, fun i => (hx.cells.2 _ i (Nat.lt_of_succ_lt h.2.2.2.2)).trans (h.2.2.2.1 i), Nat.lt_of_lt_of_le h.2.2.2.2 hx.size⟩
theorem RIW.start (w : World) : RIW w.heap.size (((w.alloc (.cells #[.int .i64 5, .func (.func 50) #[] #[], .func (.func 51) #[] #[], .func (.func 52) #[] #[]] 83)).alloc (.cells #[.int .i64 0, .int .i64 0, .int .i64 0, .int .i64 0, .string ⟨#[]⟩] 47)).alloc (.cells #[.int .i64 0, .int .i64 0, .int .i64 0, .int .i64 0, .string ⟨#[]⟩] 47)) := by
  have a1 : T4 (w.alloc (.cells #[.int .i64 5, .func (.func 50) #[] #[], .func (.func 51) #[] #[], .func (.func 52) #[] #[]] 83)) w.heap.size (.int .i64 5) (.func (.func 50) #[] #[]) (.func (.func 51) #[] #[]) (.func (.func 52) #[] #[]) := ⟨by rw [World.cell?_alloc_at _ _ _ _ (by simp)]; rfl, by rw [World.cell?_alloc_at _ _ _ _ (by simp)]; rfl, by rw [World.cell?_alloc_at _ _ _ _ (by simp)]; rfl, by rw [World.cell?_alloc_at _ _ _ _ (by simp)]; rfl⟩
  have a2 : T5 ((w.alloc (.cells #[.int .i64 5, .func (.func 50) #[] #[], .func (.func 51) #[] #[], .func (.func 52) #[] #[]] 83)).alloc (.cells #[.int .i64 0, .int .i64 0, .int .i64 0, .int .i64 0, .string ⟨#[]⟩] 47)) (w.heap.size + 1) (.int .i64 0) (.int .i64 0) (.int .i64 0) (.int .i64 0) (.string ⟨#[]⟩) := ⟨⟨by rw [World.cell?_alloc_at _ _ _ _ (by simp)]; rfl, by rw [World.cell?_alloc_at _ _ _ _ (by simp)]; rfl, by rw [World.cell?_alloc_at _ _ _ _ (by simp)]; rfl, by rw [World.cell?_alloc_at _ _ _ _ (by simp)]; rfl⟩, by rw [World.cell?_alloc_at _ _ _ _ (by simp)]; rfl⟩
  have a3 : T5 (((w.alloc (.cells #[.int .i64 5, .func (.func 50) #[] #[], .func (.func 51) #[] #[], .func (.func 52) #[] #[]] 83)).alloc (.cells #[.int .i64 0, .int .i64 0, .int .i64 0, .int .i64 0, .string ⟨#[]⟩] 47)).alloc (.cells #[.int .i64 0, .int .i64 0, .int .i64 0, .int .i64 0, .string ⟨#[]⟩] 47)) (w.heap.size + 2) (.int .i64 0) (.int .i64 0) (.int .i64 0) (.int .i64 0) (.string ⟨#[]⟩) := ⟨⟨by rw [World.cell?_alloc_at _ _ _ _ (by simp)]; rfl, by rw [World.cell?_alloc_at _ _ _ _ (by simp)]; rfl, by rw [World.cell?_alloc_at _ _ _ _ (by simp)]; rfl, by rw [World.cell?_alloc_at _ _ _ _ (by simp)]; rfl⟩, by rw [World.cell?_alloc_at _ _ _ _ (by simp)]; rfl⟩
  have x2 : Ext (w.alloc (.cells #[.int .i64 5, .func (.func 50) #[] #[], .func (.func 51) #[] #[], .func (.func 52) #[] #[]] 83)) (((w.alloc (.cells #[.int .i64 5, .func (.func 50) #[] #[], .func (.func 51) #[] #[], .func (.func 52) #[] #[]] 83)).alloc (.cells #[.int .i64 0, .int .i64 0, .int .i64 0, .int .i64 0, .string ⟨#[]⟩] 47)).alloc (.cells #[.int .i64 0, .int .i64 0, .int .i64 0, .int .i64 0, .string ⟨#[]⟩] 47)) := ((Ext.refl _).alloc _).alloc _
  have x3 : Ext ((w.alloc (.cells #[.int .i64 5, .func (.func 50) #[] #[], .func (.func 51) #[] #[], .func (.func 52) #[] #[]] 83)).alloc (.cells #[.int .i64 0, .int .i64 0, .int .i64 0, .int .i64 0, .string ⟨#[]⟩] 47)) (((w.alloc (.cells #[.int .i64 5, .func (.func 50) #[] #[], .func (.func 51) #[] #[], .func (.func 52) #[] #[]] 83)).alloc (.cells #[.int .i64 0, .int .i64 0, .int .i64 0, .int .i64 0, .string ⟨#[]⟩] 47)).alloc (.cells #[.int .i64 0, .int .i64 0, .int .i64 0, .int .i64 0, .string ⟨#[]⟩] 47)) := (Ext.refl _).alloc _
  refine ⟨a1.ext x2, a2.ext x3, a3, fun i => ?_, by simp⟩
  rw [x3.cells.2 _ i (by simp)]
  exact World.frozen?_alloc_at _ _ _ _ (by simp)
set_option maxHeartbeats 1000000 in
theorem wrrW_none (s : ByteArray) (hs : s.size ≤ 100000) (hr : rd s 0 = none) (w : World) :
    Calls Try.prog 40 #[.agg #[.int .i64 5, .func (.func 50) #[] #[], .func (.func 51) #[] #[], .func (.func 52) #[] #[]], .string s] w fun e w' => e = .returned (rrdWV s) ∧ Ext w w' := by
  have HC : Hid (∀ W, Calls Try.prog 15 #[.string s] W _) := fun W => wread_none hs hr W
  have HRes : Hid (rrdWV s = .tuple #[.agg #[.int .i64 0, .int .i64 0, .int .i64 0, .int .i64 0, .string ⟨#[]⟩], .int .i64 3]) := by
    show _ = _
    unfold rrdWV
    rw [rdW_none hr]
  clear hr hs
  have HI0 : Hid (RIW w.heap.size (((w.alloc (.cells #[.int .i64 5, .func (.func 50) #[] #[], .func (.func 51) #[] #[], .func (.func 52) #[] #[]] 83)).alloc (.cells #[.int .i64 0, .int .i64 0, .int .i64 0, .int .i64 0, .string ⟨#[]⟩] 47)).alloc (.cells #[.int .i64 0, .int .i64 0, .int .i64 0, .int .i64 0, .string ⟨#[]⟩] 47))) := RIW.start w
  have HX0 : Hid (Ext w (((w.alloc (.cells #[.int .i64 5, .func (.func 50) #[] #[], .func (.func 51) #[] #[], .func (.func 52) #[] #[]] 83)).alloc (.cells #[.int .i64 0, .int .i64 0, .int .i64 0, .int .i64 0, .string ⟨#[]⟩] 47)).alloc (.cells #[.int .i64 0, .int .i64 0, .int .i64 0, .int .i64 0, .string ⟨#[]⟩] 47))) := (((Ext.refl w).alloc _).alloc _).alloc _
  go_enter Try.func40, Try.ntmps40
  go_wp2_with fail
  obtain ⟨bk, Hb⟩ : ∃ bk, Hid (w.heap.size = bk) := ⟨_, rfl⟩
  have HB : Hid (w.heap.size ≤ bk + 1) := by rw [Hb.out]; exact Nat.le_succ bk
  rw [Hb.out] at HI0 ⊢
  generalize ((w.alloc (.cells #[.int .i64 5, .func (.func 50) #[] #[], .func (.func 51) #[] #[], .func (.func 52) #[] #[]] 83)).alloc (.cells #[.int .i64 0, .int .i64 0, .int .i64 0, .int .i64 0, .string ⟨#[]⟩] 47)).alloc (.cells #[.int .i64 0, .int .i64 0, .int .i64 0, .int .i64 0, .string ⟨#[]⟩] 47) = W at *
  refine (HC.out _).mono ?_
  rintro ex w1 ⟨u, rfl, HL, HX1⟩
  have HE1 : Hid (Ext w w1) := HX0.out.trans HX1
  have HI1 : Hid (RIW bk w1) := HI0.out.ext HX1
  clear HX0 HX1 HI0 HC
  obtain ⟨⟨f0, f1, f2, f3⟩, ⟨⟨z0, z1, z2, z3⟩, z4⟩, ⟨⟨y0, y1, y2, y3⟩, y4⟩, hf, hbk⟩ := HI1.out
  have g0 := hf 0
  have g1 := hf 1
  have g2 := hf 2
  have g3 := hf 3
  have g4 := hf 4
  clear hf HI1
  obtain ⟨a0, c0, rfl⟩ := liesT_len HL
  clear HL
  go_wp2
  refine bodyPost_ret (v := .tuple #[.agg #[.int .i64 0, .int .i64 0, .int .i64 0, .int .i64 0, .string ⟨#[]⟩], .int .i64 3]) (by simp [results, Try.results40, go_sem, z0, z1, z2, z3, z4]) rfl ⟨by rw [HRes.out], Ext.st HB.out (Ext.st HB.out (Ext.st HB.out (Ext.st HB.out (Ext.st HB.out (HE1.out)))))⟩
set_option maxHeartbeats 1000000 in
theorem wrrW_len (s : ByteArray) (hs : s.size ≤ 100000) (l : List ByteArray) (hr : rd s 0 = some l) (hlen : l.length ≠ 5) (w : World) :
    Calls Try.prog 40 #[.agg #[.int .i64 5, .func (.func 50) #[] #[], .func (.func 51) #[] #[], .func (.func 52) #[] #[]], .string s] w fun e w' => e = .returned (rrdWV s) ∧ Ext w w' := by
  have HC : Hid (∀ W, Calls Try.prog 15 #[.string s] W _) := fun W => wread_some hs hr W
  have HRes : Hid (rrdWV s = .tuple #[.agg #[.int .i64 0, .int .i64 0, .int .i64 0, .int .i64 0, .string ⟨#[]⟩], .int .i64 3]) := by
    show _ = _
    unfold rrdWV
    rw [rdW_len hr hlen]
  have hln : ¬ (l.length : Int) = 5 := by omega
  clear hlen
  clear hr hs
  have HI0 : Hid (RIW w.heap.size (((w.alloc (.cells #[.int .i64 5, .func (.func 50) #[] #[], .func (.func 51) #[] #[], .func (.func 52) #[] #[]] 83)).alloc (.cells #[.int .i64 0, .int .i64 0, .int .i64 0, .int .i64 0, .string ⟨#[]⟩] 47)).alloc (.cells #[.int .i64 0, .int .i64 0, .int .i64 0, .int .i64 0, .string ⟨#[]⟩] 47))) := RIW.start w
  have HX0 : Hid (Ext w (((w.alloc (.cells #[.int .i64 5, .func (.func 50) #[] #[], .func (.func 51) #[] #[], .func (.func 52) #[] #[]] 83)).alloc (.cells #[.int .i64 0, .int .i64 0, .int .i64 0, .int .i64 0, .string ⟨#[]⟩] 47)).alloc (.cells #[.int .i64 0, .int .i64 0, .int .i64 0, .int .i64 0, .string ⟨#[]⟩] 47))) := (((Ext.refl w).alloc _).alloc _).alloc _
  go_enter Try.func40, Try.ntmps40
  go_wp2_with fail
  obtain ⟨bk, Hb⟩ : ∃ bk, Hid (w.heap.size = bk) := ⟨_, rfl⟩
  have HB : Hid (w.heap.size ≤ bk + 1) := by rw [Hb.out]; exact Nat.le_succ bk
  rw [Hb.out] at HI0 ⊢
  generalize ((w.alloc (.cells #[.int .i64 5, .func (.func 50) #[] #[], .func (.func 51) #[] #[], .func (.func 52) #[] #[]] 83)).alloc (.cells #[.int .i64 0, .int .i64 0, .int .i64 0, .int .i64 0, .string ⟨#[]⟩] 47)).alloc (.cells #[.int .i64 0, .int .i64 0, .int .i64 0, .int .i64 0, .string ⟨#[]⟩] 47) = W at *
  refine (HC.out _).mono ?_
  rintro ex w1 ⟨u, rfl, HL, HX1⟩
  have HE1 : Hid (Ext w w1) := HX0.out.trans HX1
  have HI1 : Hid (RIW bk w1) := HI0.out.ext HX1
  clear HX0 HX1 HI0 HC
  obtain ⟨⟨f0, f1, f2, f3⟩, ⟨⟨z0, z1, z2, z3⟩, z4⟩, ⟨⟨y0, y1, y2, y3⟩, y4⟩, hf, hbk⟩ := HI1.out
  have g0 := hf 0
  have g1 := hf 1
  have g2 := hf 2
  have g3 := hf 3
  have g4 := hf 4
  clear hf HI1
  obtain ⟨a0, c0, rfl⟩ := liesT_len HL
  clear HL
  go_wp2
  refine bodyPost_ret (v := .tuple #[.agg #[.int .i64 0, .int .i64 0, .int .i64 0, .int .i64 0, .string ⟨#[]⟩], .int .i64 3]) (by simp [results, Try.results40, go_sem, z0, z1, z2, z3, z4]) rfl ⟨by rw [HRes.out], Ext.st HB.out (Ext.st HB.out (Ext.st HB.out (Ext.st HB.out (Ext.st HB.out (HE1.out)))))⟩
set_option maxHeartbeats 2000000 in
theorem wrrW_bad (s : ByteArray) (hs : s.size ≤ 100000) (a b c d x : ByteArray) (hr : rd s 0 = some [a, b, c, d, x]) (ho : wrdOk (tnum a) (tnum b) (tnum c) (tnum d - 1) x = false) (w : World) :
    Calls Try.prog 40 #[.agg #[.int .i64 5, .func (.func 50) #[] #[], .func (.func 51) #[] #[], .func (.func 52) #[] #[]], .string s] w fun e w' => e = .returned (rrdWV s) ∧ Ext w w' := by
  have HC : Hid (∀ W, Calls Try.prog 15 #[.string s] W _) := fun W => wread_some hs hr W
  have HRes : Hid (rrdWV s = .tuple #[.agg #[.int .i64 0, .int .i64 0, .int .i64 0, .int .i64 0, .string ⟨#[]⟩], .int .i64 3]) := by
    show _ = _
    unfold rrdWV
    rw [rdW_tnum hr, ho]
    rfl
  have HM : Hid (∀ W, Calls Try.prog 52 #[.agg #[.int .i64 (tnum a), .int .i64 (tnum b), .int .i64 (tnum c), .int .i64 (tnum d - 1), .string x]] W fun ex w' => ex = .returned (.bool false) ∧ Ext W w') := fun W => by
    have := wmayW_any (tnum a) (tnum b) (tnum c) (tnum d - 1) x W
    rw [ho] at this
    exact this
  clear hr hs ho
  have HI0 : Hid (RIW w.heap.size (((w.alloc (.cells #[.int .i64 5, .func (.func 50) #[] #[], .func (.func 51) #[] #[], .func (.func 52) #[] #[]] 83)).alloc (.cells #[.int .i64 0, .int .i64 0, .int .i64 0, .int .i64 0, .string ⟨#[]⟩] 47)).alloc (.cells #[.int .i64 0, .int .i64 0, .int .i64 0, .int .i64 0, .string ⟨#[]⟩] 47))) := RIW.start w
  have HX0 : Hid (Ext w (((w.alloc (.cells #[.int .i64 5, .func (.func 50) #[] #[], .func (.func 51) #[] #[], .func (.func 52) #[] #[]] 83)).alloc (.cells #[.int .i64 0, .int .i64 0, .int .i64 0, .int .i64 0, .string ⟨#[]⟩] 47)).alloc (.cells #[.int .i64 0, .int .i64 0, .int .i64 0, .int .i64 0, .string ⟨#[]⟩] 47))) := (((Ext.refl w).alloc _).alloc _).alloc _
  go_enter Try.func40, Try.ntmps40
  go_wp2_with fail
  obtain ⟨bk, Hb⟩ : ∃ bk, Hid (w.heap.size = bk) := ⟨_, rfl⟩
  have HB : Hid (w.heap.size ≤ bk + 1) := by rw [Hb.out]; exact Nat.le_succ bk
  rw [Hb.out] at HI0 ⊢
  generalize ((w.alloc (.cells #[.int .i64 5, .func (.func 50) #[] #[], .func (.func 51) #[] #[], .func (.func 52) #[] #[]] 83)).alloc (.cells #[.int .i64 0, .int .i64 0, .int .i64 0, .int .i64 0, .string ⟨#[]⟩] 47)).alloc (.cells #[.int .i64 0, .int .i64 0, .int .i64 0, .int .i64 0, .string ⟨#[]⟩] 47) = W at *
  refine (HC.out _).mono ?_
  rintro ex w1 ⟨u, rfl, HL, HX1⟩
  have HE1 : Hid (Ext w w1) := HX0.out.trans HX1
  have HI1 : Hid (RIW bk w1) := HI0.out.ext HX1
  clear HX0 HX1 HI0 HC
  have HV := wvlW_any a b c d x u w1 HL
  obtain ⟨f0, f1, f2, f3⟩ := HI1.out.1
  obtain ⟨a0, c0, rfl⟩ := liesT_len HL
  clear HL
  generalize tnum a = ta at *
  generalize tnum b = tb at *
  generalize tnum c = tc at *
  generalize tnum d - 1 = td at *
  go_wp2_with fail
  refine HV.mono ?_
  rintro ex w2 ⟨rfl, HX2⟩
  have HE2 : Hid (Ext w w2) := HE1.out.trans HX2
  have HI2 : Hid (RIW bk w2) := HI1.out.ext HX2
  clear HX2 HE1 HI1 HV f0 f1 f2 f3
  have HI3 : Hid (RIW bk (w2.alloc (.cells #[.int .i64 ta, .int .i64 tb, .int .i64 tc, .int .i64 td, .string x] 47))) := HI2.out.ext ((Ext.refl _).alloc _)
  have HE3 : Hid (Ext w (w2.alloc (.cells #[.int .i64 ta, .int .i64 tb, .int .i64 tc, .int .i64 td, .string x] 47))) := HE2.out.alloc _
  obtain ⟨B, HBs⟩ : ∃ B, Hid (w2.heap.size = B) := ⟨_, rfl⟩
  have HV3 : Hid (T5 (w2.alloc (.cells #[.int .i64 ta, .int .i64 tb, .int .i64 tc, .int .i64 td, .string x] 47)) B (.int .i64 ta) (.int .i64 tb) (.int .i64 tc) (.int .i64 td) (.string x)) := by rw [← HBs.out]; exact ⟨⟨by rw [World.cell?_alloc_at _ _ _ _ (by simp)]; rfl, by rw [World.cell?_alloc_at _ _ _ _ (by simp)]; rfl, by rw [World.cell?_alloc_at _ _ _ _ (by simp)]; rfl, by rw [World.cell?_alloc_at _ _ _ _ (by simp)]; rfl⟩, by rw [World.cell?_alloc_at _ _ _ _ (by simp)]; rfl⟩
  obtain ⟨f0, f1, f2, f3⟩ := HI2.out.1
  have hb0 : bk < w2.heap.size := Nat.lt_of_le_of_lt (Nat.le_add_right bk 2) HI2.out.2.2.2.2
  clear HI2
  go_wp2_with fail
  rw [HBs.out]
  generalize w2.alloc (.cells #[.int .i64 ta, .int .i64 tb, .int .i64 tc, .int .i64 td, .string x] 47) = W4 at *
  refine (HM.out _).mono ?_
  rintro ex w5 ⟨rfl, HX5⟩
  have HE5 : Hid (Ext w w5) := HE3.out.trans HX5
  have HI5 : Hid (RIW bk w5) := HI3.out.ext HX5
  obtain ⟨⟨v0, v1, v2, v3⟩, v4⟩ := HV3.out.ext HX5
  clear HX5 HE3 HI3 HV3 HM f0 f1 f2 f3 hb0 HBs HE2
  obtain ⟨⟨f0, f1, f2, f3⟩, ⟨⟨z0, z1, z2, z3⟩, z4⟩, ⟨⟨y0, y1, y2, y3⟩, y4⟩, hf, hbk⟩ := HI5.out
  have g0 := hf 0
  have g1 := hf 1
  have g2 := hf 2
  have g3 := hf 3
  have g4 := hf 4
  clear hf HI5
  go_wp2
  refine bodyPost_ret (v := .tuple #[.agg #[.int .i64 0, .int .i64 0, .int .i64 0, .int .i64 0, .string ⟨#[]⟩], .int .i64 3]) (by simp [results, Try.results40, go_sem, z0, z1, z2, z3, z4]) rfl ⟨by rw [HRes.out], Ext.st HB.out (Ext.st HB.out (Ext.st HB.out (Ext.st HB.out (Ext.st HB.out (HE5.out)))))⟩
set_option maxHeartbeats 2000000 in
theorem wrrW_good (s : ByteArray) (hs : s.size ≤ 100000) (a b c d x : ByteArray) (hr : rd s 0 = some [a, b, c, d, x]) (ho : wrdOk (tnum a) (tnum b) (tnum c) (tnum d - 1) x = true) (w : World) :
    Calls Try.prog 40 #[.agg #[.int .i64 5, .func (.func 50) #[] #[], .func (.func 51) #[] #[], .func (.func 52) #[] #[]], .string s] w fun e w' => e = .returned (rrdWV s) ∧ Ext w w' := by
  have HC : Hid (∀ W, Calls Try.prog 15 #[.string s] W _) := fun W => wread_some hs hr W
  have HRes : Hid (rrdWV s = .tuple #[.agg #[.int .i64 (tnum a), .int .i64 (tnum b), .int .i64 (tnum c), .int .i64 (tnum d - 1), .string x], .int .i64 0]) := by
    show _ = _
    unfold rrdWV
    rw [rdW_tnum hr, ho]
    rfl
  have HM : Hid (∀ W, Calls Try.prog 52 #[.agg #[.int .i64 (tnum a), .int .i64 (tnum b), .int .i64 (tnum c), .int .i64 (tnum d - 1), .string x]] W fun ex w' => ex = .returned (.bool true) ∧ Ext W w') := fun W => by
    have := wmayW_any (tnum a) (tnum b) (tnum c) (tnum d - 1) x W
    rw [ho] at this
    exact this
  clear hr hs ho
  have HI0 : Hid (RIW w.heap.size (((w.alloc (.cells #[.int .i64 5, .func (.func 50) #[] #[], .func (.func 51) #[] #[], .func (.func 52) #[] #[]] 83)).alloc (.cells #[.int .i64 0, .int .i64 0, .int .i64 0, .int .i64 0, .string ⟨#[]⟩] 47)).alloc (.cells #[.int .i64 0, .int .i64 0, .int .i64 0, .int .i64 0, .string ⟨#[]⟩] 47))) := RIW.start w
  have HX0 : Hid (Ext w (((w.alloc (.cells #[.int .i64 5, .func (.func 50) #[] #[], .func (.func 51) #[] #[], .func (.func 52) #[] #[]] 83)).alloc (.cells #[.int .i64 0, .int .i64 0, .int .i64 0, .int .i64 0, .string ⟨#[]⟩] 47)).alloc (.cells #[.int .i64 0, .int .i64 0, .int .i64 0, .int .i64 0, .string ⟨#[]⟩] 47))) := (((Ext.refl w).alloc _).alloc _).alloc _
  go_enter Try.func40, Try.ntmps40
  go_wp2_with fail
  obtain ⟨bk, Hb⟩ : ∃ bk, Hid (w.heap.size = bk) := ⟨_, rfl⟩
  have HB : Hid (w.heap.size ≤ bk + 1) := by rw [Hb.out]; exact Nat.le_succ bk
  rw [Hb.out] at HI0 ⊢
  generalize ((w.alloc (.cells #[.int .i64 5, .func (.func 50) #[] #[], .func (.func 51) #[] #[], .func (.func 52) #[] #[]] 83)).alloc (.cells #[.int .i64 0, .int .i64 0, .int .i64 0, .int .i64 0, .string ⟨#[]⟩] 47)).alloc (.cells #[.int .i64 0, .int .i64 0, .int .i64 0, .int .i64 0, .string ⟨#[]⟩] 47) = W at *
  refine (HC.out _).mono ?_
  rintro ex w1 ⟨u, rfl, HL, HX1⟩
  have HE1 : Hid (Ext w w1) := HX0.out.trans HX1
  have HI1 : Hid (RIW bk w1) := HI0.out.ext HX1
  clear HX0 HX1 HI0 HC
  have HV := wvlW_any a b c d x u w1 HL
  obtain ⟨f0, f1, f2, f3⟩ := HI1.out.1
  obtain ⟨a0, c0, rfl⟩ := liesT_len HL
  clear HL
  generalize tnum a = ta at *
  generalize tnum b = tb at *
  generalize tnum c = tc at *
  generalize tnum d - 1 = td at *
  go_wp2_with fail
  refine HV.mono ?_
  rintro ex w2 ⟨rfl, HX2⟩
  have HE2 : Hid (Ext w w2) := HE1.out.trans HX2
  have HI2 : Hid (RIW bk w2) := HI1.out.ext HX2
  clear HX2 HE1 HI1 HV f0 f1 f2 f3
  have HI3 : Hid (RIW bk (w2.alloc (.cells #[.int .i64 ta, .int .i64 tb, .int .i64 tc, .int .i64 td, .string x] 47))) := HI2.out.ext ((Ext.refl _).alloc _)
  have HE3 : Hid (Ext w (w2.alloc (.cells #[.int .i64 ta, .int .i64 tb, .int .i64 tc, .int .i64 td, .string x] 47))) := HE2.out.alloc _
  obtain ⟨B, HBs⟩ : ∃ B, Hid (w2.heap.size = B) := ⟨_, rfl⟩
  have HV3 : Hid (T5 (w2.alloc (.cells #[.int .i64 ta, .int .i64 tb, .int .i64 tc, .int .i64 td, .string x] 47)) B (.int .i64 ta) (.int .i64 tb) (.int .i64 tc) (.int .i64 td) (.string x)) := by rw [← HBs.out]; exact ⟨⟨by rw [World.cell?_alloc_at _ _ _ _ (by simp)]; rfl, by rw [World.cell?_alloc_at _ _ _ _ (by simp)]; rfl, by rw [World.cell?_alloc_at _ _ _ _ (by simp)]; rfl, by rw [World.cell?_alloc_at _ _ _ _ (by simp)]; rfl⟩, by rw [World.cell?_alloc_at _ _ _ _ (by simp)]; rfl⟩
  obtain ⟨f0, f1, f2, f3⟩ := HI2.out.1
  have hb0 : bk < w2.heap.size := Nat.lt_of_le_of_lt (Nat.le_add_right bk 2) HI2.out.2.2.2.2
  clear HI2
  go_wp2_with fail
  rw [HBs.out]
  generalize w2.alloc (.cells #[.int .i64 ta, .int .i64 tb, .int .i64 tc, .int .i64 td, .string x] 47) = W4 at *
  refine (HM.out _).mono ?_
  rintro ex w5 ⟨rfl, HX5⟩
  have HE5 : Hid (Ext w w5) := HE3.out.trans HX5
  have HI5 : Hid (RIW bk w5) := HI3.out.ext HX5
  obtain ⟨⟨v0, v1, v2, v3⟩, v4⟩ := HV3.out.ext HX5
  clear HX5 HE3 HI3 HV3 HM f0 f1 f2 f3 hb0 HBs HE2
  obtain ⟨⟨f0, f1, f2, f3⟩, ⟨⟨z0, z1, z2, z3⟩, z4⟩, ⟨⟨y0, y1, y2, y3⟩, y4⟩, hf, hbk⟩ := HI5.out
  have g0 := hf 0
  have g1 := hf 1
  have g2 := hf 2
  have g3 := hf 3
  have g4 := hf 4
  clear hf HI5
  go_wp2
  refine bodyPost_ret (v := .tuple #[.agg #[.int .i64 ta, .int .i64 tb, .int .i64 tc, .int .i64 td, .string x], .int .i64 0]) (by simp [results, Try.results40, go_sem, z0, z1, z2, z3, z4]) rfl ⟨by rw [HRes.out], Ext.st HB.out (Ext.st HB.out (Ext.st HB.out (Ext.st HB.out (Ext.st HB.out (HE5.out)))))⟩
theorem wrrW_any (s : ByteArray) (hs : s.size ≤ 100000) (w : World) :
    Calls Try.prog 40 #[.agg #[.int .i64 5, .func (.func 50) #[] #[], .func (.func 51) #[] #[], .func (.func 52) #[] #[]], .string s] w fun e w' => e = .returned (rrdWV s) ∧ Ext w w' := by
  cases hr : rd s 0 with
  | none => exact wrrW_none s hs hr w
  | some l =>
    by_cases hl : l.length = 5
    · obtain ⟨a, b, c, d, x, rfl⟩ := list5 hl
      cases ho : wrdOk (tnum a) (tnum b) (tnum c) (tnum d - 1) x with
      | false => exact wrrW_bad s hs a b c d x hr ho w
      | true => exact wrrW_good s hs a b c d x hr ho w
    · exact wrrW_len s hs l hr hl w
theorem wrdW_form (s : ByteArray) : ∃ (k f r v : Int) (x : ByteArray) (m : Int), rrdWV s = .tuple #[.agg #[.int .i64 k, .int .i64 f, .int .i64 r, .int .i64 v, .string x], .int .i64 m] := by
  unfold rrdWV
  cases hr : rdW s with
  | none => exact ⟨0, 0, 0, 0, ⟨#[]⟩, 3, rfl⟩
  | some q => obtain ⟨k, f, r, v, x⟩ := q; exact ⟨k, f, r, v, x, 0, rfl⟩
set_option maxHeartbeats 1000000 in
theorem wrdW_any (s : ByteArray) (hs : s.size ≤ 100000) (w : World) :
    Calls Try.prog 24 #[.string s] w fun e w' => e = .returned (rrdWV s) ∧ Ext w w' := by
  have HC : Hid (∀ W, Calls Try.prog 40 #[.agg #[.int .i64 5, .func (.func 50) #[] #[], .func (.func 51) #[] #[], .func (.func 52) #[] #[]], .string s] W fun e w' => e = .returned (rrdWV s) ∧ Ext W w') := fun W => wrrW_any s hs W
  obtain ⟨k, f, r, v, x, m, hv⟩ := wrdW_form s
  rw [hv] at HC ⊢
  clear hv hs
  have HR0 : Hid (T5 (w.alloc (.cells #[.int .i64 0, .int .i64 0, .int .i64 0, .int .i64 0, .string ⟨#[]⟩] 47)) w.heap.size (.int .i64 0) (.int .i64 0) (.int .i64 0) (.int .i64 0) (.string ⟨#[]⟩)) := ⟨⟨by rw [World.cell?_alloc_at _ _ _ _ (by simp)]; rfl, by rw [World.cell?_alloc_at _ _ _ _ (by simp)]; rfl, by rw [World.cell?_alloc_at _ _ _ _ (by simp)]; rfl, by rw [World.cell?_alloc_at _ _ _ _ (by simp)]; rfl⟩, by rw [World.cell?_alloc_at _ _ _ _ (by simp)]; rfl⟩
  have HF : Hid (∀ i, (w.alloc (.cells #[.int .i64 0, .int .i64 0, .int .i64 0, .int .i64 0, .string ⟨#[]⟩] 47)).frozen? ⟨w.heap.size, i, none⟩ = false) := fun i => World.frozen?_alloc_at _ _ _ _ rfl
  have HX0 : Hid (Ext w (w.alloc (.cells #[.int .i64 0, .int .i64 0, .int .i64 0, .int .i64 0, .string ⟨#[]⟩] 47))) := (Ext.refl w).alloc _
  have HBk : Hid (w.heap.size < (w.alloc (.cells #[.int .i64 0, .int .i64 0, .int .i64 0, .int .i64 0, .string ⟨#[]⟩] 47)).heap.size) := by show _ < _; simp
  go_enter Try.func24, Try.ntmps24
  go_wp2_with fail
  obtain ⟨bk, Hb⟩ : ∃ bk, Hid (w.heap.size = bk) := ⟨_, rfl⟩
  have HB : Hid (w.heap.size ≤ bk) := by rw [Hb.out]; exact Nat.le_refl bk
  rw [Hb.out] at HR0 HF HBk ⊢
  generalize w.alloc (.cells #[.int .i64 0, .int .i64 0, .int .i64 0, .int .i64 0, .string ⟨#[]⟩] 47) = W at *
  refine (wwf_any _).mono ?_
  rintro ex w1 ⟨rfl, HX1⟩
  go_wp2_with fail
  refine (HC.out _).mono ?_
  rintro ex w2 ⟨rfl, HX2⟩
  have HX3 := HX1.trans HX2
  have HE2 : Hid (Ext w w2) := HX0.out.trans HX3
  obtain ⟨⟨z0, z1, z2, z3⟩, z4⟩ := HR0.out.ext HX3
  have hb1 : bk < w2.heap.size := Nat.lt_of_lt_of_le HBk.out HX3.size
  have g0 := (HX3.cells.2 bk 0 HBk.out).trans (HF.out 0)
  have g1 := (HX3.cells.2 bk 1 HBk.out).trans (HF.out 1)
  have g2 := (HX3.cells.2 bk 2 HBk.out).trans (HF.out 2)
  have g3 := (HX3.cells.2 bk 3 HBk.out).trans (HF.out 3)
  have g4 := (HX3.cells.2 bk 4 HBk.out).trans (HF.out 4)
  clear HX1 HX2 HX3 HX0 HR0 HF HBk HC
  go_wp2
  refine bodyPost_ret (v := .tuple #[.agg #[.int .i64 k, .int .i64 f, .int .i64 r, .int .i64 v, .string x], .int .i64 m]) (by simp [results, Try.results24, go_sem, z0, z1, z2, z3, z4]) rfl ⟨rfl, Ext.st HB.out (Ext.st HB.out (Ext.st HB.out (Ext.st HB.out (Ext.st HB.out (HE2.out)))))⟩
end Go.Proofs.Ythdmecoeghnifaa
