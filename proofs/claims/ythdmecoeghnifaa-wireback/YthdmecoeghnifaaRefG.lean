/-
  sandglassref16.ReadWord, called; nothing old is turned.
-/
import Derived.Test.YthdmecoeghnifaaRefF
namespace Go.Proofs.Ythdmecoeghnifaa
open Go.RowKit
/-- What rrdW hands out. -/
def rrdWV (s : ByteArray) : Value :=
  match rdW s with
  | some (k, f, r, v, x) => .tuple #[.agg #[.int .i64 k, .int .i64 f, .int .i64 r, .int .i64 v, .string x], .int .i64 0]
  | none => .tuple #[.agg #[.int .i64 0, .int .i64 0, .int .i64 0, .int .i64 0, .string ⟨#[]⟩], .int .i64 3]
set_option maxHeartbeats 4000000 in
theorem rrdW_none (s : ByteArray) (hs : s.size ≤ 100000) (hr : rd s 0 = none) (w : World) :
    Calls Try.prog 25 #[.string s] w fun e w' => e = .returned (rrdWV s) ∧ Ext w w' := by
  have HC : Hid (∀ W, Calls Try.prog 16 #[.string s] W _) := fun W => rread_none hs hr W
  have HR0 : Hid (T5 (w.alloc (.cells #[.int .i64 0, .int .i64 0, .int .i64 0, .int .i64 0, .string ⟨#[]⟩] 47)) w.heap.size (.int .i64 0) (.int .i64 0) (.int .i64 0) (.int .i64 0) (.string ⟨#[]⟩)) := ⟨⟨by rw [World.cell?_alloc_at _ _ _ _ rfl]; rfl, by rw [World.cell?_alloc_at _ _ _ _ rfl]; rfl, by rw [World.cell?_alloc_at _ _ _ _ rfl]; rfl, by rw [World.cell?_alloc_at _ _ _ _ rfl]; rfl⟩, by rw [World.cell?_alloc_at _ _ _ _ rfl]; rfl⟩
  go_enter Try.func25, Try.ntmps25
  go_wp2_with fail
  refine (HC.out _).mono ?_
  rintro e w1 ⟨u, rfl, HL, HX⟩
  have HE1 : Hid (Ext w w1) := ((Ext.refl w).alloc _).trans HX
  obtain ⟨⟨z0, z1, z2, z3⟩, z4⟩ := (keepT5 HX HR0.out).2
  have hf : ∀ i, w1.frozen? ⟨w.heap.size, i, none⟩ = false := fun i => (HX.cells.2 _ i (by simp)).trans (World.frozen?_alloc_at _ _ _ _ rfl)
  have f0 := hf 0
  have f1 := hf 1
  have f2 := hf 2
  have f3 := hf 3
  have f4 := hf 4
  clear hf
  have hb1 : w.heap.size < w1.heap.size := Nat.lt_of_lt_of_le (by simp) HX.size
  clear HX HR0 HC
  obtain ⟨bk, Hb⟩ : ∃ bk, Hid (w.heap.size = bk) := ⟨_, rfl⟩
  have HB : Hid (w.heap.size ≤ bk) := by rw [Hb.out]; exact Nat.le_refl bk
  rw [Hb.out] at hb1 z0 f0 z1 f1 z2 f2 z3 f3 z4 f4 ⊢
  obtain ⟨a0, c0, rfl⟩ := liesT_len HL
  clear HL
  have HRes : Hid (rrdWV s = .tuple #[.agg #[.int .i64 0, .int .i64 0, .int .i64 0, .int .i64 0, .string ⟨#[]⟩], .int .i64 3]) := by
    show _ = _
    unfold rrdWV
    rw [rdW_none hr]
  clear hr hs
  go_wp2
  refine bodyPost_ret (v := .tuple #[.agg #[.int .i64 0, .int .i64 0, .int .i64 0, .int .i64 0, .string ⟨#[]⟩], .int .i64 3]) (by simp [results, Try.results25, go_sem, z0, z1, z2, z3, z4]) rfl ⟨by rw [HRes.out], Ext.st HB.out (Ext.st HB.out (Ext.st HB.out (Ext.st HB.out (Ext.st HB.out (HE1.out)))))⟩
set_option maxHeartbeats 4000000 in
theorem rrdW_len (s : ByteArray) (hs : s.size ≤ 100000) (l : List ByteArray) (hr : rd s 0 = some l) (hlen : l.length ≠ 5) (w : World) :
    Calls Try.prog 25 #[.string s] w fun e w' => e = .returned (rrdWV s) ∧ Ext w w' := by
  have HC : Hid (∀ W, Calls Try.prog 16 #[.string s] W _) := fun W => rread_some hs hr W
  have HR0 : Hid (T5 (w.alloc (.cells #[.int .i64 0, .int .i64 0, .int .i64 0, .int .i64 0, .string ⟨#[]⟩] 47)) w.heap.size (.int .i64 0) (.int .i64 0) (.int .i64 0) (.int .i64 0) (.string ⟨#[]⟩)) := ⟨⟨by rw [World.cell?_alloc_at _ _ _ _ rfl]; rfl, by rw [World.cell?_alloc_at _ _ _ _ rfl]; rfl, by rw [World.cell?_alloc_at _ _ _ _ rfl]; rfl, by rw [World.cell?_alloc_at _ _ _ _ rfl]; rfl⟩, by rw [World.cell?_alloc_at _ _ _ _ rfl]; rfl⟩
  go_enter Try.func25, Try.ntmps25
  go_wp2_with fail
  refine (HC.out _).mono ?_
  rintro e w1 ⟨u, rfl, HL, HX⟩
  have HE1 : Hid (Ext w w1) := ((Ext.refl w).alloc _).trans HX
  obtain ⟨⟨z0, z1, z2, z3⟩, z4⟩ := (keepT5 HX HR0.out).2
  have hf : ∀ i, w1.frozen? ⟨w.heap.size, i, none⟩ = false := fun i => (HX.cells.2 _ i (by simp)).trans (World.frozen?_alloc_at _ _ _ _ rfl)
  have f0 := hf 0
  have f1 := hf 1
  have f2 := hf 2
  have f3 := hf 3
  have f4 := hf 4
  clear hf
  have hb1 : w.heap.size < w1.heap.size := Nat.lt_of_lt_of_le (by simp) HX.size
  clear HX HR0 HC
  obtain ⟨bk, Hb⟩ : ∃ bk, Hid (w.heap.size = bk) := ⟨_, rfl⟩
  have HB : Hid (w.heap.size ≤ bk) := by rw [Hb.out]; exact Nat.le_refl bk
  rw [Hb.out] at hb1 z0 f0 z1 f1 z2 f2 z3 f3 z4 f4 ⊢
  obtain ⟨a0, c0, rfl⟩ := liesT_len HL
  clear HL
  have hln : ¬ (l.length : Int) = 5 := by omega
  have HRes : Hid (rrdWV s = .tuple #[.agg #[.int .i64 0, .int .i64 0, .int .i64 0, .int .i64 0, .string ⟨#[]⟩], .int .i64 3]) := by
    show _ = _
    unfold rrdWV
    rw [rdW_len hr hlen]
  clear hr hs hlen
  go_wp2
  refine bodyPost_ret (v := .tuple #[.agg #[.int .i64 0, .int .i64 0, .int .i64 0, .int .i64 0, .string ⟨#[]⟩], .int .i64 3]) (by simp [results, Try.results25, go_sem, z0, z1, z2, z3, z4]) rfl ⟨by rw [HRes.out], Ext.st HB.out (Ext.st HB.out (Ext.st HB.out (Ext.st HB.out (Ext.st HB.out (HE1.out)))))⟩
set_option maxHeartbeats 4000000 in
theorem rrdW_a (s : ByteArray) (hs : s.size ≤ 100000) (a b c d x : ByteArray) (hr : rd s 0 = some [a, b, c, d, x])  (ca : ¬ a.size = 1) (w : World) :
    Calls Try.prog 25 #[.string s] w fun e w' => e = .returned (rrdWV s) ∧ Ext w w' := by
  have HC : Hid (∀ W, Calls Try.prog 16 #[.string s] W _) := fun W => rread_some hs hr W
  have HR0 : Hid (T5 (w.alloc (.cells #[.int .i64 0, .int .i64 0, .int .i64 0, .int .i64 0, .string ⟨#[]⟩] 47)) w.heap.size (.int .i64 0) (.int .i64 0) (.int .i64 0) (.int .i64 0) (.string ⟨#[]⟩)) := ⟨⟨by rw [World.cell?_alloc_at _ _ _ _ rfl]; rfl, by rw [World.cell?_alloc_at _ _ _ _ rfl]; rfl, by rw [World.cell?_alloc_at _ _ _ _ rfl]; rfl, by rw [World.cell?_alloc_at _ _ _ _ rfl]; rfl⟩, by rw [World.cell?_alloc_at _ _ _ _ rfl]; rfl⟩
  go_enter Try.func25, Try.ntmps25
  go_wp2_with fail
  refine (HC.out _).mono ?_
  rintro e w1 ⟨u, rfl, HL, HX⟩
  have HE1 : Hid (Ext w w1) := ((Ext.refl w).alloc _).trans HX
  obtain ⟨⟨z0, z1, z2, z3⟩, z4⟩ := (keepT5 HX HR0.out).2
  have hf : ∀ i, w1.frozen? ⟨w.heap.size, i, none⟩ = false := fun i => (HX.cells.2 _ i (by simp)).trans (World.frozen?_alloc_at _ _ _ _ rfl)
  have f0 := hf 0
  have f1 := hf 1
  have f2 := hf 2
  have f3 := hf 3
  have f4 := hf 4
  clear hf
  have hb1 : w.heap.size < w1.heap.size := Nat.lt_of_lt_of_le (by simp) HX.size
  clear HX HR0 HC
  obtain ⟨bk, Hb⟩ : ∃ bk, Hid (w.heap.size = bk) := ⟨_, rfl⟩
  have HB : Hid (w.heap.size ≤ bk) := by rw [Hb.out]; exact Nat.le_refl bk
  rw [Hb.out] at hb1 z0 f0 z1 f1 z2 f2 z3 f3 z4 f4 ⊢
  obtain ⟨g, o, cap, rfl, hg, y0, y1, y2, y3, y4⟩ := liesT5 HL
  clear HL
  have ia : ¬ (a.size : Int) = 1 := by omega
  have HRes : Hid (rrdWV s = .tuple #[.agg #[.int .i64 0, .int .i64 0, .int .i64 0, .int .i64 0, .string ⟨#[]⟩], .int .i64 3]) := by
    show _ = _
    unfold rrdWV
    rw [rdW_if hr, if_neg (fun q => ca (by simp only [q]))]
  clear hr hs
  go_wp2
  refine bodyPost_ret (v := .tuple #[.agg #[.int .i64 0, .int .i64 0, .int .i64 0, .int .i64 0, .string ⟨#[]⟩], .int .i64 3]) (by simp [results, Try.results25, go_sem, z0, z1, z2, z3, z4]) rfl ⟨by rw [HRes.out], Ext.st HB.out (Ext.st HB.out (Ext.st HB.out (Ext.st HB.out (Ext.st HB.out (HE1.out)))))⟩
set_option maxHeartbeats 4000000 in
theorem rrdW_b (s : ByteArray) (hs : s.size ≤ 100000) (a b c d x : ByteArray) (hr : rd s 0 = some [a, b, c, d, x]) (ca : a.size = 1) (cb : ¬ b.size = 1) (w : World) :
    Calls Try.prog 25 #[.string s] w fun e w' => e = .returned (rrdWV s) ∧ Ext w w' := by
  have HC : Hid (∀ W, Calls Try.prog 16 #[.string s] W _) := fun W => rread_some hs hr W
  have HR0 : Hid (T5 (w.alloc (.cells #[.int .i64 0, .int .i64 0, .int .i64 0, .int .i64 0, .string ⟨#[]⟩] 47)) w.heap.size (.int .i64 0) (.int .i64 0) (.int .i64 0) (.int .i64 0) (.string ⟨#[]⟩)) := ⟨⟨by rw [World.cell?_alloc_at _ _ _ _ rfl]; rfl, by rw [World.cell?_alloc_at _ _ _ _ rfl]; rfl, by rw [World.cell?_alloc_at _ _ _ _ rfl]; rfl, by rw [World.cell?_alloc_at _ _ _ _ rfl]; rfl⟩, by rw [World.cell?_alloc_at _ _ _ _ rfl]; rfl⟩
  go_enter Try.func25, Try.ntmps25
  go_wp2_with fail
  refine (HC.out _).mono ?_
  rintro e w1 ⟨u, rfl, HL, HX⟩
  have HE1 : Hid (Ext w w1) := ((Ext.refl w).alloc _).trans HX
  obtain ⟨⟨z0, z1, z2, z3⟩, z4⟩ := (keepT5 HX HR0.out).2
  have hf : ∀ i, w1.frozen? ⟨w.heap.size, i, none⟩ = false := fun i => (HX.cells.2 _ i (by simp)).trans (World.frozen?_alloc_at _ _ _ _ rfl)
  have f0 := hf 0
  have f1 := hf 1
  have f2 := hf 2
  have f3 := hf 3
  have f4 := hf 4
  clear hf
  have hb1 : w.heap.size < w1.heap.size := Nat.lt_of_lt_of_le (by simp) HX.size
  clear HX HR0 HC
  obtain ⟨bk, Hb⟩ : ∃ bk, Hid (w.heap.size = bk) := ⟨_, rfl⟩
  have HB : Hid (w.heap.size ≤ bk) := by rw [Hb.out]; exact Nat.le_refl bk
  rw [Hb.out] at hb1 z0 f0 z1 f1 z2 f2 z3 f3 z4 f4 ⊢
  obtain ⟨g, o, cap, rfl, hg, y0, y1, y2, y3, y4⟩ := liesT5 HL
  clear HL
  have ia : (a.size : Int) = 1 := by omega
  have ib : ¬ (b.size : Int) = 1 := by omega
  have HRes : Hid (rrdWV s = .tuple #[.agg #[.int .i64 0, .int .i64 0, .int .i64 0, .int .i64 0, .string ⟨#[]⟩], .int .i64 3]) := by
    show _ = _
    unfold rrdWV
    rw [rdW_if hr, if_neg (fun q => cb (by simp only [q]))]
  clear hr hs
  go_wp2
  refine bodyPost_ret (v := .tuple #[.agg #[.int .i64 0, .int .i64 0, .int .i64 0, .int .i64 0, .string ⟨#[]⟩], .int .i64 3]) (by simp [results, Try.results25, go_sem, z0, z1, z2, z3, z4]) rfl ⟨by rw [HRes.out], Ext.st HB.out (Ext.st HB.out (Ext.st HB.out (Ext.st HB.out (Ext.st HB.out (HE1.out)))))⟩
set_option maxHeartbeats 4000000 in
theorem rrdW_c (s : ByteArray) (hs : s.size ≤ 100000) (a b c d x : ByteArray) (hr : rd s 0 = some [a, b, c, d, x]) (ca : a.size = 1) (cb : b.size = 1) (cc : ¬ c.size = 1) (w : World) :
    Calls Try.prog 25 #[.string s] w fun e w' => e = .returned (rrdWV s) ∧ Ext w w' := by
  have HC : Hid (∀ W, Calls Try.prog 16 #[.string s] W _) := fun W => rread_some hs hr W
  have HR0 : Hid (T5 (w.alloc (.cells #[.int .i64 0, .int .i64 0, .int .i64 0, .int .i64 0, .string ⟨#[]⟩] 47)) w.heap.size (.int .i64 0) (.int .i64 0) (.int .i64 0) (.int .i64 0) (.string ⟨#[]⟩)) := ⟨⟨by rw [World.cell?_alloc_at _ _ _ _ rfl]; rfl, by rw [World.cell?_alloc_at _ _ _ _ rfl]; rfl, by rw [World.cell?_alloc_at _ _ _ _ rfl]; rfl, by rw [World.cell?_alloc_at _ _ _ _ rfl]; rfl⟩, by rw [World.cell?_alloc_at _ _ _ _ rfl]; rfl⟩
  go_enter Try.func25, Try.ntmps25
  go_wp2_with fail
  refine (HC.out _).mono ?_
  rintro e w1 ⟨u, rfl, HL, HX⟩
  have HE1 : Hid (Ext w w1) := ((Ext.refl w).alloc _).trans HX
  obtain ⟨⟨z0, z1, z2, z3⟩, z4⟩ := (keepT5 HX HR0.out).2
  have hf : ∀ i, w1.frozen? ⟨w.heap.size, i, none⟩ = false := fun i => (HX.cells.2 _ i (by simp)).trans (World.frozen?_alloc_at _ _ _ _ rfl)
  have f0 := hf 0
  have f1 := hf 1
  have f2 := hf 2
  have f3 := hf 3
  have f4 := hf 4
  clear hf
  have hb1 : w.heap.size < w1.heap.size := Nat.lt_of_lt_of_le (by simp) HX.size
  clear HX HR0 HC
  obtain ⟨bk, Hb⟩ : ∃ bk, Hid (w.heap.size = bk) := ⟨_, rfl⟩
  have HB : Hid (w.heap.size ≤ bk) := by rw [Hb.out]; exact Nat.le_refl bk
  rw [Hb.out] at hb1 z0 f0 z1 f1 z2 f2 z3 f3 z4 f4 ⊢
  obtain ⟨g, o, cap, rfl, hg, y0, y1, y2, y3, y4⟩ := liesT5 HL
  clear HL
  have ia : (a.size : Int) = 1 := by omega
  have ib : (b.size : Int) = 1 := by omega
  have ic : ¬ (c.size : Int) = 1 := by omega
  have HRes : Hid (rrdWV s = .tuple #[.agg #[.int .i64 0, .int .i64 0, .int .i64 0, .int .i64 0, .string ⟨#[]⟩], .int .i64 3]) := by
    show _ = _
    unfold rrdWV
    rw [rdW_if hr, if_neg (fun q => cc (by simp only [q]))]
  clear hr hs
  go_wp2
  refine bodyPost_ret (v := .tuple #[.agg #[.int .i64 0, .int .i64 0, .int .i64 0, .int .i64 0, .string ⟨#[]⟩], .int .i64 3]) (by simp [results, Try.results25, go_sem, z0, z1, z2, z3, z4]) rfl ⟨by rw [HRes.out], Ext.st HB.out (Ext.st HB.out (Ext.st HB.out (Ext.st HB.out (Ext.st HB.out (HE1.out)))))⟩
set_option maxHeartbeats 4000000 in
theorem rrdW_d (s : ByteArray) (hs : s.size ≤ 100000) (a b c d x : ByteArray) (hr : rd s 0 = some [a, b, c, d, x]) (ca : a.size = 1) (cb : b.size = 1) (cc : c.size = 1) (cd : ¬ d.size = 1) (w : World) :
    Calls Try.prog 25 #[.string s] w fun e w' => e = .returned (rrdWV s) ∧ Ext w w' := by
  have HC : Hid (∀ W, Calls Try.prog 16 #[.string s] W _) := fun W => rread_some hs hr W
  have HR0 : Hid (T5 (w.alloc (.cells #[.int .i64 0, .int .i64 0, .int .i64 0, .int .i64 0, .string ⟨#[]⟩] 47)) w.heap.size (.int .i64 0) (.int .i64 0) (.int .i64 0) (.int .i64 0) (.string ⟨#[]⟩)) := ⟨⟨by rw [World.cell?_alloc_at _ _ _ _ rfl]; rfl, by rw [World.cell?_alloc_at _ _ _ _ rfl]; rfl, by rw [World.cell?_alloc_at _ _ _ _ rfl]; rfl, by rw [World.cell?_alloc_at _ _ _ _ rfl]; rfl⟩, by rw [World.cell?_alloc_at _ _ _ _ rfl]; rfl⟩
  go_enter Try.func25, Try.ntmps25
  go_wp2_with fail
  refine (HC.out _).mono ?_
  rintro e w1 ⟨u, rfl, HL, HX⟩
  have HE1 : Hid (Ext w w1) := ((Ext.refl w).alloc _).trans HX
  obtain ⟨⟨z0, z1, z2, z3⟩, z4⟩ := (keepT5 HX HR0.out).2
  have hf : ∀ i, w1.frozen? ⟨w.heap.size, i, none⟩ = false := fun i => (HX.cells.2 _ i (by simp)).trans (World.frozen?_alloc_at _ _ _ _ rfl)
  have f0 := hf 0
  have f1 := hf 1
  have f2 := hf 2
  have f3 := hf 3
  have f4 := hf 4
  clear hf
  have hb1 : w.heap.size < w1.heap.size := Nat.lt_of_lt_of_le (by simp) HX.size
  clear HX HR0 HC
  obtain ⟨bk, Hb⟩ : ∃ bk, Hid (w.heap.size = bk) := ⟨_, rfl⟩
  have HB : Hid (w.heap.size ≤ bk) := by rw [Hb.out]; exact Nat.le_refl bk
  rw [Hb.out] at hb1 z0 f0 z1 f1 z2 f2 z3 f3 z4 f4 ⊢
  obtain ⟨g, o, cap, rfl, hg, y0, y1, y2, y3, y4⟩ := liesT5 HL
  clear HL
  have ia : (a.size : Int) = 1 := by omega
  have ib : (b.size : Int) = 1 := by omega
  have ic : (c.size : Int) = 1 := by omega
  have id : ¬ (d.size : Int) = 1 := by omega
  have HRes : Hid (rrdWV s = .tuple #[.agg #[.int .i64 0, .int .i64 0, .int .i64 0, .int .i64 0, .string ⟨#[]⟩], .int .i64 3]) := by
    show _ = _
    unfold rrdWV
    rw [rdW_if hr, if_neg (fun q => cd (by simp only [q]))]
  clear hr hs
  go_wp2
  refine bodyPost_ret (v := .tuple #[.agg #[.int .i64 0, .int .i64 0, .int .i64 0, .int .i64 0, .string ⟨#[]⟩], .int .i64 3]) (by simp [results, Try.results25, go_sem, z0, z1, z2, z3, z4]) rfl ⟨by rw [HRes.out], Ext.st HB.out (Ext.st HB.out (Ext.st HB.out (Ext.st HB.out (Ext.st HB.out (HE1.out)))))⟩
set_option maxHeartbeats 4000000 in
theorem rrdW_all (s : ByteArray) (hs : s.size ≤ 100000) (a b c d x : ByteArray) (hr : rd s 0 = some [a, b, c, d, x]) (ca : a.size = 1) (cb : b.size = 1) (cc : c.size = 1) (cd : d.size = 1) (w : World) :
    Calls Try.prog 25 #[.string s] w fun e w' => e = .returned (rrdWV s) ∧ Ext w w' := by
  have HC : Hid (∀ W, Calls Try.prog 16 #[.string s] W _) := fun W => rread_some hs hr W
  have HR0 : Hid (T5 (w.alloc (.cells #[.int .i64 0, .int .i64 0, .int .i64 0, .int .i64 0, .string ⟨#[]⟩] 47)) w.heap.size (.int .i64 0) (.int .i64 0) (.int .i64 0) (.int .i64 0) (.string ⟨#[]⟩)) := ⟨⟨by rw [World.cell?_alloc_at _ _ _ _ rfl]; rfl, by rw [World.cell?_alloc_at _ _ _ _ rfl]; rfl, by rw [World.cell?_alloc_at _ _ _ _ rfl]; rfl, by rw [World.cell?_alloc_at _ _ _ _ rfl]; rfl⟩, by rw [World.cell?_alloc_at _ _ _ _ rfl]; rfl⟩
  go_enter Try.func25, Try.ntmps25
  go_wp2_with fail
  refine (HC.out _).mono ?_
  rintro e w1 ⟨u, rfl, HL, HX⟩
  have HE1 : Hid (Ext w w1) := ((Ext.refl w).alloc _).trans HX
  obtain ⟨⟨z0, z1, z2, z3⟩, z4⟩ := (keepT5 HX HR0.out).2
  have hf : ∀ i, w1.frozen? ⟨w.heap.size, i, none⟩ = false := fun i => (HX.cells.2 _ i (by simp)).trans (World.frozen?_alloc_at _ _ _ _ rfl)
  have f0 := hf 0
  have f1 := hf 1
  have f2 := hf 2
  have f3 := hf 3
  have f4 := hf 4
  clear hf
  have hb1 : w.heap.size < w1.heap.size := Nat.lt_of_lt_of_le (by simp) HX.size
  clear HX HR0 HC
  obtain ⟨bk, Hb⟩ : ∃ bk, Hid (w.heap.size = bk) := ⟨_, rfl⟩
  have HB : Hid (w.heap.size ≤ bk) := by rw [Hb.out]; exact Nat.le_refl bk
  rw [Hb.out] at hb1 z0 f0 z1 f1 z2 f2 z3 f3 z4 f4 ⊢
  obtain ⟨g, o, cap, rfl, hg, y0, y1, y2, y3, y4⟩ := liesT5 HL
  clear HL
  have HI : Hid _ := rdW_if hr
  clear hr hs
  have ia : (a.size : Int) = 1 := by omega
  have ea := sb_at a (i := 0) (by omega)
  have la := sb_lt a 0
  have wa : IntKind.i64.wrap (sb a 0 : Int) = (sb a 0 : Int) := by rw [IntKind.wrap_i64]; omega
  have ib : (b.size : Int) = 1 := by omega
  have eb := sb_at b (i := 0) (by omega)
  have lb := sb_lt b 0
  have wb : IntKind.i64.wrap (sb b 0 : Int) = (sb b 0 : Int) := by rw [IntKind.wrap_i64]; omega
  have ic : (c.size : Int) = 1 := by omega
  have ec := sb_at c (i := 0) (by omega)
  have lc := sb_lt c 0
  have wc : IntKind.i64.wrap (sb c 0 : Int) = (sb c 0 : Int) := by rw [IntKind.wrap_i64]; omega
  have id : (d.size : Int) = 1 := by omega
  have ed := sb_at d (i := 0) (by omega)
  have ld := sb_lt d 0
  have wd : IntKind.i64.wrap (sb d 0 : Int) = (sb d 0 : Int) := by rw [IntKind.wrap_i64]; omega
  have HCk : Hid (∀ W, Calls Try.prog 39 #[.agg #[.int .i64 (sb a 0), .int .i64 (sb b 0), .int .i64 (sb c 0), .int .i64 ((sb d 0 : Int) - 1), .string x]] W fun ex w' => ex = .returned (.int .i64 (if wrdOk (sb a 0) (sb b 0) (sb c 0) ((sb d 0 : Int) - 1) x then 0 else 1)) ∧ Ext W w') := fun W => rchkW_any _ _ _ _ _ W
  have hd1 : IntKind.i64.wrap ((sb d 0 : Int) - 1) = (sb d 0 : Int) - 1 := by rw [IntKind.wrap_i64]; omega
  generalize sb a 0 = na at *
  generalize sb b 0 = nb at *
  generalize sb c 0 = nc at *
  generalize sb d 0 = nd at *
  go_wp2_with fail
  have hS0 : LS5 g o a b c d x w1.drew := ⟨y0, y1, y2, y3, y4⟩
  refine wp_region_noPanic ?_
  refine wp_region_until (X := 26) (S := LS5 g o a b c d x) (by kernel_rfl) ?_
  refine until_take (i := 0) (v := ?vu0) rfl (by kernel_rfl) (by kernel_rfl) (by kernel_rfl) (by kernel_rfl) (by kernel_rfl) (fun _ _ _ h => h) rfl ?hyu0 hS0 ?restu0
  case hyu0 => (intro w hSw; obtain ⟨y0, y1, y2, y3, y4⟩ := hSw; go_simp; try with_reducible rfl)
  try simp only [Act.put, List.setIfInBounds_toArray, List.set_cons_zero, List.set_cons_succ]
  refine until_take (i := 1) (v := ?vu1) rfl (by kernel_rfl) (by kernel_rfl) (by kernel_rfl) (by kernel_rfl) (by kernel_rfl) (fun _ _ _ h => h) rfl ?hyu1 hS0 ?restu1
  case hyu1 => (intro w hSw; obtain ⟨y0, y1, y2, y3, y4⟩ := hSw; go_simp; try with_reducible rfl)
  try simp only [Act.put, List.setIfInBounds_toArray, List.set_cons_zero, List.set_cons_succ]
  refine until_take (i := 2) (v := ?vu2) rfl (by kernel_rfl) (by kernel_rfl) (by kernel_rfl) (by kernel_rfl) (by kernel_rfl) (fun _ _ _ h => h) rfl ?hyu2 hS0 ?restu2
  case hyu2 => (intro w hSw; obtain ⟨y0, y1, y2, y3, y4⟩ := hSw; go_simp; try with_reducible rfl)
  try simp only [Act.put, List.setIfInBounds_toArray, List.set_cons_zero, List.set_cons_succ]
  refine until_take (i := 3) (v := ?vu3) rfl (by kernel_rfl) (by kernel_rfl) (by kernel_rfl) (by kernel_rfl) (by kernel_rfl) (fun _ _ _ h => h) rfl ?hyu3 hS0 ?restu3
  case hyu3 => (intro w hSw; obtain ⟨y0, y1, y2, y3, y4⟩ := hSw; go_simp; try with_reducible rfl)
  try simp only [Act.put, List.setIfInBounds_toArray, List.set_cons_zero, List.set_cons_succ]
  refine until_take (i := 4) (v := ?vu4) rfl (by kernel_rfl) (by kernel_rfl) (by kernel_rfl) (by kernel_rfl) (by kernel_rfl) (fun _ _ _ h => h) rfl ?hyu4 hS0 ?restu4
  case hyu4 => (intro w hSw; obtain ⟨y0, y1, y2, y3, y4⟩ := hSw; go_simp; try with_reducible rfl)
  try simp only [Act.put, List.setIfInBounds_toArray, List.set_cons_zero, List.set_cons_succ]
  refine until_take (i := 5) (v := ?vu5) rfl (by kernel_rfl) (by kernel_rfl) (by kernel_rfl) (by kernel_rfl) (by kernel_rfl) (fun _ _ _ h => h) rfl ?hyu5 hS0 ?restu5
  case hyu5 => (intro w hSw; obtain ⟨y0, y1, y2, y3, y4⟩ := hSw; go_simp; try with_reducible rfl)
  try simp only [Act.put, List.setIfInBounds_toArray, List.set_cons_zero, List.set_cons_succ]
  refine until_take (i := 6) (v := ?vu6) rfl (by kernel_rfl) (by kernel_rfl) (by kernel_rfl) (by kernel_rfl) (by kernel_rfl) (fun _ _ _ h => h) rfl ?hyu6 hS0 ?restu6
  case hyu6 => (intro w hSw; obtain ⟨y0, y1, y2, y3, y4⟩ := hSw; go_simp; try with_reducible rfl)
  try simp only [Act.put, List.setIfInBounds_toArray, List.set_cons_zero, List.set_cons_succ]
  refine until_take (i := 7) (v := ?vu7) rfl (by kernel_rfl) (by kernel_rfl) (by kernel_rfl) (by kernel_rfl) (by kernel_rfl) (fun _ _ _ h => h) rfl ?hyu7 hS0 ?restu7
  case hyu7 => (intro w hSw; obtain ⟨y0, y1, y2, y3, y4⟩ := hSw; go_simp; try with_reducible rfl)
  try simp only [Act.put, List.setIfInBounds_toArray, List.set_cons_zero, List.set_cons_succ]
  refine until_take (i := 8) (v := ?vu8) rfl (by kernel_rfl) (by kernel_rfl) (by kernel_rfl) (by kernel_rfl) (by kernel_rfl) (fun _ _ _ h => h) rfl ?hyu8 hS0 ?restu8
  case hyu8 => (intro w hSw; obtain ⟨y0, y1, y2, y3, y4⟩ := hSw; go_simp; try with_reducible rfl)
  try simp only [Act.put, List.setIfInBounds_toArray, List.set_cons_zero, List.set_cons_succ]
  refine until_take (i := 9) (v := ?vu9) rfl (by kernel_rfl) (by kernel_rfl) (by kernel_rfl) (by kernel_rfl) (by kernel_rfl) (fun _ _ _ h => h) rfl ?hyu9 hS0 ?restu9
  case hyu9 => (intro w hSw; obtain ⟨y0, y1, y2, y3, y4⟩ := hSw; go_simp; try with_reducible rfl)
  try simp only [Act.put, List.setIfInBounds_toArray, List.set_cons_zero, List.set_cons_succ]
  refine until_take (i := 10) (v := ?vu10) rfl (by kernel_rfl) (by kernel_rfl) (by kernel_rfl) (by kernel_rfl) (by kernel_rfl) (fun _ _ _ h => h) rfl ?hyu10 hS0 ?restu10
  case hyu10 => (intro w hSw; obtain ⟨y0, y1, y2, y3, y4⟩ := hSw; go_simp; try with_reducible rfl)
  try simp only [Act.put, List.setIfInBounds_toArray, List.set_cons_zero, List.set_cons_succ]
  refine until_take (i := 11) (v := ?vu11) rfl (by kernel_rfl) (by kernel_rfl) (by kernel_rfl) (by kernel_rfl) (by kernel_rfl) (fun _ _ _ h => h) rfl ?hyu11 hS0 ?restu11
  case hyu11 => (intro w hSw; obtain ⟨y0, y1, y2, y3, y4⟩ := hSw; go_simp; try with_reducible rfl)
  try simp only [Act.put, List.setIfInBounds_toArray, List.set_cons_zero, List.set_cons_succ]
  refine until_take (i := 12) (v := ?vu12) rfl (by kernel_rfl) (by kernel_rfl) (by kernel_rfl) (by kernel_rfl) (by kernel_rfl) (fun _ _ _ h => h) rfl ?hyu12 hS0 ?restu12
  case hyu12 => (intro w hSw; obtain ⟨y0, y1, y2, y3, y4⟩ := hSw; go_simp; try with_reducible rfl)
  try simp only [Act.put, List.setIfInBounds_toArray, List.set_cons_zero, List.set_cons_succ]
  refine until_take (i := 13) (v := ?vu13) rfl (by kernel_rfl) (by kernel_rfl) (by kernel_rfl) (by kernel_rfl) (by kernel_rfl) (fun _ _ _ h => h) rfl ?hyu13 hS0 ?restu13
  case hyu13 => (intro w hSw; obtain ⟨y0, y1, y2, y3, y4⟩ := hSw; go_simp; try with_reducible rfl)
  try simp only [Act.put, List.setIfInBounds_toArray, List.set_cons_zero, List.set_cons_succ]
  refine until_take (i := 14) (v := ?vu14) rfl (by kernel_rfl) (by kernel_rfl) (by kernel_rfl) (by kernel_rfl) (by kernel_rfl) (fun _ _ _ h => h) rfl ?hyu14 hS0 ?restu14
  case hyu14 => (intro w hSw; obtain ⟨y0, y1, y2, y3, y4⟩ := hSw; go_simp; try with_reducible rfl)
  try simp only [Act.put, List.setIfInBounds_toArray, List.set_cons_zero, List.set_cons_succ]
  refine until_take (i := 15) (v := ?vu15) rfl (by kernel_rfl) (by kernel_rfl) (by kernel_rfl) (by kernel_rfl) (by kernel_rfl) (fun _ _ _ h => h) rfl ?hyu15 hS0 ?restu15
  case hyu15 => (intro w hSw; obtain ⟨y0, y1, y2, y3, y4⟩ := hSw; go_simp; try with_reducible rfl)
  try simp only [Act.put, List.setIfInBounds_toArray, List.set_cons_zero, List.set_cons_succ]
  refine until_take (i := 16) (v := ?vu16) rfl (by kernel_rfl) (by kernel_rfl) (by kernel_rfl) (by kernel_rfl) (by kernel_rfl) (fun _ _ _ h => h) rfl ?hyu16 hS0 ?restu16
  case hyu16 => (intro w hSw; obtain ⟨y0, y1, y2, y3, y4⟩ := hSw; go_simp; try with_reducible rfl)
  try simp only [Act.put, List.setIfInBounds_toArray, List.set_cons_zero, List.set_cons_succ]
  refine until_take (i := 17) (v := ?vu17) rfl (by kernel_rfl) (by kernel_rfl) (by kernel_rfl) (by kernel_rfl) (by kernel_rfl) (fun _ _ _ h => h) rfl ?hyu17 hS0 ?restu17
  case hyu17 => (intro w hSw; obtain ⟨y0, y1, y2, y3, y4⟩ := hSw; go_simp; try with_reducible rfl)
  try simp only [Act.put, List.setIfInBounds_toArray, List.set_cons_zero, List.set_cons_succ]
  refine until_take (i := 18) (v := ?vu18) rfl (by kernel_rfl) (by kernel_rfl) (by kernel_rfl) (by kernel_rfl) (by kernel_rfl) (fun _ _ _ h => h) rfl ?hyu18 hS0 ?restu18
  case hyu18 => (intro w hSw; obtain ⟨y0, y1, y2, y3, y4⟩ := hSw; go_simp; try with_reducible rfl)
  try simp only [Act.put, List.setIfInBounds_toArray, List.set_cons_zero, List.set_cons_succ]
  refine until_take (i := 19) (v := ?vu19) rfl (by kernel_rfl) (by kernel_rfl) (by kernel_rfl) (by kernel_rfl) (by kernel_rfl) (fun _ _ _ h => h) rfl ?hyu19 hS0 ?restu19
  case hyu19 => (intro w hSw; obtain ⟨y0, y1, y2, y3, y4⟩ := hSw; go_simp; try with_reducible rfl)
  try simp only [Act.put, List.setIfInBounds_toArray, List.set_cons_zero, List.set_cons_succ]
  refine until_take (i := 20) (v := ?vu20) rfl (by kernel_rfl) (by kernel_rfl) (by kernel_rfl) (by kernel_rfl) (by kernel_rfl) (fun _ _ _ h => h) rfl ?hyu20 hS0 ?restu20
  case hyu20 => (intro w hSw; obtain ⟨y0, y1, y2, y3, y4⟩ := hSw; go_simp; try with_reducible rfl)
  try simp only [Act.put, List.setIfInBounds_toArray, List.set_cons_zero, List.set_cons_succ]
  refine until_take (i := 21) (v := ?vu21) rfl (by kernel_rfl) (by kernel_rfl) (by kernel_rfl) (by kernel_rfl) (by kernel_rfl) (fun _ _ _ h => h) rfl ?hyu21 hS0 ?restu21
  case hyu21 => (intro w hSw; obtain ⟨y0, y1, y2, y3, y4⟩ := hSw; go_simp; try with_reducible rfl)
  try simp only [Act.put, List.setIfInBounds_toArray, List.set_cons_zero, List.set_cons_succ]
  refine until_take (i := 22) (v := ?vu22) rfl (by kernel_rfl) (by kernel_rfl) (by kernel_rfl) (by kernel_rfl) (by kernel_rfl) (fun _ _ _ h => h) rfl ?hyu22 hS0 ?restu22
  case hyu22 => (intro w hSw; obtain ⟨y0, y1, y2, y3, y4⟩ := hSw; go_simp; try with_reducible rfl)
  try simp only [Act.put, List.setIfInBounds_toArray, List.set_cons_zero, List.set_cons_succ]
  refine until_take (i := 23) (v := ?vu23) rfl (by kernel_rfl) (by kernel_rfl) (by kernel_rfl) (by kernel_rfl) (by kernel_rfl) (fun _ _ _ h => h) rfl ?hyu23 hS0 ?restu23
  case hyu23 => (intro w hSw; obtain ⟨y0, y1, y2, y3, y4⟩ := hSw; go_simp; try with_reducible rfl)
  try simp only [Act.put, List.setIfInBounds_toArray, List.set_cons_zero, List.set_cons_succ]
  refine until_take (i := 24) (v := ?vu24) rfl (by kernel_rfl) (by kernel_rfl) (by kernel_rfl) (by kernel_rfl) (by kernel_rfl) (fun _ _ _ h => h) rfl ?hyu24 hS0 ?restu24
  case hyu24 => (intro w hSw; obtain ⟨y0, y1, y2, y3, y4⟩ := hSw; go_simp; try with_reducible rfl)
  try simp only [Act.put, List.setIfInBounds_toArray, List.set_cons_zero, List.set_cons_succ]
  refine until_one (i := 25) (by kernel_rfl) (by kernel_rfl) rfl rfl (fun K hK => ?_)
  go_simp
  have hS1 := hS0.alloc (.cells #[.int .i64 0, .int .i64 0, .int .i64 0, .int .i64 0, .string ⟨#[]⟩] 47)
  refine hK.out _ _ hS1 ?_
  clear hK K
  try simp only [Act.put, List.setIfInBounds_toArray, List.set_cons_zero, List.set_cons_succ]
  refine until_last (by kernel_rfl) (by kernel_rfl) rfl rfl (fun K hK => ?_)
  go_simp
  refine hK.out _ _ (NoPanic.normal ?_)
  clear hK K
  try simp only [Act.put, List.setIfInBounds_toArray, List.set_cons_zero, List.set_cons_succ]
  try simp only [wa, wb, wc, wd, hd1]
  clear hS0 hS1
  go_wp2_with fail
  refine (HCk.out _).mono ?_
  rintro ex w2 ⟨rfl, HX2⟩
  have HX3 : Ext w1 w2 := (((Ext.refl w1).alloc _).drew).trans HX2
  obtain ⟨B, HBs⟩ : ∃ B, Hid (w1.heap.size = B) := ⟨_, rfl⟩
  have HE2 : Hid (Ext w w2) := HE1.out.trans HX3
  have hb2 : bk < w2.heap.size := Nat.lt_of_lt_of_le hb1 HX3.size
  have hbB : bk < B := by rw [← HBs.out]; exact hb1
  have hB2 : B < w2.heap.size := by rw [← HBs.out]; exact Nat.lt_of_lt_of_le (by simp) HX2.size
  have z02 := later HX3 z0
  have f02 := (HX3.cells.2 bk 0 hb1).trans f0
  have z12 := later HX3 z1
  have f12 := (HX3.cells.2 bk 1 hb1).trans f1
  have z22 := later HX3 z2
  have f22 := (HX3.cells.2 bk 2 hb1).trans f2
  have z32 := later HX3 z3
  have f32 := (HX3.cells.2 bk 3 hb1).trans f3
  have z42 := later HX3 z4
  have f42 := (HX3.cells.2 bk 4 hb1).trans f4
  have x0 : w2.cell? ⟨B, 0, none⟩ = some (.int .i64 na) := later HX2 (by rw [World.cell?_drew, World.cell?_alloc_at _ _ _ _ HBs.out.symm]; rfl)
  have x1 : w2.cell? ⟨B, 1, none⟩ = some (.int .i64 nb) := later HX2 (by rw [World.cell?_drew, World.cell?_alloc_at _ _ _ _ HBs.out.symm]; rfl)
  have x2 : w2.cell? ⟨B, 2, none⟩ = some (.int .i64 nc) := later HX2 (by rw [World.cell?_drew, World.cell?_alloc_at _ _ _ _ HBs.out.symm]; rfl)
  have x3 : w2.cell? ⟨B, 3, none⟩ = some (.int .i64 ((nd : Int) - 1)) := later HX2 (by rw [World.cell?_drew, World.cell?_alloc_at _ _ _ _ HBs.out.symm]; rfl)
  have x4 : w2.cell? ⟨B, 4, none⟩ = some (.string x) := later HX2 (by rw [World.cell?_drew, World.cell?_alloc_at _ _ _ _ HBs.out.symm]; rfl)
  rw [HBs.out]
  clear HX2 HX3 HCk HBs z0 f0 y0 z1 f1 y1 z2 f2 y2 z3 f3 y3 z4 f4 y4
  cases hok : wrdOk na nb nc ((nd : Int) - 1) x with
  | true =>
    have HRes : Hid (rrdWV s = .tuple #[.agg #[.int .i64 na, .int .i64 nb, .int .i64 nc, .int .i64 ((nd : Int) - 1), .string x], .int .i64 0]) := by
      show _ = _
      unfold rrdWV
      rw [HI.out, if_pos ⟨ca, cb, cc, cd, hok⟩]
    go_wp2
    refine bodyPost_ret (v := .tuple #[.agg #[.int .i64 na, .int .i64 nb, .int .i64 nc, .int .i64 ((nd : Int) - 1), .string x], .int .i64 0]) (by simp [results, Try.results25, go_sem, z02, z12, z22, z32, z42]) rfl ⟨by rw [HRes.out], Ext.st HB.out (Ext.st HB.out (Ext.st HB.out (Ext.st HB.out (Ext.st HB.out (HE2.out)))))⟩
  | false =>
    have HRes : Hid (rrdWV s = .tuple #[.agg #[.int .i64 0, .int .i64 0, .int .i64 0, .int .i64 0, .string ⟨#[]⟩], .int .i64 3]) := by
      show _ = _
      unfold rrdWV
      rw [HI.out, if_neg (fun q => by simp [hok] at q)]
    go_wp2
    refine bodyPost_ret (v := .tuple #[.agg #[.int .i64 0, .int .i64 0, .int .i64 0, .int .i64 0, .string ⟨#[]⟩], .int .i64 3]) (by simp [results, Try.results25, go_sem, z02, z12, z22, z32, z42]) rfl ⟨by rw [HRes.out], Ext.st HB.out (Ext.st HB.out (Ext.st HB.out (Ext.st HB.out (Ext.st HB.out (HE2.out)))))⟩
theorem rrdW_any (s : ByteArray) (hs : s.size ≤ 100000) (w : World) :
    Calls Try.prog 25 #[.string s] w fun e w' => e = .returned (rrdWV s) ∧ Ext w w' := by
  cases hr : rd s 0 with
  | none => exact rrdW_none s hs hr w
  | some l =>
    by_cases hlen : l.length = 5
    · obtain ⟨a, b, c, d, x, rfl⟩ := list5 hlen
      by_cases ca : a.size = 1
      · skip
        by_cases cb : b.size = 1
        · skip
          by_cases cc : c.size = 1
          · skip
            by_cases cd : d.size = 1
            · skip
              exact rrdW_all s hs a b c d x hr ca cb cc cd w
            · exact rrdW_d s hs a b c d x hr ca cb cc cd w
          · exact rrdW_c s hs a b c d x hr ca cb cc w
        · exact rrdW_b s hs a b c d x hr ca cb w
      · exact rrdW_a s hs a b c d x hr ca w
    · exact rrdW_len s hs l hr hlen w
end Go.Proofs.Ythdmecoeghnifaa
