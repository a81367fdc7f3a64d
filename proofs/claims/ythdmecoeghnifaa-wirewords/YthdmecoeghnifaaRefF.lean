/-
  What the texts of bytes are read as; sandglassref16.ReadCommand, called; nothing old is turned.
-/
import Derived.Test.YthdmecoeghnifaaRefE
import Derived.Test.YthdmecoeghnifaaUntil
namespace Go.Proofs.Ythdmecoeghnifaa
open Go.RowKit
theorem liesT_len {w : World} {u : Value} {n : Nat} {L : Nat → ByteArray} (h : LiesT w u n L) : ∃ a c, u = .slice a n c := by
  obtain ⟨a, cap, hv, _⟩ := h
  exact ⟨a, cap, hv⟩
theorem list4 {α : Type} {l : List α} (h : l.length = 4) : ∃ a b c d, l = [a, b, c, d] := by
  match l, h with
  | [a, b, c, d], _ => exact ⟨a, b, c, d, rfl⟩
theorem list5 {α : Type} {l : List α} (h : l.length = 5) : ∃ a b c d e, l = [a, b, c, d, e] := by
  match l, h with
  | [a, b, c, d, e], _ => exact ⟨a, b, c, d, e, rfl⟩
theorem liesT4 {w : World} {u : Value} {a b c d : ByteArray} (h : LiesT w u [a, b, c, d].length (fun k => [a, b, c, d].getD k ⟨#[]⟩)) : ∃ g o cap, u = .slice (some ⟨g, o, none⟩) 4 cap ∧ g < w.heap.size ∧ w.cell? ⟨g, o, none⟩ = some (.string a) ∧ w.cell? ⟨g, o + 1, none⟩ = some (.string b) ∧ w.cell? ⟨g, o + 2, none⟩ = some (.string c) ∧ w.cell? ⟨g, o + 3, none⟩ = some (.string d) := by
  obtain ⟨a', cap, hv, hc⟩ := h
  obtain ⟨g, o, rfl, hb, hk⟩ := hc (by simp)
  exact ⟨g, o, cap, hv, hb, hk 0 (by simp), hk 1 (by simp), hk 2 (by simp), hk 3 (by simp)⟩
theorem liesT5 {w : World} {u : Value} {a b c d x : ByteArray} (h : LiesT w u [a, b, c, d, x].length (fun k => [a, b, c, d, x].getD k ⟨#[]⟩)) : ∃ g o cap, u = .slice (some ⟨g, o, none⟩) 5 cap ∧ g < w.heap.size ∧ w.cell? ⟨g, o, none⟩ = some (.string a) ∧ w.cell? ⟨g, o + 1, none⟩ = some (.string b) ∧ w.cell? ⟨g, o + 2, none⟩ = some (.string c) ∧ w.cell? ⟨g, o + 3, none⟩ = some (.string d) ∧ w.cell? ⟨g, o + 4, none⟩ = some (.string x) := by
  obtain ⟨a', cap, hv, hc⟩ := h
  obtain ⟨g, o, rfl, hb, hk⟩ := hc (by simp)
  exact ⟨g, o, cap, hv, hb, hk 0 (by simp), hk 1 (by simp), hk 2 (by simp), hk 3 (by simp), hk 4 (by simp)⟩
/-- Four, five texts lie side by side. -/
def LS4 (g o : Nat) (a b c d : ByteArray) (w : World) : Prop := w.cell? ⟨g, o, none⟩ = some (.string a) ∧ w.cell? ⟨g, o + 1, none⟩ = some (.string b) ∧ w.cell? ⟨g, o + 2, none⟩ = some (.string c) ∧ w.cell? ⟨g, o + 3, none⟩ = some (.string d)
def LS5 (g o : Nat) (a b c d x : ByteArray) (w : World) : Prop := w.cell? ⟨g, o, none⟩ = some (.string a) ∧ w.cell? ⟨g, o + 1, none⟩ = some (.string b) ∧ w.cell? ⟨g, o + 2, none⟩ = some (.string c) ∧ w.cell? ⟨g, o + 3, none⟩ = some (.string d) ∧ w.cell? ⟨g, o + 4, none⟩ = some (.string x)
theorem LS4.alloc {g o : Nat} {a b c d : ByteArray} {w : World} (h : LS4 g o a b c d w) (ob : Obj) : LS4 g o a b c d (w.alloc ob) := by
  have hx := (Ext.refl w).alloc ob
  exact ⟨later hx h.1, later hx h.2.1, later hx h.2.2.1, later hx h.2.2.2⟩
theorem LS5.alloc {g o : Nat} {a b c d x : ByteArray} {w : World} (h : LS5 g o a b c d x w) (ob : Obj) : LS5 g o a b c d x (w.alloc ob) := by
  have hx := (Ext.refl w).alloc ob
  exact ⟨later hx h.1, later hx h.2.1, later hx h.2.2.1, later hx h.2.2.2.1, later hx h.2.2.2.2⟩
theorem rread_some {s : ByteArray} {l : List ByteArray} (hs : s.size ≤ 100000) (hr : rd s 0 = some l) (w : World) :
    Calls Try.prog 16 #[.string s] w fun e w' => ∃ u, e = .returned (.tuple #[u, .int .i64 0]) ∧ LiesT w' u l.length (fun k => l.getD k ⟨#[]⟩) ∧ Ext w w' := by
  refine (rread_any s hs w).mono ?_
  rintro e w' ⟨u, m, rfl, ⟨l', h, rfl, _, HL⟩ | ⟨h, _⟩, HX⟩
  · rw [hr] at h
    cases h
    exact ⟨u, rfl, HL, HX⟩
  · rw [hr] at h; cases h
theorem rread_none {s : ByteArray} (hs : s.size ≤ 100000) (hr : rd s 0 = none) (w : World) :
    Calls Try.prog 16 #[.string s] w fun e w' => ∃ u, e = .returned (.tuple #[u, .int .i64 3]) ∧ LiesT w' u 0 (fun _ => ⟨#[]⟩) ∧ Ext w w' := by
  refine (rread_any s hs w).mono ?_
  rintro e w' ⟨u, m, rfl, ⟨l', h, _⟩ | ⟨h, rfl, HL⟩, HX⟩
  · rw [hr] at h; cases h
  · exact ⟨u, rfl, HL, HX⟩
theorem rdC_len {s : ByteArray} {l : List ByteArray} (h : rd s 0 = some l) (hl : l.length ≠ 4) : rdC s = none := by
  unfold rdC
  rw [h]
  split
  · rename_i q
    cases q
    exact absurd rfl hl
  · rfl
theorem rdC_none {s : ByteArray} (h : rd s 0 = none) : rdC s = none := by unfold rdC; rw [h]
theorem rdC_if {s a b c d : ByteArray} (h : rd s 0 = some [a, b, c, d]) : rdC s = if a.size = 1 ∧ b.size = 1 ∧ cmdOk (sb a 0) (sb b 0) c d = true then some ((sb a 0 : Int), (sb b 0 : Int), c, d) else none := by
  unfold rdC; rw [h]
theorem rdW_len {s : ByteArray} {l : List ByteArray} (h : rd s 0 = some l) (hl : l.length ≠ 5) : rdW s = none := by
  unfold rdW
  rw [h]
  split
  · rename_i q
    cases q
    exact absurd rfl hl
  · rfl
theorem rdW_none {s : ByteArray} (h : rd s 0 = none) : rdW s = none := by unfold rdW; rw [h]
theorem rdW_if {s a b c d x : ByteArray} (h : rd s 0 = some [a, b, c, d, x]) : rdW s = if a.size = 1 ∧ b.size = 1 ∧ c.size = 1 ∧ d.size = 1 ∧ wrdOk (sb a 0) (sb b 0) (sb c 0) ((sb d 0 : Int) - 1) x = true then some ((sb a 0 : Int), (sb b 0 : Int), (sb c 0 : Int), (sb d 0 : Int) - 1, x) else none := by
  unfold rdW; rw [h]
/-- What rrdC hands out. -/
def rrdCV (s : ByteArray) : Value :=
  match rdC s with
  | some (k, e, nm, bd) => .tuple #[.agg #[.int .i64 k, .int .i64 e, .string nm, .string bd], .int .i64 0]
  | none => .tuple #[.agg #[.int .i64 0, .int .i64 0, .string ⟨#[]⟩, .string ⟨#[]⟩], .int .i64 3]
set_option maxHeartbeats 4000000 in
theorem rrdC_none (s : ByteArray) (hs : s.size ≤ 100000) (hr : rd s 0 = none) (w : World) :
    Calls Try.prog 21 #[.string s] w fun e w' => e = .returned (rrdCV s) ∧ Ext w w' := by
  have HC : Hid (∀ W, Calls Try.prog 16 #[.string s] W _) := fun W => rread_none hs hr W
  have HR0 : Hid (T4 (w.alloc (.cells #[.int .i64 0, .int .i64 0, .string ⟨#[]⟩, .string ⟨#[]⟩] 36)) w.heap.size (.int .i64 0) (.int .i64 0) (.string ⟨#[]⟩) (.string ⟨#[]⟩)) := ⟨by rw [World.cell?_alloc_at _ _ _ _ rfl]; rfl, by rw [World.cell?_alloc_at _ _ _ _ rfl]; rfl, by rw [World.cell?_alloc_at _ _ _ _ rfl]; rfl, by rw [World.cell?_alloc_at _ _ _ _ rfl]; rfl⟩
  go_enter Try.func21, Try.ntmps21
  go_wp2_with fail
  refine (HC.out _).mono ?_
  rintro e w1 ⟨u, rfl, HL, HX⟩
  have HE1 : Hid (Ext w w1) := ((Ext.refl w).alloc _).trans HX
  obtain ⟨z0, z1, z2, z3⟩ := (keepT4 HX HR0.out).2
  have hf : ∀ i, w1.frozen? ⟨w.heap.size, i, none⟩ = false := fun i => (HX.cells.2 _ i (by simp)).trans (World.frozen?_alloc_at _ _ _ _ rfl)
  have f0 := hf 0
  have f1 := hf 1
  have f2 := hf 2
  have f3 := hf 3
  clear hf
  have hb1 : w.heap.size < w1.heap.size := Nat.lt_of_lt_of_le (by simp) HX.size
  clear HX HR0 HC
  obtain ⟨bk, Hb⟩ : ∃ bk, Hid (w.heap.size = bk) := ⟨_, rfl⟩
  have HB : Hid (w.heap.size ≤ bk) := by rw [Hb.out]; exact Nat.le_refl bk
  rw [Hb.out] at hb1 z0 f0 z1 f1 z2 f2 z3 f3 ⊢
  obtain ⟨a0, c0, rfl⟩ := liesT_len HL
  clear HL
  have HRes : Hid (rrdCV s = .tuple #[.agg #[.int .i64 0, .int .i64 0, .string ⟨#[]⟩, .string ⟨#[]⟩], .int .i64 3]) := by
    show _ = _
    unfold rrdCV
    rw [rdC_none hr]
  clear hr hs
  go_wp2
  refine bodyPost_ret (v := .tuple #[.agg #[.int .i64 0, .int .i64 0, .string ⟨#[]⟩, .string ⟨#[]⟩], .int .i64 3]) (by simp [results, Try.results21, go_sem, z0, z1, z2, z3]) rfl ⟨by rw [HRes.out], Ext.st HB.out (Ext.st HB.out (Ext.st HB.out (Ext.st HB.out (HE1.out))))⟩
set_option maxHeartbeats 4000000 in
theorem rrdC_len (s : ByteArray) (hs : s.size ≤ 100000) (l : List ByteArray) (hr : rd s 0 = some l) (hlen : l.length ≠ 4) (w : World) :
    Calls Try.prog 21 #[.string s] w fun e w' => e = .returned (rrdCV s) ∧ Ext w w' := by
  have HC : Hid (∀ W, Calls Try.prog 16 #[.string s] W _) := fun W => rread_some hs hr W
  have HR0 : Hid (T4 (w.alloc (.cells #[.int .i64 0, .int .i64 0, .string ⟨#[]⟩, .string ⟨#[]⟩] 36)) w.heap.size (.int .i64 0) (.int .i64 0) (.string ⟨#[]⟩) (.string ⟨#[]⟩)) := ⟨by rw [World.cell?_alloc_at _ _ _ _ rfl]; rfl, by rw [World.cell?_alloc_at _ _ _ _ rfl]; rfl, by rw [World.cell?_alloc_at _ _ _ _ rfl]; rfl, by rw [World.cell?_alloc_at _ _ _ _ rfl]; rfl⟩
  go_enter Try.func21, Try.ntmps21
  go_wp2_with fail
  refine (HC.out _).mono ?_
  rintro e w1 ⟨u, rfl, HL, HX⟩
  have HE1 : Hid (Ext w w1) := ((Ext.refl w).alloc _).trans HX
  obtain ⟨z0, z1, z2, z3⟩ := (keepT4 HX HR0.out).2
  have hf : ∀ i, w1.frozen? ⟨w.heap.size, i, none⟩ = false := fun i => (HX.cells.2 _ i (by simp)).trans (World.frozen?_alloc_at _ _ _ _ rfl)
  have f0 := hf 0
  have f1 := hf 1
  have f2 := hf 2
  have f3 := hf 3
  clear hf
  have hb1 : w.heap.size < w1.heap.size := Nat.lt_of_lt_of_le (by simp) HX.size
  clear HX HR0 HC
  obtain ⟨bk, Hb⟩ : ∃ bk, Hid (w.heap.size = bk) := ⟨_, rfl⟩
  have HB : Hid (w.heap.size ≤ bk) := by rw [Hb.out]; exact Nat.le_refl bk
  rw [Hb.out] at hb1 z0 f0 z1 f1 z2 f2 z3 f3 ⊢
  obtain ⟨a0, c0, rfl⟩ := liesT_len HL
  clear HL
  have hln : ¬ (l.length : Int) = 4 := by omega
  have HRes : Hid (rrdCV s = .tuple #[.agg #[.int .i64 0, .int .i64 0, .string ⟨#[]⟩, .string ⟨#[]⟩], .int .i64 3]) := by
    show _ = _
    unfold rrdCV
    rw [rdC_len hr hlen]
  clear hr hs hlen
  go_wp2
  refine bodyPost_ret (v := .tuple #[.agg #[.int .i64 0, .int .i64 0, .string ⟨#[]⟩, .string ⟨#[]⟩], .int .i64 3]) (by simp [results, Try.results21, go_sem, z0, z1, z2, z3]) rfl ⟨by rw [HRes.out], Ext.st HB.out (Ext.st HB.out (Ext.st HB.out (Ext.st HB.out (HE1.out))))⟩
set_option maxHeartbeats 4000000 in
theorem rrdC_a (s : ByteArray) (hs : s.size ≤ 100000) (a b c d : ByteArray) (hr : rd s 0 = some [a, b, c, d])  (ca : ¬ a.size = 1) (w : World) :
    Calls Try.prog 21 #[.string s] w fun e w' => e = .returned (rrdCV s) ∧ Ext w w' := by
  have HC : Hid (∀ W, Calls Try.prog 16 #[.string s] W _) := fun W => rread_some hs hr W
  have HR0 : Hid (T4 (w.alloc (.cells #[.int .i64 0, .int .i64 0, .string ⟨#[]⟩, .string ⟨#[]⟩] 36)) w.heap.size (.int .i64 0) (.int .i64 0) (.string ⟨#[]⟩) (.string ⟨#[]⟩)) := ⟨by rw [World.cell?_alloc_at _ _ _ _ rfl]; rfl, by rw [World.cell?_alloc_at _ _ _ _ rfl]; rfl, by rw [World.cell?_alloc_at _ _ _ _ rfl]; rfl, by rw [World.cell?_alloc_at _ _ _ _ rfl]; rfl⟩
  go_enter Try.func21, Try.ntmps21
  go_wp2_with fail
  refine (HC.out _).mono ?_
  rintro e w1 ⟨u, rfl, HL, HX⟩
  have HE1 : Hid (Ext w w1) := ((Ext.refl w).alloc _).trans HX
  obtain ⟨z0, z1, z2, z3⟩ := (keepT4 HX HR0.out).2
  have hf : ∀ i, w1.frozen? ⟨w.heap.size, i, none⟩ = false := fun i => (HX.cells.2 _ i (by simp)).trans (World.frozen?_alloc_at _ _ _ _ rfl)
  have f0 := hf 0
  have f1 := hf 1
  have f2 := hf 2
  have f3 := hf 3
  clear hf
  have hb1 : w.heap.size < w1.heap.size := Nat.lt_of_lt_of_le (by simp) HX.size
  clear HX HR0 HC
  obtain ⟨bk, Hb⟩ : ∃ bk, Hid (w.heap.size = bk) := ⟨_, rfl⟩
  have HB : Hid (w.heap.size ≤ bk) := by rw [Hb.out]; exact Nat.le_refl bk
  rw [Hb.out] at hb1 z0 f0 z1 f1 z2 f2 z3 f3 ⊢
  obtain ⟨g, o, cap, rfl, hg, y0, y1, y2, y3⟩ := liesT4 HL
  clear HL
  have ia : ¬ (a.size : Int) = 1 := by omega
  have HRes : Hid (rrdCV s = .tuple #[.agg #[.int .i64 0, .int .i64 0, .string ⟨#[]⟩, .string ⟨#[]⟩], .int .i64 3]) := by
    show _ = _
    unfold rrdCV
    rw [rdC_if hr, if_neg (fun q => ca (by simp only [q]))]
  clear hr hs
  go_wp2
  refine bodyPost_ret (v := .tuple #[.agg #[.int .i64 0, .int .i64 0, .string ⟨#[]⟩, .string ⟨#[]⟩], .int .i64 3]) (by simp [results, Try.results21, go_sem, z0, z1, z2, z3]) rfl ⟨by rw [HRes.out], Ext.st HB.out (Ext.st HB.out (Ext.st HB.out (Ext.st HB.out (HE1.out))))⟩
set_option maxHeartbeats 4000000 in
theorem rrdC_b (s : ByteArray) (hs : s.size ≤ 100000) (a b c d : ByteArray) (hr : rd s 0 = some [a, b, c, d]) (ca : a.size = 1) (cb : ¬ b.size = 1) (w : World) :
    Calls Try.prog 21 #[.string s] w fun e w' => e = .returned (rrdCV s) ∧ Ext w w' := by
  have HC : Hid (∀ W, Calls Try.prog 16 #[.string s] W _) := fun W => rread_some hs hr W
  have HR0 : Hid (T4 (w.alloc (.cells #[.int .i64 0, .int .i64 0, .string ⟨#[]⟩, .string ⟨#[]⟩] 36)) w.heap.size (.int .i64 0) (.int .i64 0) (.string ⟨#[]⟩) (.string ⟨#[]⟩)) := ⟨by rw [World.cell?_alloc_at _ _ _ _ rfl]; rfl, by rw [World.cell?_alloc_at _ _ _ _ rfl]; rfl, by rw [World.cell?_alloc_at _ _ _ _ rfl]; rfl, by rw [World.cell?_alloc_at _ _ _ _ rfl]; rfl⟩
  go_enter Try.func21, Try.ntmps21
  go_wp2_with fail
  refine (HC.out _).mono ?_
  rintro e w1 ⟨u, rfl, HL, HX⟩
  have HE1 : Hid (Ext w w1) := ((Ext.refl w).alloc _).trans HX
  obtain ⟨z0, z1, z2, z3⟩ := (keepT4 HX HR0.out).2
  have hf : ∀ i, w1.frozen? ⟨w.heap.size, i, none⟩ = false := fun i => (HX.cells.2 _ i (by simp)).trans (World.frozen?_alloc_at _ _ _ _ rfl)
  have f0 := hf 0
  have f1 := hf 1
  have f2 := hf 2
  have f3 := hf 3
  clear hf
  have hb1 : w.heap.size < w1.heap.size := Nat.lt_of_lt_of_le (by simp) HX.size
  clear HX HR0 HC
  obtain ⟨bk, Hb⟩ : ∃ bk, Hid (w.heap.size = bk) := ⟨_, rfl⟩
  have HB : Hid (w.heap.size ≤ bk) := by rw [Hb.out]; exact Nat.le_refl bk
  rw [Hb.out] at hb1 z0 f0 z1 f1 z2 f2 z3 f3 ⊢
  obtain ⟨g, o, cap, rfl, hg, y0, y1, y2, y3⟩ := liesT4 HL
  clear HL
  have ia : (a.size : Int) = 1 := by omega
  have ib : ¬ (b.size : Int) = 1 := by omega
  have HRes : Hid (rrdCV s = .tuple #[.agg #[.int .i64 0, .int .i64 0, .string ⟨#[]⟩, .string ⟨#[]⟩], .int .i64 3]) := by
    show _ = _
    unfold rrdCV
    rw [rdC_if hr, if_neg (fun q => cb (by simp only [q]))]
  clear hr hs
  go_wp2
  refine bodyPost_ret (v := .tuple #[.agg #[.int .i64 0, .int .i64 0, .string ⟨#[]⟩, .string ⟨#[]⟩], .int .i64 3]) (by simp [results, Try.results21, go_sem, z0, z1, z2, z3]) rfl ⟨by rw [HRes.out], Ext.st HB.out (Ext.st HB.out (Ext.st HB.out (Ext.st HB.out (HE1.out))))⟩
set_option maxHeartbeats 4000000 in
theorem rrdC_all (s : ByteArray) (hs : s.size ≤ 100000) (a b c d : ByteArray) (hr : rd s 0 = some [a, b, c, d]) (ca : a.size = 1) (cb : b.size = 1) (w : World) :
    Calls Try.prog 21 #[.string s] w fun e w' => e = .returned (rrdCV s) ∧ Ext w w' := by
  have HC : Hid (∀ W, Calls Try.prog 16 #[.string s] W _) := fun W => rread_some hs hr W
  have HR0 : Hid (T4 (w.alloc (.cells #[.int .i64 0, .int .i64 0, .string ⟨#[]⟩, .string ⟨#[]⟩] 36)) w.heap.size (.int .i64 0) (.int .i64 0) (.string ⟨#[]⟩) (.string ⟨#[]⟩)) := ⟨by rw [World.cell?_alloc_at _ _ _ _ rfl]; rfl, by rw [World.cell?_alloc_at _ _ _ _ rfl]; rfl, by rw [World.cell?_alloc_at _ _ _ _ rfl]; rfl, by rw [World.cell?_alloc_at _ _ _ _ rfl]; rfl⟩
  go_enter Try.func21, Try.ntmps21
  go_wp2_with fail
  refine (HC.out _).mono ?_
  rintro e w1 ⟨u, rfl, HL, HX⟩
  have HE1 : Hid (Ext w w1) := ((Ext.refl w).alloc _).trans HX
  obtain ⟨z0, z1, z2, z3⟩ := (keepT4 HX HR0.out).2
  have hf : ∀ i, w1.frozen? ⟨w.heap.size, i, none⟩ = false := fun i => (HX.cells.2 _ i (by simp)).trans (World.frozen?_alloc_at _ _ _ _ rfl)
  have f0 := hf 0
  have f1 := hf 1
  have f2 := hf 2
  have f3 := hf 3
  clear hf
  have hb1 : w.heap.size < w1.heap.size := Nat.lt_of_lt_of_le (by simp) HX.size
  clear HX HR0 HC
  obtain ⟨bk, Hb⟩ : ∃ bk, Hid (w.heap.size = bk) := ⟨_, rfl⟩
  have HB : Hid (w.heap.size ≤ bk) := by rw [Hb.out]; exact Nat.le_refl bk
  rw [Hb.out] at hb1 z0 f0 z1 f1 z2 f2 z3 f3 ⊢
  obtain ⟨g, o, cap, rfl, hg, y0, y1, y2, y3⟩ := liesT4 HL
  clear HL
  have HI : Hid _ := rdC_if hr
  clear hr hs
  have ia : (a.size : Int) = 1 := by omega
  have ea := sb_at a (i := 0) (by omega)
  have la := sb_lt a 0
  have wa : IntKind.i64.wrap (sb a 0 : Int) = (sb a 0 : Int) := by rw [IntKind.wrap_i64]; omega
  have ib : (b.size : Int) = 1 := by omega
  have eb := sb_at b (i := 0) (by omega)
  have lb := sb_lt b 0
  have wb : IntKind.i64.wrap (sb b 0 : Int) = (sb b 0 : Int) := by rw [IntKind.wrap_i64]; omega
  have HCk : Hid (∀ W, Calls Try.prog 34 #[.agg #[.int .i64 (sb a 0), .int .i64 (sb b 0), .string c, .string d]] W fun ex w' => ex = .returned (.int .i64 (if cmdOk (sb a 0) (sb b 0) c d then 0 else 1)) ∧ Ext W w') := fun W => rchkC_any _ _ _ _ W
  generalize sb a 0 = na at *
  generalize sb b 0 = nb at *
  go_wp2_with fail
  have hS0 : LS4 g o a b c d w1.drew := ⟨y0, y1, y2, y3⟩
  refine wp_region_noPanic ?_
  refine wp_region_until (X := 18) (S := LS4 g o a b c d) (by kernel_rfl) ?_
  refine until_take (i := 0) (v := ?vu0) rfl (by kernel_rfl) (by kernel_rfl) (by kernel_rfl) (by kernel_rfl) (by kernel_rfl) (fun _ _ _ h => h) rfl ?hyu0 hS0 ?restu0
  case hyu0 => (intro w hSw; obtain ⟨y0, y1, y2, y3⟩ := hSw; go_simp; try with_reducible rfl)
  try simp only [Act.put, List.setIfInBounds_toArray, List.set_cons_zero, List.set_cons_succ]
  refine until_take (i := 1) (v := ?vu1) rfl (by kernel_rfl) (by kernel_rfl) (by kernel_rfl) (by kernel_rfl) (by kernel_rfl) (fun _ _ _ h => h) rfl ?hyu1 hS0 ?restu1
  case hyu1 => (intro w hSw; obtain ⟨y0, y1, y2, y3⟩ := hSw; go_simp; try with_reducible rfl)
  try simp only [Act.put, List.setIfInBounds_toArray, List.set_cons_zero, List.set_cons_succ]
  refine until_take (i := 2) (v := ?vu2) rfl (by kernel_rfl) (by kernel_rfl) (by kernel_rfl) (by kernel_rfl) (by kernel_rfl) (fun _ _ _ h => h) rfl ?hyu2 hS0 ?restu2
  case hyu2 => (intro w hSw; obtain ⟨y0, y1, y2, y3⟩ := hSw; go_simp; try with_reducible rfl)
  try simp only [Act.put, List.setIfInBounds_toArray, List.set_cons_zero, List.set_cons_succ]
  refine until_take (i := 3) (v := ?vu3) rfl (by kernel_rfl) (by kernel_rfl) (by kernel_rfl) (by kernel_rfl) (by kernel_rfl) (fun _ _ _ h => h) rfl ?hyu3 hS0 ?restu3
  case hyu3 => (intro w hSw; obtain ⟨y0, y1, y2, y3⟩ := hSw; go_simp; try with_reducible rfl)
  try simp only [Act.put, List.setIfInBounds_toArray, List.set_cons_zero, List.set_cons_succ]
  refine until_take (i := 4) (v := ?vu4) rfl (by kernel_rfl) (by kernel_rfl) (by kernel_rfl) (by kernel_rfl) (by kernel_rfl) (fun _ _ _ h => h) rfl ?hyu4 hS0 ?restu4
  case hyu4 => (intro w hSw; obtain ⟨y0, y1, y2, y3⟩ := hSw; go_simp; try with_reducible rfl)
  try simp only [Act.put, List.setIfInBounds_toArray, List.set_cons_zero, List.set_cons_succ]
  refine until_take (i := 5) (v := ?vu5) rfl (by kernel_rfl) (by kernel_rfl) (by kernel_rfl) (by kernel_rfl) (by kernel_rfl) (fun _ _ _ h => h) rfl ?hyu5 hS0 ?restu5
  case hyu5 => (intro w hSw; obtain ⟨y0, y1, y2, y3⟩ := hSw; go_simp; try with_reducible rfl)
  try simp only [Act.put, List.setIfInBounds_toArray, List.set_cons_zero, List.set_cons_succ]
  refine until_take (i := 6) (v := ?vu6) rfl (by kernel_rfl) (by kernel_rfl) (by kernel_rfl) (by kernel_rfl) (by kernel_rfl) (fun _ _ _ h => h) rfl ?hyu6 hS0 ?restu6
  case hyu6 => (intro w hSw; obtain ⟨y0, y1, y2, y3⟩ := hSw; go_simp; try with_reducible rfl)
  try simp only [Act.put, List.setIfInBounds_toArray, List.set_cons_zero, List.set_cons_succ]
  refine until_take (i := 7) (v := ?vu7) rfl (by kernel_rfl) (by kernel_rfl) (by kernel_rfl) (by kernel_rfl) (by kernel_rfl) (fun _ _ _ h => h) rfl ?hyu7 hS0 ?restu7
  case hyu7 => (intro w hSw; obtain ⟨y0, y1, y2, y3⟩ := hSw; go_simp; try with_reducible rfl)
  try simp only [Act.put, List.setIfInBounds_toArray, List.set_cons_zero, List.set_cons_succ]
  refine until_take (i := 8) (v := ?vu8) rfl (by kernel_rfl) (by kernel_rfl) (by kernel_rfl) (by kernel_rfl) (by kernel_rfl) (fun _ _ _ h => h) rfl ?hyu8 hS0 ?restu8
  case hyu8 => (intro w hSw; obtain ⟨y0, y1, y2, y3⟩ := hSw; go_simp; try with_reducible rfl)
  try simp only [Act.put, List.setIfInBounds_toArray, List.set_cons_zero, List.set_cons_succ]
  refine until_take (i := 9) (v := ?vu9) rfl (by kernel_rfl) (by kernel_rfl) (by kernel_rfl) (by kernel_rfl) (by kernel_rfl) (fun _ _ _ h => h) rfl ?hyu9 hS0 ?restu9
  case hyu9 => (intro w hSw; obtain ⟨y0, y1, y2, y3⟩ := hSw; go_simp; try with_reducible rfl)
  try simp only [Act.put, List.setIfInBounds_toArray, List.set_cons_zero, List.set_cons_succ]
  refine until_take (i := 10) (v := ?vu10) rfl (by kernel_rfl) (by kernel_rfl) (by kernel_rfl) (by kernel_rfl) (by kernel_rfl) (fun _ _ _ h => h) rfl ?hyu10 hS0 ?restu10
  case hyu10 => (intro w hSw; obtain ⟨y0, y1, y2, y3⟩ := hSw; go_simp; try with_reducible rfl)
  try simp only [Act.put, List.setIfInBounds_toArray, List.set_cons_zero, List.set_cons_succ]
  refine until_take (i := 11) (v := ?vu11) rfl (by kernel_rfl) (by kernel_rfl) (by kernel_rfl) (by kernel_rfl) (by kernel_rfl) (fun _ _ _ h => h) rfl ?hyu11 hS0 ?restu11
  case hyu11 => (intro w hSw; obtain ⟨y0, y1, y2, y3⟩ := hSw; go_simp; try with_reducible rfl)
  try simp only [Act.put, List.setIfInBounds_toArray, List.set_cons_zero, List.set_cons_succ]
  refine until_take (i := 12) (v := ?vu12) rfl (by kernel_rfl) (by kernel_rfl) (by kernel_rfl) (by kernel_rfl) (by kernel_rfl) (fun _ _ _ h => h) rfl ?hyu12 hS0 ?restu12
  case hyu12 => (intro w hSw; obtain ⟨y0, y1, y2, y3⟩ := hSw; go_simp; try with_reducible rfl)
  try simp only [Act.put, List.setIfInBounds_toArray, List.set_cons_zero, List.set_cons_succ]
  refine until_take (i := 13) (v := ?vu13) rfl (by kernel_rfl) (by kernel_rfl) (by kernel_rfl) (by kernel_rfl) (by kernel_rfl) (fun _ _ _ h => h) rfl ?hyu13 hS0 ?restu13
  case hyu13 => (intro w hSw; obtain ⟨y0, y1, y2, y3⟩ := hSw; go_simp; try with_reducible rfl)
  try simp only [Act.put, List.setIfInBounds_toArray, List.set_cons_zero, List.set_cons_succ]
  refine until_take (i := 14) (v := ?vu14) rfl (by kernel_rfl) (by kernel_rfl) (by kernel_rfl) (by kernel_rfl) (by kernel_rfl) (fun _ _ _ h => h) rfl ?hyu14 hS0 ?restu14
  case hyu14 => (intro w hSw; obtain ⟨y0, y1, y2, y3⟩ := hSw; go_simp; try with_reducible rfl)
  try simp only [Act.put, List.setIfInBounds_toArray, List.set_cons_zero, List.set_cons_succ]
  refine until_take (i := 15) (v := ?vu15) rfl (by kernel_rfl) (by kernel_rfl) (by kernel_rfl) (by kernel_rfl) (by kernel_rfl) (fun _ _ _ h => h) rfl ?hyu15 hS0 ?restu15
  case hyu15 => (intro w hSw; obtain ⟨y0, y1, y2, y3⟩ := hSw; go_simp; try with_reducible rfl)
  try simp only [Act.put, List.setIfInBounds_toArray, List.set_cons_zero, List.set_cons_succ]
  refine until_take (i := 16) (v := ?vu16) rfl (by kernel_rfl) (by kernel_rfl) (by kernel_rfl) (by kernel_rfl) (by kernel_rfl) (fun _ _ _ h => h) rfl ?hyu16 hS0 ?restu16
  case hyu16 => (intro w hSw; obtain ⟨y0, y1, y2, y3⟩ := hSw; go_simp; try with_reducible rfl)
  try simp only [Act.put, List.setIfInBounds_toArray, List.set_cons_zero, List.set_cons_succ]
  refine until_one (i := 17) (by kernel_rfl) (by kernel_rfl) rfl rfl (fun K hK => ?_)
  go_simp
  have hS1 := hS0.alloc (.cells #[.int .i64 0, .int .i64 0, .string ⟨#[]⟩, .string ⟨#[]⟩] 36)
  refine hK.out _ _ hS1 ?_
  clear hK K
  try simp only [Act.put, List.setIfInBounds_toArray, List.set_cons_zero, List.set_cons_succ]
  refine until_last (by kernel_rfl) (by kernel_rfl) rfl rfl (fun K hK => ?_)
  go_simp
  refine hK.out _ _ (NoPanic.normal ?_)
  clear hK K
  try simp only [Act.put, List.setIfInBounds_toArray, List.set_cons_zero, List.set_cons_succ]
  try simp only [wa, wb]
  clear hS0 hS1
  go_wp2_with fail
  refine (HCk.out _).mono ?_
  rintro ex w2 ⟨rfl, HX2⟩
  have HX3 : Ext w1 w2 := (((Ext.refl w1).alloc _).drew).trans HX2
  obtain ⟨B, HBs⟩ : ∃ B, Hid (w1.heap.size = B) := ⟨_, rfl⟩
  have HE2 : Hid (Ext w w2) := HE1.out.trans HX3
  have hb2 : bk < w2.heap.size := Nat.lt_of_lt_of_le hb1 HX3.size
  have hbB : bk < B := by rw [← HBs.out]; exact hb1
  have hB2 : B < w2.heap.size := by rw [← HBs.out]; exact Nat.lt_of_lt_of_le (by simp) HX2.size
  have z02 := later HX3 z0
  have f02 := (HX3.cells.2 bk 0 hb1).trans f0
  have z12 := later HX3 z1
  have f12 := (HX3.cells.2 bk 1 hb1).trans f1
  have z22 := later HX3 z2
  have f22 := (HX3.cells.2 bk 2 hb1).trans f2
  have z32 := later HX3 z3
  have f32 := (HX3.cells.2 bk 3 hb1).trans f3
  have x0 : w2.cell? ⟨B, 0, none⟩ = some (.int .i64 na) := later HX2 (by rw [World.cell?_drew, World.cell?_alloc_at _ _ _ _ HBs.out.symm]; rfl)
  have x1 : w2.cell? ⟨B, 1, none⟩ = some (.int .i64 nb) := later HX2 (by rw [World.cell?_drew, World.cell?_alloc_at _ _ _ _ HBs.out.symm]; rfl)
  have x2 : w2.cell? ⟨B, 2, none⟩ = some (.string c) := later HX2 (by rw [World.cell?_drew, World.cell?_alloc_at _ _ _ _ HBs.out.symm]; rfl)
  have x3 : w2.cell? ⟨B, 3, none⟩ = some (.string d) := later HX2 (by rw [World.cell?_drew, World.cell?_alloc_at _ _ _ _ HBs.out.symm]; rfl)
  rw [HBs.out]
  clear HX2 HX3 HCk HBs z0 f0 y0 z1 f1 y1 z2 f2 y2 z3 f3 y3
  cases hok : cmdOk na nb c d with
  | true =>
    have HRes : Hid (rrdCV s = .tuple #[.agg #[.int .i64 na, .int .i64 nb, .string c, .string d], .int .i64 0]) := by
      show _ = _
      unfold rrdCV
      rw [HI.out, if_pos ⟨ca, cb, hok⟩]
    go_wp2
    refine bodyPost_ret (v := .tuple #[.agg #[.int .i64 na, .int .i64 nb, .string c, .string d], .int .i64 0]) (by simp [results, Try.results21, go_sem, z02, z12, z22, z32]) rfl ⟨by rw [HRes.out], Ext.st HB.out (Ext.st HB.out (Ext.st HB.out (Ext.st HB.out (HE2.out))))⟩
  | false =>
    have HRes : Hid (rrdCV s = .tuple #[.agg #[.int .i64 0, .int .i64 0, .string ⟨#[]⟩, .string ⟨#[]⟩], .int .i64 3]) := by
      show _ = _
      unfold rrdCV
      rw [HI.out, if_neg (fun q => by simp [hok] at q)]
    go_wp2
    refine bodyPost_ret (v := .tuple #[.agg #[.int .i64 0, .int .i64 0, .string ⟨#[]⟩, .string ⟨#[]⟩], .int .i64 3]) (by simp [results, Try.results21, go_sem, z02, z12, z22, z32]) rfl ⟨by rw [HRes.out], Ext.st HB.out (Ext.st HB.out (Ext.st HB.out (Ext.st HB.out (HE2.out))))⟩
theorem rrdC_any (s : ByteArray) (hs : s.size ≤ 100000) (w : World) :
    Calls Try.prog 21 #[.string s] w fun e w' => e = .returned (rrdCV s) ∧ Ext w w' := by
  cases hr : rd s 0 with
  | none => exact rrdC_none s hs hr w
  | some l =>
    by_cases hlen : l.length = 4
    · obtain ⟨a, b, c, d, rfl⟩ := list4 hlen
      by_cases ca : a.size = 1
      · skip
        by_cases cb : b.size = 1
        · skip
          exact rrdC_all s hs a b c d hr ca cb w
        · exact rrdC_b s hs a b c d hr ca cb w
      · exact rrdC_a s hs a b c d hr ca w
    · exact rrdC_len s hs l hr hlen w
end Go.Proofs.Ythdmecoeghnifaa
