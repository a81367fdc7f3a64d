/-
  sandglassref19.Sync, Crash, Append, called; nothing old is turned.
-/
import Derived.Test.YtbkdjpialjbhnaaLAt
import Derived.Test.YtbkdjpialjbhnaaDb
import Derived.Test.YtbkdjpialjbhnaaScP
import Derived.Laws.AppendOwnNone
namespace Go.Proofs.Ytbkdjpialjbhnaa
open Go.RowKit
/-- Four cells of a block. -/
def Blk4 (wx : World) (g : Nat) (a b c d : Value) : Prop := g < wx.heap.size ∧ wx.cell? ⟨g, 0, none⟩ = some a ∧ wx.cell? ⟨g, 1, none⟩ = some b ∧ wx.cell? ⟨g, 2, none⟩ = some c ∧ wx.cell? ⟨g, 3, none⟩ = some d ∧ wx.frozen? ⟨g, 0, none⟩ = false ∧ wx.frozen? ⟨g, 1, none⟩ = false ∧ wx.frozen? ⟨g, 2, none⟩ = false ∧ wx.frozen? ⟨g, 3, none⟩ = false
theorem Blk4.new (W : World) (t : TypeId) (a b c d : Value) : Blk4 (W.alloc (.cells #[a, b, c, d] t)) W.heap.size a b c d :=
  ⟨by simp, by rw [World.cell?_alloc_at _ _ _ _ rfl]; rfl, by rw [World.cell?_alloc_at _ _ _ _ rfl]; rfl, by rw [World.cell?_alloc_at _ _ _ _ rfl]; rfl, by rw [World.cell?_alloc_at _ _ _ _ rfl]; rfl, World.frozen?_alloc_at _ _ _ _ rfl, World.frozen?_alloc_at _ _ _ _ rfl, World.frozen?_alloc_at _ _ _ _ rfl, World.frozen?_alloc_at _ _ _ _ rfl⟩
theorem Blk4.keep {W W2 : World} {g : Nat} {a b c d : Value} (h : Blk4 W g a b c d) (hs : W.heap.size ≤ W2.heap.size) (hb : W2.heap[g]? = W.heap[g]?) : Blk4 W2 g a b c d := by
  obtain ⟨h1, h2, h3, h4, h5, h6, h7, h8, h9⟩ := h
  exact ⟨Nat.lt_of_lt_of_le h1 hs, (World.cell?_of_block (a := ⟨g, 0, none⟩) hb).trans h2, (World.cell?_of_block (a := ⟨g, 1, none⟩) hb).trans h3, (World.cell?_of_block (a := ⟨g, 2, none⟩) hb).trans h4, (World.cell?_of_block (a := ⟨g, 3, none⟩) hb).trans h5, (World.frozen?_of_block (a := ⟨g, 0, none⟩) hb).trans h6, (World.frozen?_of_block (a := ⟨g, 1, none⟩) hb).trans h7, (World.frozen?_of_block (a := ⟨g, 2, none⟩) hb).trans h8, (World.frozen?_of_block (a := ⟨g, 3, none⟩) hb).trans h9⟩
theorem Blk4.ext {W W2 : World} {g : Nat} {a b c d : Value} (h : Blk4 W g a b c d) (hx : Ext W W2) : Blk4 W2 g a b c d := h.keep hx.size (Below.block hx g h.1)
theorem Blk4.put {W : World} {g : Nat} {a b c d : Value} (h : Blk4 W g a b c d) (a2 b2 c2 d2 : Value) : Blk4 ((((W.setCell ⟨g, 0, none⟩ a2).setCell ⟨g, 1, none⟩ b2).setCell ⟨g, 2, none⟩ c2).setCell ⟨g, 3, none⟩ d2) g a2 b2 c2 d2 := by
  obtain ⟨h1, h2, h3, h4, h5, h6, h7, h8, h9⟩ := h
  refine ⟨by simpa using h1, ?_, ?_, ?_, ?_, ?_, ?_, ?_, ?_⟩ <;> simp [World.cell?_setCell_other, World.cell?_setCell_same, h2, h3, h4, h5, h6, h7, h8, h9]
theorem Blk4.st {W : World} {g b i : Nat} {a1 a2 a3 a4 v : Value} (h : Blk4 W g a1 a2 a3 a4) (hne : g ≠ b) : Blk4 (W.setCell ⟨b, i, none⟩ v) g a1 a2 a3 a4 := h.keep (by simp) (Below.heap_setCell W ⟨b, i, none⟩ v g hne)
theorem Blk4.put2 {W : World} {g : Nat} {a b c d : Value} (h : Blk4 W g a b c d) (a2 b2 : Value) : Blk4 ((W.setCell ⟨g, 0, none⟩ a2).setCell ⟨g, 1, none⟩ b2) g a2 b2 c d := by
  obtain ⟨h1, h2, h3, h4, h5, h6, h7, h8, h9⟩ := h
  refine ⟨by simpa using h1, ?_, ?_, ?_, ?_, ?_, ?_, ?_, ?_⟩ <;> simp [World.cell?_setCell_other, World.cell?_setCell_same, h2, h3, h4, h5, h6, h7, h8, h9]
theorem Blk4.grown {W W2 : World} {g : Nat} {a b c d : Value} {row : Option Nat} (h : Blk4 W g a b c d) (hg : W.grownBy W2 row) (hne : row ≠ some g) : Blk4 W2 g a b c d := h.keep hg.size (hg.block g h.1 (fun q => hne q.symm))
/-- A log of the definition, as it is handed round. -/
abbrev wV (T : ByteArray) (y : Nat) (u : Value) (n : Nat) : Value := .agg #[.string T, .int .i64 (y : Int), u, .int .i64 (n : Int)]
set_option maxHeartbeats 2000000 in
theorem rwsync_any (T : ByteArray) (y : Nat) (a : Option Addr) (m c n : Nat) (h : dOk T y) (w : World) :
    Calls Try.prog 12 #[wV T y (.slice a m c) n] w fun e w' => e = .returned (wV T T.size (.slice a m c) m) ∧ Ext w w' := by
  have HC : Hid (∀ W, Calls Try.prog 23 #[.agg #[.string T, .int .i64 (y : Int)], .agg #[.int .i64 2, .string ⟨#[]⟩, .int .u64 0]] W fun e w' => e = .returned (.tuple #[.agg #[.string T, .int .i64 (T.size : Int)], .int .i64 0]) ∧ Ext W w') := fun W => rdo_any T y 2 ⟨#[]⟩ 0 h (by decide) W
  obtain ⟨W0, hW0⟩ : ∃ W0, (w.alloc (.cells #[.string T, .int .i64 (y : Int), .slice a m c, .int .i64 (n : Int)] 31)).alloc (.cells #[.string ⟨#[]⟩, .int .i64 0, .slice none 0 0, .int .i64 0] 31) = W0 := ⟨_, rfl⟩
  have HB1 : Hid (Blk4 W0 w.heap.size (.string T) (.int .i64 (y : Int)) (.slice a m c) (.int .i64 (n : Int))) := by
    rw [← hW0]; exact (Blk4.new w 31 _ _ _ _).ext ((Ext.refl _).alloc _)
  have HB2 : Hid (Blk4 W0 (w.heap.size + 1) (.string ⟨#[]⟩) (.int .i64 0) (.slice none 0 0) (.int .i64 0)) := by
    rw [← hW0]; have := Blk4.new (w.alloc (.cells #[.string T, .int .i64 (y : Int), .slice a m c, .int .i64 (n : Int)] 31)) 31 (.string ⟨#[]⟩) (.int .i64 0) (.slice none 0 0) (.int .i64 0); rw [show (w.alloc (.cells #[.string T, .int .i64 (y : Int), .slice a m c, .int .i64 (n : Int)] 31)).heap.size = w.heap.size + 1 from by simp] at this; exact this
  have HW : Hid (Ext w W0) := by rw [← hW0]; exact ((Ext.refl w).alloc _).alloc _
  have HWe : Hid ((w.alloc (.cells #[.string T, .int .i64 (y : Int), .slice a m c, .int .i64 (n : Int)] 31)).alloc (.cells #[.string ⟨#[]⟩, .int .i64 0, .slice none 0 0, .int .i64 0] 31) = W0) := hW0
  clear hW0
  go_enter Try.func12, Try.ntmps12
  go_wp2_with fail
  refine (HC.out _).mono ?_
  rintro e w1 ⟨rfl, HX⟩
  rw [HWe.out] at HX
  have HE1 : Hid (Ext w w1) := HW.out.trans HX
  obtain ⟨b0, b1, b2, b3, b4, b5, b6, b7, b8⟩ := HB1.out.ext HX
  obtain ⟨d0, d1, d2, d3, d4, d5, d6, d7, d8⟩ := HB2.out.ext HX
  have HDz : Hid (Blk4 ((((((((w1.setCell ⟨w.heap.size, 0, none⟩ (.string T)).setCell ⟨w.heap.size, 1, none⟩ (.int .i64 (T.size : Int))).setCell ⟨w.heap.size, 3, none⟩ (.int .i64 (m : Int))).setCell ⟨w.heap.size + 1, 0, none⟩ (.string T)).setCell ⟨w.heap.size + 1, 1, none⟩ (.int .i64 (T.size : Int))).setCell ⟨w.heap.size + 1, 2, none⟩ (.slice a m c)).setCell ⟨w.heap.size + 1, 3, none⟩ (.int .i64 (m : Int))).alloc (.cells #[.string T, .int .i64 (T.size : Int)] 28)) (w.heap.size + 1) (.string T) (.int .i64 (T.size : Int)) (.slice a m c) (.int .i64 (m : Int))) := (((((HB2.out.ext HX).st (by omega)).st (by omega)).st (by omega)).put _ _ _ _).ext ((Ext.refl _).alloc _)
  have HEz : Hid (Ext w ((((((((w1.setCell ⟨w.heap.size, 0, none⟩ (.string T)).setCell ⟨w.heap.size, 1, none⟩ (.int .i64 (T.size : Int))).setCell ⟨w.heap.size, 3, none⟩ (.int .i64 (m : Int))).setCell ⟨w.heap.size + 1, 0, none⟩ (.string T)).setCell ⟨w.heap.size + 1, 1, none⟩ (.int .i64 (T.size : Int))).setCell ⟨w.heap.size + 1, 2, none⟩ (.slice a m c)).setCell ⟨w.heap.size + 1, 3, none⟩ (.int .i64 (m : Int))).alloc (.cells #[.string T, .int .i64 (T.size : Int)] 28))) := (Ext.st (by omega) (Ext.st (by omega) (Ext.st (by omega) (Ext.st (by omega) (Ext.st (by omega) (Ext.st (by omega) (Ext.st (by omega) HE1.out))))))).alloc _
  clear HX HB1 HB2 HWe HW HE1
  go_wp2
  obtain ⟨z0, z1, z2, z3, z4, -, -, -, -⟩ := HDz.out
  have HEz := HEz.out
  generalize (((((((w1.setCell ⟨w.heap.size, 0, none⟩ (.string T)).setCell ⟨w.heap.size, 1, none⟩ (.int .i64 (T.size : Int))).setCell ⟨w.heap.size, 3, none⟩ (.int .i64 (m : Int))).setCell ⟨w.heap.size + 1, 0, none⟩ (.string T)).setCell ⟨w.heap.size + 1, 1, none⟩ (.int .i64 (T.size : Int))).setCell ⟨w.heap.size + 1, 2, none⟩ (.slice a m c)).setCell ⟨w.heap.size + 1, 3, none⟩ (.int .i64 (m : Int))).alloc (.cells #[.string T, .int .i64 (T.size : Int)] 28) = wz at *
  refine bodyPost_ret (v := wV T T.size (.slice a m c) m) (by simp [results, Try.results12, go_sem, z1, z2, z3, z4]) rfl ⟨rfl, HEz⟩
/-- What the definition's calls hand out: a log, its records in a row of their own. -/
def RwP (l : List ByteArray) (n : Nat) (w : World) (e : Ending) (w' : World) : Prop := ∃ u, e = .returned (wV (lg l) (wy l n) u n) ∧ w'.ownsRow w.heap.size 9 1 u l.length (tcs l) ∧ Ext w w'
set_option maxHeartbeats 2000000 in
theorem rwcrash_any (l : List ByteArray) (n K : Nat) (u : Value) (h : wOk l n) (hK : K < 18446744073709551616) (w : World) :
    Calls Try.prog 14 #[wV (lg l) (wy l n) u n, .int .u64 (K : Int)] w fun e w' => RwP (wCr l n K) (wCr l n K).length w e w' := by
  obtain ⟨R, hR⟩ : ∃ R, wR l n K = R := ⟨_, rfl⟩
  obtain ⟨m, hm⟩ : ∃ m, (pf R 0).2 = m := ⟨_, rfl⟩
  obtain ⟨l2, hl2⟩ : ∃ l2, wCr l n K = l2 := ⟨_, rfl⟩
  have hwt := wCr_text l n K
  have hRz := wR_size h K
  rw [hR, hl2, hm] at hwt
  rw [hR] at hRz
  obtain ⟨x1, x2, x3⟩ := hwt
  have HC : Hid (∀ W, Calls Try.prog 23 #[.agg #[.string (lg l), .int .i64 (wy l n : Int)], .agg #[.int .i64 3, .string ⟨#[]⟩, .int .u64 (K : Int)]] W fun e w' => e = .returned (.tuple #[.agg #[.string R, .int .i64 (R.size : Int)], .int .i64 0]) ∧ Ext W w') := fun W => by
    have := rdo_any (lg l) (wy l n) 3 ⟨#[]⟩ K h.disk hK W
    unfold doV at this
    rw [show dDo (lg l) (wy l n) 3 ⟨#[]⟩ K = (R, R.size, 0) from by unfold dDo; rw [if_neg (by decide), if_neg (by decide), if_pos rfl, show dcrash (lg l) K (wy l n) = R from hR]] at this
    exact this
  have HPx : Hid (∀ W, Calls Try.prog 26 #[.string R] W fun e w' => ∃ a c, e = .returned (.tuple #[.slice a l2.length c, .int .i64 (m : Int)]) ∧ w'.ownsRow W.heap.size 9 1 (.slice a l2.length c) l2.length (tcs l2) ∧ Ext W w') := fun W => by
    refine (rprefix_any R (by omega) W).mono ?_
    rintro e w' ⟨u, rfl, q1, q3⟩
    rw [show (pf R 0).1 = l2 from by rw [← hR]; exact hl2] at q1
    obtain ⟨a, c, rfl⟩ := liesT_len (own_lies q1)
    exact ⟨a, c, by rw [hm], q1, q3⟩
  have HG : Hid (RwP (wCr l n K) (wCr l n K).length = RwP l2 l2.length) := by show _ = _; rw [hl2]
  have HV : Hid (wy l2 l2.length = m) := by show _ = _; rw [wy_all, x2]
  have p1 : (0 : Int) ≤ (m : Int) := by omega
  have p2 : (m : Int) ≤ (R.size : Int) := by omega
  have p3 : ¬ (m : Int) < 0 := by omega
  have p4 : ¬ (R.size : Int) < (m : Int) := by omega
  have HX1 : Hid (R.extract 0 m = lg l2) := x1
  rw [HG.out]
  clear hR hm hl2 hRz x1 x2 x3 h hK HG
  generalize lg l = T at *
  generalize wy l n = y at *
  obtain ⟨W0, hW0⟩ : ∃ W0, (w.alloc (.cells #[.string T, .int .i64 (y : Int), u, .int .i64 (n : Int)] 31)).alloc (.cells #[.string ⟨#[]⟩, .int .i64 0, .slice none 0 0, .int .i64 0] 31) = W0 := ⟨_, rfl⟩
  have HB2 : Hid (Blk4 W0 (w.heap.size + 1) (.string ⟨#[]⟩) (.int .i64 0) (.slice none 0 0) (.int .i64 0)) := by
    rw [← hW0]; have := Blk4.new (w.alloc (.cells #[.string T, .int .i64 (y : Int), u, .int .i64 (n : Int)] 31)) 31 (.string ⟨#[]⟩) (.int .i64 0) (.slice none 0 0) (.int .i64 0); rw [show (w.alloc (.cells #[.string T, .int .i64 (y : Int), u, .int .i64 (n : Int)] 31)).heap.size = w.heap.size + 1 from by simp] at this; exact this
  have HW : Hid (Ext w W0) := by rw [← hW0]; exact ((Ext.refl w).alloc _).alloc _
  have HWe : Hid ((w.alloc (.cells #[.string T, .int .i64 (y : Int), u, .int .i64 (n : Int)] 31)).alloc (.cells #[.string ⟨#[]⟩, .int .i64 0, .slice none 0 0, .int .i64 0] 31) = W0) := hW0
  clear hW0
  go_enter Try.func14, Try.ntmps14
  go_wp2_with fail
  refine (HC.out _).mono ?_
  rintro e w1 ⟨rfl, HX⟩
  rw [HWe.out] at HX
  have HE1 : Hid (Ext w w1) := HW.out.trans HX
  have HD : Hid (Blk4 w1 (w.heap.size + 1) (.string ⟨#[]⟩) (.int .i64 0) (.slice none 0 0) (.int .i64 0)) := HB2.out.ext HX
  clear HX HB2 HWe HW HC
  go_wp2_with fail
  refine (HPx.out _).mono ?_
  rintro e w2 ⟨a, c, rfl, q1, HX⟩
  have HQ1 : Hid (w2.ownsRow (w1.heap.size + 1) 9 1 (.slice a l2.length c) l2.length (tcs l2)) := by
    show World.ownsRow _ _ _ _ _ _ _
    have q2 := q1
    rw [show (w1.alloc (.cells #[.string R, .int .i64 (R.size : Int)] 28)).heap.size = w1.heap.size + 1 from by simp] at q2
    exact q2
  have hz := HD.out.1
  have r0 : w2.cell? ⟨w1.heap.size, 0, none⟩ = some (.string R) := later HX (by rw [World.cell?_alloc_at _ _ _ _ rfl]; rfl)
  have rb : w1.heap.size < w2.heap.size := by have := HX.size; simp at this; omega
  have HE2 : Hid (Ext w w2) := HE1.out.trans (((Ext.refl w1).alloc _).trans HX)
  obtain ⟨d0, d1, d2, d3, d4, d5, d6, d7, d8⟩ := HD.out.ext (((Ext.refl w1).alloc _).trans HX)
  have HDz : Hid (Blk4 ((((w2.setCell ⟨w.heap.size + 1, 0, none⟩ (.string (R.extract 0 m))).setCell ⟨w.heap.size + 1, 1, none⟩ (.int .i64 (m : Int))).setCell ⟨w.heap.size + 1, 2, none⟩ (.slice a l2.length c)).setCell ⟨w.heap.size + 1, 3, none⟩ (.int .i64 (l2.length : Int))) (w.heap.size + 1) (.string (R.extract 0 m)) (.int .i64 (m : Int)) (.slice a l2.length c) (.int .i64 (l2.length : Int))) := (HD.out.ext (((Ext.refl w1).alloc _).trans HX)).put _ _ _ _
  have HEz : Hid (Ext w ((((w2.setCell ⟨w.heap.size + 1, 0, none⟩ (.string (R.extract 0 m))).setCell ⟨w.heap.size + 1, 1, none⟩ (.int .i64 (m : Int))).setCell ⟨w.heap.size + 1, 2, none⟩ (.slice a l2.length c)).setCell ⟨w.heap.size + 1, 3, none⟩ (.int .i64 (l2.length : Int)))) := Ext.st (by omega) (Ext.st (by omega) (Ext.st (by omega) (Ext.st (by omega) HE2.out)))
  have HOz : Hid (((((w2.setCell ⟨w.heap.size + 1, 0, none⟩ (.string (R.extract 0 m))).setCell ⟨w.heap.size + 1, 1, none⟩ (.int .i64 (m : Int))).setCell ⟨w.heap.size + 1, 2, none⟩ (.slice a l2.length c)).setCell ⟨w.heap.size + 1, 3, none⟩ (.int .i64 (l2.length : Int))).ownsRow w.heap.size 9 1 (.slice a l2.length c) l2.length (tcs l2)) := by
    have hne : Value.ownBlock (.slice a l2.length c) ≠ some (w.heap.size + 1) := fun q => by have := (HQ1.out.lt _ q).1; omega
    exact own_setCell (own_setCell (own_setCell (own_setCell (own_base HQ1.out (by omega)) hne) hne) hne) hne
  clear q1 HX HQ1 HE1 HD HE2
  go_wp2
  obtain ⟨z0, z1, z2, z3, z4, -, -, -, -⟩ := HDz.out
  have HEz := HEz.out
  have HOz := HOz.out
  generalize (((w2.setCell ⟨w.heap.size + 1, 0, none⟩ (.string (R.extract 0 m))).setCell ⟨w.heap.size + 1, 1, none⟩ (.int .i64 (m : Int))).setCell ⟨w.heap.size + 1, 2, none⟩ (.slice a l2.length c)).setCell ⟨w.heap.size + 1, 3, none⟩ (.int .i64 (l2.length : Int)) = wz at *
  refine bodyPost_ret (v := wV (R.extract 0 m) m (.slice a l2.length c) l2.length) (by simp [results, Try.results14, go_sem, z1, z2, z3, z4]) rfl ⟨_, by rw [HX1.out, HV.out], HOz, HEz⟩
/-- append([]T(nil), u...), u a row of its own: nil, or a new row. -/
theorem wpList_append_all {P : Program} (w : World) {ops : Array Oper} {rest : List Oper} {o : Oper} {a : Act} {Q : Exit → Act → World → Prop} (hgd : o.guard = none) (s x : Operand) (t : TypeId)
    (ho : o.op = .call { callee := .builtin .append, args := #[s, x], argTypes := #[t, t] })
    (base : Nat) (e : TypeId) (i : TypeInfo) (z : Value) (bytes : Nat) (ht : P.underlying t = some (.slice e)) (hi : P.info? e = some i) (hz : i.zero = some z)
    (hsize : i.size = 1) (hby : i.bytes = bytes) (hzs : z.cells.size = 1) (hs : a.eval s = .slice none 0 0)
    (u : Value) (m b2 : Nat) (news : List Value) (hx : a.eval x = u) (hu : w.ownsRow b2 e 1 u m news) (h1 : ∀ u ∈ news, u.oneCell' = true)
    (h63 : m ≤ maxLen) (hbytes : m * bytes ≤ 140737488355328) (hbase : base ≤ w.heap.size)
    (h : ∀ v' w', w'.ownsRow base e 1 v' m news → w.grownBy w' none → (∀ b, v'.ownBlock = some b → w.heap.size ≤ b) → wpList P ops Q rest (a.put o.dst v') w') : wpList P ops Q (o :: rest) a w := by
  have h0 : w.ownsRow base e 1 (.slice none 0 0) 0 [] := World.ownsRow_nil _ _ _ _
  obtain ⟨p, c, rfl, hc⟩ := own_form hu
  have hl : news.length = m := by have := hu.1; omega
  cases p with
  | none =>
    have hn : news = [] := by
      cases news with
      | nil => rfl
      | cons v r => obtain ⟨g, e, _⟩ := hc 0 v rfl; cases e
    subst hn
    obtain rfl : m = 0 := hl.symm
    have hc0 : c = 0 := by
      rcases hu.2 with ⟨q, _⟩ | ⟨g, cap, cur, q, _⟩
      · injection q
      · injection q with q; cases q
    subst hc0
    exact wpList_append_own_none hgd s x t ho base e i 1 ht hi _ 0 [] hs h0 hx (h _ _ h0 (World.grownBy.refl w none) fun b q => by cases q)
  | some ad =>
    refine wpList_append_own_at w hgd s x t ho base e i z 1 bytes ht hi hz hsize hby hzs (by decide) _ 0 [] hs h0 ad m c news hx (by omega) ?_ h1 (by omega) (by rw [Nat.zero_add]; exact hbytes) hbase ?_
    · intro j u q
      obtain ⟨g, e, hcell⟩ := hc j u q
      injection e with e
      subst e
      rw [show Addr.add ⟨g, 0, none⟩ j = ⟨g, j, none⟩ from by unfold Addr.add; split <;> simp_all]
      exact hcell
    · intro v' w' q1 q2 _ q4
      rw [Nat.zero_add] at q1
      refine h v' w' q1 q2 fun b q => ?_
      rcases q4 with q4 | q4
      · rw [q4] at q; cases q
      · rw [q4] at q; injection q with q; omega
theorem tcs_one (l : List ByteArray) : ∀ u ∈ tcs l, u.oneCell' = true := by
  intro u h
  obtain ⟨x, _, rfl⟩ := List.mem_map.1 h
  rfl
theorem ml_8192 {k : Nat} (h : k ≤ 8192) : k ≤ maxLen := by unfold maxLen; omega
/-- What the definition's Append hands out: the records in a row of their own, the old one or a new one. -/
def RaP (l : List ByteArray) (n : Nat) (u : Value) (s : ByteArray) (w : World) (e : Ending) (w' : World) : Prop := ∃ u', e = .returned (.tuple #[wV (lg (wApp l s).1) (wy (wApp l s).1 n) u' n, .int .i64 (wApp l s).2]) ∧ w'.ownsRow 0 9 1 u' (wApp l s).1.length (tcs (wApp l s).1) ∧ (∀ b, u'.ownBlock = some b → u.ownBlock = some b ∨ w.heap.size ≤ b) ∧ Ext w w'
theorem raP_of {l l' : List ByteArray} {n : Nat} {u u' : Value} {s : ByteArray} {w : World} {e : Ending} {w' : World} {r : Int} (h : wApp l s = (l', r)) (he : e = .returned (.tuple #[wV (lg l') (wy l' n) u' n, .int .i64 r])) (ho : w'.ownsRow 0 9 1 u' l'.length (tcs l')) (hb : ∀ b, u'.ownBlock = some b → u.ownBlock = some b ∨ w.heap.size ≤ b) (hx : Ext w w') : RaP l n u s w e w' := by
  unfold RaP
  rw [h]
  exact ⟨u', he, ho, hb, hx⟩
set_option maxHeartbeats 4000000 in
theorem rwappend_any (l : List ByteArray) (n : Nat) (u : Value) (s : ByteArray) (h : wOk l n) (w : World) (hu : w.ownsRow 0 9 1 u l.length (tcs l)) :
    Calls Try.prog 15 #[wV (lg l) (wy l n) u n, .string s] w fun e w' => RaP l n u s w e w' := by
  obtain ⟨i0, hi, hz0, hz1, hz2⟩ := info_parts info9
  obtain ⟨a, c, rfl⟩ := liesT_len (own_lies hu)
  have HU : Hid (w.ownsRow 0 9 1 (.slice a l.length c) l.length (tcs l)) := hu
  have hl8 := h.few
  obtain ⟨W0, hW0⟩ : ∃ W0, (w.alloc (.cells #[.string (lg l), .int .i64 (wy l n : Int), .slice a l.length c, .int .i64 (n : Int)] 31)).alloc (.cells #[.string ⟨#[]⟩, .int .i64 0, .slice none 0 0, .int .i64 0] 31) = W0 := ⟨_, rfl⟩
  have HB1 : Hid (Blk4 W0 w.heap.size (.string (lg l)) (.int .i64 (wy l n : Int)) (.slice a l.length c) (.int .i64 (n : Int))) := by
    rw [← hW0]; exact (Blk4.new w 31 _ _ _ _).ext ((Ext.refl _).alloc _)
  have HB2 : Hid (Blk4 W0 (w.heap.size + 1) (.string ⟨#[]⟩) (.int .i64 0) (.slice none 0 0) (.int .i64 0)) := by
    rw [← hW0]; have := Blk4.new (w.alloc (.cells #[.string (lg l), .int .i64 (wy l n : Int), .slice a l.length c, .int .i64 (n : Int)] 31)) 31 (.string ⟨#[]⟩) (.int .i64 0) (.slice none 0 0) (.int .i64 0); rw [show (w.alloc (.cells #[.string (lg l), .int .i64 (wy l n : Int), .slice a l.length c, .int .i64 (n : Int)] 31)).heap.size = w.heap.size + 1 from by simp] at this; exact this
  have HW : Hid (Ext w W0) := by rw [← hW0]; exact ((Ext.refl w).alloc _).alloc _
  have HWe : Hid ((w.alloc (.cells #[.string (lg l), .int .i64 (wy l n : Int), .slice a l.length c, .int .i64 (n : Int)] 31)).alloc (.cells #[.string ⟨#[]⟩, .int .i64 0, .slice none 0 0, .int .i64 0] 31) = W0) := hW0
  clear hW0 hu
  by_cases hl : 4096 < s.size
  · have HC : Hid (∀ W, Calls Try.prog 27 #[.string s] W fun e w' => e = .returned (.tuple #[.string ⟨#[]⟩, .int .i64 2]) ∧ Ext W w') := fun W => rframe_bad s hl W
    have HR : Hid (wApp l s = (l, 2)) := wApp_long hl
    have HT : Hid (∀ w' e, e = .returned (.tuple #[wV (lg l) (wy l n) (.slice a l.length c) n, .int .i64 2]) → Ext w w' → RaP l n (.slice a l.length c) s w e w') := fun w' e he hx => raP_of HR.out he (own_ext HU.out hx) (fun b q => .inl q) hx
    clear HR HU h hl
    generalize lg l = T at *
    generalize wy l n = y at *
    go_enter Try.func15, Try.ntmps15
    go_wp2_with fail
    refine (HC.out _).mono ?_
    rintro e w1 ⟨rfl, HX⟩
    rw [HWe.out] at HX
    obtain ⟨b0, b1, b2, b3, b4, b5, b6, b7, b8⟩ := HB1.out.ext HX
    obtain ⟨d0, d1, d2, d3, d4, d5, d6, d7, d8⟩ := HB2.out.ext HX
    have HDz : Hid (Blk4 ((((w1.setCell ⟨w.heap.size + 1, 0, none⟩ (.string T)).setCell ⟨w.heap.size + 1, 1, none⟩ (.int .i64 (y : Int))).setCell ⟨w.heap.size + 1, 2, none⟩ (.slice a l.length c)).setCell ⟨w.heap.size + 1, 3, none⟩ (.int .i64 (n : Int))) (w.heap.size + 1) (.string T) (.int .i64 (y : Int)) (.slice a l.length c) (.int .i64 (n : Int))) := (HB2.out.ext HX).put _ _ _ _
    have HEz : Hid (Ext w ((((w1.setCell ⟨w.heap.size + 1, 0, none⟩ (.string T)).setCell ⟨w.heap.size + 1, 1, none⟩ (.int .i64 (y : Int))).setCell ⟨w.heap.size + 1, 2, none⟩ (.slice a l.length c)).setCell ⟨w.heap.size + 1, 3, none⟩ (.int .i64 (n : Int)))) := Ext.st (by omega) (Ext.st (by omega) (Ext.st (by omega) (Ext.st (by omega) (HW.out.trans HX))))
    clear HX HB1 HB2 HWe HW
    go_wp2
    obtain ⟨z0, z1, z2, z3, z4, -, -, -, -⟩ := HDz.out
    have HEz := HEz.out
    generalize (((w1.setCell ⟨w.heap.size + 1, 0, none⟩ (.string T)).setCell ⟨w.heap.size + 1, 1, none⟩ (.int .i64 (y : Int))).setCell ⟨w.heap.size + 1, 2, none⟩ (.slice a l.length c)).setCell ⟨w.heap.size + 1, 3, none⟩ (.int .i64 (n : Int)) = wz at *
    refine bodyPost_ret (v := .tuple #[wV T y (.slice a l.length c) n, .int .i64 2]) (by simp [results, Try.results15, go_sem, z1, z2, z3, z4]) rfl (HT.out _ _ rfl HEz)
  · have HC : Hid (∀ W, Calls Try.prog 27 #[.string s] W fun e w' => e = .returned (.tuple #[.string (frm s), .int .i64 0]) ∧ Ext W w') := fun W => rframe_good s (by omega) W
    by_cases hz : 65536 < (lg l).size + (s.size + 8)
    · have HR : Hid (wApp l s = (l, 7)) := wApp_full hl hz
      have HT : Hid (∀ w' e, e = .returned (.tuple #[wV (lg l) (wy l n) (.slice a l.length c) n, .int .i64 7]) → Ext w w' → RaP l n (.slice a l.length c) s w e w') := fun w' e he hx => raP_of HR.out he (own_ext HU.out hx) (fun b q => .inl q) hx
      have HD : Hid (∀ W, Calls Try.prog 23 #[.agg #[.string (lg l), .int .i64 (wy l n : Int)], .agg #[.int .i64 1, .string (frm s), .int .u64 0]] W fun e w' => e = .returned (.tuple #[.agg #[.string (lg l), .int .i64 (wy l n : Int)], .int .i64 2]) ∧ Ext W w') := fun W => by
        have := rdo_any (lg l) (wy l n) 1 (frm s) 0 h.disk (by decide) W
        unfold doV at this
        rw [show dDo (lg l) (wy l n) 1 (frm s) 0 = (lg l, wy l n, 2) from by unfold dDo; rw [if_pos rfl, if_pos (by rw [frm_size]; exact hz)]] at this
        exact this
      clear HR HU h hl hz
      generalize lg l = T at *
      generalize wy l n = y at *
      generalize frm s = f at *
      go_enter Try.func15, Try.ntmps15
      go_wp2_with fail
      refine (HC.out _).mono ?_
      rintro e w1 ⟨rfl, HX⟩
      rw [HWe.out] at HX
      have HB1' : Hid (Blk4 w1 w.heap.size (.string T) (.int .i64 (y : Int)) (.slice a l.length c) (.int .i64 (n : Int))) := HB1.out.ext HX
      have HB2' : Hid (Blk4 w1 (w.heap.size + 1) (.string ⟨#[]⟩) (.int .i64 0) (.slice none 0 0) (.int .i64 0)) := HB2.out.ext HX
      obtain ⟨b0, b1, b2, b3, b4, b5, b6, b7, b8⟩ := HB1.out.ext HX
      have HW1 : Hid (Ext w w1) := HW.out.trans HX
      clear HX HB1 HB2 HWe HW
      go_wp2_with fail
      refine (HD.out _).mono ?_
      rintro e w2 ⟨rfl, HX⟩
      clear b0 b1 b2 b3 b4 b5 b6 b7 b8
      obtain ⟨b0, b1, b2, b3, b4, b5, b6, b7, b8⟩ := HB1'.out.ext HX
      obtain ⟨d0, d1, d2, d3, d4, d5, d6, d7, d8⟩ := HB2'.out.ext HX
      have HDz : Hid (Blk4 (((((w2.setCell ⟨w.heap.size + 1, 0, none⟩ (.string T)).setCell ⟨w.heap.size + 1, 1, none⟩ (.int .i64 (y : Int))).setCell ⟨w.heap.size + 1, 2, none⟩ (.slice a l.length c)).setCell ⟨w.heap.size + 1, 3, none⟩ (.int .i64 (n : Int))).alloc (.cells #[.string T, .int .i64 (y : Int)] 28)) (w.heap.size + 1) (.string T) (.int .i64 (y : Int)) (.slice a l.length c) (.int .i64 (n : Int))) := ((HB2'.out.ext HX).put _ _ _ _).ext ((Ext.refl _).alloc _)
      have HEz : Hid (Ext w (((((w2.setCell ⟨w.heap.size + 1, 0, none⟩ (.string T)).setCell ⟨w.heap.size + 1, 1, none⟩ (.int .i64 (y : Int))).setCell ⟨w.heap.size + 1, 2, none⟩ (.slice a l.length c)).setCell ⟨w.heap.size + 1, 3, none⟩ (.int .i64 (n : Int))).alloc (.cells #[.string T, .int .i64 (y : Int)] 28))) := (Ext.st (by omega) (Ext.st (by omega) (Ext.st (by omega) (Ext.st (by omega) (HW1.out.trans HX))))).alloc _
      clear HX HB1' HB2' HW1
      go_wp2
      obtain ⟨z0, z1, z2, z3, z4, -, -, -, -⟩ := HDz.out
      have HEz := HEz.out
      generalize ((((w2.setCell ⟨w.heap.size + 1, 0, none⟩ (.string T)).setCell ⟨w.heap.size + 1, 1, none⟩ (.int .i64 (y : Int))).setCell ⟨w.heap.size + 1, 2, none⟩ (.slice a l.length c)).setCell ⟨w.heap.size + 1, 3, none⟩ (.int .i64 (n : Int))).alloc (.cells #[.string T, .int .i64 (y : Int)] 28) = wz at *
      refine bodyPost_ret (v := .tuple #[wV T y (.slice a l.length c) n, .int .i64 7]) (by simp [results, Try.results15, go_sem, z1, z2, z3, z4]) rfl (HT.out _ _ rfl HEz)
    · have HR : Hid (wApp l s = (l ++ [s], 0)) := wApp_good hl hz
      obtain ⟨T2, hT2⟩ : ∃ T2, lg (l ++ [s]) = T2 := ⟨_, rfl⟩
      obtain ⟨y2, hy2⟩ : ∃ y2, wy (l ++ [s]) n = y2 := ⟨_, rfl⟩
      have HT : Hid (∀ w' u' e, e = .returned (.tuple #[wV T2 y2 u' n, .int .i64 0]) → w'.ownsRow w.heap.size 9 1 u' (l ++ [s]).length (tcs (l ++ [s])) → Ext w w' → RaP l n (.slice a l.length c) s w e w') := fun w' u' e he ho hx => raP_of HR.out (by rw [he, hT2, hy2]) (own_base ho (Nat.zero_le _)) (fun b q => .inr (ho.lt b q).1) hx
      have HD : Hid (∀ W, Calls Try.prog 23 #[.agg #[.string (lg l), .int .i64 (wy l n : Int)], .agg #[.int .i64 1, .string (frm s), .int .u64 0]] W fun e w' => e = .returned (.tuple #[.agg #[.string T2, .int .i64 (y2 : Int)], .int .i64 0]) ∧ Ext W w') := fun W => by
        have := rdo_any (lg l) (wy l n) 1 (frm s) 0 h.disk (by decide) W
        unfold doV at this
        rw [show dDo (lg l) (wy l n) 1 (frm s) 0 = (T2, y2, 0) from by unfold dDo; rw [if_pos rfl, if_neg (by rw [frm_size]; exact hz), ← hT2, ← hy2, lg_snoc, wy_app h.2.2]] at this
        exact this
      clear HR h hl hz hT2 hy2
      generalize lg l = T at *
      generalize wy l n = y at *
      generalize frm s = f at *
      go_enter Try.func15, Try.ntmps15
      go_wp2_with fail
      refine (HC.out _).mono ?_
      rintro e w1 ⟨rfl, HX⟩
      rw [HWe.out] at HX
      have HB1' : Hid (Blk4 w1 w.heap.size (.string T) (.int .i64 (y : Int)) (.slice a l.length c) (.int .i64 (n : Int))) := HB1.out.ext HX
      have HB2' : Hid (Blk4 w1 (w.heap.size + 1) (.string ⟨#[]⟩) (.int .i64 0) (.slice none 0 0) (.int .i64 0)) := HB2.out.ext HX
      obtain ⟨b0, b1, b2, b3, b4, b5, b6, b7, b8⟩ := HB1.out.ext HX
      have HW1 : Hid (Ext w w1) := HW.out.trans HX
      clear HX HB1 HB2 HWe HW
      go_wp2_with fail
      refine (HD.out _).mono ?_
      rintro e w2 ⟨rfl, HX⟩
      clear b0 b1 b2 b3 b4 b5 b6 b7 b8
      have HB1 : Hid (Blk4 w2 w.heap.size (.string T) (.int .i64 (y : Int)) (.slice a l.length c) (.int .i64 (n : Int))) := HB1'.out.ext HX
      have HB2 : Hid (Blk4 w2 (w.heap.size + 1) (.string ⟨#[]⟩) (.int .i64 0) (.slice none 0 0) (.int .i64 0)) := HB2'.out.ext HX
      have HW2 : Hid (Ext w w2) := HW1.out.trans HX
      obtain ⟨b0, b1, b2, b3, b4, b5, b6, b7, b8⟩ := HB1.out
      clear HX HB1' HB2' HW1
      go_wp2_with (first | (at_builtin; refine wpList_append_all _ rfl _ _ 29 rfl w2.heap.size 9 i0 (.string ⟨#[]⟩) 16 Try.underlying29 hi hz0 hz1 hz2 rfl rfl (.slice a l.length c) l.length 0 (tcs l) rfl ?u0 (tcs_one l) (ml_8192 hl8) ?c5 ?c2 ?_))
      case u0 => exact own_ext HU.out ((Ext.st (by omega) (Ext.st (by omega) HW2.out)).alloc _)
      case c5 => exact Nat.le_trans (Nat.mul_le_mul_right 16 hl8) (by decide)
      case c2 => simp
      intro v3 w3 q1 q2 _
      have hb2 : w.heap.size + 1 < w2.heap.size := HB2.out.1
      have HB3 : Hid (Blk4 w3 w.heap.size (.string T2) (.int .i64 (y2 : Int)) (.slice a l.length c) (.int .i64 (n : Int))) := ((HB1.out.put2 _ _).ext ((Ext.refl _).alloc _)).grown q2 (by simp)
      have HB4 : Hid (Blk4 w3 (w.heap.size + 1) (.string ⟨#[]⟩) (.int .i64 0) (.slice none 0 0) (.int .i64 0)) := (((HB2.out.st (by omega)).st (by omega)).ext ((Ext.refl _).alloc _)).grown q2 (by simp)
      have HW3 : Hid (Ext w w3) := Below.grown ((Ext.st (by omega) (Ext.st (by omega) HW2.out)).alloc _) q2 (((Ext.st (by omega) (Ext.st (by omega) HW2.out)).alloc _).size) (fun k hk => by cases hk)
      have HO3 : Hid (w3.ownsRow w2.heap.size 9 1 v3 l.length (tcs l)) := q1
      have hs3 : w2.heap.size ≤ w3.heap.size := by have := q2.size; simp at this; omega
      clear q1 q2 HB1 HB2 HW2 HU b0 b1 b2 b3 b4 b5 b6 b7 b8
      go_wp2_with (first | (at_builtin; refine wpList_append_lies _ rfl _ _ 29 rfl w2.heap.size 9 i0 (.string ⟨#[]⟩) 1 16 Try.underlying29 hi hz0 hz1 hz2 rfl (by decide) v3 l.length (tcs l) rfl (HO3.out.alloc _) ⟨w3.heap.size, 0, none⟩ 1 1 [.string s] rfl rfl ?c1 ?c3 (by decide) ?c4 ?c5 ?c2 _ rfl ?_))
      case c1 => exact news1 w3 _ _
      case c3 => exact one1 s
      case c4 => exact ml_small (by omega)
      case c5 => exact bt_small (by omega)
      case c2 => exact Nat.le_trans hs3 (by simp)
      intro g cap w4 hown hgrow _ hlt4
      have hr : v3.ownBlock ≠ some w.heap.size := fun q => by have := (HO3.out.lt _ q).1; omega
      have hr2 : v3.ownBlock ≠ some (w.heap.size + 1) := fun q => by have := (HO3.out.lt _ q).1; omega
      have HB5 : Hid (Blk4 w4 w.heap.size (.string T2) (.int .i64 (y2 : Int)) (.slice a l.length c) (.int .i64 (n : Int))) := (HB3.out.ext ((Ext.refl _).alloc _)).grown hgrow hr
      have HB6 : Hid (Blk4 w4 (w.heap.size + 1) (.string ⟨#[]⟩) (.int .i64 0) (.slice none 0 0) (.int .i64 0)) := (HB4.out.ext ((Ext.refl _).alloc _)).grown hgrow hr2
      have HW4 : Hid (Ext w w4) := Ext.grown (HW3.out.alloc _) (HO3.out.alloc _) (by omega) hgrow
      have HO4 : Hid (w4.ownsRow w2.heap.size 9 1 (.slice (some ⟨g, 0, none⟩) (l.length + 1) cap) (l ++ [s]).length (tcs (l ++ [s]))) := by
        show World.ownsRow _ _ _ _ _ _ _
        rw [show (l ++ [s]).length = l.length + 1 from by simp, show tcs (l ++ [s]) = tcs l ++ [.string s] from by simp [tcs]]
        exact hown
      obtain ⟨b0, b1, b2, b3, b4, b5, b6, b7, b8⟩ := HB5.out
      obtain ⟨d0, d1, d2, d3, d4, d5, d6, d7, d8⟩ := HB6.out
      have HEz : Hid (Ext w (((((w4.setCell ⟨w.heap.size, 2, none⟩ (.slice (some ⟨g, 0, none⟩) (l.length + 1) cap)).setCell ⟨w.heap.size + 1, 0, none⟩ (.string T2)).setCell ⟨w.heap.size + 1, 1, none⟩ (.int .i64 (y2 : Int))).setCell ⟨w.heap.size + 1, 2, none⟩ (.slice (some ⟨g, 0, none⟩) (l.length + 1) cap)).setCell ⟨w.heap.size + 1, 3, none⟩ (.int .i64 (n : Int)))) := Ext.st (by omega) (Ext.st (by omega) (Ext.st (by omega) (Ext.st (by omega) (Ext.st (by omega) HW4.out))))
      have HDz : Hid (Blk4 (((((w4.setCell ⟨w.heap.size, 2, none⟩ (.slice (some ⟨g, 0, none⟩) (l.length + 1) cap)).setCell ⟨w.heap.size + 1, 0, none⟩ (.string T2)).setCell ⟨w.heap.size + 1, 1, none⟩ (.int .i64 (y2 : Int))).setCell ⟨w.heap.size + 1, 2, none⟩ (.slice (some ⟨g, 0, none⟩) (l.length + 1) cap)).setCell ⟨w.heap.size + 1, 3, none⟩ (.int .i64 (n : Int))) (w.heap.size + 1) (.string T2) (.int .i64 (y2 : Int)) (.slice (some ⟨g, 0, none⟩) (l.length + 1) cap) (.int .i64 (n : Int))) := (HB6.out.st (by omega)).put _ _ _ _
      have HOz : Hid (World.ownsRow (((((w4.setCell ⟨w.heap.size, 2, none⟩ (.slice (some ⟨g, 0, none⟩) (l.length + 1) cap)).setCell ⟨w.heap.size + 1, 0, none⟩ (.string T2)).setCell ⟨w.heap.size + 1, 1, none⟩ (.int .i64 (y2 : Int))).setCell ⟨w.heap.size + 1, 2, none⟩ (.slice (some ⟨g, 0, none⟩) (l.length + 1) cap)).setCell ⟨w.heap.size + 1, 3, none⟩ (.int .i64 (n : Int))) w.heap.size 9 1 (.slice (some ⟨g, 0, none⟩) (l.length + 1) cap) (l ++ [s]).length (tcs (l ++ [s]))) := by
        have hg := (HO4.out.lt g rfl).1
        have n1 : Value.ownBlock (.slice (some ⟨g, 0, none⟩) (l.length + 1) cap) ≠ some w.heap.size := fun q => by injection q with q; have q : g = w.heap.size := q; omega
        have n2 : Value.ownBlock (.slice (some ⟨g, 0, none⟩) (l.length + 1) cap) ≠ some (w.heap.size + 1) := fun q => by injection q with q; have q : g = w.heap.size + 1 := q; omega
        exact own_setCell (own_setCell (own_setCell (own_setCell (own_setCell (own_base HO4.out (by omega)) n1) n2) n2) n2) n2
      clear hown hgrow HO3 HB3 HB4 HB5 HB6 HW3 HW4 HO4 hr hr2
      go_wp2
      obtain ⟨z0, z1, z2, z3, z4, -, -, -, -⟩ := HDz.out
      have HEz := HEz.out
      have HOz := HOz.out
      generalize ((((w4.setCell ⟨w.heap.size, 2, none⟩ (.slice (some ⟨g, 0, none⟩) (l.length + 1) cap)).setCell ⟨w.heap.size + 1, 0, none⟩ (.string T2)).setCell ⟨w.heap.size + 1, 1, none⟩ (.int .i64 (y2 : Int))).setCell ⟨w.heap.size + 1, 2, none⟩ (.slice (some ⟨g, 0, none⟩) (l.length + 1) cap)).setCell ⟨w.heap.size + 1, 3, none⟩ (.int .i64 (n : Int)) = wz at *
      refine bodyPost_ret (v := .tuple #[wV T2 y2 (.slice (some ⟨g, 0, none⟩) (l.length + 1) cap) n, .int .i64 0]) (by simp [results, Try.results15, go_sem, z1, z2, z3, z4]) rfl (HT.out _ _ _ rfl HOz HEz)
end Go.Proofs.Ytbkdjpialjbhnaa
