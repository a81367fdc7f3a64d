/-
  THE FACE of package shamir: what each call answers; nothing old is turned. Here: Weights and Join (Eval and Shares: the text Fa).
-/
import Derived.Test.YtnaiccfdbapdpaaDoorFa
import Derived.Deep.OwnRows
namespace Go.Proofs.YtnaiccfdbapdpaaDoor
open Go.RowKit
theorem rowIs_ext {w w' : World} {b : Nat} {t : TypeId} {n : Nat} {f : Nat → Value} (h : w.rowIs b t n f) (hx : Ext w w') : w'.rowIs b t n f := h.of_block (hx.block b h.lt)
theorem made4 (w : World) (n : Nat) : (w.alloc (.cells (madeCells #[.int .u64 0, .int .u64 0, .int .u64 0, .int .u64 0] (n * 4)) 26)).rowIs w.heap.size 26 (n * 4) (fun _ => .int .u64 0) := by
  have h := World.rowIs_alloc w (madeCells #[.int .u64 0, .int .u64 0, .int .u64 0, .int .u64 0] (n * 4)) 26 (fun _ => .int .u64 0) (fun i hi => by
    rw [size_madeCells] at hi
    simp only [madeCells, Array.getElem?_map, Array.getElem?_range, hi, if_true, Option.map_some, Option.some.injEq]
    have h4 : i % 4 = 0 ∨ i % 4 = 1 ∨ i % 4 = 2 ∨ i % 4 = 3 := by omega
    show #[Value.int .u64 0, .int .u64 0, .int .u64 0, .int .u64 0][i % 4]! = .int .u64 0
    rcases h4 with h | h | h | h <;> rw [h] <;> rfl)
  rwa [size_madeCells] at h
theorem make22 (n : Nat) (hn : n ≤ 1000) (w : World) : (Instr.makeSlice 22 (.int .i64 (n : Int)) (.int .i64 (n : Int))).run Tryd.prog w = .ok (.slice (some ⟨w.heap.size, 0, none⟩) n n) (w.alloc (.cells (madeCells #[.int .u64 0, .int .u64 0, .int .u64 0, .int .u64 0] (n * 4)) 26)) := by
  obtain ⟨i0, hi0, hz0, hz1, hz2⟩ := info_parts info26
  have h := run_make (P := Tryd.prog) w 22 26 i0 _ Tryd.underlying22 hi0 hz0 .i64 .i64 n n (by omega) (Int.le_refl _) (by rw [hz2]; omega) (by omega)
  simp only [Int.toNat_natCast, hz1] at h
  exact h
theorem make32 (n : Nat) (hn : n ≤ 1000) (w : World) : (Instr.makeSlice 32 (.int .i64 (n : Int)) (.int .i64 (n : Int))).run Tryd.prog w = .ok (.slice (some ⟨w.heap.size, 0, none⟩) n n) (w.alloc (.cells (madeCells #[.int .i64 0] n) 3)) :=
  run_make_row' 32 3 (.int .i64 0) 8 Tryd.underlying32 info3 rfl .i64 .i64 n (by omega) (by omega) w
theorem five_new (w : World) (x0 x1 x2 x3 x4 : Value) (t : TypeId) : (w.alloc (.cells #[x0, x1, x2, x3, x4] t)).cell? ⟨w.heap.size, 0, none⟩ = some x0 ∧ (w.alloc (.cells #[x0, x1, x2, x3, x4] t)).cell? ⟨w.heap.size, 1, none⟩ = some x1 ∧ (w.alloc (.cells #[x0, x1, x2, x3, x4] t)).cell? ⟨w.heap.size, 2, none⟩ = some x2 ∧ (w.alloc (.cells #[x0, x1, x2, x3, x4] t)).cell? ⟨w.heap.size, 3, none⟩ = some x3 ∧ (w.alloc (.cells #[x0, x1, x2, x3, x4] t)).cell? ⟨w.heap.size, 4, none⟩ = some x4 := by
  refine ⟨?_, ?_, ?_, ?_, ?_⟩ <;> (rw [World.cell?_alloc_at _ _ _ _ rfl]; rfl)
/-- The first i of n weights are there. -/
def Wts (X : Nat → Int) (i : Nat) (k : Nat) : Value := if k < i * 4 then nc (fun i j => qw (X i) j) k else .int .u64 0
theorem wts_step (X : Nat → Int) (i n : Nat) {w : World} {b : Nat} (_hi : i < n) (h : w.rowIs b 26 (n * 4) (Wts X i)) :
    ((((w.setCell ⟨b, i * 4, none⟩ (.int .u64 (qw (X i) 0))).setCell ⟨b, i * 4 + 1, none⟩ (.int .u64 (qw (X i) 1))).setCell ⟨b, i * 4 + 2, none⟩ (.int .u64 (qw (X i) 2))).setCell ⟨b, i * 4 + 3, none⟩ (.int .u64 (qw (X i) 3))).rowIs b 26 (n * 4) (Wts X (i + 1)) := by
  refine ((((h.set (i * 4) _).set (i * 4 + 1) _).set (i * 4 + 2) _).set (i * 4 + 3) _).congr fun k hk => ?_
  have e0 := nc_at (fun i j => qw (X i) j) i 0 (by omega)
  have e1 := nc_at (fun i j => qw (X i) j) i 1 (by omega)
  have e2 := nc_at (fun i j => qw (X i) j) i 2 (by omega)
  have e3 := nc_at (fun i j => qw (X i) j) i 3 (by omega)
  unfold Wts
  by_cases h3 : k = i * 4 + 3
  · rw [if_pos h3, if_pos (by omega), h3, e3]
  · rw [if_neg h3]
    by_cases h2 : k = i * 4 + 2
    · rw [if_pos h2, if_pos (by omega), h2, e2]
    · rw [if_neg h2]
      by_cases h1 : k = i * 4 + 1
      · rw [if_pos h1, if_pos (by omega), h1, e1]
      · rw [if_neg h1]
        by_cases h0 : k = i * 4
        · rw [if_pos h0, if_pos (by omega), h0]; exact e0.symm
        · rw [if_neg h0]
          by_cases hlt : k < i * 4
          · rw [if_pos hlt, if_pos (by omega)]
          · rw [if_neg hlt, if_neg (by omega)]
set_option maxHeartbeats 4000000 in
set_option maxRecDepth 10000 in
theorem sweights_any (v : Value) (n : Nat) (P : Nat → Int) (_hP : ∀ i, i < n → I64 (P i)) (hn : n ≤ 100) (w : World) (hG : Gl w) (hL : Lies w v n 1 (fun k => .int .i64 (P k))) :
    Calls Tryd.prog 14 #[v] w fun e w' => Ext w w' ∧ ((OkP P n ∧ ∃ u, e = .returned (.tuple #[u, .int .i64 0]) ∧ Lies w' u n 4 (nc (fun i j => qw (wI P i n) j))) ∨ (¬ OkP P n ∧ ∃ u, e = .returned (.tuple #[u, .int .i64 1]) ∧ Lies w' u 0 4 (nc (fun i j => qw (wI P i n) j)))) := by
  obtain ⟨a, cap, rfl, hL'⟩ := hL
  have HL : Hid (Lies w (.slice a n cap) n 1 (fun k => .int .i64 (P k))) := ⟨a, cap, rfl, hL'⟩
  have HG : Hid (Gl w) := hG
  clear hL' hG
  go_enter Tryd.func14, Tryd.ntmps14
  go_wp2_with fail
  refine (arep_any _ n P hn _ HL.out).mono ?_
  rintro e w1 ⟨HX1, h⟩
  have HE1 : Hid (Ext w w1) := HX1
  clear HX1
  rcases h with ⟨h, rfl⟩ | ⟨h, rfl⟩
  · have HOk : Hid (OkP P n) := h
    have hmk := make22 n (by omega) w1
    have Rm := made4 w1 n
    have HE2 : Hid (Ext w (w1.alloc (.cells (madeCells #[.int .u64 0, .int .u64 0, .int .u64 0, .int .u64 0] (n * 4)) 26))) := HE1.out.alloc _
    obtain ⟨X, hX⟩ : ∃ X, Hid ((fun i => wI P i n) = X) := ⟨_, rfl⟩
    have HWt : Hid (∀ i, i < n → ∀ W, Ext w W → Calls Tryd.prog 33 #[.slice a n cap, .int .i64 (P i)] W fun e w' => e = .returned (.agg #[.int .u64 (qw (X i) 0), .int .u64 (qw (X i) 1), .int .u64 (qw (X i) 2), .int .u64 (qw (X i) 3)]) ∧ Ext W w') := by
      rw [← hX.out]
      exact fun i hi W hW => weight_any _ n i P hi HOk.out.2 (by omega) W (HG.out.ext hW) (HL.out.ext hW)
    have HXe : Hid (∀ i, wI P i n = X i) := fun i => congrFun hX.out i
    have HXn : Hid (nc (fun i j => qw (wI P i n) j) = nc (fun i j => qw (X i) j)) := by rw [← hX.out]; exact rfl
    have R0 : (w1.alloc (.cells (madeCells #[.int .u64 0, .int .u64 0, .int .u64 0, .int .u64 0] (n * 4)) 26)).rowIs w1.heap.size 26 (n * 4) (Wts X 0) := Rm.congr fun k _ => by unfold Wts; rw [if_neg (by omega)]
    have HB : SizeLe w w1.heap.size := HE1.out.size
    clear h hX HXe Rm
    go_wp2_with fail
    try rw [hmk]
    go_wp2
    generalize w1.alloc (.cells (madeCells #[.int .u64 0, .int .u64 0, .int .u64 0, .int .u64 0] (n * 4)) 26) = W2 at *
    obtain ⟨g, hg⟩ : ∃ g, w1.heap.size = g := ⟨_, rfl⟩
    rw [hg] at R0 HB ⊢
    clear hg hmk
    have HR0 : Hid (W2.rowIs g 26 (n * 4) (Wts X 0)) := R0
    clear R0
    go_loopw [15] (fun u15 wr => ∃ i : Nat, i ≤ n ∧ u15 = .int .i64 (i : Int) ∧ Hid (wr.rowIs g 26 (n * 4) (Wts X i)) ∧ Hid (Ext w wr)) (fun u15 _ => n - (intOf u15).toNat)
    case atStart => exact ⟨0, Nat.zero_le _, rfl, HR0, HE2⟩
    case round =>
      obtain ⟨i, hi, rfl, HR, HE⟩ := hrel
      clear HR0 HE2
      by_cases hlt : i < n
      · have h1 : (i : Int) < (n : Int) := by omega
        have h0 : (0 : Int) ≤ (i : Int) := by omega
        have hw : IntKind.i64.wrap ((i : Int) + 1) = (i : Int) + 1 := by rw [IntKind.wrap_i64]; omega
        obtain ⟨b, o, rfl, hb, x0⟩ := (HL.out.ext HE.out).int hlt
        go_wp2_with fail
        refine (HWt.out i hlt _ HE.out).mono ?_
        rintro e w2 ⟨rfl, HX2⟩
        have HR2 : Hid (w2.rowIs g 26 (n * 4) (Wts X i)) := rowIs_ext HR.out HX2
        have HE3 : Hid (Ext w w2) := HE.out.trans HX2
        clear HX2 HR HE hb x0
        have y0 := HR2.out.cell (i := i * 4) (by omega)
        have y1 := HR2.out.cell (i := i * 4 + 1) (by omega)
        have y2 := HR2.out.cell (i := i * 4 + 2) (by omega)
        have y3 := HR2.out.cell (i := i * 4 + 3) (by omega)
        have f0 := HR2.out.frozen (i * 4)
        have f1 := HR2.out.frozen (i * 4 + 1)
        have f2 := HR2.out.frozen (i * 4 + 2)
        have f3 := HR2.out.frozen (i * 4 + 3)
        go_wp2
        go_roundw
        case rel => exact ⟨i + 1, hlt, by push_cast; rfl, wts_step X i n hlt HR2.out, Ext.st HB (Ext.st HB (Ext.st HB (Ext.st HB HE3.out)))⟩
        case measure => simp [intOf]; omega
      · obtain rfl : i = n := by omega
        have HLw : Hid (Lies wr (.slice (some ⟨g, 0, none⟩) i i) i 4 (nc (fun i j => qw (X i) j))) := ⟨_, _, rfl, fun _ => ⟨g, 0, rfl, HR.out.lt, fun k hk => by
          rw [Nat.zero_add, HR.out.cell hk]; unfold Wts; rw [if_pos hk]⟩⟩
        go_wp2
        refine bodyPost_ret (v := .tuple #[.slice (some ⟨g, 0, none⟩) i i, .int .i64 0]) (by simp [results, Tryd.results14, go_sem]) rfl ⟨HE.out, .inl ⟨HOk.out, _, rfl, by rw [HXn.out]; exact HLw.out⟩⟩
  · have HB : Hid (¬ OkP P n) := h
    clear h
    go_wp2
    refine bodyPost_ret (v := .tuple #[.slice none 0 0, .int .i64 1]) (by simp [results, Tryd.results14, go_sem]) rfl ⟨HE1.out, .inr ⟨HB.out, _, rfl, lies_nil _ _ _⟩⟩
/-- What the function literal of Join reads. -/
def JF (w : World) (gs : Nat) (f0 f1 f2 f3 : Int) (bw : Nat) (sl : Value) (b o : Nat) (x0 x1 x2 x3 : Int) (wx : World) : Prop :=
  wx.cell? ⟨gs, 1, none⟩ = some (.int .u64 f0) ∧ wx.cell? ⟨gs, 2, none⟩ = some (.int .u64 f1) ∧ wx.cell? ⟨gs, 3, none⟩ = some (.int .u64 f2) ∧ wx.cell? ⟨gs, 4, none⟩ = some (.int .u64 f3) ∧ wx.cell? ⟨bw, 0, none⟩ = some sl ∧ wx.cell? ⟨b, o, none⟩ = some (.int .u64 x0) ∧ wx.cell? ⟨b, o + 1, none⟩ = some (.int .u64 x1) ∧ wx.cell? ⟨b, o + 2, none⟩ = some (.int .u64 x2) ∧ wx.cell? ⟨b, o + 3, none⟩ = some (.int .u64 x3) ∧ Ext w wx
theorem JF.ext {w wx wy : World} {gs bw b o : Nat} {sl : Value} {f0 f1 f2 f3 x0 x1 x2 x3 : Int} (h : JF w gs f0 f1 f2 f3 bw sl b o x0 x1 x2 x3 wx) (hx : Ext wx wy) : JF w gs f0 f1 f2 f3 bw sl b o x0 x1 x2 x3 wy :=
  ⟨later hx h.1, later hx h.2.1, later hx h.2.2.1, later hx h.2.2.2.1, later hx h.2.2.2.2.1, later hx h.2.2.2.2.2.1, later hx h.2.2.2.2.2.2.1, later hx h.2.2.2.2.2.2.2.1, later hx h.2.2.2.2.2.2.2.2.1, h.2.2.2.2.2.2.2.2.2.trans hx⟩
theorem JF.ext0 {w wx : World} {gs bw b o : Nat} {sl : Value} {f0 f1 f2 f3 x0 x1 x2 x3 : Int} (h : JF w gs f0 f1 f2 f3 bw sl b o x0 x1 x2 x3 wx) : Ext w wx := h.2.2.2.2.2.2.2.2.2
set_option maxHeartbeats 4000000 in
set_option maxRecDepth 10000 in
theorem joinf_any (i n : Nat) (p f0 f1 f2 f3 : Int) (hf : Lim4 f0 f1 f2 f3) (X : Nat → Int) (hi : i < n) (bw : Nat) (a : Option Addr) (cap : Nat) (w : World) (hG : Gl w) (hbw : w.cell? ⟨bw, 0, none⟩ = some (.slice a n cap)) (hL : Lies w (.slice a n cap) n 4 (nc (fun i j => qw (X i) j))) :
    Calls Tryd.prog 38 #[.int .i64 (i : Int), .agg #[.int .i64 p, .int .u64 f0, .int .u64 f1, .int .u64 f2, .int .u64 f3], .pointer (some ⟨bw, 0, none⟩)] w fun e w' => ∃ t0 t1 t2 t3 : Int, e = .returned (.agg #[.int .u64 t0, .int .u64 t1, .int .u64 t2, .int .u64 t3]) ∧ Hid (QMod (val (qw (X i) 0) (qw (X i) 1) (qw (X i) 2) (qw (X i) 3) * val f0 f1 f2 f3) t0 t1 t2 t3) ∧ Ext w w' := by
  have HG : Hid (Gl w) := hG
  have HF : Hid (Lim4 f0 f1 f2 f3) := hf
  obtain ⟨b, o, rfl, hb, x0, x1, x2, x3⟩ := hL.num hi
  clear hG hf hL
  have h1 : (i : Int) < (n : Int) := by omega
  have h0 : (0 : Int) ≤ (i : Int) := by omega
  have HXd : Ext w ((w.alloc (.cells #[.int .i64 p, .int .u64 f0, .int .u64 f1, .int .u64 f2, .int .u64 f3] 47)).alloc (.cells #[.int .u64 0, .int .u64 0, .int .u64 0, .int .u64 0] 26)).drew := (((Ext.refl _).alloc _).alloc _).drew
  have Rz := RowF.new (w.alloc (.cells #[.int .i64 p, .int .u64 f0, .int .u64 f1, .int .u64 f2, .int .u64 f3] 47)) 0 0 0 0
  rw [show (w.alloc (.cells #[.int .i64 p, .int .u64 f0, .int .u64 f1, .int .u64 f2, .int .u64 f3] 47)).heap.size = w.heap.size + 1 from by simp] at Rz
  have Rz := Rz.ext ((Ext.refl _).drew)
  obtain ⟨_, n1, n2, n3, n4⟩ := five_new w (.int .i64 p) (.int .u64 f0) (.int .u64 f1) (.int .u64 f2) (.int .u64 f3) 47
  have HXn : Ext (w.alloc (.cells #[.int .i64 p, .int .u64 f0, .int .u64 f1, .int .u64 f2, .int .u64 f3] 47)) ((w.alloc (.cells #[.int .i64 p, .int .u64 f0, .int .u64 f1, .int .u64 f2, .int .u64 f3] 47)).alloc (.cells #[.int .u64 0, .int .u64 0, .int .u64 0, .int .u64 0] 26)).drew := ((Ext.refl _).alloc _).drew
  have hS0 : JF w w.heap.size f0 f1 f2 f3 bw (.slice (some ⟨b, o, none⟩) n cap) b (o + i * 4) (qw (X i) 0) (qw (X i) 1) (qw (X i) 2) (qw (X i) 3) ((w.alloc (.cells #[.int .i64 p, .int .u64 f0, .int .u64 f1, .int .u64 f2, .int .u64 f3] 47)).alloc (.cells #[.int .u64 0, .int .u64 0, .int .u64 0, .int .u64 0] 26)).drew :=
    ⟨later HXn n1, later HXn n2, later HXn n3, later HXn n4, later HXd hbw, later HXd x0, later HXd x1, later HXd x2, later HXd x3, HXd⟩
  have HBz : SizeLe w (w.heap.size + 1) := Nat.le_succ _
  clear HXd HXn n1 n2 n3 n4 hbw x0 x1 x2 x3
  go_enter Tryd.func38, Tryd.ntmps38
  go_wp2_with fail
  obtain ⟨gz, hgz⟩ : ∃ gz, w.heap.size + 1 = gz := ⟨_, rfl⟩
  rw [hgz] at Rz HBz ⊢
  obtain ⟨gs, hgs⟩ : ∃ gs, w.heap.size = gs := ⟨_, rfl⟩
  rw [hgs] at hS0 ⊢
  clear hgz hgs
  refine wp_region_noPanic ?_
  refine wp_region_until (X := 7) (S := JF w gs f0 f1 f2 f3 bw (.slice (some ⟨b, o, none⟩) n cap) b (o + i * 4) (qw (X i) 0) (qw (X i) 1) (qw (X i) 2) (qw (X i) 3)) (by kernel_rfl) ?_
  refine until_take (i := 0) (v := ?vu0) rfl (by kernel_rfl) (by kernel_rfl) (by kernel_rfl) (by kernel_rfl) (by kernel_rfl) (fun _ _ _ h => h) rfl ?hyu0 hS0 ?restu0
  case hyu0 => (intro w hSw; obtain ⟨y1, y2, y3, y4, ys, x0, x1, x2, x3, _⟩ := hSw; go_simp; try with_reducible rfl)
  try simp only [Act.put, List.setIfInBounds_toArray, List.set_cons_zero, List.set_cons_succ]
  refine until_take (i := 1) (v := ?vu1) rfl (by kernel_rfl) (by kernel_rfl) (by kernel_rfl) (by kernel_rfl) (by kernel_rfl) (fun _ _ _ h => h) rfl ?hyu1 hS0 ?restu1
  case hyu1 => (intro w hSw; obtain ⟨y1, y2, y3, y4, ys, x0, x1, x2, x3, _⟩ := hSw; go_simp; try with_reducible rfl)
  try simp only [Act.put, List.setIfInBounds_toArray, List.set_cons_zero, List.set_cons_succ]
  refine until_take (i := 2) (v := ?vu2) rfl (by kernel_rfl) (by kernel_rfl) (by kernel_rfl) (by kernel_rfl) (by kernel_rfl) (fun _ _ _ h => h) rfl ?hyu2 hS0 ?restu2
  case hyu2 => (intro w hSw; obtain ⟨y1, y2, y3, y4, ys, x0, x1, x2, x3, _⟩ := hSw; go_simp; try with_reducible rfl)
  try simp only [Act.put, List.setIfInBounds_toArray, List.set_cons_zero, List.set_cons_succ]
  refine until_take (i := 3) (v := ?vu3) rfl (by kernel_rfl) (by kernel_rfl) (by kernel_rfl) (by kernel_rfl) (by kernel_rfl) (fun _ _ _ h => h) rfl ?hyu3 hS0 ?restu3
  case hyu3 => (intro w hSw; obtain ⟨y1, y2, y3, y4, ys, x0, x1, x2, x3, _⟩ := hSw; go_simp; try with_reducible rfl)
  try simp only [Act.put, List.setIfInBounds_toArray, List.set_cons_zero, List.set_cons_succ]
  refine until_take (i := 4) (v := ?vu4) rfl (by kernel_rfl) (by kernel_rfl) (by kernel_rfl) (by kernel_rfl) (by kernel_rfl) (fun _ _ _ h => h) rfl ?hyu4 hS0 ?restu4
  case hyu4 => (intro w hSw; obtain ⟨y1, y2, y3, y4, ys, x0, x1, x2, x3, _⟩ := hSw; go_simp; try with_reducible rfl)
  try simp only [Act.put, List.setIfInBounds_toArray, List.set_cons_zero, List.set_cons_succ]
  refine until_take (i := 5) (v := ?vu5) rfl (by kernel_rfl) (by kernel_rfl) (by kernel_rfl) (by kernel_rfl) (by kernel_rfl) (fun _ _ _ h => h) rfl ?hyu5 hS0 ?restu5
  case hyu5 => (intro w hSw; obtain ⟨y1, y2, y3, y4, ys, x0, x1, x2, x3, _⟩ := hSw; go_simp; try with_reducible rfl)
  try simp only [Act.put, List.setIfInBounds_toArray, List.set_cons_zero, List.set_cons_succ]
  refine until_one (i := 6) (by kernel_rfl) (by kernel_rfl) rfl rfl (fun K hK => ?_)
  go_simp
  refine (smul_any _ _ _ _ _ _ _ _ HF.out (qw_mod (X i)).1 _ (HG.out.ext hS0.ext0)).mono ?_
  rintro e w4 ⟨m0, m1, m2, m3, rfl, HM, HX4⟩
  have hS4 := hS0.ext HX4
  go_simp
  refine hK.out _ _ hS4 ?_
  clear hK K
  try simp only [Act.put, List.setIfInBounds_toArray, List.set_cons_zero, List.set_cons_succ]
  refine until_last (by kernel_rfl) (by kernel_rfl) rfl rfl (fun K hK => ?_)
  have Rz4 := Rz.ext HX4
  have HE4 : Hid (Ext w w4) := hS4.ext0
  clear hS0 hS4 HX4 Rz
  obtain ⟨⟨la, y0, y1, y2, y3⟩, e0, e1, e2, e3⟩ := Rz4
  go_simp
  refine hK.out _ _ (NoPanic.normal ?_)
  clear hK K
  try simp only [Act.put, List.setIfInBounds_toArray, List.set_cons_zero, List.set_cons_succ]
  have HM' : Hid (QMod (val (qw (X i) 0) (qw (X i) 1) (qw (X i) 2) (qw (X i) 3) * val f0 f1 f2 f3) m0 m1 m2 m3) := by show QMod _ _ _ _ _; rw [Int.mul_comm]; exact HM.out
  go_wp2
  refine bodyPost_ret (v := .agg #[.int .u64 m0, .int .u64 m1, .int .u64 m2, .int .u64 m3]) (by simp [results, Tryd.results38, go_sem, y0, y1, y2, y3]) rfl ⟨m0, m1, m2, m3, rfl, HM', ?_⟩
  exact Ext.st HBz (Ext.st HBz (Ext.st HBz (Ext.st HBz HE4.out)))
/-- What a round of sum over shares reads. -/
def SF (w : World) (g gi : Nat) (s0 s1 s2 s3 p f0 f1 f2 f3 : Int) (wx : World) : Prop :=
  Row wx g s0 s1 s2 s3 ∧ wx.cell? ⟨gi, 0, none⟩ = some (.int .i64 p) ∧ wx.cell? ⟨gi, 1, none⟩ = some (.int .u64 f0) ∧ wx.cell? ⟨gi, 2, none⟩ = some (.int .u64 f1) ∧ wx.cell? ⟨gi, 3, none⟩ = some (.int .u64 f2) ∧ wx.cell? ⟨gi, 4, none⟩ = some (.int .u64 f3) ∧ Ext w wx
theorem SF.ext {w wx wy : World} {g gi : Nat} {s0 s1 s2 s3 p f0 f1 f2 f3 : Int} (h : SF w g gi s0 s1 s2 s3 p f0 f1 f2 f3 wx) (hx : Ext wx wy) : SF w g gi s0 s1 s2 s3 p f0 f1 f2 f3 wy :=
  ⟨h.1.ext hx, later hx h.2.1, later hx h.2.2.1, later hx h.2.2.2.1, later hx h.2.2.2.2.1, later hx h.2.2.2.2.2.1, h.2.2.2.2.2.2.trans hx⟩
theorem SF.ext0 {w wx : World} {g gi : Nat} {s0 s1 s2 s3 p f0 f1 f2 f3 : Int} (h : SF w g gi s0 s1 s2 s3 p f0 f1 f2 f3 wx) : Ext w wx := h.2.2.2.2.2.2
set_option maxHeartbeats 4000000 in
set_option maxRecDepth 10000 in
theorem sumS_any (v : Value) (n : Nat) (P : Nat → Int) (F : Nat → Nat → Int) (X : Nat → Int) (hn : n ≤ 1000) (hl : LimN F n) (bw : Nat) (aw : Option Addr) (cw : Nat) (w : World) (hG : Gl w) (hL : Lies w v n 5 (sc P F)) (hbw : w.cell? ⟨bw, 0, none⟩ = some (.slice aw n cw)) (hLw : Lies w (.slice aw n cw) n 4 (nc (fun i j => qw (X i) j))) :
    Calls Tryd.prog 37 #[v, .func (.func 38) #[] #[.pointer (some ⟨bw, 0, none⟩)]] w fun e w' => ∃ r0 r1 r2 r3 : Int, e = .returned (.agg #[.int .u64 r0, .int .u64 r1, .int .u64 r2, .int .u64 r3]) ∧ Hid (QMod (smN (fun i => X i * val (F i 0) (F i 1) (F i 2) (F i 3)) n) r0 r1 r2 r3) ∧ Ext w w' := by
  obtain ⟨a, cap, rfl, hL'⟩ := hL
  have HL : Hid (Lies w (.slice a n cap) n 5 (sc P F)) := ⟨a, cap, rfl, hL'⟩
  have HW : Hid (w.cell? ⟨bw, 0, none⟩ = some (.slice aw n cw) ∧ Lies w (.slice aw n cw) n 4 (nc (fun i j => qw (X i) j))) := ⟨hbw, hLw⟩
  have HG : Hid (Gl w) := hG
  have HLi : Hid (LimN F n) := hl
  have HS0 : Hid (QMod (smN (fun i => X i * val (F i 0) (F i 1) (F i 2) (F i 3)) 0) 0 0 0 0) := zero_mod _ _
  clear hL' hG hl hbw hLw
  have HE0 : Hid (Ext w ((w.alloc (.cells #[.int .u64 0, .int .u64 0, .int .u64 0, .int .u64 0] 26)).alloc (.cells #[.int .u64 0, .int .u64 0, .int .u64 0, .int .u64 0] 26))) := ((Ext.refl _).alloc _).alloc _
  have Rz0 := (RowF.new w 0 0 0 0).ext ((Ext.refl _).alloc (.cells #[.int .u64 0, .int .u64 0, .int .u64 0, .int .u64 0] 26))
  have Rg0 := RowF.new (w.alloc (.cells #[.int .u64 0, .int .u64 0, .int .u64 0, .int .u64 0] 26)) 0 0 0 0
  rw [show (w.alloc (.cells #[.int .u64 0, .int .u64 0, .int .u64 0, .int .u64 0] 26)).heap.size = w.heap.size + 1 from by simp] at Rg0
  have HBz : SizeLe w w.heap.size := Nat.le_refl _
  have HBg : SizeLe w (w.heap.size + 1) := Nat.le_succ _
  go_enter Tryd.func37, Tryd.ntmps37
  go_wp2
  generalize (w.alloc (.cells #[.int .u64 0, .int .u64 0, .int .u64 0, .int .u64 0] 26)).alloc (.cells #[.int .u64 0, .int .u64 0, .int .u64 0, .int .u64 0] 26) = W0 at *
  obtain ⟨g, hg⟩ : ∃ g, w.heap.size + 1 = g := ⟨_, rfl⟩
  obtain ⟨z, hz⟩ : ∃ z, w.heap.size = z := ⟨_, rfl⟩
  rw [hg] at Rg0 HBg ⊢
  rw [hz] at Rz0 HBz hg ⊢
  have hzg : z ≠ g := by omega
  go_loopw [10] (fun u10 wr => ∃ (k : Nat) (s0 s1 s2 s3 : Int), k ≤ n ∧ u10 = .int .i64 (k : Int) ∧ RowF wr z 0 0 0 0 ∧ RowF wr g s0 s1 s2 s3 ∧ Hid (QMod (smN (fun i => X i * val (F i 0) (F i 1) (F i 2) (F i 3)) k) s0 s1 s2 s3) ∧ Hid (Ext w wr)) (fun u10 _ => n - (intOf u10).toNat)
  case atStart => exact ⟨0, 0, 0, 0, 0, Nat.zero_le _, rfl, Rz0, Rg0, HS0, HE0⟩
  case round =>
    obtain ⟨k, s0, s1, s2, s3, hk, rfl, Rz, Rg, HS, HE⟩ := hrel
    clear Rz0 Rg0 HS0 HE0
    by_cases hlk : k < n
    · have h1 : (k : Int) < (n : Int) := by omega
      have h0 : (0 : Int) ≤ (k : Int) := by omega
      have hw : IntKind.i64.wrap ((k : Int) + 1) = (k : Int) + 1 := by rw [IntKind.wrap_i64]; omega
      obtain ⟨b, o, rfl, hb, x0, x1, x2, x3, x4⟩ := (HL.out.ext HE.out).share hlk
      have HXi : Ext wr (wr.alloc (.cells #[.int .i64 (P k), .int .u64 (F k 0), .int .u64 (F k 1), .int .u64 (F k 2), .int .u64 (F k 3)] 47)).drew := ((Ext.refl _).alloc _).drew
      obtain ⟨n0, n1, n2, n3, n4⟩ := five_new wr (.int .i64 (P k)) (.int .u64 (F k 0)) (.int .u64 (F k 1)) (.int .u64 (F k 2)) (.int .u64 (F k 3)) 47
      have Rz0 := Rz.ext HXi
      have Rg0 := Rg.ext HXi
      have hS0 : SF w g wr.heap.size s0 s1 s2 s3 (P k) (F k 0) (F k 1) (F k 2) (F k 3) (wr.alloc (.cells #[.int .i64 (P k), .int .u64 (F k 0), .int .u64 (F k 1), .int .u64 (F k 2), .int .u64 (F k 3)] 47)).drew := ⟨Rg0.1, later ((Ext.refl _).drew) n0, later ((Ext.refl _).drew) n1, later ((Ext.refl _).drew) n2, later ((Ext.refl _).drew) n3, later ((Ext.refl _).drew) n4, HE.out.trans HXi⟩
      clear HXi n0 n1 n2 n3 n4 Rz Rg
      go_wp2_with fail
      obtain ⟨gi, hgi⟩ : ∃ gi, wr.heap.size = gi := ⟨_, rfl⟩
      rw [hgi] at hS0 ⊢
      clear hgi
      refine wp_region_noPanic ?_
      refine wp_region_until (X := 6) (S := SF w g gi s0 s1 s2 s3 (P k) (F k 0) (F k 1) (F k 2) (F k 3)) (by kernel_rfl) ?_
      refine until_take (i := 0) (v := ?vu0) rfl (by kernel_rfl) (by kernel_rfl) (by kernel_rfl) (by kernel_rfl) (by kernel_rfl) (fun _ _ _ h => h) rfl ?hyu0 hS0 ?restu0
      case hyu0 => (intro w hSw; obtain ⟨⟨_, y0, y1, y2, y3⟩, x0, x1, x2, x3, x4, _⟩ := hSw; go_simp; try with_reducible rfl)
      try simp only [Act.put, List.setIfInBounds_toArray, List.set_cons_zero, List.set_cons_succ]
      refine until_take (i := 1) (v := ?vu1) rfl (by kernel_rfl) (by kernel_rfl) (by kernel_rfl) (by kernel_rfl) (by kernel_rfl) (fun _ _ _ h => h) rfl ?hyu1 hS0 ?restu1
      case hyu1 => (intro w hSw; obtain ⟨⟨_, y0, y1, y2, y3⟩, x0, x1, x2, x3, x4, _⟩ := hSw; go_simp; try with_reducible rfl)
      try simp only [Act.put, List.setIfInBounds_toArray, List.set_cons_zero, List.set_cons_succ]
      refine until_take (i := 2) (v := ?vu2) rfl (by kernel_rfl) (by kernel_rfl) (by kernel_rfl) (by kernel_rfl) (by kernel_rfl) (fun _ _ _ h => h) rfl ?hyu2 hS0 ?restu2
      case hyu2 => (intro w hSw; obtain ⟨⟨_, y0, y1, y2, y3⟩, x0, x1, x2, x3, x4, _⟩ := hSw; go_simp; try with_reducible rfl)
      try simp only [Act.put, List.setIfInBounds_toArray, List.set_cons_zero, List.set_cons_succ]
      refine until_take (i := 3) (v := ?vu3) rfl (by kernel_rfl) (by kernel_rfl) (by kernel_rfl) (by kernel_rfl) (by kernel_rfl) (fun _ _ _ h => h) rfl ?hyu3 hS0 ?restu3
      case hyu3 => (intro w hSw; obtain ⟨⟨_, y0, y1, y2, y3⟩, x0, x1, x2, x3, x4, _⟩ := hSw; go_simp; try with_reducible rfl)
      try simp only [Act.put, List.setIfInBounds_toArray, List.set_cons_zero, List.set_cons_succ]
      refine until_one (i := 4) (by kernel_rfl) (by kernel_rfl) rfl rfl (fun K hK => ?_)
      go_simp
      refine (joinf_any k n (P k) _ _ _ _ (HLi.out k hlk) X hlk bw aw cw _ (HG.out.ext hS0.ext0) (later hS0.ext0 HW.out.1) (HW.out.2.ext hS0.ext0)).mono ?_
      rintro e w3 ⟨t0, t1, t2, t3, rfl, HT, HX3⟩
      have hS3 := hS0.ext HX3
      go_simp
      refine hK.out _ _ hS3 ?_
      clear hK K
      try simp only [Act.put, List.setIfInBounds_toArray, List.set_cons_zero, List.set_cons_succ]
      refine until_one (i := 5) (by kernel_rfl) (by kernel_rfl) rfl rfl (fun K hK => ?_)
      go_simp
      refine (sadd_any _ _ _ _ _ _ _ _ HS.out.1 HT.out.1 _ (HG.out.ext hS3.ext0)).mono ?_
      rintro e w4 ⟨m0, m1, m2, m3, rfl, HM, HX4⟩
      have hS4 := hS3.ext HX4
      go_simp
      refine hK.out _ _ hS4 ?_
      clear hK K
      try simp only [Act.put, List.setIfInBounds_toArray, List.set_cons_zero, List.set_cons_succ]
      refine until_last (by kernel_rfl) (by kernel_rfl) rfl rfl (fun K hK => ?_)
      have Rg4 : RowF w4 g s0 s1 s2 s3 := (Rg0.ext HX3).ext HX4
      have Rz4 : RowF w4 z 0 0 0 0 := (Rz0.ext HX3).ext HX4
      have HE4 : Hid (Ext w w4) := hS4.ext0
      have Rg5 := Rg4
      clear hS0 hS3 hS4 HX3 HX4 Rg0 Rz0
      obtain ⟨⟨la, y0, y1, y2, y3⟩, f0, f1, f2, f3⟩ := Rg5
      go_simp
      refine hK.out _ _ (NoPanic.normal ?_)
      clear hK K
      try simp only [Act.put, List.setIfInBounds_toArray, List.set_cons_zero, List.set_cons_succ]
      have HS1 : Hid (QMod (smN (fun i => X i * val (F i 0) (F i 1) (F i 2) (F i 3)) (k + 1)) m0 m1 m2 m3) := join_step HS.out HT.out HM.out
      go_wp2
      go_roundw
      case rel => exact ⟨k + 1, m0, m1, m2, m3, hlk, by push_cast; rfl, Rz4.other hzg |>.other hzg |>.other hzg |>.other hzg, RowF.set Rg4, HS1, Ext.st HBg (Ext.st HBg (Ext.st HBg (Ext.st HBg HE4.out)))⟩
      case measure => simp [intOf]; omega
    · obtain rfl : k = n := by omega
      obtain ⟨⟨lg, y0, y1, y2, y3⟩, f0, f1, f2, f3⟩ := Rg
      obtain ⟨⟨lz, z0, z1, z2, z3⟩, e0, e1, e2, e3⟩ := Rz
      go_wp2
      refine bodyPost_ret (v := .agg #[.int .u64 s0, .int .u64 s1, .int .u64 s2, .int .u64 s3]) (by simp [results, Tryd.results37, go_sem, z0, z1, z2, z3]) rfl ⟨s0, s1, s2, s3, rfl, HS, ?_⟩
      exact Ext.st HBz (Ext.st HBz (Ext.st HBz (Ext.st HBz HE.out)))
/-- The first i of n places are there. -/
def Pls (P : Nat → Int) (i : Nat) (k : Nat) : Value := if k < i then .int .i64 (P k) else .int .i64 0
theorem pls_step (P : Nat → Int) (i n : Nat) {w : World} {b : Nat} (h : w.rowIs b 3 n (Pls P i)) : (w.setCell ⟨b, i, none⟩ (.int .i64 (P i))).rowIs b 3 n (Pls P (i + 1)) := by
  refine (h.set i _).congr fun k _ => ?_
  unfold Pls
  by_cases h0 : k = i
  · rw [if_pos h0, if_pos (by omega), h0]
  · rw [if_neg h0]
    by_cases hlt : k < i
    · rw [if_pos hlt, if_pos (by omega)]
    · rw [if_neg hlt, if_neg (by omega)]
set_option maxHeartbeats 4000000 in
set_option maxRecDepth 10000 in
theorem sjoin_any (v : Value) (n : Nat) (P : Nat → Int) (F : Nat → Nat → Int) (hP : ∀ i, i < n → I64 (P i)) (hn : n ≤ 100) (hl : LimN F n) (w : World) (hG : Gl w) (hL : Lies w v n 5 (sc P F)) :
    Calls Tryd.prog 17 #[v] w fun e w' => Ext w w' ∧ ((OkP P n ∧ ∃ r0 r1 r2 r3, e = .returned (.tuple #[.agg #[.int .u64 r0, .int .u64 r1, .int .u64 r2, .int .u64 r3], .int .i64 0]) ∧ Hid (QMod (smN (fun i => wI P i n * val (F i 0) (F i 1) (F i 2) (F i 3)) n) r0 r1 r2 r3)) ∨ (¬ OkP P n ∧ e = .returned (.tuple #[.agg #[.int .u64 0, .int .u64 0, .int .u64 0, .int .u64 0], .int .i64 1]))) := by
  obtain ⟨a, cap, rfl, hL'⟩ := hL
  have HL : Hid (Lies w (.slice a n cap) n 5 (sc P F)) := ⟨a, cap, rfl, hL'⟩
  have HG : Hid (Gl w) := hG
  have HLi : Hid (LimN F n) := hl
  have HI : Hid (∀ i, i < n → I64 (P i)) := hP
  clear hL' hG hl hP
  have hmk := make32 n (by omega) (w.alloc (.cells #[.int .u64 0, .int .u64 0, .int .u64 0, .int .u64 0] 26))
  have RZ := (RowF.new w 0 0 0 0).ext ((Ext.refl _).alloc (.cells (madeCells #[.int .i64 0] n) 3))
  have HE1 : Hid (Ext w ((w.alloc (.cells #[.int .u64 0, .int .u64 0, .int .u64 0, .int .u64 0] 26)).alloc (.cells (madeCells #[.int .i64 0] n) 3))) := ((Ext.refl _).alloc _).alloc _
  have R0 := (World.rowIs_made (w.alloc (.cells #[.int .u64 0, .int .u64 0, .int .u64 0, .int .u64 0] 26)) (.int .i64 0) n 3).congr (g := Pls P 0) fun k _ => by unfold Pls; rw [if_neg (by omega)]
  rw [show (w.alloc (.cells #[.int .u64 0, .int .u64 0, .int .u64 0, .int .u64 0] 26)).heap.size = w.heap.size + 1 from by simp] at R0 hmk
  have HBz : SizeLe w w.heap.size := Nat.le_refl _
  have HBg : SizeLe w (w.heap.size + 1) := Nat.le_succ _
  go_enter Tryd.func17, Tryd.ntmps17
  go_wp2_with fail
  try rw [hmk]
  go_wp2
  generalize (w.alloc (.cells #[.int .u64 0, .int .u64 0, .int .u64 0, .int .u64 0] 26)).alloc (.cells (madeCells #[.int .i64 0] n) 3) = W0 at *
  obtain ⟨g, hg⟩ : ∃ g, w.heap.size + 1 = g := ⟨_, rfl⟩
  obtain ⟨z, hz⟩ : ∃ z, w.heap.size = z := ⟨_, rfl⟩
  rw [hg] at R0 HBg ⊢
  rw [hz] at RZ HBz hg ⊢
  have hzg : z ≠ g := by omega
  have HR0 : Hid (W0.rowIs g 3 n (Pls P 0)) := R0
  clear R0 hmk
  go_loopw [14] (fun u14 wr => ∃ k : Nat, k ≤ n ∧ u14 = .int .i64 (k : Int) ∧ RowF wr z 0 0 0 0 ∧ Hid (wr.rowIs g 3 n (Pls P k)) ∧ Hid (Ext w wr)) (fun u14 _ => n - (intOf u14).toNat)
  case atStart => exact ⟨0, Nat.zero_le _, rfl, RZ, HR0, HE1⟩
  case round =>
    obtain ⟨k, hk, rfl, Rz, HR, HE⟩ := hrel
    clear RZ HR0 HE1
    by_cases hlk : k < n
    · have h1 : (k : Int) < (n : Int) := by omega
      have h0 : (0 : Int) ≤ (k : Int) := by omega
      have hw : IntKind.i64.wrap ((k : Int) + 1) = (k : Int) + 1 := by rw [IntKind.wrap_i64]; omega
      obtain ⟨b, o, rfl, hb, x0, x1, x2, x3, x4⟩ := (HL.out.ext HE.out).share hlk
      have HXi : Ext wr (wr.alloc (.cells #[.int .i64 (P k), .int .u64 (F k 0), .int .u64 (F k 1), .int .u64 (F k 2), .int .u64 (F k 3)] 47)) := (Ext.refl _).alloc _
      have Rz1 := Rz.ext HXi
      have HR1 : Hid ((wr.alloc (.cells #[.int .i64 (P k), .int .u64 (F k 0), .int .u64 (F k 1), .int .u64 (F k 2), .int .u64 (F k 3)] 47)).rowIs g 3 n (Pls P k)) := rowIs_ext HR.out HXi
      have HE2 : Hid (Ext w (wr.alloc (.cells #[.int .i64 (P k), .int .u64 (F k 0), .int .u64 (F k 1), .int .u64 (F k 2), .int .u64 (F k 3)] 47))) := HE.out.trans HXi
      have y0 := HR1.out.cell hlk
      have e0 := HR1.out.frozen k
      clear HXi
      go_wp2
      go_roundw
      case rel => exact ⟨k + 1, hlk, by push_cast; rfl, Rz1.other hzg, pls_step P k n HR1.out, Ext.st HBg HE2.out⟩
      case measure => simp [intOf]; omega
    · obtain rfl : k = n := by omega
      obtain ⟨n, rfl⟩ : ∃ n, n = k := ⟨k, rfl⟩
      have HLp : Hid (Lies wr (.slice (some ⟨g, 0, none⟩) n n) n 1 (fun k => .int .i64 (P k))) := ⟨_, _, rfl, fun _ => ⟨g, 0, rfl, HR.out.lt, fun k hk => by
        rw [Nat.zero_add, HR.out.cell (by omega)]; unfold Pls; rw [if_pos (by omega)]⟩⟩
      go_wp2_with fail
      refine (sweights_any _ n P HI.out hn _ (HG.out.ext HE.out) HLp.out).mono ?_
      rintro e w1 ⟨HX1, h⟩
      have Rz1 := Rz.ext HX1
      have HE2 : Hid (Ext w w1) := HE.out.trans HX1
      clear HX1 Rz HE HR HLp
      rcases h with ⟨hok, u, rfl, hlw⟩ | ⟨hok, u, rfl, hlw⟩
      · have HOk : Hid (OkP P n) := hok
        obtain ⟨aw, cw, rfl, hlw'⟩ := hlw
        have HXb : Ext w1 (w1.alloc (.cells #[.slice aw n cw] 22)) := (Ext.refl _).alloc _
        have HLw : Hid (Lies (w1.alloc (.cells #[.slice aw n cw] 22)) (.slice aw n cw) n 4 (nc (fun i j => qw (wI P i n) j))) := Lies.ext ⟨aw, cw, rfl, hlw'⟩ HXb
        have HBw : Hid ((w1.alloc (.cells #[.slice aw n cw] 22)).cell? ⟨w1.heap.size, 0, none⟩ = some (.slice aw n cw)) := by show _ = _; simp
        have HE3 : Hid (Ext w (w1.alloc (.cells #[.slice aw n cw] 22))) := HE2.out.trans HXb
        have Rz2 := Rz1.ext HXb
        clear hok hlw' HXb Rz1 HE2
        go_wp2_with fail
        refine (sumS_any _ n P F (fun i => wI P i n) (by omega) HLi.out w1.heap.size aw cw _ (HG.out.ext HE3.out) (HL.out.ext HE3.out) HBw.out HLw.out).mono ?_
        rintro e w5 ⟨r0, r1, r2, r3, rfl, HQ, HX5⟩
        have HE5 : Hid (Ext w w5) := HE3.out.trans HX5
        obtain ⟨⟨lz, z0, z1, z2, z3⟩, f0, f1, f2, f3⟩ := Rz2.ext HX5
        clear HX5 HLw HBw HE3 Rz2
        go_wp2
        refine bodyPost_ret (v := .tuple #[.agg #[.int .u64 r0, .int .u64 r1, .int .u64 r2, .int .u64 r3], .int .i64 0]) (by simp [results, Tryd.results17, go_sem, z0, z1, z2, z3]) rfl ⟨?_, .inl ⟨HOk.out, r0, r1, r2, r3, rfl, HQ⟩⟩
        exact Ext.st HBz (Ext.st HBz (Ext.st HBz (Ext.st HBz HE5.out)))
      · have HB : Hid (¬ OkP P n) := hok
        obtain ⟨aw, cw, rfl, hlw'⟩ := hlw
        have HXb : Ext w1 (w1.alloc (.cells #[.slice aw 0 cw] 22)) := (Ext.refl _).alloc _
        have HE3 : Hid (Ext w (w1.alloc (.cells #[.slice aw 0 cw] 22))) := HE2.out.trans HXb
        obtain ⟨⟨lz, z0, z1, z2, z3⟩, f0, f1, f2, f3⟩ := Rz1.ext HXb
        clear hok hlw' HXb Rz1 HE2
        go_wp2
        refine bodyPost_ret (v := .tuple #[.agg #[.int .u64 0, .int .u64 0, .int .u64 0, .int .u64 0], .int .i64 1]) (by simp [results, Tryd.results17, go_sem, z0, z1, z2, z3]) rfl ⟨?_, .inr ⟨HB.out, rfl⟩⟩
        exact Ext.st HBz (Ext.st HBz (Ext.st HBz (Ext.st HBz HE3.out)))
end Go.Proofs.YtnaiccfdbapdpaaDoor
