/-
 Small numbers as floats, added and turned back; the map of boxes: looked up, and written.
-/
import Derived.Test.YtmanacbdldfmfaaMem
import Derived.Test.YtmanacbdldfmfaaVMath
import Derived.Maps.OwnOps
import Derived.Maps.Views
import Derived.WideKeyEntry
import Derived.DeepKeys4
namespace Go.Proofs.Ytmanacbdldfmfaa
set_option maxRecDepth 10000
open Go.RowKit Go.Maps Go.ChangeMaps Go.MapKept
theorem run_store_complex {P : Program} {w : World} {a : Addr} {m : Mode} (k : FloatKind) (x y : Nat) : (store a (.complex k x y) m).run P w = stored P w a (.complex k x y) m := run_store P w a _ m rfl
/-- A number's bits. -/
def fb (n : Nat) : Nat := floatOfInt .f64 (n : Int)
theorem fb_zero : fb 0 = 0 := by decide +kernel
theorem fb_one : fb 1 = 4607182418800017408 := by decide +kernel
theorem fb_sum {a b : Nat} (ha : a ≤ 8) (hb : b ≤ 8) : floatBits .add .f64 (fb a) (fb b) = some (fb (a + b)) := by
 have : ∀ a < 9, ∀ b < 9, floatBits .add .f64 (fb a) (fb b) = some (fb (a + b)) := by decide +kernel
 exact this a (by omega) b (by omega)
theorem fb_int {a : Nat} (ha : a ≤ 8) : floatToIntVal .f64 (fb a) .i64 = some (a : Int) := by
 have : ∀ a < 9, floatToIntVal .f64 (fb a) .i64 = some (a : Int) := by decide +kernel
 exact this a (by omega)
theorem run_own {a b : Nat} (ha : a ≤ 7) (hb : b ≤ 7) (w : World) : (binOp .add 98 (.complex .f64 (fb a) (fb b)) (.complex .f64 4607182418800017408 0)).run Try.prog w = .ok (.complex .f64 (fb (a + 1)) (fb b)) w := by
 refine run_complex_sum w .add (.inl rfl) 98 .f64 _ _ _ _ _ _ ?_
 have h1 := fb_sum (a := a) (b := 1) (by omega) (by omega)
 have h2 := fb_sum (a := b) (b := 0) (by omega) (by omega)
 rw [fb_one] at h1
 rw [fb_zero] at h2
 unfold cSumBits
 rw [h1, h2]
 rfl
theorem run_oth {a b : Nat} (ha : a ≤ 7) (hb : b ≤ 7) (w : World) : (binOp .add 98 (.complex .f64 (fb a) (fb b)) (.complex .f64 0 4607182418800017408)).run Try.prog w = .ok (.complex .f64 (fb a) (fb (b + 1))) w := by
 refine run_complex_sum w .add (.inl rfl) 98 .f64 _ _ _ _ _ _ ?_
 have h1 := fb_sum (a := b) (b := 1) (by omega) (by omega)
 have h2 := fb_sum (a := a) (b := 0) (by omega) (by omega)
 rw [fb_one] at h1
 rw [fb_zero] at h2
 unfold cSumBits
 rw [h1, h2]
 rfl
theorem run_plus {a b : Nat} (ha : a ≤ 8) (hb : b ≤ 8) (w : World) : (binOp .add 102 (.float .f64 (fb a)) (.float .f64 (fb b))).run Try.prog w = .ok (.float .f64 (fb (a + b))) w := run_float_arith w .add 102 .f64 _ _ _ (fb_sum ha hb)
theorem run_toint {a : Nat} (ha : a ≤ 8) (w : World) : (convert 102 3 (.float .f64 (fb a))).run Try.prog w = .ok (.int .i64 (a : Int)) w := run_convert_float_int w 102 3 .f64 .i64 _ _ (by rw [Try.underlying102]; rfl) Try.underlying3 (fb_int ha)
theorem Try.laidOutV : laidOutB Try.prog = true := by kernel_rfl
theorem Try.row49 : (87 : TypeId) < Try.prog.types.size := of_decide_eq_true (by kernel_rfl)
theorem Try.wide49 : (match Try.prog.underlying 87 with | some (.array _ _) | some (.struct _) => true | _ => false) = true := by kernel_rfl
theorem Try.law49 : WideMaps.KeyLaw Try.prog 87 := deep_law_laid Try.laidOutV (m := 2) (by omega) Try.row49 (by kernel_rfl) Try.wide49
theorem Try.cells87 : Try.prog.cellsOf 87 = 2 := by kernel_rfl
theorem Try.cells3v : Try.prog.cellsOf 3 = 1 := by kernel_rfl
theorem Try.keyType49 : Try.prog.keyType 87 = true := by kernel_rfl
theorem Try.size87 : Try.prog.types.size + 1 = 122 + 2 := by kernel_rfl
/-- A place. -/
abbrev pk (k r : Int) : Value := .agg #[.int .i64 k, .int .i64 r]
/-- What it reads as. -/
def pl (k r : Int) : Lit := .string (keyBytes [.int .i64 k, .int .i64 r])
theorem pk_formed (k r : Int) : (pk k r).formed Try.prog 87 = true := by simp [Value.formed, Try.underlying87, Try.cells87]
theorem pk_lits (d : Nat) {k r : Int} (hk : (Lit.int .i64 k).wf = true) (hr : (Lit.int .i64 r).wf = true) : Try.prog.keyLits (d + 2) 87 [.int .i64 k, .int .i64 r] = some [.int .i64 k, .int .i64 r] := by
 simp [Program.keyLits, Try.underlying87, Try.underlying3, Try.cells87, Try.cells3v, hk, hr]
theorem pk_key {k r : Int} (hk : (Lit.int .i64 k).wf = true) (hr : (Lit.int .i64 r).wf = true) : keyOf Try.prog 87 (pk k r) = some (pl k r) := by
 unfold keyOf
 rw [Try.underlying87, Try.size87]
 have := pk_lits 122 hk hr
 generalize 122 + 2 = q at *
 simp [Try.keyType49, pk_formed, this, Value.cells, pl]
theorem pl_inj {k k' r r' : Int} (hk : (Lit.int .i64 k).wf = true) (hr : (Lit.int .i64 r).wf = true) (hk' : (Lit.int .i64 k').wf = true) (hr' : (Lit.int .i64 r').wf = true) (h : pl k r = pl k' r') : k = k' ∧ r = r' := by
 have := Try.law49.inj (pk_key hk hr) (by rw [h]; exact pk_key hk' hr')
 simpa using this
/-- A box: who voted, and its piles. -/
abbrev bx (f : Nat → Bool) (u : Value) : Value := .agg #[.bool (f 0), .bool (f 1), .bool (f 2), .bool (f 3), .bool (f 4), .bool (f 5), .bool (f 6), .bool (f 7), u]
theorem zero53 (w : World) : (zeroValue 91).run Try.prog w = .ok (bx (fun _ => false) (.slice none 0 0)) w := by kernel_rfl
/-- A box, held as it is. -/
def rh (v : Value) : Option (DataW Value × List MemPlace) := some (.held v, [])
/-- Block b is a map of at most n boxes; that of a kind and a round is g. -/
def Bm (w : World) (b n : Nat) (g : Int → Int → Value) : Prop :=
 ∃ D : DataW Value, w.ownsMap Try.prog 87 rh b n D ∧ ∀ k r, (Lit.int .i64 k).wf = true → (Lit.int .i64 r).wf = true → D.atKey (pl k r) (.held (bx (fun _ => false) (.slice none 0 0))) = .held (g k r)
theorem Bm.lt {w : World} {b n : Nat} {g : Int → Int → Value} (h : Bm w b n g) : b < w.heap.size := by
 obtain ⟨D, h, _⟩ := h
 exact h.lt
theorem Bm.keep {w w' : World} {b n : Nat} {g : Int → Int → Value} (h : Bm w b n g) (hb : w'.heap[b]? = w.heap[b]?) : Bm w' b n g := by
 obtain ⟨D, ⟨es, clock, h1, h2⟩, h3⟩ := h
 exact ⟨D, ⟨es, clock, hb.trans h1, h2⟩, h3⟩
theorem Bm.mono {w : World} {b n m : Nat} {g : Int → Int → Value} (h : Bm w b n g) (hm : n ≤ m) : Bm w b m g := by
 obtain ⟨D, h, h3⟩ := h
 exact ⟨D, h.mono hm, h3⟩
theorem bm_new (w : World) : Bm (w.alloc (.map #[] 0)) w.heap.size 0 (fun _ _ => bx (fun _ => false) (.slice none 0 0)) := ⟨.map [], World.ownsMap_made w Try.prog 87 _, fun _k _B _ _ => rfl⟩
theorem Bm.look {w : World} {b n : Nat} {g : Int → Int → Value} (h : Bm w b n g) {k r : Int} (hk : (Lit.int .i64 k).wf = true) (hr : (Lit.int .i64 r).wf = true) :
  (Instr.lookup 76 (.map (some b)) (pk k r) false).run Try.prog w = .ok (g k r) w := by
 obtain ⟨D, h1, h2⟩ := h
 obtain ⟨v, ps, hrun, hv⟩ := h1.lookup (Keyed.of_law Try.law49) Try.underlying76 (zero53 w) (zd := .held (bx (fun _ => false) (.slice none 0 0))) (zp := []) rfl (pk_key hk hr)
 rw [h2 k r hk hr] at hv
 unfold rh at hv
 injection hv with hv
 injection hv with hv _
 injection hv with hv
 rw [hrun, hv]
theorem Bm.put {w : World} {b n : Nat} {g : Int → Int → Value} (h : Bm w b n g) (hn : n < maxLen) {k r : Int} (hk : (Lit.int .i64 k).wf = true) (hr : (Lit.int .i64 r).wf = true) (v : Value) :
  ∃ w', (Instr.mapUpdate 76 (.map (some b)) (pk k r) v).run Try.prog w = .ok () w' ∧ Bm w' b (n + 1) (fun j q => if j = k ∧ q = r then v else g j q) ∧ w.grownBy w' (some b) := by
 obtain ⟨D, h1, h2⟩ := h
 have h1' := h1
 obtain ⟨w', hrun, hown, hgr⟩ := h1'.update (Keyed.of_law Try.law49) Try.underlying76 hn (pk_key hk hr) (d := .held v) (ps := []) rfl
 obtain ⟨es, clock, hb, hF, hs, hD⟩ := h1
 refine ⟨w', hrun, ⟨_, hown, fun j q hj hq => ?_⟩, hgr⟩
 by_cases e : j = k ∧ q = r
 ·obtain ⟨rfl, rfl⟩ := e
  rw [atKey_put_same ⟨_, hD⟩ (Try.law49.str (pk_key hk hr) |>.elim fun s e => by rw [e]; trivial)]
  show _ = DataW.held (if j = j ∧ q = q then v else g j q)
  rw [if_pos ⟨rfl, rfl⟩]
 ·rw [atKey_put_other (fun z => e (pl_inj hj hq hk hr z))]
  show _ = DataW.held (if j = k ∧ q = r then v else g j q)
  rw [if_neg e]
  exact h2 j q hj hq
end Go.Proofs.Ytmanacbdldfmfaa
