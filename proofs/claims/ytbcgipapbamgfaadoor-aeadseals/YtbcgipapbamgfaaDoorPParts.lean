/-
  Numbers of five limbs of 26 bits, as whole numbers: carrying, products modulo 2^130 - 5. No Go in this text.
  poly.carry and poly.plus, called.
  poly.plus, called.
  poly.rest, called.
-/
import Derived.Test.YtbcgipapbamgfaaDoorLows
import Derived.Test.YtbcgipapbamgfaaDoorUntils
import Derived.Deep.QuietTactic
import Derived.BigQuiet
namespace Go.Proofs.YtbcgipapbamgfaaDoor
/-- The value of five limbs of 26 bits. -/
def v5 (n : Nat → Nat) : Nat := n 0 + n 1 * 67108864 + n 2 * 4503599627370496 + n 3 * 302231454903657293676544 + n 4 * 20282409603651670423947251286016
/-- What goes over into limb i. -/
def cr (n : Nat → Nat) : Nat → Nat
  | 0 => 0
  | i + 1 => (n i + cr n i) / 67108864
/-- The limbs behind i steps of carrying. -/
def cl (n : Nat → Nat) (i j : Nat) : Nat := if j < i then (n j + cr n j) % 67108864 else n j
theorem cl_zero (n : Nat → Nat) : cl n 0 = n := by funext j; simp [cl]
theorem cl_step (n : Nat → Nat) (i : Nat) : put (cl n i) i ((n i + cr n i) % 67108864) = cl n (i + 1) := by
  funext j
  unfold put cl
  by_cases h : j = i
  · subst h; simp
  · rw [if_neg h]
    by_cases h2 : j < i
    · rw [if_pos h2, if_pos (by omega)]
    · rw [if_neg h2, if_neg (by omega)]
theorem cl_lt (n : Nat → Nat) (j : Nat) (h : j < 5) : cl n 5 j < 67108864 := by
  unfold cl; rw [if_pos h]; exact Nat.mod_lt _ (by decide)
theorem cl_val (n : Nat → Nat) : v5 (cl n 5) + cr n 5 * 1361129467683753853853498429727072845824 = v5 n := by
  simp only [v5, cl, cr, Nat.reduceLT, if_true, Nat.zero_lt_succ]
  omega
theorem v5_lt {n : Nat → Nat} (h : ∀ j, j < 5 → n j < 67108864) : v5 n < 1361129467683753853853498429727072845824 := by
  have h0 := h 0 (by decide); have h1 := h 1 (by decide); have h2 := h 2 (by decide); have h3 := h 3 (by decide); have h4 := h 4 (by decide)
  unfold v5; omega
theorem cr_val (n : Nat → Nat) : cr n 5 = v5 n / 1361129467683753853853498429727072845824 := by
  have h1 := cl_val n
  have h2 := v5_lt (cl_lt n)
  omega
theorem cl_mod (n : Nat → Nat) : v5 (cl n 5) = v5 n % 1361129467683753853853498429727072845824 := by
  have h1 := cl_val n
  have h2 := v5_lt (cl_lt n)
  omega
/-- Round t of a product: where, and what. -/
def tpos (t : Nat) : Nat := (t / 5 + t % 5) % 5
def tval (a b : Nat → Nat) (t : Nat) : Nat := if t / 5 + t % 5 < 5 then a (t / 5) * b (t % 5) else a (t / 5) * b (t % 5) * 5
def tm (a b : Nat → Nat) : Nat → Nat → Nat
  | 0 => fun _ => 0
  | t + 1 => put (tm a b t) (tpos t) (tm a b t (tpos t) + tval a b t)
theorem tm25 (a b : Nat → Nat) : v5 (tm a b 25) + 1361129467683753853853498429727072845819 * (a 1 * b 4 + a 2 * b 3 + a 3 * b 2 + a 4 * b 1 + (a 2 * b 4 + a 3 * b 3 + a 4 * b 2) * 67108864 + (a 3 * b 4 + a 4 * b 3) * 4503599627370496 + a 4 * b 4 * 302231454903657293676544) = v5 a * v5 b := by
  simp only [v5, tm, put, tpos, tval, Nat.reduceDiv, Nat.reduceMod, Nat.reduceAdd, Nat.reduceLT, Nat.reduceEqDiff, if_true, if_false, Nat.succ_ne_self]
  grind
theorem tm_mod (a b : Nat → Nat) : v5 (tm a b 25) % 1361129467683753853853498429727072845819 = v5 a * v5 b % 1361129467683753853853498429727072845819 := by
  rw [← tm25 a b, Nat.add_mul_mod_self_left]
theorem tval_le {a b : Nat → Nat} {A B : Nat} (ha : ∀ j, j < 5 → a j ≤ A) (hb : ∀ j, j < 5 → b j ≤ B) (t : Nat) (ht : t < 25) : tval a b t ≤ A * B * 5 := by
  unfold tval
  have h := Nat.mul_le_mul (ha (t / 5) (by omega)) (hb (t % 5) (by omega))
  split <;> omega
theorem tm_le {a b : Nat → Nat} {A B : Nat} (ha : ∀ j, j < 5 → a j ≤ A) (hb : ∀ j, j < 5 → b j ≤ B) (t j : Nat) (ht : t ≤ 25) : tm a b t j ≤ t * (A * B * 5) := by
  induction t generalizing j with
  | zero => simp [tm]
  | succ t ih =>
    have h1 := ih (tpos t) (by omega)
    have h2 := ih j (by omega)
    have h3 := tval_le ha hb t (by omega)
    rw [Nat.succ_mul]
    simp only [tm, put]
    split <;> omega
theorem tm_step (a b : Nat → Nat) (i k : Nat) (_hi : i < 5) (hk : k < 5) : tm a b (5 * i + k + 1) = if i + k < 5 then put (tm a b (5 * i + k)) (i + k) (tm a b (5 * i + k) (i + k) + a i * b k) else put (tm a b (5 * i + k)) (i + k - 5) (tm a b (5 * i + k) (i + k - 5) + a i * b k * 5) := by
  have h1 : (5 * i + k) / 5 = i := by omega
  have h2 : (5 * i + k) % 5 = k := by omega
  show put _ _ _ = _
  unfold tpos tval
  rw [h1, h2]
  split
  · rw [show (i + k) % 5 = i + k by omega]
  · rw [show (i + k) % 5 = i + k - 5 by omega]
/-- One turn of what goes out beyond 2^130. -/
def rndP (n : Nat → Nat) : Nat → Nat := put (cl n 5) 0 (cl n 5 0 + cr n 5 * 5)
theorem rnd_val (n : Nat → Nat) : v5 (rndP n) + cr n 5 * 1361129467683753853853498429727072845819 = v5 n := by
  have h := cl_val n
  rw [← h]
  simp only [v5, rndP, put, Nat.reduceEqDiff, if_true, if_false, Nat.succ_ne_self]
  omega
theorem rnd_mod (n : Nat → Nat) : v5 (rndP n) % 1361129467683753853853498429727072845819 = v5 n % 1361129467683753853853498429727072845819 := by
  rw [← rnd_val n, Nat.add_mul_mod_self_right]
def tmR (a b : Nat → Nat) : Nat → Nat := rndP (rndP (tm a b 25))
theorem tmR_mod (a b : Nat → Nat) : v5 (tmR a b) % 1361129467683753853853498429727072845819 = v5 a * v5 b % 1361129467683753853853498429727072845819 := by
  unfold tmR; rw [rnd_mod, rnd_mod, tm_mod]
theorem cr_le {n : Nat → Nat} {M : Nat} (h : ∀ j, j < 5 → n j ≤ 67108863 * M) (i : Nat) (hi : i ≤ 5) : cr n i ≤ M := by
  induction i with
  | zero => exact Nat.zero_le _
  | succ i ih =>
    have h1 := h i (by omega)
    have h2 := ih (by omega)
    unfold cr; omega
theorem rnd_le {n : Nat → Nat} {M : Nat} (h : ∀ j, j < 5 → n j ≤ 67108863 * M) (j : Nat) (hj : j < 5) : rndP n j ≤ 67108863 + (if j = 0 then 5 * M else 0) := by
  have h1 := cl_lt n j hj
  have h2 := cr_le h 5 (Nat.le_refl _)
  unfold rndP put
  split
  · rename_i e; subst e; omega
  · omega
/-- Limbs as a product answers them. -/
def Sm (n : Nat → Nat) : Prop := n 0 ≤ 67108868 ∧ ∀ j, 0 < j → j < 5 → n j ≤ 67108863
theorem Sm.le {n : Nat → Nat} (h : Sm n) (j : Nat) (hj : j < 5) : n j ≤ 67108868 := by
  rcases Nat.eq_zero_or_pos j with rfl | h0
  · exact h.1
  · have := h.2 j h0 hj; omega
theorem Sm.val {n : Nat → Nat} (h : Sm n) : v5 n < 1361129467683753853853498429727072845829 := by
  have h0 := h.1; have h1 := h.2 1 (by decide) (by decide); have h2 := h.2 2 (by decide) (by decide); have h3 := h.2 3 (by decide) (by decide); have h4 := h.2 4 (by decide) (by decide)
  unfold v5; omega
theorem cr_small {n : Nat → Nat} (h0 : n 0 < 4503599627370496) (h : ∀ j, 0 < j → j < 5 → n j ≤ 67108863) : cr n 5 ≤ 1 := by
  have h1 := h 1 (by decide) (by decide); have h2 := h 2 (by decide) (by decide); have h3 := h 3 (by decide) (by decide); have h4 := h 4 (by decide) (by decide)
  have e1 : cr n 1 < 67108864 := by simp only [cr]; omega
  have e2 : cr n 2 ≤ 1 := by show (n 1 + cr n 1) / 67108864 ≤ 1; omega
  have e3 : cr n 3 ≤ 1 := by show (n 2 + cr n 2) / 67108864 ≤ 1; omega
  have e4 : cr n 4 ≤ 1 := by show (n 3 + cr n 3) / 67108864 ≤ 1; omega
  show (n 4 + cr n 4) / 67108864 ≤ 1; omega
theorem rnd_small {n : Nat → Nat} (h0 : n 0 < 4503599627370496) (h : ∀ j, 0 < j → j < 5 → n j ≤ 67108863) : Sm (rndP n) := by
  have hc := cr_small h0 h
  have h1 := cl_lt n 0 (by decide)
  refine ⟨?_, fun j hj0 hj => ?_⟩
  · unfold rndP; rw [put_same]; omega
  · have := cl_lt n j hj
    unfold rndP; rw [put_other _ _ (by omega)]; omega
theorem tmR_small {a b : Nat → Nat} (ha : ∀ j, j < 5 → a j ≤ 268435456) (hb : ∀ j, j < 5 → b j ≤ 67108864) : Sm (tmR a b) := by
  have h : ∀ j, j < 5 → tm a b 25 j ≤ 67108863 * 33554433000 := fun j _ => by have := tm_le ha hb 25 j (Nat.le_refl _); omega
  refine rnd_small ?_ fun j h0 hj => ?_
  · have := rnd_le h 0 (by decide); rw [if_pos rfl] at this; omega
  · have := rnd_le h j hj; rw [if_neg (by omega)] at this; omega
end Go.Proofs.YtbcgipapbamgfaaDoor
namespace Go.Proofs.YtbcgipapbamgfaaDoor
open Go.RowKit
theorem Tryd.size77 : (Tryd.prog.info? 77).map (·.size) = some 5 := by kernel_rfl
/-- Limbs as a value. -/
abbrev L5 (n : Nat → Nat) : Value := .agg (lst .u64 n 5).toArray
theorem and26 (t : Nat) (h : t < 18446744073709551616) : bits BinOp.and IntKind.u64 (t : Int) 67108863 = ((t % 67108864 : Nat) : Int) := by
  have := u64_and_nat t 67108863 h (by decide)
  rw [show ((67108863 : Nat) : Int) = 67108863 from rfl, show (67108863 : Nat) = 2 ^ 26 - 1 from by decide, Nat.and_two_pow_sub_one_eq_mod] at this
  exact this
theorem Row5.new2 (w : World) (T : Nat → Nat) : RowH ((w.alloc (.cells (lst .u64 T 5).toArray 77)).alloc (.cells #[.int .u64 0, .int .u64 0, .int .u64 0, .int .u64 0, .int .u64 0] 77)) w.heap.size 77 .u64 5 T ∧
    RowH ((w.alloc (.cells (lst .u64 T 5).toArray 77)).alloc (.cells #[.int .u64 0, .int .u64 0, .int .u64 0, .int .u64 0, .int .u64 0] 77)) (w.heap.size + 1) 77 .u64 5 (fun _ => 0) := by
  constructor
  · unfold RowH
    rw [heap_alloc_old _ _ (by simp), heap_alloc_new]
  · have := RowH.new (w.alloc (.cells (lst .u64 T 5).toArray 77)) .u64 5 77
    rw [show (w.alloc (.cells (lst .u64 T 5).toArray 77)).heap.size = w.heap.size + 1 by simp] at this
    exact this
/-- What carry holds: the limbs in block n, the answer's block behind it. -/
def CS (w wr : World) (n : Nat) (F : Nat → Nat) : Prop := RowH wr n 77 .u64 5 F ∧ RowH wr (n + 1) 77 .u64 5 (fun _ => 0) ∧ Ext w wr ∧ w.heap.size ≤ n
theorem CS.set {w wr : World} {n : Nat} {F : Nat → Nat} (h : CS w wr n F) (t b : Nat) : CS w (wr.setCell ⟨n, t, none⟩ (.int .u64 (b : Int))) n (put F t b) := by
  obtain ⟨h1, h2, h3, h4⟩ := h
  exact ⟨h1.set t b, RowH.other (by omega) h2 ⟨_, _, _, h1⟩, Ext.st h4 h3, h4⟩
theorem carry_num {n : Nat → Nat} (hn : ∀ j, j < 5 → n j < 9223372036854775808) (i : Nat) (hi : i < 5) : ∃ v o s q r : Nat, n i = v ∧ cr n i = o ∧ s = v + o ∧ IntKind.u64.wrap ((v : Int) + (o : Int)) = (s : Int) ∧ (s : Int) / 67108864 = (q : Int) ∧ bits BinOp.and IntKind.u64 (s : Int) 67108863 = (r : Int) ∧ q = cr n (i + 1) ∧ r = (n i + cr n i) % 67108864 := by
  have h1 := hn i hi
  have h2 : cr n i ≤ 137438955521 := cr_le (M := 137438955521) (fun j hj => by have := hn j hj; omega) i (Nat.le_of_lt hi)
  refine ⟨_, _, _, (n i + cr n i) / 67108864, (n i + cr n i) % 67108864, rfl, rfl, rfl, ?_, ?_, ?_, rfl, rfl⟩
  · rw [IntKind.wrap_u64]; omega
  · omega
  · exact and26 _ (by omega)
theorem results23 (tmps : Array Value) (w : World) (g : Nat) (T : Nat → Nat) (z : Int) (hp : tmps.getD 2 undef = .pointer (some ⟨g, 0, none⟩)) (h7 : tmps.getD 3 undef = .int .u64 z) (h : RowH w g 77 .u64 5 T) :
    (results Tryd.f61 tmps).run Tryd.prog w = .ok (.tuple #[L5 T, .int .u64 z]) w := by
  have hp' : tmps[2]?.getD undef = .pointer (some ⟨g, 0, none⟩) := by simpa using hp
  have h7' : tmps[3]?.getD undef = .int .u64 z := by simpa using h7
  simp [results, Tryd.results61, hp', h7', asAddr, run_loadVar_row w g 77 77 _ (0, 0) _ h Tryd.underlying77 rfl (by rw [Tryd.size77]; simp [lst_len])]
set_option maxHeartbeats 1000000 in
theorem carry_any (n : Nat → Nat) (hn : ∀ j, j < 5 → n j < 9223372036854775808) (w : World) :
    Calls Tryd.prog 61 #[L5 n] w fun e w' => e = .returned (.tuple #[L5 (cl n 5), .int .u64 (cr n 5 : Nat)]) ∧ Ext w w' := by
  have HN : Hid (∀ j, j < 5 → n j < 9223372036854775808) := hn
  have H0 : Hid (CS w ((w.alloc (.cells (lst .u64 n 5).toArray 77)).alloc (.cells #[.int .u64 0, .int .u64 0, .int .u64 0, .int .u64 0, .int .u64 0] 77)) w.heap.size (cl n 0)) :=
    ⟨by rw [cl_zero]; exact (Row5.new2 w n).1, (Row5.new2 w n).2, ((Ext.refl w).alloc _).alloc _, Nat.le_refl _⟩
  clear hn
  go_enter Tryd.func61, Tryd.ntmps61
  go_wp2_with fail
  generalize (w.alloc (.cells (lst .u64 n 5).toArray 77)).alloc (.cells #[.int .u64 0, .int .u64 0, .int .u64 0, .int .u64 0, .int .u64 0] 77) = W0 at *
  generalize w.heap.size = m at *
  go_loopw [6, 4] (fun u6 u4 wr => ∃ (i o : Nat), i ≤ 5 ∧ u6 = .int .i64 i ∧ u4 = .int .u64 o ∧ o = cr n i ∧ Hid (CS w wr m (cl n i))) (fun u6 _ _ => 5 - (intOf u6).toNat)
  case atStart => exact ⟨0, 0, by omega, rfl, rfl, rfl, H0⟩
  case round =>
    clear H0
    obtain ⟨i, o, hi5, rfl, rfl, ho, HC⟩ := hrel
    by_cases hil : i < 5
    · have hi1 : (i : Int) < 5 := by omega
      have hi0 : (0 : Int) ≤ (i : Int) := by omega
      obtain ⟨v, o', s, q, r, e1, e2, e3, m1, m2, m3, e4, e5⟩ := carry_num HN.out i hil
      obtain rfl : o = o' := by omega
      have c1 := (HC.out.1.tab.2 i hil)
      have hcl : cl n i i = v := by rw [← e1]; exact if_neg (Nat.lt_irrefl i)
      rw [hcl] at c1
      obtain ⟨c1, f1⟩ := c1
      have HC1 : Hid (CS w (wr.setCell ⟨m, i, none⟩ (.int .u64 (s : Int))) m (put (cl n i) i s)) := HC.out.set i s
      have c2 := (HC1.out.1.tab.2 i hil)
      rw [put_same] at c2
      obtain ⟨c2, f2⟩ := c2
      have HC2 : Hid (CS w ((wr.setCell ⟨m, i, none⟩ (.int .u64 (s : Int))).setCell ⟨m, i, none⟩ (.int .u64 (r : Int))) m (cl n (i + 1))) := by
        have h := HC1.out.set i r
        rw [show put (put (cl n i) i s) i r = cl n (i + 1) by rw [← cl_step, e5]; funext j; unfold put; split <;> rfl] at h
        exact h
      have E4 : Hid (q = cr n (i + 1)) := e4
      clear HC HC1 ho hcl e1 e2 e3 e5 e4
      go_wp2_with fail
      go_roundw
      case rel => exact ⟨i + 1, q, hil, by go_num, rfl, E4.out, HC2⟩
      case measure => simp [intOf]; omega
    · have HI : Hid (i = 5) := (by omega : i = 5)
      have hni : ¬ (i : Int) < 5 := by omega
      rw [HI.out] at HC ho
      have HRa := HC.out.1
      have HRz := HC.out.2.1
      have HE := Ext.row HC.out.2.2.1 (b := m + 1) (Nat.le_succ_of_le HC.out.2.2.2) (lst .u64 (cl n 5) 5).toArray
      have HRr := HRz.row (cl n 5)
      unfold RowH at HRa
      go_wp2_with (first | (refine wpList_load_row rfl 77 _ rfl m rfl 77 (lst .u64 (cl n 5) 5).toArray (0, 0) _ HRa Tryd.underlying77 rfl (by rw [Tryd.size77]; simp [lst_len]) ?_) | (refine wpList_store_row rfl 77 _ _ rfl (m + 1) (lst .u64 (cl n 5) 5).toArray rfl rfl 77 _ HRz (by rw [Tryd.size77]; simp [lst_len]) (by simp [lst_len]) (lst_one _ _ _) ?_))
      exact bodyPost_ret (results23 _ _ (m + 1) _ _ rfl rfl HRr) rfl ⟨rfl, HE⟩
end Go.Proofs.YtbcgipapbamgfaaDoor
namespace Go.Proofs.YtbcgipapbamgfaaDoor
open Go.RowKit
/-- The sum behind i steps. -/
def pl (a b : Nat → Nat) (i j : Nat) : Nat := if j < i then a j + b j else a j
theorem pl_zero (a b : Nat → Nat) : pl a b 0 = a := by funext j; simp [pl]
theorem pl_step (a b : Nat → Nat) (i : Nat) : put (pl a b i) i (a i + b i) = pl a b (i + 1) := by
  funext j
  unfold put pl
  by_cases h : j = i
  · subst h; simp
  · rw [if_neg h]
    by_cases h2 : j < i
    · rw [if_pos h2, if_pos (by omega)]
    · rw [if_neg h2, if_neg (by omega)]
/-- What plus holds: the first number in block n, the second and the answer's block behind it. -/
def PS (w wr : World) (n : Nat) (b F : Nat → Nat) : Prop := RowH wr n 77 .u64 5 F ∧ RowH wr (n + 1) 77 .u64 5 b ∧ RowH wr (n + 2) 77 .u64 5 (fun _ => 0) ∧ Ext w wr ∧ w.heap.size ≤ n
theorem PS.drew {w wr : World} {n : Nat} {b F : Nat → Nat} (h : PS w wr n b F) : PS w wr.drew n b F :=
  have hx : Ext wr wr.drew := (Ext.refl _).drew
  ⟨h.1.ext hx, h.2.1.ext hx, h.2.2.1.ext hx, h.2.2.2.1.trans hx, h.2.2.2.2⟩
theorem PS.set {w wr : World} {n : Nat} {b F : Nat → Nat} (h : PS w wr n b F) (t v : Nat) : PS w (wr.setCell ⟨n, t, none⟩ (.int .u64 (v : Int))) n b (put F t v) := by
  obtain ⟨h1, h2, h3, h4, h5⟩ := h
  exact ⟨h1.set t v, RowH.other (by omega) h2 ⟨_, _, _, h1⟩, RowH.other (by omega) h3 ⟨_, _, _, h1⟩, Ext.st h5 h4, h5⟩
theorem Row5.new3 (w : World) (a b : Nat → Nat) : PS w (((w.alloc (.cells (lst .u64 a 5).toArray 77)).alloc (.cells (lst .u64 b 5).toArray 77)).alloc (.cells #[.int .u64 0, .int .u64 0, .int .u64 0, .int .u64 0, .int .u64 0] 77)) w.heap.size b a := by
  have h := Row5.new2 (w.alloc (.cells (lst .u64 a 5).toArray 77)) b
  rw [show (w.alloc (.cells (lst .u64 a 5).toArray 77)).heap.size = w.heap.size + 1 by simp] at h
  refine ⟨?_, h.1, h.2, (((Ext.refl w).alloc _).alloc _).alloc _, Nat.le_refl _⟩
  have h0 : RowH (w.alloc (.cells (lst .u64 a 5).toArray 77)) w.heap.size 77 .u64 5 a := by unfold RowH; rw [heap_alloc_new]
  exact h0.ext (((Ext.refl _).alloc _).alloc _)
set_option maxHeartbeats 1000000 in
theorem plus_any (a b : Nat → Nat) (hn : ∀ j, j < 5 → a j + b j < 18446744073709551616) (w : World) :
    Calls Tryd.prog 42 #[L5 a, L5 b] w fun e w' => e = .returned (L5 fun j => a j + b j) ∧ Ext w w' := by
  have HN : Hid (∀ j, j < 5 → a j + b j < 18446744073709551616) := hn
  have H0 : Hid (PS w (((w.alloc (.cells (lst .u64 a 5).toArray 77)).alloc (.cells (lst .u64 b 5).toArray 77)).alloc (.cells #[.int .u64 0, .int .u64 0, .int .u64 0, .int .u64 0, .int .u64 0] 77)) w.heap.size b (pl a b 0)) := by
    rw [pl_zero]; exact Row5.new3 w a b
  clear hn
  go_enter Tryd.func42, Tryd.ntmps42
  go_wp2_with fail
  generalize ((w.alloc (.cells (lst .u64 a 5).toArray 77)).alloc (.cells (lst .u64 b 5).toArray 77)).alloc (.cells #[.int .u64 0, .int .u64 0, .int .u64 0, .int .u64 0, .int .u64 0] 77) = W0 at *
  generalize w.heap.size = m at *
  go_loopw [6] (fun u6 wr => ∃ (i : Nat), i ≤ 5 ∧ u6 = .int .i64 i ∧ Hid (PS w wr m b (pl a b i))) (fun u6 _ => 5 - (intOf u6).toNat)
  case atStart => exact ⟨0, by omega, rfl, H0⟩
  case round =>
    clear H0
    obtain ⟨i, hi5, rfl, HC⟩ := hrel
    by_cases hil : i < 5
    · have hi1 : (i : Int) < 5 := by omega
      have hi0 : (0 : Int) ≤ (i : Int) := by omega
      have hb := HN.out i hil
      have HC1 : Hid (PS w wr.drew m b (pl a b i)) := HC.out.drew
      clear HC
      go_wp2_with fail
      refine wp_region_noPanic ?_
      refine wp_region_until (X := 8) (S := fun wx => wx = wr.drew) (by kernel_rfl) ?_
      generalize wr.drew = W3 at *
      have c1 := HC1.out.1.tab.2 i hil
      have c2 := (HC1.out.2.1.tab.2 i hil).1
      have hcl : pl a b i i = a i := if_neg (Nat.lt_irrefl i)
      rw [hcl] at c1
      obtain ⟨c1, f1⟩ := c1
      have hw : IntKind.u64.wrap ((a i : Int) + (b i : Int)) = ((a i + b i : Nat) : Int) := by rw [IntKind.wrap_u64]; omega
      have HC2 : Hid (PS w (W3.setCell ⟨m, i, none⟩ (.int .u64 ((a i + b i : Nat) : Int))) m b (pl a b (i + 1))) := by
        have h := HC1.out.set i (a i + b i)
        rw [pl_step] at h
        exact h
      generalize a i + b i = s at *
      generalize a i = x at *
      generalize b i = y at *
      clear HC1 hcl hb
      refine until_take (i := 0) (v := ?v0) rfl (by kernel_rfl) (by kernel_rfl) (by kernel_rfl) (by kernel_rfl) (by kernel_rfl) (fun _ _ _ h => h) rfl ?hy0 rfl ?rest0
      case hy0 => (intro w hSw; subst hSw; go_simp; try with_reducible rfl)
      try simp only [Act.put, List.setIfInBounds_toArray, List.set_cons_zero, List.set_cons_succ]
      refine until_take (i := 1) (v := ?v1) rfl (by kernel_rfl) (by kernel_rfl) (by kernel_rfl) (by kernel_rfl) (by kernel_rfl) (fun _ _ _ h => h) rfl ?hy1 rfl ?rest1
      case hy1 => (intro w hSw; subst hSw; go_simp; try with_reducible rfl)
      try simp only [Act.put, List.setIfInBounds_toArray, List.set_cons_zero, List.set_cons_succ]
      refine until_take (i := 2) (v := ?v2) rfl (by kernel_rfl) (by kernel_rfl) (by kernel_rfl) (by kernel_rfl) (by kernel_rfl) (fun _ _ _ h => h) rfl ?hy2 rfl ?rest2
      case hy2 => (intro w hSw; subst hSw; go_simp; try with_reducible rfl)
      try simp only [Act.put, List.setIfInBounds_toArray, List.set_cons_zero, List.set_cons_succ]
      refine until_take (i := 3) (v := ?v3) rfl (by kernel_rfl) (by kernel_rfl) (by kernel_rfl) (by kernel_rfl) (by kernel_rfl) (fun _ _ _ h => h) rfl ?hy3 rfl ?rest3
      case hy3 => (intro w hSw; subst hSw; go_simp; try with_reducible rfl)
      try simp only [Act.put, List.setIfInBounds_toArray, List.set_cons_zero, List.set_cons_succ]
      refine until_take (i := 4) (v := ?v4) rfl (by kernel_rfl) (by kernel_rfl) (by kernel_rfl) (by kernel_rfl) (by kernel_rfl) (fun _ _ _ h => h) rfl ?hy4 rfl ?rest4
      case hy4 => (intro w hSw; subst hSw; go_simp; try with_reducible rfl)
      try simp only [Act.put, List.setIfInBounds_toArray, List.set_cons_zero, List.set_cons_succ]
      refine until_take (i := 5) (v := ?v5) rfl (by kernel_rfl) (by kernel_rfl) (by kernel_rfl) (by kernel_rfl) (by kernel_rfl) (fun _ _ _ h => h) rfl ?hy5 rfl ?rest5
      case hy5 => (intro w hSw; subst hSw; go_simp; try with_reducible rfl)
      try simp only [Act.put, List.setIfInBounds_toArray, List.set_cons_zero, List.set_cons_succ]
      refine until_take (i := 6) (v := ?v6) rfl (by kernel_rfl) (by kernel_rfl) (by kernel_rfl) (by kernel_rfl) (by kernel_rfl) (fun _ _ _ h => h) rfl ?hy6 rfl ?rest6
      case hy6 => (intro w hSw; subst hSw; go_simp; try with_reducible rfl)
      try simp only [Act.put, List.setIfInBounds_toArray, List.set_cons_zero, List.set_cons_succ]
      refine until_take (i := 7) (v := ?v7) rfl (by kernel_rfl) (by kernel_rfl) (by kernel_rfl) (by kernel_rfl) (by kernel_rfl) (fun _ _ _ h => h) rfl ?hy7 rfl ?rest7
      case hy7 => (intro w hSw; subst hSw; go_simp; try with_reducible rfl)
      try simp only [Act.put, List.setIfInBounds_toArray, List.set_cons_zero, List.set_cons_succ]
      refine until_last (by kernel_rfl) (by kernel_rfl) rfl rfl (fun K hK => ?_)
      go_simp
      refine hK.out _ _ (NoPanic.normal ?_)
      clear hK K
      go_wp2_with fail
      go_roundw
      case rel => exact ⟨i + 1, hil, by go_num, HC2⟩
      case measure => simp [intOf]; omega
    · have HI : Hid (i = 5) := (by omega : i = 5)
      have hni : ¬ (i : Int) < 5 := by omega
      rw [HI.out] at HC
      have HRa := HC.out.1
      have HF : lst .u64 (pl a b 5) 5 = lst .u64 (fun j => a j + b j) 5 := lst_congr (fun k hk => if_pos hk)
      have HRz := HC.out.2.2.1
      have HE := Ext.row HC.out.2.2.2.1 (b := m + 2) (Nat.le_trans HC.out.2.2.2.2 (Nat.le_add_right _ _)) (lst .u64 (fun j => a j + b j) 5).toArray
      have HRr := HRz.row (fun j => a j + b j)
      unfold RowH at HRa
      rw [HF] at HRa
      clear HF
      go_wp2_with (first | (refine wpList_load_row rfl 77 _ rfl m rfl 77 (lst .u64 (fun j => a j + b j) 5).toArray (0, 0) _ HRa Tryd.underlying77 rfl (by rw [Tryd.size77]; simp [lst_len]) ?_) | (refine wpList_store_row rfl 77 _ _ rfl (m + 2) (lst .u64 (fun j => a j + b j) 5).toArray rfl rfl 77 _ HRz (by rw [Tryd.size77]; simp [lst_len]) (by simp [lst_len]) (lst_one _ _ _) ?_))
      refine bodyPost_ret (v := L5 fun j => a j + b j) (results_cell_row Tryd.results42 _ _ (m + 2) 77 _ (0, 0) _ rfl HRr Tryd.underlying77 rfl (by rw [Tryd.size77]; simp [lst_len])) rfl ⟨rfl, HE⟩
end Go.Proofs.YtbcgipapbamgfaaDoor
namespace Go.Proofs.YtbcgipapbamgfaaDoor
open Go.RowKit
/-- A number in the lowest limb. -/
def one5 (v j : Nat) : Nat := if j = 0 then v else 0
theorem v5_one (n : Nat → Nat) (v : Nat) : v5 (fun j => n j + one5 v j) = v5 n + v := by
  simp only [v5, one5, if_true, Nat.succ_ne_self, if_false, Nat.reduceEqDiff]
  omega
theorem one5_cells (v : Nat) : L5 (one5 v) = .agg #[.int .u64 (v : Int), .int .u64 0, .int .u64 0, .int .u64 0, .int .u64 0] := rfl
/-- What is left of a number. -/
def rs (n : Nat → Nat) : Nat → Nat := cl (fun j => n j + one5 (cr (fun j => n j + one5 5 j) 5 * 5) j) 5
theorem rs_val {n : Nat → Nat} (h : v5 n < 1361129467683753853853498429727072845829) : v5 (rs n) = v5 n % 1361129467683753853853498429727072845819 := by
  unfold rs
  rw [cl_mod, v5_one, cr_val, v5_one]
  by_cases h1 : v5 n + 5 < 1361129467683753853853498429727072845824
  · rw [Nat.div_eq_of_lt h1]; omega
  · rw [show (v5 n + 5) / 1361129467683753853853498429727072845824 = 1 by omega]; omega
theorem rs_lt (n : Nat → Nat) (j : Nat) (h : j < 5) : rs n j < 67108864 := cl_lt _ j h
set_option maxHeartbeats 1000000 in
theorem rest_any (n : Nat → Nat) (hn : ∀ j, j < 5 → n j < 4611686018427387904) (w : World) :
    Calls Tryd.prog 44 #[L5 n] w fun e w' => e = .returned (L5 (rs n)) ∧ Ext w w' := by
  have hcr : cr (fun j => n j + one5 5 j) 5 ≤ 137438955521 := cr_le (fun j hj => by have := hn j hj; unfold one5; split <;> omega) 5 (Nat.le_refl _)
  obtain ⟨q, hq⟩ : ∃ q, cr (fun j => n j + one5 5 j) 5 = q := ⟨_, rfl⟩
  have HRs : Hid (rs n = cl (fun j => n j + one5 (q * 5) j) 5) := by rw [← hq]; rfl
  have HP1 : Hid (∀ W, Calls Tryd.prog 42 #[L5 n, .agg #[.int .u64 5, .int .u64 0, .int .u64 0, .int .u64 0, .int .u64 0]] W fun e w' => e = .returned (L5 fun j => n j + one5 5 j) ∧ Ext W w') :=
    fun W => plus_any n (one5 5) (fun j hj => by have := hn j hj; unfold one5; split <;> omega) W
  have HC1 : Hid (∀ W, Calls Tryd.prog 61 #[L5 fun j => n j + one5 5 j] W fun e w' => e = .returned (.tuple #[L5 (cl (fun j => n j + one5 5 j) 5), .int .u64 (q : Int)]) ∧ Ext W w') := fun W => by
    have := carry_any (fun j => n j + one5 5 j) (fun j hj => by have := hn j hj; unfold one5; split <;> omega) W
    rw [hq] at this
    exact this
  rw [hq] at hcr
  have HP2 : Hid (∀ W, Calls Tryd.prog 42 #[L5 n, .agg #[.int .u64 ((q * 5 : Nat) : Int), .int .u64 0, .int .u64 0, .int .u64 0, .int .u64 0]] W fun e w' => e = .returned (L5 fun j => n j + one5 (q * 5) j) ∧ Ext W w') :=
    fun W => plus_any n (one5 (q * 5)) (fun j hj => by have := hn j hj; unfold one5; split <;> omega) W
  obtain ⟨q2, hq2⟩ : ∃ q2, cr (fun j => n j + one5 (q * 5) j) 5 = q2 := ⟨_, rfl⟩
  have HC2 : Hid (∀ W, Calls Tryd.prog 61 #[L5 fun j => n j + one5 (q * 5) j] W fun e w' => e = .returned (.tuple #[L5 (cl (fun j => n j + one5 (q * 5) j) 5), .int .u64 (q2 : Int)]) ∧ Ext W w') := fun W => by
    have := carry_any (fun j => n j + one5 (q * 5) j) (fun j hj => by have := hn j hj; unfold one5; split <;> omega) W
    rw [hq2] at this
    exact this
  have hm : IntKind.u64.wrap ((q : Int) * 5) = ((q * 5 : Nat) : Int) := by rw [IntKind.wrap_u64]; omega
  generalize q * 5 = q5 at *
  clear hq hq2 hcr hn
  have HR0 := (Row5.new2 w n).1
  have HZ0 := (Row5.new2 w n).2
  have HE0 : Ext w ((w.alloc (.cells (lst .u64 n 5).toArray 77)).alloc (.cells #[.int .u64 0, .int .u64 0, .int .u64 0, .int .u64 0, .int .u64 0] 77)) := ((Ext.refl w).alloc _).alloc _
  rw [← HRs.out] at HC2
  generalize (fun j => n j + one5 5 j) = A1 at *
  generalize (fun j => n j + one5 q5 j) = A2 at *
  generalize cl A1 5 = C1 at *
  generalize rs n = R at *
  clear HRs
  go_enter Tryd.func44, Tryd.ntmps44
  go_wp2_with (first | (refine wpList_load_row rfl 77 _ rfl (w.heap.size) rfl 77 (lst .u64 (n) 5).toArray (0, 0) _ HR0 Tryd.underlying77 rfl (by rw [Tryd.size77]; simp [lst_len]) ?_))
  generalize (w.alloc (.cells (lst .u64 n 5).toArray 77)).alloc (.cells #[.int .u64 0, .int .u64 0, .int .u64 0, .int .u64 0, .int .u64 0] 77) = W0 at *
  generalize hgm : w.heap.size = m at *
  refine (HP1.out _).mono ?_
  rintro e w1 ⟨rfl, HX1⟩
  have HR1 := HR0.ext HX1
  have HZ1 := HZ0.ext HX1
  have HE1 := HE0.trans HX1
  clear HR0 HZ0 HE0 HX1
  go_wp2_with fail
  refine (HC1.out _).mono ?_
  rintro e w2 ⟨rfl, HX2⟩
  have HR2 := HR1.ext HX2
  have HZ2 := HZ1.ext HX2
  have HE2 := HE1.trans HX2
  clear HR1 HZ1 HE1 HX2
  have HA : RowH (w2.alloc (.cells #[.int .u64 0, .int .u64 0, .int .u64 0, .int .u64 0, .int .u64 0] 77)) w2.heap.size 77 .u64 5 (fun _ => 0) := RowH.new w2 .u64 5 77
  have HX3 : Ext w2 ((w2.alloc (.cells #[.int .u64 0, .int .u64 0, .int .u64 0, .int .u64 0, .int .u64 0] 77)).setRow w2.heap.size (lst .u64 C1 5).toArray) := ((Ext.refl w2).alloc _).row (Nat.le_refl _) _
  have HR3 := HR2.ext HX3
  have HZ3 := HZ2.ext HX3
  have HE3 := HE2.trans HX3
  clear HR2 HZ2 HE2 HX3
  go_wp2_with (first | (refine wpList_store_row rfl 77 _ _ rfl (w2.heap.size) (lst .u64 (C1) 5).toArray rfl rfl 77 _ HA (by rw [Tryd.size77]; simp [lst_len]) (by simp [lst_len]) (lst_one _ _ _) ?_) | (refine wpList_load_row rfl 77 _ rfl (m) rfl 77 (lst .u64 (n) 5).toArray (0, 0) _ HR3 Tryd.underlying77 rfl (by rw [Tryd.size77]; simp [lst_len]) ?_))
  clear HA
  generalize (w2.alloc (.cells #[.int .u64 0, .int .u64 0, .int .u64 0, .int .u64 0, .int .u64 0] 77)).setRow w2.heap.size (lst .u64 C1 5).toArray = W3 at *
  refine (HP2.out _).mono ?_
  rintro e w4 ⟨rfl, HX4⟩
  have HR4 := HR3.ext HX4
  have HZ4 := HZ3.ext HX4
  have HE4 := HE3.trans HX4
  clear HR3 HZ3 HE3 HX4
  go_wp2_with fail
  refine (HC2.out _).mono ?_
  rintro e w5 ⟨rfl, HX5⟩
  have HR5 := HR4.ext HX5
  have HZ5 := HZ4.ext HX5
  have HE5 := HE4.trans HX5
  clear HR4 HZ4 HE4 HX5
  have HR6 := HR5.row R
  have HZ6 : RowH (w5.setRow m (lst .u64 R 5).toArray) (m + 1) 77 .u64 5 (fun _ => 0) := (setRow_other w5 m (m + 1) _ (by omega)).trans HZ5
  have HM : w.heap.size ≤ m := Nat.le_of_eq hgm
  have HE6 := Ext.row HE5 HM (lst .u64 R 5).toArray
  have HE7 := Ext.row HE6 (b := m + 1) (Nat.le_succ_of_le HM) (lst .u64 R 5).toArray
  have HR7 := HZ6.row R
  clear HE6 HE5 HZ5 HM
  go_wp2_with (first | (refine wpList_store_row rfl 77 _ _ rfl (m) (lst .u64 (R) 5).toArray rfl rfl 77 _ HR5 (by rw [Tryd.size77]; simp [lst_len]) (by simp [lst_len]) (lst_one _ _ _) ?_) | (refine wpList_load_row rfl 77 _ rfl (m) rfl 77 (lst .u64 (R) 5).toArray (0, 0) _ HR6 Tryd.underlying77 rfl (by rw [Tryd.size77]; simp [lst_len]) ?_) | (refine wpList_store_row rfl 77 _ _ rfl (m + 1) (lst .u64 (R) 5).toArray rfl rfl 77 _ HZ6 (by rw [Tryd.size77]; simp [lst_len]) (by simp [lst_len]) (lst_one _ _ _) ?_))
  refine bodyPost_ret (v := L5 R) (results_cell_row Tryd.results44 _ _ (m + 1) 77 _ (0, 0) _ rfl HR7 Tryd.underlying77 rfl (by rw [Tryd.size77]; simp [lst_len])) rfl ⟨rfl, HE7⟩
end Go.Proofs.YtbcgipapbamgfaaDoor
