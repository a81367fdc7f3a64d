/-
  poly.carry and poly.plus, called.
-/
import Derived.Test.YtgpcnmdaplkpoaaRowh
import Derived.Test.YtgpcnmdaplkpoaaUntil
import Derived.Test.YtgpcnmdaplkpoaaPNum
import Derived.Deep.QuietTactic
import Derived.BigQuiet
namespace Go.Proofs.Ytgpcnmdaplkpoaa
open Go.RowKit
theorem Try.size42 : (Try.prog.info? 42).map (·.size) = some 5 := by kernel_rfl
/-- Limbs as a value. -/
abbrev L5 (n : Nat → Nat) : Value := .agg (lst .u64 n 5).toArray
theorem and26 (t : Nat) (h : t < 18446744073709551616) : bits BinOp.and IntKind.u64 (t : Int) 67108863 = ((t % 67108864 : Nat) : Int) := by
  have := u64_and_nat t 67108863 h (by decide)
  rw [show ((67108863 : Nat) : Int) = 67108863 from rfl, show (67108863 : Nat) = 2 ^ 26 - 1 from by decide, Nat.and_two_pow_sub_one_eq_mod] at this
  exact this
theorem Row5.new2 (w : World) (T : Nat → Nat) : RowH ((w.alloc (.cells (lst .u64 T 5).toArray 42)).alloc (.cells #[.int .u64 0, .int .u64 0, .int .u64 0, .int .u64 0, .int .u64 0] 42)) w.heap.size 42 .u64 5 T ∧
    RowH ((w.alloc (.cells (lst .u64 T 5).toArray 42)).alloc (.cells #[.int .u64 0, .int .u64 0, .int .u64 0, .int .u64 0, .int .u64 0] 42)) (w.heap.size + 1) 42 .u64 5 (fun _ => 0) := by
  constructor
  · unfold RowH
    rw [heap_alloc_old _ _ (by simp), heap_alloc_new]
  · have := RowH.new (w.alloc (.cells (lst .u64 T 5).toArray 42)) .u64 5 42
    rw [show (w.alloc (.cells (lst .u64 T 5).toArray 42)).heap.size = w.heap.size + 1 by simp] at this
    exact this
/-- What carry holds: the limbs in block n, the answer's block behind it. -/
def CS (w wr : World) (n : Nat) (F : Nat → Nat) : Prop := RowH wr n 42 .u64 5 F ∧ RowH wr (n + 1) 42 .u64 5 (fun _ => 0) ∧ Ext w wr ∧ w.heap.size ≤ n
theorem CS.set {w wr : World} {n : Nat} {F : Nat → Nat} (h : CS w wr n F) (t b : Nat) : CS w (wr.setCell ⟨n, t, none⟩ (.int .u64 (b : Int))) n (put F t b) := by
  obtain ⟨h1, h2, h3, h4⟩ := h
  exact ⟨h1.set t b, RowH.other (by omega) h2 ⟨_, _, _, h1⟩, Ext.st h4 h3, h4⟩
theorem carry_num {n : Nat → Nat} (hn : ∀ j, j < 5 → n j < 9223372036854775808) (i : Nat) (hi : i < 5) : ∃ v o s q r : Nat, n i = v ∧ cr n i = o ∧ s = v + o ∧ IntKind.u64.wrap ((v : Int) + (o : Int)) = (s : Int) ∧ (s : Int) / 67108864 = (q : Int) ∧ bits BinOp.and IntKind.u64 (s : Int) 67108863 = (r : Int) ∧ q = cr n (i + 1) ∧ r = (n i + cr n i) % 67108864 := by
  have h1 := hn i hi
  have h2 : cr n i ≤ 137438955521 := cr_le (M := 137438955521) (fun j hj => by have := hn j hj; omega) i (Nat.le_of_lt hi)
  refine ⟨_, _, _, (n i + cr n i) / 67108864, (n i + cr n i) % 67108864, rfl, rfl, rfl, ?_, ?_, ?_, rfl, rfl⟩
  · rw [IntKind.wrap_u64]; omega
  · omega
  · exact and26 _ (by omega)
theorem results23 (tmps : Array Value) (w : World) (g : Nat) (T : Nat → Nat) (z : Int) (hp : tmps.getD 2 undef = .pointer (some ⟨g, 0, none⟩)) (h7 : tmps.getD 3 undef = .int .u64 z) (h : RowH w g 42 .u64 5 T) :
    (results Try.f23 tmps).run Try.prog w = .ok (.tuple #[L5 T, .int .u64 z]) w := by
  have hp' : tmps[2]?.getD undef = .pointer (some ⟨g, 0, none⟩) := by simpa using hp
  have h7' : tmps[3]?.getD undef = .int .u64 z := by simpa using h7
  simp [results, Try.results23, hp', h7', asAddr, run_loadVar_row w g 42 42 _ (0, 0) _ h Try.underlying42 rfl (by rw [Try.size42]; simp [lst_len])]
set_option maxHeartbeats 1000000 in
theorem carry_any (n : Nat → Nat) (hn : ∀ j, j < 5 → n j < 9223372036854775808) (w : World) :
    Calls Try.prog 23 #[L5 n] w fun e w' => e = .returned (.tuple #[L5 (cl n 5), .int .u64 (cr n 5 : Nat)]) ∧ Ext w w' := by
  have HN : Hid (∀ j, j < 5 → n j < 9223372036854775808) := hn
  have H0 : Hid (CS w ((w.alloc (.cells (lst .u64 n 5).toArray 42)).alloc (.cells #[.int .u64 0, .int .u64 0, .int .u64 0, .int .u64 0, .int .u64 0] 42)) w.heap.size (cl n 0)) :=
    ⟨by rw [cl_zero]; exact (Row5.new2 w n).1, (Row5.new2 w n).2, ((Ext.refl w).alloc _).alloc _, Nat.le_refl _⟩
  clear hn
  go_enter Try.func23, Try.ntmps23
  go_wp2_with fail
  generalize (w.alloc (.cells (lst .u64 n 5).toArray 42)).alloc (.cells #[.int .u64 0, .int .u64 0, .int .u64 0, .int .u64 0, .int .u64 0] 42) = W0 at *
  generalize w.heap.size = m at *
  go_loopw [6, 4] (fun u6 u4 wr => ∃ (i o : Nat), i ≤ 5 ∧ u6 = .int .i64 i ∧ u4 = .int .u64 o ∧ o = cr n i ∧ Hid (CS w wr m (cl n i))) (fun u6 _ _ => 5 - (intOf u6).toNat)
  case atStart => exact ⟨0, 0, by omega, rfl, rfl, rfl, H0⟩
  case round =>
    clear H0
    obtain ⟨i, o, hi5, rfl, rfl, ho, HC⟩ := hrel
    by_cases hil : i < 5
    · have hi1 : (i : Int) < 5 := by omega
      have hi0 : (0 : Int) ≤ (i : Int) := by omega
      obtain ⟨v, o', s, q, r, e1, e2, e3, m1, m2, m3, e4, e5⟩ := carry_num HN.out i hil
      obtain rfl : o = o' := by omega
      have c1 := (HC.out.1.tab.2 i hil)
      have hcl : cl n i i = v := by rw [← e1]; exact if_neg (Nat.lt_irrefl i)
      rw [hcl] at c1
      obtain ⟨c1, f1⟩ := c1
      have HC1 : Hid (CS w (wr.setCell ⟨m, i, none⟩ (.int .u64 (s : Int))) m (put (cl n i) i s)) := HC.out.set i s
      have c2 := (HC1.out.1.tab.2 i hil)
      rw [put_same] at c2
      obtain ⟨c2, f2⟩ := c2
      have HC2 : Hid (CS w ((wr.setCell ⟨m, i, none⟩ (.int .u64 (s : Int))).setCell ⟨m, i, none⟩ (.int .u64 (r : Int))) m (cl n (i + 1))) := by
        have h := HC1.out.set i r
        rw [show put (put (cl n i) i s) i r = cl n (i + 1) by rw [← cl_step, e5]; funext j; unfold put; split <;> rfl] at h
        exact h
      have E4 : Hid (q = cr n (i + 1)) := e4
      clear HC HC1 ho hcl e1 e2 e3 e5 e4
      go_wp2_with fail
      go_roundw
      case rel => exact ⟨i + 1, q, hil, by go_num, rfl, E4.out, HC2⟩
      case measure => simp [intOf]; omega
    · have HI : Hid (i = 5) := (by omega : i = 5)
      have hni : ¬ (i : Int) < 5 := by omega
      rw [HI.out] at HC ho
      have HRa := HC.out.1
      have HRz := HC.out.2.1
      have HE := Ext.row HC.out.2.2.1 (b := m + 1) (Nat.le_succ_of_le HC.out.2.2.2) (lst .u64 (cl n 5) 5).toArray
      have HRr := HRz.row (cl n 5)
      unfold RowH at HRa
      go_wp2_with (first | (refine wpList_load_row rfl 42 _ rfl m rfl 42 (lst .u64 (cl n 5) 5).toArray (0, 0) _ HRa Try.underlying42 rfl (by rw [Try.size42]; simp [lst_len]) ?_) | (refine wpList_store_row rfl 42 _ _ rfl (m + 1) (lst .u64 (cl n 5) 5).toArray rfl rfl 42 _ HRz (by rw [Try.size42]; simp [lst_len]) (by simp [lst_len]) (lst_one _ _ _) ?_))
      exact bodyPost_ret (results23 _ _ (m + 1) _ _ rfl rfl HRr) rfl ⟨rfl, HE⟩
end Go.Proofs.Ytgpcnmdaplkpoaa
