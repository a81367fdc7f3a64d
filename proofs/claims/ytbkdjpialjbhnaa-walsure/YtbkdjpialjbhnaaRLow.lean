/-
  Small things: bytes to texts, slices of texts, four bytes of a number; sandglassref01.Texts, called. 
-/
import Derived.Test.YtbkdjpialjbhnaaSl
import Derived.Test.YtbkdjpialjbhnaaWMath
import Derived.Deep.QuietTactic
import Derived.BigQuiet
import Derived.Laws.BitsAllLaws
namespace Go.Proofs.Ytbkdjpialjbhnaa
open Go.RowKit
theorem conv4 (w : World) (T : Nat → Nat) (t : TypeId) (c : Nat) {x0 x1 x2 x3 : Int} (h0 : x0 = (T 0 : Int)) (h1 : x1 = (T 1 : Int)) (h2 : x2 = (T 2 : Int)) (h3 : x3 = (T 3 : Int)) :
    (convert 67 9 (.slice (some ⟨w.heap.size, 0, none⟩) 4 c)).run Try.prog (w.alloc (.cells #[.int .u8 x0, .int .u8 x1, .int .u8 x2, .int .u8 x3] t)) = .ok (.string (mkS T 4)) (w.alloc (.cells #[.int .u8 x0, .int .u8 x1, .int .u8 x2, .int .u8 x3] t)) := by
  subst h0 h1 h2 h3
  refine run_lst_string Try.prog 5 67 9 Try.underlying67 Try.underlying5 Try.underlying9 _ T 4 _ ?_ (by decide)
  refine .inr ⟨w.heap.size, 0, c, by rw [lst_len], by simp, by rw [lst_len]; decide, fun j x hj => ?_⟩
  obtain ⟨hk, rfl⟩ := lst_of hj
  rw [World.cell?_alloc_at _ _ _ _ rfl]
  have : j = 0 ∨ j = 1 ∨ j = 2 ∨ j = 3 := by omega
  rcases this with rfl | rfl | rfl | rfl <;> rfl
theorem conv1 (w : World) (T : Nat → Nat) (t : TypeId) (c : Nat) {x0 : Int} (h0 : x0 = (T 0 : Int)) :
    (convert 67 9 (.slice (some ⟨w.heap.size, 0, none⟩) 1 c)).run Try.prog (w.alloc (.cells #[.int .u8 x0] t)) = .ok (.string (mkS T 1)) (w.alloc (.cells #[.int .u8 x0] t)) := by
  subst h0
  refine run_lst_string Try.prog 5 67 9 Try.underlying67 Try.underlying5 Try.underlying9 _ T 1 _ ?_ (by decide)
  refine .inr ⟨w.heap.size, 0, c, by rw [lst_len], by simp, by rw [lst_len]; decide, fun j x hj => ?_⟩
  obtain ⟨hk, rfl⟩ := lst_of hj
  rw [World.cell?_alloc_at _ _ _ _ rfl]
  obtain rfl : j = 0 := by omega
  rfl
/-- The slice v holds n texts L 0 .. . -/
abbrev LiesT (w : World) (v : Value) (n : Nat) (L : Nat → ByteArray) : Prop := Lies w v n 1 (fun k => .string (L k))
/-- The first n texts as a list. -/
def lsT (L : Nat → ByteArray) (n : Nat) : List ByteArray := (List.range n).map L
theorem lsT_succ (L : Nat → ByteArray) (n : Nat) : lsT L (n + 1) = lsT L n ++ [L n] := by simp [lsT, List.range_succ]
set_option maxHeartbeats 400000 in
theorem rsame_any (v u : Value) (n : Nat) (L : Nat → ByteArray) (hn : n ≤ 100000) (w : World) (hv : LiesT w v n L) (hu : LiesT w u n L) :
    Calls Try.prog 17 #[v, u] w fun e w' => e = .returned (.bool true) ∧ Ext w w' := by
  obtain ⟨a, ca, rfl, hv'⟩ := hv
  have HV : Hid (0 < n → ∃ b o, a = some ⟨b, o, none⟩ ∧ b < w.heap.size ∧ ∀ k, k < n * 1 → w.cell? ⟨b, o + k, none⟩ = some (.string (L k))) := hv'
  obtain ⟨c, cc, rfl, hu'⟩ := hu
  have HU : Hid (0 < n → ∃ b o, c = some ⟨b, o, none⟩ ∧ b < w.heap.size ∧ ∀ k, k < n * 1 → w.cell? ⟨b, o + k, none⟩ = some (.string (L k))) := hu'
  clear hv' hu'
  have HE0 : Hid (Ext w w) := Ext.refl w
  go_enter Try.func17, Try.ntmps17
  go_wp2
  go_loopw [5] (fun u5 wr => ∃ i : Nat, i ≤ n ∧ u5 = .int .i64 (i : Int) ∧ Hid (Ext w wr)) (fun u5 _ => n - (intOf u5).toNat)
  case atStart => exact ⟨0, Nat.zero_le _, rfl, HE0⟩
  case round =>
    obtain ⟨k, hk, rfl, HE⟩ := hrel
    clear HE0
    by_cases hlt : k < n
    · have h1 : (k : Int) < (n : Int) := by omega
      have h0 : (0 : Int) ≤ (k : Int) := by omega
      have hw : IntKind.i64.wrap ((k : Int) + 1) = (k : Int) + 1 := by rw [IntKind.wrap_i64]; omega
      obtain ⟨b, o, rfl, hb, hcell⟩ := HV.out (by omega)
      obtain ⟨b', o', rfl, hb', hcell'⟩ := HU.out (by omega)
      have hx := later HE.out (hcell k (by omega))
      have hy := later HE.out (hcell' k (by omega))
      clear hcell hcell'
      go_wp2_with fail
      go_quiet (fail)
      go_wp2
      go_roundw
      case rel => exact ⟨k + 1, hlt, by push_cast; rfl, HE.out.drewN _⟩
      case measure => simp [intOf]; omega
    · obtain rfl : k = n := by omega
      go_wp2
      go_ret
      exact ⟨rfl, HE.out⟩
theorem sb_at (s : ByteArray) {i : Nat} (h : i < s.size) : (s[i]'h).toNat = sb s i := by
  unfold sb
  rw [List.getD_eq_getElem?_getD]
  have h2 : i < s.data.toList.length := by rw [ba_len]; exact h
  rw [List.getElem?_eq_getElem h2]
  rfl
theorem info9 : (Try.prog.info? 9).map (fun i => (i.zero, i.size, i.bytes)) = some (some (.string ⟨#[]⟩), 1, 16) := by kernel_rfl
/-- Texts as cells. -/
def tcs (l : List ByteArray) : List Value := l.map Value.string
theorem tcs_len (l : List ByteArray) : (tcs l).length = l.length := by simp [tcs]
theorem i64_or_nat (a b : Nat) (ha : a < 9223372036854775808) (hb : b < 9223372036854775808) : bits .or .i64 (a : Int) (b : Int) = ((a ||| b : Nat) : Int) := by
  have hx : a ||| b < 2 ^ 63 := Nat.or_lt_two_pow (by omega) (by omega)
  show IntKind.i64.wrap ((BitVec.ofInt 64 (a : Int) ||| BitVec.ofInt 64 (b : Int)).toNat : Int) = _
  rw [BitVec.toNat_or, ofInt_u64 a (by omega), ofInt_u64 b (by omega), IntKind.wrap_i64]
  omega
theorem or24 (a b c d : Nat) (ha : a < 256) (hb : b < 256) (hc : c < 256) (hd : d < 256) : bits .or .i64 (bits .or .i64 (bits .or .i64 ((a : Int) * 16777216) ((b : Int) * 65536)) ((c : Int) * 256)) (d : Int) = ((a * 16777216 + b * 65536 + c * 256 + d : Nat) : Int) := by
  have e1 := i64_or_nat (a * 16777216) (b * 65536) (by omega) (by omega)
  rw [nat_join 24 _ _ (by omega) (by omega)] at e1
  have e2 := i64_or_nat (a * 16777216 + b * 65536) (c * 256) (by omega) (by omega)
  rw [nat_join 16 _ _ (by omega) (by omega)] at e2
  have e3 := i64_or_nat (a * 16777216 + b * 65536 + c * 256) d (by omega) (by omega)
  rw [nat_join 8 _ _ (by omega) (by omega)] at e3
  rw [show ((a : Int) * 16777216) = ((a * 16777216 : Nat) : Int) from by omega, show ((b : Int) * 65536) = ((b * 65536 : Nat) : Int) from by omega, show ((c : Int) * 256) = ((c * 256 : Nat) : Int) from by omega, e1, e2, e3]
theorem ml_small {k : Nat} (h : k ≤ 100000) : k + 1 ≤ maxLen := by unfold maxLen; omega
theorem bt_small {k : Nat} (h : k ≤ 100000) : (k + 1) * 16 ≤ 140737488355328 := by omega
theorem lies_lit (W : World) (xs : List ByteArray) (t : TypeId) (c : Nat) (u : Array Value) (hu : u = (xs.map Value.string).toArray) : LiesT (W.alloc (.cells u t)) (.slice (some ⟨W.heap.size, 0, none⟩) xs.length c) xs.length (fun k => xs.getD k ⟨#[]⟩) := by
  subst hu
  refine ⟨_, c, rfl, fun _ => ⟨W.heap.size, 0, rfl, by simp, fun k hk => ?_⟩⟩
  have hk2 : k < xs.length := by omega
  rw [World.cell?_alloc_at _ _ _ _ rfl]
  simp [hk2]
theorem lsT_getD (xs : List ByteArray) : lsT (fun k => xs.getD k ⟨#[]⟩) xs.length = xs := by
  apply List.ext_getElem?
  intro i
  unfold lsT
  rw [List.getElem?_map]
  by_cases h : i < xs.length
  · rw [List.getElem?_range h]; simp [h]
  · rw [List.getElem?_eq_none (by simp; omega), List.getElem?_eq_none (by omega)]; rfl
theorem toList_nil {s : ByteArray} (h : s.size = 0) : s.toList = [] := by
  rw [ByteArray.toList_eq]
  exact List.eq_nil_of_length_eq_zero (by rw [ba_len]; exact h)
theorem toList_some {s : ByteArray} (h : s.size ≠ 0) : ¬ s.toList = [] := by
  rw [ByteArray.toList_eq]
  intro q
  have := congrArg List.length q
  rw [ba_len] at this
  exact h this
theorem isEmpty_nil {s : ByteArray} (h : s.size = 0) : s.toList.isEmpty = true := by rw [toList_nil h]; rfl
theorem isEmpty_some {s : ByteArray} (h : s.size ≠ 0) : s.toList.isEmpty = false := by
  have := toList_some h
  cases hs : s.toList with
  | nil => exact absurd hs this
  | cons a l => rfl
theorem Lies.get {w : World} {a : Option Addr} {cap n k : Nat} {g : Nat → Value} (h : Lies w (.slice a n cap) n 1 g) (hk : k < n) : ∃ b o, a = some ⟨b, o, none⟩ ∧ b < w.heap.size ∧ w.cell? ⟨b, o + k, none⟩ = some (g k) := by
  obtain ⟨a', cap', hv, hc⟩ := h
  cases hv
  obtain ⟨b, o, ha, hb, hc⟩ := hc (by omega)
  exact ⟨b, o, ha, hb, hc k (by omega)⟩
theorem lp_nums (k n : Nat) (hk : k < n) (hn : n ≤ 100000) : (k : Int) < (n : Int) ∧ (0 : Int) ≤ (k : Int) ∧ IntKind.i64.wrap ((k : Int) + 1) = (k : Int) + 1 := by
  refine ⟨?_, ?_, ?_⟩ <;> (try rw [IntKind.wrap_i64]) <;> omega
theorem lp_meas {k n : Nat} (h : k < n) : n - (intOf (.int .i64 ((k : Int) + 1))).toNat < n - (intOf (.int .i64 (k : Int))).toNat := by simp [intOf]; omega
theorem keepC {W0 wx : World} {p : Addr} {v : Value} (h : Ext W0 wx) (r : W0.cell? p = some v) : Ext W0 wx ∧ wx.cell? p = some v := ⟨h, later h r⟩
theorem liesT_len {w : World} {u : Value} {n : Nat} {L : Nat → ByteArray} (h : LiesT w u n L) : ∃ a c, u = .slice a n c := by
  obtain ⟨a, cap, hv, _⟩ := h
  exact ⟨a, cap, hv⟩
end Go.Proofs.Ytbkdjpialjbhnaa
