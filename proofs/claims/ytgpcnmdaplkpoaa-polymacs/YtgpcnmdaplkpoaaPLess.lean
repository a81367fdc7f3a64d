/-
  The law's own difference of two numbers of 16 bytes (sandglasslaw10.less), called.
-/
import Derived.Test.YtgpcnmdaplkpoaaPFace
namespace Go.Proofs.Ytgpcnmdaplkpoaa
open Go.RowKit
/-- What is borrowed. -/
def bw (a b : Nat → Nat) : Nat → Nat
  | 0 => 0
  | i + 1 => if a i < b i + bw a b i then 1 else 0
/-- The difference's bytes. -/
def df (a b : Nat → Nat) (i : Nat) : Nat := (a i + 256 - b i - bw a b i) % 256
theorem bw_le (a b : Nat → Nat) (i : Nat) : bw a b i ≤ 1 := by
  cases i with
  | zero => exact Nat.zero_le _
  | succ i => unfold bw; split <;> omega
theorem df_lt (a b : Nat → Nat) (i : Nat) : df a b i < 256 := Nat.mod_lt _ (by decide)
theorem df_one {a b : Nat → Nat} (ha : ∀ i, a i < 256) (hb : ∀ i, b i < 256) (i : Nat) : df a b i + b i + bw a b i = a i + 256 * bw a b (i + 1) := by
  have h1 := ha i; have h2 := hb i; have h3 := bw_le a b i
  unfold df
  show _ = a i + 256 * (if a i < b i + bw a b i then 1 else 0)
  split <;> omega
theorem df_val {a b : Nat → Nat} (ha : ∀ i, a i < 256) (hb : ∀ i, b i < 256) : ∀ n, leN (df a b) n + leN b n = leN a n + bw a b n * 2 ^ (8 * n)
  | 0 => rfl
  | n + 1 => by
    have ih := df_val ha hb n
    have h1 := df_one ha hb n
    have e : (2 : Nat) ^ (8 * (n + 1)) = 256 * 2 ^ (8 * n) := by rw [show 8 * (n + 1) = 8 + 8 * n by omega, Nat.pow_add]
    show leN (df a b) n + df a b n * 2 ^ (8 * n) + (leN b n + b n * 2 ^ (8 * n)) = leN a n + a n * 2 ^ (8 * n) + bw a b (n + 1) * 2 ^ (8 * (n + 1))
    rw [e]
    generalize 2 ^ (8 * n) = z at *
    have h2 : (df a b n + b n + bw a b n) * z = (a n + 256 * bw a b (n + 1)) * z := by rw [h1]
    rw [Nat.add_mul, Nat.add_mul, Nat.add_mul] at h2
    have h3 : bw a b (n + 1) * (256 * z) = 256 * bw a b (n + 1) * z := by rw [← Nat.mul_assoc, Nat.mul_comm (bw a b (n + 1)) 256]
    omega
theorem leN_inj {T S : Nat → Nat} (hT : ∀ i, T i < 256) (hS : ∀ i, S i < 256) : ∀ n, leN T n = leN S n → ∀ i, i < n → T i = S i
  | 0, _, i, hi => by omega
  | n + 1, h, i, hi => by
    have h1 := leN_lt hT n
    have h2 := leN_lt hS n
    have hz : 0 < 2 ^ (8 * n) := Nat.pow_pos (by decide)
    have h3 : leN T n + T n * 2 ^ (8 * n) = leN S n + S n * 2 ^ (8 * n) := h
    generalize 2 ^ (8 * n) = z at *
    have e1 : T n = S n := by
      have q1 : (leN T n + T n * z) / z = T n := by rw [Nat.add_mul_div_right _ _ hz, Nat.div_eq_of_lt h1, Nat.zero_add]
      have q2 : (leN S n + S n * z) / z = S n := by rw [Nat.add_mul_div_right _ _ hz, Nat.div_eq_of_lt h2, Nat.zero_add]
      rw [← q1, ← q2, h3]
    rw [e1] at h3
    by_cases e : i = n
    · rw [e]; exact e1
    · exact leN_inj hT hS n (by omega) i (by omega)
theorem leN_bytes (V : Nat) : ∀ n, leN (fun i => V / 2 ^ (8 * i) % 256) n = V % 2 ^ (8 * n)
  | 0 => by show 0 = V % 1; omega
  | n + 1 => by
    show leN (fun i => V / 2 ^ (8 * i) % 256) n + V / 2 ^ (8 * n) % 256 * 2 ^ (8 * n) = _
    rw [leN_bytes V n, show 8 * (n + 1) = 8 * n + 8 by omega, Nat.pow_add, Nat.mod_mul, Nat.mul_comm (2 ^ (8 * n))]
theorem less_num {a b : Nat → Nat} (ha : ∀ i, a i < 256) (hb : ∀ i, b i < 256) (i : Nat) : ∃ x y o o2 v : Nat, ∃ d : Int, a i = x ∧ b i = y ∧ bw a b i = o ∧ bw a b (i + 1) = o2 ∧ df a b i = v ∧
    IntKind.i64.wrap (x : Int) = (x : Int) ∧ IntKind.i64.wrap (y : Int) = (y : Int) ∧ IntKind.i64.wrap ((x : Int) - (y : Int)) = (x : Int) - (y : Int) ∧ IntKind.i64.wrap ((x : Int) - (y : Int) - (o : Int)) = d ∧
    (d < 0 ∧ o2 = 1 ∧ IntKind.i64.wrap (d + 256) = (v : Int) ∨ ¬ d < 0 ∧ o2 = 0 ∧ d = (v : Int)) ∧ (v : Int) % 256 = (v : Int) ∧ IntKind.u8.wrap (v : Int) = (v : Int) := by
  have h1 := ha i; have h2 := hb i; have h3 := bw_le a b i; have h4 := df_lt a b i
  refine ⟨_, _, _, _, _, (a i : Int) - (b i : Int) - (bw a b i : Int), rfl, rfl, rfl, rfl, rfl, ?_, ?_, ?_, ?_, ?_, by omega, ?_⟩
  · rw [IntKind.wrap_i64]; omega
  · rw [IntKind.wrap_i64]; omega
  · rw [IntKind.wrap_i64]; omega
  · rw [IntKind.wrap_i64]; omega
  · by_cases h : a i < b i + bw a b i
    · refine Or.inl ⟨by omega, if_pos h, ?_⟩
      unfold df
      rw [IntKind.wrap_i64]; omega
    · refine Or.inr ⟨by omega, if_neg h, ?_⟩
      unfold df
      omega
  · rw [IntKind.wrap_u8']; omega
/-- The bytes made, the rest 0. -/
def dp (a b : Nat → Nat) (i j : Nat) : Nat := if j < i then df a b j else 0
theorem dp_step (a b : Nat → Nat) (i : Nat) : put (dp a b i) i (df a b i) = dp a b (i + 1) := by
  funext j
  unfold put dp
  by_cases h : j = i
  · rw [if_pos h, if_pos (by omega), h]
  · rw [if_neg h]
    by_cases h2 : j < i
    · rw [if_pos h2, if_pos (by omega)]
    · rw [if_neg h2, if_neg (by omega)]
/-- What less holds. -/
def LS (w wr : World) (n : Nat) (F : Nat → Nat) : Prop := RowH wr n 32 .u8 16 (fun _ => 0) ∧ RowH wr (n + 1) 32 .u8 16 F ∧ Ext w wr ∧ w.heap.size ≤ n
theorem LS.ext {w wr w2 : World} {n : Nat} {F : Nat → Nat} (h : LS w wr n F) (hx : Ext wr w2) : LS w w2 n F := ⟨h.1.ext hx, h.2.1.ext hx, h.2.2.1.trans hx, h.2.2.2⟩
theorem LS.set {w wr : World} {n : Nat} {F : Nat → Nat} (h : LS w wr n F) (t v : Nat) : LS w (wr.setCell ⟨n + 1, t, none⟩ (.int .u8 (v : Int))) n (put F t v) := by
  obtain ⟨h1, h2, h3, h4⟩ := h
  exact ⟨RowH.other (by omega) h1 ⟨_, _, _, h2⟩, h2.set t v, Ext.st (by omega) h3, h4⟩
theorem LS.new (w : World) : LS w ((w.alloc (.cells #[.int .u8 0, .int .u8 0, .int .u8 0, .int .u8 0, .int .u8 0, .int .u8 0, .int .u8 0, .int .u8 0, .int .u8 0, .int .u8 0, .int .u8 0, .int .u8 0, .int .u8 0, .int .u8 0, .int .u8 0, .int .u8 0] 32)).alloc (.cells #[.int .u8 0, .int .u8 0, .int .u8 0, .int .u8 0, .int .u8 0, .int .u8 0, .int .u8 0, .int .u8 0, .int .u8 0, .int .u8 0, .int .u8 0, .int .u8 0, .int .u8 0, .int .u8 0, .int .u8 0, .int .u8 0] 32)) w.heap.size (fun _ => 0) := by
  have h2 := RowH.new (w.alloc (.cells #[.int .u8 0, .int .u8 0, .int .u8 0, .int .u8 0, .int .u8 0, .int .u8 0, .int .u8 0, .int .u8 0, .int .u8 0, .int .u8 0, .int .u8 0, .int .u8 0, .int .u8 0, .int .u8 0, .int .u8 0, .int .u8 0] 32)) .u8 16 32
  rw [show (w.alloc (.cells #[.int .u8 0, .int .u8 0, .int .u8 0, .int .u8 0, .int .u8 0, .int .u8 0, .int .u8 0, .int .u8 0, .int .u8 0, .int .u8 0, .int .u8 0, .int .u8 0, .int .u8 0, .int .u8 0, .int .u8 0, .int .u8 0] 32)).heap.size = w.heap.size + 1 by simp] at h2
  exact ⟨(RowH.new w .u8 16 32).ext ((Ext.refl _).alloc _), h2, ((Ext.refl w).alloc _).alloc _, Nat.le_refl _⟩
set_option maxHeartbeats 1000000 in
theorem less_any (a b : ByteArray) (ha : a.size = 16) (hb : b.size = 16) (w : World) :
    Calls Try.prog 12 #[.string a, .string b] w fun e w' => e = .returned (.agg (lst .u8 (df (sb a) (sb b)) 16).toArray) ∧ Ext w w' := by
  have HN : Hid (∀ i, ∃ x y o o2 v : Nat, ∃ d : Int, sb a i = x ∧ sb b i = y ∧ bw (sb a) (sb b) i = o ∧ bw (sb a) (sb b) (i + 1) = o2 ∧ df (sb a) (sb b) i = v ∧
    IntKind.i64.wrap (x : Int) = (x : Int) ∧ IntKind.i64.wrap (y : Int) = (y : Int) ∧ IntKind.i64.wrap ((x : Int) - (y : Int)) = (x : Int) - (y : Int) ∧ IntKind.i64.wrap ((x : Int) - (y : Int) - (o : Int)) = d ∧
    (d < 0 ∧ o2 = 1 ∧ IntKind.i64.wrap (d + 256) = (v : Int) ∨ ¬ d < 0 ∧ o2 = 0 ∧ d = (v : Int)) ∧ (v : Int) % 256 = (v : Int) ∧ IntKind.u8.wrap (v : Int) = (v : Int)) := less_num (sb_lt a) (sb_lt b)
  have HSt : Hid (∀ i, put (dp (sb a) (sb b) i) i (df (sb a) (sb b) i) = dp (sb a) (sb b) (i + 1)) := dp_step _ _
  have HEnd : Hid (lst .u8 (dp (sb a) (sb b) 16) 16 = lst .u8 (df (sb a) (sb b)) 16) := lst_congr (fun k hk => if_pos hk)
  have H0 : Hid (LS w ((w.alloc (.cells #[.int .u8 0, .int .u8 0, .int .u8 0, .int .u8 0, .int .u8 0, .int .u8 0, .int .u8 0, .int .u8 0, .int .u8 0, .int .u8 0, .int .u8 0, .int .u8 0, .int .u8 0, .int .u8 0, .int .u8 0, .int .u8 0] 32)).alloc (.cells #[.int .u8 0, .int .u8 0, .int .u8 0, .int .u8 0, .int .u8 0, .int .u8 0, .int .u8 0, .int .u8 0, .int .u8 0, .int .u8 0, .int .u8 0, .int .u8 0, .int .u8 0, .int .u8 0, .int .u8 0, .int .u8 0] 32)) w.heap.size (dp (sb a) (sb b) 0)) := LS.new w
  generalize hD : dp (sb a) (sb b) = D at *
  generalize hF : df (sb a) (sb b) = F at *
  generalize hO : bw (sb a) (sb b) = O at *
  have HO0 : Hid (O 0 = 0) := by rw [← hO]; rfl
  clear hD hF hO
  go_enter Try.func12, Try.ntmps12
  go_wp2_with fail
  generalize ((w.alloc (.cells #[.int .u8 0, .int .u8 0, .int .u8 0, .int .u8 0, .int .u8 0, .int .u8 0, .int .u8 0, .int .u8 0, .int .u8 0, .int .u8 0, .int .u8 0, .int .u8 0, .int .u8 0, .int .u8 0, .int .u8 0, .int .u8 0] 32)).alloc (.cells #[.int .u8 0, .int .u8 0, .int .u8 0, .int .u8 0, .int .u8 0, .int .u8 0, .int .u8 0, .int .u8 0, .int .u8 0, .int .u8 0, .int .u8 0, .int .u8 0, .int .u8 0, .int .u8 0, .int .u8 0, .int .u8 0] 32)) = W0 at *
  generalize w.heap.size = n at *
  go_loopw [7, 6] (fun u7 u6 wr => ∃ (i o : Nat), i ≤ 16 ∧ u7 = .int .i64 i ∧ u6 = .int .i64 o ∧ Hid (O i = o) ∧ Hid (LS w wr n (D i))) (fun u7 _ _ => 16 - (intOf u7).toNat)
  case atStart => exact ⟨0, 0, by omega, rfl, rfl, HO0, H0⟩
  case round =>
    clear H0
    obtain ⟨i, o, hi16, rfl, rfl, HO, HC⟩ := hrel
    by_cases hil : i < 16
    · have hi1 : (i : Int) < 16 := by omega
      have hi0 : (0 : Int) ≤ (i : Int) := by omega
      have hia : i < a.size := by omega
      have hib : i < b.size := by omega
      have eb1 := sb_at a hia
      have eb2 := sb_at b hib
      obtain ⟨x, y, o', o2, v, d, ex, ey, eo, eo2, ev, m1, m2, m3, m4, hcase, m5, m6⟩ := HN.out i
      obtain rfl : o = o' := by rw [← HO.out, ← eo]
      rw [ex] at eb1
      rw [ey] at eb2
      have HSi := HSt.out i
      rw [ev] at HSi
      have HSi : Hid (put (D i) i v = D (i + 1)) := HSi
      have HO2 : Hid (O (i + 1) = o2) := eo2
      clear ex ey ev eo eo2
      go_wp2_with fail
      go_quiet (fail)
      have HC1 : Hid (LS w (wr.drewN nq) n (D i)) := HC.out.ext ((Ext.refl _).drewN nq)
      clear HC
      generalize wr.drewN nq = W3 at *
      obtain ⟨c1, f1⟩ := HC1.out.2.1.tab.2 i hil
      have HC2 : Hid (LS w (W3.setCell ⟨n + 1, i, none⟩ (.int .u8 (v : Int))) n (D (i + 1))) := by
        have h := HC1.out.set i v
        rw [HSi.out] at h
        exact h
      clear HC1 HSi eb1 eb2 m1 m2 m3 m4
      rcases hcase with ⟨k1, k2, k3⟩ | ⟨k1, k2, k3⟩
      · rw [k2] at HO2
        clear k2
        go_wp2_with fail
        go_roundw
        case rel => exact ⟨i + 1, 1, hil, by go_num, rfl, HO2, by first | exact HC2 | (rw [m5]; exact HC2) | (rw [m6]; exact HC2)⟩
        case measure => simp [intOf]; omega
      · rw [k2] at HO2
        clear k2
        rw [k3] at k1 ⊢
        go_wp2_with fail
        go_roundw
        case rel => exact ⟨i + 1, 0, hil, by go_num, rfl, HO2, by first | exact HC2 | (rw [m5]; exact HC2) | (rw [m6]; exact HC2)⟩
        case measure => simp [intOf]; omega
    · have HI : Hid (i = 16) := (by omega : i = 16)
      have hni : ¬ (i : Int) < 16 := by omega
      rw [HI.out] at HC
      have HRa := HC.out.2.1
      have HRz := HC.out.1
      have HE := Ext.row HC.out.2.2.1 (b := n) HC.out.2.2.2 (lst .u8 F 16).toArray
      have HRr := HRz.row F
      unfold RowH at HRa
      rw [HEnd.out] at HRa
      go_wp2_with (first | (refine wpList_load_row rfl 32 _ rfl (n + 1) rfl 32 (lst .u8 (F) 16).toArray (0, 0) _ HRa Try.underlying32 rfl (by rw [Try.size32]; simp [lst_len]) ?_) | (refine wpList_store_row rfl 32 _ _ rfl (n) (lst .u8 (F) 16).toArray rfl rfl 32 _ HRz (by rw [Try.size32]; simp [lst_len]) (by simp [lst_len]) (lst_one _ _ _) ?_))
      refine bodyPost_ret (v := .agg (lst .u8 F 16).toArray) (results_cell_row Try.results12 _ _ n 32 _ (0, 0) _ rfl HRr Try.underlying32 rfl (by rw [Try.size32]; simp [lst_len])) rfl ⟨rfl, HE⟩
end Go.Proofs.Ytgpcnmdaplkpoaa
