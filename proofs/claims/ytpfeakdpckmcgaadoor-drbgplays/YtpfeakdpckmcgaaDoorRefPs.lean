/-
  sandglassref07.mul, called: the product of two numbers of some words of 32 bits; nothing old is turned.
  sandglassref07.primes, called: the first n primes; nothing old is turned.
  sandglassref07.above, called: whether a number of some words is greater than x times 2 to the power of 32 by n; nothing old is turned.
  sandglassref07.root, called: the first 32 bits behind the point of a root; nothing old is turned.
-/
import Derived.Test.YtpfeakdpckmcgaaDoorTabx
import Derived.Test.YtpfeakdpckmcgaaDoorEx
namespace Go.Proofs.YtpfeakdpckmcgaaDoor
open Go.RowKit
theorem Tryd.info37 : (Tryd.prog.info? 37).map (fun i => (i.zero, i.size, i.bytes)) = some (some (.int .u64 0), 1, 8) := by kernel_rfl
set_option maxHeartbeats 1000000 in
theorem mulw_any (A B : Nat → Nat) (la lb : Nat) (ha0 : 0 < la) (ha : la ≤ 4) (hb0 : 0 < lb) (hb : lb ≤ 4) (hA : ∀ k, A k < BW) (hB : ∀ k, B k < BW) (va vb : Value) (w : World) (sa : SlIs w va (lst .u64 A la)) (sb : SlIs w vb (lst .u64 B lb)) :
    Calls Tryd.prog 47 #[va, vb] w fun e w' => ∃ g P, e = .returned (.slice (some ⟨g, 0, none⟩) (la + lb) (la + lb)) ∧ TabN w' g .u64 (la + lb) P ∧ Hid (nvf P (la + lb) = nvf A la * nvf B lb ∧ ∀ k, P k < BW) ∧ Ext w w' := by
  obtain ⟨i0, hi, hz0, hz1, hz2⟩ := info_parts Tryd.info37
  obtain ⟨ba, oa, ca, rfl, hba, Ha⟩ := sa.form ha0
  obtain ⟨bb, ob, cb, rfl, hbb, Hb⟩ := sb.form hb0
  have Ha : Hid (∀ j, j < la → w.cell? ⟨ba, oa + j, none⟩ = some (.int .u64 (A j : Int))) := Ha
  have Hb : Hid (∀ j, j < lb → w.cell? ⟨bb, ob + j, none⟩ = some (.int .u64 (B j : Int))) := Hb
  have hab : IntKind.i64.wrap ((la : Int) + (lb : Int)) = (la : Int) + (lb : Int) := by rw [IntKind.wrap_i64]; omega
  clear sa sb
  go_enter Tryd.func47, Tryd.ntmps47
  go_wp2_with (first | (at_make; refine wpList_make_full _ rfl _ _ 78 rfl w.heap.size 37 i0 (.int .u64 0) 1 Tryd.underlying78 hi hz0 hz1 _ _ _ _ (la + lb) rfl rfl ?m1 ?m2 ?m3 ?m4 ?m5 ?_))
  case m1 => first | rfl | omega | simp
  case m2 => first | rfl | omega | simp
  case m3 => rw [hz2]; omega
  case m4 => unfold maxLen; omega
  case m5 => simp
  intro w1 hown hgrow
  have HT0 : TabN w1 w.heap.size .u64 (la + lb) (fun _ => 0) := own_tab (by rw [made_lst'] at hown; exact hown)
  have HE0 : Hid (Ext w w1) := ext_grown (Ext.refl _) hgrow (by simp)
  have HG : SizeLe w w.heap.size := Nat.le_refl _
  clear hown hgrow hab
  generalize w.heap.size = g at HT0 HG ⊢
  go_wp2
  go_loopw [6] (fun u6 wr => ∃ (i : Nat) (P : Nat → Nat), i ≤ la ∧ u6 = .int .i64 i ∧ TabN wr g .u64 (la + lb) P ∧ Hid (MOut A B P (la + lb) lb i) ∧ Hid (Ext w wr)) (fun u6 _ => la - (intOf u6).toNat)
  case atStart => exact ⟨0, _, by omega, rfl, HT0, MOut.start, HE0⟩
  case round =>
    obtain ⟨i, P0, hil, rfl, HT, HM, HE⟩ := hrel
    clear HT0 HE0
    by_cases hlt : i < la
    · have hi1 : (i : Int) < (la : Int) := by omega
      have hi0 : (0 : Int) ≤ (i : Int) := by omega
      have hPl := HM.out.2.1
      have HI0 : Hid (MIn A B P0 P0 (la + lb) i 0 0) := MIn.start hPl
      clear hPl
      go_wp2
      go_loopw [7, 8] (fun u7 u8 wr => ∃ (j c : Nat) (P : Nat → Nat), j ≤ lb ∧ u8 = .int .i64 j ∧ u7 = .int .u64 c ∧ TabN wr g .u64 (la + lb) P ∧ Hid (MIn A B P0 P (la + lb) i j c) ∧ Hid (Ext w wr)) (fun _ u8 _ => lb - (intOf u8).toNat)
      case atStart => exact ⟨0, 0, P0, by omega, rfl, rfl, HT, HI0, HE⟩
      case round =>
        clear HT HE HI0
        obtain ⟨j, c, P, hjl, rfl, rfl, HT, HI, HE⟩ := hrel
        have hij : IntKind.i64.wrap ((i : Int) + (j : Int)) = (i : Int) + (j : Int) := by rw [IntKind.wrap_i64]; omega
        have hij0 : (0 : Int) ≤ (i : Int) + (j : Int) := by omega
        have hijn : ((i : Int) + (j : Int)).toNat = i + j := by omega
        by_cases hj : j < lb
        · have hj1 : (j : Int) < (lb : Int) := by omega
          have hj0 : (0 : Int) ≤ (j : Int) := by omega
          have hij1 : (i : Int) + (j : Int) < ((la + lb : Nat) : Int) := by omega
          have hij2 : (i : Int) + (j : Int) < (la : Int) + (lb : Int) := by omega
          have ga := later HE.out (Ha.out i hlt)
          have gb := later HE.out (Hb.out j hj)
          obtain ⟨gp, gf⟩ := HT.2 (i + j) (by omega)
          have HS : Hid (MIn A B P0 (put P (i + j) ((P (i + j) + A i * B j + c) % BW)) (la + lb) i (j + 1) ((P (i + j) + A i * B j + c) / BW)) := HI.out.step (by omega) (hA i) (hB j)
          have hb1 := prod_lt (hA i) (hB j) (HI.out.2.1 (i + j)) HI.out.2.2.1
          obtain ⟨m, hm⟩ : ∃ m, A i * B j = m := ⟨_, rfl⟩
          have hw1 : IntKind.u64.wrap ((A i : Int) * (B j : Int)) = (m : Int) := by
            rw [IntKind.wrap_u64, ← hm]; push_cast
            have : ((A i * B j : Nat) : Int) < 18446744073709551616 := by omega
            push_cast at this
            exact Int.emod_eq_of_lt (by exact_mod_cast Nat.zero_le (A i * B j)) this
          rw [hm] at HS hb1
          clear hm
          obtain ⟨t, ht⟩ : ∃ t, P (i + j) + m + c = t := ⟨_, rfl⟩
          have hw2 : IntKind.u64.wrap ((P (i + j) : Int) + (m : Int)) = (P (i + j) : Int) + (m : Int) := by rw [IntKind.wrap_u64]; omega
          have hw3 : IntKind.u64.wrap ((P (i + j) : Int) + (m : Int) + (c : Int)) = (t : Int) := by rw [IntKind.wrap_u64]; omega
          rw [ht] at HS hb1
          have hand := and32 t hb1.1
          have hshr : (t : Int) / 4294967296 = ((t / BW : Nat) : Int) := by unfold BW; omega
          clear ht hb1
          generalize t % BW = r at *
          generalize t / BW = q at *
          generalize P (i + j) = pv at *
          generalize A i = av at *
          generalize B j = bv at *
          go_wp2_with fail
          go_region
          go_wp2
          go_roundw
          case rel => exact ⟨j + 1, q, _, hj, by go_num, rfl, (HT.set (i + j) r).ext (Ext.drew (Ext.refl _)), HS, (Ext.st HG HE.out).drew⟩
          case measure => simp [intOf]; omega
        · obtain rfl : j = lb := by omega
          have hjn : ¬ (j : Int) < (j : Int) := by omega
          have hij1 : (i : Int) + (j : Int) < ((la + j : Nat) : Int) := by omega
          have hij2 : (i : Int) + (j : Int) < (la : Int) + (j : Int) := by omega
          obtain ⟨gp, gf⟩ := HT.2 (i + j) (by omega)
          have HS : Hid (MOut A B (put P (i + j) c) (la + j) j (i + 1)) := HM.out.step HI.out (by omega)
          go_wp2
          go_roundw
          case rel => exact ⟨i + 1, _, hlt, by go_num, HT.set (i + j) c, HS, Ext.st HG HE.out⟩
          case measure => simp [intOf]; omega
    · obtain rfl : i = la := by omega
      have hin : ¬ (i : Int) < (i : Int) := by omega
      go_wp2
      go_ret
      exact ⟨g, rfl, P0, HT, ⟨HM.out.1, HM.out.2.1⟩, HE.out⟩
end Go.Proofs.YtpfeakdpckmcgaaDoor
namespace Go.Proofs.YtpfeakdpckmcgaaDoor
set_option maxRecDepth 10000
open Go.RowKit
/-- Numbers as an array's cells. -/
def u64s (l : List Nat) : List Value := l.map fun (n : Nat) => Value.int .u64 (n : Int)
theorem u64s_get {l : List Nat} {i : Nat} (h : i < l.length) : (u64s l)[i]? = some (.int .u64 (l[i] : Int)) := by
  unfold u64s
  rw [List.getElem?_map, List.getElem?_eq_getElem h]
  rfl
theorem u64s_len (l : List Nat) : (u64s l).length = l.length := by unfold u64s; simp
set_option maxHeartbeats 400000 in
theorem primes_any (n : Nat) (hn : n ≤ 64) (w : World) :
    Calls Tryd.prog 41 #[.int .i64 n] w fun e w' => ∃ k v, e = .returned v ∧ (sieve k).length = n ∧ w'.ownsRow w.heap.size 37 1 v n (u64s (sieve k)) ∧ Ext w w' := by
  obtain ⟨i0, hi, hz0, hz1, hz2⟩ := info_parts Tryd.info37
  go_enter Tryd.func41, Tryd.ntmps41
  go_wp2
  go_loopw [3, 4] (fun v x wr => ∃ (k : Nat), (sieve k).length ≤ n ∧ k ≤ 310 ∧ x = .int .u64 ((k : Int) + 2) ∧ wr.ownsRow w.heap.size 37 1 v (sieve k).length (u64s (sieve k)) ∧ Hid (Ext w wr)) (fun _ x _ => 400 - (intOf x).toNat)
  case atStart => exact ⟨0, by simp [sieve], by omega, rfl, World.ownsRow_nil _ _ _ _, Ext.refl _⟩
  case round =>
    obtain ⟨k, hk, hk3, rfl, hown, HE⟩ := hrel
    obtain ⟨p, c, rfl, HF⟩ := own_form hown
    have HF : Hid (∀ j x, (u64s (sieve k))[j]? = some x → ∃ g, p = some ⟨g, 0, none⟩ ∧ wr.cell? ⟨g, j, none⟩ = some x) := HF
    have HO : Hid (wr.ownsRow w.heap.size 37 1 (.slice p (sieve k).length c) (sieve k).length (u64s (sieve k))) := hown
    clear hown
    obtain ⟨L, hL⟩ : ∃ L, (sieve k).length = L := ⟨_, rfl⟩
    have HL : Hid ((sieve k).length = L) := hL
    rw [hL] at hk HO
    rw [hL]
    by_cases hlt : L < n
    · have hki : (L : Int) < (n : Int) := by omega
      have hk310 : k < 310 := sieve_end (by omega)
      have hbd : ∀ q ∈ sieve k, 2 ≤ q ∧ q ≤ k + 1 := sieve_bd k
      clear hL
      go_wp2
      go_loopw [5, 6] (fun b i wq => wq = wr ∧ ∃ (j : Nat), j ≤ L ∧ i = .int .i64 j ∧ b = .bool (!hit (sieve k) (k + 2) j)) (fun _ i _ => L - (intOf i).toNat)
      case atStart => exact ⟨rfl, 0, by omega, rfl, by simp [hit]⟩
      case round =>
        obtain ⟨rfl, j, hj, rfl, rfl⟩ := hrel
        by_cases hjl : j < L
        · have hjs : j < (sieve k).length := by have := HL.out; omega
          obtain ⟨g, rfl, hc⟩ := HF.out j _ (u64s_get hjs)
          have hq := hbd _ (List.getElem_mem hjs)
          have HH : Hid (hit (sieve k) (k + 2) (j + 1) = (hit (sieve k) (k + 2) j || (k + 2) % (sieve k)[j] == 0)) := hit_step hjs
          generalize (sieve k)[j] = q at *
          have hne : (q : Int) ≠ 0 := by omega
          have hrem : ((k : Int) + 2).tmod (q : Int) = (((k + 2) % q : Nat) : Int) := by
            rw [Int.tmod_eq_emod_of_nonneg (by omega)]; push_cast; rfl
          have hji : (j : Int) < (L : Int) := by omega
          have hj0 : (0 : Int) ≤ (j : Int) := by omega
          obtain ⟨r, hr⟩ : ∃ r, (k + 2) % q = r := ⟨_, rfl⟩
          rw [hr] at hrem HH
          by_cases h0 : r = 0
          · subst h0
            go_wp2
            go_roundw
            case rel => exact ⟨trivial, j + 1, by omega, by go_num, by rw [HH.out]; simp⟩
            case measure => simp [intOf]; omega
          · have h1 : ((r : Int) == 0) = false := by simp; omega
            go_wp2
            go_roundw
            case rel => exact ⟨trivial, j + 1, by omega, by go_num, by rw [HH.out]; simp [h0]⟩
            case measure => simp [intOf]; omega
        · obtain rfl : j = L := by omega
          have HA : Hid (hit (sieve k) (k + 2) j = (sieve k).any (fun p => (k + 2) % p == 0)) := by rw [← HL.out]; exact hit_all _ _
          cases hb : hit (sieve k) (k + 2) j
          · have HS : Hid (sieve (k + 1) = sieve k ++ [k + 2]) := by
              show sieve (k + 1) = sieve k ++ [k + 2]
              rw [sieve_step, ← HA.out, hb]; rfl
            have HSZ : Hid (w.heap.size ≤ wr.heap.size) := HE.out.size
            have hj64 : j < 64 := by omega
            go_wp2_with (first | (at_builtin; refine wpList_append_own _ rfl _ _ 78 rfl w.heap.size 37 i0 (.int .u64 0) 1 8 Tryd.underlying78 hi hz0 hz1 hz2 rfl (by decide) _ _ _ rfl (HO.out.alloc _) ⟨wr.heap.size, 0, none⟩ 1 1 [.int .u64 ((k : Int) + 2)] rfl rfl ?c1 ?c2 ?c3 ?c4 ?c5 ?_))
            case c1 =>
              intro j u hj
              match j, hj with
              | 0, hj => simp at hj; subst hj; simp [Addr.add]
            case c2 => intro u hu; simp at hu; subst hu; rfl
            case c3 => unfold maxLen; omega
            case c4 => omega
            case c5 => have := HSZ.out; simp; omega
            · intro v' w1 hown' hgrow _
              have HO2 : Hid (w1.ownsRow w.heap.size 37 1 v' (sieve (k + 1)).length (u64s (sieve (k + 1)))) := by
                rw [HS.out, List.length_append, HL.out, show u64s (sieve k ++ [k + 2]) = u64s (sieve k) ++ [.int .u64 ((k : Int) + 2)] from by unfold u64s; simp]
                exact hown'
              have HE2 : Hid (Ext w w1) := ext_grown (HE.out.alloc _) hgrow (own_at HO.out)
              have HL2 : Hid ((sieve (k + 1)).length = j + 1) := by show _ = _; rw [HS.out, List.length_append, HL.out]; rfl
              clear hown' hgrow
              go_wp2
              go_roundw
              case rel => exact ⟨k + 1, by rw [HL2.out]; omega, by omega, by go_num, HO2.out, HE2⟩
              case measure => simp [intOf]; omega
          · have HS : Hid (sieve (k + 1) = sieve k) := by
              show sieve (k + 1) = sieve k
              rw [sieve_step, ← HA.out, hb]; rfl
            go_wp2
            go_roundw
            case rel => exact ⟨k + 1, by rw [HS.out, HL.out]; omega, by omega, by go_num, by rw [HS.out, HL.out]; exact HO.out, HE⟩
            case measure => simp [intOf]; omega
    · obtain rfl : L = n := by omega
      have hnn : ¬ (L : Int) < (L : Int) := by omega
      go_wp2
      go_ret
      exact ⟨k, _, rfl, HL.out, HO.out, HE.out⟩
end Go.Proofs.YtpfeakdpckmcgaaDoor
namespace Go.Proofs.YtpfeakdpckmcgaaDoor
open Go.RowKit
set_option maxHeartbeats 1000000 in
theorem above_any (P : Nat → Nat) (x n m : Nat) (hP : ∀ k, P k < BW) (hx : x < BW) (hn : n < m) (hm : m ≤ 8) (v : Value) (w : World) (sv : SlIs w v (lst .u64 P m)) :
    Calls Tryd.prog 48 #[v, .int .u64 (x : Int), .int .i64 (n : Int)] w fun e w' => e = .returned (.bool (decide (x * BW ^ n < nvf P m))) ∧ Ext w w' := by
  obtain ⟨b, o, c, rfl, hb, H0⟩ := sv.form (by omega)
  have H : Hid (∀ j, j < m → w.cell? ⟨b, o + j, none⟩ = some (.int .u64 (P j : Int))) := H0
  clear sv H0
  have hm1 : IntKind.i64.wrap ((m : Int) - 1) = (m : Int) - 1 := by rw [IntKind.wrap_i64]; omega
  go_enter Tryd.func48, Tryd.ntmps48
  go_wp2
  go_loopw [7] (fun u6 wr => wr = w ∧ ∃ (i : Nat), n < i ∧ i ≤ m ∧ u6 = .int .i64 ((i : Int) - 1) ∧ Hid (∀ k, i ≤ k → k < m → P k = 0)) (fun u6 _ => (intOf u6).toNat)
  case atStart => exact ⟨rfl, m, hn, by omega, rfl, fun k h1 h2 => by omega⟩
  case round =>
    obtain ⟨rfl, i, hi1, hi2, rfl, HZ⟩ := hrel
    obtain ⟨i, rfl⟩ : ∃ t, i = t + 1 := ⟨i - 1, by omega⟩
    rw [show (((i + 1 : Nat) : Int) - 1) = (i : Int) from by omega]
    by_cases hlt : n < i
    · have h1 : (n : Int) < (i : Int) := by omega
      have h2 : (i : Int) < (m : Int) := by omega
      have h3 : (0 : Int) ≤ (i : Int) := by omega
      have hc := H.out i (by omega)
      have hsub : IntKind.i64.wrap ((i : Int) - 1) = (i : Int) - 1 := by rw [IntKind.wrap_i64]; omega
      by_cases h0 : P i = 0
      · have HZ2 : Hid (∀ k, i ≤ k → k < m → P k = 0) := fun k g1 g2 => by
          by_cases e : k = i
          · subst e; exact h0
          · exact HZ.out k (by omega) g2
        rw [h0] at hc
        go_wp2
        go_roundw
        case rel => exact ⟨trivial, i, hlt, by omega, rfl, HZ2⟩
        case measure => simp [intOf]; omega
      · have h4 : (0 : Int) < (P i : Int) := by omega
        have HR : Hid (decide (x * BW ^ n < nvf P m) = true) := decide_eq_true (above_high hx hlt (by omega) (by omega))
        go_wp2
        go_ret
        exact ⟨by rw [HR.out]; rfl, Ext.refl _⟩
    · obtain rfl : i = n := by omega
      have hin : ¬ (i : Int) < (i : Int) := by omega
      have h2 : (i : Int) < (m : Int) := by omega
      have h3 : (0 : Int) ≤ (i : Int) := by omega
      have hc := H.out i (by omega)
      by_cases he : P i = x
      · rw [he] at hc
        have HE : Hid (P i = x) := he
        clear he
        go_wp2
        go_loopw [8] (fun u7 wq => wq = wr ∧ ∃ (j : Nat), j ≤ i ∧ u7 = .int .i64 (j : Int) ∧ Hid (∀ k, k < j → P k = 0)) (fun u7 _ => i - (intOf u7).toNat)
        case atStart => exact ⟨rfl, 0, by omega, rfl, fun k hk => by omega⟩
        case round =>
          obtain ⟨rfl, j, hj, rfl, HL⟩ := hrel
          by_cases hjl : j < i
          · have g1 : (j : Int) < (i : Int) := by omega
            have g2 : (j : Int) < (m : Int) := by omega
            have g3 : (0 : Int) ≤ (j : Int) := by omega
            have hd := H.out j (by omega)
            by_cases h0 : P j = 0
            · have HL2 : Hid (∀ k, k < j + 1 → P k = 0) := fun k g => by
                by_cases e : k = j
                · subst e; exact h0
                · exact HL.out k (by omega)
              rw [h0] at hd
              go_wp2
              go_roundw
              case rel => exact ⟨trivial, j + 1, hjl, by go_num, HL2⟩
              case measure => simp [intOf]; omega
            · have h4 : (0 : Int) < (P j : Int) := by omega
              have HR : Hid (decide (x * BW ^ i < nvf P m) = true) := decide_eq_true (above_low (by omega) HE.out hjl (by omega))
              go_wp2
              go_ret
              exact ⟨by rw [HR.out]; rfl, Ext.refl _⟩
          · obtain rfl : j = i := by omega
            have hjn : ¬ (j : Int) < (j : Int) := by omega
            have HR : Hid (decide (x * BW ^ j < nvf P m) = false) := decide_eq_false (above_not (by omega) HZ.out HE.out HL.out)
            go_wp2
            go_ret
            exact ⟨by rw [HR.out]; rfl, Ext.refl _⟩
      · have hne : ((P i : Int) != (x : Int)) = true := by simp; omega
        have HR : Hid (decide (x < P i) = decide (x * BW ^ i < nvf P m)) := by
          show _ = _
          rw [decide_eq_decide, ← above_mid hP (by omega) HZ.out he]
        go_wp2
        go_ret
        exact ⟨by rw [← HR.out]; rfl, Ext.refl _⟩
end Go.Proofs.YtpfeakdpckmcgaaDoor
namespace Go.Proofs.YtpfeakdpckmcgaaDoor
open Go.RowKit
/-- Two words. -/
def W2 (lo hi : Nat) : Nat → Nat := fun k => if k = 0 then lo else if k = 1 then hi else 0
theorem W2_sl (w : World) (lo hi : Nat) : SlIs (w.alloc (.cells #[.int .u64 (lo : Int), .int .u64 (hi : Int)] 37)) (.slice (some ⟨w.heap.size, 0, none⟩) 2 2) (lst .u64 (W2 lo hi) 2) := by
  refine .inr ⟨w.heap.size, 0, 2, by rw [lst_len], by simp, by rw [lst_len]; decide, fun j x hj => ?_⟩
  obtain ⟨hk, rfl⟩ := lst_of hj
  rw [World.cell?_alloc_at _ _ _ _ rfl]
  have : j = 0 ∨ j = 1 := by omega
  rcases this with rfl | rfl <;> rfl
theorem W2_val (t : Nat) : nvf (W2 (t % BW) (t / BW)) 2 = t := by
  show (0 + t % BW * BW ^ 0) + t / BW * BW ^ 1 = t
  rw [Nat.pow_zero, Nat.pow_one, Nat.mul_one, Nat.zero_add, Nat.mul_comm]
  have := Nat.div_add_mod t BW
  omega
theorem W2_lt {t : Nat} (h : t < 2 ^ 40) : ∀ k, W2 (t % BW) (t / BW) k < BW := by
  intro k
  unfold W2
  split
  · exact Nat.mod_lt _ (by decide)
  · split
    · rw [show (2 : Nat) ^ 40 = 1099511627776 from by decide] at h
      unfold BW
      omega
    · decide
theorem root_or (x p s k : Nat) (hs : s < 40) (hk : k = 39 - s) : bits BinOp.or IntKind.u64 ((rootN x p s : Nat) : Int) (IntKind.u64.wrap (2 ^ k)) = ((rootN x p s + 2 ^ k : Nat) : Int) ∧ rootN x p s + 2 ^ k < 2 ^ 41 := by
  obtain ⟨h1, h2⟩ := rootN_mod x p s (by omega)
  have hp : (2 : Nat) ^ k ≤ 2 ^ 39 := Nat.pow_le_pow_right (by decide) (by omega)
  have hw : IntKind.u64.wrap (2 ^ k) = ((2 ^ k : Nat) : Int) := by
    have : (2 : Nat) ^ k < 18446744073709551616 := Nat.lt_of_le_of_lt hp (by decide)
    rw [show ((2 : Int) ^ k) = ((2 ^ k : Nat) : Int) from by push_cast; rfl, IntKind.wrap_u64]
    generalize (2 : Nat) ^ k = z at *
    omega
  have e : rootN x p s ||| 2 ^ k = rootN x p s + 2 ^ k := nat_join (k + 1) _ _ (by rw [show k + 1 = 40 - s from by omega]; exact h1) (Nat.pow_lt_pow_right (by decide) (by omega))
  rw [hw, u64_or_nat _ _ (Nat.lt_trans h2 (by decide)) (Nat.lt_of_le_of_lt hp (by decide)), e]
  refine ⟨rfl, ?_⟩
  rw [show (2 : Nat) ^ 39 = 549755813888 from by decide] at hp
  rw [show (2 : Nat) ^ 40 = 1099511627776 from by decide] at h2
  rw [show (2 : Nat) ^ 41 = 2199023255552 from by decide]
  omega
theorem conv32 (r : Nat) : IntKind.u32.wrap (r : Int) = ((r % BW : Nat) : Int) := by rw [IntKind.wrap_u32']; unfold BW; omega
set_option maxHeartbeats 1000000 in
theorem root2_any (x : Nat) (hx : x < 1000) (w : World) :
    Calls Tryd.prog 42 #[.int .u64 (x : Int), .int .i64 2] w fun e w' => e = .returned (.int .u32 ((rootN x 2 40 % BW : Nat) : Int)) ∧ Ext w w' := by
  go_enter Tryd.func42, Tryd.ntmps42
  go_wp2
  go_loopw [5, 6] (fun r k wr => ∃ (s : Nat), s ≤ 40 ∧ r = .int .u64 ((rootN x 2 s : Nat) : Int) ∧ k = .int .i64 (39 - (s : Int)) ∧ Hid (Ext w wr)) (fun _ k _ => (intOf k + 1).toNat)
  case atStart => exact ⟨0, by omega, rfl, rfl, Ext.refl _⟩
  case round =>
    obtain ⟨s, hs, rfl, rfl, HE⟩ := hrel
    by_cases hlt : s < 40
    · obtain ⟨k, hk⟩ : ∃ k : Nat, (39 : Int) - (s : Int) = (k : Int) := ⟨39 - s, by omega⟩
      have hk0 : (0 : Int) ≤ (k : Int) := by omega
      have hk40 : k < 40 := by omega
      have hsub : IntKind.i64.wrap ((k : Int) - 1) = (39 - ((s + 1 : Nat) : Int)) := by rw [IntKind.wrap_i64]; omega
      obtain ⟨hor, hlt41⟩ := root_or x 2 s k hlt (by omega)
      have HR1 : Hid (x * BW ^ 2 < (rootN x 2 s + 2 ^ k) ^ 2 → rootN x 2 (s + 1) = rootN x 2 s) := fun h => by
        rw [rootN]; rw [show 39 - s = k from by omega, if_pos h]
      have HR2 : Hid (¬ x * BW ^ 2 < (rootN x 2 s + 2 ^ k) ^ 2 → rootN x 2 (s + 1) = rootN x 2 s + 2 ^ k) := fun h => by
        rw [rootN]; rw [show 39 - s = k from by omega, if_neg h]
      have HK : Hid (k ≤ 39 ∧ k = 39 - s) := (by omega : k ≤ 39 ∧ k = 39 - s)
      have HB2 : Hid (rootN x 2 s + 2 ^ k < 2 ^ 40 + 2 ^ 40) := (by have := hlt41; rw [show (2 : Nat) ^ 41 = 2 ^ 40 + 2 ^ 40 from by decide] at this; exact this)
      rw [hk]
      clear hk
      obtain ⟨t, ht⟩ : ∃ t, rootN x 2 s + 2 ^ k = t := ⟨_, rfl⟩
      rw [ht] at hor HR1 HR2 hlt41 HB2
      have HTd : Hid (rootN x 2 s + 2 ^ k = t) := ht
      clear ht
      rw [show (2 : Nat) ^ 41 = 2199023255552 from by decide] at hlt41
      have hand := and32 t (by omega)
      have hshr : (t : Int) / 4294967296 = ((t / BW : Nat) : Int) := by unfold BW; omega
      have HWv : Hid (nvf (W2 (t % BW) (t / BW)) 2 = t) := W2_val t
      have HWl : ∀ q, W2 (t % BW) (t / BW) q < BW := by
        intro q
        unfold W2
        split
        · exact Nat.mod_lt _ (by decide)
        · split
          · unfold BW; omega
          · decide
      have HSL := W2_sl wr (t % BW) (t / BW)
      clear hlt41 HB2
      generalize t % BW = lo at *
      generalize t / BW = hi at *
      have HWl : Hid (∀ q, W2 lo hi q < BW) := HWl
      go_wp2_with fail
      refine (mulw_any _ _ 2 2 (by decide) (by decide) (by decide) (by decide) HWl.out HWl.out _ _ _ HSL HSL).mono ?_
      rintro e w1 ⟨g1, P1, rfl, HT, HQ, HX⟩
      have HE2 : Hid (Ext w w1) := (HE.out.alloc _).trans HX
      have HV : Hid (nvf P1 4 = t ^ 2) := by
        show _ = _
        rw [HQ.out.1, HWv.out, Nat.pow_succ, Nat.pow_one]
      go_wp2_with fail
      refine (above_any P1 x 2 4 HQ.out.2 (by unfold BW; omega) (by decide) (by decide) _ _ (HT.slice (by decide))).mono ?_
      rintro e w3 ⟨rfl, HX3⟩
      have HE4 : Hid (Ext w w3) := HE2.out.trans HX3
      rw [HV.out]
      by_cases hc : x * BW ^ 2 < t ^ 2
      · rw [decide_eq_true hc]
        have HN : Hid (rootN x 2 (s + 1) = rootN x 2 s) := HR1.out hc
        clear hc
        go_wp2
        go_roundw
        case rel => exact ⟨s + 1, hlt, by rw [HN.out], rfl, HE4⟩
        case measure => have := HK.out; simp [intOf]; omega
      · rw [decide_eq_false hc]
        have HN : Hid (rootN x 2 (s + 1) = t) := HR2.out hc
        clear hc
        go_wp2
        go_roundw
        case rel => exact ⟨s + 1, hlt, by rw [HN.out], rfl, HE4⟩
        case measure => have := HK.out; simp [intOf]; omega
    · obtain rfl : s = 40 := by omega
      have hz : (39 : Int) - ((40 : Nat) : Int) = -1 := by omega
      rw [hz]
      have hcv := conv32 (rootN x 2 40)
      obtain ⟨q, HQ⟩ : ∃ q, Hid (rootN x 2 40 % BW = q) := ⟨_, rfl⟩
      rw [HQ.out] at hcv
      obtain ⟨r, hr⟩ : ∃ r, rootN x 2 40 = r := ⟨_, rfl⟩
      rw [hr] at hcv
      rw [hr]
      clear hr
      go_wp2
      go_ret
      exact ⟨by rw [HQ.out]; rfl, HE.out⟩
set_option maxHeartbeats 1000000 in
theorem root3_any (x : Nat) (hx : x < 1000) (w : World) :
    Calls Tryd.prog 42 #[.int .u64 (x : Int), .int .i64 3] w fun e w' => e = .returned (.int .u32 ((rootN x 3 40 % BW : Nat) : Int)) ∧ Ext w w' := by
  go_enter Tryd.func42, Tryd.ntmps42
  go_wp2
  go_loopw [5, 6] (fun r k wr => ∃ (s : Nat), s ≤ 40 ∧ r = .int .u64 ((rootN x 3 s : Nat) : Int) ∧ k = .int .i64 (39 - (s : Int)) ∧ Hid (Ext w wr)) (fun _ k _ => (intOf k + 1).toNat)
  case atStart => exact ⟨0, by omega, rfl, rfl, Ext.refl _⟩
  case round =>
    obtain ⟨s, hs, rfl, rfl, HE⟩ := hrel
    by_cases hlt : s < 40
    · obtain ⟨k, hk⟩ : ∃ k : Nat, (39 : Int) - (s : Int) = (k : Int) := ⟨39 - s, by omega⟩
      have hk0 : (0 : Int) ≤ (k : Int) := by omega
      have hk40 : k < 40 := by omega
      have hsub : IntKind.i64.wrap ((k : Int) - 1) = (39 - ((s + 1 : Nat) : Int)) := by rw [IntKind.wrap_i64]; omega
      obtain ⟨hor, hlt41⟩ := root_or x 3 s k hlt (by omega)
      have HR1 : Hid (x * BW ^ 3 < (rootN x 3 s + 2 ^ k) ^ 3 → rootN x 3 (s + 1) = rootN x 3 s) := fun h => by
        rw [rootN]; rw [show 39 - s = k from by omega, if_pos h]
      have HR2 : Hid (¬ x * BW ^ 3 < (rootN x 3 s + 2 ^ k) ^ 3 → rootN x 3 (s + 1) = rootN x 3 s + 2 ^ k) := fun h => by
        rw [rootN]; rw [show 39 - s = k from by omega, if_neg h]
      have HK : Hid (k ≤ 39 ∧ k = 39 - s) := (by omega : k ≤ 39 ∧ k = 39 - s)
      have HB2 : Hid (rootN x 3 s + 2 ^ k < 2 ^ 40 + 2 ^ 40) := (by have := hlt41; rw [show (2 : Nat) ^ 41 = 2 ^ 40 + 2 ^ 40 from by decide] at this; exact this)
      rw [hk]
      clear hk
      obtain ⟨t, ht⟩ : ∃ t, rootN x 3 s + 2 ^ k = t := ⟨_, rfl⟩
      rw [ht] at hor HR1 HR2 hlt41 HB2
      have HTd : Hid (rootN x 3 s + 2 ^ k = t) := ht
      clear ht
      rw [show (2 : Nat) ^ 41 = 2199023255552 from by decide] at hlt41
      have hand := and32 t (by omega)
      have hshr : (t : Int) / 4294967296 = ((t / BW : Nat) : Int) := by unfold BW; omega
      have HWv : Hid (nvf (W2 (t % BW) (t / BW)) 2 = t) := W2_val t
      have HWl : ∀ q, W2 (t % BW) (t / BW) q < BW := by
        intro q
        unfold W2
        split
        · exact Nat.mod_lt _ (by decide)
        · split
          · unfold BW; omega
          · decide
      have HSL := W2_sl wr (t % BW) (t / BW)
      clear hlt41 HB2
      generalize t % BW = lo at *
      generalize t / BW = hi at *
      have HWl : Hid (∀ q, W2 lo hi q < BW) := HWl
      go_wp2_with fail
      refine (mulw_any _ _ 2 2 (by decide) (by decide) (by decide) (by decide) HWl.out HWl.out _ _ _ HSL HSL).mono ?_
      rintro e w1 ⟨g1, P1, rfl, HT, HQ, HX⟩
      have HE2 : Hid (Ext w w1) := (HE.out.alloc _).trans HX
      go_wp2_with fail
      refine (mulw_any _ _ 4 2 (by decide) (by decide) (by decide) (by decide) HQ.out.2 HWl.out _ _ _ (HT.slice (by decide)) (HSL.ext HX)).mono ?_
      rintro e w2 ⟨g2, P2, rfl, HT2, HQ2, HX2⟩
      have HE3 : Hid (Ext w w2) := HE2.out.trans HX2
      clear HX2
      have HV : Hid (nvf P2 6 = t ^ 3) := by
        show _ = _
        rw [HQ2.out.1, HQ.out.1, HWv.out, Nat.pow_succ, Nat.pow_succ, Nat.pow_one]
      go_wp2_with fail
      refine (above_any P2 x 3 6 HQ2.out.2 (by unfold BW; omega) (by decide) (by decide) _ _ (HT2.slice (by decide))).mono ?_
      rintro e w3 ⟨rfl, HX3⟩
      have HE4 : Hid (Ext w w3) := HE3.out.trans HX3
      rw [HV.out]
      by_cases hc : x * BW ^ 3 < t ^ 3
      · rw [decide_eq_true hc]
        have HN : Hid (rootN x 3 (s + 1) = rootN x 3 s) := HR1.out hc
        clear hc
        go_wp2
        go_roundw
        case rel => exact ⟨s + 1, hlt, by rw [HN.out], rfl, HE4⟩
        case measure => have := HK.out; simp [intOf]; omega
      · rw [decide_eq_false hc]
        have HN : Hid (rootN x 3 (s + 1) = t) := HR2.out hc
        clear hc
        go_wp2
        go_roundw
        case rel => exact ⟨s + 1, hlt, by rw [HN.out], rfl, HE4⟩
        case measure => have := HK.out; simp [intOf]; omega
    · obtain rfl : s = 40 := by omega
      have hz : (39 : Int) - ((40 : Nat) : Int) = -1 := by omega
      rw [hz]
      have hcv := conv32 (rootN x 3 40)
      obtain ⟨q, HQ⟩ : ∃ q, Hid (rootN x 3 40 % BW = q) := ⟨_, rfl⟩
      rw [HQ.out] at hcv
      obtain ⟨r, hr⟩ : ∃ r, rootN x 3 40 = r := ⟨_, rfl⟩
      rw [hr] at hcv
      rw [hr]
      clear hr
      go_wp2
      go_ret
      exact ⟨by rw [HQ.out]; rfl, HE.out⟩
end Go.Proofs.YtpfeakdpckmcgaaDoor
