/-
  sandglassref07.primes, called: the first n primes; nothing old is turned.
-/
import Derived.Test.YtfhglfldmboanaaDoorEx
import Derived.Test.YtfhglfldmboanaaDoorTabMath
import Derived.Test.YtfhglfldmboanaaDoorRefMulw
namespace Go.Proofs.YtfhglfldmboanaaDoor
open Go.RowKit
/-- Numbers as an array's cells. -/
def u64s (l : List Nat) : List Value := l.map fun (n : Nat) => Value.int .u64 (n : Int)
theorem u64s_get {l : List Nat} {i : Nat} (h : i < l.length) : (u64s l)[i]? = some (.int .u64 (l[i] : Int)) := by
  unfold u64s
  rw [List.getElem?_map, List.getElem?_eq_getElem h]
  rfl
theorem u64s_len (l : List Nat) : (u64s l).length = l.length := by unfold u64s; simp
set_option maxHeartbeats 400000 in
theorem primes_any (n : Nat) (hn : n ≤ 64) (w : World) :
    Calls Tryd.prog 24 #[.int .i64 n] w fun e w' => ∃ k v, e = .returned v ∧ (sieve k).length = n ∧ w'.ownsRow w.heap.size 32 1 v n (u64s (sieve k)) ∧ Ext w w' := by
  obtain ⟨i0, hi, hz0, hz1, hz2⟩ := info_parts Tryd.info32
  go_enter Tryd.func24, Tryd.ntmps24
  go_wp2
  go_loopw [3, 4] (fun v x wr => ∃ (k : Nat), (sieve k).length ≤ n ∧ k ≤ 310 ∧ x = .int .u64 ((k : Int) + 2) ∧ wr.ownsRow w.heap.size 32 1 v (sieve k).length (u64s (sieve k)) ∧ Hid (Ext w wr)) (fun _ x _ => 400 - (intOf x).toNat)
  case atStart => exact ⟨0, by simp [sieve], by omega, rfl, World.ownsRow_nil _ _ _ _, Ext.refl _⟩
  case round =>
    obtain ⟨k, hk, hk3, rfl, hown, HE⟩ := hrel
    obtain ⟨p, c, rfl, HF⟩ := own_form hown
    have HF : Hid (∀ j x, (u64s (sieve k))[j]? = some x → ∃ g, p = some ⟨g, 0, none⟩ ∧ wr.cell? ⟨g, j, none⟩ = some x) := HF
    have HO : Hid (wr.ownsRow w.heap.size 32 1 (.slice p (sieve k).length c) (sieve k).length (u64s (sieve k))) := hown
    clear hown
    obtain ⟨L, hL⟩ : ∃ L, (sieve k).length = L := ⟨_, rfl⟩
    have HL : Hid ((sieve k).length = L) := hL
    rw [hL] at hk HO
    rw [hL]
    by_cases hlt : L < n
    · have hki : (L : Int) < (n : Int) := by omega
      have hk310 : k < 310 := sieve_end (by omega)
      have hbd : ∀ q ∈ sieve k, 2 ≤ q ∧ q ≤ k + 1 := sieve_bd k
      clear hL
      go_wp2
      go_loopw [5, 6] (fun b i wq => wq = wr ∧ ∃ (j : Nat), j ≤ L ∧ i = .int .i64 j ∧ b = .bool (!hit (sieve k) (k + 2) j)) (fun _ i _ => L - (intOf i).toNat)
      case atStart => exact ⟨rfl, 0, by omega, rfl, by simp [hit]⟩
      case round =>
        obtain ⟨rfl, j, hj, rfl, rfl⟩ := hrel
        by_cases hjl : j < L
        · have hjs : j < (sieve k).length := by have := HL.out; omega
          obtain ⟨g, rfl, hc⟩ := HF.out j _ (u64s_get hjs)
          have hq := hbd _ (List.getElem_mem hjs)
          have HH : Hid (hit (sieve k) (k + 2) (j + 1) = (hit (sieve k) (k + 2) j || (k + 2) % (sieve k)[j] == 0)) := hit_step hjs
          generalize (sieve k)[j] = q at *
          have hne : (q : Int) ≠ 0 := by omega
          have hrem : ((k : Int) + 2).tmod (q : Int) = (((k + 2) % q : Nat) : Int) := by
            rw [Int.tmod_eq_emod_of_nonneg (by omega)]; push_cast; rfl
          have hji : (j : Int) < (L : Int) := by omega
          have hj0 : (0 : Int) ≤ (j : Int) := by omega
          obtain ⟨r, hr⟩ : ∃ r, (k + 2) % q = r := ⟨_, rfl⟩
          rw [hr] at hrem HH
          by_cases h0 : r = 0
          · subst h0
            go_wp2
            go_roundw
            case rel => exact ⟨trivial, j + 1, by omega, by go_num, by rw [HH.out]; simp⟩
            case measure => simp [intOf]; omega
          · have h1 : ((r : Int) == 0) = false := by simp; omega
            go_wp2
            go_roundw
            case rel => exact ⟨trivial, j + 1, by omega, by go_num, by rw [HH.out]; simp [h0]⟩
            case measure => simp [intOf]; omega
        · obtain rfl : j = L := by omega
          have HA : Hid (hit (sieve k) (k + 2) j = (sieve k).any (fun p => (k + 2) % p == 0)) := by rw [← HL.out]; exact hit_all _ _
          cases hb : hit (sieve k) (k + 2) j
          · have HS : Hid (sieve (k + 1) = sieve k ++ [k + 2]) := by
              show sieve (k + 1) = sieve k ++ [k + 2]
              rw [sieve_step, ← HA.out, hb]; rfl
            have HSZ : Hid (w.heap.size ≤ wr.heap.size) := HE.out.size
            have hj64 : j < 64 := by omega
            go_wp2_with (first | (at_builtin; refine wpList_append_own _ rfl _ _ 48 rfl w.heap.size 32 i0 (.int .u64 0) 1 8 Tryd.underlying48 hi hz0 hz1 hz2 rfl (by decide) _ _ _ rfl (HO.out.alloc _) ⟨wr.heap.size, 0, none⟩ 1 1 [.int .u64 ((k : Int) + 2)] rfl rfl ?c1 ?c2 ?c3 ?c4 ?c5 ?_))
            case c1 =>
              intro j u hj
              match j, hj with
              | 0, hj => simp at hj; subst hj; simp [Addr.add]
            case c2 => intro u hu; simp at hu; subst hu; rfl
            case c3 => unfold maxLen; omega
            case c4 => omega
            case c5 => have := HSZ.out; simp; omega
            · intro v' w1 hown' hgrow _
              have HO2 : Hid (w1.ownsRow w.heap.size 32 1 v' (sieve (k + 1)).length (u64s (sieve (k + 1)))) := by
                rw [HS.out, List.length_append, HL.out, show u64s (sieve k ++ [k + 2]) = u64s (sieve k) ++ [.int .u64 ((k : Int) + 2)] from by unfold u64s; simp]
                exact hown'
              have HE2 : Hid (Ext w w1) := ext_grown (HE.out.alloc _) hgrow (own_at HO.out)
              have HL2 : Hid ((sieve (k + 1)).length = j + 1) := by show _ = _; rw [HS.out, List.length_append, HL.out]; rfl
              clear hown' hgrow
              go_wp2
              go_roundw
              case rel => exact ⟨k + 1, by rw [HL2.out]; omega, by omega, by go_num, HO2.out, HE2⟩
              case measure => simp [intOf]; omega
          · have HS : Hid (sieve (k + 1) = sieve k) := by
              show sieve (k + 1) = sieve k
              rw [sieve_step, ← HA.out, hb]; rfl
            go_wp2
            go_roundw
            case rel => exact ⟨k + 1, by rw [HS.out, HL.out]; omega, by omega, by go_num, by rw [HS.out, HL.out]; exact HO.out, HE⟩
            case measure => simp [intOf]; omega
    · obtain rfl : L = n := by omega
      have hnn : ¬ (L : Int) < (L : Int) := by omega
      go_wp2
      go_ret
      exact ⟨k, _, rfl, HL.out, HO.out, HE.out⟩
end Go.Proofs.YtfhglfldmboanaaDoor
