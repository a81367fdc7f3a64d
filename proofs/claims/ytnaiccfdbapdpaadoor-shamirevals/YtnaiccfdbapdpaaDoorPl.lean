/-
  shamir.arePlaces and shamir.number, called: whether shares may stand at these places; a place as a number; nothing old is turned.
-/
import Derived.Test.YtnaiccfdbapdpaaDoorSrt
namespace Go.Proofs.YtnaiccfdbapdpaaDoor
open Go.RowKit
set_option maxHeartbeats 1000000 in
theorem arep_any (v : Value) (n : Nat) (P : Nat → Int) (hn : n ≤ 100) (w : World) (hL : Lies w v n 1 (fun k => .int .i64 (P k))) :
    Calls Tryd.prog 32 #[v] w fun e w' => Ext w w' ∧ ((OkP P n ∧ e = .returned (.bool true)) ∨ (¬ OkP P n ∧ e = .returned (.bool false))) := by
  obtain ⟨a, cap, rfl, hL'⟩ := hL
  have HL : Hid (Lies w (.slice a n cap) n 1 (fun k => .int .i64 (P k))) := ⟨a, cap, rfl, hL'⟩
  clear hL'
  have HS : Hid (Calls Tryd.prog 46 #[.func (.func 60) #[] #[.pointer (some ⟨w.heap.size, 0, none⟩)]] (w.alloc (.cells #[.slice a n cap] 32)) fun e w' => ∃ u Q, e = .returned u ∧ SortOf P Q n ∧ Lies w' u n 1 (fun k => .int .i64 (Q k)) ∧ Ext (w.alloc (.cells #[.slice a n cap] 32)) w') :=
    sorted_any w.heap.size n cap a P (by omega) (w.alloc (.cells #[.slice a n cap] 32)) (by simp) (by simp) (HL.out.ext ((Ext.refl _).alloc _))
  go_enter Tryd.func32, Tryd.ntmps32
  go_wp2_with fail
  refine (vals_any a n cap _).mono ?_
  rintro e w1 ⟨rfl, rfl⟩
  go_wp2_with fail
  refine HS.out.mono ?_
  rintro e w2 ⟨u, Q, rfl, hs, hl, hx⟩
  obtain ⟨a2, cap2, rfl, hl2⟩ := hl
  have HL2 : Hid (Lies w2 (.slice a2 n cap2) n 1 (fun k => .int .i64 (Q k))) := ⟨a2, cap2, rfl, hl2⟩
  have HSo : Hid (SortOf P Q n) := hs
  have HE : Hid (Ext w w2) := ((Ext.refl _).alloc _).trans hx
  have HR0 : Hid (∀ j, j < 0 → ah Q j < Q j ∧ Q j ≤ 2147483648) := fun j h => absurd h (Nat.not_lt_zero j)
  clear hs hl2 hx HS HL
  go_wp2
  go_loopw [3, 10] (fun u3 u10 wr => ∃ k : Nat, k ≤ n ∧ u3 = .int .i64 (ah Q k) ∧ u10 = .int .i64 (k : Int) ∧ Hid (∀ j, j < k → ah Q j < Q j ∧ Q j ≤ 2147483648) ∧ wr = w2) (fun _ u10 _ => n - (intOf u10).toNat)
  case atStart => exact ⟨0, Nat.zero_le _, rfl, rfl, HR0, rfl⟩
  case round =>
    obtain ⟨k, hk, rfl, rfl, HR, rfl⟩ := hrel
    clear HR0
    by_cases hlt : k < n
    · have h1 : (k : Int) < (n : Int) := by omega
      have h0 : (0 : Int) ≤ (k : Int) := by omega
      have hw : IntKind.i64.wrap ((k : Int) + 1) = (k : Int) + 1 := by rw [IntKind.wrap_i64]; omega
      obtain ⟨b, o, rfl, hb, x0⟩ := HL2.out.int hlt
      generalize hah : ah Q k = A at *
      by_cases hlo : Q k ≤ A
      · have HB : Hid (¬ OkP P n) := bad_sorted HSo.out hlt (.inl (by omega))
        go_wp2
        go_ret
        exact ⟨HE.out, .inr ⟨HB.out, rfl⟩⟩
      · by_cases hup : 2147483648 < Q k
        · have HB : Hid (¬ OkP P n) := bad_sorted HSo.out hlt (.inr hup)
          go_wp2
          go_ret
          exact ⟨HE.out, .inr ⟨HB.out, rfl⟩⟩
        · have HR1 : Hid (∀ j, j < k + 1 → ah Q j < Q j ∧ Q j ≤ 2147483648) := fun j hj => by
            by_cases e : j = k
            · subst e; exact ⟨by omega, by omega⟩
            · exact HR.out j (by omega)
          go_wp2
          go_roundw
          case rel => exact ⟨k + 1, hlt, rfl, by push_cast; rfl, HR1, trivial⟩
          case measure => simp [intOf]; omega
    · obtain rfl : k = n := by omega
      have HT : Hid (OkT P k) := ok_sorted HSo.out HR.out
      by_cases hn0 : k = 0
      · subst hn0
        have HB : Hid (¬ OkP P 0) := fun h => absurd h.1 (Nat.lt_irrefl 0)
        go_wp2
        go_ret
        exact ⟨HE.out, .inr ⟨HB.out, rfl⟩⟩
      · have HB : Hid (OkP P k) := ⟨by omega, HT.out⟩
        have hpos : (0 : Int) < (k : Int) := by omega
        go_wp2
        go_ret
        exact ⟨HE.out, .inl ⟨HB.out, by simp; omega⟩⟩
theorem pnum_any (x : Int) (h0 : 0 ≤ x) (hx : x ≤ 9223372036854775807) (w : World) :
    Calls Tryd.prog 25 #[.int .i64 x] w fun e w' => e = .returned (.agg #[.int .u64 x, .int .u64 0, .int .u64 0, .int .u64 0]) ∧ Ext w w' := by
  have hw : IntKind.u64.wrap x = x := by rw [IntKind.wrap_u64]; omega
  go_enter Tryd.func25, Tryd.ntmps25
  go_wp2
  refine bodyPost_ret (v := .agg #[.int .u64 x, .int .u64 0, .int .u64 0, .int .u64 0]) (by simp [results, Tryd.results25, go_sem]) rfl ⟨rfl, ?_⟩
  exact (Ext.refl _).alloc _
end Go.Proofs.YtnaiccfdbapdpaaDoor
