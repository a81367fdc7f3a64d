/-
  sandglassref17.Prefix, called; nothing old is turned.
-/
import Derived.Test.YtbkdjpialjbhnaaSb
namespace Go.Proofs.Ytbkdjpialjbhnaa
open Go.RowKit
/-- What Prefix hands out. -/
def PfP (s : ByteArray) (w : World) (e : Ending) (w' : World) : Prop := ∃ u, e = .returned (.tuple #[u, .int .i64 ((pf s 0).2 : Int)]) ∧ w'.ownsRow w.heap.size 9 1 u (pf s 0).1.length (tcs (pf s 0).1) ∧ Ext w w'
theorem news1 (w : World) (v : Value) (t : TypeId) : ∀ j u, [v][j]? = some u → (w.alloc (.cells #[v] t)).cell? (Addr.add ⟨w.heap.size, 0, none⟩ j) = some u := by
  intro j u h
  match j, h with
  | 0, h => simp at h; subst h; simp [Addr.add]
theorem one1 (t : ByteArray) : ∀ u ∈ [Value.string t], u.oneCell' = true := by
  intro u h
  simp at h
  subst h
  rfl
theorem pf_nums (p n S : Nat) (h : n ≤ S - p) (hp : p ≤ S) (hS : S ≤ 100000) : IntKind.i64.wrap ((p : Int) + (n : Int)) = (p : Int) + (n : Int) ∧ p + n ≤ S := by
  refine ⟨?_, ?_⟩ <;> (try rw [IntKind.wrap_i64]) <;> omega
theorem pf_meas {S p n : Nat} (h : 8 ≤ n) (h2 : p + n ≤ S) : S + 1 - (intOf (.int .i64 ((p : Int) + (n : Int)))).toNat < S + 1 - (intOf (.int .i64 (p : Int))).toNat := by simp [intOf]; omega
theorem pf_len {k p n : Nat} (h : k * 8 ≤ p) (hn : 8 ≤ n) : (k + 1) * 8 ≤ p + n := by omega
theorem pf_few {k p S : Nat} (h : k * 8 ≤ p) (hp : p ≤ S) (hs : S ≤ 100000) : k ≤ 100000 := by omega
set_option maxHeartbeats 2000000 in
theorem rprefix_any (s : ByteArray) (hs : s.size ≤ 100000) (w : World) :
    Calls Try.prog 26 #[.string s] w fun e w' => PfP s w e w' := by
  obtain ⟨i0, hi, hz0, hz1, hz2⟩ := info_parts info9
  obtain ⟨S, hS⟩ : ∃ S, s.size = S := ⟨_, rfl⟩
  have HS : Hid (s.size = S) := hS
  rw [hS] at hs
  have Hs : Hid (S ≤ 100000) := hs
  have HN : Hid (∀ p W, Calls Try.prog 34 #[.string (s.extract p S)] W fun e w' => e = .returned (nxtV (s.extract p S)) ∧ Ext W w') := fun p W => rnext_any _ (by rw [ByteArray.size_extract]; omega) W
  have HO : Hid (w.ownsRow w.heap.size 9 1 (.slice none 0 0) 0 (tcs [])) := World.ownsRow_nil _ _ _ _
  have HE0 : Hid (Ext w w) := Ext.refl w
  have HR0 : Hid (pf s 0 = ([] ++ (pf s 0).1, (pf s 0).2)) := rfl
  clear hs
  go_enter Try.func26, Try.ntmps26
  go_wp2
  go_loopw [4, 5] (fun u4 u5 wr => ∃ (p : Nat) (l : List ByteArray), p ≤ S ∧ u5 = .int .i64 p ∧ Hid (wr.ownsRow w.heap.size 9 1 u4 l.length (tcs l)) ∧ Hid (Ext w wr) ∧ Hid (l.length * 8 ≤ p) ∧ Hid (pf s 0 = (l ++ (pf s p).1, (pf s p).2))) (fun _ u5 _ => S + 1 - (intOf u5).toNat)
  case atStart => exact ⟨0, [], Nat.zero_le _, rfl, HO, HE0, Nat.le_refl _, HR0⟩
  case round =>
    obtain ⟨p, l, hp, rfl, HOr, HE, HL, HR⟩ := hrel
    clear HO HE0 HR0
    have h0 : (0 : Int) ≤ (p : Int) := by omega
    have h1 : (p : Int) ≤ (S : Int) := by omega
    by_cases hok : (nxt (s.extract p S)).2.2 = 0
    · obtain ⟨t, n, ht⟩ : ∃ t n, nxt (s.extract p S) = (t, n, 0) := ⟨_, _, by rw [← hok]⟩
      obtain ⟨k1, k2, k4, k5, k6⟩ := nxt_ok ht
      have k3 : n ≤ S - p := by rw [ByteArray.size_extract] at k2; omega
      obtain ⟨q1, q2⟩ := pf_nums p n S k3 hp Hs.out
      have HV : Hid (nxtV (s.extract p S) = .tuple #[.string t, .int .i64 (n : Int), .int .i64 0]) := nxtV_of ht
      have HRn : Hid (pf s 0 = ((l ++ [t]) ++ (pf s (p + n)).1, (pf s (p + n)).2)) := by
        show _ = _
        rw [HR.out, pf_go (by rw [HS.out]; exact ht)]
        simp
      have hl4 : l.length ≤ 100000 := pf_few HL.out hp Hs.out
      have HL2 : Hid ((l ++ [t]).length * 8 ≤ p + n) := by show _ ≤ _; rw [List.length_append]; exact pf_len HL.out k1
      clear hok ht k2 k3 k4 k5 k6 HR
      go_wp2_with fail
      refine (HN.out p _).mono ?_
      rintro e W ⟨rfl, HX⟩
      rw [HV.out]
      have HO1 : Hid (W.ownsRow w.heap.size 9 1 u4 l.length (tcs l)) := own_ext HOr.out HX
      have HE1 : Hid (Ext w W) := HE.out.trans HX
      clear HX HOr HE
      go_wp2_with (first | (at_builtin; refine wpList_append_lies _ rfl _ _ 29 rfl w.heap.size 9 i0 (.string ⟨#[]⟩) 1 16 Try.underlying29 hi hz0 hz1 hz2 rfl (by decide) u4 l.length (tcs l) rfl (HO1.out.alloc _) ⟨W.heap.size, 0, none⟩ 1 1 [.string t] rfl rfl ?c1 ?c3 (by decide) ?c4 ?c5 ?c2 _ rfl ?_))
      case c1 => exact news1 W _ _
      case c3 => exact one1 t
      case c4 => exact ml_small hl4
      case c5 => exact bt_small hl4
      case c2 => exact Nat.le_trans HE1.out.size (by simp)
      intro g cap w2 hown hgrow _ hlt2
      have HO2 : Hid (w2.ownsRow w.heap.size 9 1 (.slice (some ⟨g, 0, none⟩) (l.length + 1) cap) (l ++ [t]).length (tcs (l ++ [t]))) := by
        show World.ownsRow _ _ _ _ _ _ _
        rw [show (l ++ [t]).length = l.length + 1 from by simp, show tcs (l ++ [t]) = tcs l ++ [.string t] from by simp [tcs]]
        exact hown
      have HE2 : Hid (Ext w w2) := Ext.grown (HE1.out.alloc _) (HO1.out.alloc _) (Nat.le_refl _) hgrow
      clear hown hgrow HO1 HE1
      go_wp2
      go_roundw
      case rel => exact ⟨p + n, l ++ [t], q2, by push_cast; rfl, HO2, HE2, HL2, HRn⟩
      case measure => exact pf_meas k1 q2
    · obtain ⟨t, n, m, ht, hm⟩ : ∃ t n m, nxt (s.extract p S) = (t, n, m) ∧ ¬ m = 0 := ⟨_, _, _, rfl, hok⟩
      have HV : Hid (nxtV (s.extract p S) = .tuple #[.string t, .int .i64 (n : Int), .int .i64 m]) := nxtV_of ht
      have HRn : Hid (pf s 0 = (l, p)) := by
        show _ = _
        rw [HR.out, pf_stop (by rw [HS.out]; exact hok)]
        simp
      clear hok ht HR
      go_wp2_with fail
      refine (HN.out p _).mono ?_
      rintro e W ⟨rfl, HX⟩
      rw [HV.out]
      have HO1 : Hid (W.ownsRow w.heap.size 9 1 u4 l.length (tcs l)) := own_ext HOr.out HX
      have HE1 : Hid (Ext w W) := HE.out.trans HX
      clear HX HOr HE
      go_wp2
      refine bodyPost_ret (v := .tuple #[u4, .int .i64 (p : Int)]) (by simp [results, Try.results26, go_sem]) rfl ⟨u4, by rw [HRn.out], ?_, HE1.out⟩
      rw [HRn.out]
      exact HO1.out
end Go.Proofs.Ytbkdjpialjbhnaa
