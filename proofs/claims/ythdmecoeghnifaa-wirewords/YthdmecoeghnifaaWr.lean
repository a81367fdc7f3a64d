/-
  wire.Read, called: the texts that the document tells, in new memory; nothing old is turned.
-/
import Derived.Test.YthdmecoeghnifaaClo
namespace Go.Proofs.Ythdmecoeghnifaa
open Go.RowKit
theorem ext_ext (s : ByteArray) {p a b : Nat} (_hb : b ≤ s.size - p) : (s.extract p s.size).extract a b = s.extract (p + a) (p + b) := by
  apply ba_eq
  rw [ba_ext (s.extract p s.size), ba_ext s p, ba_ext s (p + a), List.take_of_length_le (i := s.size - p) (by rw [List.length_drop, ba_len]; omega), List.drop_drop]
  congr 1
  omega
theorem ext_len (s : ByteArray) (p : Nat) : (s.extract p s.size).size = s.size - p := by simp
theorem rd_shift (s : ByteArray) (p : Nat) (hp : p ≤ s.size) : ∀ (m q : Nat), s.size - (p + q) ≤ m → rd s (p + q) = rd (s.extract p s.size) q
  | 0, q, h => by
    rw [rd_end (s := s) (by omega), rd_end (s := s.extract p s.size) (by rw [ext_len]; omega)]
  | m + 1, q, h => by
    by_cases h0 : s.size ≤ p + q
    · rw [rd_end h0, rd_end (s := s.extract p s.size) (by rw [ext_len]; omega)]
    · by_cases h4 : s.size - (p + q) < 4
      · rw [rd_short (s := s) (by omega) h4, rd_short (s := s.extract p s.size) (by rw [ext_len]; omega) (by rw [ext_len]; omega)]
      · have hN : num4 (s.extract p s.size) q = num4 s (p + q) := by
          unfold num4
          rw [sb_extract _ _ _ _ (by omega), sb_extract _ _ _ _ (by omega), sb_extract _ _ _ _ (by omega), sb_extract _ _ _ _ (by omega)]
          simp only [Nat.add_assoc]
        have a1 := rd_one (s := s) (p := p + q) (by omega) h4
        have a2 := rd_one (s := s.extract p s.size) (p := q) (by rw [ext_len]; omega) (by rw [ext_len]; omega)
        have b1 := rd_long (s := s) (p := p + q) (by omega) h4
        have b2 := rd_long (s := s.extract p s.size) (p := q) (by rw [ext_len]; omega) (by rw [ext_len]; omega)
        rw [hN, ext_len] at a2 b2
        generalize num4 s (p + q) = N at *
        by_cases hl : s.size - (p + q + 4) < N
        · rw [b1 hl, b2 (by omega)]
        · rw [a1 hl, a2 (by omega), ext_ext s (by omega), show p + q + 4 + N = p + (q + 4 + N) from by omega, rd_shift s p hp m (q + 4 + N) (by omega), show p + q + 4 = p + (q + 4) from by omega]
/-- One text more, the rest behind it. -/
theorem rd_next (t : ByteArray) (N : Nat) (hn : num4 t 0 = N) (h4 : ¬ t.size < 4) (hN : N ≤ t.size - 4) :
    rd t 0 = (rd ((t.extract 4 t.size).extract N (t.extract 4 t.size).size) 0).map ((t.extract 4 t.size).extract 0 N :: ·) := by
  have a1 := rd_one (s := t) (p := 0) (by omega) (by omega) (by omega)
  have e1 : (t.extract 4 t.size).extract 0 N = t.extract (0 + 4) (0 + 4 + N) := by
    rw [ext_ext t (by omega), Nat.zero_add]
  have e2 : (t.extract 4 t.size).extract N (t.extract 4 t.size).size = t.extract (4 + N) t.size := by
    rw [ext_len, ext_ext t (by omega), show 4 + (t.size - 4) = t.size from by omega]
  have e3 := rd_shift t (4 + N) (by omega) _ 0 (Nat.le_refl _)
  rw [a1, hn, e1, e2, ← e3, show 0 + 4 + N = 4 + N + 0 from by omega]
/-- The numbers of a round of Read. -/
theorem wr_nums (S R N l : Nat) (hs : S ≤ 100000) (hl : l * 4 + S ≤ 100000) (hR : R = S - 4) (h4 : ¬ S < 4) (hN : N ≤ R) : (¬ (R : Int) < (N : Int)) ∧ IntKind.u64.wrap (N : Int) = (N : Int) ∧ IntKind.u64.wrap (R : Int) = (R : Int) ∧ (0 : Int) ≤ (N : Int) ∧ (N : Int) ≤ (R : Int) ∧ N ≤ 100000 ∧ l ≤ 100000 ∧ (l + 1) * 4 + (R - N) ≤ l * 4 + S := by
  refine ⟨by omega, by rw [IntKind.wrap_u64]; omega, by rw [IntKind.wrap_u64]; omega, by omega, by omega, by omega, by omega, by omega⟩
theorem one_cell (W : World) (x : Value) (t : TypeId) : ∀ j u, [x][j]? = some u → (W.alloc (.cells #[x] t)).cell? ((⟨W.heap.size, 0, none⟩ : Addr).add j) = some u := by
  intro j u h
  have hj : j < 1 := by simpa using (List.getElem?_eq_some_iff.1 h).1
  obtain rfl : j = 0 := by omega
  obtain rfl : x = u := by simpa using h
  show (W.alloc _).cell? ⟨W.heap.size, 0, none⟩ = _
  rw [World.cell?_alloc_at _ _ _ _ rfl]
  rfl
set_option maxHeartbeats 1000000 in
theorem wread_any (s : ByteArray) (hs : s.size ≤ 100000) (w : World) :
    Calls Try.prog 15 #[.string s] w fun e w' => ∃ u m, e = .returned (.tuple #[u, .int .i64 m]) ∧ ReadR s w' u m ∧ Ext w w' := by
  obtain ⟨i0, hi, hz0, hz1, hz2⟩ := info_parts info9
  have HO : Hid (w.ownsRow w.heap.size 9 1 (.slice none 0 0) 0 (tcs [])) := World.ownsRow_nil _ _ _ _
  have HE0 : Hid (Ext w w) := Ext.refl w
  have HR0 : Hid ((rd s 0).map ([] ++ ·) = rd s 0) := by show _ = _; cases rd s 0 <;> rfl
  have HL0 : Hid (([] : List ByteArray).length * 4 + s.size ≤ s.size) := by show _ ≤ _; simp
  go_enter Try.func15, Try.ntmps15
  go_wp2_with fail
  go_loopw [0, 4] (fun u0 u4 wr => ∃ (t : ByteArray) (l : List ByteArray), u0 = .string t ∧ Hid (wr.ownsRow w.heap.size 9 1 u4 l.length (tcs l)) ∧ Hid (Ext w wr) ∧ Hid (l.length * 4 + t.size ≤ s.size) ∧ Hid ((rd t 0).map (l ++ ·) = rd s 0)) (fun u0 _ _ => match u0 with | .string t => t.size | _ => 0)
  case atStart => exact ⟨s, [], rfl, HO, HE0, HL0, HR0⟩
  case round =>
    obtain ⟨t, l, rfl, HOr, HE, HL, HR⟩ := hrel
    clear HO HE0 HR0 HL0
    by_cases hemp : t.size = 0
    · have q1 := toList_nil hemp
      have q2 := isEmpty_nil hemp
      have HRn : Hid (rd s 0 = some l) := by show _ = _; rw [← HR.out, rd_end (by omega)]; simp
      have HLen : Hid (l.length ≤ s.size) := by have := HL.out; show _ ≤ _; omega
      go_wp2
      refine bodyPost_ret (v := .tuple #[u4, .int .i64 0]) (by simp [results, Try.results15, go_sem]) rfl ⟨u4, 0, rfl, .inl ⟨l, HRn.out, rfl, HLen.out, ?_⟩, HE.out⟩
      refine Lies.own HOr.out fun k hk => ?_
      have hk2 : k < l.length := by omega
      simp [tcs, hk2]
    · have q1 := toList_some hemp
      have q2 := isEmpty_some hemp
      by_cases h4 : t.size < 4
      · have h5 : (t.size : Int) < 4 := by omega
        have HN : Hid (rd s 0 = none) := by rw [← HR.out, rd_short (by omega) (by omega)]; rfl
        go_wp2
        refine bodyPost_ret (v := .tuple #[.slice none 0 0, .int .i64 3]) (by simp [results, Try.results15, go_sem]) rfl ⟨_, 3, rfl, .inr ⟨HN.out, rfl, lies_nil _ _ _⟩, HE.out⟩
      · have h5 : ¬ (t.size : Int) < 4 := by omega
        have h6 : (4 : Int) ≤ (t.size : Int) := by omega
        have HC : Hid (∀ W, Calls Try.prog 30 #[.string t] W fun e w' => e = .returned (.int .u32 (num4 t 0 : Nat)) ∧ w' = W) := fun W => wrl_any t (by omega) W
        obtain ⟨N, HN⟩ : ∃ N, Hid (num4 t 0 = N) := ⟨_, rfl⟩
        have hN : N < 4294967296 := by rw [← HN.out]; exact num4_lt _ _
        rw [HN.out] at HC
        obtain ⟨R, HRr⟩ : ∃ R, Hid (t.extract 4 t.size = R) := ⟨_, rfl⟩
        have hRs : R.size = t.size - 4 := by rw [← HRr.out]; exact ext_len _ _
        have hLl : l.length * 4 + t.size ≤ 100000 := Nat.le_trans HL.out hs
        go_wp2_with fail
        go_quiet ((go_at_call 30; refine Calls.quiet_of_same (HC.out _)))
        rw [HRr.out]
        by_cases hlong : R.size < N
        · have hl : (R.size : Int) < (N : Int) := by omega
          have w1 : IntKind.u64.wrap (N : Int) = (N : Int) := by rw [IntKind.wrap_u64]; omega
          have w2 : IntKind.u64.wrap (R.size : Int) = (R.size : Int) := by rw [IntKind.wrap_u64]; omega
          have HNn : Hid (rd s 0 = none) := by rw [← HR.out, rd_long (s := t) (p := 0) (by omega) (by omega) (by rw [HN.out]; omega)]; rfl
          go_wp2
          refine bodyPost_ret (v := .tuple #[.slice none 0 0, .int .i64 3]) (by simp [results, Try.results15, go_sem]) rfl ⟨_, 3, rfl, .inr ⟨HNn.out, rfl, lies_nil _ _ _⟩, HE.out.drewN _⟩
        · obtain ⟨hl, q3, q4, q5, q6, q7, q8, q9⟩ := wr_nums t.size R.size N l.length (by omega) hLl hRs h4 (by omega)
          obtain ⟨X, HX⟩ : ∃ X, Hid (R.extract 0 N = X) := ⟨_, rfl⟩
          obtain ⟨Y, HY⟩ : ∃ Y, Hid (R.extract N R.size = Y) := ⟨_, rfl⟩
          have hYs : Y.size = R.size - N := by rw [← HY.out]; exact ext_len _ _
          have hXs : X.size ≤ 100000 := by rw [← HX.out]; simp; omega
          have HRn : Hid ((rd Y 0).map ((l ++ [X]) ++ ·) = rd s 0) := by
            show _ = _
            rw [← HR.out, rd_next t N HN.out h4 (by omega), HRr.out, HX.out, HY.out, Option.map_map]
            congr 1
            funext y
            simp
          have HL2 : Hid ((l ++ [X]).length * 4 + Y.size ≤ s.size) := by
            show _ ≤ _
            rw [List.length_append, hYs]
            exact Nat.le_trans q9 HL.out
          have HM : Hid (Y.size < t.size) := (by omega : Y.size < t.size)
          have HO1 : Hid ((wr.drewN nq).ownsRow w.heap.size 9 1 u4 l.length (tcs l)) := own_ext HOr.out (Ext.drewN (Ext.refl _) _)
          have HE1 : Hid (Ext w (wr.drewN nq)) := HE.out.drewN _
          generalize wr.drewN nq = W at *
          clear HOr HE HR HL HC hRs hYs
          go_wp2_with fail
          rw [HX.out]
          refine (clone_any X hXs _).mono ?_
          rintro e W1 ⟨rfl, HX1⟩
          have HO1' : Hid (W1.ownsRow w.heap.size 9 1 u4 l.length (tcs l)) := own_ext HO1.out HX1
          have HE1' : Hid (Ext w W1) := HE1.out.trans HX1
          clear HO1 HE1 HX1
          go_wp2_with (first | (at_builtin; refine wpList_append_lies _ rfl _ _ 22 rfl w.heap.size 9 i0 (.string ⟨#[]⟩) 1 16 Try.underlying22 hi hz0 hz1 hz2 rfl (by decide) u4 l.length (tcs l) rfl (HO1'.out.alloc _) ⟨W1.heap.size, 0, none⟩ 1 1 [.string X] rfl rfl ?c1 ?c3 (by decide) ?c4 ?c5 ?c2 _ rfl ?_))
          case c1 => exact one_cell W1 (.string X) 9
          case c3 => exact fun u hu => by rw [List.mem_singleton.1 hu]; rfl
          case c4 => exact ml_small q8
          case c5 => exact bt_small q8
          case c2 => exact Nat.le_trans HE1'.out.size (by simp)
          intro g cap w2 hown hgrow _ hlt2
          have HO2 : Hid (w2.ownsRow w.heap.size 9 1 (.slice (some ⟨g, 0, none⟩) (l.length + 1) cap) (l ++ [X]).length (tcs (l ++ [X]))) := by
            show World.ownsRow _ _ _ _ _ _ _
            rw [show (l ++ [X]).length = l.length + 1 from by simp, show tcs (l ++ [X]) = tcs l ++ [.string X] from by simp [tcs]]
            exact hown
          have HE2 : Hid (Ext w w2) := Ext.grown (HE1'.out.alloc _) (HO1'.out.alloc _) (Nat.le_refl _) hgrow
          clear hown hgrow HO1' HE1'
          go_wp2
          rw [HY.out]
          exact ⟨⟨Y, l ++ [X], rfl, HO2, HE2, HL2, HRn⟩, HM.out⟩
end Go.Proofs.Ythdmecoeghnifaa
