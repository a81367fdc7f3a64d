/-
  sandglassref16.Read, called: the texts that the document tells, in new memory; nothing old is turned.
-/
import Derived.Test.YthdmecoeghnifaaRefB
import Derived.Laws.BitsAllLaws
namespace Go.Proofs.Ythdmecoeghnifaa
open Go.RowKit
theorem sb_at (s : ByteArray) {i : Nat} (h : i < s.size) : (s[i]'h).toNat = sb s i := by
  unfold sb
  rw [List.getD_eq_getElem?_getD]
  have h2 : i < s.data.toList.length := by rw [ba_len]; exact h
  rw [List.getElem?_eq_getElem h2]
  rfl
theorem info9 : (Try.prog.info? 9).map (fun i => (i.zero, i.size, i.bytes)) = some (some (.string ⟨#[]⟩), 1, 16) := by kernel_rfl
/-- Texts as cells. -/
def tcs (l : List ByteArray) : List Value := l.map Value.string
theorem tcs_len (l : List ByteArray) : (tcs l).length = l.length := by simp [tcs]
/-- What Read hands out: the texts and no error, or none and ErrSyntax. -/
def ReadR (s : ByteArray) (w : World) (u : Value) (m : Int) : Prop :=
  (∃ l, rd s 0 = some l ∧ m = 0 ∧ l.length ≤ s.size ∧ LiesT w u l.length (fun k => l.getD k ⟨#[]⟩)) ∨ (rd s 0 = none ∧ m = 3 ∧ LiesT w u 0 (fun _ => ⟨#[]⟩))
theorem i64_or_nat (a b : Nat) (ha : a < 9223372036854775808) (hb : b < 9223372036854775808) : bits .or .i64 (a : Int) (b : Int) = ((a ||| b : Nat) : Int) := by
  have hx : a ||| b < 2 ^ 63 := Nat.or_lt_two_pow (by omega) (by omega)
  show IntKind.i64.wrap ((BitVec.ofInt 64 (a : Int) ||| BitVec.ofInt 64 (b : Int)).toNat : Int) = _
  rw [BitVec.toNat_or, ofInt_u64 a (by omega), ofInt_u64 b (by omega), IntKind.wrap_i64]
  omega
theorem or24 (a b c d : Nat) (ha : a < 256) (hb : b < 256) (hc : c < 256) (hd : d < 256) : bits .or .i64 (bits .or .i64 (bits .or .i64 ((a : Int) * 16777216) ((b : Int) * 65536)) ((c : Int) * 256)) (d : Int) = ((a * 16777216 + b * 65536 + c * 256 + d : Nat) : Int) := by
  have e1 := i64_or_nat (a * 16777216) (b * 65536) (by omega) (by omega)
  rw [nat_join 24 _ _ (by omega) (by omega)] at e1
  have e2 := i64_or_nat (a * 16777216 + b * 65536) (c * 256) (by omega) (by omega)
  rw [nat_join 16 _ _ (by omega) (by omega)] at e2
  have e3 := i64_or_nat (a * 16777216 + b * 65536 + c * 256) d (by omega) (by omega)
  rw [nat_join 8 _ _ (by omega) (by omega)] at e3
  rw [show ((a : Int) * 16777216) = ((a * 16777216 : Nat) : Int) from by omega, show ((b : Int) * 65536) = ((b * 65536 : Nat) : Int) from by omega, show ((c : Int) * 256) = ((c * 256 : Nat) : Int) from by omega, e1, e2, e3]
/-- The numbers of a round of Read. -/
theorem rd_nums (S p : Nat) (hs : S ≤ 100000) (h4 : ¬ S - p < 4) (hlt : p < S) :
    ((p : Int) < (S : Int) ∧ (0 : Int) ≤ (p : Int) ∧ ¬ (S : Int) - (p : Int) < 4) ∧ (IntKind.i64.wrap ((p : Int) + 1) = (p : Int) + 1 ∧ IntKind.i64.wrap ((p : Int) + 2) = (p : Int) + 2 ∧ IntKind.i64.wrap ((p : Int) + 3) = (p : Int) + 3 ∧ IntKind.i64.wrap ((p : Int) + 4) = (p : Int) + 4) ∧
    ((0 : Int) ≤ (p : Int) + 1 ∧ (0 : Int) ≤ (p : Int) + 2 ∧ (0 : Int) ≤ (p : Int) + 3) ∧ ((p : Int) + 1 < (S : Int) ∧ (p : Int) + 2 < (S : Int) ∧ (p : Int) + 3 < (S : Int)) ∧ (((p : Int) + 1).toNat = p + 1 ∧ ((p : Int) + 2).toNat = p + 2 ∧ ((p : Int) + 3).toNat = p + 3) := by
  refine ⟨⟨?_, ?_, ?_⟩, ⟨?_, ?_, ?_, ?_⟩, ⟨?_, ?_, ?_⟩, ⟨?_, ?_, ?_⟩, ⟨?_, ?_, ?_⟩⟩ <;> (try rw [IntKind.wrap_i64]) <;> omega
theorem ml_small {k : Nat} (h : k ≤ 100000) : k + 1 ≤ maxLen := by unfold maxLen; omega
theorem bt_small {k : Nat} (h : k ≤ 100000) : (k + 1) * 16 ≤ 140737488355328 := by omega
theorem rd_len {k p N : Nat} (h : k * 4 ≤ p) : (k + 1) * 4 ≤ p + 4 + N := by omega
theorem rd_few {k p S : Nat} (h : k * 4 ≤ p) (hp : p ≤ S) (hs : S ≤ 100000) : k ≤ 100000 := by omega
theorem rd_meas {S p N : Nat} (h : p < S) (_h2 : p + 4 + N ≤ S) : S - (intOf (.int .i64 ((p : Int) + 4 + (N : Int)))).toNat < S - (intOf (.int .i64 (p : Int))).toNat := by simp [intOf]; omega
theorem rd_long2 (S p N : Nat) (h : S - (p + 4) < N) : (S : Int) - ((p : Int) + 4) < (N : Int) := by omega
theorem rd_nums2 (S p N : Nat) (hs : S ≤ 100000) (h4 : ¬ S - p < 4) (hlt : p < S) (hN : ¬ S - (p + 4) < N) :
    ¬ (S : Int) - ((p : Int) + 4) < (N : Int) ∧ IntKind.i64.wrap ((p : Int) + 4 + (N : Int)) = (p : Int) + 4 + (N : Int) ∧ ((p : Int) + 4 + (N : Int)).toNat = p + 4 + N ∧ ((p : Int) + 4).toNat = p + 4 ∧ (0 : Int) ≤ (p : Int) + 4 ∧ (p : Int) + 4 ≤ (p : Int) + 4 + (N : Int) ∧ (p : Int) + 4 + (N : Int) ≤ (S : Int) ∧ p + 4 + N ≤ S := by
  refine ⟨?_, ?_, ?_, ?_, ?_, ?_, ?_, ?_⟩ <;> (try rw [IntKind.wrap_i64]) <;> omega
set_option maxHeartbeats 1000000 in
theorem rread_any (s : ByteArray) (hs : s.size ≤ 100000) (w : World) :
    Calls Try.prog 16 #[.string s] w fun e w' => ∃ u m, e = .returned (.tuple #[u, .int .i64 m]) ∧ ReadR s w' u m ∧ Ext w w' := by
  obtain ⟨i0, hi, hz0, hz1, hz2⟩ := info_parts info9
  obtain ⟨S, hS⟩ : ∃ S, s.size = S := ⟨_, rfl⟩
  have HS : Hid (s.size = S) := hS
  rw [hS] at hs
  have HO : Hid (w.ownsRow w.heap.size 9 1 (.slice none 0 0) 0 (tcs [])) := World.ownsRow_nil _ _ _ _
  have HE0 : Hid (Ext w w) := Ext.refl w
  have HR0 : Hid ((rd s 0).map ([] ++ ·) = rd s 0) := by show _ = _; cases rd s 0 <;> rfl
  go_enter Try.func16, Try.ntmps16
  go_wp2
  go_loopw [4, 5] (fun u4 u5 wr => ∃ (p : Nat) (l : List ByteArray), p ≤ S ∧ u5 = .int .i64 p ∧ Hid (wr.ownsRow w.heap.size 9 1 u4 l.length (tcs l)) ∧ Hid (Ext w wr) ∧ Hid (l.length * 4 ≤ p) ∧ Hid ((rd s p).map (l ++ ·) = rd s 0)) (fun _ u5 _ => S - (intOf u5).toNat)
  case atStart => exact ⟨0, [], Nat.zero_le _, rfl, HO, HE0, Nat.le_refl _, HR0⟩
  case round =>
    obtain ⟨p, l, hp, rfl, HOr, HE, HL, HR⟩ := hrel
    clear HO HE0 HR0
    by_cases hlt : p < S
    · have h1 : (p : Int) < (S : Int) := by omega
      have h0 : (0 : Int) ≤ (p : Int) := by omega
      by_cases h4 : S - p < 4
      · have h5 : (S : Int) - (p : Int) < 4 := by omega
        have HN : Hid (rd s 0 = none) := by rw [← HR.out, rd_short (by rw [HS.out]; exact hlt) (by rw [HS.out]; exact h4)]; rfl
        go_wp2
        refine bodyPost_ret (v := .tuple #[.slice none 0 0, .int .i64 3]) (by simp [results, Try.results16, go_sem]) rfl ⟨_, 3, rfl, .inr ⟨HN.out, rfl, lies_nil _ _ _⟩, HE.out⟩
      · have e0 := sb_at s (i := p) (by omega)
        have e1 := sb_at s (i := p + 1) (by omega)
        have e2 := sb_at s (i := p + 2) (by omega)
        have e3 := sb_at s (i := p + 3) (by omega)
        have g0 := sb_lt s p; have g1 := sb_lt s (p + 1); have g2 := sb_lt s (p + 2); have g3 := sb_lt s (p + 3)
        obtain ⟨N, HN⟩ : ∃ N, Hid (num4 s p = N) := ⟨_, rfl⟩
        have HO24 : Hid _ := or24 _ _ _ _ g0 g1 g2 g3
        rw [show sb s p * 16777216 + sb s (p + 1) * 65536 + sb s (p + 2) * 256 + sb s (p + 3) = N from HN.out] at HO24
        have hN : N < 4294967296 := by rw [← HN.out]; exact num4_lt _ _
        obtain ⟨⟨h1, h0, h5⟩, ⟨w1, w2, w3, w4⟩, ⟨k1, k2, k3⟩, ⟨l1, l2, l3⟩, ⟨t1, t2, t3⟩⟩ := rd_nums S p hs h4 hlt
        generalize sb s p = b0 at *
        generalize sb s (p + 1) = b1 at *
        generalize sb s (p + 2) = b2 at *
        generalize sb s (p + 3) = b3 at *
        go_wp2_with fail
        go_quiet (fail)
        rw [HO24.out]
        clear e0 e1 e2 e3 g0 g1 g2 g3 HO24 w1 w2 w3 k1 k2 k3 l1 l2 l3 t1 t2 t3
        by_cases hlong : S - (p + 4) < N
        · have hl : (S : Int) - ((p : Int) + 4) < (N : Int) := rd_long2 S p N hlong
          have HNn : Hid (rd s 0 = none) := by rw [← HR.out, rd_long (by rw [HS.out]; exact hlt) (by rw [HS.out]; exact h4) (by rw [HS.out, HN.out]; exact hlong)]; rfl
          go_wp2
          refine bodyPost_ret (v := .tuple #[.slice none 0 0, .int .i64 3]) (by simp [results, Try.results16, go_sem]) rfl ⟨_, 3, rfl, .inr ⟨HNn.out, rfl, lies_nil _ _ _⟩, HE.out.drewN _⟩
        · obtain ⟨hl, q1, q2, q3, q4, q5, q6, q7⟩ := rd_nums2 S p N hs h4 hlt hlong
          have HO1 : Hid ((wr.drewN nq).ownsRow w.heap.size 9 1 u4 l.length (tcs l)) := own_ext HOr.out (Ext.drewN (Ext.refl _) _)
          have HE1 : Hid (Ext w (wr.drewN nq)) := HE.out.drewN _
          have HRn : Hid ((rd s (p + 4 + N)).map ((l ++ [s.extract (p + 4) (p + 4 + N)]) ++ ·) = rd s 0) := by
            show _ = _
            rw [← HR.out, rd_one (p := p) (by rw [HS.out]; exact hlt) (by rw [HS.out]; exact h4) (by rw [HS.out, HN.out]; exact hlong), HN.out, Option.map_map]
            congr 1
            funext y
            simp
          have hl4 : l.length ≤ 100000 := rd_few HL.out hp hs
          generalize wr.drewN nq = W at *
          clear HOr HE HR
          go_wp2_with (first | (at_builtin; refine wpList_append_lies _ rfl _ _ 22 rfl w.heap.size 9 i0 (.string ⟨#[]⟩) 1 16 Try.underlying22 hi hz0 hz1 hz2 rfl (by decide) u4 l.length (tcs l) rfl (HO1.out.alloc _) ⟨W.heap.size, 0, none⟩ 1 1 [.string (s.extract (p + 4) (p + 4 + N))] rfl rfl ?c1 ?c3 (by decide) ?c4 ?c5 ?c2 _ rfl ?_))
          case c3 => rfl
          case c4 => exact ml_small hl4
          case c5 => exact bt_small hl4
          case c2 => exact Nat.le_trans HE1.out.size (by simp)
          intro g cap w2 hown hgrow _ hlt2
          have HO2 : Hid (w2.ownsRow w.heap.size 9 1 (.slice (some ⟨g, 0, none⟩) (l.length + 1) cap) (l ++ [s.extract (p + 4) (p + 4 + N)]).length (tcs (l ++ [s.extract (p + 4) (p + 4 + N)]))) := by
            show World.ownsRow _ _ _ _ _ _ _
            rw [show (l ++ [s.extract (p + 4) (p + 4 + N)]).length = l.length + 1 from by simp, show tcs (l ++ [s.extract (p + 4) (p + 4 + N)]) = tcs l ++ [.string (s.extract (p + 4) (p + 4 + N))] from by simp [tcs]]
            exact hown
          have HE2 : Hid (Ext w w2) := Ext.grown (HE1.out.alloc _) (HO1.out.alloc _) (Nat.le_refl _) hgrow
          have HL2 : Hid ((l ++ [s.extract (p + 4) (p + 4 + N)]).length * 4 ≤ p + 4 + N) := by
            show _ ≤ _
            rw [List.length_append]
            exact rd_len HL.out
          clear hown hgrow HO1 HE1
          go_wp2
          go_roundw
          case rel => exact ⟨p + 4 + N, l ++ [s.extract (p + 4) (p + 4 + N)], q7, by push_cast; rfl, HO2, HE2, HL2, HRn⟩
          case measure => exact rd_meas hlt q7
    · obtain rfl : p = S := by omega
      have hnl : ¬ (p : Int) < (p : Int) := by omega
      have HRn : Hid (rd s 0 = some l) := by show _ = _; rw [← HR.out, rd_end (by rw [HS.out]; exact Nat.le_refl _)]; simp
      have HLen : Hid (l.length ≤ s.size) := by have := HL.out; rw [HS.out]; show _ ≤ _; omega
      go_wp2
      refine bodyPost_ret (v := .tuple #[u4, .int .i64 0]) (by simp [results, Try.results16, go_sem]) rfl ⟨u4, 0, rfl, .inl ⟨l, HRn.out, rfl, HLen.out, ?_⟩, HE.out⟩
      refine Lies.own HOr.out fun k hk => ?_
      have hk2 : k < l.length := by omega
      simp [tcs, hk2]
end Go.Proofs.Ythdmecoeghnifaa
