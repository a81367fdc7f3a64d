/-
  sandglassref17.Prefix, Log, called; nothing old is turned.
-/
import Derived.Test.YtenkfbfiombpkaaSb
namespace Go.Proofs.Ytenkfbfiombpkaa
open Go.RowKit
/-- What Prefix hands out. -/
def PfP (s : ByteArray) (w : World) (e : Ending) (w' : World) : Prop := ∃ u, e = .returned (.tuple #[u, .int .i64 ((pf s 0).2 : Int)]) ∧ LiesT w' u (pf s 0).1.length (fun k => (pf s 0).1.getD k ⟨#[]⟩) ∧ Ext w w'
theorem news1 (w : World) (v : Value) (t : TypeId) : ∀ j u, [v][j]? = some u → (w.alloc (.cells #[v] t)).cell? (Addr.add ⟨w.heap.size, 0, none⟩ j) = some u := by
  intro j u h
  match j, h with
  | 0, h => simp at h; subst h; simp [Addr.add]
theorem one1 (t : ByteArray) : ∀ u ∈ [Value.string t], u.oneCell' = true := by
  intro u h
  simp at h
  subst h
  rfl
theorem pf_nums (p n S : Nat) (h : n ≤ S - p) (hp : p ≤ S) (hS : S ≤ 100000) : IntKind.i64.wrap ((p : Int) + (n : Int)) = (p : Int) + (n : Int) ∧ p + n ≤ S := by
  refine ⟨?_, ?_⟩ <;> (try rw [IntKind.wrap_i64]) <;> omega
theorem pf_meas {S p n : Nat} (h : 8 ≤ n) (h2 : p + n ≤ S) : S + 1 - (intOf (.int .i64 ((p : Int) + (n : Int)))).toNat < S + 1 - (intOf (.int .i64 (p : Int))).toNat := by simp [intOf]; omega
theorem pf_len {k p n : Nat} (h : k * 8 ≤ p) (hn : 8 ≤ n) : (k + 1) * 8 ≤ p + n := by omega
theorem pf_few {k p S : Nat} (h : k * 8 ≤ p) (hp : p ≤ S) (hs : S ≤ 100000) : k ≤ 100000 := by omega
set_option maxHeartbeats 2000000 in
theorem rprefix_any (s : ByteArray) (hs : s.size ≤ 100000) (w : World) :
    Calls Try.prog 16 #[.string s] w fun e w' => PfP s w e w' := by
  obtain ⟨i0, hi, hz0, hz1, hz2⟩ := info_parts info9
  obtain ⟨S, hS⟩ : ∃ S, s.size = S := ⟨_, rfl⟩
  have HS : Hid (s.size = S) := hS
  rw [hS] at hs
  have Hs : Hid (S ≤ 100000) := hs
  have HN : Hid (∀ p W, Calls Try.prog 14 #[.string (s.extract p S)] W fun e w' => e = .returned (nxtV (s.extract p S)) ∧ Ext W w') := fun p W => rnext_any _ (by rw [ByteArray.size_extract]; omega) W
  have HO : Hid (w.ownsRow w.heap.size 9 1 (.slice none 0 0) 0 (tcs [])) := World.ownsRow_nil _ _ _ _
  have HE0 : Hid (Ext w w) := Ext.refl w
  have HR0 : Hid (pf s 0 = ([] ++ (pf s 0).1, (pf s 0).2)) := rfl
  clear hs
  go_enter Try.func16, Try.ntmps16
  go_wp2
  go_loopw [4, 5] (fun u4 u5 wr => ∃ (p : Nat) (l : List ByteArray), p ≤ S ∧ u5 = .int .i64 p ∧ Hid (wr.ownsRow w.heap.size 9 1 u4 l.length (tcs l)) ∧ Hid (Ext w wr) ∧ Hid (l.length * 8 ≤ p) ∧ Hid (pf s 0 = (l ++ (pf s p).1, (pf s p).2))) (fun _ u5 _ => S + 1 - (intOf u5).toNat)
  case atStart => exact ⟨0, [], Nat.zero_le _, rfl, HO, HE0, Nat.le_refl _, HR0⟩
  case round =>
    obtain ⟨p, l, hp, rfl, HOr, HE, HL, HR⟩ := hrel
    clear HO HE0 HR0
    have h0 : (0 : Int) ≤ (p : Int) := by omega
    have h1 : (p : Int) ≤ (S : Int) := by omega
    by_cases hok : (nxt (s.extract p S)).2.2 = 0
    · obtain ⟨t, n, ht⟩ : ∃ t n, nxt (s.extract p S) = (t, n, 0) := ⟨_, _, by rw [← hok]⟩
      obtain ⟨k1, k2, k4, k5, k6⟩ := nxt_ok ht
      have k3 : n ≤ S - p := by rw [ByteArray.size_extract] at k2; omega
      obtain ⟨q1, q2⟩ := pf_nums p n S k3 hp Hs.out
      have HV : Hid (nxtV (s.extract p S) = .tuple #[.string t, .int .i64 (n : Int), .int .i64 0]) := nxtV_of ht
      have HRn : Hid (pf s 0 = ((l ++ [t]) ++ (pf s (p + n)).1, (pf s (p + n)).2)) := by
        show _ = _
        rw [HR.out, pf_go (by rw [HS.out]; exact ht)]
        simp
      have hl4 : l.length ≤ 100000 := pf_few HL.out hp Hs.out
      have HL2 : Hid ((l ++ [t]).length * 8 ≤ p + n) := by show _ ≤ _; rw [List.length_append]; exact pf_len HL.out k1
      clear hok ht k2 k3 k4 k5 k6 HR
      go_wp2_with fail
      refine (HN.out p _).mono ?_
      rintro e W ⟨rfl, HX⟩
      rw [HV.out]
      have HO1 : Hid (W.ownsRow w.heap.size 9 1 u4 l.length (tcs l)) := own_ext HOr.out HX
      have HE1 : Hid (Ext w W) := HE.out.trans HX
      clear HX HOr HE
      go_wp2_with (first | (at_builtin; refine wpList_append_lies _ rfl _ _ 35 rfl w.heap.size 9 i0 (.string ⟨#[]⟩) 1 16 Try.underlying35 hi hz0 hz1 hz2 rfl (by decide) u4 l.length (tcs l) rfl (HO1.out.alloc _) ⟨W.heap.size, 0, none⟩ 1 1 [.string t] rfl rfl ?c1 ?c3 (by decide) ?c4 ?c5 ?c2 _ rfl ?_))
      case c1 => exact news1 W _ _
      case c3 => exact one1 t
      case c4 => exact ml_small hl4
      case c5 => exact bt_small hl4
      case c2 => exact Nat.le_trans HE1.out.size (by simp)
      intro g cap w2 hown hgrow _ hlt2
      have HO2 : Hid (w2.ownsRow w.heap.size 9 1 (.slice (some ⟨g, 0, none⟩) (l.length + 1) cap) (l ++ [t]).length (tcs (l ++ [t]))) := by
        show World.ownsRow _ _ _ _ _ _ _
        rw [show (l ++ [t]).length = l.length + 1 from by simp, show tcs (l ++ [t]) = tcs l ++ [.string t] from by simp [tcs]]
        exact hown
      have HE2 : Hid (Ext w w2) := Ext.grown (HE1.out.alloc _) (HO1.out.alloc _) (Nat.le_refl _) hgrow
      clear hown hgrow HO1 HE1
      go_wp2
      go_roundw
      case rel => exact ⟨p + n, l ++ [t], q2, by push_cast; rfl, HO2, HE2, HL2, HRn⟩
      case measure => exact pf_meas k1 q2
    · obtain ⟨t, n, m, ht, hm⟩ : ∃ t n m, nxt (s.extract p S) = (t, n, m) ∧ ¬ m = 0 := ⟨_, _, _, rfl, hok⟩
      have HV : Hid (nxtV (s.extract p S) = .tuple #[.string t, .int .i64 (n : Int), .int .i64 m]) := nxtV_of ht
      have HRn : Hid (pf s 0 = (l, p)) := by
        show _ = _
        rw [HR.out, pf_stop (by rw [HS.out]; exact hok)]
        simp
      clear hok ht HR
      go_wp2_with fail
      refine (HN.out p _).mono ?_
      rintro e W ⟨rfl, HX⟩
      rw [HV.out]
      have HO1 : Hid (W.ownsRow w.heap.size 9 1 u4 l.length (tcs l)) := own_ext HOr.out HX
      have HE1 : Hid (Ext w W) := HE.out.trans HX
      clear HX HOr HE
      go_wp2
      refine bodyPost_ret (v := .tuple #[u4, .int .i64 (p : Int)]) (by simp [results, Try.results16, go_sem]) rfl ⟨u4, by rw [HRn.out], ?_, HE1.out⟩
      rw [HRn.out]
      refine Lies.own HO1.out fun k hk => ?_
      have hk2 : k < l.length := by omega
      simp [tcs, hk2]
/-- What Log hands out. -/
def LogP (L : Nat → ByteArray) (n : Nat) (w : World) (e : Ending) (w' : World) : Prop := ((lgOk L n ∧ e = .returned (.tuple #[.string (lgN L n), .int .i64 0])) ∨ (¬ lgOk L n ∧ e = .returned (.tuple #[.string ⟨#[]⟩, .int .i64 2]))) ∧ Ext w w'
theorem lgOk_part {L : Nat → ByteArray} {n k : Nat} (h : lgOk L n) (hk : k < n) : (L k).size ≤ 4096 ∧ (lgN L k).size + ((L k).size + 8) ≤ 65536 := by
  refine ⟨h.1 k hk, ?_⟩
  have := lgN_mono L (show k + 1 ≤ n from hk)
  rw [lgN_size] at this
  exact Nat.le_trans this h.2
theorem lg_numz (A B : Nat) (ha : A ≤ 65536) (hb : B ≤ 4104) : IntKind.i64.wrap ((A : Int) + (B : Int)) = (A : Int) + (B : Int) ∧ ¬ 9223372036854775807 < A + B := by
  refine ⟨?_, ?_⟩ <;> (try rw [IntKind.wrap_i64]) <;> omega
set_option maxHeartbeats 2000000 in
theorem rlog_any (v : Value) (n : Nat) (L : Nat → ByteArray) (hn : n ≤ 1000) (w : World) (hL : LiesT w v n L) :
    Calls Try.prog 20 #[v] w fun e w' => LogP L n w e w' := by
  obtain ⟨a, cap, rfl, hc⟩ := hL
  have HL : Hid (LiesT w (.slice a n cap) n L) := ⟨a, cap, rfl, hc⟩
  have HE0 : Hid (Ext w w) := Ext.refl w
  have Hn : Hid (n ≤ 100000) := by show _ ≤ _; omega
  have H00 : Hid ((∀ i, i < 0 → (L i).size ≤ 4096) ∧ (lgN L 0).size ≤ 65536) := ⟨fun i hi => absurd hi (Nat.not_lt_zero i), Nat.zero_le _⟩
  clear hc hn
  go_enter Try.func20, Try.ntmps20
  go_wp2
  go_loopw [4, 5] (fun u4 u5 wr => ∃ k : Nat, k ≤ n ∧ u5 = .int .i64 k ∧ u4 = .string (lgN L k) ∧ Hid (lgOk L k) ∧ Hid (Ext w wr)) (fun _ u5 _ => n - (intOf u5).toNat)
  case atStart => exact ⟨0, Nat.zero_le _, rfl, rfl, H00, HE0⟩
  case round =>
    obtain ⟨k, hk, rfl, rfl, HK, HE⟩ := hrel
    clear HE0 H00
    by_cases hlt : k < n
    · obtain ⟨h1, h0, hw⟩ := lp_nums k n hlt Hn.out
      obtain ⟨g, o, rfl, hb, hcell⟩ := (HL.out.ext HE.out).get hlt
      by_cases hbig : 4096 < (L k).size
      · have HB : Hid (¬ lgOk L n) := fun q => by have := (lgOk_part q hlt).1; omega
        have HC : Hid (∀ W, Calls Try.prog 10 #[.string (L k)] W fun e w' => e = .returned (.tuple #[.string ⟨#[]⟩, .int .i64 2]) ∧ Ext W w') := fun W => rframe_bad _ hbig W
        go_wp2_with fail
        refine (HC.out _).mono ?_
        rintro e w1 ⟨rfl, HX⟩
        have HE1 : Hid (Ext w w1) := HE.out.trans HX
        clear HX
        go_wp2
        refine bodyPost_ret (v := .tuple #[.string ⟨#[]⟩, .int .i64 2]) (by simp [results, Try.results20, go_sem]) rfl ⟨.inr ⟨HB.out, rfl⟩, HE1.out⟩
      · have HC : Hid (∀ W, Calls Try.prog 10 #[.string (L k)] W fun e w' => e = .returned (.tuple #[.string (frm (L k)), .int .i64 0]) ∧ Ext W w') := fun W => rframe_good _ (by omega) W
        have hfz : (frm (L k)).size = (L k).size + 8 := frm_size _
        have HKz : (lgN L k).size ≤ 65536 := HK.out.2
        have HNx : Hid (lgN L (k + 1) = lgN L k ++ frm (L k)) := lgN_succ L k
        obtain ⟨F, HF⟩ : ∃ F, Hid (frm (L k) = F) := ⟨_, rfl⟩
        rw [HF.out] at HC hfz HNx
        obtain ⟨z, Hz⟩ : ∃ z, Hid ((lgN L k).size = z) := ⟨_, rfl⟩
        have hz' : (lgN L k).size = z := Hz.out
        have hf4 : F.size ≤ 4104 := by omega
        obtain ⟨f, Hf⟩ : ∃ f, Hid (F.size = f) := ⟨_, rfl⟩
        have hf' : F.size = f := Hf.out
        obtain ⟨w2, hcat⟩ : IntKind.i64.wrap ((z : Int) + (f : Int)) = (z : Int) + (f : Int) ∧ ¬ 9223372036854775807 < z + f := lg_numz z f (by omega) (by omega)
        by_cases hover : 65536 < z + f
        · have h3 : (65536 : Int) < (z : Int) + (f : Int) := by omega
          have HB : Hid (¬ lgOk L n) := fun q => by have := (lgOk_part q hlt).2; omega
          clear HKz hfz
          go_wp2_with fail
          refine (HC.out _).mono ?_
          rintro e w1 ⟨rfl, HX⟩
          have HE1 : Hid (Ext w w1) := HE.out.trans HX
          clear HX
          go_wp2
          refine bodyPost_ret (v := .tuple #[.string ⟨#[]⟩, .int .i64 2]) (by simp [results, Try.results20, go_sem]) rfl ⟨.inr ⟨HB.out, rfl⟩, HE1.out⟩
        · have h3 : ¬ (65536 : Int) < (z : Int) + (f : Int) := by omega
          have HKn : Hid (lgOk L (k + 1)) := ⟨fun i hi => by
            by_cases e : i = k
            · subst e; omega
            · exact HK.out.1 i (by omega), by rw [lgN_size]; omega⟩
          clear HKz hfz
          go_wp2_with fail
          refine (HC.out _).mono ?_
          rintro e w1 ⟨rfl, HX⟩
          have HE1 : Hid (Ext w w1) := HE.out.trans HX
          clear HX
          go_wp2
          go_roundw
          case rel => exact ⟨k + 1, hlt, by push_cast; rfl, by rw [HNx.out], HKn, HE1⟩
          case measure => exact lp_meas hlt
    · obtain rfl : k = n := by omega
      have hnl : ¬ (k : Int) < (k : Int) := by omega
      go_wp2
      refine bodyPost_ret (v := .tuple #[.string (lgN L k), .int .i64 0]) (by simp [results, Try.results20, go_sem]) rfl ⟨.inl ⟨HK.out, rfl⟩, HE.out⟩
end Go.Proofs.Ytenkfbfiombpkaa
