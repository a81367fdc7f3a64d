/-
  record.Prefix, Log, called; nothing old is turned.
-/
import Derived.Test.YtenkfbfiombpkaaRb
namespace Go.Proofs.Ytenkfbfiombpkaa
open Go.RowKit
set_option maxHeartbeats 2000000 in
theorem cprefix_any (s : ByteArray) (hs : s.size ≤ 100000) (w : World) :
    Calls Try.prog 15 #[.string s] w fun e w' => PfP s w e w' := by
  obtain ⟨i0, hi, hz0, hz1, hz2⟩ := info_parts info9
  obtain ⟨S, hS⟩ : ∃ S, s.size = S := ⟨_, rfl⟩
  have HS : Hid (s.size = S) := hS
  rw [hS] at hs
  have Hs : Hid (S ≤ 100000) := hs
  have HN : Hid (∀ p W, Calls Try.prog 13 #[.string (s.extract p S)] W fun e w' => e = .returned (nxtV (s.extract p S)) ∧ Ext W w') := fun p W => cnext_any _ (by rw [ByteArray.size_extract]; omega) W
  have HO : Hid (w.ownsRow w.heap.size 9 1 (.slice none 0 0) 0 (tcs [])) := World.ownsRow_nil _ _ _ _
  have HE0 : Hid (Ext w w) := Ext.refl w
  have HR0 : Hid (pf s 0 = ([] ++ (pf s 0).1, (pf s 0).2)) := rfl
  clear hs
  go_enter Try.func15, Try.ntmps15
  go_wp2
  go_loopw [4, 5] (fun u4 u5 wr => ∃ (p : Nat) (l : List ByteArray), p ≤ S ∧ u5 = .int .i64 p ∧ Hid (wr.ownsRow w.heap.size 9 1 u4 l.length (tcs l)) ∧ Hid (Ext w wr) ∧ Hid (l.length * 8 ≤ p) ∧ Hid (pf s 0 = (l ++ (pf s p).1, (pf s p).2))) (fun _ u5 _ => S + 1 - (intOf u5).toNat)
  case atStart => exact ⟨0, [], Nat.zero_le _, rfl, HO, HE0, Nat.le_refl _, HR0⟩
  case round =>
    obtain ⟨p, l, hp, rfl, HOr, HE, HL, HR⟩ := hrel
    clear HO HE0 HR0
    have h0 : (0 : Int) ≤ (p : Int) := by omega
    have h1 : (p : Int) ≤ (S : Int) := by omega
    by_cases hok : (nxt (s.extract p S)).2.2 = 0
    · obtain ⟨t, n, ht⟩ : ∃ t n, nxt (s.extract p S) = (t, n, 0) := ⟨_, _, by rw [← hok]⟩
      obtain ⟨k1, k2, k4, k5, k6⟩ := nxt_ok ht
      have k3 : n ≤ S - p := by rw [ByteArray.size_extract] at k2; omega
      obtain ⟨q1, q2⟩ := pf_nums p n S k3 hp Hs.out
      have HV : Hid (nxtV (s.extract p S) = .tuple #[.string t, .int .i64 (n : Int), .int .i64 0]) := nxtV_of ht
      have HRn : Hid (pf s 0 = ((l ++ [t]) ++ (pf s (p + n)).1, (pf s (p + n)).2)) := by
        show _ = _
        rw [HR.out, pf_go (by rw [HS.out]; exact ht)]
        simp
      have hl4 : l.length ≤ 100000 := pf_few HL.out hp Hs.out
      have HL2 : Hid ((l ++ [t]).length * 8 ≤ p + n) := by show _ ≤ _; rw [List.length_append]; exact pf_len HL.out k1
      clear hok ht k2 k3 k4 k5 k6 HR
      go_wp2_with fail
      refine (HN.out p _).mono ?_
      rintro e W ⟨rfl, HX⟩
      rw [HV.out]
      have HO1 : Hid (W.ownsRow w.heap.size 9 1 u4 l.length (tcs l)) := own_ext HOr.out HX
      have HE1 : Hid (Ext w W) := HE.out.trans HX
      clear HX HOr HE
      go_wp2_with (first | (at_builtin; refine wpList_append_lies _ rfl _ _ 35 rfl w.heap.size 9 i0 (.string ⟨#[]⟩) 1 16 Try.underlying35 hi hz0 hz1 hz2 rfl (by decide) u4 l.length (tcs l) rfl (HO1.out.alloc _) ⟨W.heap.size, 0, none⟩ 1 1 [.string t] rfl rfl ?c1 ?c3 (by decide) ?c4 ?c5 ?c2 _ rfl ?_))
      case c1 => exact news1 W _ _
      case c3 => exact one1 t
      case c4 => exact ml_small hl4
      case c5 => exact bt_small hl4
      case c2 => exact Nat.le_trans HE1.out.size (by simp)
      intro g cap w2 hown hgrow _ hlt2
      have HO2 : Hid (w2.ownsRow w.heap.size 9 1 (.slice (some ⟨g, 0, none⟩) (l.length + 1) cap) (l ++ [t]).length (tcs (l ++ [t]))) := by
        show World.ownsRow _ _ _ _ _ _ _
        rw [show (l ++ [t]).length = l.length + 1 from by simp, show tcs (l ++ [t]) = tcs l ++ [.string t] from by simp [tcs]]
        exact hown
      have HE2 : Hid (Ext w w2) := Ext.grown (HE1.out.alloc _) (HO1.out.alloc _) (Nat.le_refl _) hgrow
      clear hown hgrow HO1 HE1
      go_wp2
      go_roundw
      case rel => exact ⟨p + n, l ++ [t], q2, by push_cast; rfl, HO2, HE2, HL2, HRn⟩
      case measure => exact pf_meas k1 q2
    · obtain ⟨t, n, m, ht, hm⟩ : ∃ t n m, nxt (s.extract p S) = (t, n, m) ∧ ¬ m = 0 := ⟨_, _, _, rfl, hok⟩
      have HV : Hid (nxtV (s.extract p S) = .tuple #[.string t, .int .i64 (n : Int), .int .i64 m]) := nxtV_of ht
      have HRn : Hid (pf s 0 = (l, p)) := by
        show _ = _
        rw [HR.out, pf_stop (by rw [HS.out]; exact hok)]
        simp
      clear hok ht HR
      go_wp2_with fail
      refine (HN.out p _).mono ?_
      rintro e W ⟨rfl, HX⟩
      rw [HV.out]
      have HO1 : Hid (W.ownsRow w.heap.size 9 1 u4 l.length (tcs l)) := own_ext HOr.out HX
      have HE1 : Hid (Ext w W) := HE.out.trans HX
      clear HX HOr HE
      go_wp2
      refine bodyPost_ret (v := .tuple #[u4, .int .i64 (p : Int)]) (by simp [results, Try.results15, go_sem]) rfl ⟨u4, by rw [HRn.out], ?_, HE1.out⟩
      rw [HRn.out]
      refine Lies.own HO1.out fun k hk => ?_
      have hk2 : k < l.length := by omega
      simp [tcs, hk2]
/-- A builder in block b that holds the bytes of x, used or not; all below b is as it was. -/
def LB (b : Nat) (w wr : World) (x : ByteArray) : Prop := Lib.IsBuilder 52 5 b b (Lib.strCells x) wr ∧ Below b w wr ∧ b ≤ wr.heap.size
theorem bat_ext {T t : TypeId} {B b : Nat} {p : Value} {bs : List Value} {w w' : World} (h : Lib.BuilderAt T t B b p bs w) (hx : Ext w w') : Lib.BuilderAt T t B b p bs w' := by
  obtain ⟨hB, v, hb, ho, hn⟩ := h
  exact ⟨hB, v, (Below.block hx b (Array.getElem?_eq_some_iff.1 hb).1).trans hb, own_ext ho hx, hn⟩
theorem LB.ext {b : Nat} {w wr w2 : World} {x : ByteArray} (h : LB b w wr x) (hx : Ext wr w2) : LB b w w2 x :=
  ⟨h.1.elim (fun q => .inl (bat_ext q hx)) (fun q => .inr (bat_ext q hx)), h.2.1.trans (Below.mono hx h.2.2), Nat.le_trans h.2.2 hx.size⟩
theorem strCells_nil : Lib.strCells ⟨#[]⟩ = [] := rfl
set_option maxHeartbeats 2000000 in
theorem clog_any (v : Value) (n : Nat) (L : Nat → ByteArray) (hn : n ≤ 1000) (w : World) (hL : LiesT w v n L) :
    Calls Try.prog 19 #[v] w fun e w' => LogP L n w e w' := by
  obtain ⟨a, cap, rfl, hc⟩ := hL
  have HL : Hid (LiesT w (.slice a n cap) n L) := ⟨a, cap, rfl, hc⟩
  have HI0 : Hid (LB w.heap.size w (w.alloc (.cells #[.pointer none, .slice none 0 0] 52)) (lgN L 0)) := ⟨Lib.fresh_isBuilder 52 5 w, (Ext.refl w).alloc _, by simp⟩
  have Hn : Hid (n ≤ 100000) := by show _ ≤ _; omega
  have H00 : Hid ((∀ i, i < 0 → (L i).size ≤ 4096) ∧ (lgN L 0).size ≤ 65536) := ⟨fun i hi => absurd hi (Nat.not_lt_zero i), Nat.zero_le _⟩
  obtain ⟨b, HBw⟩ : ∃ b, Hid (w.heap.size = b) := ⟨_, rfl⟩
  clear hc hn
  go_enter Try.func19, Try.ntmps19
  go_wp2
  generalize w.alloc (.cells #[.pointer none, .slice none 0 0] 52) = W0 at *
  rw [HBw.out] at HI0
  simp only [HBw.out]
  go_loopw [11] (fun u11 wr => ∃ k : Nat, k ≤ n ∧ u11 = .int .i64 k ∧ Hid (lgOk L k) ∧ Hid (LB b w wr (lgN L k))) (fun u11 _ => n - (intOf u11).toNat)
  case atStart => exact ⟨0, Nat.zero_le _, rfl, H00, HI0⟩
  case round =>
    obtain ⟨k, hk, rfl, HK, HI⟩ := hrel
    clear HI0 H00
    have HE : Hid (Ext w wr) := show Below w.heap.size w wr from HBw.out ▸ HI.out.2.1
    by_cases hlt : k < n
    · obtain ⟨h1, h0, hw⟩ := lp_nums k n hlt Hn.out
      obtain ⟨g, o, rfl, hb, hcell⟩ := (HL.out.ext HE.out).get hlt
      by_cases hbig : 4096 < (L k).size
      · have HB : Hid (¬ lgOk L n) := fun q => by have := (lgOk_part q hlt).1; omega
        have HC : Hid (∀ W, Calls Try.prog 9 #[.string (L k)] W fun e w' => e = .returned (.tuple #[.string ⟨#[]⟩, .int .i64 2]) ∧ Ext W w') := fun W => cframe_bad _ hbig W
        go_wp2_with fail
        refine (HC.out _).mono ?_
        rintro e w1 ⟨rfl, HX⟩
        have HE1 : Hid (Ext w w1) := HE.out.trans HX
        clear HX
        go_wp2
        refine bodyPost_ret (v := .tuple #[.string ⟨#[]⟩, .int .i64 2]) (by simp [results, Try.results19, go_sem]) rfl ⟨.inr ⟨HB.out, rfl⟩, HE1.out⟩
      · have HC : Hid (∀ W, Calls Try.prog 9 #[.string (L k)] W fun e w' => e = .returned (.tuple #[.string (frm (L k)), .int .i64 0]) ∧ Ext W w') := fun W => cframe_good _ (by omega) W
        have hfz : (frm (L k)).size = (L k).size + 8 := frm_size _
        have HKz : (lgN L k).size ≤ 65536 := HK.out.2
        have HNx : Hid (lgN L (k + 1) = lgN L k ++ frm (L k)) := lgN_succ L k
        obtain ⟨F, HF⟩ : ∃ F, Hid (frm (L k) = F) := ⟨_, rfl⟩
        rw [HF.out] at HC hfz HNx
        obtain ⟨z, Hz⟩ : ∃ z, Hid ((lgN L k).size = z) := ⟨_, rfl⟩
        have hz' : (lgN L k).size = z := Hz.out
        have hf4 : F.size ≤ 4104 := by omega
        obtain ⟨f, Hf⟩ : ∃ f, Hid (F.size = f) := ⟨_, rfl⟩
        have hf' : F.size = f := Hf.out
        obtain ⟨w2, hcat⟩ : IntKind.i64.wrap ((z : Int) + (f : Int)) = (z : Int) + (f : Int) ∧ ¬ 9223372036854775807 < z + f := lg_numz z f (by omega) (by omega)
        by_cases hover : 65536 < z + f
        · have h3 : (65536 : Int) < (z : Int) + (f : Int) := by omega
          have HB : Hid (¬ lgOk L n) := fun q => by have := (lgOk_part q hlt).2; omega
          clear HKz hfz
          go_wp2_with fail
          refine (HC.out _).mono ?_
          rintro e w1 ⟨rfl, HX⟩
          have HE1 : Hid (Ext w w1) := HE.out.trans HX
          have HI1 : Hid (LB b w w1 (lgN L k)) := HI.out.ext HX
          have HLn := blen_any b b _ w1 HI1.out.1
          rw [Lib.strCells_length, Hz.out] at HLn
          have HLn' : Hid (Calls Try.prog 26 #[.pointer (some ⟨b, 0, none⟩)] w1 _) := HLn
          clear HX HI HLn
          go_wp2_with fail
          refine HLn'.out.mono ?_
          rintro e w3 ⟨rfl, rfl⟩
          clear HLn'
          go_wp2
          refine bodyPost_ret (v := .tuple #[.string ⟨#[]⟩, .int .i64 2]) (by simp [results, Try.results19, go_sem]) rfl ⟨.inr ⟨HB.out, rfl⟩, HE1.out⟩
        · have h3 : ¬ (65536 : Int) < (z : Int) + (f : Int) := by omega
          have HKn : Hid (lgOk L (k + 1)) := ⟨fun i hi => by
            by_cases e : i = k
            · subst e; omega
            · exact HK.out.1 i (by omega), by rw [lgN_size]; omega⟩
          have hlen : (Lib.strCells (lgN L k)).length + F.size ≤ 140737488355328 := by rw [Lib.strCells_length]; omega
          clear HKz hfz
          go_wp2_with fail
          refine (HC.out _).mono ?_
          rintro e w1 ⟨rfl, HX⟩
          have HI1 : Hid (LB b w w1 (lgN L k)) := HI.out.ext HX
          have HLn := blen_any b b _ w1 HI1.out.1
          rw [Lib.strCells_length, Hz.out] at HLn
          have HLn' : Hid (Calls Try.prog 26 #[.pointer (some ⟨b, 0, none⟩)] w1 _) := HLn
          clear HX HI HLn HE
          go_wp2_with fail
          refine HLn'.out.mono ?_
          rintro e w3 ⟨rfl, rfl⟩
          clear HLn'
          have HW : Hid (Calls Try.prog 27 #[.pointer (some ⟨b, 0, none⟩), .string F] w3 _) := bwrites_any b b _ F w3 HI1.out.1 hlen HI1.out.2.2
          go_wp2_with fail
          refine HW.out.mono ?_
          rintro e w4 ⟨rfl, HB4, HX4⟩
          have HI4 : Hid (LB b w w4 (lgN L (k + 1))) := by
            rw [HNx.out]
            refine ⟨.inr ?_, HI1.out.2.1.trans HX4, Nat.le_trans HI1.out.2.2 HX4.size⟩
            rw [strCells_app]
            exact HB4
          clear HW HB4 HX4 HI1
          go_wp2
          go_roundw
          case rel => exact ⟨k + 1, hlt, by push_cast; rfl, HKn, HI4⟩
          case measure => exact lp_meas hlt
    · obtain rfl : k = n := by omega
      have hnl : ¬ (k : Int) < (k : Int) := by omega
      have HSt : Hid (Calls Try.prog 28 #[.pointer (some ⟨b, 0, none⟩)] wr _) := bstring_any b b (lgN L k).data.toList _ HI.out.1 HI.out.2.2
      go_wp2_with fail
      refine HSt.out.mono ?_
      rintro e w2 ⟨rfl, HX2⟩
      have HE2 : Hid (Ext w w2) := show Below w.heap.size w w2 from HBw.out ▸ HI.out.2.1.trans HX2
      clear HX2 HSt
      go_wp2
      refine bodyPost_ret (v := .tuple #[.string (lgN L k), .int .i64 0]) (by simp [results, Try.results19, go_sem]) rfl ⟨.inl ⟨HK.out, rfl⟩, HE2.out⟩
end Go.Proofs.Ytenkfbfiombpkaa
