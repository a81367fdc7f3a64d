/-
  (*release.Gate).lookAt, called: a clock that stands still opens nothing; a reading opens what it has passed.
-/
import Derived.Test.YtdpplmfgbglkhaaGa
namespace Go.Proofs.Ytdpplmfgbglkhaa
open Go.RowKit
theorem still_passed (w : World) : (method 168 45 (.agg #[]) "sandglass/release.passed").run Try.prog w = .ok (38, .agg #[]) w := by kernel_rfl
theorem read_passed (n : Int) (w : World) : (method 168 51 (.int .i64 n) "sandglass/release.passed").run Try.prog w = .ok (40, .int .i64 n) w := by kernel_rfl
theorem still_now (w : World) : (method 168 45 (.agg #[]) "sandglass/release.now").run Try.prog w = .ok (37, .agg #[]) w := by kernel_rfl
theorem read_now (n : Int) (w : World) : (method 168 51 (.int .i64 n) "sandglass/release.now").run Try.prog w = .ok (39, .int .i64 n) w := by kernel_rfl
theorem still_ahead (w : World) : (nilAhead 168 45 (.agg #[]) "sandglass/release.passed").run Try.prog w = .ok (some false) w := by kernel_rfl
theorem read_ahead (n : Int) (w : World) : (nilAhead 168 51 (.int .i64 n) "sandglass/release.passed").run Try.prog w = .ok (some false) w := by kernel_rfl
theorem look_nil (c : Value) (w : World) : Calls Try.prog 21 #[.pointer none, c] w fun r w' => r = .returned (.tuple #[]) ∧ Ext w w' := by
  go_enter Try.func21, Try.ntmps21
  go_wp2
  refine bodyPost_ret (v := .tuple #[]) (by simp [results, Try.results21, go_sem]) rfl ?_
  exact ⟨rfl, Ext.refl w⟩
/-- What a look with a reading keeps. -/
def LkR (w : World) (g : Nat) (B E M n o0 : Int) (wr : World) : Prop := ∃ o, Lkg B E M n o0 o ∧ GB wr g B E (.iface 51 (.int .i64 n)) o ∧ Chg (fun k => k = g) w wr
/-- How many epochs a look may still open. -/
def lkm (g : Nat) (wr : World) : Nat := 64 - (intOf ((wr.cell? ⟨g, 3, none⟩).getD (.int .i64 0))).toNat
theorem lkm_of {wr : World} {g : Nat} {B E o : Int} {c : Value} (h : GB wr g B E c o) : lkm g wr = 64 - o.toNat := by
  obtain ⟨-, -, -, -, h3, -, -⟩ := h
  unfold lkm
  rw [h3]
  rfl
set_option maxHeartbeats 4000000 in
theorem look_still {w : World} {g : Nat} {B E N M o : Int} {c : Value} (hk : GOk B E N M) (ho : Opn B E M o) (hb : GB w g B E c o) :
    Calls Try.prog 21 #[.pointer (some ⟨g, 0, none⟩), .iface 45 (.agg #[])] w fun r w' => r = .returned (.tuple #[]) ∧ GB w' g B E (.iface 45 (.agg #[])) o ∧ Chg (fun k => k = g) w w' := by
  have HB0 : Hid (GB (w.setCell ⟨g, 2, none⟩ (.iface 45 (.agg #[]))) g B E (.iface 45 (.agg #[])) o) := hb.clock _
  have HC0 : Hid (Chg (fun k => k = g) w (w.setCell ⟨g, 2, none⟩ (.iface 45 (.agg #[])))) := (Chg.refl _ w).st (.inl rfl)
  obtain ⟨-, -, -, c2, -, f2, -⟩ := hb
  obtain ⟨t, ht⟩ : ∃ t, Hid (rT B E o = t) := ⟨_, rfl⟩
  have h0 := ho.o0
  have h1 := ho.o1
  clear ho
  go_enter Try.func21, Try.ntmps21
  go_wp2_with fail
  go_loopw [] (fun wr => Hid (GB wr g B E (.iface 45 (.agg #[])) o) ∧ Hid (Chg (fun k => k = g) w wr)) (fun _ => 0)
  case atStart => exact ⟨HB0, HC0⟩
  case round =>
    obtain ⟨HB, HC⟩ := hrel
    clear HB0 HC0 c2 f2
    by_cases h2 : o ≤ 63
    · have hm1 := still_passed
      have hm2 := still_ahead
      go_wp2_with fail
      refine wp_region_noPanic ?_
      refine wp_region_held (S := Ext wr) (by kernel_rfl) ?_
      rw [show ({ wr with drawn := wr.drawn + 1 } : World) = wr.drew from rfl]
      have hS0 : Ext wr wr.drew := (Ext.refl wr).drew
      refine held_take (i := 0) (v := ?vs0) rfl (by kernel_rfl) (by kernel_rfl) (by kernel_rfl) (fun _ _ _ h => h) rfl ?hys0 hS0 ?rests0
      case hys0 => (intro wx hSx; go_simp; try with_reducible rfl)
      try simp only [Act.put, List.setIfInBounds_toArray, List.set_cons_zero, List.set_cons_succ]
      refine held_take (i := 1) (v := ?vs1) rfl (by kernel_rfl) (by kernel_rfl) (by kernel_rfl) (fun _ _ _ h => h) rfl ?hys1 hS0 ?rests1
      case hys1 => (intro wx hSx; go_simp; try with_reducible rfl)
      try simp only [Act.put, List.setIfInBounds_toArray, List.set_cons_zero, List.set_cons_succ]
      refine held_take (i := 2) (v := ?vs2) rfl (by kernel_rfl) (by kernel_rfl) (by kernel_rfl) (fun _ _ _ h => h) rfl ?hys2 hS0 ?rests2
      case hys2 => (intro wx hSx; go_simp; try with_reducible rfl)
      try simp only [Act.put, List.setIfInBounds_toArray, List.set_cons_zero, List.set_cons_succ]
      refine held_take (i := 3) (v := ?vs3) rfl (by kernel_rfl) (by kernel_rfl) (by kernel_rfl) (fun _ _ _ h => h) rfl ?hys3 hS0 ?rests3
      case hys3 => (intro wx hSx; (have hB := HB.out.ext hSx; obtain ⟨b0, b1, b2, b3, b4, b5, b6⟩ := hB; clear b0 b1 b2 b3 b5 b6; go_simp; try with_reducible rfl))
      try simp only [Act.put, List.setIfInBounds_toArray, List.set_cons_zero, List.set_cons_succ]
      refine held_take (i := 4) (v := ?vs4) rfl (by kernel_rfl) (by kernel_rfl) (by kernel_rfl) (fun _ _ _ h => h) rfl ?hys4 hS0 ?rests4
      case hys4 => (intro wx hSx; go_simp; try with_reducible rfl)
      try simp only [Act.put, List.setIfInBounds_toArray, List.set_cons_zero, List.set_cons_succ]
      refine held_take (i := 5) (v := ?vs5) rfl (by kernel_rfl) (by kernel_rfl) (by kernel_rfl) (fun _ _ _ h => h) rfl ?hys5 hS0 ?rests5
      case hys5 => (intro wx hSx; go_simp; try with_reducible rfl)
      try simp only [Act.put, List.setIfInBounds_toArray, List.set_cons_zero, List.set_cons_succ]
      refine held_take (i := 6) (v := ?vs6) rfl (by kernel_rfl) (by kernel_rfl) (by kernel_rfl) (fun _ _ _ h => h) rfl ?hys6 hS0 ?rests6
      case hys6 => (intro wx hSx; go_simp; try with_reducible rfl)
      try simp only [Act.put, List.setIfInBounds_toArray, List.set_cons_zero, List.set_cons_succ]
      refine held_take (i := 7) (v := ?vs7) rfl (by kernel_rfl) (by kernel_rfl) (by kernel_rfl) (fun _ _ _ h => h) rfl ?hys7 hS0 ?rests7
      case hys7 => (intro wx hSx; go_simp; try with_reducible rfl)
      try simp only [Act.put, List.setIfInBounds_toArray, List.set_cons_zero, List.set_cons_succ]
      refine held_take (i := 8) (v := ?vs8) rfl (by kernel_rfl) (by kernel_rfl) (by kernel_rfl) (fun _ _ _ h => h) rfl ?hys8 hS0 ?rests8
      case hys8 => (intro wx hSx; go_simp; try with_reducible rfl)
      try simp only [Act.put, List.setIfInBounds_toArray, List.set_cons_zero, List.set_cons_succ]
      refine held_take (i := 9) (v := ?vs9) rfl (by kernel_rfl) (by kernel_rfl) (by kernel_rfl) (fun _ _ _ h => h) rfl ?hys9 hS0 ?rests9
      case hys9 => (intro wx hSx; go_simp; try with_reducible rfl)
      try simp only [Act.put, List.setIfInBounds_toArray, List.set_cons_zero, List.set_cons_succ]
      refine held_take (i := 10) (v := ?vs10) rfl (by kernel_rfl) (by kernel_rfl) (by kernel_rfl) (fun _ _ _ h => h) rfl ?hys10 hS0 ?rests10
      case hys10 => (intro wx hSx; go_simp; try with_reducible rfl)
      try simp only [Act.put, List.setIfInBounds_toArray, List.set_cons_zero, List.set_cons_succ]
      refine held_take (i := 11) (v := ?vs11) rfl (by kernel_rfl) (by kernel_rfl) (by kernel_rfl) (fun _ _ _ h => h) rfl ?hys11 hS0 ?rests11
      case hys11 => (intro wx hSx; (have hB := HB.out.ext hSx; obtain ⟨b0, b1, b2, b3, b4, b5, b6⟩ := hB; clear b0 b1 b2 b3 b5 b6; go_simp; try with_reducible rfl))
      try simp only [Act.put, List.setIfInBounds_toArray, List.set_cons_zero, List.set_cons_succ]
      refine held_take (i := 13) (v := ?vs13) rfl (by kernel_rfl) (by kernel_rfl) (by kernel_rfl) (fun _ _ _ h => h) rfl ?hys13 hS0 ?rests13
      case hys13 => (intro wx hSx; go_simp; try with_reducible rfl)
      try simp only [Act.put, List.setIfInBounds_toArray, List.set_cons_zero, List.set_cons_succ]
      refine held_take (i := 14) (v := ?vs14) rfl (by kernel_rfl) (by kernel_rfl) (by kernel_rfl) (fun _ _ _ h => h) rfl ?hys14 hS0 ?rests14
      case hys14 => (intro wx hSx; go_simp; try with_reducible rfl)
      try simp only [Act.put, List.setIfInBounds_toArray, List.set_cons_zero, List.set_cons_succ]
      refine held_take (i := 15) (v := ?vs15) rfl (by kernel_rfl) (by kernel_rfl) (by kernel_rfl) (fun _ _ _ h => h) rfl ?hys15 hS0 ?rests15
      case hys15 => (intro wx hSx; go_simp; try with_reducible rfl)
      try simp only [Act.put, List.setIfInBounds_toArray, List.set_cons_zero, List.set_cons_succ]
      refine held_one (i := 12) (by kernel_rfl) rfl rfl (fun K hK => ?_)
      go_simp
      refine (time_any hk (HB.out.ext hS0) o).mono ?_
      rintro r w1 ⟨rfl, HX⟩
      have hS1 : Ext wr w1 := (hS0).trans HX
      clear HX
      rw [ht.out]
      try go_simp
      refine hK.out _ _ ⟨hS1, ?_⟩
      clear hK K
      try simp only [Act.put, List.setIfInBounds_toArray, List.set_cons_zero, List.set_cons_succ]
      refine held_one (i := 16) (by kernel_rfl) rfl rfl (fun K hK => ?_)
      go_simp
      refine (spassed_any t _).mono ?_
      rintro r w2 ⟨rfl, HX⟩
      have hS2 : Ext wr w2 := (hS1).trans HX
      clear HX
      try go_simp
      refine hK.out _ _ ⟨hS2, ?_⟩
      clear hK K
      try simp only [Act.put, List.setIfInBounds_toArray, List.set_cons_zero, List.set_cons_succ]
      refine held_take (i := 17) (v := ?vs17) rfl (by kernel_rfl) (by kernel_rfl) (by kernel_rfl) (fun _ _ _ h => h) rfl ?hys17 hS2 ?rests17
      case hys17 => (intro wx hSx; go_simp; try with_reducible rfl)
      try simp only [Act.put, List.setIfInBounds_toArray, List.set_cons_zero, List.set_cons_succ]
      refine wpAnyH_done (by kernel_rfl) ?_ _
      refine NoPanic.normal ?_
      have HS : Hid (Ext wr _) := hS2
      clear hS0
      go_wp2
      refine bodyPost_end (v := .tuple #[]) (by simp [results, Try.results21, go_sem]) rfl ?_
      exact ⟨rfl, HB.out.ext HS.out, HC.out.thenExt HS.out⟩
    · have h3 : decide (o ≤ 63) = false := decide_eq_false h2
      go_wp2_with fail
      refine wp_region_noPanic ?_
      refine wp_region_held (S := Ext wr) (by kernel_rfl) ?_
      rw [show ({ wr with drawn := wr.drawn + 1 } : World) = wr.drew from rfl]
      have hS0 : Ext wr wr.drew := (Ext.refl wr).drew
      refine held_take (i := 0) (v := ?vt0) rfl (by kernel_rfl) (by kernel_rfl) (by kernel_rfl) (fun _ _ _ h => h) rfl ?hyt0 hS0 ?restt0
      case hyt0 => (intro wx hSx; go_simp; try with_reducible rfl)
      try simp only [Act.put, List.setIfInBounds_toArray, List.set_cons_zero, List.set_cons_succ]
      refine held_take (i := 1) (v := ?vt1) rfl (by kernel_rfl) (by kernel_rfl) (by kernel_rfl) (fun _ _ _ h => h) rfl ?hyt1 hS0 ?restt1
      case hyt1 => (intro wx hSx; go_simp; try with_reducible rfl)
      try simp only [Act.put, List.setIfInBounds_toArray, List.set_cons_zero, List.set_cons_succ]
      refine held_take (i := 2) (v := ?vt2) rfl (by kernel_rfl) (by kernel_rfl) (by kernel_rfl) (fun _ _ _ h => h) rfl ?hyt2 hS0 ?restt2
      case hyt2 => (intro wx hSx; go_simp; try with_reducible rfl)
      try simp only [Act.put, List.setIfInBounds_toArray, List.set_cons_zero, List.set_cons_succ]
      refine held_take (i := 3) (v := ?vt3) rfl (by kernel_rfl) (by kernel_rfl) (by kernel_rfl) (fun _ _ _ h => h) rfl ?hyt3 hS0 ?restt3
      case hyt3 => (intro wx hSx; (have hB := HB.out.ext hSx; obtain ⟨b0, b1, b2, b3, b4, b5, b6⟩ := hB; clear b0 b1 b2 b3 b5 b6; go_simp; try with_reducible rfl))
      try simp only [Act.put, List.setIfInBounds_toArray, List.set_cons_zero, List.set_cons_succ]
      refine held_take (i := 4) (v := ?vt4) rfl (by kernel_rfl) (by kernel_rfl) (by kernel_rfl) (fun _ _ _ h => h) rfl ?hyt4 hS0 ?restt4
      case hyt4 => (intro wx hSx; go_simp; try with_reducible rfl)
      try simp only [Act.put, List.setIfInBounds_toArray, List.set_cons_zero, List.set_cons_succ]
      refine held_take (i := 5) (v := ?vt5) rfl (by kernel_rfl) (by kernel_rfl) (by kernel_rfl) (fun _ _ _ h => h) rfl ?hyt5 hS0 ?restt5
      case hyt5 => (intro wx hSx; go_simp; try with_reducible rfl)
      try simp only [Act.put, List.setIfInBounds_toArray, List.set_cons_zero, List.set_cons_succ]
      refine held_skip (i := 6) rfl (by kernel_rfl) (by kernel_rfl) (by kernel_rfl) (fun _ _ _ h => h) rfl hS0 ?_
      try simp only [Act.put, List.setIfInBounds_toArray, List.set_cons_zero, List.set_cons_succ]
      refine held_skip (i := 7) rfl (by kernel_rfl) (by kernel_rfl) (by kernel_rfl) (fun _ _ _ h => h) rfl hS0 ?_
      try simp only [Act.put, List.setIfInBounds_toArray, List.set_cons_zero, List.set_cons_succ]
      refine held_skip (i := 8) rfl (by kernel_rfl) (by kernel_rfl) (by kernel_rfl) (fun _ _ _ h => h) rfl hS0 ?_
      try simp only [Act.put, List.setIfInBounds_toArray, List.set_cons_zero, List.set_cons_succ]
      refine held_skip (i := 9) rfl (by kernel_rfl) (by kernel_rfl) (by kernel_rfl) (fun _ _ _ h => h) rfl hS0 ?_
      try simp only [Act.put, List.setIfInBounds_toArray, List.set_cons_zero, List.set_cons_succ]
      refine held_skip (i := 10) rfl (by kernel_rfl) (by kernel_rfl) (by kernel_rfl) (fun _ _ _ h => h) rfl hS0 ?_
      try simp only [Act.put, List.setIfInBounds_toArray, List.set_cons_zero, List.set_cons_succ]
      refine held_skip (i := 11) rfl (by kernel_rfl) (by kernel_rfl) (by kernel_rfl) (fun _ _ _ h => h) rfl hS0 ?_
      try simp only [Act.put, List.setIfInBounds_toArray, List.set_cons_zero, List.set_cons_succ]
      refine held_skip (i := 12) rfl (by kernel_rfl) (by kernel_rfl) (by kernel_rfl) (fun _ _ _ h => h) rfl hS0 ?_
      try simp only [Act.put, List.setIfInBounds_toArray, List.set_cons_zero, List.set_cons_succ]
      refine held_skip (i := 13) rfl (by kernel_rfl) (by kernel_rfl) (by kernel_rfl) (fun _ _ _ h => h) rfl hS0 ?_
      try simp only [Act.put, List.setIfInBounds_toArray, List.set_cons_zero, List.set_cons_succ]
      refine held_skip (i := 14) rfl (by kernel_rfl) (by kernel_rfl) (by kernel_rfl) (fun _ _ _ h => h) rfl hS0 ?_
      try simp only [Act.put, List.setIfInBounds_toArray, List.set_cons_zero, List.set_cons_succ]
      refine held_skip (i := 15) rfl (by kernel_rfl) (by kernel_rfl) (by kernel_rfl) (fun _ _ _ h => h) rfl hS0 ?_
      try simp only [Act.put, List.setIfInBounds_toArray, List.set_cons_zero, List.set_cons_succ]
      refine held_skip (i := 16) rfl (by kernel_rfl) (by kernel_rfl) (by kernel_rfl) (fun _ _ _ h => h) rfl hS0 ?_
      try simp only [Act.put, List.setIfInBounds_toArray, List.set_cons_zero, List.set_cons_succ]
      refine held_take (i := 17) (v := ?vt17) rfl (by kernel_rfl) (by kernel_rfl) (by kernel_rfl) (fun _ _ _ h => h) rfl ?hyt17 hS0 ?restt17
      case hyt17 => (intro wx hSx; go_simp; try with_reducible rfl)
      try simp only [Act.put, List.setIfInBounds_toArray, List.set_cons_zero, List.set_cons_succ]
      refine wpAnyH_done (by kernel_rfl) ?_ _
      refine NoPanic.normal ?_
      have HS : Hid (Ext wr _) := hS0
      clear hS0
      go_wp2
      refine bodyPost_end (v := .tuple #[]) (by simp [results, Try.results21, go_sem]) rfl ?_
      exact ⟨rfl, HB.out.ext HS.out, HC.out.thenExt HS.out⟩
set_option maxHeartbeats 4000000 in
theorem look_read {w : World} {g : Nat} {B E N M n o : Int} {c : Value} (hk : GOk B E N M) (ho : Opn B E M o) (hb : GB w g B E c o) :
    Calls Try.prog 21 #[.pointer (some ⟨g, 0, none⟩), .iface 51 (.int .i64 n)] w fun r w' => r = .returned (.tuple #[]) ∧ (∃ o', Opn B E (max M n) o' ∧ GB w' g B E (.iface 51 (.int .i64 n)) o') ∧ Chg (fun k => k = g) w w' := by
  have HB0 : Hid (GB (w.setCell ⟨g, 2, none⟩ (.iface 51 (.int .i64 n))) g B E (.iface 51 (.int .i64 n)) o) := hb.clock _
  have HC0 : Hid (Chg (fun k => k = g) w (w.setCell ⟨g, 2, none⟩ (.iface 51 (.int .i64 n)))) := (Chg.refl _ w).st (.inl rfl)
  obtain ⟨-, -, -, c2, -, f2, -⟩ := hb
  have HO : Hid (Opn B E M o) := ho
  have HK : Hid (GOk B E N M) := hk
  clear ho hk
  go_enter Try.func21, Try.ntmps21
  go_wp2_with fail
  go_loopw [] (fun wr => ∃ o', Hid (Lkg B E M n o o') ∧ Hid (GB wr g B E (.iface 51 (.int .i64 n)) o') ∧ Hid (Chg (fun k => k = g) w wr)) (fun wr => lkm g wr)
  case atStart => exact ⟨o, Lkg.start n HO.out, HB0, HC0⟩
  case round =>
    obtain ⟨p, HL, HB, HC⟩ := hrel
    clear HB0 HC0 c2 f2
    have hlm := lkm_of HB.out
    have h0 : 0 ≤ p := by have := HL.out.l0; have := HO.out.o0; omega
    have h1 : p ≤ 64 := HL.out.l1
    by_cases h2 : p ≤ 63
    · have hm1 := read_passed n
      have hm2 := read_ahead n
      have hk := HK.out
      obtain ⟨t, ht⟩ : ∃ t, Hid (rT B E p = t) := ⟨_, rfl⟩
      have Ht : Hid (B + p * E = t) := by rw [← rT_in (B := B) (E := E) (by omega) (by omega)]; exact ht
      by_cases h3 : t ≤ n
      · have hd : Hid (decide (t ≤ n) = true) := decide_eq_true h3
        have HL1 : Hid (Lkg B E M n o (p + 1)) := HL.out.step h0 h2 (by rw [Ht.out]; exact h3)
        have hw1 : IntKind.i64.wrap (p + 1) = p + 1 := wz (by omega) (by omega)
        clear h3
        go_wp2_with fail
        refine wp_region_noPanic ?_
        refine wp_region_held (S := Ext wr) (by kernel_rfl) ?_
        rw [show ({ wr with drawn := wr.drawn + 1 } : World) = wr.drew from rfl]
        have hS0 : Ext wr wr.drew := (Ext.refl wr).drew
        refine held_take (i := 0) (v := ?va0) rfl (by kernel_rfl) (by kernel_rfl) (by kernel_rfl) (fun _ _ _ h => h) rfl ?hya0 hS0 ?resta0
        case hya0 => (intro wx hSx; go_simp; try with_reducible rfl)
        try simp only [Act.put, List.setIfInBounds_toArray, List.set_cons_zero, List.set_cons_succ]
        refine held_take (i := 1) (v := ?va1) rfl (by kernel_rfl) (by kernel_rfl) (by kernel_rfl) (fun _ _ _ h => h) rfl ?hya1 hS0 ?resta1
        case hya1 => (intro wx hSx; go_simp; try with_reducible rfl)
        try simp only [Act.put, List.setIfInBounds_toArray, List.set_cons_zero, List.set_cons_succ]
        refine held_take (i := 2) (v := ?va2) rfl (by kernel_rfl) (by kernel_rfl) (by kernel_rfl) (fun _ _ _ h => h) rfl ?hya2 hS0 ?resta2
        case hya2 => (intro wx hSx; go_simp; try with_reducible rfl)
        try simp only [Act.put, List.setIfInBounds_toArray, List.set_cons_zero, List.set_cons_succ]
        refine held_take (i := 3) (v := ?va3) rfl (by kernel_rfl) (by kernel_rfl) (by kernel_rfl) (fun _ _ _ h => h) rfl ?hya3 hS0 ?resta3
        case hya3 => (intro wx hSx; (have hB := HB.out.ext hSx; obtain ⟨b0, b1, b2, b3, b4, b5, b6⟩ := hB; clear b0 b1 b2 b3 b5 b6; go_simp; try with_reducible rfl))
        try simp only [Act.put, List.setIfInBounds_toArray, List.set_cons_zero, List.set_cons_succ]
        refine held_take (i := 4) (v := ?va4) rfl (by kernel_rfl) (by kernel_rfl) (by kernel_rfl) (fun _ _ _ h => h) rfl ?hya4 hS0 ?resta4
        case hya4 => (intro wx hSx; go_simp; try with_reducible rfl)
        try simp only [Act.put, List.setIfInBounds_toArray, List.set_cons_zero, List.set_cons_succ]
        refine held_take (i := 5) (v := ?va5) rfl (by kernel_rfl) (by kernel_rfl) (by kernel_rfl) (fun _ _ _ h => h) rfl ?hya5 hS0 ?resta5
        case hya5 => (intro wx hSx; go_simp; try with_reducible rfl)
        try simp only [Act.put, List.setIfInBounds_toArray, List.set_cons_zero, List.set_cons_succ]
        refine held_take (i := 6) (v := ?va6) rfl (by kernel_rfl) (by kernel_rfl) (by kernel_rfl) (fun _ _ _ h => h) rfl ?hya6 hS0 ?resta6
        case hya6 => (intro wx hSx; go_simp; try with_reducible rfl)
        try simp only [Act.put, List.setIfInBounds_toArray, List.set_cons_zero, List.set_cons_succ]
        refine held_take (i := 7) (v := ?va7) rfl (by kernel_rfl) (by kernel_rfl) (by kernel_rfl) (fun _ _ _ h => h) rfl ?hya7 hS0 ?resta7
        case hya7 => (intro wx hSx; go_simp; try with_reducible rfl)
        try simp only [Act.put, List.setIfInBounds_toArray, List.set_cons_zero, List.set_cons_succ]
        refine held_take (i := 8) (v := ?va8) rfl (by kernel_rfl) (by kernel_rfl) (by kernel_rfl) (fun _ _ _ h => h) rfl ?hya8 hS0 ?resta8
        case hya8 => (intro wx hSx; go_simp; try with_reducible rfl)
        try simp only [Act.put, List.setIfInBounds_toArray, List.set_cons_zero, List.set_cons_succ]
        refine held_take (i := 9) (v := ?va9) rfl (by kernel_rfl) (by kernel_rfl) (by kernel_rfl) (fun _ _ _ h => h) rfl ?hya9 hS0 ?resta9
        case hya9 => (intro wx hSx; go_simp; try with_reducible rfl)
        try simp only [Act.put, List.setIfInBounds_toArray, List.set_cons_zero, List.set_cons_succ]
        refine held_take (i := 10) (v := ?va10) rfl (by kernel_rfl) (by kernel_rfl) (by kernel_rfl) (fun _ _ _ h => h) rfl ?hya10 hS0 ?resta10
        case hya10 => (intro wx hSx; go_simp; try with_reducible rfl)
        try simp only [Act.put, List.setIfInBounds_toArray, List.set_cons_zero, List.set_cons_succ]
        refine held_take (i := 11) (v := ?va11) rfl (by kernel_rfl) (by kernel_rfl) (by kernel_rfl) (fun _ _ _ h => h) rfl ?hya11 hS0 ?resta11
        case hya11 => (intro wx hSx; (have hB := HB.out.ext hSx; obtain ⟨b0, b1, b2, b3, b4, b5, b6⟩ := hB; clear b0 b1 b2 b3 b5 b6; go_simp; try with_reducible rfl))
        try simp only [Act.put, List.setIfInBounds_toArray, List.set_cons_zero, List.set_cons_succ]
        refine held_take (i := 13) (v := ?va13) rfl (by kernel_rfl) (by kernel_rfl) (by kernel_rfl) (fun _ _ _ h => h) rfl ?hya13 hS0 ?resta13
        case hya13 => (intro wx hSx; go_simp; try with_reducible rfl)
        try simp only [Act.put, List.setIfInBounds_toArray, List.set_cons_zero, List.set_cons_succ]
        refine held_take (i := 14) (v := ?va14) rfl (by kernel_rfl) (by kernel_rfl) (by kernel_rfl) (fun _ _ _ h => h) rfl ?hya14 hS0 ?resta14
        case hya14 => (intro wx hSx; go_simp; try with_reducible rfl)
        try simp only [Act.put, List.setIfInBounds_toArray, List.set_cons_zero, List.set_cons_succ]
        refine held_take (i := 15) (v := ?va15) rfl (by kernel_rfl) (by kernel_rfl) (by kernel_rfl) (fun _ _ _ h => h) rfl ?hya15 hS0 ?resta15
        case hya15 => (intro wx hSx; go_simp; try with_reducible rfl)
        try simp only [Act.put, List.setIfInBounds_toArray, List.set_cons_zero, List.set_cons_succ]
        refine held_one (i := 12) (by kernel_rfl) rfl rfl (fun K hK => ?_)
        go_simp
        refine (time_any hk (HB.out.ext hS0) p).mono ?_
        rintro r w1 ⟨rfl, HX⟩
        have hS1 : Ext wr w1 := (hS0).trans HX
        clear HX
        rw [ht.out]
        try go_simp
        refine hK.out _ _ ⟨hS1, ?_⟩
        clear hK K
        try simp only [Act.put, List.setIfInBounds_toArray, List.set_cons_zero, List.set_cons_succ]
        refine held_one (i := 16) (by kernel_rfl) rfl rfl (fun K hK => ?_)
        go_simp
        refine (rpassed_any n t _).mono ?_
        rintro r w2 ⟨rfl, HX⟩
        have hS2 : Ext wr w2 := (hS1).trans HX
        clear HX
        rw [hd.out]
        try go_simp
        refine hK.out _ _ ⟨hS2, ?_⟩
        clear hK K
        try simp only [Act.put, List.setIfInBounds_toArray, List.set_cons_zero, List.set_cons_succ]
        refine held_take (i := 17) (v := ?va17) rfl (by kernel_rfl) (by kernel_rfl) (by kernel_rfl) (fun _ _ _ h => h) rfl ?hya17 hS2 ?resta17
        case hya17 => (intro wx hSx; go_simp; try with_reducible rfl)
        try simp only [Act.put, List.setIfInBounds_toArray, List.set_cons_zero, List.set_cons_succ]
        refine wpAnyH_done (by kernel_rfl) ?_ _
        refine NoPanic.normal ?_
        have HS : Hid (Ext wr _) := hS2
        clear hS0
        have HB2 : Hid (GB w2 g B E (.iface 51 (.int .i64 n)) p) := HB.out.ext HS.out
        have HC2 : Hid (Chg (fun k => k = g) w w2) := HC.out.thenExt HS.out
        have HB3 : Hid (GB (w2.setCell ⟨g, 3, none⟩ (.int .i64 (p + 1))) g B E (.iface 51 (.int .i64 n)) (p + 1)) := HB2.out.more (p + 1)
        have HC3 : Hid (Chg (fun k => k = g) w (w2.setCell ⟨g, 3, none⟩ (.int .i64 (p + 1)))) := Chg.st (b := g) (i := 3) (v := .int .i64 (p + 1)) (.inl rfl) HC2.out
        obtain ⟨b0, -, -, -, b4, -, b6⟩ := HB2.out
        have hlm2 := lkm_of HB3.out
        clear HB HC HS HB2 HC2 hm1 hm2
        go_wp2
        go_roundw
        case rel => exact ⟨p + 1, HL1, HB3, HC3⟩
        case measure => show lkm g _ < lkm g _; omega
      · have hd : Hid (decide (t ≤ n) = false) := decide_eq_false h3
        have HO1 : Hid (Opn B E (max M n) p) := HL.out.done HK.out HO.out (fun _ => by rw [Ht.out]; omega)
        clear h3
        go_wp2_with fail
        refine wp_region_noPanic ?_
        refine wp_region_held (S := Ext wr) (by kernel_rfl) ?_
        rw [show ({ wr with drawn := wr.drawn + 1 } : World) = wr.drew from rfl]
        have hS0 : Ext wr wr.drew := (Ext.refl wr).drew
        refine held_take (i := 0) (v := ?vb0) rfl (by kernel_rfl) (by kernel_rfl) (by kernel_rfl) (fun _ _ _ h => h) rfl ?hyb0 hS0 ?restb0
        case hyb0 => (intro wx hSx; go_simp; try with_reducible rfl)
        try simp only [Act.put, List.setIfInBounds_toArray, List.set_cons_zero, List.set_cons_succ]
        refine held_take (i := 1) (v := ?vb1) rfl (by kernel_rfl) (by kernel_rfl) (by kernel_rfl) (fun _ _ _ h => h) rfl ?hyb1 hS0 ?restb1
        case hyb1 => (intro wx hSx; go_simp; try with_reducible rfl)
        try simp only [Act.put, List.setIfInBounds_toArray, List.set_cons_zero, List.set_cons_succ]
        refine held_take (i := 2) (v := ?vb2) rfl (by kernel_rfl) (by kernel_rfl) (by kernel_rfl) (fun _ _ _ h => h) rfl ?hyb2 hS0 ?restb2
        case hyb2 => (intro wx hSx; go_simp; try with_reducible rfl)
        try simp only [Act.put, List.setIfInBounds_toArray, List.set_cons_zero, List.set_cons_succ]
        refine held_take (i := 3) (v := ?vb3) rfl (by kernel_rfl) (by kernel_rfl) (by kernel_rfl) (fun _ _ _ h => h) rfl ?hyb3 hS0 ?restb3
        case hyb3 => (intro wx hSx; (have hB := HB.out.ext hSx; obtain ⟨b0, b1, b2, b3, b4, b5, b6⟩ := hB; clear b0 b1 b2 b3 b5 b6; go_simp; try with_reducible rfl))
        try simp only [Act.put, List.setIfInBounds_toArray, List.set_cons_zero, List.set_cons_succ]
        refine held_take (i := 4) (v := ?vb4) rfl (by kernel_rfl) (by kernel_rfl) (by kernel_rfl) (fun _ _ _ h => h) rfl ?hyb4 hS0 ?restb4
        case hyb4 => (intro wx hSx; go_simp; try with_reducible rfl)
        try simp only [Act.put, List.setIfInBounds_toArray, List.set_cons_zero, List.set_cons_succ]
        refine held_take (i := 5) (v := ?vb5) rfl (by kernel_rfl) (by kernel_rfl) (by kernel_rfl) (fun _ _ _ h => h) rfl ?hyb5 hS0 ?restb5
        case hyb5 => (intro wx hSx; go_simp; try with_reducible rfl)
        try simp only [Act.put, List.setIfInBounds_toArray, List.set_cons_zero, List.set_cons_succ]
        refine held_take (i := 6) (v := ?vb6) rfl (by kernel_rfl) (by kernel_rfl) (by kernel_rfl) (fun _ _ _ h => h) rfl ?hyb6 hS0 ?restb6
        case hyb6 => (intro wx hSx; go_simp; try with_reducible rfl)
        try simp only [Act.put, List.setIfInBounds_toArray, List.set_cons_zero, List.set_cons_succ]
        refine held_take (i := 7) (v := ?vb7) rfl (by kernel_rfl) (by kernel_rfl) (by kernel_rfl) (fun _ _ _ h => h) rfl ?hyb7 hS0 ?restb7
        case hyb7 => (intro wx hSx; go_simp; try with_reducible rfl)
        try simp only [Act.put, List.setIfInBounds_toArray, List.set_cons_zero, List.set_cons_succ]
        refine held_take (i := 8) (v := ?vb8) rfl (by kernel_rfl) (by kernel_rfl) (by kernel_rfl) (fun _ _ _ h => h) rfl ?hyb8 hS0 ?restb8
        case hyb8 => (intro wx hSx; go_simp; try with_reducible rfl)
        try simp only [Act.put, List.setIfInBounds_toArray, List.set_cons_zero, List.set_cons_succ]
        refine held_take (i := 9) (v := ?vb9) rfl (by kernel_rfl) (by kernel_rfl) (by kernel_rfl) (fun _ _ _ h => h) rfl ?hyb9 hS0 ?restb9
        case hyb9 => (intro wx hSx; go_simp; try with_reducible rfl)
        try simp only [Act.put, List.setIfInBounds_toArray, List.set_cons_zero, List.set_cons_succ]
        refine held_take (i := 10) (v := ?vb10) rfl (by kernel_rfl) (by kernel_rfl) (by kernel_rfl) (fun _ _ _ h => h) rfl ?hyb10 hS0 ?restb10
        case hyb10 => (intro wx hSx; go_simp; try with_reducible rfl)
        try simp only [Act.put, List.setIfInBounds_toArray, List.set_cons_zero, List.set_cons_succ]
        refine held_take (i := 11) (v := ?vb11) rfl (by kernel_rfl) (by kernel_rfl) (by kernel_rfl) (fun _ _ _ h => h) rfl ?hyb11 hS0 ?restb11
        case hyb11 => (intro wx hSx; (have hB := HB.out.ext hSx; obtain ⟨b0, b1, b2, b3, b4, b5, b6⟩ := hB; clear b0 b1 b2 b3 b5 b6; go_simp; try with_reducible rfl))
        try simp only [Act.put, List.setIfInBounds_toArray, List.set_cons_zero, List.set_cons_succ]
        refine held_take (i := 13) (v := ?vb13) rfl (by kernel_rfl) (by kernel_rfl) (by kernel_rfl) (fun _ _ _ h => h) rfl ?hyb13 hS0 ?restb13
        case hyb13 => (intro wx hSx; go_simp; try with_reducible rfl)
        try simp only [Act.put, List.setIfInBounds_toArray, List.set_cons_zero, List.set_cons_succ]
        refine held_take (i := 14) (v := ?vb14) rfl (by kernel_rfl) (by kernel_rfl) (by kernel_rfl) (fun _ _ _ h => h) rfl ?hyb14 hS0 ?restb14
        case hyb14 => (intro wx hSx; go_simp; try with_reducible rfl)
        try simp only [Act.put, List.setIfInBounds_toArray, List.set_cons_zero, List.set_cons_succ]
        refine held_take (i := 15) (v := ?vb15) rfl (by kernel_rfl) (by kernel_rfl) (by kernel_rfl) (fun _ _ _ h => h) rfl ?hyb15 hS0 ?restb15
        case hyb15 => (intro wx hSx; go_simp; try with_reducible rfl)
        try simp only [Act.put, List.setIfInBounds_toArray, List.set_cons_zero, List.set_cons_succ]
        refine held_one (i := 12) (by kernel_rfl) rfl rfl (fun K hK => ?_)
        go_simp
        refine (time_any hk (HB.out.ext hS0) p).mono ?_
        rintro r w1 ⟨rfl, HX⟩
        have hS1 : Ext wr w1 := (hS0).trans HX
        clear HX
        rw [ht.out]
        try go_simp
        refine hK.out _ _ ⟨hS1, ?_⟩
        clear hK K
        try simp only [Act.put, List.setIfInBounds_toArray, List.set_cons_zero, List.set_cons_succ]
        refine held_one (i := 16) (by kernel_rfl) rfl rfl (fun K hK => ?_)
        go_simp
        refine (rpassed_any n t _).mono ?_
        rintro r w2 ⟨rfl, HX⟩
        have hS2 : Ext wr w2 := (hS1).trans HX
        clear HX
        rw [hd.out]
        try go_simp
        refine hK.out _ _ ⟨hS2, ?_⟩
        clear hK K
        try simp only [Act.put, List.setIfInBounds_toArray, List.set_cons_zero, List.set_cons_succ]
        refine held_take (i := 17) (v := ?vb17) rfl (by kernel_rfl) (by kernel_rfl) (by kernel_rfl) (fun _ _ _ h => h) rfl ?hyb17 hS2 ?restb17
        case hyb17 => (intro wx hSx; go_simp; try with_reducible rfl)
        try simp only [Act.put, List.setIfInBounds_toArray, List.set_cons_zero, List.set_cons_succ]
        refine wpAnyH_done (by kernel_rfl) ?_ _
        refine NoPanic.normal ?_
        have HS : Hid (Ext wr _) := hS2
        clear hS0
        go_wp2
        refine bodyPost_end (v := .tuple #[]) (by simp [results, Try.results21, go_sem]) rfl ?_
        exact ⟨rfl, ⟨p, HO1.out, HB.out.ext HS.out⟩, HC.out.thenExt HS.out⟩
    · have h3 : decide (p ≤ 63) = false := decide_eq_false h2
      have HO1 : Hid (Opn B E (max M n) p) := HL.out.done HK.out HO.out (fun q => absurd q h2)
      go_wp2_with fail
      refine wp_region_noPanic ?_
      refine wp_region_held (S := Ext wr) (by kernel_rfl) ?_
      rw [show ({ wr with drawn := wr.drawn + 1 } : World) = wr.drew from rfl]
      have hS0 : Ext wr wr.drew := (Ext.refl wr).drew
      refine held_take (i := 0) (v := ?vc0) rfl (by kernel_rfl) (by kernel_rfl) (by kernel_rfl) (fun _ _ _ h => h) rfl ?hyc0 hS0 ?restc0
      case hyc0 => (intro wx hSx; go_simp; try with_reducible rfl)
      try simp only [Act.put, List.setIfInBounds_toArray, List.set_cons_zero, List.set_cons_succ]
      refine held_take (i := 1) (v := ?vc1) rfl (by kernel_rfl) (by kernel_rfl) (by kernel_rfl) (fun _ _ _ h => h) rfl ?hyc1 hS0 ?restc1
      case hyc1 => (intro wx hSx; go_simp; try with_reducible rfl)
      try simp only [Act.put, List.setIfInBounds_toArray, List.set_cons_zero, List.set_cons_succ]
      refine held_take (i := 2) (v := ?vc2) rfl (by kernel_rfl) (by kernel_rfl) (by kernel_rfl) (fun _ _ _ h => h) rfl ?hyc2 hS0 ?restc2
      case hyc2 => (intro wx hSx; go_simp; try with_reducible rfl)
      try simp only [Act.put, List.setIfInBounds_toArray, List.set_cons_zero, List.set_cons_succ]
      refine held_take (i := 3) (v := ?vc3) rfl (by kernel_rfl) (by kernel_rfl) (by kernel_rfl) (fun _ _ _ h => h) rfl ?hyc3 hS0 ?restc3
      case hyc3 => (intro wx hSx; (have hB := HB.out.ext hSx; obtain ⟨b0, b1, b2, b3, b4, b5, b6⟩ := hB; clear b0 b1 b2 b3 b5 b6; go_simp; try with_reducible rfl))
      try simp only [Act.put, List.setIfInBounds_toArray, List.set_cons_zero, List.set_cons_succ]
      refine held_take (i := 4) (v := ?vc4) rfl (by kernel_rfl) (by kernel_rfl) (by kernel_rfl) (fun _ _ _ h => h) rfl ?hyc4 hS0 ?restc4
      case hyc4 => (intro wx hSx; go_simp; try with_reducible rfl)
      try simp only [Act.put, List.setIfInBounds_toArray, List.set_cons_zero, List.set_cons_succ]
      refine held_take (i := 5) (v := ?vc5) rfl (by kernel_rfl) (by kernel_rfl) (by kernel_rfl) (fun _ _ _ h => h) rfl ?hyc5 hS0 ?restc5
      case hyc5 => (intro wx hSx; go_simp; try with_reducible rfl)
      try simp only [Act.put, List.setIfInBounds_toArray, List.set_cons_zero, List.set_cons_succ]
      refine held_skip (i := 6) rfl (by kernel_rfl) (by kernel_rfl) (by kernel_rfl) (fun _ _ _ h => h) rfl hS0 ?_
      try simp only [Act.put, List.setIfInBounds_toArray, List.set_cons_zero, List.set_cons_succ]
      refine held_skip (i := 7) rfl (by kernel_rfl) (by kernel_rfl) (by kernel_rfl) (fun _ _ _ h => h) rfl hS0 ?_
      try simp only [Act.put, List.setIfInBounds_toArray, List.set_cons_zero, List.set_cons_succ]
      refine held_skip (i := 8) rfl (by kernel_rfl) (by kernel_rfl) (by kernel_rfl) (fun _ _ _ h => h) rfl hS0 ?_
      try simp only [Act.put, List.setIfInBounds_toArray, List.set_cons_zero, List.set_cons_succ]
      refine held_skip (i := 9) rfl (by kernel_rfl) (by kernel_rfl) (by kernel_rfl) (fun _ _ _ h => h) rfl hS0 ?_
      try simp only [Act.put, List.setIfInBounds_toArray, List.set_cons_zero, List.set_cons_succ]
      refine held_skip (i := 10) rfl (by kernel_rfl) (by kernel_rfl) (by kernel_rfl) (fun _ _ _ h => h) rfl hS0 ?_
      try simp only [Act.put, List.setIfInBounds_toArray, List.set_cons_zero, List.set_cons_succ]
      refine held_skip (i := 11) rfl (by kernel_rfl) (by kernel_rfl) (by kernel_rfl) (fun _ _ _ h => h) rfl hS0 ?_
      try simp only [Act.put, List.setIfInBounds_toArray, List.set_cons_zero, List.set_cons_succ]
      refine held_skip (i := 12) rfl (by kernel_rfl) (by kernel_rfl) (by kernel_rfl) (fun _ _ _ h => h) rfl hS0 ?_
      try simp only [Act.put, List.setIfInBounds_toArray, List.set_cons_zero, List.set_cons_succ]
      refine held_skip (i := 13) rfl (by kernel_rfl) (by kernel_rfl) (by kernel_rfl) (fun _ _ _ h => h) rfl hS0 ?_
      try simp only [Act.put, List.setIfInBounds_toArray, List.set_cons_zero, List.set_cons_succ]
      refine held_skip (i := 14) rfl (by kernel_rfl) (by kernel_rfl) (by kernel_rfl) (fun _ _ _ h => h) rfl hS0 ?_
      try simp only [Act.put, List.setIfInBounds_toArray, List.set_cons_zero, List.set_cons_succ]
      refine held_skip (i := 15) rfl (by kernel_rfl) (by kernel_rfl) (by kernel_rfl) (fun _ _ _ h => h) rfl hS0 ?_
      try simp only [Act.put, List.setIfInBounds_toArray, List.set_cons_zero, List.set_cons_succ]
      refine held_skip (i := 16) rfl (by kernel_rfl) (by kernel_rfl) (by kernel_rfl) (fun _ _ _ h => h) rfl hS0 ?_
      try simp only [Act.put, List.setIfInBounds_toArray, List.set_cons_zero, List.set_cons_succ]
      refine held_take (i := 17) (v := ?vc17) rfl (by kernel_rfl) (by kernel_rfl) (by kernel_rfl) (fun _ _ _ h => h) rfl ?hyc17 hS0 ?restc17
      case hyc17 => (intro wx hSx; go_simp; try with_reducible rfl)
      try simp only [Act.put, List.setIfInBounds_toArray, List.set_cons_zero, List.set_cons_succ]
      refine wpAnyH_done (by kernel_rfl) ?_ _
      refine NoPanic.normal ?_
      have HS : Hid (Ext wr _) := hS0
      clear hS0
      go_wp2
      refine bodyPost_end (v := .tuple #[]) (by simp [results, Try.results21, go_sem]) rfl ?_
      exact ⟨rfl, ⟨p, HO1.out, HB.out.ext HS.out⟩, HC.out.thenExt HS.out⟩
end Go.Proofs.Ytdpplmfgbglkhaa
