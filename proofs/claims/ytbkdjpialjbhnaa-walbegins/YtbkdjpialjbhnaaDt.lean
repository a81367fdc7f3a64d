/-
  (*disk.Disk).tear, called: sector by sector.
-/
import Derived.Test.YtbkdjpialjbhnaaDw
namespace Go.Proofs.Ytbkdjpialjbhnaa
open Go.RowKit
theorem cr_bit1 (K : Nat) (hK : K < 18446744073709551616) : (bits .and .u64 (K : Int) 1 == 1) = decide (K % 2 = 1) := by
  have := cr_bit K 0 hK
  simpa using this
/-- A disk within a tear. -/
def TR (w : World) (b g S cap y : Nat) (R : Nat → Nat) (wr : World) : Prop :=
  wr.cell? ⟨b, 0, none⟩ = some (.slice (some ⟨g, 0, none⟩) S cap) ∧ wr.cell? ⟨b, 1, none⟩ = some (.int .i64 (y : Int)) ∧ wr.frozen? ⟨b, 0, none⟩ = false ∧ wr.frozen? ⟨b, 1, none⟩ = false ∧ wr.ownsRow 0 5 1 (.slice (some ⟨g, 0, none⟩) S cap) S (lst .u8 R S) ∧ g ≠ b ∧ b < wr.heap.size ∧ Chg (fun k => k = b ∨ some g = some k) w wr
theorem zero5 (w : World) : (zeroValue 5).run Try.prog w = .ok (.int .u8 0) w := by kernel_rfl
theorem TR.clear {w wr : World} {b g S cap y : Nat} {R : Nat → Nat} (h : TR w b g S cap y R wr) {a m : Nat} (hm : a + m ≤ S) (hm0 : 0 < m) (c : Nat) :
    ∃ wz, (Builtin.clear_ #[67] 0 #[.slice (some ⟨g, a, none⟩) m c]).run Try.prog wr = .ok (.tuple #[]) wz ∧ TR w b g S cap y (zer R a m) wz := by
  obtain ⟨h0, h1, h2, h3, h4, h5, h6, h7⟩ := h
  obtain ⟨wz, hr, ho, hg, hs⟩ := own_clear h4 hm hm0 (P := Try.prog) 67 0 Try.underlying67 zero5 c
  have hbk := hg.block b h6 (fun q => h5 (by injection q with q; exact q.symm))
  exact ⟨wz, hr, (World.cell?_of_block (a := ⟨b, 0, none⟩) hbk).trans h0, (World.cell?_of_block (a := ⟨b, 1, none⟩) hbk).trans h1, (World.frozen?_of_block (a := ⟨b, 0, none⟩) hbk).trans h2, (World.frozen?_of_block (a := ⟨b, 1, none⟩) hbk).trans h3, ho, h5, by omega, h7.grown hg (fun k q => .inl (.inr q))⟩
/-- A disk behind a tear: all but what is synced. -/
def TearP (w : World) (b g y : Nat) (T : ByteArray) (w' : World) : Prop := ∃ s', w'.cell? ⟨b, 0, none⟩ = some s' ∧ s'.ownBlock = some g ∧ w'.cell? ⟨b, 1, none⟩ = some (.int .i64 (y : Int)) ∧ w'.frozen? ⟨b, 0, none⟩ = false ∧ w'.frozen? ⟨b, 1, none⟩ = false ∧ b < w'.heap.size ∧
  w'.ownsRow 0 5 1 s' T.size (lst .u8 (sb T) T.size) ∧ Chg (fun k => k = b ∨ some g = some k) w w'
/-- A round's numbers. -/
theorem tr_nums {K y a S K' : Nat} (hK : K < 18446744073709551616) (hya : y ≤ a) (ha : a < S) (_hS : S ≤ 65536) (hK' : K' = K / 2 ^ (a / 64 - y / 64)) :
    y ≤ sEnd a S ∧ a < sEnd a S ∧ sEnd a S ≤ S ∧ K' < 18446744073709551616 ∧ (sEnd a S < S → K' / 2 = K / 2 ^ (sEnd a S / 64 - y / 64)) ∧
      (K' % 2 = 1 → dendF K y (sEnd a S - y) = sEnd a S ∧ ∀ B, dbyte B K y (sEnd a S) = dbyte B K y a) ∧ (¬ K' % 2 = 1 → dendF K y (sEnd a S - y) = dendF K y (a - y) ∧ ∀ B, dbyte B K y (sEnd a S) = zer (dbyte B K y a) a (sEnd a S - a)) := by
  obtain ⟨h1, h2, h3, h4⟩ := sEnd_lt ha
  have hq : y / 64 ≤ a / 64 := Nat.div_le_div_right hya
  obtain ⟨e, he⟩ : ∃ e, sEnd a S = e := ⟨_, rfl⟩
  rw [he] at h1 h2 h3 h4 ⊢
  have hkb : ∀ i, a ≤ i → i < e → kept K y i = decide (K' % 2 = 1) := fun i q1 q2 => by rw [kept_bit hK (h3 i q1 q2), hK']
  refine ⟨by omega, h1, h2, ?_, fun q => ?_, fun q => ⟨?_, fun B => ?_⟩, fun q => ⟨?_, fun B => ?_⟩⟩
  · rw [hK']; exact Nat.lt_of_le_of_lt (Nat.div_le_self _ _) hK
  · rw [hK', half_pow]
    congr 2
    omega
  · rw [dendF_some K y (e - y) (by omega) (by rw [hkb _ (by omega) (by omega), q]; rfl)]; omega
  · obtain ⟨m, rfl⟩ : ∃ m, e = a + m := ⟨e - a, by omega⟩
    exact dbyte_keeps m fun i q1 q2 => by rw [hkb i q1 q2, q]; rfl
  · obtain ⟨m, rfl⟩ : ∃ m, e = a + m := ⟨e - a, by omega⟩
    rw [show a + m - y = (a - y) + m from by omega]
    exact dendF_skip K y (a - y) m fun i q1 q2 => by rw [hkb _ (by omega) (by omega)]; exact decide_eq_false q
  · obtain ⟨m, rfl⟩ : ∃ m, e = a + m := ⟨e - a, by omega⟩
    rw [show a + m - a = m from by omega]
    exact dbyte_zer hya fun i q1 q2 => by rw [hkb _ q1 q2]; exact decide_eq_false q
theorem tr_meas {a e S : Nat} (h : a < e) (h2 : e ≤ S) : S - (intOf (.int .i64 (e : Int))).toNat < S - (intOf (.int .i64 (a : Int))).toNat := by simp [intOf]; omega
set_option maxHeartbeats 4000000 in
theorem dtear_row {T : ByteArray} {y b g cap : Nat} (K : Nat) (hk : dOk T y) (hK : K < 18446744073709551616) (w : World) (h : TR w b g T.size cap y (sb T) w) (hcap : T.size ≤ cap) :
    Calls Try.prog 31 #[.pointer (some ⟨b, 0, none⟩), .int .u64 (K : Int)] w fun e w' => e = .returned (.tuple #[]) ∧ TearP w b g y (dcrash T K y) w' := by
  obtain ⟨S, HS⟩ : ∃ S, Hid (T.size = S) := ⟨_, rfl⟩
  obtain ⟨h1, h2⟩ := hk
  rw [HS.out] at h h1 h2 hcap
  have HT0 : Hid (TR w b g S cap y (dbyte (sb T) K y y) w) := by
    show TR _ _ _ _ _ _ _ _
    rw [show dbyte (sb T) K y y = sb T from funext fun i => dbyte_start _ _ _ i]
    exact h
  have h0 := h.1
  have hy1 := h.2.1
  have hbs : b < w.heap.size := h.2.2.2.2.2.2.1
  clear h
  go_enter Try.func31, Try.ntmps31
  go_wp2_with fail
  go_loopw [1, 4, 5] (fun u1 u4 u5 wr => ∃ a K' : Nat, y ≤ a ∧ a ≤ S ∧ u5 = .int .i64 a ∧ u1 = .int .u64 K' ∧ u4 = .int .i64 (dendF K y (a - y)) ∧ Hid (a < S → K' = K / 2 ^ (a / 64 - y / 64)) ∧ Hid (TR w b g S cap y (dbyte (sb T) K y a) wr)) (fun _ _ u5 _ => S - (intOf u5).toNat)
  case atStart => exact ⟨y, K, Nat.le_refl _, h1, rfl, rfl, by rw [Nat.sub_self]; rfl, (fun _ => by rw [Nat.sub_self]; exact (Nat.div_one K).symm), HT0⟩
  case round =>
    obtain ⟨a, K', hya, haS, rfl, rfl, rfl, HK', HT⟩ := hrel
    clear HT0 h0 hy1
    have t0 := HT.out.1
    have hb : b < wr.heap.size := HT.out.2.2.2.2.2.2.1
    by_cases hlt : a < S
    · obtain ⟨n0, n1, n2, n3, n4, n5, n6⟩ := tr_nums hK hya hlt h2 (HK'.out hlt)
      have hl : (a : Int) < (S : Int) := by omega
      have HC := send_any a S h2 hlt wr
      obtain ⟨e, He⟩ : ∃ e, Hid (sEnd a S = e) := ⟨_, rfl⟩
      rw [He.out] at HC n0 n1 n2 n4 n5 n6
      have hsh : Hid (e < S → K' / 2 = K / 2 ^ (e / 64 - y / 64)) := n4
      have hbit := cr_bit1 K' n3
      by_cases hq : K' % 2 = 1
      · rw [decide_eq_true hq] at hbit
        obtain ⟨d1, d2⟩ := n5 hq
        have D1 : Hid (dendF K y (e - y) = e) := d1
        have HTn : Hid (TR w b g S cap y (dbyte (sb T) K y e) wr) := by show TR _ _ _ _ _ _ _ _; rw [d2]; exact HT.out
        clear n4 n5 n6 d1 d2 HT hq HK'
        go_wp2_with fail
        refine HC.mono ?_
        rintro e1 w1 ⟨rfl, rfl⟩
        go_wp2
        go_roundw
        case rel => exact ⟨e, K' / 2, n0, n2, rfl, by push_cast; rfl, by rw [D1.out], hsh, HTn⟩
        case measure => exact tr_meas n1 n2
      · rw [decide_eq_false hq] at hbit
        obtain ⟨d1, d2⟩ := n6 hq
        have D1 : Hid (dendF K y (e - y) = dendF K y (a - y)) := d1
        obtain ⟨wz, hcl, HTz⟩ := HT.out.clear (a := a) (m := e - a) (by omega) (by omega) (cap - a)
        have HTn : Hid (TR w b g S cap y (dbyte (sb T) K y e) wz) := by show TR _ _ _ _ _ _ _ _; rw [d2]; exact HTz
        have a0 : (0 : Int) ≤ (a : Int) := by omega
        have a1 : (a : Int) ≤ (e : Int) := by omega
        have a2 : (e : Int) ≤ (cap : Int) := by omega
        clear n4 n5 n6 d1 d2 HT hq HK' HTz
        go_wp2_with fail
        refine HC.mono ?_
        rintro e1 w1 ⟨rfl, rfl⟩
        go_wp2
        go_roundw
        case rel => exact ⟨e, K' / 2, n0, n2, rfl, by push_cast; rfl, by rw [D1.out], hsh, HTn⟩
        case measure => exact tr_meas n1 n2
    · obtain rfl : a = S := by omega
      have hnl : ¬ (a : Int) < (a : Int) := by omega
      obtain ⟨E, HEe⟩ : ∃ E, Hid (dendF K y (a - y) = E) := ⟨_, rfl⟩
      have hE : E ≤ a := by have := (dendF_le K y (a - y)).2; rw [HEe.out] at this; omega
      have HR : Hid (dcrash T K y = mkS (dbyte (sb T) K y a) E) := by show dcrash T K y = _; unfold dcrash; rw [HS.out, HEe.out]
      have HRz : Hid ((dcrash T K y).size = E) := by show (dcrash T K y).size = _; rw [HR.out, mkS_len]
      have e1 : (0 : Int) ≤ (E : Int) := by omega
      have e2 : (E : Int) ≤ (cap : Int) := by omega
      obtain ⟨_, t1, t2, t3, t4, t5, _, t7⟩ := HT.out
      have HX : Hid (wr.cell? ⟨b, 1, none⟩ = some (.int .i64 (y : Int)) ∧ wr.frozen? ⟨b, 0, none⟩ = false ∧ wr.frozen? ⟨b, 1, none⟩ = false ∧ wr.ownsRow 0 5 1 (.slice (some ⟨g, 0, none⟩) E cap) E (lst .u8 (dbyte (sb T) K y a) E) ∧ g ≠ b ∧ Chg (fun k => k = b ∨ some g = some k) w wr) := ⟨t1, t2, t3, own_cut t4 hE, t5, t7⟩
      rw [HEe.out]
      clear HT t1 t4 t5 t7
      go_wp2
      refine bodyPost_end (v := .tuple #[]) (by simp [results, Try.results31, go_sem]) rfl ?_
      obtain ⟨t1, t2, t3, t4, t5, t7⟩ := HX.out
      have hne : Value.ownBlock (.slice (some ⟨g, 0, none⟩) E cap) ≠ some b := fun q => t5 (by injection q)
      refine ⟨rfl, .slice (some ⟨g, 0, none⟩) E cap, by simp [World.cell?_setCell_same, t0], rfl, by simp [World.cell?_setCell_other, t1], by simpa using t2, by simpa using t3, by simpa using hb, ?_, Chg.st (.inl (.inl rfl)) t7⟩
      rw [HRz.out]
      have q := own_st t4 (i := 0) (u := .slice (some ⟨g, 0, none⟩) E cap) hne
      rw [lst_congr (S := dbyte (sb T) K y a) fun k hk => by rw [HR.out]; exact mkS_sb hk (dbyte_lt (sb_lt T) _ _ _ _)]
      exact q
set_option maxHeartbeats 1000000 in
theorem dtear_nil (b y K : Nat) (hy : y = 0) (w : World) (hb : b < w.heap.size) (h0 : w.cell? ⟨b, 0, none⟩ = some (.slice none 0 0)) (h1 : w.cell? ⟨b, 1, none⟩ = some (.int .i64 (y : Int))) (h2 : w.frozen? ⟨b, 0, none⟩ = false) :
    Calls Try.prog 31 #[.pointer (some ⟨b, 0, none⟩), .int .u64 (K : Int)] w fun e w' => e = .returned (.tuple #[]) ∧ w' = w.setCell ⟨b, 0, none⟩ (.slice none 0 0) := by
  subst hy
  go_enter Try.func31, Try.ntmps31
  go_wp2_with fail
  go_loopw [1, 4, 5] (fun _ u4 u5 wr => u5 = .int .i64 0 ∧ u4 = .int .i64 0 ∧ wr = w) (fun _ _ _ _ => 0)
  case atStart => exact ⟨rfl, rfl, rfl⟩
  case round =>
    obtain ⟨rfl, rfl, rfl⟩ := hrel
    go_wp2
    refine bodyPost_end (v := .tuple #[]) (by simp [results, Try.results31, go_sem]) rfl ?_
    exact ⟨rfl, rfl⟩
end Go.Proofs.Ytbkdjpialjbhnaa
