/-
  sandglassref20.Take, called: a send that counts.
-/
import Derived.Test.YtmibekclhnkhnaaRc
namespace Go.Proofs.Ytmibekclhnkhnaa
open Go.RowKit
theorem mcs_snoc (O : List Msg) (x : Msg) : mcs O ++ [.int .i64 x.kd, .int .i64 x.fr, .string x.bd] = mcs (O ++ [x]) := by rw [mcs_app]; rfl
theorem len_snoc (O : List Msg) (x : Msg) : (O ++ [x]).length = O.length + 1 := by simp
theorem slv_new (w : World) (x y : Int) (B : ByteArray) (t : TypeId) : SlV (w.alloc (.cells #[.int .i64 x, .int .i64 y, .string B] t)) (.slice (some ⟨w.heap.size, 0, none⟩) 1 1) 1 [.int .i64 x, .int .i64 y, .string B] :=
  .inr ⟨_, _, _, rfl, fun j z hj => by
    have h3 : j < 3 := (List.getElem?_eq_some_iff.1 hj).1
    have h3 : j = 0 ∨ j = 1 ∨ j = 2 := by omega
    rw [World.cell?_alloc_at _ _ _ _ rfl]
    rcases h3 with rfl | rfl | rfl <;> exact hj⟩
theorem slv_new' (w : World) (x y : Int) (B : ByteArray) (t : TypeId) {b : Nat} (hb : w.heap.size = b) : SlV (w.alloc (.cells #[.int .i64 x, .int .i64 y, .string B] t)) (.slice (some ⟨b, 0, none⟩) 1 1) 1 [.int .i64 x, .int .i64 y, .string B] := by
  subst hb
  exact slv_new w x y B t
theorem one3 (x y : Int) (B : ByteArray) : ∀ u ∈ ([.int .i64 x, .int .i64 y, .string B] : List Value), u.oneCell' = true := by
  intro u hu
  simp at hu
  rcases hu with rfl | rfl | rfl <;> rfl
theorem slv_grown {w w' : World} {u : Value} {m : Nat} {news : List Value} {row : Option Nat} (h : SlV w u m news) (hg : w.grownBy w' row) (hb : ∀ b o c, u = .slice (some ⟨b, o, none⟩) m c → b < w.heap.size ∧ row ≠ some b) : SlV w' u m news := by
  rcases h with h | ⟨b, o, c, rfl, h⟩
  · exact .inl h
  · obtain ⟨h1, h2⟩ := hb b o c rfl
    exact .inr ⟨b, o, c, rfl, fun j x hj => (World.cell?_of_block (a := ⟨b, o + j, none⟩) (hg.block b h1 (fun q => h2 q.symm))).trans (h j x hj)⟩
/-- The row of messages with one more, in a block since y0. -/
theorem own_more {y : World} {base : Nat} {v : Value} {L : List Msg} {m : Msg} (h : y.ownsRow base 38 3 v (L.length + 1) (mcs L ++ [.int .i64 m.kd, .int .i64 m.fr, .string m.bd])) : y.ownsRow base 38 3 v (L ++ [m]).length (mcs (L ++ [m])) := by rw [len_snoc, ← mcs_snoc]; exact h
theorem own_slice {w : World} {base sz n : Nat} {e : TypeId} {v : Value} {xs : List Value} (h : w.ownsRow base e sz v n xs) : ∃ a c, v = .slice a n c := by
  rcases h.2 with ⟨rfl, rfl⟩ | ⟨g, cap, cur, rfl, _⟩
  · exact ⟨none, 0, rfl⟩
  · exact ⟨_, cap, rfl⟩
set_option maxRecDepth 100000 in
set_option maxHeartbeats 2000000 in
theorem rtake_good1 {N T F : Nat} {s : St} {u : Value} (m : Msg) (hok : Ok N T F s) (hT : hasQ N T) (hc : ctsB N F s.L m = true) (hk : m.kd = 1) (hl : s.L.length ≤ 900) (w : World) (hu : w.ownsRow 0 38 3 u s.L.length (mcs s.L)) :
    Calls Try.prog 14 #[rC N T F u s.rb.isSome s.tb.isSome (s.tb.getD ⟨#[]⟩), mv3 m] w fun e w' => RkP N T F s m u w e w' := by
  have hm := cts_may hc
  have HF : Hid (∀ w' u2 q, w'.ownsRow 0 38 3 u2 (s.L ++ [m]).length (mcs (s.L ++ [m])) → (∀ b, u2.ownBlock = some b → u.ownBlock = some b ∨ w.heap.size ≤ b) → w'.ownsRow w.heap.size 38 3 q (ecL m ++ rdL (rrd N T s.rb.isSome (s.L ++ [m]) m.bd) m.bd).length (mcs (ecL m ++ rdL (rrd N T s.rb.isSome (s.L ++ [m]) m.bd) m.bd)) → Ext w w' → (∀ b, u2.ownBlock = some b → q.ownBlock ≠ some b) →
      RkP N T F s m u w (.returned (.tuple #[rC N T F u2 (s.rb.isSome || rrd N T s.rb.isSome (s.L ++ [m]) m.bd) (s.tb.isSome || rdn T s.tb.isSome (s.L ++ [m]) m.bd) (if rdn T s.tb.isSome (s.L ++ [m]) m.bd then m.bd else s.tb.getD ⟨#[]⟩), q])) w') := fun w' u2 q h1 h2 h3 h4 h5 => by
    unfold RkP
    rw [ref_is hok hc]
    refine ⟨u2, q, ?_, h1, h2, h3, h4, h5⟩
    have a1 : (if rrd N T s.rb.isSome (s.L ++ [m]) m.bd then some m.bd else s.rb).isSome = (s.rb.isSome || rrd N T s.rb.isSome (s.L ++ [m]) m.bd) := by cases rrd N T s.rb.isSome (s.L ++ [m]) m.bd <;> simp
    have a2 : (if rdn T s.tb.isSome (s.L ++ [m]) m.bd then some m.bd else s.tb).isSome = (s.tb.isSome || rdn T s.tb.isSome (s.L ++ [m]) m.bd) := by cases rdn T s.tb.isSome (s.L ++ [m]) m.bd <;> simp
    have a3 : (if rdn T s.tb.isSome (s.L ++ [m]) m.bd then some m.bd else s.tb).getD ⟨#[]⟩ = (if rdn T s.tb.isSome (s.L ++ [m]) m.bd then m.bd else s.tb.getD ⟨#[]⟩) := by cases rdn T s.tb.isSome (s.L ++ [m]) m.bd <;> rfl
    rw [a1, a2, a3]
  have HUB : Hid (∀ b, u.ownBlock = some b → b < w.heap.size) := fun b q => (hu.lt b q).2
  obtain ⟨a, cap, e, _⟩ := own_ms hu
  obtain ⟨L, hL⟩ : ∃ L, s.L = L := ⟨_, rfl⟩
  obtain ⟨n, HN⟩ : ∃ n, Hid (L.length = n) := ⟨_, rfl⟩
  obtain ⟨kd, fr, bd⟩ := m
  have HH : Hid (hrd L kd fr = false) := by show _ = _; rw [← hL]; exact cts_new hc
  obtain ⟨h1, h2, h3, h4, h5, h6⟩ := may_iff.1 hm
  replace h1 : ¬ fr < 1 := by simp at h1; omega
  replace h2 : ¬ (N : Int) < fr := by simp at h2; omega
  replace h3 : ¬ kd < 1 := by simp at h3; omega
  replace h4 : ¬ 3 < kd := by simp at h4; omega
  replace h5 : ¬ (4096 : Int) < (bd.size : Int) := by simp at h5; omega
  replace hk : kd = 1 := hk
  subst hk
  have e3 : fr = (F : Int) := h6 rfl
  have e4 : (fr == (F : Int)) = true := by simpa using e3
  clear h6 h3 h4 e3
  rw [hL] at hl
  have HU : Hid (w.ownsRow 0 38 3 (.slice a n cap) L.length (mcs L)) := by rw [HN.out, ← hL, ← HN.out, ← hL, ← e]; exact hu
  have HP : Hid (∀ w' u2 q, w'.ownsRow 0 38 3 u2 (L ++ [(⟨1, fr, bd⟩ : Msg)]).length (mcs (L ++ [(⟨1, fr, bd⟩ : Msg)])) → (∀ b, u2.ownBlock = some b → w.heap.size ≤ b) → w'.ownsRow w.heap.size 38 3 q ([(⟨2, 0, bd⟩ : Msg)] ++ rdL (rrd N T s.rb.isSome (L ++ [(⟨1, fr, bd⟩ : Msg)]) bd) bd).length (mcs ([(⟨2, 0, bd⟩ : Msg)] ++ rdL (rrd N T s.rb.isSome (L ++ [(⟨1, fr, bd⟩ : Msg)]) bd) bd)) → Ext w w' → (∀ b, u2.ownBlock = some b → q.ownBlock ≠ some b) →
      RkP N T F s ⟨1, fr, bd⟩ (.slice a n cap) w (.returned (.tuple #[rC N T F u2 (s.rb.isSome || rrd N T s.rb.isSome (L ++ [(⟨1, fr, bd⟩ : Msg)]) bd) (s.tb.isSome || rdn T s.tb.isSome (L ++ [(⟨1, fr, bd⟩ : Msg)]) bd) (if rdn T s.tb.isSome (L ++ [(⟨1, fr, bd⟩ : Msg)]) bd then bd else s.tb.getD ⟨#[]⟩), q])) w') := fun w' u2 q h1 h2 h3 h4 h5 => by
    have q := HF.out w' u2 q
    rw [hL, e, hL, HN.out, show ecL ⟨1, fr, bd⟩ = [(⟨2, 0, bd⟩ : Msg)] from if_pos rfl] at q
    exact q h1 (fun b z => .inr (h2 b z)) h3 h4 h5
  rw [e, hL, HN.out]
  clear hu e hm hL HF hok hc HUB
  generalize s.rb.isSome = rd at *
  generalize s.tb.isSome = dn at *
  generalize s.tb.getD ⟨#[]⟩ = B at *
  obtain ⟨L3, HL3⟩ : ∃ L3, Hid (L ++ [(⟨1, fr, bd⟩ : Msg)] = L3) := ⟨_, rfl⟩
  obtain ⟨n3, HN3⟩ : ∃ n3, Hid (L3.length = n3) := ⟨_, rfl⟩
  have hl3 : n3 ≤ 901 := by rw [← HN3.out, ← HL3.out, len_snoc]; omega
  rw [HL3.out] at HP
  obtain ⟨cE, HcE⟩ : ∃ cE, Hid (cnt L3 2 bd = cE) := ⟨_, rfl⟩
  obtain ⟨cR, HcR⟩ : ∃ cR, Hid (cnt L3 3 bd = cR) := ⟨_, rfl⟩
  obtain ⟨rr, Hrr⟩ : ∃ rr, Hid (rrd N T rd L3 bd = rr) := ⟨_, rfl⟩
  obtain ⟨dd, Hdd⟩ : ∃ dd, Hid (rdn T dn L3 bd = dd) := ⟨_, rfl⟩
  rw [Hrr.out, Hdd.out] at HP
  have Hrr2 : Hid (rr = (!rd && (decide (qm N T ≤ cE) || decide (T < cR)))) := by show _ = _; rw [← Hrr.out, ← HcE.out, ← HcR.out]; rfl
  have Hdd2 : Hid (dd = (!dn && decide (2 * T < cR))) := by show _ = _; rw [← Hdd.out, ← HcR.out]; rfl
  have HQ : Hid (∀ W, Calls Try.prog 9 #[.int .i64 (N : Int), .int .i64 (T : Int)] W fun e w' => e = .returned (.int .i64 (qm N T : Int)) ∧ w' = W) := fun W => by
    have := rquorum_any N T W
    rw [qI_nat hT] at this
    exact this
  have g2 : IntKind.i64.wrap (2 * (T : Int)) = 2 * (T : Int) := by rw [IntKind.wrap_i64]; obtain ⟨a1, a2, _⟩ := hT; omega
  clear hT
  generalize qm N T = Q at *
  have HC2 : Hid (∀ W a3 c3 rd2 dn2 B2 q O, RS w N T F ⟨1, fr, bd⟩ (.slice a3 n3 c3) L3 rd2 dn2 B2 q O W → Calls Try.prog 19 #[rC N T F (.slice a3 n3 c3) rd2 dn2 B2, .int .i64 2, .string bd] W fun e w' => e = .returned (.int .i64 (cE : Int)) ∧ Ext W w') := fun W a3 c3 rd2 dn2 B2 q O h => by
    have h2 := own_ms h.hu
    rw [← HN3.out] at h2 ⊢
    have := rcount_any N T F a3 c3 L3 rd2 dn2 B2 2 bd (by rw [HN3.out]; omega) W h2
    rw [HcE.out] at this
    exact this
  have HC3 : Hid (∀ W a3 c3 rd2 dn2 B2 q O, RS w N T F ⟨1, fr, bd⟩ (.slice a3 n3 c3) L3 rd2 dn2 B2 q O W → Calls Try.prog 19 #[rC N T F (.slice a3 n3 c3) rd2 dn2 B2, .int .i64 3, .string bd] W fun e w' => e = .returned (.int .i64 (cR : Int)) ∧ Ext W w') := fun W a3 c3 rd2 dn2 B2 q O h => by
    have h2 := own_ms h.hu
    rw [← HN3.out] at h2 ⊢
    have := rcount_any N T F a3 c3 L3 rd2 dn2 B2 3 bd (by rw [HN3.out]; omega) W h2
    rw [HcR.out] at this
    exact this
  clear HcE HcR Hrr Hdd
  have HR : Hid (RS w N T F ⟨1, fr, bd⟩ (.slice a n cap) L rd dn B (.slice none 0 0) [] (((w.alloc (.cells #[.int .i64 (N : Int), .int .i64 (T : Int), .int .i64 (F : Int), .slice a n cap, .bool rd, .bool dn, .string B] 32)).alloc (.cells #[.int .i64 1, .int .i64 fr, .string bd] 38)).alloc (.cells #[.int .i64 0, .int .i64 0, .int .i64 0, .slice none 0 0, .bool false, .bool false, .string ⟨#[]⟩] 32))) := RS.new ⟨1, fr, bd⟩ HU.out #[.int .i64 0, .int .i64 0, .int .i64 0, .slice none 0 0, .bool false, .bool false, .string ⟨#[]⟩] 32 38 32 rfl
  go_enter Try.func14, Try.ntmps14
  go_wp2
  generalize (((w.alloc (.cells #[.int .i64 (N : Int), .int .i64 (T : Int), .int .i64 (F : Int), .slice a n cap, .bool rd, .bool dn, .string B] 32)).alloc (.cells #[.int .i64 1, .int .i64 fr, .string bd] 38)).alloc (.cells #[.int .i64 0, .int .i64 0, .int .i64 0, .slice none 0 0, .bool false, .bool false, .string ⟨#[]⟩] 32)) = Y at *
  go_loopw [6] (fun u6 wr => ∃ j : Nat, j ≤ n ∧ u6 = .int .i64 j ∧ Hid (RS w N T F ⟨1, fr, bd⟩ (.slice a n cap) L rd dn B (.slice none 0 0) [] wr)) (fun u6 _ => n - (intOf u6).toNat)
  case atStart => exact ⟨0, Nat.zero_le _, rfl, HR⟩
  case round =>
    obtain ⟨j, hj, rfl, HS⟩ := hrel
    clear HR
    have q1 := (HS.out.hc.2 3 (by decide)).1
    have c3 : wr.cell? ⟨w.heap.size, 3, none⟩ = some (.slice a n cap) := q1
    have hb0 := HS.out.hc.1
    have hb1 := HS.out.hm.1
    have m0 : wr.cell? ⟨w.heap.size + 1, 0, none⟩ = some (.int .i64 1) := (HS.out.hm.2 0 (by decide)).1
    have m1 : wr.cell? ⟨w.heap.size + 1, 1, none⟩ = some (.int .i64 fr) := (HS.out.hm.2 1 (by decide)).1
    clear q1
    by_cases hlt : j < n
    · clear HP HC2 HC3 HQ
      obtain ⟨q1, q0, qw⟩ := lp_nums j n hlt (by have := HN.out; omega)
      obtain ⟨x, hx⟩ : ∃ x, L[j]? = some x := ⟨L[j]'(by rw [HN.out]; exact hlt), List.getElem?_eq_getElem _⟩
      have HL2 : MsIs wr (.slice a L.length cap) L := by have := own_ms HS.out.hu; rw [HN.out] at *; exact this
      obtain ⟨g, o, rfl, hbl, hd0, hd1, hd2⟩ := HL2.get hx
      clear HL2
      have HNo : Hid (x.kd = 1 → ¬ x.fr = fr) := fun e1 e2 => by
        have := hrd_mem.2 ⟨x, List.mem_of_getElem? hx, e1, e2⟩
        rw [HH.out] at this
        cases this
      by_cases e1 : x.kd = 1
      · have b1 : (x.kd == 1) = true := by simpa using e1
        have b2 : (x.fr == fr) = false := by simpa using HNo.out e1
        clear HNo
        go_wp2_with fail
        go_quiet (fail)
        go_wp2
        go_roundw
        case rel => exact ⟨j + 1, hlt, by push_cast; rfl, HS.out.further ((Ext.refl _).drewN _)⟩
        case measure => exact lp_meas hlt
      · have b1 : (x.kd == 1) = false := by simpa using e1
        clear HNo
        go_wp2_with fail
        go_quiet (fail)
        go_wp2
        go_roundw
        case rel => exact ⟨j + 1, hlt, by push_cast; rfl, HS.out.further ((Ext.refl _).drewN _)⟩
        case measure => exact lp_meas hlt
    · obtain rfl : j = n := by omega
      have hnl : ¬ (j : Int) < (j : Int) := by omega
      clear HH hlt
      go_upto_region 8 with fail
      go_cut [] (fun wx => ∃ a3 c3, RS w N T F ⟨1, fr, bd⟩ (.slice a3 n3 c3) L3 rd dn B (.slice none 0 0) [] wx ∧ ∀ b, Value.ownBlock (.slice a3 n3 c3) = some b → w.heap.size ≤ b)
      case first =>
        have HS0 : RS w N T F ⟨1, fr, bd⟩ (.slice a j cap) L rd dn B (.slice none 0 0) [] wr.drew := HS.out.further (Ext.refl wr).drew
        clear HP HC2 HC3 HQ c3 m0 m1 hb0 hb1
        refine wp_region_noPanic ?_
        refine wp_region_until (X := 7) (S := fun wx => RS w N T F ⟨1, fr, bd⟩ (.slice a j cap) L rd dn B (.slice none 0 0) [] wx) (by kernel_rfl) ?_
        generalize wr.drew = y0 at *
        refine until_take (i := 0) (v := ?ve0) rfl (by kernel_rfl) (by kernel_rfl) (by kernel_rfl) (by kernel_rfl) (by kernel_rfl) (fun _ _ _ h => h) rfl ?hye0 HS0 ?reste0
        case hye0 => (intro w hSw; go_simp; try with_reducible rfl)
        try simp only [Act.put, List.setIfInBounds_toArray, List.set_cons_zero, List.set_cons_succ]
        refine until_take (i := 1) (v := ?ve1) rfl (by kernel_rfl) (by kernel_rfl) (by kernel_rfl) (by kernel_rfl) (by kernel_rfl) (fun _ _ _ h => h) rfl ?hye1 HS0 ?reste1
        case hye1 => (intro wv hSw; have c3 := (hSw.hc.2 3 (by decide)).1; change World.cell? _ _ = some (.slice a j cap) at c3; have hb0 := hSw.hc.1; go_simp; try with_reducible rfl)
        try simp only [Act.put, List.setIfInBounds_toArray, List.set_cons_zero, List.set_cons_succ]
        refine until_take (i := 3) (v := ?ve3) rfl (by kernel_rfl) (by kernel_rfl) (by kernel_rfl) (by kernel_rfl) (by kernel_rfl) (fun _ _ _ h => h) rfl ?hye3 HS0 ?reste3
        case hye3 => (intro wv hSw; have hb1 := hSw.hm.1; have m0 : wv.cell? ⟨w.heap.size + 1, 0, none⟩ = some (.int .i64 1) := (hSw.hm.2 0 (by decide)).1; have m1 : wv.cell? ⟨w.heap.size + 1, 1, none⟩ = some (.int .i64 fr) := (hSw.hm.2 1 (by decide)).1; have m2 : wv.cell? ⟨w.heap.size + 1, 2, none⟩ = some (.string bd) := (hSw.hm.2 2 (by decide)).1; go_simp; try with_reducible rfl)
        try simp only [Act.put, List.setIfInBounds_toArray, List.set_cons_zero, List.set_cons_succ]
        have hy0 : w.heap.size + 3 ≤ y0.heap.size := by obtain ⟨g, hg⟩ := HS0.hr; have := hg.1; omega
        refine until_two (i := 2) (k := 4) (by kernel_rfl) (by kernel_rfl) (by kernel_rfl) rfl rfl rfl rfl (fun K hK => ?_) (fun K hK => ?_)
        · refine app27 y0 _ _ rfl y0.heap.size (.slice none 0 0) 0 [] rfl (World.ownsRow_nil _ _ _ _) (.slice a j cap) j (mcs L) rfl (by have := own_slv HS0.hu; rw [HN.out] at this; exact this) (by rw [mcs_len, HN.out]) (mcs_one L) (by have := HN.out; omega) (Nat.le_refl _) ?_
          intro v2 y1 ho hg hb
          have HX1 : Ext y0 y1 := ext_grown (Ext.refl y0) hg (fun k q => by cases q)
          refine hK.out _ _ (HS0.further HX1) ?_
          clear hK K
          try simp only [Act.put, List.setIfInBounds_toArray, List.set_cons_zero, List.set_cons_succ]
          refine until_one (i := 4) (by kernel_rfl) (by kernel_rfl) rfl rfl (fun K hK => ?_)
          go_simp
          have HX2 : Ext y0 (y1.alloc (.cells #[.int .i64 1, .int .i64 fr, .string bd] 38)) := HX1.alloc _
          refine hK.out _ _ (HS0.further HX2) ?_
          clear hK K
          try simp only [Act.put, List.setIfInBounds_toArray, List.set_cons_zero, List.set_cons_succ]
          refine until_one (i := 5) (by kernel_rfl) (by kernel_rfl) rfl rfl (fun K hK => ?_)
          refine app27 (y1.alloc (.cells #[.int .i64 1, .int .i64 fr, .string bd] 38)) _ _ rfl y0.heap.size v2 (0 + j) ([] ++ mcs L) rfl (ho.alloc _) (.slice (some ⟨y1.heap.size, 0, none⟩) 1 1) 1 [.int .i64 1, .int .i64 fr, .string bd] rfl (slv_new _ _ _ _ _) rfl (one3 _ _ _) (by have := HN.out; omega) HX2.size ?_
          intro v3 y3 ho3 hg3 hb3
          have HX3 : Ext y0 y3 := ext_grown HX2 hg3 (fun k q => (ho.lt k q).1)
          have HO3 : y3.ownsRow y0.heap.size 38 3 v3 (L ++ [(⟨1, fr, bd⟩ : Msg)]).length (mcs (L ++ [(⟨1, fr, bd⟩ : Msg)])) := own_more (by rw [HN.out]; simpa using ho3)
          refine hK.out _ _ (HS0.further HX3) ?_
          clear hK K
          try simp only [Act.put, List.setIfInBounds_toArray, List.set_cons_zero, List.set_cons_succ]
          refine until_take (i := 6) (v := ?ve6) rfl (by kernel_rfl) (by kernel_rfl) (by kernel_rfl) (by kernel_rfl) (by kernel_rfl) (fun _ _ _ h => h) rfl ?hye6 (HS0.further HX3) ?reste6
          case hye6 => (intro w hSw; go_simp; try with_reducible rfl)
          try simp only [Act.put, List.setIfInBounds_toArray, List.set_cons_zero, List.set_cons_succ]
          have HS3 := HS0.further HX3
          have hb0 := HS3.hc.1
          have c3 : y3.cell? ⟨w.heap.size, 3, none⟩ = some (.slice a j cap) := (HS3.hc.2 3 (by decide)).1
          have f3 := (HS3.hc.2 3 (by decide)).2
          obtain ⟨a3, cp3, ev⟩ := own_slice HO3
          have HRow : Hid (RS w N T F ⟨1, fr, bd⟩ (.slice a3 n3 cp3) L3 rd dn B (.slice none 0 0) [] (y3.setCell ⟨w.heap.size, 3, none⟩ (.slice a3 n3 cp3))) := by
            have := HS3.row (L2 := L3) (own_base (by rw [HL3.out] at HO3; exact HO3) hy0) (fun b _ z => by cases z)
            rw [ev, HL3.out, HN3.out] at this
            exact this
          rw [HL3.out, HN3.out] at ev
          subst ev
          have HNw : Hid (∀ b, Value.ownBlock (.slice a3 n3 cp3) = some b → w.heap.size ≤ b) := fun b z => by have := (HO3.lt b z).1; omega
          have c3b := c3
          clear HS3 c3 ho3 hg3 hb3 HO3 ho hg hb HX1 HX2 HX3
          have c3 := c3b
          clear c3b
          refine until_last (by kernel_rfl) (by kernel_rfl) rfl rfl (fun K hK => ?_)
          go_simp
          refine hK.out _ _ (NoPanic.normal ?_)
          clear hK K
          try simp only [Act.put, List.setIfInBounds_toArray, List.set_cons_zero, List.set_cons_succ]
          go_wp2_with fail
          go_meet
          case rel => exact ⟨a3, cp3, HRow.out, HNw.out⟩
        · go_simp
          have HX1 : Ext y0 (y0.alloc (.cells #[.int .i64 1, .int .i64 fr, .string bd] 38)) := (Ext.refl y0).alloc _
          refine hK.out _ _ (HS0.further HX1) ?_
          clear hK K
          try simp only [Act.put, List.setIfInBounds_toArray, List.set_cons_zero, List.set_cons_succ]
          refine until_one (i := 2) (by kernel_rfl) (by kernel_rfl) rfl rfl (fun K hK => ?_)
          refine app27 (y0.alloc (.cells #[.int .i64 1, .int .i64 fr, .string bd] 38)) _ _ rfl y0.heap.size (.slice none 0 0) 0 [] rfl (World.ownsRow_nil _ _ _ _) (.slice a j cap) j (mcs L) rfl (by have := own_slv (HS0.further HX1).hu; rw [HN.out] at this; exact this) (by rw [mcs_len, HN.out]) (mcs_one L) (by have := HN.out; omega) HX1.size ?_
          intro v2 y2 ho hg hb
          have HX2 : Ext y0 y2 := ext_grown HX1 hg (fun k q => by cases q)
          have HSl : SlV y2 (.slice (some ⟨y0.heap.size, 0, none⟩) 1 1) 1 [.int .i64 1, .int .i64 fr, .string bd] := slv_grown (slv_new y0 _ _ _ 38) hg (fun b o c q => by injection q with q1 q2 q3; injection q1 with q1; injection q1 with q1 q2 q3; subst q1; exact ⟨by simp, fun z => by cases z⟩)
          have hne : v2.ownBlock ≠ some y0.heap.size := fun q => by
            rcases hb with e | e
            · rw [q] at e; cases e
            · rw [q] at e; injection e with e; simp at e
          refine hK.out _ _ (HS0.further HX2) ?_
          clear hK K
          try simp only [Act.put, List.setIfInBounds_toArray, List.set_cons_zero, List.set_cons_succ]
          refine until_one (i := 5) (by kernel_rfl) (by kernel_rfl) rfl rfl (fun K hK => ?_)
          refine app27 y2 _ _ rfl y0.heap.size v2 (0 + j) ([] ++ mcs L) rfl ho (.slice (some ⟨y0.heap.size, 0, none⟩) 1 1) 1 [.int .i64 1, .int .i64 fr, .string bd] rfl HSl rfl (one3 _ _ _) (by have := HN.out; omega) HX2.size ?_
          intro v4 y3 ho3 hg3 hb3
          have HX3 : Ext y0 y3 := ext_grown HX2 hg3 (fun k q => (ho.lt k q).1)
          have HO3 : y3.ownsRow y0.heap.size 38 3 v4 (L ++ [(⟨1, fr, bd⟩ : Msg)]).length (mcs (L ++ [(⟨1, fr, bd⟩ : Msg)])) := own_more (by rw [HN.out]; simpa using ho3)
          refine hK.out _ _ (HS0.further HX3) ?_
          clear hK K
          try simp only [Act.put, List.setIfInBounds_toArray, List.set_cons_zero, List.set_cons_succ]
          refine until_take (i := 6) (v := ?vf6) rfl (by kernel_rfl) (by kernel_rfl) (by kernel_rfl) (by kernel_rfl) (by kernel_rfl) (fun _ _ _ h => h) rfl ?hyf6 (HS0.further HX3) ?restf6
          case hyf6 => (intro w hSw; go_simp; try with_reducible rfl)
          try simp only [Act.put, List.setIfInBounds_toArray, List.set_cons_zero, List.set_cons_succ]
          have HS3 := HS0.further HX3
          have hb0 := HS3.hc.1
          have c3 : y3.cell? ⟨w.heap.size, 3, none⟩ = some (.slice a j cap) := (HS3.hc.2 3 (by decide)).1
          have f3 := (HS3.hc.2 3 (by decide)).2
          obtain ⟨a3, cp3, ev⟩ := own_slice HO3
          have HRow : Hid (RS w N T F ⟨1, fr, bd⟩ (.slice a3 n3 cp3) L3 rd dn B (.slice none 0 0) [] (y3.setCell ⟨w.heap.size, 3, none⟩ (.slice a3 n3 cp3))) := by
            have := HS3.row (L2 := L3) (own_base (by rw [HL3.out] at HO3; exact HO3) hy0) (fun b _ z => by cases z)
            rw [ev, HL3.out, HN3.out] at this
            exact this
          rw [HL3.out, HN3.out] at ev
          subst ev
          have HNw : Hid (∀ b, Value.ownBlock (.slice a3 n3 cp3) = some b → w.heap.size ≤ b) := fun b z => by have := (HO3.lt b z).1; omega
          have c3b := c3
          clear HS3 c3 ho3 hg3 hb3 HO3 ho hg hb HX1 HX2 HX3
          have c3 := c3b
          clear c3b
          refine until_last (by kernel_rfl) (by kernel_rfl) rfl rfl (fun K hK => ?_)
          go_simp
          refine hK.out _ _ (NoPanic.normal ?_)
          clear hK K
          try simp only [Act.put, List.setIfInBounds_toArray, List.set_cons_zero, List.set_cons_succ]
          go_wp2_with fail
          go_meet
          case rel => exact ⟨a3, cp3, HRow.out, HNw.out⟩
      case rest =>
        obtain ⟨a3, cp3, hcx, hnew⟩ := hcut
        have HNew : Hid (∀ b, Value.ownBlock (.slice a3 n3 cp3) = some b → w.heap.size ≤ b) := hnew
        clear hnew
        have HC : Hid (RS w N T F ⟨1, fr, bd⟩ (.slice a3 n3 cp3) L3 rd dn B (.slice none 0 0) [] wc) := hcx
        clear hcx HS c3 m0 m1 hb0 hb1 HU HN HL3 HN3
        obtain ⟨O1, HO1⟩ : ∃ O1, Hid ([(⟨2, 0, bd⟩ : Msg)] = O1) := ⟨_, rfl⟩
        rw [HO1.out] at HP
        obtain ⟨O2, HO2⟩ : ∃ O2, Hid (O1 ++ rdL rr bd = O2) := ⟨_, rfl⟩
        rw [HO2.out] at HP
        obtain ⟨rd2, Hrd2⟩ : ∃ rd2, Hid ((rd || rr) = rd2) := ⟨_, rfl⟩
        obtain ⟨dn2, Hdn2⟩ : ∃ dn2, Hid ((dn || dd) = dn2) := ⟨_, rfl⟩
        obtain ⟨B2, HB2⟩ : ∃ B2, Hid ((if dd then bd else B) = B2) := ⟨_, rfl⟩
        rw [Hrd2.out, Hdn2.out, HB2.out] at HP
        have HOl : Hid (O1.length ≤ 2) := by show _ ≤ _; rw [← HO1.out]; simp
        have hb1 := HC.out.hm.1
        have m0 : wc.cell? ⟨w.heap.size + 1, 0, none⟩ = some (.int .i64 1) := (HC.out.hm.2 0 (by decide)).1
        have m2 : wc.cell? ⟨w.heap.size + 1, 2, none⟩ = some (.string bd) := (HC.out.hm.2 2 (by decide)).1
        go_wp2_with (first | (at_builtin; refine list_of_wp rfl (fun K hK => ?_); refine app27 (wc.alloc (.cells #[.int .i64 2, .int .i64 0, .string bd] 38)) _ _ rfl (w.heap.size + 3) (.slice none 0 0) 0 [] rfl (World.ownsRow_nil _ _ _ _) (.slice (some ⟨wc.heap.size, 0, none⟩) 1 1) 1 [.int .i64 2, .int .i64 0, .string bd] rfl (slv_new' _ _ _ _ _ (by simp)) rfl (one3 _ _ _) (by decide) ?hb ?_))
        case hb => (have := HC.out.hr; obtain ⟨g, hg⟩ := this; have := hg.1; simp; omega)
        intro q1 y5 ho hg hb
        obtain ⟨aq, cq, rfl⟩ := own_slice ho
        refine hK.out _ _ ?_
        clear hK K
        have HCq : Hid (RS w N T F ⟨1, fr, bd⟩ (.slice a3 n3 cp3) L3 rd dn B (.slice aq 1 cq) O1 y5) := (HC.out.further ((Ext.refl _).alloc _)).says (O2 := O1) hg (by rw [← HO1.out]; exact ho) (by simpa using hb)
        clear hb1 m0 m2 HC ho hg hb
        go_upto_region 12 with fail
        go_cut [114] (fun u114 wx => ∃ b, u114 = .bool b ∧ Hid (b = rr) ∧ RS w N T F ⟨1, fr, bd⟩ (.slice a3 n3 cp3) L3 rd dn B (.slice aq 1 cq) O1 wx)
        case first =>
          have HS0 : RS w N T F ⟨1, fr, bd⟩ (.slice a3 n3 cp3) L3 rd dn B (.slice aq 1 cq) O1 y5.drew := HCq.out.further (Ext.refl y5).drew
          clear HP
          cases rd with
          | true =>
            have Hb : Hid (false = rr) := by show _ = _; rw [Hrr2.out]; rfl
            refine wp_region_noPanic ?_
            refine wp_region_held (S := fun wx => RS w N T F ⟨1, fr, bd⟩ (.slice a3 n3 cp3) L3 true dn B (.slice aq 1 cq) O1 wx) (by kernel_rfl) ?_
            rw [show ({ y5 with drawn := y5.drawn + 1 } : World) = y5.drew from rfl]
            generalize y5.drew = y0 at *
            refine held_take (i := 0) (v := ?vg0) rfl (by kernel_rfl) (by kernel_rfl) (by kernel_rfl) (fun _ _ _ h => h) rfl ?hyg0 HS0 ?restg0
            case hyg0 => (intro wx hSx; go_simp; try with_reducible rfl)
            try simp only [Act.put, List.setIfInBounds_toArray, List.set_cons_zero, List.set_cons_succ]
            refine held_take (i := 1) (v := ?vg1) rfl (by kernel_rfl) (by kernel_rfl) (by kernel_rfl) (fun _ _ _ h => h) rfl ?hyg1 HS0 ?restg1
            case hyg1 => (intro wx hSx; have hb0 := hSx.hc.1; have hb1 := hSx.hm.1; have c0 : wx.cell? ⟨w.heap.size, 0, none⟩ = some (.int .i64 (N : Int)) := (hSx.hc.2 0 (by decide)).1; have c1 : wx.cell? ⟨w.heap.size, 1, none⟩ = some (.int .i64 (T : Int)) := (hSx.hc.2 1 (by decide)).1; have c2 : wx.cell? ⟨w.heap.size, 2, none⟩ = some (.int .i64 (F : Int)) := (hSx.hc.2 2 (by decide)).1; have c3 : wx.cell? ⟨w.heap.size, 3, none⟩ = some (.slice a3 n3 cp3) := (hSx.hc.2 3 (by decide)).1; have c4 : wx.cell? ⟨w.heap.size, 4, none⟩ = some (.bool true) := (hSx.hc.2 4 (by decide)).1; have c5 : wx.cell? ⟨w.heap.size, 5, none⟩ = some (.bool dn) := (hSx.hc.2 5 (by decide)).1; have c6 : wx.cell? ⟨w.heap.size, 6, none⟩ = some (.string B) := (hSx.hc.2 6 (by decide)).1; have m2 : wx.cell? ⟨w.heap.size + 1, 2, none⟩ = some (.string bd) := (hSx.hm.2 2 (by decide)).1; go_simp; try with_reducible rfl)
            try simp only [Act.put, List.setIfInBounds_toArray, List.set_cons_zero, List.set_cons_succ]
            refine held_take (i := 2) (v := ?vg2) rfl (by kernel_rfl) (by kernel_rfl) (by kernel_rfl) (fun _ _ _ h => h) rfl ?hyg2 HS0 ?restg2
            case hyg2 => (intro wx hSx; go_simp; try with_reducible rfl)
            try simp only [Act.put, List.setIfInBounds_toArray, List.set_cons_zero, List.set_cons_succ]
            refine held_take (i := 3) (v := ?vg3) rfl (by kernel_rfl) (by kernel_rfl) (by kernel_rfl) (fun _ _ _ h => h) rfl ?hyg3 HS0 ?restg3
            case hyg3 => (intro wx hSx; go_simp; try with_reducible rfl)
            try simp only [Act.put, List.setIfInBounds_toArray, List.set_cons_zero, List.set_cons_succ]
            refine held_skip (i := 4) rfl (by kernel_rfl) (by kernel_rfl) (by kernel_rfl) (fun _ _ _ h => h) rfl HS0 ?_
            try simp only [Act.put, List.setIfInBounds_toArray, List.set_cons_zero, List.set_cons_succ]
            refine held_skip (i := 5) rfl (by kernel_rfl) (by kernel_rfl) (by kernel_rfl) (fun _ _ _ h => h) rfl HS0 ?_
            try simp only [Act.put, List.setIfInBounds_toArray, List.set_cons_zero, List.set_cons_succ]
            refine held_skip (i := 6) rfl (by kernel_rfl) (by kernel_rfl) (by kernel_rfl) (fun _ _ _ h => h) rfl HS0 ?_
            try simp only [Act.put, List.setIfInBounds_toArray, List.set_cons_zero, List.set_cons_succ]
            refine held_skip (i := 7) rfl (by kernel_rfl) (by kernel_rfl) (by kernel_rfl) (fun _ _ _ h => h) rfl HS0 ?_
            try simp only [Act.put, List.setIfInBounds_toArray, List.set_cons_zero, List.set_cons_succ]
            refine held_skip (i := 8) rfl (by kernel_rfl) (by kernel_rfl) (by kernel_rfl) (fun _ _ _ h => h) rfl HS0 ?_
            try simp only [Act.put, List.setIfInBounds_toArray, List.set_cons_zero, List.set_cons_succ]
            refine held_skip (i := 9) rfl (by kernel_rfl) (by kernel_rfl) (by kernel_rfl) (fun _ _ _ h => h) rfl HS0 ?_
            try simp only [Act.put, List.setIfInBounds_toArray, List.set_cons_zero, List.set_cons_succ]
            refine held_skip (i := 10) rfl (by kernel_rfl) (by kernel_rfl) (by kernel_rfl) (fun _ _ _ h => h) rfl HS0 ?_
            try simp only [Act.put, List.setIfInBounds_toArray, List.set_cons_zero, List.set_cons_succ]
            refine held_skip (i := 11) rfl (by kernel_rfl) (by kernel_rfl) (by kernel_rfl) (fun _ _ _ h => h) rfl HS0 ?_
            try simp only [Act.put, List.setIfInBounds_toArray, List.set_cons_zero, List.set_cons_succ]
            refine held_skip (i := 12) rfl (by kernel_rfl) (by kernel_rfl) (by kernel_rfl) (fun _ _ _ h => h) rfl HS0 ?_
            try simp only [Act.put, List.setIfInBounds_toArray, List.set_cons_zero, List.set_cons_succ]
            refine held_skip (i := 13) rfl (by kernel_rfl) (by kernel_rfl) (by kernel_rfl) (fun _ _ _ h => h) rfl HS0 ?_
            try simp only [Act.put, List.setIfInBounds_toArray, List.set_cons_zero, List.set_cons_succ]
            refine held_skip (i := 14) rfl (by kernel_rfl) (by kernel_rfl) (by kernel_rfl) (fun _ _ _ h => h) rfl HS0 ?_
            try simp only [Act.put, List.setIfInBounds_toArray, List.set_cons_zero, List.set_cons_succ]
            refine held_skip (i := 15) rfl (by kernel_rfl) (by kernel_rfl) (by kernel_rfl) (fun _ _ _ h => h) rfl HS0 ?_
            try simp only [Act.put, List.setIfInBounds_toArray, List.set_cons_zero, List.set_cons_succ]
            refine held_skip (i := 16) rfl (by kernel_rfl) (by kernel_rfl) (by kernel_rfl) (fun _ _ _ h => h) rfl HS0 ?_
            try simp only [Act.put, List.setIfInBounds_toArray, List.set_cons_zero, List.set_cons_succ]
            refine held_skip (i := 17) rfl (by kernel_rfl) (by kernel_rfl) (by kernel_rfl) (fun _ _ _ h => h) rfl HS0 ?_
            try simp only [Act.put, List.setIfInBounds_toArray, List.set_cons_zero, List.set_cons_succ]
            refine held_skip (i := 18) rfl (by kernel_rfl) (by kernel_rfl) (by kernel_rfl) (fun _ _ _ h => h) rfl HS0 ?_
            try simp only [Act.put, List.setIfInBounds_toArray, List.set_cons_zero, List.set_cons_succ]
            refine held_skip (i := 19) rfl (by kernel_rfl) (by kernel_rfl) (by kernel_rfl) (fun _ _ _ h => h) rfl HS0 ?_
            try simp only [Act.put, List.setIfInBounds_toArray, List.set_cons_zero, List.set_cons_succ]
            refine held_skip (i := 20) rfl (by kernel_rfl) (by kernel_rfl) (by kernel_rfl) (fun _ _ _ h => h) rfl HS0 ?_
            try simp only [Act.put, List.setIfInBounds_toArray, List.set_cons_zero, List.set_cons_succ]
            refine held_skip (i := 21) rfl (by kernel_rfl) (by kernel_rfl) (by kernel_rfl) (fun _ _ _ h => h) rfl HS0 ?_
            try simp only [Act.put, List.setIfInBounds_toArray, List.set_cons_zero, List.set_cons_succ]
            refine held_skip (i := 22) rfl (by kernel_rfl) (by kernel_rfl) (by kernel_rfl) (fun _ _ _ h => h) rfl HS0 ?_
            try simp only [Act.put, List.setIfInBounds_toArray, List.set_cons_zero, List.set_cons_succ]
            refine held_take (i := 23) (v := ?vg23) rfl (by kernel_rfl) (by kernel_rfl) (by kernel_rfl) (fun _ _ _ h => h) rfl ?hyg23 HS0 ?restg23
            case hyg23 => (intro wx hSx; go_simp; try with_reducible rfl)
            try simp only [Act.put, List.setIfInBounds_toArray, List.set_cons_zero, List.set_cons_succ]
            refine wpAnyH_done (by kernel_rfl) ?_ _
            refine NoPanic.normal ?_
            go_wp2_with fail
            go_meet
            case rel => exact ⟨_, rfl, Hb, HS0⟩
          | false =>
            by_cases hQ : Q ≤ cE
            · have Hb : Hid (true = rr) := by show _ = _; rw [Hrr2.out, decide_eq_true hQ]; rfl
              have d1 : decide ((Q : Int) ≤ (cE : Int)) = true := decide_eq_true (by omega)
              have d2 : decide (Q ≤ cE) = true := decide_eq_true hQ
              refine wp_region_noPanic ?_
              refine wp_region_held (S := fun wx => RS w N T F ⟨1, fr, bd⟩ (.slice a3 n3 cp3) L3 false dn B (.slice aq 1 cq) O1 wx) (by kernel_rfl) ?_
              rw [show ({ y5 with drawn := y5.drawn + 1 } : World) = y5.drew from rfl]
              generalize y5.drew = y0 at *
              refine held_take (i := 0) (v := ?vh0) rfl (by kernel_rfl) (by kernel_rfl) (by kernel_rfl) (fun _ _ _ h => h) rfl ?hyh0 HS0 ?resth0
              case hyh0 => (intro wx hSx; go_simp; try with_reducible rfl)
              try simp only [Act.put, List.setIfInBounds_toArray, List.set_cons_zero, List.set_cons_succ]
              refine held_take (i := 1) (v := ?vh1) rfl (by kernel_rfl) (by kernel_rfl) (by kernel_rfl) (fun _ _ _ h => h) rfl ?hyh1 HS0 ?resth1
              case hyh1 => (intro wx hSx; have hb0 := hSx.hc.1; have hb1 := hSx.hm.1; have c0 : wx.cell? ⟨w.heap.size, 0, none⟩ = some (.int .i64 (N : Int)) := (hSx.hc.2 0 (by decide)).1; have c1 : wx.cell? ⟨w.heap.size, 1, none⟩ = some (.int .i64 (T : Int)) := (hSx.hc.2 1 (by decide)).1; have c2 : wx.cell? ⟨w.heap.size, 2, none⟩ = some (.int .i64 (F : Int)) := (hSx.hc.2 2 (by decide)).1; have c3 : wx.cell? ⟨w.heap.size, 3, none⟩ = some (.slice a3 n3 cp3) := (hSx.hc.2 3 (by decide)).1; have c4 : wx.cell? ⟨w.heap.size, 4, none⟩ = some (.bool false) := (hSx.hc.2 4 (by decide)).1; have c5 : wx.cell? ⟨w.heap.size, 5, none⟩ = some (.bool dn) := (hSx.hc.2 5 (by decide)).1; have c6 : wx.cell? ⟨w.heap.size, 6, none⟩ = some (.string B) := (hSx.hc.2 6 (by decide)).1; have m2 : wx.cell? ⟨w.heap.size + 1, 2, none⟩ = some (.string bd) := (hSx.hm.2 2 (by decide)).1; go_simp; try with_reducible rfl)
              try simp only [Act.put, List.setIfInBounds_toArray, List.set_cons_zero, List.set_cons_succ]
              refine held_take (i := 2) (v := ?vh2) rfl (by kernel_rfl) (by kernel_rfl) (by kernel_rfl) (fun _ _ _ h => h) rfl ?hyh2 HS0 ?resth2
              case hyh2 => (intro wx hSx; go_simp; try with_reducible rfl)
              try simp only [Act.put, List.setIfInBounds_toArray, List.set_cons_zero, List.set_cons_succ]
              refine held_take (i := 3) (v := ?vh3) rfl (by kernel_rfl) (by kernel_rfl) (by kernel_rfl) (fun _ _ _ h => h) rfl ?hyh3 HS0 ?resth3
              case hyh3 => (intro wx hSx; go_simp; try with_reducible rfl)
              try simp only [Act.put, List.setIfInBounds_toArray, List.set_cons_zero, List.set_cons_succ]
              refine held_take (i := 4) (v := ?vh4) rfl (by kernel_rfl) (by kernel_rfl) (by kernel_rfl) (fun _ _ _ h => h) rfl ?hyh4 HS0 ?resth4
              case hyh4 => (intro wx hSx; have hb0 := hSx.hc.1; have hb1 := hSx.hm.1; have c0 : wx.cell? ⟨w.heap.size, 0, none⟩ = some (.int .i64 (N : Int)) := (hSx.hc.2 0 (by decide)).1; have c1 : wx.cell? ⟨w.heap.size, 1, none⟩ = some (.int .i64 (T : Int)) := (hSx.hc.2 1 (by decide)).1; have c2 : wx.cell? ⟨w.heap.size, 2, none⟩ = some (.int .i64 (F : Int)) := (hSx.hc.2 2 (by decide)).1; have c3 : wx.cell? ⟨w.heap.size, 3, none⟩ = some (.slice a3 n3 cp3) := (hSx.hc.2 3 (by decide)).1; have c4 : wx.cell? ⟨w.heap.size, 4, none⟩ = some (.bool false) := (hSx.hc.2 4 (by decide)).1; have c5 : wx.cell? ⟨w.heap.size, 5, none⟩ = some (.bool dn) := (hSx.hc.2 5 (by decide)).1; have c6 : wx.cell? ⟨w.heap.size, 6, none⟩ = some (.string B) := (hSx.hc.2 6 (by decide)).1; have m2 : wx.cell? ⟨w.heap.size + 1, 2, none⟩ = some (.string bd) := (hSx.hm.2 2 (by decide)).1; go_simp; try with_reducible rfl)
              try simp only [Act.put, List.setIfInBounds_toArray, List.set_cons_zero, List.set_cons_succ]
              refine held_take (i := 5) (v := ?vh5) rfl (by kernel_rfl) (by kernel_rfl) (by kernel_rfl) (fun _ _ _ h => h) rfl ?hyh5 HS0 ?resth5
              case hyh5 => (intro wx hSx; go_simp; try with_reducible rfl)
              try simp only [Act.put, List.setIfInBounds_toArray, List.set_cons_zero, List.set_cons_succ]
              refine held_take (i := 6) (v := ?vh6) rfl (by kernel_rfl) (by kernel_rfl) (by kernel_rfl) (fun _ _ _ h => h) rfl ?hyh6 HS0 ?resth6
              case hyh6 => (intro wx hSx; have hb0 := hSx.hc.1; have hb1 := hSx.hm.1; have c0 : wx.cell? ⟨w.heap.size, 0, none⟩ = some (.int .i64 (N : Int)) := (hSx.hc.2 0 (by decide)).1; have c1 : wx.cell? ⟨w.heap.size, 1, none⟩ = some (.int .i64 (T : Int)) := (hSx.hc.2 1 (by decide)).1; have c2 : wx.cell? ⟨w.heap.size, 2, none⟩ = some (.int .i64 (F : Int)) := (hSx.hc.2 2 (by decide)).1; have c3 : wx.cell? ⟨w.heap.size, 3, none⟩ = some (.slice a3 n3 cp3) := (hSx.hc.2 3 (by decide)).1; have c4 : wx.cell? ⟨w.heap.size, 4, none⟩ = some (.bool false) := (hSx.hc.2 4 (by decide)).1; have c5 : wx.cell? ⟨w.heap.size, 5, none⟩ = some (.bool dn) := (hSx.hc.2 5 (by decide)).1; have c6 : wx.cell? ⟨w.heap.size, 6, none⟩ = some (.string B) := (hSx.hc.2 6 (by decide)).1; have m2 : wx.cell? ⟨w.heap.size + 1, 2, none⟩ = some (.string bd) := (hSx.hm.2 2 (by decide)).1; go_simp; try with_reducible rfl)
              try simp only [Act.put, List.setIfInBounds_toArray, List.set_cons_zero, List.set_cons_succ]
              refine held_take (i := 8) (v := ?vh8) rfl (by kernel_rfl) (by kernel_rfl) (by kernel_rfl) (fun _ _ _ h => h) rfl ?hyh8 HS0 ?resth8
              case hyh8 => (intro wx hSx; go_simp; try with_reducible rfl)
              try simp only [Act.put, List.setIfInBounds_toArray, List.set_cons_zero, List.set_cons_succ]
              refine held_take (i := 9) (v := ?vh9) rfl (by kernel_rfl) (by kernel_rfl) (by kernel_rfl) (fun _ _ _ h => h) rfl ?hyh9 HS0 ?resth9
              case hyh9 => (intro wx hSx; have hb0 := hSx.hc.1; have hb1 := hSx.hm.1; have c0 : wx.cell? ⟨w.heap.size, 0, none⟩ = some (.int .i64 (N : Int)) := (hSx.hc.2 0 (by decide)).1; have c1 : wx.cell? ⟨w.heap.size, 1, none⟩ = some (.int .i64 (T : Int)) := (hSx.hc.2 1 (by decide)).1; have c2 : wx.cell? ⟨w.heap.size, 2, none⟩ = some (.int .i64 (F : Int)) := (hSx.hc.2 2 (by decide)).1; have c3 : wx.cell? ⟨w.heap.size, 3, none⟩ = some (.slice a3 n3 cp3) := (hSx.hc.2 3 (by decide)).1; have c4 : wx.cell? ⟨w.heap.size, 4, none⟩ = some (.bool false) := (hSx.hc.2 4 (by decide)).1; have c5 : wx.cell? ⟨w.heap.size, 5, none⟩ = some (.bool dn) := (hSx.hc.2 5 (by decide)).1; have c6 : wx.cell? ⟨w.heap.size, 6, none⟩ = some (.string B) := (hSx.hc.2 6 (by decide)).1; have m2 : wx.cell? ⟨w.heap.size + 1, 2, none⟩ = some (.string bd) := (hSx.hm.2 2 (by decide)).1; go_simp; try with_reducible rfl)
              try simp only [Act.put, List.setIfInBounds_toArray, List.set_cons_zero, List.set_cons_succ]
              refine held_take (i := 10) (v := ?vh10) rfl (by kernel_rfl) (by kernel_rfl) (by kernel_rfl) (fun _ _ _ h => h) rfl ?hyh10 HS0 ?resth10
              case hyh10 => (intro wx hSx; go_simp; try with_reducible rfl)
              try simp only [Act.put, List.setIfInBounds_toArray, List.set_cons_zero, List.set_cons_succ]
              refine held_take (i := 11) (v := ?vh11) rfl (by kernel_rfl) (by kernel_rfl) (by kernel_rfl) (fun _ _ _ h => h) rfl ?hyh11 HS0 ?resth11
              case hyh11 => (intro wx hSx; have hb0 := hSx.hc.1; have hb1 := hSx.hm.1; have c0 : wx.cell? ⟨w.heap.size, 0, none⟩ = some (.int .i64 (N : Int)) := (hSx.hc.2 0 (by decide)).1; have c1 : wx.cell? ⟨w.heap.size, 1, none⟩ = some (.int .i64 (T : Int)) := (hSx.hc.2 1 (by decide)).1; have c2 : wx.cell? ⟨w.heap.size, 2, none⟩ = some (.int .i64 (F : Int)) := (hSx.hc.2 2 (by decide)).1; have c3 : wx.cell? ⟨w.heap.size, 3, none⟩ = some (.slice a3 n3 cp3) := (hSx.hc.2 3 (by decide)).1; have c4 : wx.cell? ⟨w.heap.size, 4, none⟩ = some (.bool false) := (hSx.hc.2 4 (by decide)).1; have c5 : wx.cell? ⟨w.heap.size, 5, none⟩ = some (.bool dn) := (hSx.hc.2 5 (by decide)).1; have c6 : wx.cell? ⟨w.heap.size, 6, none⟩ = some (.string B) := (hSx.hc.2 6 (by decide)).1; have m2 : wx.cell? ⟨w.heap.size + 1, 2, none⟩ = some (.string bd) := (hSx.hm.2 2 (by decide)).1; go_simp; try with_reducible rfl)
              try simp only [Act.put, List.setIfInBounds_toArray, List.set_cons_zero, List.set_cons_succ]
              refine held_one (i := 7) (by kernel_rfl) rfl rfl (fun K hK => ?_)
              go_simp
              refine (HC2.out _ _ _ _ _ _ _ _ HS0).mono ?_
              rintro e x1 ⟨rfl, HX⟩
              have HT1 := HS0.further HX
              clear HX
              try go_simp
              refine hK.out _ _ ⟨HT1, ?_⟩
              clear hK K
              try simp only [Act.put, List.setIfInBounds_toArray, List.set_cons_zero, List.set_cons_succ]
              refine held_one (i := 12) (by kernel_rfl) rfl rfl (fun K hK => ?_)
              go_simp
              refine (HQ.out _).mono ?_
              rintro e x2 ⟨rfl, ew⟩
              subst x2
              try go_simp
              refine hK.out _ _ ⟨HT1, ?_⟩
              clear hK K
              try simp only [Act.put, List.setIfInBounds_toArray, List.set_cons_zero, List.set_cons_succ]
              refine held_take (i := 13) (v := ?vh13) rfl (by kernel_rfl) (by kernel_rfl) (by kernel_rfl) (fun _ _ _ h => h) rfl ?hyh13 HT1 ?resth13
              case hyh13 => (intro wx hSx; go_simp; try with_reducible rfl)
              try simp only [Act.put, List.setIfInBounds_toArray, List.set_cons_zero, List.set_cons_succ]
              refine held_take (i := 14) (v := ?vh14) rfl (by kernel_rfl) (by kernel_rfl) (by kernel_rfl) (fun _ _ _ h => h) rfl ?hyh14 HT1 ?resth14
              case hyh14 => (intro wx hSx; go_simp; try with_reducible rfl)
              try simp only [Act.put, List.setIfInBounds_toArray, List.set_cons_zero, List.set_cons_succ]
              refine held_skip (i := 15) rfl (by kernel_rfl) (by kernel_rfl) (by kernel_rfl) (fun _ _ _ h => h) rfl HT1 ?_
              try simp only [Act.put, List.setIfInBounds_toArray, List.set_cons_zero, List.set_cons_succ]
              refine held_skip (i := 16) rfl (by kernel_rfl) (by kernel_rfl) (by kernel_rfl) (fun _ _ _ h => h) rfl HT1 ?_
              try simp only [Act.put, List.setIfInBounds_toArray, List.set_cons_zero, List.set_cons_succ]
              refine held_skip (i := 17) rfl (by kernel_rfl) (by kernel_rfl) (by kernel_rfl) (fun _ _ _ h => h) rfl HT1 ?_
              try simp only [Act.put, List.setIfInBounds_toArray, List.set_cons_zero, List.set_cons_succ]
              refine held_skip (i := 18) rfl (by kernel_rfl) (by kernel_rfl) (by kernel_rfl) (fun _ _ _ h => h) rfl HT1 ?_
              try simp only [Act.put, List.setIfInBounds_toArray, List.set_cons_zero, List.set_cons_succ]
              refine held_skip (i := 19) rfl (by kernel_rfl) (by kernel_rfl) (by kernel_rfl) (fun _ _ _ h => h) rfl HT1 ?_
              try simp only [Act.put, List.setIfInBounds_toArray, List.set_cons_zero, List.set_cons_succ]
              refine held_skip (i := 20) rfl (by kernel_rfl) (by kernel_rfl) (by kernel_rfl) (fun _ _ _ h => h) rfl HT1 ?_
              try simp only [Act.put, List.setIfInBounds_toArray, List.set_cons_zero, List.set_cons_succ]
              refine held_skip (i := 21) rfl (by kernel_rfl) (by kernel_rfl) (by kernel_rfl) (fun _ _ _ h => h) rfl HT1 ?_
              try simp only [Act.put, List.setIfInBounds_toArray, List.set_cons_zero, List.set_cons_succ]
              refine held_take (i := 22) (v := ?vh22) rfl (by kernel_rfl) (by kernel_rfl) (by kernel_rfl) (fun _ _ _ h => h) rfl ?hyh22 HT1 ?resth22
              case hyh22 => (intro wx hSx; go_simp; try with_reducible rfl)
              try simp only [Act.put, List.setIfInBounds_toArray, List.set_cons_zero, List.set_cons_succ]
              refine held_take (i := 23) (v := ?vh23) rfl (by kernel_rfl) (by kernel_rfl) (by kernel_rfl) (fun _ _ _ h => h) rfl ?hyh23 HT1 ?resth23
              case hyh23 => (intro wx hSx; go_simp; try with_reducible rfl)
              try simp only [Act.put, List.setIfInBounds_toArray, List.set_cons_zero, List.set_cons_succ]
              refine wpAnyH_done (by kernel_rfl) ?_ _
              refine NoPanic.normal ?_
              go_wp2_with fail
              go_meet
              case rel => exact ⟨_, rfl, Hb, HT1⟩
            · have Hb : Hid (decide (T < cR) = rr) := by show _ = _; rw [Hrr2.out, decide_eq_false hQ]; rfl
              have d1 : decide ((Q : Int) ≤ (cE : Int)) = false := decide_eq_false (by omega)
              have d2 : decide (Q ≤ cE) = false := decide_eq_false hQ
              have d3 : decide ((T : Int) < (cR : Int)) = decide (T < cR) := by simp
              refine wp_region_noPanic ?_
              refine wp_region_held (S := fun wx => RS w N T F ⟨1, fr, bd⟩ (.slice a3 n3 cp3) L3 false dn B (.slice aq 1 cq) O1 wx) (by kernel_rfl) ?_
              rw [show ({ y5 with drawn := y5.drawn + 1 } : World) = y5.drew from rfl]
              generalize y5.drew = y0 at *
              refine held_take (i := 0) (v := ?vi0) rfl (by kernel_rfl) (by kernel_rfl) (by kernel_rfl) (fun _ _ _ h => h) rfl ?hyi0 HS0 ?resti0
              case hyi0 => (intro wx hSx; go_simp; try with_reducible rfl)
              try simp only [Act.put, List.setIfInBounds_toArray, List.set_cons_zero, List.set_cons_succ]
              refine held_take (i := 1) (v := ?vi1) rfl (by kernel_rfl) (by kernel_rfl) (by kernel_rfl) (fun _ _ _ h => h) rfl ?hyi1 HS0 ?resti1
              case hyi1 => (intro wx hSx; have hb0 := hSx.hc.1; have hb1 := hSx.hm.1; have c0 : wx.cell? ⟨w.heap.size, 0, none⟩ = some (.int .i64 (N : Int)) := (hSx.hc.2 0 (by decide)).1; have c1 : wx.cell? ⟨w.heap.size, 1, none⟩ = some (.int .i64 (T : Int)) := (hSx.hc.2 1 (by decide)).1; have c2 : wx.cell? ⟨w.heap.size, 2, none⟩ = some (.int .i64 (F : Int)) := (hSx.hc.2 2 (by decide)).1; have c3 : wx.cell? ⟨w.heap.size, 3, none⟩ = some (.slice a3 n3 cp3) := (hSx.hc.2 3 (by decide)).1; have c4 : wx.cell? ⟨w.heap.size, 4, none⟩ = some (.bool false) := (hSx.hc.2 4 (by decide)).1; have c5 : wx.cell? ⟨w.heap.size, 5, none⟩ = some (.bool dn) := (hSx.hc.2 5 (by decide)).1; have c6 : wx.cell? ⟨w.heap.size, 6, none⟩ = some (.string B) := (hSx.hc.2 6 (by decide)).1; have m2 : wx.cell? ⟨w.heap.size + 1, 2, none⟩ = some (.string bd) := (hSx.hm.2 2 (by decide)).1; go_simp; try with_reducible rfl)
              try simp only [Act.put, List.setIfInBounds_toArray, List.set_cons_zero, List.set_cons_succ]
              refine held_take (i := 2) (v := ?vi2) rfl (by kernel_rfl) (by kernel_rfl) (by kernel_rfl) (fun _ _ _ h => h) rfl ?hyi2 HS0 ?resti2
              case hyi2 => (intro wx hSx; go_simp; try with_reducible rfl)
              try simp only [Act.put, List.setIfInBounds_toArray, List.set_cons_zero, List.set_cons_succ]
              refine held_take (i := 3) (v := ?vi3) rfl (by kernel_rfl) (by kernel_rfl) (by kernel_rfl) (fun _ _ _ h => h) rfl ?hyi3 HS0 ?resti3
              case hyi3 => (intro wx hSx; go_simp; try with_reducible rfl)
              try simp only [Act.put, List.setIfInBounds_toArray, List.set_cons_zero, List.set_cons_succ]
              refine held_take (i := 4) (v := ?vi4) rfl (by kernel_rfl) (by kernel_rfl) (by kernel_rfl) (fun _ _ _ h => h) rfl ?hyi4 HS0 ?resti4
              case hyi4 => (intro wx hSx; have hb0 := hSx.hc.1; have hb1 := hSx.hm.1; have c0 : wx.cell? ⟨w.heap.size, 0, none⟩ = some (.int .i64 (N : Int)) := (hSx.hc.2 0 (by decide)).1; have c1 : wx.cell? ⟨w.heap.size, 1, none⟩ = some (.int .i64 (T : Int)) := (hSx.hc.2 1 (by decide)).1; have c2 : wx.cell? ⟨w.heap.size, 2, none⟩ = some (.int .i64 (F : Int)) := (hSx.hc.2 2 (by decide)).1; have c3 : wx.cell? ⟨w.heap.size, 3, none⟩ = some (.slice a3 n3 cp3) := (hSx.hc.2 3 (by decide)).1; have c4 : wx.cell? ⟨w.heap.size, 4, none⟩ = some (.bool false) := (hSx.hc.2 4 (by decide)).1; have c5 : wx.cell? ⟨w.heap.size, 5, none⟩ = some (.bool dn) := (hSx.hc.2 5 (by decide)).1; have c6 : wx.cell? ⟨w.heap.size, 6, none⟩ = some (.string B) := (hSx.hc.2 6 (by decide)).1; have m2 : wx.cell? ⟨w.heap.size + 1, 2, none⟩ = some (.string bd) := (hSx.hm.2 2 (by decide)).1; go_simp; try with_reducible rfl)
              try simp only [Act.put, List.setIfInBounds_toArray, List.set_cons_zero, List.set_cons_succ]
              refine held_take (i := 5) (v := ?vi5) rfl (by kernel_rfl) (by kernel_rfl) (by kernel_rfl) (fun _ _ _ h => h) rfl ?hyi5 HS0 ?resti5
              case hyi5 => (intro wx hSx; go_simp; try with_reducible rfl)
              try simp only [Act.put, List.setIfInBounds_toArray, List.set_cons_zero, List.set_cons_succ]
              refine held_take (i := 6) (v := ?vi6) rfl (by kernel_rfl) (by kernel_rfl) (by kernel_rfl) (fun _ _ _ h => h) rfl ?hyi6 HS0 ?resti6
              case hyi6 => (intro wx hSx; have hb0 := hSx.hc.1; have hb1 := hSx.hm.1; have c0 : wx.cell? ⟨w.heap.size, 0, none⟩ = some (.int .i64 (N : Int)) := (hSx.hc.2 0 (by decide)).1; have c1 : wx.cell? ⟨w.heap.size, 1, none⟩ = some (.int .i64 (T : Int)) := (hSx.hc.2 1 (by decide)).1; have c2 : wx.cell? ⟨w.heap.size, 2, none⟩ = some (.int .i64 (F : Int)) := (hSx.hc.2 2 (by decide)).1; have c3 : wx.cell? ⟨w.heap.size, 3, none⟩ = some (.slice a3 n3 cp3) := (hSx.hc.2 3 (by decide)).1; have c4 : wx.cell? ⟨w.heap.size, 4, none⟩ = some (.bool false) := (hSx.hc.2 4 (by decide)).1; have c5 : wx.cell? ⟨w.heap.size, 5, none⟩ = some (.bool dn) := (hSx.hc.2 5 (by decide)).1; have c6 : wx.cell? ⟨w.heap.size, 6, none⟩ = some (.string B) := (hSx.hc.2 6 (by decide)).1; have m2 : wx.cell? ⟨w.heap.size + 1, 2, none⟩ = some (.string bd) := (hSx.hm.2 2 (by decide)).1; go_simp; try with_reducible rfl)
              try simp only [Act.put, List.setIfInBounds_toArray, List.set_cons_zero, List.set_cons_succ]
              refine held_take (i := 8) (v := ?vi8) rfl (by kernel_rfl) (by kernel_rfl) (by kernel_rfl) (fun _ _ _ h => h) rfl ?hyi8 HS0 ?resti8
              case hyi8 => (intro wx hSx; go_simp; try with_reducible rfl)
              try simp only [Act.put, List.setIfInBounds_toArray, List.set_cons_zero, List.set_cons_succ]
              refine held_take (i := 9) (v := ?vi9) rfl (by kernel_rfl) (by kernel_rfl) (by kernel_rfl) (fun _ _ _ h => h) rfl ?hyi9 HS0 ?resti9
              case hyi9 => (intro wx hSx; have hb0 := hSx.hc.1; have hb1 := hSx.hm.1; have c0 : wx.cell? ⟨w.heap.size, 0, none⟩ = some (.int .i64 (N : Int)) := (hSx.hc.2 0 (by decide)).1; have c1 : wx.cell? ⟨w.heap.size, 1, none⟩ = some (.int .i64 (T : Int)) := (hSx.hc.2 1 (by decide)).1; have c2 : wx.cell? ⟨w.heap.size, 2, none⟩ = some (.int .i64 (F : Int)) := (hSx.hc.2 2 (by decide)).1; have c3 : wx.cell? ⟨w.heap.size, 3, none⟩ = some (.slice a3 n3 cp3) := (hSx.hc.2 3 (by decide)).1; have c4 : wx.cell? ⟨w.heap.size, 4, none⟩ = some (.bool false) := (hSx.hc.2 4 (by decide)).1; have c5 : wx.cell? ⟨w.heap.size, 5, none⟩ = some (.bool dn) := (hSx.hc.2 5 (by decide)).1; have c6 : wx.cell? ⟨w.heap.size, 6, none⟩ = some (.string B) := (hSx.hc.2 6 (by decide)).1; have m2 : wx.cell? ⟨w.heap.size + 1, 2, none⟩ = some (.string bd) := (hSx.hm.2 2 (by decide)).1; go_simp; try with_reducible rfl)
              try simp only [Act.put, List.setIfInBounds_toArray, List.set_cons_zero, List.set_cons_succ]
              refine held_take (i := 10) (v := ?vi10) rfl (by kernel_rfl) (by kernel_rfl) (by kernel_rfl) (fun _ _ _ h => h) rfl ?hyi10 HS0 ?resti10
              case hyi10 => (intro wx hSx; go_simp; try with_reducible rfl)
              try simp only [Act.put, List.setIfInBounds_toArray, List.set_cons_zero, List.set_cons_succ]
              refine held_take (i := 11) (v := ?vi11) rfl (by kernel_rfl) (by kernel_rfl) (by kernel_rfl) (fun _ _ _ h => h) rfl ?hyi11 HS0 ?resti11
              case hyi11 => (intro wx hSx; have hb0 := hSx.hc.1; have hb1 := hSx.hm.1; have c0 : wx.cell? ⟨w.heap.size, 0, none⟩ = some (.int .i64 (N : Int)) := (hSx.hc.2 0 (by decide)).1; have c1 : wx.cell? ⟨w.heap.size, 1, none⟩ = some (.int .i64 (T : Int)) := (hSx.hc.2 1 (by decide)).1; have c2 : wx.cell? ⟨w.heap.size, 2, none⟩ = some (.int .i64 (F : Int)) := (hSx.hc.2 2 (by decide)).1; have c3 : wx.cell? ⟨w.heap.size, 3, none⟩ = some (.slice a3 n3 cp3) := (hSx.hc.2 3 (by decide)).1; have c4 : wx.cell? ⟨w.heap.size, 4, none⟩ = some (.bool false) := (hSx.hc.2 4 (by decide)).1; have c5 : wx.cell? ⟨w.heap.size, 5, none⟩ = some (.bool dn) := (hSx.hc.2 5 (by decide)).1; have c6 : wx.cell? ⟨w.heap.size, 6, none⟩ = some (.string B) := (hSx.hc.2 6 (by decide)).1; have m2 : wx.cell? ⟨w.heap.size + 1, 2, none⟩ = some (.string bd) := (hSx.hm.2 2 (by decide)).1; go_simp; try with_reducible rfl)
              try simp only [Act.put, List.setIfInBounds_toArray, List.set_cons_zero, List.set_cons_succ]
              refine held_one (i := 7) (by kernel_rfl) rfl rfl (fun K hK => ?_)
              go_simp
              refine (HC2.out _ _ _ _ _ _ _ _ HS0).mono ?_
              rintro e x3 ⟨rfl, HX⟩
              have HT3 := HS0.further HX
              clear HX
              try go_simp
              refine hK.out _ _ ⟨HT3, ?_⟩
              clear hK K
              try simp only [Act.put, List.setIfInBounds_toArray, List.set_cons_zero, List.set_cons_succ]
              refine held_one (i := 12) (by kernel_rfl) rfl rfl (fun K hK => ?_)
              go_simp
              refine (HQ.out _).mono ?_
              rintro e x4 ⟨rfl, ew⟩
              subst x4
              try go_simp
              refine hK.out _ _ ⟨HT3, ?_⟩
              clear hK K
              try simp only [Act.put, List.setIfInBounds_toArray, List.set_cons_zero, List.set_cons_succ]
              refine held_take (i := 13) (v := ?vi13) rfl (by kernel_rfl) (by kernel_rfl) (by kernel_rfl) (fun _ _ _ h => h) rfl ?hyi13 HT3 ?resti13
              case hyi13 => (intro wx hSx; go_simp; try with_reducible rfl)
              try simp only [Act.put, List.setIfInBounds_toArray, List.set_cons_zero, List.set_cons_succ]
              refine held_take (i := 14) (v := ?vi14) rfl (by kernel_rfl) (by kernel_rfl) (by kernel_rfl) (fun _ _ _ h => h) rfl ?hyi14 HT3 ?resti14
              case hyi14 => (intro wx hSx; go_simp; try with_reducible rfl)
              try simp only [Act.put, List.setIfInBounds_toArray, List.set_cons_zero, List.set_cons_succ]
              refine held_take (i := 15) (v := ?vi15) rfl (by kernel_rfl) (by kernel_rfl) (by kernel_rfl) (fun _ _ _ h => h) rfl ?hyi15 HT3 ?resti15
              case hyi15 => (intro wx hSx; have hb0 := hSx.hc.1; have hb1 := hSx.hm.1; have c0 : wx.cell? ⟨w.heap.size, 0, none⟩ = some (.int .i64 (N : Int)) := (hSx.hc.2 0 (by decide)).1; have c1 : wx.cell? ⟨w.heap.size, 1, none⟩ = some (.int .i64 (T : Int)) := (hSx.hc.2 1 (by decide)).1; have c2 : wx.cell? ⟨w.heap.size, 2, none⟩ = some (.int .i64 (F : Int)) := (hSx.hc.2 2 (by decide)).1; have c3 : wx.cell? ⟨w.heap.size, 3, none⟩ = some (.slice a3 n3 cp3) := (hSx.hc.2 3 (by decide)).1; have c4 : wx.cell? ⟨w.heap.size, 4, none⟩ = some (.bool false) := (hSx.hc.2 4 (by decide)).1; have c5 : wx.cell? ⟨w.heap.size, 5, none⟩ = some (.bool dn) := (hSx.hc.2 5 (by decide)).1; have c6 : wx.cell? ⟨w.heap.size, 6, none⟩ = some (.string B) := (hSx.hc.2 6 (by decide)).1; have m2 : wx.cell? ⟨w.heap.size + 1, 2, none⟩ = some (.string bd) := (hSx.hm.2 2 (by decide)).1; go_simp; try with_reducible rfl)
              try simp only [Act.put, List.setIfInBounds_toArray, List.set_cons_zero, List.set_cons_succ]
              refine held_take (i := 16) (v := ?vi16) rfl (by kernel_rfl) (by kernel_rfl) (by kernel_rfl) (fun _ _ _ h => h) rfl ?hyi16 HT3 ?resti16
              case hyi16 => (intro wx hSx; go_simp; try with_reducible rfl)
              try simp only [Act.put, List.setIfInBounds_toArray, List.set_cons_zero, List.set_cons_succ]
              refine held_take (i := 17) (v := ?vi17) rfl (by kernel_rfl) (by kernel_rfl) (by kernel_rfl) (fun _ _ _ h => h) rfl ?hyi17 HT3 ?resti17
              case hyi17 => (intro wx hSx; have hb0 := hSx.hc.1; have hb1 := hSx.hm.1; have c0 : wx.cell? ⟨w.heap.size, 0, none⟩ = some (.int .i64 (N : Int)) := (hSx.hc.2 0 (by decide)).1; have c1 : wx.cell? ⟨w.heap.size, 1, none⟩ = some (.int .i64 (T : Int)) := (hSx.hc.2 1 (by decide)).1; have c2 : wx.cell? ⟨w.heap.size, 2, none⟩ = some (.int .i64 (F : Int)) := (hSx.hc.2 2 (by decide)).1; have c3 : wx.cell? ⟨w.heap.size, 3, none⟩ = some (.slice a3 n3 cp3) := (hSx.hc.2 3 (by decide)).1; have c4 : wx.cell? ⟨w.heap.size, 4, none⟩ = some (.bool false) := (hSx.hc.2 4 (by decide)).1; have c5 : wx.cell? ⟨w.heap.size, 5, none⟩ = some (.bool dn) := (hSx.hc.2 5 (by decide)).1; have c6 : wx.cell? ⟨w.heap.size, 6, none⟩ = some (.string B) := (hSx.hc.2 6 (by decide)).1; have m2 : wx.cell? ⟨w.heap.size + 1, 2, none⟩ = some (.string bd) := (hSx.hm.2 2 (by decide)).1; go_simp; try with_reducible rfl)
              try simp only [Act.put, List.setIfInBounds_toArray, List.set_cons_zero, List.set_cons_succ]
              refine held_take (i := 19) (v := ?vi19) rfl (by kernel_rfl) (by kernel_rfl) (by kernel_rfl) (fun _ _ _ h => h) rfl ?hyi19 HT3 ?resti19
              case hyi19 => (intro wx hSx; go_simp; try with_reducible rfl)
              try simp only [Act.put, List.setIfInBounds_toArray, List.set_cons_zero, List.set_cons_succ]
              refine held_take (i := 20) (v := ?vi20) rfl (by kernel_rfl) (by kernel_rfl) (by kernel_rfl) (fun _ _ _ h => h) rfl ?hyi20 HT3 ?resti20
              case hyi20 => (intro wx hSx; have hb0 := hSx.hc.1; have hb1 := hSx.hm.1; have c0 : wx.cell? ⟨w.heap.size, 0, none⟩ = some (.int .i64 (N : Int)) := (hSx.hc.2 0 (by decide)).1; have c1 : wx.cell? ⟨w.heap.size, 1, none⟩ = some (.int .i64 (T : Int)) := (hSx.hc.2 1 (by decide)).1; have c2 : wx.cell? ⟨w.heap.size, 2, none⟩ = some (.int .i64 (F : Int)) := (hSx.hc.2 2 (by decide)).1; have c3 : wx.cell? ⟨w.heap.size, 3, none⟩ = some (.slice a3 n3 cp3) := (hSx.hc.2 3 (by decide)).1; have c4 : wx.cell? ⟨w.heap.size, 4, none⟩ = some (.bool false) := (hSx.hc.2 4 (by decide)).1; have c5 : wx.cell? ⟨w.heap.size, 5, none⟩ = some (.bool dn) := (hSx.hc.2 5 (by decide)).1; have c6 : wx.cell? ⟨w.heap.size, 6, none⟩ = some (.string B) := (hSx.hc.2 6 (by decide)).1; have m2 : wx.cell? ⟨w.heap.size + 1, 2, none⟩ = some (.string bd) := (hSx.hm.2 2 (by decide)).1; go_simp; try with_reducible rfl)
              try simp only [Act.put, List.setIfInBounds_toArray, List.set_cons_zero, List.set_cons_succ]
              refine held_one (i := 18) (by kernel_rfl) rfl rfl (fun K hK => ?_)
              go_simp
              refine (HC3.out _ _ _ _ _ _ _ _ HT3).mono ?_
              rintro e x5 ⟨rfl, HX⟩
              have HT5 := HT3.further HX
              clear HX
              try go_simp
              refine hK.out _ _ ⟨HT5, ?_⟩
              clear hK K
              try simp only [Act.put, List.setIfInBounds_toArray, List.set_cons_zero, List.set_cons_succ]
              refine held_take (i := 21) (v := ?vi21) rfl (by kernel_rfl) (by kernel_rfl) (by kernel_rfl) (fun _ _ _ h => h) rfl ?hyi21 HT5 ?resti21
              case hyi21 => (intro wx hSx; go_simp; try with_reducible rfl)
              try simp only [Act.put, List.setIfInBounds_toArray, List.set_cons_zero, List.set_cons_succ]
              refine held_take (i := 22) (v := ?vi22) rfl (by kernel_rfl) (by kernel_rfl) (by kernel_rfl) (fun _ _ _ h => h) rfl ?hyi22 HT5 ?resti22
              case hyi22 => (intro wx hSx; go_simp; try with_reducible rfl)
              try simp only [Act.put, List.setIfInBounds_toArray, List.set_cons_zero, List.set_cons_succ]
              refine held_take (i := 23) (v := ?vi23) rfl (by kernel_rfl) (by kernel_rfl) (by kernel_rfl) (fun _ _ _ h => h) rfl ?hyi23 HT5 ?resti23
              case hyi23 => (intro wx hSx; go_simp; try with_reducible rfl)
              try simp only [Act.put, List.setIfInBounds_toArray, List.set_cons_zero, List.set_cons_succ]
              refine wpAnyH_done (by kernel_rfl) ?_ _
              refine NoPanic.normal ?_
              go_wp2_with fail
              go_meet
              case rel => exact ⟨_, rfl, (by first | exact Hb | (show _ = _; rw [← Hb.out]; simp)), HT5⟩
        case rest =>
          obtain ⟨b, rfl, Hb, hcx⟩ := hcut
          have HC : Hid (RS w N T F ⟨1, fr, bd⟩ (.slice a3 n3 cp3) L3 rd dn B (.slice aq 1 cq) O1 wc) := hcx
          clear hcx HCq HQ HC2
          go_upto_if 114 with fail
          go_cut [7] (fun u7 wx => RS w N T F ⟨1, fr, bd⟩ (.slice a3 n3 cp3) L3 rd2 dn B u7 O2 wx)
          case first =>
            clear HP
            cases b with
            | false =>
              have e1 : rd = rd2 := by rw [← Hrd2.out, ← Hb.out, Bool.or_false]
              have e2 : O1 = O2 := by rw [← HO2.out, ← Hb.out]; exact (List.append_nil _).symm
              have HC2 : Hid (RS w N T F ⟨1, fr, bd⟩ (.slice a3 n3 cp3) L3 rd2 dn B (.slice aq 1 cq) O2 wc) := by rw [← e1, ← e2]; exact HC.out
              clear e1 e2
              go_wp2_with fail
              go_meet
              case rel => exact HC2.out
            | true =>
              have HE1 : Hid (true = rd2) := by show _ = _; rw [← Hrd2.out, ← Hb.out, Bool.or_true]
              have HE2 : Hid (O1 ++ [(⟨3, 0, bd⟩ : Msg)] = O2) := by show _ = _; rw [← HO2.out, ← Hb.out]; rfl
              have hb0 := HC.out.hc.1
              have c4 : wc.cell? ⟨w.heap.size, 4, none⟩ = some (.bool rd) := (HC.out.hc.2 4 (by decide)).1
              have f4 := (HC.out.hc.2 4 (by decide)).2
              have hb1 := HC.out.hm.1
              have m0 : wc.cell? ⟨w.heap.size + 1, 0, none⟩ = some (.int .i64 1) := (HC.out.hm.2 0 (by decide)).1
              have m2 : wc.cell? ⟨w.heap.size + 1, 2, none⟩ = some (.string bd) := (HC.out.hm.2 2 (by decide)).1
              have HC5 : Hid (RS w N T F ⟨1, fr, bd⟩ (.slice a3 n3 cp3) L3 true dn B (.slice aq 1 cq) O1 (wc.setCell ⟨w.heap.size, 4, none⟩ (.bool true))) := HC.out.ready
              go_wp2_with (first | (at_builtin; refine list_of_wp rfl (fun K hK => ?_); refine app27 ((wc.setCell ⟨w.heap.size, 4, none⟩ (.bool true)).alloc (.cells #[.int .i64 3, .int .i64 0, .string bd] 38)) _ _ rfl (w.heap.size + 3) (.slice aq 1 cq) O1.length (mcs O1) rfl (HC5.out.hq.alloc _) (.slice (some ⟨wc.heap.size, 0, none⟩) 1 1) 1 [.int .i64 3, .int .i64 0, .string bd] rfl (slv_new' _ _ _ _ _ (by simp)) rfl (one3 _ _ _) (by have := HOl.out; omega) ?hb ?_))
              case hb => (have := HC.out.hr; obtain ⟨g, hg⟩ := this; have := hg.1; simp; omega)
              intro q2 y6 ho hg hb
              refine hK.out _ _ ?_
              clear hK K
              have HC6 : Hid (RS w N T F ⟨1, fr, bd⟩ (.slice a3 n3 cp3) L3 rd2 dn B q2 O2 y6) := by
                rw [← HE1.out, ← HE2.out]
                exact (HC5.out.further ((Ext.refl _).alloc _)).says hg (own_more (m := ⟨3, 0, bd⟩) ho) (by simpa using hb)
              clear c4 f4 hb0 hb1 m0 m2 ho hg hb HC5 HC
              go_wp2_with fail
              go_meet
              case rel => exact HC6.out
          case rest =>
            have HC3b : Hid (RS w N T F ⟨1, fr, bd⟩ (.slice a3 n3 cp3) L3 rd2 dn B u7 O2 wc) := hcut
            clear hcut HC Hb
            go_upto_region 15 with fail
            go_cut [134] (fun u134 wx => ∃ b, u134 = .bool b ∧ Hid (b = dd) ∧ RS w N T F ⟨1, fr, bd⟩ (.slice a3 n3 cp3) L3 rd2 dn B u7 O2 wx)
            case first =>
              have HS0 : RS w N T F ⟨1, fr, bd⟩ (.slice a3 n3 cp3) L3 rd2 dn B u7 O2 wc.drew := HC3b.out.further (Ext.refl wc).drew
              clear HP
              cases dn with
              | true =>
                have Hb : Hid (false = dd) := by show _ = _; rw [Hdd2.out]; rfl
                refine wp_region_noPanic ?_
                refine wp_region_held (S := fun wx => RS w N T F ⟨1, fr, bd⟩ (.slice a3 n3 cp3) L3 rd2 true B u7 O2 wx) (by kernel_rfl) ?_
                rw [show ({ wc with drawn := wc.drawn + 1 } : World) = wc.drew from rfl]
                generalize wc.drew = y0 at *
                refine held_take (i := 0) (v := ?vj0) rfl (by kernel_rfl) (by kernel_rfl) (by kernel_rfl) (fun _ _ _ h => h) rfl ?hyj0 HS0 ?restj0
                case hyj0 => (intro wx hSx; go_simp; try with_reducible rfl)
                try simp only [Act.put, List.setIfInBounds_toArray, List.set_cons_zero, List.set_cons_succ]
                refine held_take (i := 1) (v := ?vj1) rfl (by kernel_rfl) (by kernel_rfl) (by kernel_rfl) (fun _ _ _ h => h) rfl ?hyj1 HS0 ?restj1
                case hyj1 => (intro wx hSx; have hb0 := hSx.hc.1; have hb1 := hSx.hm.1; have c0 : wx.cell? ⟨w.heap.size, 0, none⟩ = some (.int .i64 (N : Int)) := (hSx.hc.2 0 (by decide)).1; have c1 : wx.cell? ⟨w.heap.size, 1, none⟩ = some (.int .i64 (T : Int)) := (hSx.hc.2 1 (by decide)).1; have c2 : wx.cell? ⟨w.heap.size, 2, none⟩ = some (.int .i64 (F : Int)) := (hSx.hc.2 2 (by decide)).1; have c3 : wx.cell? ⟨w.heap.size, 3, none⟩ = some (.slice a3 n3 cp3) := (hSx.hc.2 3 (by decide)).1; have c4 : wx.cell? ⟨w.heap.size, 4, none⟩ = some (.bool rd2) := (hSx.hc.2 4 (by decide)).1; have c5 : wx.cell? ⟨w.heap.size, 5, none⟩ = some (.bool true) := (hSx.hc.2 5 (by decide)).1; have c6 : wx.cell? ⟨w.heap.size, 6, none⟩ = some (.string B) := (hSx.hc.2 6 (by decide)).1; have m2 : wx.cell? ⟨w.heap.size + 1, 2, none⟩ = some (.string bd) := (hSx.hm.2 2 (by decide)).1; go_simp; try with_reducible rfl)
                try simp only [Act.put, List.setIfInBounds_toArray, List.set_cons_zero, List.set_cons_succ]
                refine held_take (i := 2) (v := ?vj2) rfl (by kernel_rfl) (by kernel_rfl) (by kernel_rfl) (fun _ _ _ h => h) rfl ?hyj2 HS0 ?restj2
                case hyj2 => (intro wx hSx; go_simp; try with_reducible rfl)
                try simp only [Act.put, List.setIfInBounds_toArray, List.set_cons_zero, List.set_cons_succ]
                refine held_take (i := 3) (v := ?vj3) rfl (by kernel_rfl) (by kernel_rfl) (by kernel_rfl) (fun _ _ _ h => h) rfl ?hyj3 HS0 ?restj3
                case hyj3 => (intro wx hSx; go_simp; try with_reducible rfl)
                try simp only [Act.put, List.setIfInBounds_toArray, List.set_cons_zero, List.set_cons_succ]
                refine held_skip (i := 4) rfl (by kernel_rfl) (by kernel_rfl) (by kernel_rfl) (fun _ _ _ h => h) rfl HS0 ?_
                try simp only [Act.put, List.setIfInBounds_toArray, List.set_cons_zero, List.set_cons_succ]
                refine held_skip (i := 5) rfl (by kernel_rfl) (by kernel_rfl) (by kernel_rfl) (fun _ _ _ h => h) rfl HS0 ?_
                try simp only [Act.put, List.setIfInBounds_toArray, List.set_cons_zero, List.set_cons_succ]
                refine held_skip (i := 6) rfl (by kernel_rfl) (by kernel_rfl) (by kernel_rfl) (fun _ _ _ h => h) rfl HS0 ?_
                try simp only [Act.put, List.setIfInBounds_toArray, List.set_cons_zero, List.set_cons_succ]
                refine held_skip (i := 7) rfl (by kernel_rfl) (by kernel_rfl) (by kernel_rfl) (fun _ _ _ h => h) rfl HS0 ?_
                try simp only [Act.put, List.setIfInBounds_toArray, List.set_cons_zero, List.set_cons_succ]
                refine held_skip (i := 8) rfl (by kernel_rfl) (by kernel_rfl) (by kernel_rfl) (fun _ _ _ h => h) rfl HS0 ?_
                try simp only [Act.put, List.setIfInBounds_toArray, List.set_cons_zero, List.set_cons_succ]
                refine held_skip (i := 9) rfl (by kernel_rfl) (by kernel_rfl) (by kernel_rfl) (fun _ _ _ h => h) rfl HS0 ?_
                try simp only [Act.put, List.setIfInBounds_toArray, List.set_cons_zero, List.set_cons_succ]
                refine held_skip (i := 10) rfl (by kernel_rfl) (by kernel_rfl) (by kernel_rfl) (fun _ _ _ h => h) rfl HS0 ?_
                try simp only [Act.put, List.setIfInBounds_toArray, List.set_cons_zero, List.set_cons_succ]
                refine held_skip (i := 11) rfl (by kernel_rfl) (by kernel_rfl) (by kernel_rfl) (fun _ _ _ h => h) rfl HS0 ?_
                try simp only [Act.put, List.setIfInBounds_toArray, List.set_cons_zero, List.set_cons_succ]
                refine held_take (i := 12) (v := ?vj12) rfl (by kernel_rfl) (by kernel_rfl) (by kernel_rfl) (fun _ _ _ h => h) rfl ?hyj12 HS0 ?restj12
                case hyj12 => (intro wx hSx; go_simp; try with_reducible rfl)
                try simp only [Act.put, List.setIfInBounds_toArray, List.set_cons_zero, List.set_cons_succ]
                refine wpAnyH_done (by kernel_rfl) ?_ _
                refine NoPanic.normal ?_
                go_wp2_with fail
                go_meet
                case rel => exact ⟨_, rfl, Hb, HS0⟩
              | false =>
                have Hb : Hid (decide (2 * T < cR) = dd) := by show _ = _; rw [Hdd2.out]; rfl
                have d3 : decide (2 * (T : Int) < (cR : Int)) = decide (2 * T < cR) := by rw [decide_eq_decide]; omega
                refine wp_region_noPanic ?_
                refine wp_region_held (S := fun wx => RS w N T F ⟨1, fr, bd⟩ (.slice a3 n3 cp3) L3 rd2 false B u7 O2 wx) (by kernel_rfl) ?_
                rw [show ({ wc with drawn := wc.drawn + 1 } : World) = wc.drew from rfl]
                generalize wc.drew = y0 at *
                refine held_take (i := 0) (v := ?vk0) rfl (by kernel_rfl) (by kernel_rfl) (by kernel_rfl) (fun _ _ _ h => h) rfl ?hyk0 HS0 ?restk0
                case hyk0 => (intro wx hSx; go_simp; try with_reducible rfl)
                try simp only [Act.put, List.setIfInBounds_toArray, List.set_cons_zero, List.set_cons_succ]
                refine held_take (i := 1) (v := ?vk1) rfl (by kernel_rfl) (by kernel_rfl) (by kernel_rfl) (fun _ _ _ h => h) rfl ?hyk1 HS0 ?restk1
                case hyk1 => (intro wx hSx; have hb0 := hSx.hc.1; have hb1 := hSx.hm.1; have c0 : wx.cell? ⟨w.heap.size, 0, none⟩ = some (.int .i64 (N : Int)) := (hSx.hc.2 0 (by decide)).1; have c1 : wx.cell? ⟨w.heap.size, 1, none⟩ = some (.int .i64 (T : Int)) := (hSx.hc.2 1 (by decide)).1; have c2 : wx.cell? ⟨w.heap.size, 2, none⟩ = some (.int .i64 (F : Int)) := (hSx.hc.2 2 (by decide)).1; have c3 : wx.cell? ⟨w.heap.size, 3, none⟩ = some (.slice a3 n3 cp3) := (hSx.hc.2 3 (by decide)).1; have c4 : wx.cell? ⟨w.heap.size, 4, none⟩ = some (.bool rd2) := (hSx.hc.2 4 (by decide)).1; have c5 : wx.cell? ⟨w.heap.size, 5, none⟩ = some (.bool false) := (hSx.hc.2 5 (by decide)).1; have c6 : wx.cell? ⟨w.heap.size, 6, none⟩ = some (.string B) := (hSx.hc.2 6 (by decide)).1; have m2 : wx.cell? ⟨w.heap.size + 1, 2, none⟩ = some (.string bd) := (hSx.hm.2 2 (by decide)).1; go_simp; try with_reducible rfl)
                try simp only [Act.put, List.setIfInBounds_toArray, List.set_cons_zero, List.set_cons_succ]
                refine held_take (i := 2) (v := ?vk2) rfl (by kernel_rfl) (by kernel_rfl) (by kernel_rfl) (fun _ _ _ h => h) rfl ?hyk2 HS0 ?restk2
                case hyk2 => (intro wx hSx; go_simp; try with_reducible rfl)
                try simp only [Act.put, List.setIfInBounds_toArray, List.set_cons_zero, List.set_cons_succ]
                refine held_take (i := 3) (v := ?vk3) rfl (by kernel_rfl) (by kernel_rfl) (by kernel_rfl) (fun _ _ _ h => h) rfl ?hyk3 HS0 ?restk3
                case hyk3 => (intro wx hSx; go_simp; try with_reducible rfl)
                try simp only [Act.put, List.setIfInBounds_toArray, List.set_cons_zero, List.set_cons_succ]
                refine held_take (i := 4) (v := ?vk4) rfl (by kernel_rfl) (by kernel_rfl) (by kernel_rfl) (fun _ _ _ h => h) rfl ?hyk4 HS0 ?restk4
                case hyk4 => (intro wx hSx; have hb0 := hSx.hc.1; have hb1 := hSx.hm.1; have c0 : wx.cell? ⟨w.heap.size, 0, none⟩ = some (.int .i64 (N : Int)) := (hSx.hc.2 0 (by decide)).1; have c1 : wx.cell? ⟨w.heap.size, 1, none⟩ = some (.int .i64 (T : Int)) := (hSx.hc.2 1 (by decide)).1; have c2 : wx.cell? ⟨w.heap.size, 2, none⟩ = some (.int .i64 (F : Int)) := (hSx.hc.2 2 (by decide)).1; have c3 : wx.cell? ⟨w.heap.size, 3, none⟩ = some (.slice a3 n3 cp3) := (hSx.hc.2 3 (by decide)).1; have c4 : wx.cell? ⟨w.heap.size, 4, none⟩ = some (.bool rd2) := (hSx.hc.2 4 (by decide)).1; have c5 : wx.cell? ⟨w.heap.size, 5, none⟩ = some (.bool false) := (hSx.hc.2 5 (by decide)).1; have c6 : wx.cell? ⟨w.heap.size, 6, none⟩ = some (.string B) := (hSx.hc.2 6 (by decide)).1; have m2 : wx.cell? ⟨w.heap.size + 1, 2, none⟩ = some (.string bd) := (hSx.hm.2 2 (by decide)).1; go_simp; try with_reducible rfl)
                try simp only [Act.put, List.setIfInBounds_toArray, List.set_cons_zero, List.set_cons_succ]
                refine held_take (i := 5) (v := ?vk5) rfl (by kernel_rfl) (by kernel_rfl) (by kernel_rfl) (fun _ _ _ h => h) rfl ?hyk5 HS0 ?restk5
                case hyk5 => (intro wx hSx; go_simp; try with_reducible rfl)
                try simp only [Act.put, List.setIfInBounds_toArray, List.set_cons_zero, List.set_cons_succ]
                refine held_take (i := 6) (v := ?vk6) rfl (by kernel_rfl) (by kernel_rfl) (by kernel_rfl) (fun _ _ _ h => h) rfl ?hyk6 HS0 ?restk6
                case hyk6 => (intro wx hSx; have hb0 := hSx.hc.1; have hb1 := hSx.hm.1; have c0 : wx.cell? ⟨w.heap.size, 0, none⟩ = some (.int .i64 (N : Int)) := (hSx.hc.2 0 (by decide)).1; have c1 : wx.cell? ⟨w.heap.size, 1, none⟩ = some (.int .i64 (T : Int)) := (hSx.hc.2 1 (by decide)).1; have c2 : wx.cell? ⟨w.heap.size, 2, none⟩ = some (.int .i64 (F : Int)) := (hSx.hc.2 2 (by decide)).1; have c3 : wx.cell? ⟨w.heap.size, 3, none⟩ = some (.slice a3 n3 cp3) := (hSx.hc.2 3 (by decide)).1; have c4 : wx.cell? ⟨w.heap.size, 4, none⟩ = some (.bool rd2) := (hSx.hc.2 4 (by decide)).1; have c5 : wx.cell? ⟨w.heap.size, 5, none⟩ = some (.bool false) := (hSx.hc.2 5 (by decide)).1; have c6 : wx.cell? ⟨w.heap.size, 6, none⟩ = some (.string B) := (hSx.hc.2 6 (by decide)).1; have m2 : wx.cell? ⟨w.heap.size + 1, 2, none⟩ = some (.string bd) := (hSx.hm.2 2 (by decide)).1; go_simp; try with_reducible rfl)
                try simp only [Act.put, List.setIfInBounds_toArray, List.set_cons_zero, List.set_cons_succ]
                refine held_take (i := 8) (v := ?vk8) rfl (by kernel_rfl) (by kernel_rfl) (by kernel_rfl) (fun _ _ _ h => h) rfl ?hyk8 HS0 ?restk8
                case hyk8 => (intro wx hSx; go_simp; try with_reducible rfl)
                try simp only [Act.put, List.setIfInBounds_toArray, List.set_cons_zero, List.set_cons_succ]
                refine held_take (i := 9) (v := ?vk9) rfl (by kernel_rfl) (by kernel_rfl) (by kernel_rfl) (fun _ _ _ h => h) rfl ?hyk9 HS0 ?restk9
                case hyk9 => (intro wx hSx; have hb0 := hSx.hc.1; have hb1 := hSx.hm.1; have c0 : wx.cell? ⟨w.heap.size, 0, none⟩ = some (.int .i64 (N : Int)) := (hSx.hc.2 0 (by decide)).1; have c1 : wx.cell? ⟨w.heap.size, 1, none⟩ = some (.int .i64 (T : Int)) := (hSx.hc.2 1 (by decide)).1; have c2 : wx.cell? ⟨w.heap.size, 2, none⟩ = some (.int .i64 (F : Int)) := (hSx.hc.2 2 (by decide)).1; have c3 : wx.cell? ⟨w.heap.size, 3, none⟩ = some (.slice a3 n3 cp3) := (hSx.hc.2 3 (by decide)).1; have c4 : wx.cell? ⟨w.heap.size, 4, none⟩ = some (.bool rd2) := (hSx.hc.2 4 (by decide)).1; have c5 : wx.cell? ⟨w.heap.size, 5, none⟩ = some (.bool false) := (hSx.hc.2 5 (by decide)).1; have c6 : wx.cell? ⟨w.heap.size, 6, none⟩ = some (.string B) := (hSx.hc.2 6 (by decide)).1; have m2 : wx.cell? ⟨w.heap.size + 1, 2, none⟩ = some (.string bd) := (hSx.hm.2 2 (by decide)).1; go_simp; try with_reducible rfl)
                try simp only [Act.put, List.setIfInBounds_toArray, List.set_cons_zero, List.set_cons_succ]
                refine held_take (i := 10) (v := ?vk10) rfl (by kernel_rfl) (by kernel_rfl) (by kernel_rfl) (fun _ _ _ h => h) rfl ?hyk10 HS0 ?restk10
                case hyk10 => (intro wx hSx; go_simp; try with_reducible rfl)
                try simp only [Act.put, List.setIfInBounds_toArray, List.set_cons_zero, List.set_cons_succ]
                refine held_one (i := 7) (by kernel_rfl) rfl rfl (fun K hK => ?_)
                go_simp
                refine (HC3.out _ _ _ _ _ _ _ _ HS0).mono ?_
                rintro e x6 ⟨rfl, HX⟩
                have HT6 := HS0.further HX
                clear HX
                try go_simp
                refine hK.out _ _ ⟨HT6, ?_⟩
                clear hK K
                try simp only [Act.put, List.setIfInBounds_toArray, List.set_cons_zero, List.set_cons_succ]
                refine held_take (i := 11) (v := ?vk11) rfl (by kernel_rfl) (by kernel_rfl) (by kernel_rfl) (fun _ _ _ h => h) rfl ?hyk11 HT6 ?restk11
                case hyk11 => (intro wx hSx; go_simp; try with_reducible rfl)
                try simp only [Act.put, List.setIfInBounds_toArray, List.set_cons_zero, List.set_cons_succ]
                refine held_take (i := 12) (v := ?vk12) rfl (by kernel_rfl) (by kernel_rfl) (by kernel_rfl) (fun _ _ _ h => h) rfl ?hyk12 HT6 ?restk12
                case hyk12 => (intro wx hSx; go_simp; try with_reducible rfl)
                try simp only [Act.put, List.setIfInBounds_toArray, List.set_cons_zero, List.set_cons_succ]
                refine wpAnyH_done (by kernel_rfl) ?_ _
                refine NoPanic.normal ?_
                go_wp2_with fail
                go_meet
                case rel => exact ⟨_, rfl, (by first | exact Hb | (show _ = _; rw [← Hb.out, ← d3])), HT6⟩
            case rest =>
              obtain ⟨b, rfl, Hb, hcx⟩ := hcut
              have HC : Hid (RS w N T F ⟨1, fr, bd⟩ (.slice a3 n3 cp3) L3 rd2 dn B u7 O2 wc) := hcx
              clear hcx HC3b HC3
              go_upto_if 134 with fail
              go_cut [] (fun wx => RS w N T F ⟨1, fr, bd⟩ (.slice a3 n3 cp3) L3 rd2 dn2 B2 u7 O2 wx)
              case first =>
                clear HP
                cases b with
                | false =>
                  have e1 : dn = dn2 := by rw [← Hdn2.out, ← Hb.out, Bool.or_false]
                  have e2 : B = B2 := by rw [← HB2.out, ← Hb.out]; rfl
                  have HC2 : Hid (RS w N T F ⟨1, fr, bd⟩ (.slice a3 n3 cp3) L3 rd2 dn2 B2 u7 O2 wc) := by rw [← e1, ← e2]; exact HC.out
                  clear e1 e2
                  go_wp2_with fail
                  go_meet
                  case rel => exact HC2.out
                | true =>
                  have e1 : true = dn2 := by rw [← Hdn2.out, ← Hb.out, Bool.or_true]
                  have e2 : bd = B2 := by rw [← HB2.out, ← Hb.out]; rfl
                  have hb0 := HC.out.hc.1
                  have c5 : wc.cell? ⟨w.heap.size, 5, none⟩ = some (.bool dn) := (HC.out.hc.2 5 (by decide)).1
                  have f5 := (HC.out.hc.2 5 (by decide)).2
                  have c6 : wc.cell? ⟨w.heap.size, 6, none⟩ = some (.string B) := (HC.out.hc.2 6 (by decide)).1
                  have f6 := (HC.out.hc.2 6 (by decide)).2
                  have hb1 := HC.out.hm.1
                  have m0 : wc.cell? ⟨w.heap.size + 1, 0, none⟩ = some (.int .i64 1) := (HC.out.hm.2 0 (by decide)).1
                  have m2 : wc.cell? ⟨w.heap.size + 1, 2, none⟩ = some (.string bd) := (HC.out.hm.2 2 (by decide)).1
                  have HC2 : Hid (RS w N T F ⟨1, fr, bd⟩ (.slice a3 n3 cp3) L3 rd2 dn2 B2 u7 O2 ((wc.setCell ⟨w.heap.size, 5, none⟩ (.bool true)).setCell ⟨w.heap.size, 6, none⟩ (.string bd))) := by rw [← e1, ← e2]; exact (HC.out.done).body bd
                  clear e1 e2
                  go_wp2_with fail
                  go_meet
                  case rel => exact HC2.out
              case rest =>
                have HD : Hid (RS w N T F ⟨1, fr, bd⟩ (.slice a3 n3 cp3) L3 rd2 dn2 B2 u7 O2 wc) := hcut
                clear hcut HC Hb
                obtain ⟨rg, hrg⟩ := HD.out.hr
                have hbc := HD.out.hc.1
                have hbr := hrg.1
                have c0 : wc.cell? ⟨w.heap.size, 0, none⟩ = some (.int .i64 (N : Int)) := (HD.out.hc.2 0 (by decide)).1
                have c1 : wc.cell? ⟨w.heap.size, 1, none⟩ = some (.int .i64 (T : Int)) := (HD.out.hc.2 1 (by decide)).1
                have c2 : wc.cell? ⟨w.heap.size, 2, none⟩ = some (.int .i64 (F : Int)) := (HD.out.hc.2 2 (by decide)).1
                have c3 : wc.cell? ⟨w.heap.size, 3, none⟩ = some (.slice a3 n3 cp3) := (HD.out.hc.2 3 (by decide)).1
                have c4 : wc.cell? ⟨w.heap.size, 4, none⟩ = some (.bool rd2) := (HD.out.hc.2 4 (by decide)).1
                have c5 : wc.cell? ⟨w.heap.size, 5, none⟩ = some (.bool dn2) := (HD.out.hc.2 5 (by decide)).1
                have c6 : wc.cell? ⟨w.heap.size, 6, none⟩ = some (.string B2) := (HD.out.hc.2 6 (by decide)).1
                have r0 := (hrg.2 0 (by decide)).1
                have r1 := (hrg.2 1 (by decide)).1
                have r2 := (hrg.2 2 (by decide)).1
                have r3 := (hrg.2 3 (by decide)).1
                have r4 := (hrg.2 4 (by decide)).1
                have r5 := (hrg.2 5 (by decide)).1
                have r6 := (hrg.2 6 (by decide)).1
                have z0 := (hrg.2 0 (by decide)).2
                have z1 := (hrg.2 1 (by decide)).2
                have z2 := (hrg.2 2 (by decide)).2
                have z3 := (hrg.2 3 (by decide)).2
                have z4 := (hrg.2 4 (by decide)).2
                have z5 := (hrg.2 5 (by decide)).2
                have z6 := (hrg.2 6 (by decide)).2
                clear hrg
                have HUb : Hid (∀ b, Value.ownBlock (.slice a3 n3 cp3) = some b → w.heap.size ≤ b) := fun b z => HNew.out b z
                have HUq : Hid (∀ b, Value.ownBlock (.slice a3 n3 cp3) = some b → u7.ownBlock ≠ some b) := HD.out.huq
                have HZ := HD.out.ret
                have HZb : Hid (Blk ((((((((wc.setCell ⟨w.heap.size + 1 + 1, 0, none⟩ (.int .i64 (N : Int))).setCell ⟨w.heap.size + 1 + 1, 1, none⟩ (.int .i64 (T : Int))).setCell ⟨w.heap.size + 1 + 1, 2, none⟩ (.int .i64 (F : Int))).setCell ⟨w.heap.size + 1 + 1, 3, none⟩ (.slice a3 n3 cp3)).setCell ⟨w.heap.size + 1 + 1, 4, none⟩ (.bool rd2)).setCell ⟨w.heap.size + 1 + 1, 5, none⟩ (.bool dn2)).setCell ⟨w.heap.size + 1 + 1, 6, none⟩ (.string B2))) (w.heap.size + 1 + 1) 7 (cr N T F (.slice a3 n3 cp3) rd2 dn2 B2)) := HZ.1
                have HZr : Hid (Ext w ((((((((wc.setCell ⟨w.heap.size + 1 + 1, 0, none⟩ (.int .i64 (N : Int))).setCell ⟨w.heap.size + 1 + 1, 1, none⟩ (.int .i64 (T : Int))).setCell ⟨w.heap.size + 1 + 1, 2, none⟩ (.int .i64 (F : Int))).setCell ⟨w.heap.size + 1 + 1, 3, none⟩ (.slice a3 n3 cp3)).setCell ⟨w.heap.size + 1 + 1, 4, none⟩ (.bool rd2)).setCell ⟨w.heap.size + 1 + 1, 5, none⟩ (.bool dn2)).setCell ⟨w.heap.size + 1 + 1, 6, none⟩ (.string B2))) ∧ World.ownsRow ((((((((wc.setCell ⟨w.heap.size + 1 + 1, 0, none⟩ (.int .i64 (N : Int))).setCell ⟨w.heap.size + 1 + 1, 1, none⟩ (.int .i64 (T : Int))).setCell ⟨w.heap.size + 1 + 1, 2, none⟩ (.int .i64 (F : Int))).setCell ⟨w.heap.size + 1 + 1, 3, none⟩ (.slice a3 n3 cp3)).setCell ⟨w.heap.size + 1 + 1, 4, none⟩ (.bool rd2)).setCell ⟨w.heap.size + 1 + 1, 5, none⟩ (.bool dn2)).setCell ⟨w.heap.size + 1 + 1, 6, none⟩ (.string B2))) 0 38 3 (.slice a3 n3 cp3) L3.length (mcs L3) ∧ World.ownsRow ((((((((wc.setCell ⟨w.heap.size + 1 + 1, 0, none⟩ (.int .i64 (N : Int))).setCell ⟨w.heap.size + 1 + 1, 1, none⟩ (.int .i64 (T : Int))).setCell ⟨w.heap.size + 1 + 1, 2, none⟩ (.int .i64 (F : Int))).setCell ⟨w.heap.size + 1 + 1, 3, none⟩ (.slice a3 n3 cp3)).setCell ⟨w.heap.size + 1 + 1, 4, none⟩ (.bool rd2)).setCell ⟨w.heap.size + 1 + 1, 5, none⟩ (.bool dn2)).setCell ⟨w.heap.size + 1 + 1, 6, none⟩ (.string B2))) w.heap.size 38 3 (u7) O2.length (mcs O2)) := HZ.2
                clear HZ
                go_wp2
                obtain ⟨re, ru, rq⟩ := HZr.out
                have y0 : World.cell? ((((((((wc.setCell ⟨w.heap.size + 1 + 1, 0, none⟩ (.int .i64 (N : Int))).setCell ⟨w.heap.size + 1 + 1, 1, none⟩ (.int .i64 (T : Int))).setCell ⟨w.heap.size + 1 + 1, 2, none⟩ (.int .i64 (F : Int))).setCell ⟨w.heap.size + 1 + 1, 3, none⟩ (.slice a3 n3 cp3)).setCell ⟨w.heap.size + 1 + 1, 4, none⟩ (.bool rd2)).setCell ⟨w.heap.size + 1 + 1, 5, none⟩ (.bool dn2)).setCell ⟨w.heap.size + 1 + 1, 6, none⟩ (.string B2))) ⟨w.heap.size + 1 + 1, 0, none⟩ = some (.int .i64 (N : Int)) := (HZb.out.2 0 (by decide)).1
                have y1 : World.cell? ((((((((wc.setCell ⟨w.heap.size + 1 + 1, 0, none⟩ (.int .i64 (N : Int))).setCell ⟨w.heap.size + 1 + 1, 1, none⟩ (.int .i64 (T : Int))).setCell ⟨w.heap.size + 1 + 1, 2, none⟩ (.int .i64 (F : Int))).setCell ⟨w.heap.size + 1 + 1, 3, none⟩ (.slice a3 n3 cp3)).setCell ⟨w.heap.size + 1 + 1, 4, none⟩ (.bool rd2)).setCell ⟨w.heap.size + 1 + 1, 5, none⟩ (.bool dn2)).setCell ⟨w.heap.size + 1 + 1, 6, none⟩ (.string B2))) ⟨w.heap.size + 1 + 1, 1, none⟩ = some (.int .i64 (T : Int)) := (HZb.out.2 1 (by decide)).1
                have y2 : World.cell? ((((((((wc.setCell ⟨w.heap.size + 1 + 1, 0, none⟩ (.int .i64 (N : Int))).setCell ⟨w.heap.size + 1 + 1, 1, none⟩ (.int .i64 (T : Int))).setCell ⟨w.heap.size + 1 + 1, 2, none⟩ (.int .i64 (F : Int))).setCell ⟨w.heap.size + 1 + 1, 3, none⟩ (.slice a3 n3 cp3)).setCell ⟨w.heap.size + 1 + 1, 4, none⟩ (.bool rd2)).setCell ⟨w.heap.size + 1 + 1, 5, none⟩ (.bool dn2)).setCell ⟨w.heap.size + 1 + 1, 6, none⟩ (.string B2))) ⟨w.heap.size + 1 + 1, 2, none⟩ = some (.int .i64 (F : Int)) := (HZb.out.2 2 (by decide)).1
                have y3 : World.cell? ((((((((wc.setCell ⟨w.heap.size + 1 + 1, 0, none⟩ (.int .i64 (N : Int))).setCell ⟨w.heap.size + 1 + 1, 1, none⟩ (.int .i64 (T : Int))).setCell ⟨w.heap.size + 1 + 1, 2, none⟩ (.int .i64 (F : Int))).setCell ⟨w.heap.size + 1 + 1, 3, none⟩ (.slice a3 n3 cp3)).setCell ⟨w.heap.size + 1 + 1, 4, none⟩ (.bool rd2)).setCell ⟨w.heap.size + 1 + 1, 5, none⟩ (.bool dn2)).setCell ⟨w.heap.size + 1 + 1, 6, none⟩ (.string B2))) ⟨w.heap.size + 1 + 1, 3, none⟩ = some (.slice a3 n3 cp3) := (HZb.out.2 3 (by decide)).1
                have y4 : World.cell? ((((((((wc.setCell ⟨w.heap.size + 1 + 1, 0, none⟩ (.int .i64 (N : Int))).setCell ⟨w.heap.size + 1 + 1, 1, none⟩ (.int .i64 (T : Int))).setCell ⟨w.heap.size + 1 + 1, 2, none⟩ (.int .i64 (F : Int))).setCell ⟨w.heap.size + 1 + 1, 3, none⟩ (.slice a3 n3 cp3)).setCell ⟨w.heap.size + 1 + 1, 4, none⟩ (.bool rd2)).setCell ⟨w.heap.size + 1 + 1, 5, none⟩ (.bool dn2)).setCell ⟨w.heap.size + 1 + 1, 6, none⟩ (.string B2))) ⟨w.heap.size + 1 + 1, 4, none⟩ = some (.bool rd2) := (HZb.out.2 4 (by decide)).1
                have y5 : World.cell? ((((((((wc.setCell ⟨w.heap.size + 1 + 1, 0, none⟩ (.int .i64 (N : Int))).setCell ⟨w.heap.size + 1 + 1, 1, none⟩ (.int .i64 (T : Int))).setCell ⟨w.heap.size + 1 + 1, 2, none⟩ (.int .i64 (F : Int))).setCell ⟨w.heap.size + 1 + 1, 3, none⟩ (.slice a3 n3 cp3)).setCell ⟨w.heap.size + 1 + 1, 4, none⟩ (.bool rd2)).setCell ⟨w.heap.size + 1 + 1, 5, none⟩ (.bool dn2)).setCell ⟨w.heap.size + 1 + 1, 6, none⟩ (.string B2))) ⟨w.heap.size + 1 + 1, 5, none⟩ = some (.bool dn2) := (HZb.out.2 5 (by decide)).1
                have y6 : World.cell? ((((((((wc.setCell ⟨w.heap.size + 1 + 1, 0, none⟩ (.int .i64 (N : Int))).setCell ⟨w.heap.size + 1 + 1, 1, none⟩ (.int .i64 (T : Int))).setCell ⟨w.heap.size + 1 + 1, 2, none⟩ (.int .i64 (F : Int))).setCell ⟨w.heap.size + 1 + 1, 3, none⟩ (.slice a3 n3 cp3)).setCell ⟨w.heap.size + 1 + 1, 4, none⟩ (.bool rd2)).setCell ⟨w.heap.size + 1 + 1, 5, none⟩ (.bool dn2)).setCell ⟨w.heap.size + 1 + 1, 6, none⟩ (.string B2))) ⟨w.heap.size + 1 + 1, 6, none⟩ = some (.string B2) := (HZb.out.2 6 (by decide)).1
                generalize (((((((wc.setCell ⟨w.heap.size + 1 + 1, 0, none⟩ (.int .i64 (N : Int))).setCell ⟨w.heap.size + 1 + 1, 1, none⟩ (.int .i64 (T : Int))).setCell ⟨w.heap.size + 1 + 1, 2, none⟩ (.int .i64 (F : Int))).setCell ⟨w.heap.size + 1 + 1, 3, none⟩ (.slice a3 n3 cp3)).setCell ⟨w.heap.size + 1 + 1, 4, none⟩ (.bool rd2)).setCell ⟨w.heap.size + 1 + 1, 5, none⟩ (.bool dn2)).setCell ⟨w.heap.size + 1 + 1, 6, none⟩ (.string B2)) = wz at *
                refine bodyPost_ret (v := .tuple #[rC N T F (.slice a3 n3 cp3) rd2 dn2 B2, u7]) (by simp [results, Try.results14, go_sem, y0, y1, y2, y3, y4, y5, y6]) rfl (HP.out _ _ _ ru HUb.out rq re HUq.out)
end Go.Proofs.Ytmibekclhnkhnaa
