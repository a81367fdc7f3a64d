/-
  CastOnce, called: true; nothing old is turned.
-/
import Derived.Test.YtmibekclhnkhnaaLc
namespace Go.Proofs.Ytmibekclhnkhnaa
open Go.RowKit
theorem box3w (w : World) (n t f : Int) : ∀ W, Ext (w.alloc (.cells #[.int .i64 n, .int .i64 t, .int .i64 f] 26)) W → W.cell? ⟨w.heap.size, 0, none⟩ = some (.int .i64 n) ∧ W.cell? ⟨w.heap.size, 1, none⟩ = some (.int .i64 t) ∧ W.cell? ⟨w.heap.size, 2, none⟩ = some (.int .i64 f) ∧ w.heap.size < W.heap.size := fun W hW =>
  ⟨later hW (by rw [World.cell?_alloc_at _ _ _ _ rfl]; rfl), later hW (by rw [World.cell?_alloc_at _ _ _ _ rfl]; rfl), later hW (by rw [World.cell?_alloc_at _ _ _ _ rfl]; rfl), by have := hW.size; simp at this; omega⟩
set_option maxRecDepth 100000 in
set_option maxHeartbeats 4000000 in
theorem castOnce_nil (n t f : Int) (v : Value) (M : List Msg) (hc : ¬ hasC n t f) (w : World) (hM : MsIs w v M) :
    Calls Try.prog 5 #[.agg #[.int .i64 n, .int .i64 t, .int .i64 f], v] w fun e w' => e = .returned (.bool true) ∧ Ext w w' := by
  have HN : Hid (∀ W, Calls Try.prog 12 #[.int .i64 n, .int .i64 t, .int .i64 f] W fun e w' => e = .returned (.pointer none) ∧ Ext W w') := fun W => cnew_bad n t f hc W
  clear hc
  have HL0 : Hid (MsIs w v M) := hM
  obtain ⟨a, cap, rfl, _⟩ := hM
  obtain ⟨L, HLn⟩ : ∃ L, Hid (M.length = L) := ⟨_, rfl⟩
  have HL := HL0
  rw [HLn.out] at HL ⊢
  clear HL0
  have HE0 : Hid (Ext w (w.alloc (.cells #[.int .i64 n, .int .i64 t, .int .i64 f] 26))) := (Ext.refl w).alloc _
  have HBx : Hid (∀ W, Ext (w.alloc (.cells #[.int .i64 n, .int .i64 t, .int .i64 f] 26)) W → W.cell? ⟨w.heap.size, 0, none⟩ = some (.int .i64 n) ∧ W.cell? ⟨w.heap.size, 1, none⟩ = some (.int .i64 t) ∧ W.cell? ⟨w.heap.size, 2, none⟩ = some (.int .i64 f) ∧ w.heap.size < W.heap.size) := box3w w n t f
  have HF : Hid (∀ W, Ext w W → Calls Try.prog 11 #[.slice a L cap] W fun e w' => FewP M W e w') := fun W hW => few_any _ M W (HL.out.ext hW)
  go_enter Try.func5, Try.ntmps5
  go_wp2_with fail
  refine (HF.out _ HE0.out).mono ?_
  rintro e w1 ⟨b, rfl, hb, HX⟩
  have HE1 : Hid (Ext w w1) := HE0.out.trans HX
  obtain ⟨x0, x1, x2, x3⟩ := HBx.out _ HX
  have HW1 : Hid (Ext (w.alloc (.cells #[.int .i64 n, .int .i64 t, .int .i64 f] 26)) w1) := HX
  clear HX HF
  rcases hb with rfl | ⟨rfl, hlen⟩
  · clear x0 x1 x2 x3 HN
    go_wp2_with fail
    refine (awake_any _).mono ?_
    rintro e wa ⟨rfl, HX⟩
    have HEa : Hid (Ext w wa) := HE1.out.trans HX
    clear HX
    go_wp2
    go_ret
    exact ⟨rfl, HEa.out⟩
  · have hl80 : L ≤ 80 := by rw [← HLn.out]; exact hlen
    clear hlen
    go_wp2_with fail
    refine (HN.out _).mono ?_
    rintro e w2 ⟨rfl, HX⟩
    have HE2 : Hid (Ext w w2) := HE1.out.trans HX
    have HB2 : Hid (Blk (w2.alloc (.cells #[.int .i64 0, .int .i64 0, .int .i64 0, .int .i64 0] 43)) w2.heap.size 4 (fun _ => .int .i64 0)) := Blk.new w2 _ _ fun j hj => by
      have : j = 0 ∨ j = 1 ∨ j = 2 ∨ j = 3 := by omega
      rcases this with rfl | rfl | rfl | rfl <;> rfl
    have HE3 : Hid (Ext w (w2.alloc (.cells #[.int .i64 0, .int .i64 0, .int .i64 0, .int .i64 0] 43))) := HE2.out.alloc _
    clear HX x0 x1 x2 x3 HN HE1 HE2 HBx HW1 HE0
    go_wp2_with fail
    generalize w2.alloc (.cells #[.int .i64 0, .int .i64 0, .int .i64 0, .int .i64 0] 43) = W0 at *
    generalize w2.heap.size = nb at *
    go_loopw [7, 8, 9] (fun u7 u8 u9 wr => ∃ j : Nat, j ≤ L ∧ u9 = .int .i64 j ∧ u7 = .string ⟨#[]⟩ ∧ u8 = .bool false ∧ Hid (Ext w wr) ∧ Hid (Blk wr nb 4 (fun _ => .int .i64 0))) (fun _ _ u9 _ => L - (intOf u9).toNat)
    case atStart => exact ⟨0, Nat.zero_le _, rfl, rfl, rfl, HE3, HB2⟩
    case round =>
      obtain ⟨j, hj, rfl, rfl, rfl, HE, HB⟩ := hrel
      clear HE3 HB2
      by_cases hlt : j < L
      · obtain ⟨q1, q0, qw⟩ := lp_nums j L hlt (by omega)
        obtain ⟨m, hm⟩ : ∃ m, M[j]? = some m := ⟨M[j]'(by rw [HLn.out]; exact hlt), List.getElem?_eq_getElem _⟩
        have HL2 : MsIs wr (.slice a M.length cap) M := by rw [HLn.out]; exact HL.out.ext HE.out
        obtain ⟨g, o, rfl, hbl, hd0, hd1, hd2⟩ := HL2.get hm
        clear HL2
        go_wp2_with fail
        refine (ctake_nil m.kd m.fr m.bd _).mono ?_
        rintro e w5 ⟨rfl, HX⟩
        have HE5 : Hid (Ext w w5) := HE.out.trans HX
        have HB5 : Hid (Blk w5 nb 4 (fun _ => .int .i64 0)) := HB.out.ext HX
        clear HX hd0 hd1 hd2 hbl HE HB
        go_wp2_with fail
        go_loopw [11] (fun u11 wr => u11 = .int .i64 0 ∧ Hid (Ext w wr) ∧ Hid (Blk wr nb 4 (fun _ => .int .i64 0))) (fun _ _ => 0)
        case atStart => exact ⟨rfl, HE5, HB5⟩
        case round =>
          obtain ⟨rfl, HE, HB⟩ := hrel
          clear HE5 HB5
          go_wp2_with fail
          refine (ctold_nil _).mono ?_
          rintro e w6 ⟨rfl, HX⟩
          have HE6 : Hid (Ext w w6) := HE.out.trans HX
          have HB6 : Hid (Blk w6 nb 4 (fun _ => .int .i64 0)) := HB.out.ext HX
          clear HX HE HB
          go_wp2
          go_roundw
          case rel => exact ⟨j + 1, hlt, by push_cast; rfl, rfl, rfl, HE6, HB6⟩
          case measure => exact lp_meas hlt
      · obtain rfl : j = L := by omega
        have hnl : ¬ (j : Int) < (j : Int) := by omega
        have y1 : wr.cell? ⟨nb, 1, none⟩ = some (.int .i64 0) := (HB.out.2 1 (by decide)).1
        have y2 : wr.cell? ⟨nb, 2, none⟩ = some (.int .i64 0) := (HB.out.2 2 (by decide)).1
        have y3 : wr.cell? ⟨nb, 3, none⟩ = some (.int .i64 0) := (HB.out.2 3 (by decide)).1
        have yl := HB.out.1
        clear HB
        go_wp2_with fail
        refine (awake_any _).mono ?_
        rintro e wa ⟨rfl, HX⟩
        have HEa : Hid (Ext w wa) := HE.out.trans HX
        clear HX
        go_wp2
        go_ret
        exact ⟨rfl, HEa.out⟩
set_option maxRecDepth 100000 in
set_option maxHeartbeats 4000000 in
theorem castOnce_good (N T F : Nat) (v : Value) (M : List Msg) (hc : hasC N T F) (w : World) (hM : MsIs w v M) :
    Calls Try.prog 5 #[.agg #[.int .i64 (N : Int), .int .i64 (T : Int), .int .i64 (F : Int)], v] w fun e w' => e = .returned (.bool true) ∧ Ext w w' := by
  have HN : Hid (∀ W, Ext w W → Calls Try.prog 12 #[.int .i64 (N : Int), .int .i64 (T : Int), .int .i64 (F : Int)] W fun e w' => ∃ a G, e = .returned (.pointer (some a)) ∧ Cs w (.pointer (some a)) N T F st0 G w' ∧ From G W.heap.size ∧ Ext W w') := fun W hW => lnew_any N T F hc w W hW
  clear hc
  have HL0 : Hid (MsIs w v M) := hM
  obtain ⟨a, cap, rfl, _⟩ := hM
  obtain ⟨L, HLn⟩ : ∃ L, Hid (M.length = L) := ⟨_, rfl⟩
  have HL := HL0
  rw [HLn.out] at HL ⊢
  clear HL0
  have HE0 : Hid (Ext w (w.alloc (.cells #[.int .i64 (N : Int), .int .i64 (T : Int), .int .i64 (F : Int)] 26))) := (Ext.refl w).alloc _
  have HBx : Hid (∀ W, Ext (w.alloc (.cells #[.int .i64 (N : Int), .int .i64 (T : Int), .int .i64 (F : Int)] 26)) W → W.cell? ⟨w.heap.size, 0, none⟩ = some (.int .i64 (N : Int)) ∧ W.cell? ⟨w.heap.size, 1, none⟩ = some (.int .i64 (T : Int)) ∧ W.cell? ⟨w.heap.size, 2, none⟩ = some (.int .i64 (F : Int)) ∧ w.heap.size < W.heap.size) := box3w w N T F
  have HF : Hid (∀ W, Ext w W → Calls Try.prog 11 #[.slice a L cap] W fun e w' => FewP M W e w') := fun W hW => few_any _ M W (HL.out.ext hW)
  go_enter Try.func5, Try.ntmps5
  go_wp2_with fail
  refine (HF.out _ HE0.out).mono ?_
  rintro e w1 ⟨b, rfl, hb, HX⟩
  have HE1 : Hid (Ext w w1) := HE0.out.trans HX
  obtain ⟨x0, x1, x2, x3⟩ := HBx.out _ HX
  have HW1 : Hid (Ext (w.alloc (.cells #[.int .i64 (N : Int), .int .i64 (T : Int), .int .i64 (F : Int)] 26)) w1) := HX
  clear HX HF
  rcases hb with rfl | ⟨rfl, hlen⟩
  · clear x0 x1 x2 x3 HN
    go_wp2_with fail
    refine (awake_any _).mono ?_
    rintro e wa ⟨rfl, HX⟩
    have HEa : Hid (Ext w wa) := HE1.out.trans HX
    clear HX
    go_wp2
    go_ret
    exact ⟨rfl, HEa.out⟩
  · have hl80 : L ≤ 80 := by rw [← HLn.out]; exact hlen
    clear hlen
    go_wp2_with fail
    refine (HN.out _ HE1.out).mono ?_
    rintro e w2 ⟨pa, G, rfl, hs2, _, HX⟩
    have HB2 : Hid (Blk (w2.alloc (.cells #[.int .i64 0, .int .i64 0, .int .i64 0, .int .i64 0] 43)) w2.heap.size 4 (fun k => .int .i64 (tt st0 k : Nat))) := Blk.new w2 _ _ fun j hj => by
      have : j = 0 ∨ j = 1 ∨ j = 2 ∨ j = 3 := by omega
      rcases this with rfl | rfl | rfl | rfl <;> rfl
    have HS2 : Hid (Cs w (.pointer (some pa)) N T F (plS N T F M 0) G (w2.alloc (.cells #[.int .i64 0, .int .i64 0, .int .i64 0, .int .i64 0] 43))) := hs2.ext ((Ext.refl _).alloc _)
    have HGn : Hid (¬ G w2.heap.size) := fun q => by have := hs2.2.2.2.1 _ q; omega
    have HGf : Hid (w.heap.size ≤ w2.heap.size) := hs2.old.size
    clear HX hs2 x0 x1 x2 x3 HN HE1 HBx HW1 HE0
    go_wp2_with fail
    generalize w2.alloc (.cells #[.int .i64 0, .int .i64 0, .int .i64 0, .int .i64 0] 43) = W0 at *
    generalize w2.heap.size = nb at *
    have HKeep : Hid (∀ W W' g, Blk W nb 4 g → Chg G W W' → Blk W' nb 4 g) := fun W W' g h1 h2 => h1.keep h2.size (h2.block nb h1.1 HGn.out)
    have HPut : Hid (∀ W i x s, Cs w (.pointer (some pa)) N T F s G W → Cs w (.pointer (some pa)) N T F s G (W.setCell ⟨nb, i, none⟩ x)) := fun W i x s h => h.far (H := fun k => k = nb) (Chg.st (.inl rfl) (Chg.refl _ W)) (fun k q1 q2 => HGn.out (q2 ▸ q1)) (fun k q => by rw [q]; exact HGf.out)
    go_loopw [7, 8, 9] (fun u7 u8 u9 wr => ∃ j : Nat, j ≤ L ∧ u9 = .int .i64 j ∧ u7 = .string ((plS N T F M j).tb.getD ⟨#[]⟩) ∧ u8 = .bool (plS N T F M j).tb.isSome ∧ Hid (Cs w (.pointer (some pa)) N T F (plS N T F M j) G wr) ∧ Hid (Blk wr nb 4 (fun k => .int .i64 (tt (plS N T F M j) k : Nat)))) (fun _ _ u9 _ => L - (intOf u9).toNat)
    case atStart => exact ⟨0, Nat.zero_le _, rfl, rfl, rfl, HS2, HB2⟩
    case round =>
      obtain ⟨j, hj, rfl, rfl, rfl, HS, HB⟩ := hrel
      clear HS2 HB2
      by_cases hlt : j < L
      · obtain ⟨q1, q0, qw⟩ := lp_nums j L hlt (by omega)
        obtain ⟨m, hm⟩ : ∃ m, M[j]? = some m := ⟨M[j]'(by rw [HLn.out]; exact hlt), List.getElem?_eq_getElem _⟩
        have HL2 : MsIs wr (.slice a M.length cap) M := by rw [HLn.out]; exact HL.out.ext HS.out.old
        obtain ⟨g, o, rfl, hbl, hd0, hd1, hd2⟩ := HL2.get hm
        clear HL2
        have HNx : Hid (plS N T F M (j + 1) = (stp N T F (plS N T F M j) m).1) := plS_step hm
        have Hsl : Hid ((plS N T F M j).L.length ≤ 900) := by show _ ≤ _; have := plS_len N T F M j; omega
        clear hm
        generalize plS N T F M j = s at *
        have HTk : Hid (∀ W, Cs w (.pointer (some pa)) N T F s G W → Calls Try.prog 17 #[.pointer (some pa), .agg #[.int .i64 m.kd, .int .i64 m.fr, .string m.bd]] W fun e w' => ∃ a c, e = .returned (.slice a (stp N T F s m).2.length c) ∧ w'.ownsRow W.heap.size 38 3 (.slice a (stp N T F s m).2.length c) (stp N T F s m).2.length (mcs (stp N T F s m).2) ∧ Cs w (.pointer (some pa)) N T F (stp N T F s m).1 G w' ∧ Chg G W w') := fun W h => ltake_any m Hsl.out h
        have HTs : Hid (∀ B, s.tb = some B → (stp N T F s m).1.tb = some B) := fun B q => stp_tb q
        have HTt : Hid (∀ k, tt (stp N T F s m).1 k = tt s k + ck (stp N T F s m).2 k) := fun k => tt_step k
        have HOu : Hid (∀ x ∈ (stp N T F s m).2, (x.kd = 2 ∨ x.kd = 3) ∧ x.fr = 0) := fun x q => stp_out q
        have HOl : Hid ((stp N T F s m).2.length ≤ 1) := stp_few N T F s m
        have HTb : Hid (∀ k, k < 4 → tt s k ≤ 1) := fun k hk => by
          have := tt_most HS.out.2.2.2.2.1
          have : k = 0 ∨ k = 1 ∨ k = 2 ∨ k = 3 := by omega
          rcases this with rfl | rfl | rfl | rfl
          · exact Nat.zero_le _
          · omega
          · omega
          · omega
        generalize (stp N T F s m).1 = s2 at *
        generalize (stp N T F s m).2 = O at *
        obtain ⟨ol, Hol⟩ : ∃ ol, Hid (O.length = ol) := ⟨_, rfl⟩
        rw [Hol.out] at HTk
        go_wp2_with fail
        refine (HTk.out _ HS.out).mono ?_
        rintro e w5 ⟨a5, c5, rfl, ho, hs5, hg5⟩
        have HS5 : Hid (Cs w (.pointer (some pa)) N T F s2 G w5) := hs5
        have HB5 : Hid (Blk w5 nb 4 (fun k => .int .i64 ((tt s k + ck (O.take 0) k : Nat) : Int))) := HKeep.out _ _ _ HB.out hg5
        have HO5 : Hid (w5.ownsRow wr.heap.size 38 3 (.slice a5 ol c5) O.length (mcs O)) := by rw [Hol.out]; exact ho
        have Hnb : Hid (nb < wr.heap.size) := HB.out.1
        clear ho hs5 hg5 hd0 hd1 hd2 hbl HS HB HTk
        generalize wr.heap.size = hw at *
        go_wp2_with fail
        go_loopw [11] (fun u11 wr => ∃ i : Nat, i ≤ ol ∧ u11 = .int .i64 i ∧ Hid (Cs w (.pointer (some pa)) N T F s2 G wr) ∧ Hid (Blk wr nb 4 (fun k => .int .i64 ((tt s k + ck (O.take i) k : Nat) : Int))) ∧ Hid (wr.ownsRow hw 38 3 (.slice a5 ol c5) O.length (mcs O))) (fun u11 _ => ol - (intOf u11).toNat)
        case atStart => exact ⟨0, Nat.zero_le _, rfl, HS5, HB5, HO5⟩
        case round =>
          obtain ⟨i, hi, rfl, HS, HB, HO⟩ := hrel
          clear HS5 HB5 HO5
          by_cases hil : i < ol
          · obtain ⟨r1, r0, rw'⟩ := lp_nums i ol hil (by have := HOl.out; have := Hol.out; omega)
            obtain ⟨x, hx⟩ : ∃ x, O[i]? = some x := ⟨O[i]'(by rw [Hol.out]; exact hil), List.getElem?_eq_getElem _⟩
            have HM2 : MsIs wr (.slice a5 O.length c5) O := by rw [Hol.out]; have := own_ms HO.out; rw [Hol.out] at *; exact this
            obtain ⟨g5, o5, rfl, hbl, hd0, hd1, hd2⟩ := HM2.get hx
            clear HM2 hd2
            obtain ⟨hxk, hxf⟩ := HOu.out x (List.mem_of_getElem? hx)
            rw [hxf] at hd1
            have HCk : Hid (∀ k, ck (O.take (i + 1)) k = ck (O.take i) k + if x.kd = (k : Int) then 1 else 0) := fun k => ck_step hx k
            have HCl : Hid (∀ k, ck (O.take i) k ≤ 1) := fun k => by
              refine Nat.le_trans List.countP_le_length ?_
              rw [List.length_take]
              have := HOl.out
              omega
            have hyl := HB.out.1
            clear hx hxf
            rcases hxk with hk | hk
            · rw [hk] at hd0
              obtain ⟨c, Hc⟩ : ∃ c, Hid (tt s 2 + ck (O.take i) 2 = c) := ⟨_, rfl⟩
              have y2 : wr.cell? ⟨nb, 2, none⟩ = some (.int .i64 (c : Int)) := by have := (HB.out.2 2 (by decide)).1; change _ = some (Value.int .i64 ((tt s 2 + ck (O.take i) 2 : Nat) : Int)) at this; rw [Hc.out] at this; exact this
              have z2 := (HB.out.2 2 (by decide)).2
              have cw : IntKind.i64.wrap ((c : Int) + 1) = (c : Int) + 1 := by have := HTb.out 2 (by decide); have := HCl.out 2; have := Hc.out; rw [IntKind.wrap_i64]; omega
              have HBn : Hid (Blk (wr.setCell ⟨nb, 2, none⟩ (.int .i64 ((c : Int) + 1))) nb 4 (fun k => .int .i64 ((tt s k + ck (O.take (i + 1)) k : Nat) : Int))) := (HB.out.put (i := 2) (by decide) _).congr fun k hk4 => by
                rw [HCk.out k, hk]
                by_cases e : k = 2
                · subst e; rw [if_pos rfl, if_pos (by rfl), ← Hc.out]; exact congrArg (Value.int .i64) (by omega)
                · rw [if_neg e, if_neg (by omega)]; rfl
              have HSn : Hid (Cs w (.pointer (some pa)) N T F s2 G (wr.setCell ⟨nb, 2, none⟩ (.int .i64 ((c : Int) + 1)))) := HPut.out _ _ _ _ HS.out
              have HOn : Hid (World.ownsRow (wr.setCell ⟨nb, 2, none⟩ (.int .i64 ((c : Int) + 1))) hw 38 3 (.slice (some ⟨g5, o5, none⟩) ol c5) O.length (mcs O)) := own_setCell HO.out (fun z => by have := (HO.out.lt _ z).1; have := Hnb.out; omega)
              clear HB HS HO HCk HCl Hc hk
              go_wp2
              go_roundw
              case rel => exact ⟨i + 1, hil, by push_cast; rfl, HSn, HBn, HOn⟩
              case measure => exact lp_meas hil
            · rw [hk] at hd0
              obtain ⟨c, Hc⟩ : ∃ c, Hid (tt s 3 + ck (O.take i) 3 = c) := ⟨_, rfl⟩
              have y2 : wr.cell? ⟨nb, 3, none⟩ = some (.int .i64 (c : Int)) := by have := (HB.out.2 3 (by decide)).1; change _ = some (Value.int .i64 ((tt s 3 + ck (O.take i) 3 : Nat) : Int)) at this; rw [Hc.out] at this; exact this
              have z2 := (HB.out.2 3 (by decide)).2
              have cw : IntKind.i64.wrap ((c : Int) + 1) = (c : Int) + 1 := by have := HTb.out 3 (by decide); have := HCl.out 3; have := Hc.out; rw [IntKind.wrap_i64]; omega
              have HBn : Hid (Blk (wr.setCell ⟨nb, 3, none⟩ (.int .i64 ((c : Int) + 1))) nb 4 (fun k => .int .i64 ((tt s k + ck (O.take (i + 1)) k : Nat) : Int))) := (HB.out.put (i := 3) (by decide) _).congr fun k hk4 => by
                rw [HCk.out k, hk]
                by_cases e : k = 3
                · subst e; rw [if_pos rfl, if_pos (by rfl), ← Hc.out]; exact congrArg (Value.int .i64) (by omega)
                · rw [if_neg e, if_neg (by omega)]; rfl
              have HSn : Hid (Cs w (.pointer (some pa)) N T F s2 G (wr.setCell ⟨nb, 3, none⟩ (.int .i64 ((c : Int) + 1)))) := HPut.out _ _ _ _ HS.out
              have HOn : Hid (World.ownsRow (wr.setCell ⟨nb, 3, none⟩ (.int .i64 ((c : Int) + 1))) hw 38 3 (.slice (some ⟨g5, o5, none⟩) ol c5) O.length (mcs O)) := own_setCell HO.out (fun z => by have := (HO.out.lt _ z).1; have := Hnb.out; omega)
              clear HB HS HO HCk HCl Hc hk
              go_wp2
              go_roundw
              case rel => exact ⟨i + 1, hil, by push_cast; rfl, HSn, HBn, HOn⟩
              case measure => exact lp_meas hil
          · obtain rfl : i = ol := by omega
            have hnl : ¬ (i : Int) < (i : Int) := by omega
            have HB9 : Hid (Blk wr nb 4 (fun k => .int .i64 (tt s2 k : Nat))) := HB.out.congr fun k _ => by rw [HTt.out k, List.take_of_length_le (by rw [Hol.out]; exact Nat.le_refl _)]
            clear HB HO
            go_wp2_with fail
            refine (ltold_any HS.out).mono ?_
            rintro e w6 ⟨rfl, HX⟩
            have HS6 : Hid (Cs w (.pointer (some pa)) N T F (plS N T F M (j + 1)) G w6) := by rw [HNx.out]; exact HS.out.ext HX
            have HB6 : Hid (Blk w6 nb 4 (fun k => .int .i64 (tt (plS N T F M (j + 1)) k : Nat))) := by rw [HNx.out]; exact HB9.out.ext HX
            clear HX HS HB9
            cases htb : s.tb with
            | none =>
              go_wp2
              go_roundw
              case rel => exact ⟨j + 1, hlt, by push_cast; rfl, by rw [HNx.out], by rw [HNx.out], HS6, HB6⟩
              case measure => exact lp_meas hlt
            | some B =>
              have h2 := HTs.out B htb
              have bb : (B.toList == B.toList) = true := beq_self_eq_true _
              rw [h2]
              have HNy : Hid ((plS N T F M (j + 1)).tb = some B) := by show _ = _; rw [HNx.out]; exact h2
              go_wp2
              go_roundw
              case rel => exact ⟨j + 1, hlt, by push_cast; rfl, by rw [HNy.out]; rfl, by rw [HNy.out]; rfl, HS6, HB6⟩
              case measure => exact lp_meas hlt
      · obtain rfl : j = L := by omega
        have hnl : ¬ (j : Int) < (j : Int) := by omega
        obtain ⟨t1, t2, t3⟩ := tt_most HS.out.2.2.2.2.1
        generalize plS N T F M j = s at *
        have y1 : wr.cell? ⟨nb, 1, none⟩ = some (.int .i64 0) := by have := (HB.out.2 1 (by decide)).1; change _ = some (Value.int .i64 ((tt s 1 : Nat) : Int)) at this; rw [t1] at this; exact this
        obtain ⟨c2, hc2⟩ : ∃ c2, tt s 2 = c2 := ⟨_, rfl⟩
        obtain ⟨c3, hc3⟩ : ∃ c3, tt s 3 = c3 := ⟨_, rfl⟩
        have y2 : wr.cell? ⟨nb, 2, none⟩ = some (.int .i64 (c2 : Int)) := by have := (HB.out.2 2 (by decide)).1; change _ = some (Value.int .i64 ((tt s 2 : Nat) : Int)) at this; rw [hc2] at this; exact this
        have y3 : wr.cell? ⟨nb, 3, none⟩ = some (.int .i64 (c3 : Int)) := by have := (HB.out.2 3 (by decide)).1; change _ = some (Value.int .i64 ((tt s 3 : Nat) : Int)) at this; rw [hc3] at this; exact this
        have yl := HB.out.1
        have d2 : decide ((c2 : Int) ≤ 1) = true := decide_eq_true (by omega)
        have d3 : decide ((c3 : Int) ≤ 1) = true := decide_eq_true (by omega)
        have d2b : decide (c2 ≤ 1) = true := decide_eq_true (by omega)
        have d3b : decide (c3 ≤ 1) = true := decide_eq_true (by omega)
        clear HB hc2 hc3 t1 t2 t3
        go_wp2_with fail
        refine (awake_any _).mono ?_
        rintro e wa ⟨rfl, HX⟩
        have HEa : Hid (Ext w wa) := HS.out.old.trans HX
        clear HX
        go_wp2
        go_ret
        exact ⟨rfl, HEa.out⟩
end Go.Proofs.Ytmibekclhnkhnaa
