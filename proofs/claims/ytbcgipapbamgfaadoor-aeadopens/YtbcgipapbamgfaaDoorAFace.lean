/-
  The program's sealing and opening: a lock's stream, tagOf, same, Seal, Open.
-/
import Derived.Test.YtbcgipapbamgfaaDoorATold
import Derived.Test.YtbcgipapbamgfaaDoorPFace
namespace Go.Proofs.YtbcgipapbamgfaaDoor
open Go.RowKit
set_option maxHeartbeats 1000000 in
/-- A lock's stream. -/
theorem lx_any (key nonce : ByteArray) (n : Nat) (s : ByteArray) (hn : n < 4294967296) (hs : s.size ≤ 3000) (w : World) (hG : Gl w) :
    Calls Tryd.prog 16 #[.agg #[.string key, .string nonce], .int .u32 (n : Int), .string s] w fun e w' => e = .returned (.tuple #[.string (xorR key nonce n s).1, .int .i64 (xorR key nonce n s).2]) ∧ Ext w w' := by
  have HE0 : Hid (Ext w (w.alloc (.cells #[.string key, .string nonce] 40))) := (Ext.refl w).alloc _
  have HC := cxor_any key nonce n s hn hs _ (hG.ext HE0.out)
  generalize xorR key nonce n s = xr at *
  obtain ⟨x1, x2⟩ := xr
  go_enter Tryd.func16, Tryd.ntmps16
  go_wp2_with fail
  refine HC.mono ?_
  rintro e w1 ⟨rfl, HX1⟩
  clear HC
  go_wp2
  refine bodyPost_ret (v := .tuple #[.string x1, .int .i64 x2]) (by simp [results, Tryd.results16, go_sem]) rfl ⟨rfl, HE0.out.trans HX1⟩
def lockV (key nonce : ByteArray) : Value := .func (.func 16) #[.agg #[.string key, .string nonce]] #[]
theorem rep_zero : (⟨(Lib.repeatL ((⟨#[0]⟩ : ByteArray)).data.toList 32).toArray⟩ : ByteArray) = zS 32 := by decide
def tagR (key nonce s more : ByteArray) : ByteArray × Int := if key.size = 32 ∧ nonce.size = 12 then (tagS key nonce s more, 0) else (⟨#[]⟩, 2)
set_option maxHeartbeats 1000000 in
/-- tagOf: the tag of sealed bytes and of what goes with them. -/
theorem tagOf_any (key nonce s more : ByteArray) (h1 : more.size ≤ 1000) (h2 : s.size ≤ 3000) (w : World) (hG : Gl w) :
    Calls Tryd.prog 17 #[lockV key nonce, .string s, .string more] w fun e w' => e = .returned (.tuple #[.string (tagR key nonce s more).1, .int .i64 (tagR key nonce s more).2]) ∧ Ext w w' := by
  have HR : Hid (Calls Tryd.prog 22 #[.string ⟨#[0]⟩, .int .i64 32] w fun e w' => e = .returned (.string (zS 32)) ∧ Ext w w') := by
    have h := repeat_any ⟨#[0]⟩ 32 w (by decide) (by decide)
    rw [rep_zero] at h
    exact h
  have HX : Hid (∀ W, Gl W → Calls Tryd.prog 16 #[.agg #[.string key, .string nonce], .int .u32 0, .string (zS 32)] W fun e w' => e = .returned (.tuple #[.string (xorR key nonce 0 (zS 32)).1, .int .i64 (xorR key nonce 0 (zS 32)).2]) ∧ Ext W w') := fun W hW => lx_any key nonce 0 (zS 32) (by decide) (by rw [zS_size]; decide) W hW
  have HT : Hid (∀ W, Calls Tryd.prog 24 #[.string s, .string more] W fun e w' => e = .returned (.string (toldS more s)) ∧ Ext W w') := fun W => told_any more s (by omega) h2 W
  have HP : Hid (∀ W, Calls Tryd.prog 23 #[.string (onceS key nonce), .string (toldS more s)] W fun e w' => e = .returned (.tuple #[.string (tagS key nonce s more), .int .i64 0]) ∧ Ext W w') := fun W => pmac_any _ _ (onceS_size _ _) (toldS_le h1 h2) W
  unfold lockV
  unfold tagR
  by_cases h : key.size = 32 ∧ nonce.size = 12
  · rw [if_pos h]
    have e0 : xorR key nonce 0 (zS 32) = (onceS key nonce, 0) := by unfold xorR; rw [if_pos h, once_xor]
    rw [e0] at HX
    generalize onceS key nonce = kk at *
    generalize tagS key nonce s more = tt at *
    generalize toldS more s = tm at *
    generalize zS 32 = zz at *
    clear e0
    go_enter Tryd.func17, Tryd.ntmps17
    go_wp2_with fail
    refine HR.out.mono ?_
    rintro e w1 ⟨rfl, HX1⟩
    go_wp2_with fail
    refine (HX.out _ (hG.ext HX1)).mono ?_
    rintro e w2 ⟨rfl, HX2⟩
    go_wp2_with fail
    refine (HT.out _).mono ?_
    rintro e w3 ⟨rfl, HX3⟩
    go_wp2_with fail
    refine (HP.out _).mono ?_
    rintro e w4 ⟨rfl, HX4⟩
    go_wp2
    refine bodyPost_ret (v := .tuple #[.string tt, .int .i64 0]) (by simp [results, Tryd.results17, go_sem]) rfl ⟨rfl, ((HX1.trans HX2).trans HX3).trans HX4⟩
  · rw [if_neg h]
    have e0 : xorR key nonce 0 (zS 32) = (⟨#[]⟩, 2) := by unfold xorR; rw [if_neg h]
    rw [e0] at HX
    generalize zS 32 = zz at *
    clear e0
    go_enter Tryd.func17, Tryd.ntmps17
    go_wp2_with fail
    refine HR.out.mono ?_
    rintro e w1 ⟨rfl, HX1⟩
    go_wp2_with fail
    refine (HX.out _ (hG.ext HX1)).mono ?_
    rintro e w2 ⟨rfl, HX2⟩
    go_wp2
    refine bodyPost_ret (v := .tuple #[.string ⟨#[]⟩, .int .i64 2]) (by simp [results, Tryd.results17, go_sem]) rfl ⟨rfl, HX1.trans HX2⟩
theorem xor_zero {a b : Nat} (h : a ^^^ b = 0) : a = b := by
  have e : (a ^^^ b) ^^^ b = a := by rw [Nat.xor_assoc, Nat.xor_self, Nat.xor_zero]
  rw [h, Nat.zero_xor] at e
  exact e.symm
/-- What same gathers. -/
def orN (a b : ByteArray) : Nat → Nat
  | 0 => 0
  | i + 1 => orN a b i ||| (sb a i ^^^ sb b i)
theorem orN_lt (a b : ByteArray) (i : Nat) : orN a b i < 256 := by
  induction i with
  | zero => exact (by decide : (0 : Nat) < 256)
  | succ i ih => exact Nat.or_lt_two_pow (n := 8) ih (Nat.xor_lt_two_pow (n := 8) (sb_lt _ _) (sb_lt _ _))
theorem orN_zero (a b : ByteArray) (i : Nat) : orN a b i = 0 ↔ ∀ j, j < i → sb a j = sb b j := by
  induction i with
  | zero => exact ⟨fun _ j hj => absurd hj (by omega), fun _ => rfl⟩
  | succ i ih =>
    show orN a b i ||| (sb a i ^^^ sb b i) = 0 ↔ _
    rw [Nat.or_eq_zero_iff, ih]
    constructor
    · rintro ⟨h1, h2⟩ j hj
      by_cases h : j < i
      · exact h1 j h
      · obtain rfl : j = i := by omega
        exact xor_zero h2
    · intro h
      exact ⟨fun j hj => h j (by omega), by rw [h i (by omega), Nat.xor_self]⟩
theorem same_iff {a b : ByteArray} (ha : a.size = 16) (hb : b.size = 16) : orN a b 16 = 0 ↔ a = b := by
  rw [orN_zero]
  constructor
  · intro h
    rw [← mkS_sb a, ← mkS_sb b, ha, hb]
    exact mkS_congr h
  · rintro rfl j _
    rfl
set_option maxHeartbeats 1000000 in
/-- same: two tags, byte for byte. -/
theorem same_any (a b : ByteArray) (ha : a.size = 16) (hb : b.size = 16) (w : World) :
    Calls Tryd.prog 20 #[.string a, .string b] w fun e w' => e = .returned (.bool (decide (a = b))) ∧ Ext w w' := by
  have HF := same_iff ha hb
  obtain ⟨D, HD⟩ : ∃ D, Hid (decide (a = b) = D) := ⟨_, rfl⟩
  rw [HD.out]
  go_enter Tryd.func20, Tryd.ntmps20
  go_wp2_with fail
  go_loopw [5, 7] (fun u5 u7 wr => ∃ (i : Nat), i ≤ 16 ∧ u7 = .int .i64 i ∧ u5 = .int .u8 (orN a b i : Int) ∧ Hid (Ext w wr)) (fun _ u7 _ => 16 - (intOf u7).toNat)
  case atStart => exact ⟨0, by omega, rfl, rfl, Ext.refl _⟩
  case round =>
    obtain ⟨i, hi16, rfl, rfl, HX⟩ := hrel
    by_cases hlt : i < 16
    · have hi1 : (i : Int) < 16 := by omega
      have hi0 : (0 : Int) ≤ (i : Int) := by omega
      have hal : i < a.size := by omega
      have hbl : i < b.size := by omega
      have ia : (i : Int) < (a.size : Int) := by omega
      have ib : (i : Int) < (b.size : Int) := by omega
      obtain ⟨x, hx⟩ : ∃ x, sb a i ^^^ sb b i = x := ⟨_, rfl⟩
      obtain ⟨y, hy⟩ : ∃ y, orN a b i ||| x = y := ⟨_, rfl⟩
      have HY : Hid (orN a b (i + 1) = y) := by show orN a b i ||| _ = y; rw [hx, hy]
      have e1 : bits BinOp.xor IntKind.u8 ((a[i]'hal).toNat : Int) ((b[i]'hbl).toNat : Int) = (x : Int) := by rw [sb_at a hal, sb_at b hbl, u8_xor_nat _ _ (sb_lt _ _) (sb_lt _ _), hx]
      have hx8 : x < 256 := hx ▸ Nat.xor_lt_two_pow (n := 8) (sb_lt _ _) (sb_lt _ _)
      have e2 : bits BinOp.or IntKind.u8 (orN a b i : Int) (x : Int) = (y : Int) := by rw [u8_or_nat _ _ (orN_lt _ _ _) hx8, hy]
      have HX2 : Hid (Ext w wr.drew) := HX.out.drew
      clear hx hy HX HF
      generalize orN a b i = A at *
      go_wp2_with fail
      go_region
      go_wp2
      go_roundw
      case rel => exact ⟨i + 1, hlt, by go_num, by rw [HY.out], HX2⟩
      case measure => simp [intOf]; omega
    · have HI : Hid (i = 16) := (by omega : i = 16)
      have hni : ¬ (i : Int) < 16 := by omega
      rw [HI.out]
      by_cases h0 : orN a b 16 = 0
      · obtain rfl : true = D := by rw [← HD.out, decide_eq_true (HF.1 h0)]
        rw [h0]
        go_wp2
        go_ret
        exact ⟨rfl, HX.out⟩
      · obtain rfl : false = D := by rw [← HD.out, decide_eq_false (fun h => h0 (HF.2 h))]
        have h1 : ((orN a b 16 : Int) == 0) = false := beq_eq_false_iff_ne.2 (by omega)
        go_wp2
        go_ret
        exact ⟨rfl, HX.out⟩
set_option maxHeartbeats 1000000 in
/-- Seal. -/
theorem aseal_any (key nonce s more : ByteArray) (h1 : more.size ≤ 1000) (h2 : s.size ≤ 3000) (w : World) (hG : Gl w) :
    Calls Tryd.prog 10 #[.string key, .string nonce, .string s, .string more] w fun e w' => e = .returned (.tuple #[.string (sealR key nonce s more).1, .int .i64 (sealR key nonce s more).2]) ∧ Ext w w' := by
  have hmf : ∀ (fn : Fn) (first cap : Array Value) (w : World), (Instr.makeFunc fn first cap).run Tryd.prog w = .ok (.func fn first cap) w := fun _ _ _ _ => rfl
  have HX : Hid (∀ W, Gl W → Calls Tryd.prog 16 #[.agg #[.string key, .string nonce], .int .u32 1, .string s] W fun e w' => e = .returned (.tuple #[.string (xorR key nonce 1 s).1, .int .i64 (xorR key nonce 1 s).2]) ∧ Ext W w') := fun W hW => lx_any key nonce 1 s (by decide) h2 W hW
  have HT : Hid (∀ W x, x.size ≤ 3000 → Gl W → Calls Tryd.prog 17 #[.func (.func 16) #[.agg #[.string key, .string nonce]] #[], .string x, .string more] W fun e w' => e = .returned (.tuple #[.string (tagR key nonce x more).1, .int .i64 (tagR key nonce x more).2]) ∧ Ext W w') := fun W x hx hW => tagOf_any key nonce x more h1 hx W hW
  unfold sealR
  by_cases h : key.size = 32 ∧ nonce.size = 12
  · rw [if_pos h]
    have e0 : xorR key nonce 1 s = (xorS key nonce 1 s, 0) := by unfold xorR; rw [if_pos h]
    have e1 : tagR key nonce (xorS key nonce 1 s) more = (tagS key nonce (xorS key nonce 1 s) more, 0) := by unfold tagR; rw [if_pos h]
    rw [e0] at HX
    have HT1 := fun W => HT.out W (xorS key nonce 1 s) (by rw [xorS_size]; exact h2)
    rw [e1] at HT1
    have HT2 : Hid _ := HT1
    have HS : Hid (xorS key nonce 1 s ++ tagS key nonce (xorS key nonce 1 s) more = sealS key nonce s more) := rfl
    have q1 : ¬ 9223372036854775807 < (xorS key nonce 1 s).size + (tagS key nonce (xorS key nonce 1 s) more).size := by rw [xorS_size, tagS_size]; omega
    generalize sealS key nonce s more = SS at *
    generalize tagS key nonce (xorS key nonce 1 s) more = tt at *
    generalize xorS key nonce 1 s = x at *
    have hS := HS.out
    clear e0 e1 HT HT1
    go_enter Tryd.func10, Tryd.ntmps10
    go_wp2_with fail
    refine (HX.out _ hG).mono ?_
    rintro e w1 ⟨rfl, HX1⟩
    go_wp2_with fail
    refine (HT2.out _ (hG.ext HX1)).mono ?_
    rintro e w2 ⟨rfl, HX2⟩
    go_wp2
    refine bodyPost_ret (v := .tuple #[.string SS, .int .i64 0]) (by simp [results, Tryd.results10, go_sem]) rfl ⟨rfl, HX1.trans HX2⟩
  · rw [if_neg h]
    have e0 : xorR key nonce 1 s = (⟨#[]⟩, 2) := by unfold xorR; rw [if_neg h]
    rw [e0] at HX
    clear e0
    go_enter Tryd.func10, Tryd.ntmps10
    go_wp2_with fail
    refine (HX.out _ hG).mono ?_
    rintro e w1 ⟨rfl, HX1⟩
    go_wp2
    refine bodyPost_ret (v := .tuple #[.string ⟨#[]⟩, .int .i64 2]) (by simp [results, Tryd.results10, go_sem]) rfl ⟨rfl, HX1⟩
set_option maxRecDepth 10000 in
set_option maxHeartbeats 2000000 in
/-- Open. -/
theorem aopen_any (key nonce s more : ByteArray) (h1 : more.size ≤ 1000) (h2 : s.size ≤ 3000) (w : World) (hG : Gl w) :
    Calls Tryd.prog 12 #[.string key, .string nonce, .string s, .string more] w fun e w' => e = .returned (.tuple #[.string (openR key nonce s more).1, .int .i64 (openR key nonce s more).2]) ∧ Ext w w' := by
  have hmf : ∀ (fn : Fn) (first cap : Array Value) (w : World), (Instr.makeFunc fn first cap).run Tryd.prog w = .ok (.func fn first cap) w := fun _ _ _ _ => rfl
  have HX : Hid (∀ W, Gl W → Calls Tryd.prog 16 #[.agg #[.string key, .string nonce], .int .u32 1, .string (bodyS s)] W fun e w' => e = .returned (.tuple #[.string (xorR key nonce 1 (bodyS s)).1, .int .i64 (xorR key nonce 1 (bodyS s)).2]) ∧ Ext W w') := fun W hW => lx_any key nonce 1 (bodyS s) (by decide) (by rw [bodyS_size]; omega) W hW
  have HT : Hid (∀ W, Gl W → Calls Tryd.prog 17 #[.func (.func 16) #[.agg #[.string key, .string nonce]] #[], .string (bodyS s), .string more] W fun e w' => e = .returned (.tuple #[.string (tagR key nonce (bodyS s) more).1, .int .i64 (tagR key nonce (bodyS s) more).2]) ∧ Ext W w') := fun W hW => tagOf_any key nonce (bodyS s) more h1 (by rw [bodyS_size]; omega) W hW
  by_cases h0 : s.size < 16
  · unfold openR
    rw [if_pos (Or.inl h0)]
    have h3 : (s.size : Int) < 16 := by omega
    go_enter Tryd.func12, Tryd.ntmps12
    go_wp2
    refine bodyPost_ret (v := .tuple #[.string ⟨#[]⟩, .int .i64 2]) (by simp [results, Tryd.results12, go_sem]) rfl ⟨rfl, Ext.refl _⟩
  · have h3 : ¬ (s.size : Int) < 16 := by omega
    obtain ⟨p, hp⟩ : ∃ p, s.size - 16 = p := ⟨_, rfl⟩
    have e1 : IntKind.i64.wrap ((s.size : Int) - 16) = (p : Int) := by rw [IntKind.wrap_i64]; omega
    have p0 : (0 : Int) ≤ (p : Int) := by omega
    have p1 : (p : Int) ≤ (s.size : Int) := by omega
    have p2 : p ≤ s.size := by omega
    have HBo : Hid (s.extract 0 p = bodyS s) := by unfold bodyS; rw [hp]; rfl
    have HTl : Hid (s.extract p s.size = tailS s) := by unfold tailS; rw [hp]; rfl
    have HSa : Hid (∀ W, Calls Tryd.prog 20 #[.string (tailS s), .string (tagS key nonce (bodyS s) more)] W fun e w' => e = .returned (.bool (decide (tailS s = tagS key nonce (bodyS s) more))) ∧ Ext W w') := fun W => same_any _ _ (tailS_size (by omega)) (tagS_size _ _ _ _) W
    obtain ⟨R, HR⟩ : ∃ R, Hid (openR key nonce s more = R) := ⟨_, rfl⟩
    rw [HR.out]
    have HRb : Hid (¬ (key.size = 32 ∧ nonce.size = 12) → xorR key nonce 1 (bodyS s) = (⟨#[]⟩, 2) ∧ tagR key nonce (bodyS s) more = (⟨#[]⟩, 2) ∧ R = (⟨#[]⟩, 2)) := fun h => ⟨by unfold xorR; rw [if_neg h], by unfold tagR; rw [if_neg h], by rw [← HR.out]; unfold openR; rw [if_pos (Or.inr h)]⟩
    have HRg : Hid (key.size = 32 ∧ nonce.size = 12 → xorR key nonce 1 (bodyS s) = (xorS key nonce 1 (bodyS s), 0) ∧ tagR key nonce (bodyS s) more = (tagS key nonce (bodyS s) more, 0) ∧ R = if tailS s = tagS key nonce (bodyS s) more then (xorS key nonce 1 (bodyS s), 0) else (⟨#[]⟩, 4)) := fun h => ⟨by unfold xorR; rw [if_pos h], by unfold tagR; rw [if_pos h], by
      rw [← HR.out]
      unfold openR
      rw [if_neg (by omega)]
      by_cases he : tailS s = tagS key nonce (bodyS s) more
      · rw [if_pos he, if_pos he.symm]
      · rw [if_neg he, if_neg (fun h => he h.symm)]⟩
    clear HR
    generalize xorR key nonce 1 (bodyS s) = xr at *
    generalize tagR key nonce (bodyS s) more = tr at *
    generalize tagS key nonce (bodyS s) more = tt at *
    generalize xorS key nonce 1 (bodyS s) = oo at *
    generalize bodyS s = bo at *
    generalize tailS s = tl at *
    clear hp
    have hB := HBo.out
    have hT := HTl.out
    go_enter Tryd.func12, Tryd.ntmps12
    go_wp2_with fail
    have HE2 : Hid (Ext w w.drew) := (Ext.refl w).drew
    have hG2 := hG.ext HE2.out
    refine wp_region_noPanic ?_
    refine wp_region_any (by kernel_rfl) ?_
    rw [show ({ w with drawn := w.drawn + 1 } : World) = w.drew from rfl]
    generalize w.drew = w2 at *
    refine any_take (i := 0) (v := ?v0) rfl (by kernel_rfl) (by kernel_rfl) (by kernel_rfl) (fun _ _ _ h => h) rfl ?hy0 ?rest0
    case hy0 => (intro w; go_simp; try with_reducible rfl)
    try simp only [Act.put, List.setIfInBounds_toArray, List.set_cons_zero, List.set_cons_succ]
    refine any_take (i := 1) (v := ?v1) rfl (by kernel_rfl) (by kernel_rfl) (by kernel_rfl) (fun _ _ _ h => h) rfl ?hy1 ?rest1
    case hy1 => (intro w; go_simp; try with_reducible rfl)
    try simp only [Act.put, List.setIfInBounds_toArray, List.set_cons_zero, List.set_cons_succ]
    refine any_take (i := 2) (v := ?v2) rfl (by kernel_rfl) (by kernel_rfl) (by kernel_rfl) (fun _ _ _ h => h) rfl ?hy2 ?rest2
    case hy2 => (intro w; go_simp; try with_reducible rfl)
    try simp only [Act.put, List.setIfInBounds_toArray, List.set_cons_zero, List.set_cons_succ]
    refine any_take (i := 3) (v := ?v3) rfl (by kernel_rfl) (by kernel_rfl) (by kernel_rfl) (fun _ _ _ h => h) rfl ?hy3 ?rest3
    case hy3 => (intro w; go_simp; try with_reducible rfl)
    try simp only [Act.put, List.setIfInBounds_toArray, List.set_cons_zero, List.set_cons_succ]
    refine any_take (i := 4) (v := ?v4) rfl (by kernel_rfl) (by kernel_rfl) (by kernel_rfl) (fun _ _ _ h => h) rfl ?hy4 ?rest4
    case hy4 => (intro w; go_simp; try with_reducible rfl)
    try simp only [Act.put, List.setIfInBounds_toArray, List.set_cons_zero, List.set_cons_succ]
    refine any_take (i := 5) (v := ?v5) rfl (by kernel_rfl) (by kernel_rfl) (by kernel_rfl) (fun _ _ _ h => h) rfl ?hy5 ?rest5
    case hy5 => (intro w; go_simp; try with_reducible rfl)
    try simp only [Act.put, List.setIfInBounds_toArray, List.set_cons_zero, List.set_cons_succ]
    refine any_take (i := 6) (v := ?v6) rfl (by kernel_rfl) (by kernel_rfl) (by kernel_rfl) (fun _ _ _ h => h) rfl ?hy6 ?rest6
    case hy6 => (intro w; go_simp; try with_reducible rfl)
    try simp only [Act.put, List.setIfInBounds_toArray, List.set_cons_zero, List.set_cons_succ]
    refine any_take (i := 7) (v := ?v7) rfl (by kernel_rfl) (by kernel_rfl) (by kernel_rfl) (fun _ _ _ h => h) rfl ?hy7 ?rest7
    case hy7 => (intro w; go_simp; try with_reducible rfl)
    try simp only [Act.put, List.setIfInBounds_toArray, List.set_cons_zero, List.set_cons_succ]
    refine any_take (i := 8) (v := ?v8) rfl (by kernel_rfl) (by kernel_rfl) (by kernel_rfl) (fun _ _ _ h => h) rfl ?hy8 ?rest8
    case hy8 => (intro w; go_simp; try with_reducible rfl)
    try simp only [Act.put, List.setIfInBounds_toArray, List.set_cons_zero, List.set_cons_succ]
    refine any_take (i := 9) (v := ?v9) rfl (by kernel_rfl) (by kernel_rfl) (by kernel_rfl) (fun _ _ _ h => h) rfl ?hy9 ?rest9
    case hy9 => (intro w; go_simp; try with_reducible rfl)
    try simp only [Act.put, List.setIfInBounds_toArray, List.set_cons_zero, List.set_cons_succ]
    refine any_take (i := 10) (v := ?v10) rfl (by kernel_rfl) (by kernel_rfl) (by kernel_rfl) (fun _ _ _ h => h) rfl ?hy10 ?rest10
    case hy10 => (intro w; go_simp; try with_reducible rfl)
    try simp only [Act.put, List.setIfInBounds_toArray, List.set_cons_zero, List.set_cons_succ]
    refine any_take (i := 11) (v := ?v11) rfl (by kernel_rfl) (by kernel_rfl) (by kernel_rfl) (fun _ _ _ h => h) rfl ?hy11 ?rest11
    case hy11 => (intro w; go_simp; try with_reducible rfl)
    try simp only [Act.put, List.setIfInBounds_toArray, List.set_cons_zero, List.set_cons_succ]
    refine wpAny_done (by kernel_rfl) ?_ _
    refine NoPanic.normal ?_
    clear hB hT p1 p2
    by_cases h : key.size = 32 ∧ nonce.size = 12
    · obtain ⟨rfl, rfl, hR⟩ := HRg.out h
      go_wp2_with fail
      refine (HT.out _ hG2).mono ?_
      rintro e w3 ⟨rfl, HX3⟩
      go_wp2_with fail
      refine (HSa.out _).mono ?_
      rintro e w4 ⟨rfl, HX4⟩
      have HE4 : Hid (Ext w w4) := (HE2.out.trans HX3).trans HX4
      by_cases he : tl = tt
      · obtain rfl : R = (oo, 0) := by rw [hR, if_pos he]
        rw [decide_eq_true he]
        go_wp2_with fail
        refine (HX.out _ (hG.ext HE4.out)).mono ?_
        rintro e w5 ⟨rfl, HX5⟩
        go_wp2
        refine bodyPost_ret (v := .tuple #[.string oo, .int .i64 0]) (by simp [results, Tryd.results12, go_sem]) rfl ⟨rfl, HE4.out.trans HX5⟩
      · obtain rfl : R = (⟨#[]⟩, 4) := by rw [hR, if_neg he]
        rw [decide_eq_false he]
        go_wp2
        refine bodyPost_ret (v := .tuple #[.string ⟨#[]⟩, .int .i64 4]) (by simp [results, Tryd.results12, go_sem]) rfl ⟨rfl, HE4.out⟩
    · obtain ⟨rfl, rfl, rfl⟩ := HRb.out h
      go_wp2_with fail
      refine (HT.out _ hG2).mono ?_
      rintro e w3 ⟨rfl, HX3⟩
      go_wp2
      refine bodyPost_ret (v := .tuple #[.string ⟨#[]⟩, .int .i64 2]) (by simp [results, Tryd.results12, go_sem]) rfl ⟨rfl, HE2.out.trans HX3⟩
end Go.Proofs.YtbcgipapbamgfaaDoor
