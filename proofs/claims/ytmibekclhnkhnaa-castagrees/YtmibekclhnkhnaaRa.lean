/-
  Messages in a slice; sandglassref20.count, Casts, sandglasslaw20.Few, called.
-/
import Derived.Test.YtmibekclhnkhnaaCb
namespace Go.Proofs.Ytmibekclhnkhnaa
open Go.RowKit
/-- The slice v holds the messages L. -/
def MsIs (w : World) (v : Value) (L : List Msg) : Prop :=
  ∃ (a : Option Addr) (cap : Nat), v = .slice a L.length cap ∧ (0 < L.length → ∃ b o, a = some ⟨b, o, none⟩ ∧ b < w.heap.size ∧ ∀ j m, L[j]? = some m → w.cell? ⟨b, o + j * 3, none⟩ = some (.int .i64 m.kd) ∧ w.cell? ⟨b, o + j * 3 + 1, none⟩ = some (.int .i64 m.fr) ∧ w.cell? ⟨b, o + j * 3 + 2, none⟩ = some (.string m.bd))
theorem MsIs.ext {w w' : World} {v : Value} {L : List Msg} (h : MsIs w v L) (hx : Ext w w') : MsIs w' v L := by
  obtain ⟨a, cap, hv, h⟩ := h
  refine ⟨a, cap, hv, fun hn => ?_⟩
  obtain ⟨b, o, ha, hb, hc⟩ := h hn
  exact ⟨b, o, ha, Nat.lt_of_lt_of_le hb hx.size, fun j m hj => ⟨later hx (hc j m hj).1, later hx (hc j m hj).2.1, later hx (hc j m hj).2.2⟩⟩
theorem MsIs.get {w : World} {a : Option Addr} {cap : Nat} {L : List Msg} (h : MsIs w (.slice a L.length cap) L) {j : Nat} {m : Msg} (hj : L[j]? = some m) :
    ∃ b o, a = some ⟨b, o, none⟩ ∧ b < w.heap.size ∧ w.cell? ⟨b, o + j * 3, none⟩ = some (.int .i64 m.kd) ∧ w.cell? ⟨b, o + j * 3 + 1, none⟩ = some (.int .i64 m.fr) ∧ w.cell? ⟨b, o + j * 3 + 2, none⟩ = some (.string m.bd) := by
  obtain ⟨a', cap', hv, h⟩ := h
  injection hv with e1 e2 e3
  subst e1
  have : j < L.length := (List.getElem?_eq_some_iff.1 hj).1
  obtain ⟨b, o, ha, hb, hc⟩ := h (by omega)
  exact ⟨b, o, ha, hb, hc j m hj⟩
theorem mcs_len (L : List Msg) : (mcs L).length = L.length * 3 := by
  induction L with
  | nil => rfl
  | cons m r ih => show (_ :: _ :: _ :: mcs r).length = _; simp [ih]; omega
theorem mcs_app (L M : List Msg) : mcs (L ++ M) = mcs L ++ mcs M := by unfold mcs; simp
theorem mcs_get : ∀ (L : List Msg) {j : Nat} {m : Msg}, L[j]? = some m → (mcs L)[j * 3]? = some (.int .i64 m.kd) ∧ (mcs L)[j * 3 + 1]? = some (.int .i64 m.fr) ∧ (mcs L)[j * 3 + 2]? = some (.string m.bd)
  | [], j, m, h => by simp at h
  | x :: r, 0, m, h => by
    simp at h
    subst h
    exact ⟨rfl, rfl, rfl⟩
  | x :: r, j + 1, m, h => by
    have := mcs_get r (j := j) (m := m) (by simpa using h)
    show (_ :: _ :: _ :: mcs r)[(j + 1) * 3]? = _ ∧ (_ :: _ :: _ :: mcs r)[(j + 1) * 3 + 1]? = _ ∧ (_ :: _ :: _ :: mcs r)[(j + 1) * 3 + 2]? = _
    rw [show (j + 1) * 3 = j * 3 + 3 from by omega]
    exact this
theorem mcs_one (L : List Msg) : ∀ u ∈ mcs L, u.oneCell' = true := by
  intro u hu
  obtain ⟨m, _, q⟩ := List.mem_flatMap.1 hu
  simp at q
  rcases q with rfl | rfl | rfl <;> rfl
theorem own_ms {w : World} {base : Nat} {v : Value} {L : List Msg} (h : w.ownsRow base 38 3 v L.length (mcs L)) : MsIs w v L := by
  have hc := h
  rcases h.2 with ⟨rfl, q⟩ | ⟨g, cap, cur, rfl, hb, hgg, hnc, hm, hs, ht⟩
  · refine ⟨none, 0, by rw [q], fun hn => by omega⟩
  · refine ⟨_, cap, rfl, fun hn => ⟨g, 0, rfl, (Array.getElem?_eq_some_iff.1 hgg).1, fun j m hj => ?_⟩⟩
    obtain ⟨q0, q1, q2⟩ := mcs_get L hj
    have hadd : ∀ k, (⟨g, 0, none⟩ : Addr).add k = ⟨g, 0 + k, none⟩ := fun k => by unfold Addr.add; split <;> simp_all
    have c0 := hc.cells (g := g) rfl _ _ q0
    have c1 := hc.cells (g := g) rfl _ _ q1
    have c2 := hc.cells (g := g) rfl _ _ q2
    rw [hadd] at c0 c1 c2
    exact ⟨c0, c1, c2⟩
theorem toList_ne {a b : ByteArray} (h : a ≠ b) : (a.toList == b.toList) = false := by
  cases q : (a.toList == b.toList) with
  | false => rfl
  | true =>
    have q := eq_of_beq q
    rw [ByteArray.toList_eq, ByteArray.toList_eq] at q
    exact absurd (ba_eq q) h
theorem toList_same {a b : ByteArray} (h : a = b) : (a.toList == b.toList) = true := by rw [h]; exact beq_self_eq_true _
/-- A part of the definition, as it is handed round. -/
abbrev rC (N T F : Nat) (u : Value) (rd dn : Bool) (B : ByteArray) : Value := .agg #[.int .i64 (N : Int), .int .i64 (T : Int), .int .i64 (F : Int), u, .bool rd, .bool dn, .string B]
theorem lp_nums (j n : Nat) (h : j < n) (hn : n ≤ 100000) : (j : Int) < (n : Int) ∧ (0 : Int) ≤ (j : Int) ∧ IntKind.i64.wrap ((j : Int) + 1) = (j : Int) + 1 := by
  refine ⟨by omega, by omega, ?_⟩
  rw [IntKind.wrap_i64]; omega
theorem lp_meas {j n : Nat} (h : j < n) : n - (intOf (.int .i64 ((j : Int) + 1))).toNat < n - (intOf (.int .i64 (j : Int))).toNat := by simp [intOf]; omega
theorem cnt_step {L : List Msg} {j : Nat} {m : Msg} (h : L[j]? = some m) (k : Int) (B : ByteArray) : cnt (L.take (j + 1)) k B = cnt (L.take j) k B + if m.kd = k ∧ m.bd = B then 1 else 0 := by
  rw [← cnt_snoc, List.take_add_one, h]; rfl
set_option maxHeartbeats 2000000 in
theorem rcount_any (N T F : Nat) (a : Option Addr) (cap : Nat) (L : List Msg) (rd dn : Bool) (X : ByteArray) (k : Int) (B : ByteArray) (hn : L.length ≤ 1000) (w : World) (hL : MsIs w (.slice a L.length cap) L) :
    Calls Try.prog 19 #[rC N T F (.slice a L.length cap) rd dn X, .int .i64 k, .string B] w fun e w' => e = .returned (.int .i64 (cnt L k B : Int)) ∧ Ext w w' := by
  have HL : Hid (MsIs w (.slice a L.length cap) L) := hL
  have HE0 : Hid (Ext w (w.alloc (.cells #[.int .i64 (N : Int), .int .i64 (T : Int), .int .i64 (F : Int), .slice a L.length cap, .bool rd, .bool dn, .string X] 32))) := (Ext.refl w).alloc _
  have HBx : Hid (∀ W, Ext (w.alloc (.cells #[.int .i64 (N : Int), .int .i64 (T : Int), .int .i64 (F : Int), .slice a L.length cap, .bool rd, .bool dn, .string X] 32)) W → W.cell? ⟨w.heap.size, 3, none⟩ = some (.slice a L.length cap) ∧ w.heap.size < W.heap.size) := fun W hW => ⟨later hW (by rw [World.cell?_alloc_at _ _ _ _ rfl]; rfl), by have := hW.size; simp at this; omega⟩
  obtain ⟨n, HN⟩ : ∃ n, Hid (L.length = n) := ⟨_, rfl⟩
  rw [HN.out] at HL HBx HE0 ⊢
  go_enter Try.func19, Try.ntmps19
  go_wp2
  obtain ⟨W0, hW0⟩ : ∃ W0, w.alloc (.cells #[.int .i64 (N : Int), .int .i64 (T : Int), .int .i64 (F : Int), .slice a n cap, .bool rd, .bool dn, .string X] 32) = W0 := ⟨_, rfl⟩
  rw [hW0] at HE0 HBx ⊢
  have HW0 : Hid (Ext W0 W0) := Ext.refl W0
  clear hW0 hL
  go_loopw [7, 8] (fun u7 u8 wr => ∃ j : Nat, j ≤ n ∧ u8 = .int .i64 j ∧ u7 = .int .i64 (cnt (L.take j) k B : Nat) ∧ Hid (Ext W0 wr)) (fun _ u8 _ => n - (intOf u8).toNat)
  case atStart => exact ⟨0, Nat.zero_le _, rfl, rfl, HW0⟩
  case round =>
    obtain ⟨j, hj, rfl, rfl, HE⟩ := hrel
    obtain ⟨c3, hlt0⟩ := HBx.out _ HE.out
    by_cases hlt : j < n
    · obtain ⟨q1, q0, qw⟩ := lp_nums j n hlt (by have := HN.out; omega)
      obtain ⟨m, hm⟩ : ∃ m, L[j]? = some m := ⟨L[j]'(by rw [HN.out]; exact hlt), List.getElem?_eq_getElem _⟩
      have HL2 : MsIs wr (.slice a L.length cap) L := by rw [HN.out]; exact HL.out.ext (HE0.out.trans HE.out)
      obtain ⟨g, o, rfl, hbl, hd0, hd1, hd2⟩ := HL2.get hm
      clear HL2
      have HS : Hid (cnt (L.take (j + 1)) k B = cnt (L.take j) k B + if m.kd = k ∧ m.bd = B then 1 else 0) := cnt_step hm k B
      obtain ⟨c, HC⟩ : ∃ c, Hid (cnt (L.take j) k B = c) := ⟨_, rfl⟩
      rw [HC.out] at HS ⊢
      have hcw : IntKind.i64.wrap ((c : Int) + 1) = (c : Int) + 1 := by
        have h1 := cnt_le (L.take j) k B
        rw [HC.out, List.length_take] at h1
        rw [IntKind.wrap_i64]; omega
      by_cases hk : m.kd = k
      · by_cases hB : m.bd = B
        · have HS2 : Hid (cnt (L.take (j + 1)) k B = c + 1) := by show _ = _; rw [HS.out, if_pos ⟨hk, hB⟩]
          have hb := toList_same hB
          clear hB HS
          go_wp2
          go_roundw
          case rel => exact ⟨j + 1, hlt, by push_cast; rfl, by rw [HS2.out]; push_cast; rfl, HE⟩
          case measure => exact lp_meas hlt
        · have HS2 : Hid (cnt (L.take (j + 1)) k B = c) := by show _ = _; rw [HS.out, if_neg (fun q => hB q.2)]; rfl
          have hb := toList_ne hB
          clear hB HS
          go_wp2
          go_roundw
          case rel => exact ⟨j + 1, hlt, by push_cast; rfl, by rw [HS2.out], HE⟩
          case measure => exact lp_meas hlt
      · have HS2 : Hid (cnt (L.take (j + 1)) k B = c) := by show _ = _; rw [HS.out, if_neg (fun q => hk q.1)]; rfl
        clear HS
        go_wp2
        go_roundw
        case rel => exact ⟨j + 1, hlt, by push_cast; rfl, by rw [HS2.out], HE⟩
        case measure => exact lp_meas hlt
    · obtain rfl : j = n := by omega
      have hnl : ¬ (j : Int) < (j : Int) := by omega
      have HF : Hid (L.take j = L) := List.take_of_length_le (by rw [HN.out]; exact Nat.le_refl _)
      go_wp2
      go_ret
      exact ⟨by rw [HF.out]; rfl, HE0.out.trans HE.out⟩
/-- What Few tells. -/
def FewP (L : List Msg) (w : World) (e : Ending) (w' : World) : Prop := ∃ b : Int, e = .returned (.int .i64 b) ∧ (b = 0 ∨ (b = 1 ∧ L.length ≤ 80)) ∧ Ext w w'
set_option maxHeartbeats 1000000 in
theorem few_any (v : Value) (L : List Msg) (w : World) (hL : MsIs w v L) : Calls Try.prog 11 #[v] w fun e w' => FewP L w e w' := by
  have HL0 : Hid (MsIs w v L) := hL
  obtain ⟨a, cap, rfl, _⟩ := hL
  have HE0 : Hid (Ext w w) := Ext.refl w
  obtain ⟨n, HN⟩ : ∃ n, Hid (L.length = n) := ⟨_, rfl⟩
  have HL := HL0
  rw [HN.out] at HL ⊢
  clear HL0
  by_cases hn : 80 < n
  · have h1 : (80 : Int) < (n : Int) := by omega
    go_enter Try.func11, Try.ntmps11
    go_wp2
    go_ret
    exact ⟨0, rfl, .inl rfl, HE0.out⟩
  · have h1 : ¬ (80 : Int) < (n : Int) := by omega
    have Hn : Hid (n ≤ 80) := by show _ ≤ _; omega
    clear hn
    go_enter Try.func11, Try.ntmps11
    go_wp2
    go_loopw [3] (fun u3 wr => ∃ j : Nat, j ≤ n ∧ u3 = .int .i64 j ∧ Hid (Ext w wr)) (fun u3 _ => n - (intOf u3).toNat)
    case atStart => exact ⟨0, Nat.zero_le _, rfl, HE0⟩
    case round =>
      obtain ⟨j, hk, rfl, HE⟩ := hrel
      clear HE0
      by_cases hlt : j < n
      · obtain ⟨q1, q0, qw⟩ := lp_nums j n hlt (by have := Hn.out; omega)
        obtain ⟨m, hm⟩ : ∃ m, L[j]? = some m := ⟨L[j]'(by rw [HN.out]; exact hlt), List.getElem?_eq_getElem _⟩
        have HL2 : MsIs wr (.slice a L.length cap) L := by rw [HN.out]; exact HL.out.ext HE.out
        obtain ⟨g, o, rfl, hbl, hd0, hd1, hd2⟩ := HL2.get hm
        clear HL2 hm hd0 hd1
        by_cases hbig : (5000 : Int) < (m.bd.size : Int)
        · go_wp2
          go_ret
          exact ⟨0, rfl, .inl rfl, HE.out⟩
        · go_wp2
          go_roundw
          case rel => exact ⟨j + 1, hlt, by push_cast; rfl, HE⟩
          case measure => exact lp_meas hlt
      · obtain rfl : j = n := by omega
        have hnl : ¬ (j : Int) < (j : Int) := by omega
        go_wp2
        go_ret
        exact ⟨1, rfl, .inr ⟨rfl, by rw [HN.out]; exact Hn.out⟩, HE.out⟩
set_option maxHeartbeats 1000000 in
theorem rcasts_any (v u : Value) (L : List Msg) (hn : L.length ≤ 1000) (w : World) (hv : MsIs w v L) (hu : MsIs w u L) : Calls Try.prog 20 #[v, u] w fun e w' => e = .returned (.bool true) ∧ Ext w w' := by
  have HV0 : Hid (MsIs w v L) := hv
  have HU0 : Hid (MsIs w u L) := hu
  obtain ⟨a, cap, rfl, _⟩ := hv
  obtain ⟨a', cap', rfl, _⟩ := hu
  have HE0 : Hid (Ext w w) := Ext.refl w
  obtain ⟨n, HN⟩ : ∃ n, Hid (L.length = n) := ⟨_, rfl⟩
  have HV := HV0
  have HU := HU0
  rw [HN.out] at HV HU hn ⊢
  clear HV0 HU0
  go_enter Try.func20, Try.ntmps20
  go_wp2
  go_loopw [5] (fun u5 wr => ∃ j : Nat, j ≤ n ∧ u5 = .int .i64 j ∧ Hid (Ext w wr)) (fun u5 _ => n - (intOf u5).toNat)
  case atStart => exact ⟨0, Nat.zero_le _, rfl, HE0⟩
  case round =>
    obtain ⟨j, hk, rfl, HE⟩ := hrel
    clear HE0
    by_cases hlt : j < n
    · obtain ⟨q1, q0, qw⟩ := lp_nums j n hlt (by omega)
      obtain ⟨m, hm⟩ : ∃ m, L[j]? = some m := ⟨L[j]'(by rw [HN.out]; exact hlt), List.getElem?_eq_getElem _⟩
      have HV2 : MsIs wr (.slice a L.length cap) L := by rw [HN.out]; exact HV.out.ext HE.out
      have HU2 : MsIs wr (.slice a' L.length cap') L := by rw [HN.out]; exact HU.out.ext HE.out
      obtain ⟨g, o, rfl, hbl, hd0, hd1, hd2⟩ := HV2.get hm
      obtain ⟨g', o', rfl, hbl', he0, he1, he2⟩ := HU2.get hm
      clear HV2 HU2 hm
      go_wp2_with fail
      go_quiet (fail)
      go_wp2
      go_roundw
      case rel => exact ⟨j + 1, hlt, by push_cast; rfl, HE.out.drewN _⟩
      case measure => exact lp_meas hlt
    · obtain rfl : j = n := by omega
      go_wp2
      go_ret
      exact ⟨rfl, HE.out⟩
end Go.Proofs.Ytmibekclhnkhnaa
