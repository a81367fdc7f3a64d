/-
  The laws of layer 8, called (the other two): true for every input; nothing old is turned.
-/
import Derived.Test.YtfhglfldmboanaaDoorHAwake
import Derived.Test.YtfhglfldmboanaaDoorRefSum
namespace Go.Proofs.YtfhglfldmboanaaDoor
open Go.RowKit
theorem keyS_long {key : ByteArray} (h : 64 < key.size) : keyS (shaS key) = keyS key := by
  have e1 : keyS key = shaS key := if_pos h
  have e2 : keyS (shaS key) = shaS key := if_neg (by rw [shaS_size]; decide)
  rw [e1, e2]
theorem mac_long {key : ByteArray} (s : ByteArray) (h : 64 < key.size) : macS (shaS key) s = macS key s := by
  unfold macS padS
  rw [keyS_long h]
theorem sb_zeros (key : ByteArray) (k i : Nat) : sb (key ++ mkS (fun _ => 0) k) i = sb key i := by
  unfold sb
  congr 1
  have e : (key ++ mkS (fun _ => 0) k).data.toList = key.data.toList ++ List.replicate k 0 := by
    rw [ByteArray.data_append, Array.toList_append]
    congr 1
    show (((List.range k).map fun _ => UInt8.ofNat 0).toArray).toList = _
    simp [List.map_const']
  rw [e, List.getD_eq_getElem?_getD, List.getD_eq_getElem?_getD, List.getElem?_append]
  split
  · rfl
  · rename_i h
    rw [List.getElem?_eq_none (by omega : key.data.toList.length ≤ i), List.getElem?_replicate]
    split <;> rfl
theorem mac_zeros {key : ByteArray} (s : ByteArray) {k : Nat} (h : key.size + k ≤ 64) : macS (key ++ mkS (fun _ => 0) k) s = macS key s := by
  have e1 : keyS key = key := if_neg (by omega)
  have e2 : keyS (key ++ mkS (fun _ => 0) k) = key ++ mkS (fun _ => 0) k := if_neg (by rw [ByteArray.size_append, mkS_size]; omega)
  have e3 : padS (key ++ mkS (fun _ => 0) k) = padS key := by
    funext x
    unfold padS
    rw [e1, e2]
    congr 1
    funext i
    rw [sb_zeros]
  unfold macS
  rw [e3]
theorem extAlloc {a w : World} {o : Obj} (h : Ext a w) : Ext a (w.alloc o) := h.alloc o
theorem extDrew {a w : World} (h : Ext a w) : Ext a w.drew := h.drew
theorem zeros_k (n : Int) (L : Nat) (hL : L ≤ 64) : ∃ k : Nat, L + k ≤ 64 ∧ wrap64 ((IntKind.u64.wrap n).tmod (65 - (L : Int))) = (k : Int) := by
  have h0 : 0 ≤ IntKind.u64.wrap n := by rw [IntKind.wrap_u64]; omega
  rw [Int.tmod_eq_emod_of_nonneg h0]
  have h1 := Int.emod_nonneg (IntKind.u64.wrap n) (show (65 - (L : Int)) ≠ 0 by omega)
  have h2 := Int.emod_lt_of_pos (IntKind.u64.wrap n) (show 0 < (65 - (L : Int)) by omega)
  refine ⟨((IntKind.u64.wrap n) % (65 - (L : Int))).toNat, by omega, ?_⟩
  unfold wrap64
  omega
/-- k bytes 0 lie in block g. -/
def ZB (k g : Nat) (wx : World) : Prop := g < wx.heap.size ∧ ∀ j, j < k → wx.cell? ⟨g, j, none⟩ = some (.int .u8 0)
theorem ZB.ext {k g : Nat} {w w' : World} (h : ZB k g w) (hx : Ext w w') : ZB k g w' := ⟨Nat.lt_of_lt_of_le h.1 hx.size, fun j hj => later hx (h.2 j hj)⟩
theorem make_zeros (k : Nat) (hk : k ≤ 64) : ∃ Zc : Array Value, (∀ W : World, (Instr.makeSlice 33 (.int .i64 (k : Int)) (.int .i64 (k : Int))).run Tryd.prog W = .ok (.slice (some ⟨W.heap.size, 0, none⟩) k k) (W.alloc (.cells Zc 5))) ∧ ∀ W : World, ZB k W.heap.size (W.alloc (.cells Zc 5)) := by
  obtain ⟨i0, hi, hz0, hz1, hz2⟩ := info_parts Tryd.info5
  refine ⟨madeCells #[.int .u8 0] k, fun W => ?_, fun W => ⟨by simp, fun j hj => ?_⟩⟩
  · have := run_make (P := Tryd.prog) W 33 5 i0 (.int .u8 0) Tryd.underlying33 hi hz0 .i64 .i64 (k : Int) (k : Int) (by omega) (by omega) (by rw [hz2]; omega) (by omega)
    rw [Int.toNat_natCast, hz1, Nat.mul_one] at this
    exact this
  · rw [World.cell?_alloc_at _ _ _ _ rfl]
    have := lst_get (kd := .u8) (T := fun _ => 0) (n := k) (i := j) hj
    rw [← made_lst'] at this
    simpa using this
theorem zeros_string {k g : Nat} {wx : World} (hk : k ≤ 64) (h : ZB k g wx) : Sem.run Tryd.prog (convert 33 9 (.slice (some ⟨g, 0, none⟩) k k)) wx = .ok (.string (mkS (fun _ => 0) k)) wx := by
  by_cases h0 : k = 0
  · subst h0
    rw [run_convert_bytes_string _ 33 9 5 _ _ _ Tryd.underlying33 Tryd.underlying5 Tryd.underlying9]
    rw [run_bytesToString _ _ _ _ []]
    · rfl
    · rfl
  · refine run_lst_string Tryd.prog 5 33 9 Tryd.underlying33 Tryd.underlying5 Tryd.underlying9 _ (fun _ => 0) k _ ?_ (by omega)
    refine .inr ⟨g, 0, k, by rw [lst_len], h.1, ?_, fun j x hj => ?_⟩
    · rw [lst_len]; unfold maxLen; omega
    · obtain ⟨hj1, rfl⟩ := lst_of hj
      rw [Nat.zero_add]
      exact h.2 j hj1
set_option maxHeartbeats 1000000 in
theorem hmacZeros_any (key s : ByteArray) (hk : key.size ≤ maxLen) (hs : s.size ≤ maxLen) (n : Int) (_h1 : -9223372036854775808 ≤ n) (_h2 : n ≤ 9223372036854775807) (w : World) (hG : Gl w) :
    Calls Tryd.prog 5 #[.string key, .string s, .int .i64 n] w fun e w' => e = .returned (.bool true) ∧ Ext w w' := by
  unfold maxLen at hk hs
  by_cases h5 : 2000 < key.size
  · have h6 : (2000 : Int) < (key.size : Int) := by omega
    go_enter Tryd.func5, Tryd.ntmps5
    go_wp2_with fail
    refine (awake_any _ hG).mono ?_
    rintro e w2 ⟨rfl, HX⟩
    have HX2 : Hid (Ext w w2) := HX
    clear HX
    go_wp2
    go_ret
    exact ⟨rfl, HX2.out⟩
  · have h6 : ¬ (2000 : Int) < (key.size : Int) := by omega
    by_cases g5 : 2000 < s.size
    · have g6 : (2000 : Int) < (s.size : Int) := by omega
      go_enter Tryd.func5, Tryd.ntmps5
      go_wp2_with fail
      refine (awake_any _ hG).mono ?_
      rintro e w2 ⟨rfl, HX⟩
      have HX2 : Hid (Ext w w2) := HX
      clear HX
      go_wp2
      go_ret
      exact ⟨rfl, HX2.out⟩
    · have g6 : ¬ (2000 : Int) < (s.size : Int) := by omega
      obtain ⟨r, HR⟩ : ∃ r, Hid (macS key s = r) := ⟨_, rfl⟩
      by_cases hl : 64 < key.size
      · have l6 : (64 : Int) < (key.size : Int) := by omega
        have HR2 : Hid (macS (shaS key) s = r) := by show _ = _; rw [mac_long s hl, HR.out]
        have HZ : Hid ((shaS key).size = 32) := shaS_size _
        obtain ⟨K, HK⟩ : ∃ K, Hid (shaS key = K) := ⟨_, rfl⟩
        rw [HK.out] at HR2 HZ
        go_enter Tryd.func5, Tryd.ntmps5
        go_wp2_with fail
        refine (hmac_any key s (by omega) (by omega) _ hG).mono ?_
        rintro e w1 ⟨rfl, HX⟩
        rw [HR.out]
        have HX1 : Hid (Ext w w1) := HX
        have hG1 := hG.ext HX
        clear HX
        go_wp2_with fail
        refine (refSum_any key (by omega) _).mono ?_
        rintro e w2 ⟨rfl, HX⟩
        rw [HK.out]
        have HX2 : Hid (Ext w w2) := HX1.out.trans HX
        have hG2 := hG1.ext HX
        clear HX
        go_wp2_with fail
        refine (hmac_any K s (by rw [HZ.out]; decide) (by omega) _ hG2).mono ?_
        rintro e w3 ⟨rfl, HX⟩
        rw [HR2.out]
        have HX3 : Hid (Ext w w3) := HX2.out.trans HX
        have hG3 := hG2.ext HX
        clear HX
        go_wp2_with fail
        refine (awake_any _ hG3).mono ?_
        rintro e w5 ⟨rfl, HX⟩
        have HX5 : Hid (Ext w w5) := HX3.out.trans HX
        clear HX
        go_wp2
        go_ret
        exact ⟨rfl, HX5.out⟩
      · have l6 : ¬ (64 : Int) < (key.size : Int) := by omega
        obtain ⟨k, hkl, hkk⟩ := zeros_k n key.size (by omega)
        obtain ⟨Zc, hmk, hZ1⟩ := make_zeros k (by omega)
        have hZ2 : ∀ W : World, ZB k W.heap.size (W.alloc (.cells Zc 5)).drew := fun W => (hZ1 W).ext (Ext.drew (Ext.refl _))
        have HR2 : Hid (macS (key ++ mkS (fun _ => 0) k) s = r) := by show _ = _; rw [mac_zeros s (by omega), HR.out]
        have HZs : Hid ((mkS (fun _ => 0) k).size = k) := mkS_size _ _
        obtain ⟨Z, HZ⟩ : ∃ Z, Hid (mkS (fun _ => 0) k = Z) := ⟨_, rfl⟩
        rw [HZ.out] at HR2 HZs
        have hcv : ∀ (g : Nat) (wx : World), ZB k g wx → Sem.run Tryd.prog (convert 33 9 (.slice (some ⟨g, 0, none⟩) k k)) wx = .ok (.string Z) wx := fun g wx hx => by rw [← HZ.out]; exact zeros_string (by omega) hx
        have hcc : ¬ 9223372036854775807 < key.size + Z.size := by rw [HZs.out]; omega
        have C1 : Hid (∀ W, Ext w W → Calls Tryd.prog 8 #[.string key, .string s] W fun e w' => e = .returned (.string r) ∧ Ext W w') := fun W h => by
          have := hmac_any key s (by omega) (by omega) W (hG.ext h)
          rw [HR.out] at this; exact this
        have C2 : Hid (∀ W, Ext w W → Calls Tryd.prog 8 #[.string (key ++ Z), .string s] W fun e w' => e = .returned (.string r) ∧ Ext W w') := fun W h => by
          have := hmac_any (key ++ Z) s (by rw [ByteArray.size_append, HZs.out]; omega) (by omega) W (hG.ext h)
          rw [HR2.out] at this; exact this
        have C3 : Hid (∀ W, Ext w W → Calls Tryd.prog 7 #[] W fun e w' => e = .returned (.bool true) ∧ Ext W w') := fun W h => awake_any W (hG.ext h)
        clear HR HR2 HZ HZs hG
        go_enter Tryd.func5, Tryd.ntmps5
        go_wp2_with fail
        go_region_with (first | (go_at_call 8; with_reducible refine (C1.out _ (by repeat (first | exact Ext.refl _ | assumption | apply extAlloc | apply extDrew))).mono ?_; rintro e wy ⟨rfl, HX⟩; have hEy : Ext w wy := (by refine Ext.trans ?_ HX; repeat (first | exact Ext.refl _ | assumption | apply extAlloc | apply extDrew)); (try have hcy := hcv w.heap.size wy (ZB.ext (hZ2 w) HX))) | (go_at_call 8; with_reducible refine (C2.out _ (by repeat (first | exact Ext.refl _ | assumption | apply extAlloc | apply extDrew))).mono ?_; rintro e wy ⟨rfl, HX⟩; have hEy : Ext w wy := (by refine Ext.trans ?_ HX; repeat (first | exact Ext.refl _ | assumption | apply extAlloc | apply extDrew))) | (go_at_call 7; with_reducible refine (C3.out _ (by repeat (first | exact Ext.refl _ | assumption | apply extAlloc | apply extDrew))).mono ?_; rintro e wy ⟨rfl, HX⟩; have hEy : Ext w wy := (by refine Ext.trans ?_ HX; repeat (first | exact Ext.refl _ | assumption | apply extAlloc | apply extDrew))))
        all_goals
          have HXe : Hid (Ext w wy) := hEy
          go_wp2
          go_ret
          exact ⟨rfl, HXe.out⟩
end Go.Proofs.YtfhglfldmboanaaDoor
