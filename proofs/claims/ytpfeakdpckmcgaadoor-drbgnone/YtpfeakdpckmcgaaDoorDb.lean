/-
  Bytes, called.
-/
import Derived.Test.YtpfeakdpckmcgaaDoorDn
namespace Go.Proofs.YtpfeakdpckmcgaaDoor
set_option maxRecDepth 10000
open Go.RowKit
theorem TabN.far {w w' : World} {g n : Nat} {kd : IntKind} {T : Nat → Nat} {G : Nat → Prop} (h : TabN w g kd n T) (hc : Chg G w w') (hn : ¬ G g) : TabN w' g kd n T :=
  ⟨Nat.lt_of_lt_of_le h.1 hc.size, fun k hk => ⟨(hc.cell h.1 hn).trans (h.2 k hk).1, (hc.frozen h.1 hn).trans (h.2 k hk).2⟩⟩
theorem TabN.congr {w : World} {g n : Nat} {kd : IntKind} {T T' : Nat → Nat} (h : TabN w g kd n T) (e : ∀ j, j < n → T j = T' j) : TabN w g kd n T' :=
  ⟨h.1, fun k hk => ⟨by rw [(h.2 k hk).1, e k hk], (h.2 k hk).2⟩⟩
/-- Some cells are written at once. -/
theorem TabN.puts {w : World} {g n o m : Nat} {kd : IntKind} {T S : Nat → Nat} (h : TabN w g kd n T) (hom : o + m ≤ n) : TabN (w.setCells g o (lst kd S m)) g kd n (fun j => if o ≤ j ∧ j < o + m then S (j - o) else T j) := by
  have hl : (lst kd S m).length = m := lst_len _ _ _
  have hc : ∀ j, j < (lst kd S m).length → (w.cell? ⟨g, o + j, none⟩).isSome = true := fun j hj => by
    rw [(h.2 (o + j) (by omega)).1]; rfl
  refine ⟨Nat.lt_of_lt_of_le h.1 (Chg.sts (F := fun k => k = g) (.inl rfl) (Chg.refl _ w) (lst kd S m) o).size, fun k hk => ⟨?_, ?_⟩⟩
  · show _ = some (Value.int kd (((if o ≤ k ∧ k < o + m then S (k - o) else T k) : Nat) : Int))
    by_cases hin : o ≤ k ∧ k < o + m
    · rw [if_pos hin]
      obtain ⟨j, rfl⟩ : ∃ j, k = o + j := ⟨k - o, by omega⟩
      rw [World.cell?_setCells_in g (lst kd S m) o w hc j (by omega)]
      have := lst_get (kd := kd) (T := S) (n := m) (i := j) (by omega)
      rw [List.getElem?_eq_getElem (by omega)] at this
      rw [show o + j - o = j from by omega]
      exact this
    · rw [if_neg hin, World.cell?_setCells_out g (lst kd S m) o w _ (fun _ _ => by show k < o ∨ o + (lst kd S m).length ≤ k; omega)]
      exact (h.2 k hk).1
  · rw [World.frozen?_setCells]; exact (h.2 k hk).2
theorem mkS_extract (A : ByteArray) {n : Nat} (h : n ≤ A.size) : mkS (sb A) n = A.extract 0 n := by
  apply ByteArray.ext
  apply Array.ext'
  apply List.ext_getElem?
  intro k
  rw [ByteArray.data_extract]
  show (((List.range n).map fun i => UInt8.ofNat (sb A i)))[k]? = _
  by_cases hk : k < n
  · rw [List.getElem?_map, List.getElem?_range hk]
    have hk2 : k < A.data.size := Nat.lt_of_lt_of_le hk h
    simp only [Array.getElem?_toList, Array.getElem?_extract, Option.map_some]
    rw [if_pos (by omega), Nat.zero_add, Array.getElem?_eq_getElem hk2]
    congr 1
    unfold sb
    rw [List.getD_eq_getElem?_getD, Array.getElem?_toList, Array.getElem?_eq_getElem hk2]
    exact UInt8.ofNat_toNat
  · rw [List.getElem?_eq_none (by simp; omega), List.getElem?_eq_none (by simp; omega)]
theorem sb_app (A B : ByteArray) (j : Nat) : sb (A ++ B) j = if j < A.size then sb A j else sb B (j - A.size) := by
  unfold sb
  rw [List.getD_eq_getElem?_getD, List.getD_eq_getElem?_getD, List.getD_eq_getElem?_getD, ByteArray.data_append, Array.toList_append, List.getElem?_append]
  have : A.data.toList.length = A.size := by simp
  rw [this]
  split <;> rfl
/-- What is told behind k steps. -/
def tT (K V : ByteArray) (k : Nat) : Nat → Nat := fun j => sb (gO K V k) j
theorem tT_zero (K V : ByteArray) (j : Nat) : tT K V 0 j = 0 := sb_past (Nat.zero_le _)
theorem tT_step (K V : ByteArray) (k n j : Nat) (hj : j < n) (_hk : 32 * k < n) : (if 32 * k ≤ j ∧ j < 32 * k + min 32 (n - 32 * k) then sb (gV K V (k + 1)) (j - 32 * k) else tT K V k j) = tT K V (k + 1) j := by
  have hs := gO_size K V k
  unfold tT
  show _ = sb (gO K V k ++ gV K V (k + 1)) j
  rw [sb_app, hs]
  by_cases h1 : j < 32 * k
  · rw [if_neg (by omega), if_pos h1]
  · rw [if_neg h1]
    by_cases h2 : j < 32 * k + min 32 (n - 32 * k)
    · rw [if_pos ⟨by omega, h2⟩]
    · rw [if_neg (by omega), sb_past (by omega), sb_past (by rw [show (gV K V (k + 1)).size = 32 from mac_size _ _]; omega)]
theorem tT_all (K V : ByteArray) (n : Nat) : mkS (tT K V (stp n)) n = bO K V n := by
  have h := (stp_le (n := n) (m := stp n)).2 (Nat.le_refl _)
  unfold bO tT
  exact mkS_extract _ (by rw [gO_size]; omega)
theorem make_n (n : Nat) (hn : n ≤ 4096) (w : World) : ∃ Zc : Array Value, (Instr.makeSlice 62 (.int .i64 (n : Int)) (.int .i64 (n : Int))).run Tryd.prog w = .ok (.slice (some ⟨w.heap.size, 0, none⟩) n n) (w.alloc (.cells Zc 5)) ∧ TabN (w.alloc (.cells Zc 5)) w.heap.size .u8 n (fun _ => 0) := by
  obtain ⟨i0, hi, hz0, hz1, hz2⟩ := info_parts Tryd.info5b
  refine ⟨madeCells #[.int .u8 0] n, ?_, by simp, fun j hj => ⟨?_, World.frozen?_alloc_at _ _ _ _ rfl⟩⟩
  · have := run_make (P := Tryd.prog) w 62 5 i0 (.int .u8 0) Tryd.underlying62 hi hz0 .i64 .i64 ((n : Nat) : Int) ((n : Nat) : Int) (by omega) (by omega) (by rw [hz2]; omega) (by omega)
    rw [Int.toNat_natCast, hz1, Nat.mul_one] at this
    exact this
  · rw [World.cell?_alloc_at _ _ _ _ rfl]
    have := lst_get (kd := .u8) (T := fun _ => 0) (n := n) (i := j) hj
    rw [← made_lst'] at this
    simpa using this
/-- A copy out of the value. -/
theorem copyT {w : World} {b g o n : Nat} {K V : ByteArray} {A : Int} {T : Nat → Nat} (ho : o < n) (hB : KB w b K V A) (hT : TabN w g .u8 n T) : (Builtin.copy_ #[62, 62] 3 #[.slice (some ⟨g, o, none⟩) (n - o) (n - o), .slice (some ⟨b, 32, none⟩) 32 32]).run Tryd.prog w = .ok (goInt ((min 32 (n - o) : Nat) : Int)) (w.setCells g o (lst .u8 (sb V) (min 32 (n - o)))) := by
  have := Go.run_copy_cells (P := Tryd.prog) w 62 62 3 5 g o (n - o) (n - o) ⟨b, 32, none⟩ 32 32 (lst .u8 (sb V) (min 32 (n - o))) Tryd.underlying62 Tryd.info5c (by rw [lst_len]) (fun j x hj => by
      obtain ⟨hk, rfl⟩ := lst_of hj
      have := (hB.1.2 (32 + j) (by omega)).1
      unfold kvT at this
      rw [if_neg (by omega), show 32 + j - 32 = j from by omega] at this
      have hadd : (⟨b, 32, none⟩ : Addr).add j = ⟨b, 32 + j, none⟩ := by unfold Addr.add; split <;> simp_all
      rw [hadd]
      exact this)
    (fun j hj => by rw [lst_len] at hj; rw [(hT.2 (o + j) (by omega)).1]; rfl) (fun j hj => by rw [lst_len] at hj; exact (hT.2 (o + j) (by omega)).2)
    (fun x hx => by
      obtain ⟨j, hj⟩ := List.getElem?_of_mem hx
      obtain ⟨_, rfl⟩ := lst_of hj
      rfl)
  rw [lst_len] at this
  exact this
theorem str_n {w : World} {g n : Nat} {T : Nat → Nat} (hn : n ≤ 4096) (h : TabN w g .u8 n T) : (convert 62 9 (.slice (some ⟨g, 0, none⟩) n n)).run Tryd.prog w = .ok (.string (mkS T n)) w := by
  by_cases h0 : n = 0
  · subst h0
    rw [run_convert_bytes_string _ 62 9 5 _ _ _ Tryd.underlying62 Tryd.underlying5 Tryd.underlying9]
    rw [run_bytesToString _ _ _ _ []]
    · rfl
    · rfl
  · exact run_lst_string Tryd.prog 5 62 9 Tryd.underlying62 Tryd.underlying5 Tryd.underlying9 _ T n _ (h.slice (by unfold maxLen; omega)) (by omega)
set_option maxHeartbeats 2000000 in
theorem kbytes_any (K V : ByteArray) (A n b : Nat) (hK : K.size = 32) (hV : V.size = 32) (hn : n ≤ 4096) (hA : A ≤ 100000000) (w : World) (hG : SGl w) (h : KB w b K V A) :
    Calls Tryd.prog 13 #[.pointer (some ⟨b, 0, none⟩), .int .i64 (n : Int)] w fun e w' => e = .returned (.tuple #[.string (bO K V n), .int .i64 0]) ∧ KB w' b (bK K V n) (bV K V n) ((A + n : Nat) : Int) ∧ Chg (fun k => k = b) w w' := by
  have h0 : ¬ (n : Int) < 0 := by omega
  have h1 : ¬ (4096 : Int) < (n : Int) := by omega
  have HSt : Hid (∀ W k, SGl W → KB W b K (gV K V k) A → Calls Tryd.prog 27 #[.pointer (some ⟨b, 0, none⟩)] W fun e w' => e = .returned (.tuple #[]) ∧ KB w' b K (gV K V (k + 1)) A ∧ Chg (fun k => k = b) W w') := fun W k hW hB => step_any K (gV K V k) A b hK (gV_size hV k) W hW hB
  have HU : Hid (∀ W, SGl W → KB W b K (gV K V (stp n)) A → Calls Tryd.prog 23 #[.pointer (some ⟨b, 0, none⟩), .string ⟨#[]⟩] W fun e w' => e = .returned (.tuple #[]) ∧ KB w' b (bK K V n) (bV K V n) A ∧ Chg (fun k => k = b) W w') := fun W hW hB => update_any K (gV K V (stp n)) e0S A b hK (gV_size hV _) (by decide) W hW hB
  have HOut : Hid (mkS (tT K V (stp n)) n = bO K V n) := tT_all K V n
  generalize bK K V n = K2 at *
  generalize bV K V n = V2 at *
  generalize bO K V n = O2 at *
  obtain ⟨Zc, hmk, HT⟩ := make_n n hn w
  have HE0 : Ext w (w.alloc (.cells Zc 5)) := (Ext.refl _).alloc _
  have HB0 : Hid (KB (w.alloc (.cells Zc 5)) b K (gV K V 0) A) := h.ext HE0
  have HC0 : Hid (Chg (fun k => k = b) w (w.alloc (.cells Zc 5))) := Chg.of_ext _ HE0
  have HT0 : Hid (TabN (w.alloc (.cells Zc 5)) w.heap.size .u8 n (tT K V 0)) := HT.congr fun j _ => (tT_zero K V j).symm
  have hgb : w.heap.size ≠ b := by have := h.lt; omega
  clear HT HE0
  go_enter Tryd.func13, Tryd.ntmps13
  go_wp2
  clear hmk
  generalize w.alloc (.cells Zc 5) = W0 at *
  obtain ⟨g, hg⟩ : ∃ g, w.heap.size = g := ⟨_, rfl⟩
  rw [hg] at HT0 hgb ⊢
  have HGg : Hid (w.heap.size ≤ g) := Nat.le_of_eq hg
  clear hg
  go_loopw [7] (fun u7 wr => ∃ (k t : Nat), t = 32 * k ∧ t < n + 32 ∧ u7 = .int .i64 (t : Int) ∧ Hid (TabN wr g .u8 n (tT K V k)) ∧ Hid (KB wr b K (gV K V k) A) ∧ Hid (Chg (fun k => k = b) w wr)) (fun u7 _ => n + 32 - (intOf u7).toNat)
  case atStart => exact ⟨0, 0, rfl, by omega, rfl, HT0, HB0, HC0⟩
  case round =>
    clear HT0 HB0 HC0
    obtain ⟨k, t, ht, htn, rfl, HT, HB, HC⟩ := hrel
    have Ht : Hid (t = 32 * k) := ht
    clear ht
    by_cases hlt : t < n
    · have hl1 : (t : Int) < (n : Int) := by omega
      have hl0 : (0 : Int) ≤ (t : Int) := by omega
      have hw : IntKind.i64.wrap ((t : Int) + 32) = ((t + 32 : Nat) : Int) := by rw [IntKind.wrap_i64]; omega
      have hl2 : (t : Int) ≤ (n : Int) := by omega
      have hl3 : ¬ n = t := by omega
      have hGr := hG.chg h HC.out
      go_wp2_with fail
      refine (HSt.out _ k hGr HB.out).mono ?_
      rintro e w1 ⟨rfl, hB1, hC1⟩
      have hT1 := HT.out.far hC1 hgb
      have hC2 : Chg (fun k => k = b) w w1 := HC.out.trans hC1 (fun _ q => .inl q)
      clear HT HB HC hC1
      have hS0 : Ext w1 w1.drew := (Ext.refl _).drew
      have hT2 := hT1.ext hS0
      have hB2 := hB1.ext hS0
      have hC3 : Chg (fun k => k = b) w w1.drew := hC2.drew
      have hcp := copyT hlt hB2 hT2
      have HN : Hid (TabN (w1.drew.setCells g t (lst .u8 (sb (gV K V (k + 1))) (min 32 (n - t)))) g .u8 n (tT K V (k + 1))) := (hT2.puts (by omega)).congr fun j hj => by have hh := Ht.out; subst hh; exact tT_step K V k n j hj hlt
      have HKB : Hid (KB (w1.drew.setCells g t (lst .u8 (sb (gV K V (k + 1))) (min 32 (n - t)))) b K (gV K V (k + 1)) A) := hB2.far (Chg.sts (F := fun k => k = g) (.inl rfl) (Chg.refl _ _) _ _) (fun e => hgb e.symm)
      have HCN : Hid (Chg (fun k => k = b) w (w1.drew.setCells g t (lst .u8 (sb (gV K V (k + 1))) (min 32 (n - t))))) := Chg.sts (.inr HGg.out) hC3 _ _
      clear hT1 hB1 hC2 hS0
      go_upto_region 8 with fail
      refine wp_region_noPanic ?_
      refine wp_region_held (S := fun _ => True) (by kernel_rfl) ?_
      rw [show ({ w1 with drawn := w1.drawn + 1 } : World) = w1.drew from rfl]
      generalize w1.drew = w2 at *
      refine held_take (i := 0) (v := ?vb0) rfl (by kernel_rfl) (by kernel_rfl) (by kernel_rfl) (fun _ _ _ h => h) rfl ?hyb0 trivial ?restb0
      case hyb0 => (intro wx hSx; go_simp; try with_reducible rfl)
      try simp only [Act.put, List.setIfInBounds_toArray, List.set_cons_zero, List.set_cons_succ]
      refine held_take (i := 1) (v := ?vb1) rfl (by kernel_rfl) (by kernel_rfl) (by kernel_rfl) (fun _ _ _ h => h) rfl ?hyb1 trivial ?restb1
      case hyb1 => (intro wx hSx; go_simp; try with_reducible rfl)
      try simp only [Act.put, List.setIfInBounds_toArray, List.set_cons_zero, List.set_cons_succ]
      refine held_take (i := 2) (v := ?vb2) rfl (by kernel_rfl) (by kernel_rfl) (by kernel_rfl) (fun _ _ _ h => h) rfl ?hyb2 trivial ?restb2
      case hyb2 => (intro wx hSx; go_simp; try with_reducible rfl)
      try simp only [Act.put, List.setIfInBounds_toArray, List.set_cons_zero, List.set_cons_succ]
      refine held_take (i := 3) (v := ?vb3) rfl (by kernel_rfl) (by kernel_rfl) (by kernel_rfl) (fun _ _ _ h => h) rfl ?hyb3 trivial ?restb3
      case hyb3 => (intro wx hSx; go_simp; try with_reducible rfl)
      try simp only [Act.put, List.setIfInBounds_toArray, List.set_cons_zero, List.set_cons_succ]
      refine held_take (i := 4) (v := ?vb4) rfl (by kernel_rfl) (by kernel_rfl) (by kernel_rfl) (fun _ _ _ h => h) rfl ?hyb4 trivial ?restb4
      case hyb4 => (intro wx hSx; go_simp; try with_reducible rfl)
      try simp only [Act.put, List.setIfInBounds_toArray, List.set_cons_zero, List.set_cons_succ]
      refine held_take (i := 5) (v := ?vb5) rfl (by kernel_rfl) (by kernel_rfl) (by kernel_rfl) (fun _ _ _ h => h) rfl ?hyb5 trivial ?restb5
      case hyb5 => (intro wx hSx; go_simp; try with_reducible rfl)
      try simp only [Act.put, List.setIfInBounds_toArray, List.set_cons_zero, List.set_cons_succ]
      refine held_take (i := 6) (v := ?vb6) rfl (by kernel_rfl) (by kernel_rfl) (by kernel_rfl) (fun _ _ _ h => h) rfl ?hyb6 trivial ?restb6
      case hyb6 => (intro wx hSx; go_simp; try with_reducible rfl)
      try simp only [Act.put, List.setIfInBounds_toArray, List.set_cons_zero, List.set_cons_succ]
      refine held_one (i := 7) (by kernel_rfl) rfl rfl (fun K hK => ?_)
      go_simp
      try go_simp
      refine hK.out _ _ ⟨trivial, ?_⟩
      clear hK K
      try simp only [Act.put, List.setIfInBounds_toArray, List.set_cons_zero, List.set_cons_succ]
      refine wpAnyH_done (by kernel_rfl) ?_ _
      refine NoPanic.normal ?_
      go_wp2
      go_roundw
      case rel => exact ⟨k + 1, t + 32, by have hh := Ht.out; omega, by omega, by push_cast; rfl, HN, HKB, HCN⟩
      case measure => simp [intOf]; omega
    · have hl1 : ¬ (t : Int) < (n : Int) := by omega
      have hke : k = stp n := by
        have hh := Ht.out
        have := (stp_le (n := n) (m := k)).1 (by omega)
        have := (stp_le (n := n) (m := stp n)).2 (Nat.le_refl _)
        unfold stp at *
        omega
      have hGr := hG.chg h HC.out
      have HBn : KB wr b K (gV K V (stp n)) A := by rw [← hke]; exact HB.out
      have HTn : Hid (TabN wr g .u8 n (tT K V (stp n))) := by rw [← hke]; exact HT.out
      have hw : IntKind.i64.wrap ((A : Int) + (n : Int)) = ((A + n : Nat) : Int) := by rw [IntKind.wrap_i64]; omega
      clear hke HT HB
      go_wp2_with fail
      refine (HU.out _ hGr HBn).mono ?_
      rintro e w1 ⟨rfl, hB1, hC1⟩
      have HT1 : Hid (TabN w1 g .u8 n (tT K V (stp n))) := HTn.out.far hC1 hgb
      have HC1 : Hid (Chg (fun k => k = b) w w1) := HC.out.trans hC1 (fun _ q => .inl q)
      have HA : Hid (KB (w1.setCell ⟨b, 64, none⟩ (.int .i64 ((A : Int) + (n : Int)))) b K2 V2 ((A + n : Nat) : Int)) := by
        have := hB1.setA ((A + n : Nat) : Int)
        push_cast at this ⊢
        exact this
      have HTA : Hid (TabN (w1.setCell ⟨b, 64, none⟩ (.int .i64 ((A : Int) + (n : Int)))) g .u8 n (tT K V (stp n))) := HT1.out.other hgb
      have HCA : Hid (Chg (fun k => k = b) w (w1.setCell ⟨b, 64, none⟩ (.int .i64 ((A : Int) + (n : Int))))) := Chg.st (.inl rfl) HC1.out
      have hcA := hB1.2.1
      have hfA := hB1.2.2
      clear hC1 hB1 HTn HC HBn
      go_upto_region 11 with fail
      clear hcA hfA HT1 HC1
      generalize w1.setCell ⟨b, 64, none⟩ (.int .i64 ((A : Int) + (n : Int))) = w2 at *
      have hcs := str_n hn HTA.out
      rw [HOut.out] at hcs
      go_wp2
      refine bodyPost_ret (v := .tuple #[.string O2, .int .i64 0]) (by simp [results, Tryd.results13, go_sem]) rfl ⟨rfl, HA.out, HCA.out⟩
set_option maxHeartbeats 1000000 in
theorem kbytes_bad (n : Int) (hn : n < 0 ∨ 4096 < n) (b : Nat) (w : World) :
    Calls Tryd.prog 13 #[.pointer (some ⟨b, 0, none⟩), .int .i64 n] w fun e w' => e = .returned (.tuple #[.string ⟨#[]⟩, .int .i64 1]) ∧ Ext w w' := by
  by_cases h0 : n < 0
  · go_enter Tryd.func13, Tryd.ntmps13
    go_wp2
    refine bodyPost_ret (v := .tuple #[.string ⟨#[]⟩, .int .i64 1]) (by simp [results, Tryd.results13, go_sem]) rfl ⟨rfl, Ext.refl w⟩
  · have h1 : 4096 < n := by omega
    go_enter Tryd.func13, Tryd.ntmps13
    go_wp2
    refine bodyPost_ret (v := .tuple #[.string ⟨#[]⟩, .int .i64 1]) (by simp [results, Tryd.results13, go_sem]) rfl ⟨rfl, Ext.refl w⟩
end Go.Proofs.YtpfeakdpckmcgaaDoor
