/-
  THE FACE of package hmac: Mac, Extract, Expand, called where the package's variables hold what their initialisers lay; nothing old is turned.
-/
import Derived.Test.YtfhglfldmboanaaDoorHmC
import Derived.Test.YtfhglfldmboanaaDoorUntil
import Derived.Test.YtfhglfldmboanaaDoorRefExpand
import Derived.Room.AppendFits
namespace Go.Proofs.YtfhglfldmboanaaDoor
open Go.RowKit
set_option maxHeartbeats 400000 in
theorem hmac_any (key s : ByteArray) (hk : key.size ≤ 2000) (hs : s.size ≤ 2000) (w : World) (hG : Gl w) :
    Calls Tryd.prog 8 #[.string key, .string s] w fun e w' => e = .returned (.string (macS key s)) ∧ Ext w w' := by
  have HM : Hid (∀ W, Gl W → Calls Tryd.prog 15 #[.agg (lst .u8 (fitB key) 64).toArray, .string s] W fun e w' => e = .returned (.string (macS key s)) ∧ Ext W w') := fun W hW => mac_any (fitB key) (fitB_lt key) s (by omega) W hW
  generalize macS key s = O at *
  have HF : Hid (Calls Tryd.prog 16 #[.string key] w fun e w' => e = .returned (.agg (lst .u8 (fitB key) 64).toArray) ∧ Ext w w') := fit_any key (by omega) w hG
  generalize (lst .u8 (fitB key) 64).toArray = AK at *
  have HG : Hid (Gl w) := hG
  clear hG
  go_enter Tryd.func8, Tryd.ntmps8
  go_wp2_with fail
  refine HF.out.mono ?_
  rintro e w1 ⟨rfl, HX⟩
  have HE1 : Hid (Ext w w1) := HX
  clear HX
  go_wp2_with fail
  refine (HM.out _ (HG.out.ext HE1.out)).mono ?_
  rintro e w2 ⟨rfl, HX⟩
  have HE2 : Hid (Ext w w2) := HE1.out.trans HX
  clear HX
  go_wp2
  go_ret
  exact ⟨rfl, HE2.out⟩
set_option maxHeartbeats 400000 in
theorem hextract_any (key s : ByteArray) (hk : key.size ≤ 2000) (hs : s.size ≤ 2000) (w : World) (hG : Gl w) :
    Calls Tryd.prog 10 #[.string key, .string s] w fun e w' => e = .returned (.string (macS key s)) ∧ Ext w w' := by
  have HM : Hid (Calls Tryd.prog 8 #[.string key, .string s] w fun e w' => e = .returned (.string (macS key s)) ∧ Ext w w') := hmac_any key s hk hs w hG
  generalize macS key s = O at *
  go_enter Tryd.func10, Tryd.ntmps10
  go_wp2_with fail
  refine HM.out.mono ?_
  rintro e w2 ⟨rfl, HX2⟩
  have HX3 : Hid (Ext w w2) := HX2
  clear HX2
  go_wp2
  go_ret
  exact ⟨rfl, HX3.out⟩
set_option maxHeartbeats 400000 in
theorem hexpand_bad (key info : ByteArray) (n : Int) (_h1 : -9223372036854775808 ≤ n) (_h2 : n ≤ 9223372036854775807) (hn : n < 0 ∨ 8160 < n) (w : World) (_hG : Gl w) :
    Calls Tryd.prog 12 #[.string key, .string info, .int .i64 n] w fun e w' => e = .returned (.tuple #[.string ⟨#[]⟩, .int .i64 1]) ∧ Ext w w' := by
  rcases hn with h | h
  · go_enter Tryd.func12, Tryd.ntmps12
    go_wp2
    refine bodyPost_ret (v := .tuple #[.string ⟨#[]⟩, .int .i64 1]) (by simp [results, Tryd.results12, go_sem]) rfl ⟨rfl, Ext.refl _⟩
  · have h0 : ¬ n < 0 := by omega
    go_enter Tryd.func12, Tryd.ntmps12
    go_wp2
    refine bodyPost_ret (v := .tuple #[.string ⟨#[]⟩, .int .i64 1]) (by simp [results, Tryd.results12, go_sem]) rfl ⟨rfl, Ext.refl _⟩
theorem strCells_lst (A : ByteArray) : Lib.strCells A = lst .u8 (sb A) A.size := by
  apply List.ext_getElem?
  intro k
  by_cases hk : k < A.size
  · rw [lst_get hk]
    unfold Lib.strCells sb
    rw [List.getElem?_map, List.getD_eq_getElem?_getD]
    have h2 : A.data.toList[k]? = some (A.data.toList[k]'(by simpa using hk)) := List.getElem?_eq_getElem _
    rw [h2]
    rfl
  · rw [List.getElem?_eq_none (by rw [Lib.strCells_length]; omega), List.getElem?_eq_none (by rw [lst_len]; omega)]
theorem mkS_extract (A : ByteArray) {n : Nat} (h : n ≤ A.size) : mkS (sb A) n = A.extract 0 n := by
  apply ByteArray.ext
  apply Array.ext'
  apply List.ext_getElem?
  intro k
  rw [ByteArray.data_extract]
  show (((List.range n).map fun i => UInt8.ofNat (sb A i)))[k]? = _
  by_cases hk : k < n
  · rw [List.getElem?_map, List.getElem?_range hk]
    have hk2 : k < A.data.size := Nat.lt_of_lt_of_le hk h
    simp only [Array.getElem?_toList, Array.getElem?_extract, Option.map_some]
    rw [if_pos (by omega), Nat.zero_add, Array.getElem?_eq_getElem hk2]
    congr 1
    unfold sb
    rw [List.getD_eq_getElem?_getD, Array.getElem?_toList, Array.getElem?_eq_getElem hk2]
    exact UInt8.ofNat_toNat
  · rw [List.getElem?_eq_none (by simp; omega), List.getElem?_eq_none (by simp; omega)]
/-- The state of Expand's run: the key's block in nf, what was made in g. -/
def XS (w wr : World) (nf g : Nat) (T : Nat → Nat) (C : Nat) (A : ByteArray) : Prop :=
  wr.ownsRow w.heap.size 5 1 (.slice (some ⟨g, 0, none⟩) A.size C) A.size (Lib.strCells A) ∧ RowH wr nf 37 .u8 64 T ∧ Ext w wr ∧ w.heap.size ≤ g ∧ nf ≠ g
theorem XS.ext {w wr wy : World} {nf g C : Nat} {T : Nat → Nat} {A : ByteArray} (h : XS w wr nf g T C A) (hx : Ext wr wy) : XS w wy nf g T C A :=
  ⟨own_ext h.1 hx, h.2.1.ext hx, h.2.2.1.trans hx, h.2.2.2⟩
theorem XS.grow {w wr wy : World} {nf g C : Nat} {T : Nat → Nat} {A B : ByteArray} (h : XS w wr nf g T C A) (ho : wy.ownsRow w.heap.size 5 1 (.slice (some ⟨g, 0, none⟩) (A.size + B.size) C) (A.size + B.size) (Lib.strCells A ++ Lib.strCells B)) (hg : wr.grownBy wy (some g)) : XS w wy nf g T C (A ++ B) := by
  refine ⟨?_, (hg.block nf h.2.1.lt (fun e => h.2.2.2.2 (Option.some.inj e))).trans h.2.1, ext_grown h.2.2.1 hg (fun k hk => by cases hk; exact h.2.2.2.1), h.2.2.2⟩
  have e : Lib.strCells (A ++ B) = Lib.strCells A ++ Lib.strCells B := by
    unfold Lib.strCells
    rw [ByteArray.data_append]
    simp
  rw [ByteArray.size_append, e]
  exact ho
theorem run_load_op {wx : World} {nf : Nat} {T : Nat → Nat} {ev : Operand → Value} {o : Oper} {x : Operand} (ho : o.op = .load 37 x) (hx : ev x = .pointer (some ⟨nf, 0, none⟩)) (h : RowH wx nf 37 .u8 64 T) : (execOp ev o).run Tryd.prog wx = .ok (.value (.agg (lst .u8 T 64).toArray)) wx := by
  have hl := h.load (P := Tryd.prog) 37 Tryd.underlying37 Tryd.size37
  unfold execOp
  simp only [ho, hx, Instr.loadAt, Instr.sureAddr, Sem.run_bind, Sem.run_pure, Result.andThen_ok, hl]
theorem three_cells (w : World) (x y z : ByteArray) (t : TypeId) : (w.alloc (.cells #[.string x, .string y, .string z] t)).cell? ⟨w.heap.size, 0, none⟩ = some (.string x) ∧ (w.alloc (.cells #[.string x, .string y, .string z] t)).cell? ⟨w.heap.size, 1, none⟩ = some (.string y) ∧ (w.alloc (.cells #[.string x, .string y, .string z] t)).cell? ⟨w.heap.size, 2, none⟩ = some (.string z) ∧ w.heap.size < (w.alloc (.cells #[.string x, .string y, .string z] t)).heap.size :=
  ⟨by rw [World.cell?_alloc_at _ _ _ _ rfl]; rfl, by rw [World.cell?_alloc_at _ _ _ _ rfl]; rfl, by rw [World.cell?_alloc_at _ _ _ _ rfl]; rfl, by simp⟩
def Join3C (x y z : ByteArray) (r : ByteArray) : Prop := ∀ W : World, Calls Tryd.prog 19 #[.slice (some ⟨W.heap.size, 0, none⟩) 3 3] (W.alloc (.cells #[.string x, .string y, .string z] 9)) fun e w' => e = .returned (.string r) ∧ Ext W w'
theorem join3C (x y z : ByteArray) (hs : x.size + y.size + z.size ≤ 100000) : Join3C x y z (x ++ y ++ z) := fun W => by
  obtain ⟨c0, c1, c2, hl⟩ := three_cells W x y z 9
  refine (join3_any x y z hs _ _ hl c0 c1 c2).mono ?_
  rintro e w' ⟨h, HX⟩
  exact ⟨h, ((Ext.refl _).alloc _).trans HX⟩
theorem own_prefix {w : World} {base g n C : Nat} {A : ByteArray} (h : w.ownsRow base 5 1 (.slice (some ⟨g, 0, none⟩) A.size C) A.size (Lib.strCells A)) (hn : n ≤ A.size) : SlIs w (.slice (some ⟨g, 0, none⟩) n C) (lst .u8 (sb A) n) := by
  have hc := h.cells (g := g) rfl
  rcases h.2 with ⟨h0, _⟩ | ⟨g', cap, cur, hv, hb, hgg, hnc, hm, rest⟩
  · cases h0
  · injection hv with hv _ hcp
    injection hv with hv
    injection hv with hv _ _
    subst hv
    refine .inr ⟨g, 0, C, by rw [lst_len], (Array.getElem?_eq_some_iff.1 hgg).1, by rw [lst_len]; omega, fun j x hj => ?_⟩
    obtain ⟨hk, rfl⟩ := lst_of hj
    have h2 := hc j (.int .u8 (sb A j : Int)) (by rw [strCells_lst]; exact lst_get (by omega))
    have hadd : (⟨g, 0, none⟩ : Addr).add j = ⟨g, 0 + j, none⟩ := by unfold Addr.add; split <;> simp_all
    rwa [hadd] at h2
theorem slice_string {w : World} {g n C : Nat} {T : Nat → Nat} (h : SlIs w (.slice (some ⟨g, 0, none⟩) n C) (lst .u8 T n)) (hn : n ≤ 100000) : Sem.run Tryd.prog (convert 33 9 (.slice (some ⟨g, 0, none⟩) n C)) w = .ok (.string (mkS T n)) w := by
  by_cases h0 : n = 0
  · subst h0
    rw [run_convert_bytes_string _ 33 9 5 _ _ _ Tryd.underlying33 Tryd.underlying5 Tryd.underlying9]
    rw [run_bytesToString _ _ _ _ []]
    · rfl
    · rfl
  · exact run_lst_string Tryd.prog 5 33 9 Tryd.underlying33 Tryd.underlying5 Tryd.underlying9 _ T n _ h (by omega)
/-- What is kept through the round's drawn statement. -/
def RS (wr : World) (nf : Nat) (T : Nat → Nat) (wx : World) : Prop := RowH wx nf 37 .u8 64 T ∧ Ext wr wx
theorem RS.ext {wr wx wy : World} {nf : Nat} {T : Nat → Nat} (h : RS wr nf T wx) (hx : Ext wx wy) : RS wr nf T wy := ⟨h.1.ext hx, h.2.trans hx⟩
set_option maxRecDepth 100000 in
set_option maxHeartbeats 1000000 in
theorem hexpand_any (key info : ByteArray) (hk : key.size ≤ 2000) (hi : info.size ≤ 2000) (n : Nat) (hn : n ≤ 8160) (w : World) (hG : Gl w) :
    Calls Tryd.prog 12 #[.string key, .string info, .int .i64 (n : Int)] w fun e w' => e = .returned (.tuple #[.string (expS key info n), .int .i64 0]) ∧ Ext w w' := by
  obtain ⟨i0, hi5, hz0, hz1, hz2⟩ := info_parts Tryd.info5
  obtain ⟨FT, HFT⟩ : ∃ FT : Nat → Nat, Hid (fitB key = FT) := ⟨_, rfl⟩
  have HM : Hid (∀ s : ByteArray, s.size ≤ 4500 → ∀ W, Gl W → Calls Tryd.prog 15 #[.agg (lst .u8 FT 64).toArray, .string s] W fun e w' => e = .returned (.string (macS key s)) ∧ Ext W w') := fun s hs W hW => by
    rw [← HFT.out]
    exact mac_any (fitB key) (fitB_lt key) s hs W hW
  have HF : Hid (Calls Tryd.prog 16 #[.string key] w fun e w' => e = .returned (.agg (lst .u8 FT 64).toArray) ∧ Ext w w') := by
    rw [← HFT.out]
    exact fit_any key (by omega) w hG
  have HG : Hid (Gl w) := hG
  clear hG HFT
  have h0 : ¬ (n : Int) < 0 := by omega
  have h1 : ¬ (8160 : Int) < (n : Int) := by omega
  obtain ⟨C, hC⟩ : ∃ C, n + 32 = C := ⟨_, rfl⟩
  have hc : IntKind.i64.wrap ((n : Int) + 32) = (C : Int) := by rw [IntKind.wrap_i64]; omega
  go_enter Tryd.func12, Tryd.ntmps12
  go_wp2_with fail
  refine HF.out.mono ?_
  rintro e w1 ⟨rfl, HX⟩
  have HZ : RowH (w1.alloc (.cells #[.int .u8 0, .int .u8 0, .int .u8 0, .int .u8 0, .int .u8 0, .int .u8 0, .int .u8 0, .int .u8 0, .int .u8 0, .int .u8 0, .int .u8 0, .int .u8 0, .int .u8 0, .int .u8 0, .int .u8 0, .int .u8 0, .int .u8 0, .int .u8 0, .int .u8 0, .int .u8 0, .int .u8 0, .int .u8 0, .int .u8 0, .int .u8 0, .int .u8 0, .int .u8 0, .int .u8 0, .int .u8 0, .int .u8 0, .int .u8 0, .int .u8 0, .int .u8 0, .int .u8 0, .int .u8 0, .int .u8 0, .int .u8 0, .int .u8 0, .int .u8 0, .int .u8 0, .int .u8 0, .int .u8 0, .int .u8 0, .int .u8 0, .int .u8 0, .int .u8 0, .int .u8 0, .int .u8 0, .int .u8 0, .int .u8 0, .int .u8 0, .int .u8 0, .int .u8 0, .int .u8 0, .int .u8 0, .int .u8 0, .int .u8 0, .int .u8 0, .int .u8 0, .int .u8 0, .int .u8 0, .int .u8 0, .int .u8 0, .int .u8 0, .int .u8 0] 37)) w1.heap.size 37 .u8 64 (fun _ => 0) := RowH.new w1 .u8 64 37
  have HR0 : Hid (RowH ((w1.alloc (.cells #[.int .u8 0, .int .u8 0, .int .u8 0, .int .u8 0, .int .u8 0, .int .u8 0, .int .u8 0, .int .u8 0, .int .u8 0, .int .u8 0, .int .u8 0, .int .u8 0, .int .u8 0, .int .u8 0, .int .u8 0, .int .u8 0, .int .u8 0, .int .u8 0, .int .u8 0, .int .u8 0, .int .u8 0, .int .u8 0, .int .u8 0, .int .u8 0, .int .u8 0, .int .u8 0, .int .u8 0, .int .u8 0, .int .u8 0, .int .u8 0, .int .u8 0, .int .u8 0, .int .u8 0, .int .u8 0, .int .u8 0, .int .u8 0, .int .u8 0, .int .u8 0, .int .u8 0, .int .u8 0, .int .u8 0, .int .u8 0, .int .u8 0, .int .u8 0, .int .u8 0, .int .u8 0, .int .u8 0, .int .u8 0, .int .u8 0, .int .u8 0, .int .u8 0, .int .u8 0, .int .u8 0, .int .u8 0, .int .u8 0, .int .u8 0, .int .u8 0, .int .u8 0, .int .u8 0, .int .u8 0, .int .u8 0, .int .u8 0, .int .u8 0, .int .u8 0] 37)).setRow w1.heap.size (lst .u8 FT 64).toArray) w1.heap.size 37 .u8 64 FT) := RowH.row (RowH.new w1 .u8 64 37) FT
  have HE0 : Hid (Ext w ((w1.alloc (.cells #[.int .u8 0, .int .u8 0, .int .u8 0, .int .u8 0, .int .u8 0, .int .u8 0, .int .u8 0, .int .u8 0, .int .u8 0, .int .u8 0, .int .u8 0, .int .u8 0, .int .u8 0, .int .u8 0, .int .u8 0, .int .u8 0, .int .u8 0, .int .u8 0, .int .u8 0, .int .u8 0, .int .u8 0, .int .u8 0, .int .u8 0, .int .u8 0, .int .u8 0, .int .u8 0, .int .u8 0, .int .u8 0, .int .u8 0, .int .u8 0, .int .u8 0, .int .u8 0, .int .u8 0, .int .u8 0, .int .u8 0, .int .u8 0, .int .u8 0, .int .u8 0, .int .u8 0, .int .u8 0, .int .u8 0, .int .u8 0, .int .u8 0, .int .u8 0, .int .u8 0, .int .u8 0, .int .u8 0, .int .u8 0, .int .u8 0, .int .u8 0, .int .u8 0, .int .u8 0, .int .u8 0, .int .u8 0, .int .u8 0, .int .u8 0, .int .u8 0, .int .u8 0, .int .u8 0, .int .u8 0, .int .u8 0, .int .u8 0, .int .u8 0, .int .u8 0] 37)).setRow w1.heap.size (lst .u8 FT 64).toArray)) := (HX.alloc _).row HX.size _
  clear HX HF
  go_wp2_with (first | (refine wpList_store_row rfl 37 _ _ rfl w1.heap.size (lst .u8 FT 64).toArray rfl rfl 37 _ HZ (by rw [Tryd.size37]; simp [lst_len]) (by simp [lst_len]) (lst_one _ _ _) ?_))
  generalize (w1.alloc (.cells #[.int .u8 0, .int .u8 0, .int .u8 0, .int .u8 0, .int .u8 0, .int .u8 0, .int .u8 0, .int .u8 0, .int .u8 0, .int .u8 0, .int .u8 0, .int .u8 0, .int .u8 0, .int .u8 0, .int .u8 0, .int .u8 0, .int .u8 0, .int .u8 0, .int .u8 0, .int .u8 0, .int .u8 0, .int .u8 0, .int .u8 0, .int .u8 0, .int .u8 0, .int .u8 0, .int .u8 0, .int .u8 0, .int .u8 0, .int .u8 0, .int .u8 0, .int .u8 0, .int .u8 0, .int .u8 0, .int .u8 0, .int .u8 0, .int .u8 0, .int .u8 0, .int .u8 0, .int .u8 0, .int .u8 0, .int .u8 0, .int .u8 0, .int .u8 0, .int .u8 0, .int .u8 0, .int .u8 0, .int .u8 0, .int .u8 0, .int .u8 0, .int .u8 0, .int .u8 0, .int .u8 0, .int .u8 0, .int .u8 0, .int .u8 0, .int .u8 0, .int .u8 0, .int .u8 0, .int .u8 0, .int .u8 0, .int .u8 0, .int .u8 0, .int .u8 0] 37)).setRow w1.heap.size (lst .u8 FT 64).toArray = W2 at *
  generalize w1.heap.size = nf at *
  clear HZ
  obtain ⟨w3, hrun, HO3, hgr3⟩ := run_make_own (P := Tryd.prog) W2 w.heap.size 33 5 i0 (.int .u8 0) 1 Tryd.underlying33 hi5 hz0 hz1 .i64 .i64 C (by rw [hz2]; omega) (by unfold maxLen; omega) HE0.out.size
  rw [hrun]
  have HS0 : Hid (XS w w3 nf W2.heap.size FT C (expA key info 0)) := ⟨HO3, (hgr3.block nf HR0.out.lt (by simp)).trans HR0.out, ext_grown HE0.out hgr3 (fun k hk => by cases hk), HE0.out.size, Nat.ne_of_lt HR0.out.lt⟩
  clear HO3 hgr3 HR0 HE0 hrun
  generalize W2.heap.size = g at *
  clear W2
  go_wp2
  go_loopw [9, 10, 11] (fun u9 u10 u11 wr => ∃ (k L : Nat), L = 32 * k ∧ 32 * k ≤ n + 31 ∧ u9 = .slice (some ⟨g, 0, none⟩) L C ∧ u10 = .string (expT key info k) ∧ u11 = .int .i64 ((k + 1 : Nat) : Int) ∧ Hid (XS w wr nf g FT C (expA key info k))) (fun _ _ u11 _ => 1000 - (intOf u11).toNat)
  case atStart => exact ⟨0, 0, rfl, by omega, rfl, rfl, rfl, HS0⟩
  case round =>
    clear HS0
    obtain ⟨k, L, hL, hkn, rfl, rfl, rfl, HS⟩ := hrel
    have hsA := expA_size key info k
    rw [← hL] at hsA
    have HL : Hid (L = 32 * k) := hL
    by_cases hlt : L < n
    · have hl1 : (L : Int) < (n : Int) := by omega
      have HNa : Hid (expA key info (k + 1) = expA key info k ++ expT key info (k + 1)) := rfl
      have hsT := expT_size key info k
      have hoS : (oneB (k + 1)).size = 1 := mkS_size _ _
      have HJ : Hid (Join3C (expT key info k) info (oneB (k + 1)) (expT key info k ++ info ++ oneB (k + 1))) := join3C _ _ _ (by omega)
      have HMc : Hid (∀ W, Gl W → Calls Tryd.prog 15 #[.agg (lst .u8 FT 64).toArray, .string (expT key info k ++ info ++ oneB (k + 1))] W fun e w' => e = .returned (.string (expT key info (k + 1))) ∧ Ext W w') := fun W hW => HM.out _ (by rw [ByteArray.size_append, ByteArray.size_append]; omega) W hW
      have hsN : (expT key info (k + 1)).size = 32 := shaS_size _
      have hcs := fun W => one_string W (k + 1)
      obtain ⟨q, Hq⟩ : ∃ q, Hid (k + 1 = q) := ⟨_, rfl⟩
      have hq : q ≤ 255 := by have := Hq.out; omega
      have hroom : L + 32 ≤ C := by omega
      have hcv : IntKind.u8.wrap (q : Int) = (q : Int) := by rw [IntKind.wrap_u8']; omega
      rw [Hq.out] at HNa HJ HMc hsN hcs hoS ⊢
      clear hL
      generalize expT key info k ++ info ++ oneB q = JJ at *
      generalize expT key info k = TT at *
      obtain ⟨TN, HTN⟩ : ∃ TN, Hid (expT key info q = TN) := ⟨_, rfl⟩
      rw [HTN.out] at HNa HMc hsN
      generalize oneB q = OB at *
      generalize expA key info k = AA at *
      have HS1 : Hid (RS wr nf FT wr.drew) := ⟨HS.out.2.1.ext (Ext.drew (Ext.refl _)), Ext.drew (Ext.refl _)⟩
      clear hkn hlt
      go_wp2_with fail
      refine wp_region_noPanic ?_
      refine wp_region_until (X := 10) (S := RS wr nf FT) (by kernel_rfl) ?_
      generalize wr.drew = W8 at *
      have hS0 := HS1.out
      refine until_take (i := 0) (v := ?v0) rfl (by kernel_rfl) (by kernel_rfl) (by kernel_rfl) (by kernel_rfl) (by kernel_rfl) (fun _ _ _ h => h) rfl ?hy0 hS0 ?rest0
      case hy0 => (intro w hSw; refine run_load_op (x := .tmp 8) ?_ ?_ hSw.1 <;> rfl)
      try simp only [Act.put, List.setIfInBounds_toArray, List.set_cons_zero, List.set_cons_succ]
      refine until_take (i := 1) (v := ?v1) rfl (by kernel_rfl) (by kernel_rfl) (by kernel_rfl) (by kernel_rfl) (by kernel_rfl) (fun _ _ _ h => h) rfl ?hy1 hS0 ?rest1
      case hy1 => (intro w hSw; clear hSw; go_simp; try with_reducible rfl)
      try simp only [Act.put, List.setIfInBounds_toArray, List.set_cons_zero, List.set_cons_succ]
      refine until_take (i := 2) (v := ?v2) rfl (by kernel_rfl) (by kernel_rfl) (by kernel_rfl) (by kernel_rfl) (by kernel_rfl) (fun _ _ _ h => h) rfl ?hy2 hS0 ?rest2
      case hy2 => (intro w hSw; clear hSw; go_simp; try with_reducible rfl)
      try simp only [Act.put, List.setIfInBounds_toArray, List.set_cons_zero, List.set_cons_succ]
      refine until_take (i := 3) (v := ?v3) rfl (by kernel_rfl) (by kernel_rfl) (by kernel_rfl) (by kernel_rfl) (by kernel_rfl) (fun _ _ _ h => h) rfl ?hy3 hS0 ?rest3
      case hy3 => (intro w hSw; clear hSw; go_simp; try with_reducible rfl)
      try simp only [Act.put, List.setIfInBounds_toArray, List.set_cons_zero, List.set_cons_succ]
      refine until_take (i := 4) (v := ?v4) rfl (by kernel_rfl) (by kernel_rfl) (by kernel_rfl) (by kernel_rfl) (by kernel_rfl) (fun _ _ _ h => h) rfl ?hy4 hS0 ?rest4
      case hy4 => (intro w hSw; clear hSw; go_simp; try with_reducible rfl)
      try simp only [Act.put, List.setIfInBounds_toArray, List.set_cons_zero, List.set_cons_succ]
      refine until_one (i := 5) (by kernel_rfl) (by kernel_rfl) rfl rfl (fun K hK => ?_)
      go_simp
      have hS1 := hS0.ext ((Ext.refl W8).alloc (.cells #[.int .u8 (q : Int)] 5))
      have HW9 : Hid (Ext W8 (W8.alloc (.cells #[.int .u8 (q : Int)] 5))) := (Ext.refl W8).alloc _
      have hcs8 := hcs W8
      refine hK.out _ _ hS1 ?_
      clear hK K hcs
      try simp only [Act.put, List.setIfInBounds_toArray, List.set_cons_zero, List.set_cons_succ]
      refine until_one (i := 6) (by kernel_rfl) (by kernel_rfl) rfl rfl (fun K hK => ?_)
      go_simp
      refine hK.out _ _ hS1 ?_
      clear hK K
      try simp only [Act.put, List.setIfInBounds_toArray, List.set_cons_zero, List.set_cons_succ]
      generalize W8.alloc (.cells #[.int .u8 (q : Int)] 5) = W9 at *
      refine until_one (i := 7) (by kernel_rfl) (by kernel_rfl) rfl rfl (fun K hK => ?_)
      go_simp
      have hS2 := hS1.ext ((Ext.refl W9).alloc (.cells #[.string TT, .string info, .string OB] 9))
      have HJ9 := HJ.out W9
      refine hK.out _ _ hS2 ?_
      clear hK K hcs8
      try simp only [Act.put, List.setIfInBounds_toArray, List.set_cons_zero, List.set_cons_succ]
      refine until_one (i := 8) (by kernel_rfl) (by kernel_rfl) rfl rfl (fun K hK => ?_)
      go_simp
      refine HJ9.mono ?_
      rintro e wa ⟨rfl, HXa⟩
      have hS3 := hS1.ext HXa
      clear HXa
      go_simp
      refine hK.out _ _ hS3 ?_
      clear hK K
      try simp only [Act.put, List.setIfInBounds_toArray, List.set_cons_zero, List.set_cons_succ]
      refine until_one (i := 9) (by kernel_rfl) (by kernel_rfl) rfl rfl (fun K hK => ?_)
      go_simp
      refine (HMc.out _ (HG.out.ext (HS.out.2.2.1.trans hS3.2))).mono ?_
      rintro e wb ⟨rfl, HXb⟩
      have hS4 := hS3.ext HXb
      clear HXb
      go_simp
      refine hK.out _ _ hS4 ?_
      clear hK K
      try simp only [Act.put, List.setIfInBounds_toArray, List.set_cons_zero, List.set_cons_succ]
      refine until_last (by kernel_rfl) (by kernel_rfl) rfl rfl (fun K hK => ?_)
      go_simp
      refine hK.out _ _ (NoPanic.normal ?_)
      clear hK K
      try simp only [Act.put, List.setIfInBounds_toArray, List.set_cons_zero, List.set_cons_succ]
      have HS5 : Hid (XS w wb nf g FT C AA) := HS.out.ext hS4.2
      clear hS0 hS1 hS2 hS3 hS4 HS1 HW9 HJ9 HS
      have HO : wb.ownsRow w.heap.size 5 1 (.slice (some ⟨g, 0, none⟩) L C) L (Lib.strCells AA) := by
        have h := HS5.out.1
        rwa [hsA] at h
      have hro32 : L + TN.size ≤ C := by omega
      have hC0 : 0 < C := by omega
      go_wp2_with (first | (at_builtin; refine Lib.wpList_append_fits_string _ rfl _ _ 33 9 rfl w.heap.size 5 i0 Tryd.underlying33 Tryd.underlying9 hi5 hz1 (some ⟨g, 0, none⟩) L C (Lib.strCells AA) rfl HO TN rfl hC0 hro32 ?_))
      intro w6 hro hrg
      have HS6 : Hid (XS w w6 nf g FT C (AA ++ TN)) := HS5.out.grow (by rw [hsA, hsN]; exact hro) hrg
      clear hro hrg HS5 HO hro32
      go_wp2
      go_roundw
      case rel => exact ⟨k + 1, L + 32, by have := HL.out; omega, by have := HL.out; omega, rfl, by rw [Hq.out, HTN.out], by rw [← Hq.out]; go_num, by rw [Hq.out, HNa.out]; exact HS6⟩
      case measure => have := Hq.out; simp [intOf]; omega
    · have hl1 : ¬ (L : Int) < (n : Int) := by omega
      have hke : k = (n + 31) / 32 := by omega
      have HES : Hid (expS key info n = (expA key info k).extract 0 n) := by show _ = _; unfold expS; rw [← hke]
      have hnA : n ≤ (expA key info k).size := by omega
      have HSl : SlIs wr (.slice (some ⟨g, 0, none⟩) n C) (lst .u8 (sb (expA key info k)) n) := own_prefix HS.out.1 hnA
      have hcv := slice_string HSl (by omega)
      obtain ⟨EO, HEO⟩ : ∃ EO, Hid (expS key info n = EO) := ⟨_, rfl⟩
      rw [mkS_extract _ hnA, ← HES.out, HEO.out] at hcv
      have HE : Hid (Ext w wr) := HS.out.2.2.1
      have b1 : (n : Int) ≤ (C : Int) := by omega
      have b0 : (0 : Int) ≤ (n : Int) := by omega
      clear HSl HS hL hke hnA hsA HES
      go_wp2
      refine bodyPost_ret (v := .tuple #[.string EO, .int .i64 0]) (by simp [results, Tryd.results12, go_sem]) rfl ⟨by rw [HEO.out], HE.out⟩
end Go.Proofs.YtfhglfldmboanaaDoor
