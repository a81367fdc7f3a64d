/-
  sandglassref09.Xor, called; nothing old is turned.
-/
import Derived.Test.YtbcgipapbamgfaaDoorRefCBlock
namespace Go.Proofs.YtbcgipapbamgfaaDoor
open Go.RowKit
/-- The first t bytes are xored. -/
def xorP (key nonce : ByteArray) (n : Nat) (s : ByteArray) (t j : Nat) : Nat := if j < t then sb s j ^^^ strB key nonce n j else sb s j
theorem xorP_step (key nonce : ByteArray) (n : Nat) (s : ByteArray) (t : Nat) : put (xorP key nonce n s t) t (sb s t ^^^ strB key nonce n t) = xorP key nonce n s (t + 1) := by
  funext j
  unfold put xorP
  by_cases e : j = t
  · subst e; simp
  · rw [if_neg e]
    by_cases h : j < t
    · rw [if_pos h, if_pos (by omega)]
    · rw [if_neg h, if_neg (by omega)]
theorem xorP_at (key nonce : ByteArray) (n : Nat) (s : ByteArray) (t : Nat) : xorP key nonce n s t t = sb s t := if_neg (by omega)
theorem xorP_past {key nonce : ByteArray} {n : Nat} {s : ByteArray} {t u L : Nat} (h1 : L ≤ t) (h2 : L ≤ u) : ∀ j, j < L → xorP key nonce n s t j = xorP key nonce n s u j := by
  intro j hj
  unfold xorP
  rw [if_pos (by omega), if_pos (by omega)]
theorem TabN.congr {w : World} {b n : Nat} {kd : IntKind} {T S : Nat → Nat} (h : TabN w b kd n T) (e : ∀ j, j < n → T j = S j) : TabN w b kd n S :=
  ⟨h.1, fun k hk => ⟨by rw [← e k hk]; exact (h.2 k hk).1, (h.2 k hk).2⟩⟩
theorem blkB_lt (x : List Nat) (j : Nat) : blkB x j < 256 := Nat.mod_lt _ (by decide)
theorem sb_mkS {T : Nat → Nat} (hT : ∀ i, T i < 256) {n j : Nat} (h : j < n) : sb (mkS T n) j = T j := by
  unfold sb mkS
  rw [List.getD_eq_getElem?_getD]
  simp only [List.getElem?_map, List.getElem?_range h, Option.map_some, Option.getD_some]
  rw [UInt8.toNat_ofNat_of_lt' (hT j)]
theorem lst_string (T : Nat → Nat) (L g cap : Nat) (w : World) (h : TabN w g .u8 L T) (hL : L ≤ maxLen) : Sem.run Tryd.prog (convert 31 9 (.slice (some ⟨g, 0, none⟩) L cap)) w = .ok (.string (mkS T L)) w := by
  by_cases h0 : L = 0
  · subst h0
    rw [run_convert_bytes_string _ 31 9 5 _ _ _ Tryd.underlying31 Tryd.underlying5 Tryd.underlying9]
    rw [run_bytesToString _ _ _ _ []]
    · rfl
    · rfl
  · exact run_lst_string Tryd.prog 5 31 9 Tryd.underlying31 Tryd.underlying5 Tryd.underlying9 w T L _ (h.slice hL) (by omega)
theorem xorP_end {key nonce : ByteArray} {n : Nat} {s : ByteArray} {t : Nat} (h : s.size ≤ t) : mkS (xorP key nonce n s t) s.size = xorS key nonce n s := by
  unfold xorS mkS
  congr 2
  refine List.map_congr_left fun i hi => ?_
  have hi2 := List.mem_range.1 hi
  unfold xorP
  rw [if_pos (by omega)]
/-- The numbers of a block. -/
theorem blk_nums (n q L : Nat) (hq : 64 * q ≤ L + 63) (hL : L ≤ 100000) : ∃ P P2 nn : Nat, P = 64 * q ∧ P2 = 64 * (q + 1) ∧ nn = (n + q) % 4294967296 ∧ nn < 4294967296 ∧ (P : Int).tdiv 64 = (q : Int) ∧ IntKind.u32.wrap (q : Int) = (q : Int) ∧ IntKind.u32.wrap ((n : Int) + (q : Int)) = (nn : Int) ∧ IntKind.i64.wrap ((P : Int) + 64) = (P2 : Int) ∧ (0 : Int) ≤ (P : Int) ∧ Hid (((n : Int) + wrap64 (q : Int)) % 4294967296 = (nn : Int)) := by
  refine ⟨64 * q, 64 * (q + 1), (n + q) % 4294967296, rfl, rfl, rfl, Nat.mod_lt _ (by decide), ?_, ?_, ?_, ?_, by omega, ?_⟩
  · rw [Int.tdiv_eq_ediv_of_nonneg (by omega)]; omega
  · rw [IntKind.wrap_u32']; omega
  · rw [IntKind.wrap_u32']; omega
  · rw [IntKind.wrap_i64]; omega
  · show _ = _
    have hw : wrap64 (q : Int) = (q : Int) := by unfold wrap64; omega
    rw [hw]
    omega
/-- The numbers of a byte. -/
theorem byte_nums (P j L : Nat) (hP : P + j < L) (hL : L ≤ 100000) : ∃ t : Nat, P + j = t ∧ IntKind.i64.wrap ((P : Int) + (j : Int)) = (t : Int) ∧ (t : Int) < (L : Int) ∧ (0 : Int) ≤ (t : Int) ∧ (0 : Int) ≤ (j : Int) := by
  refine ⟨P + j, rfl, ?_, by omega, by omega, by omega⟩
  rw [IntKind.wrap_i64]; omega
set_option maxHeartbeats 400000 in
theorem rxor_bad (key nonce : ByteArray) (n : Nat) (s : ByteArray) (h : key.size ≠ 32 ∨ nonce.size ≠ 12) (w : World) :
    Calls Tryd.prog 18 #[.string key, .string nonce, .int .u32 (n : Int), .string s] w fun e w' => e = .returned (.tuple #[.string ⟨#[]⟩, .int .i64 2]) ∧ Ext w w' := by
  by_cases hk : key.size = 32
  · have hn : nonce.size ≠ 12 := by omega
    have h1 : (key.size : Int) = 32 := by omega
    have h2 : ¬ (nonce.size : Int) = 12 := by omega
    go_enter Tryd.func18, Tryd.ntmps18
    go_wp2
    refine bodyPost_ret (v := .tuple #[.string ⟨#[]⟩, .int .i64 2]) (by simp [results, Tryd.results18, go_sem]) rfl ⟨rfl, Ext.refl _⟩
  · have h1 : ¬ (key.size : Int) = 32 := by omega
    go_enter Tryd.func18, Tryd.ntmps18
    go_wp2
    refine bodyPost_ret (v := .tuple #[.string ⟨#[]⟩, .int .i64 2]) (by simp [results, Tryd.results18, go_sem]) rfl ⟨rfl, Ext.refl _⟩
set_option maxRecDepth 10000 in
set_option maxHeartbeats 4000000 in
theorem rxor_any (key nonce : ByteArray) (n : Nat) (s : ByteArray) (hk : key.size = 32) (ho : nonce.size = 12) (_hn : n < 4294967296) (hs : s.size ≤ 100000) (w : World) :
    Calls Tryd.prog 18 #[.string key, .string nonce, .int .u32 (n : Int), .string s] w fun e w' => e = .returned (.tuple #[.string (xorS key nonce n s), .int .i64 0]) ∧ Ext w w' := by
  have h1 : (key.size : Int) = 32 := by omega
  have h2 : (nonce.size : Int) = 12 := by omega
  have hsm : s.size ≤ maxLen := by unfold maxLen; omega
  have hcv := Lib.run_convert_string_bytes w 9 31 5 s Tryd.underlying9 Tryd.underlying31 Tryd.underlying5
  have HX0 : Hid (Ext w (Lib.bytesWorld w 5 s)) := bytes_ext _ _ _
  have HO0 := bytes_own w 5 s hsm
  obtain ⟨X, hX⟩ : ∃ X, Lib.bytesWorld w 5 s = X := ⟨_, rfl⟩
  obtain ⟨c0, hc0⟩ : ∃ c0, grownCap w s.size 0 5 = c0 := ⟨_, rfl⟩
  rw [hX] at hcv HX0 HO0
  rw [hc0] at hcv HO0
  obtain ⟨L, hL⟩ : ∃ L, s.size = L := ⟨_, rfl⟩
  rw [hL] at hcv HO0 hs hsm
  have HL : Hid (s.size = L) := hL
  obtain ⟨g', cap', e, hb, hg, hcn, hm, hc, hf⟩ := HO0
  injection e with e0 _ e2
  injection e0 with e0
  injection e0 with e0 _ _
  have HT0 : Hid (TabN X w.heap.size .u8 L (xorP key nonce n s 0)) := by
    show TabN _ _ _ _ _
    rw [← e0] at hg hc hf
    refine ⟨hg, fun k hk2 => ⟨?_, (hf k (by omega)).2⟩⟩
    rw [show xorP key nonce n s 0 k = sb s k from if_neg (by omega)]
    exact hc k hk2
  have HG : SizeLe w w.heap.size := Nat.le_refl _
  clear hX hc0 hL e0 e2 hb hg hcn hm hc hf
  generalize hgg : w.heap.size = g at *
  clear hgg
  go_enter Tryd.func18, Tryd.ntmps18
  go_wp2
  go_loopw [11] (fun u11 wr => ∃ (q P : Nat), P = 64 * q ∧ P ≤ L + 63 ∧ u11 = .int .i64 P ∧ TabN wr g .u8 L (xorP key nonce n s P) ∧ Hid (Ext w wr)) (fun u11 _ => L + 64 - (intOf u11).toNat)
  case atStart => exact ⟨0, 0, rfl, by omega, rfl, HT0.out, HX0⟩
  case round =>
    obtain ⟨q, P, hPq, hPL, rfl, HT, HE⟩ := hrel
    clear HT0 HX0 hcv
    by_cases hlt : P < L
    · have hl1 : (P : Int) < (L : Int) := lt_int hlt
      obtain ⟨P', P2, nn, eP, eP2, enn, hnn, d1, d2, d3, d4, d0, D6⟩ := blk_nums n q L (by omega) hs
      obtain rfl : P = P' := by omega
      have HT : Hid (TabN wr g .u8 L (xorP key nonce n s P)) := HT
      have HK0 : Hid ((blkS key nonce nn).size = 64) := blkS_size _ _ _
      have HKb : Hid (∀ j, j < 64 → sb (blkS key nonce nn) j = strB key nonce n (P + j)) := fun j hj => by
        unfold blkS strB
        rw [sb_mkS (blkB_lt _) hj, enn, eP, show (64 * q + j) / 64 = q by omega, show (64 * q + j) % 64 = j by omega]
      have C : Hid (∀ W, Calls Tryd.prog 25 #[.string key, .string nonce, .int .u32 (nn : Int)] W fun e w' => e = .returned (.tuple #[.string (blkS key nonce nn), .int .i64 0]) ∧ Ext W w') := fun W => rblock_any key nonce nn hk ho hnn W
      obtain ⟨KS, HKS⟩ : ∃ KS, Hid (blkS key nonce nn = KS) := ⟨_, rfl⟩
      rw [HKS.out] at HK0 HKb C
      have HPP : Hid (P = 64 * q ∧ P2 = 64 * (q + 1)) := ⟨eP, eP2⟩
      clear eP eP2 enn hPq hnn
      go_wp2_with fail
      rw [D6.out]
      with_reducible refine (C.out _).mono ?_
      rintro e w1 ⟨rfl, HX⟩
      have HT1 := HT.out.ext HX
      have HE1 : Hid (Ext w w1) := HE.out.trans HX
      clear HX HT HE C
      go_wp2
      go_loopw [14] (fun u14 wr => ∃ (j : Nat), j ≤ 64 ∧ P + j ≤ L ∧ u14 = .int .i64 j ∧ TabN wr g .u8 L (xorP key nonce n s (P + j)) ∧ Hid (Ext w wr)) (fun u14 _ => 64 - (intOf u14).toNat)
      case atStart => exact ⟨0, by omega, by omega, rfl, HT1, HE1⟩
      case round =>
        clear HT1 HE1
        obtain ⟨j, hj64, hjL, rfl, HT, HE⟩ := hrel
        by_cases hj : j < 64
        · have hj1 : (j : Int) < 64 := lt_int hj
          by_cases hjl : P + j < L
          · obtain ⟨t, et, y1, y2, y3, y4⟩ := byte_nums P j L hjl hs
            have hks : j < KS.size := by rw [HK0.out]; exact hj
            have ek := sb_at KS hks
            rw [HKb.out j hj, et] at ek
            rw [et] at HT
            have Ht : Hid (P + j = t) := et
            obtain ⟨gp, gfz⟩ := HT.2 t (by omega)
            rw [xorP_at] at gp
            have HST : Hid (TabN (wr.setCell ⟨g, t, none⟩ (.int .u8 ((sb s t ^^^ strB key nonce n t : Nat) : Int))) g .u8 L (xorP key nonce n s (t + 1))) := by
              have h := HT.set t (sb s t ^^^ strB key nonce n t)
              rw [xorP_step] at h
              exact h
            have hxo := u8_xor_nat (sb s t) (strB key nonce n t) (sb_lt _ _) (blkB_lt _ _)
            have Hr : Hid (P + (j + 1) ≤ L) := (by omega : P + (j + 1) ≤ L)
            clear HT et hjl hj64 hjL
            generalize sb s t ^^^ strB key nonce n t = r at HST hxo
            generalize sb s t = bv at gp hxo
            generalize strB key nonce n t = kv at ek hxo
            go_wp2_with fail
            go_region
            go_wp2
            go_roundw
            case rel =>
              refine ⟨j + 1, hj, ?_, by go_num, ?_, (Ext.st HG HE.out).drew⟩
              · exact Hr.out
              · rw [← Nat.add_assoc, Ht.out]
                exact HST.out.ext (Ext.drew (Ext.refl _))
            case measure => simp [intOf]; omega
          · have hjE : Hid (L ≤ P + j) := (by omega : L ≤ P + j)
            have y1 : IntKind.i64.wrap ((P : Int) + (j : Int)) = (P : Int) + (j : Int) := by rw [IntKind.wrap_i64]; omega
            have y2 : ¬ (P : Int) + (j : Int) < (L : Int) := by omega
            have HT2 : Hid (TabN wr g .u8 L (xorP key nonce n s P2)) := HT.congr (xorP_past hjE.out (by have := HPP.out; omega))
            have HPr : Hid (P2 = 64 * (q + 1) ∧ P2 ≤ L + 63 ∧ P2 = P + 64) := (by have := HPP.out; omega : P2 = 64 * (q + 1) ∧ P2 ≤ L + 63 ∧ P2 = P + 64)
            clear HT
            go_wp2
            go_roundw
            case rel => exact ⟨q + 1, P2, HPr.out.1, HPr.out.2.1, rfl, HT2.out, HE⟩
            case measure => have := HPr.out; simp [intOf]; omega
        · have hjE : Hid (j = 64) := (by omega : j = 64)
          have hj1 : ¬ (j : Int) < 64 := by omega
          have HPr : Hid (P2 = 64 * (q + 1) ∧ P2 ≤ L + 63 ∧ P2 = P + 64) := (by have := HPP.out; have := hjE.out; omega : P2 = 64 * (q + 1) ∧ P2 ≤ L + 63 ∧ P2 = P + 64)
          have HT2 : Hid (TabN wr g .u8 L (xorP key nonce n s P2)) := by
            show TabN _ _ _ _ _
            rw [HPr.out.2.2, ← hjE.out]
            exact HT
          clear HT
          go_wp2
          go_roundw
          case rel => exact ⟨q + 1, P2, HPr.out.1, HPr.out.2.1, rfl, HT2.out, HE⟩
          case measure => have := HPr.out; simp [intOf]; omega
    · have hnl : ¬ (P : Int) < (L : Int) := by omega
      have hcs := lst_string (xorP key nonce n s P) L g c0 wr HT hsm
      have HQ : Hid (mkS (xorP key nonce n s P) L = xorS key nonce n s) := by
        show _ = _
        rw [← HL.out]
        exact xorP_end (by rw [HL.out]; omega)
      rw [HQ.out] at hcs
      obtain ⟨SS, HSS⟩ : ∃ SS, Hid (xorS key nonce n s = SS) := ⟨_, rfl⟩
      rw [HSS.out] at hcs
      clear HT HQ
      go_wp2
      refine bodyPost_ret (v := .tuple #[.string SS, .int .i64 0]) (by simp [results, Tryd.results18, go_sem]) rfl ⟨by rw [HSS.out], HE.out⟩
end Go.Proofs.YtbcgipapbamgfaaDoor
