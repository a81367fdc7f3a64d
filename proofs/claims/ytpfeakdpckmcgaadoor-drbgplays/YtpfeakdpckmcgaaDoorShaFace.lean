/-
  sha.Sum, called where the package's variables hold what their initialisers lay: the sum of a text; nothing old is turned. With it the face of package sha is whole.
-/
import Derived.Test.YtpfeakdpckmcgaaDoorShaN
import Derived.Test.YtpfeakdpckmcgaaDoorShaT
import Derived.Test.YtpfeakdpckmcgaaDoorShaX
namespace Go.Proofs.YtpfeakdpckmcgaaDoor
set_option maxRecDepth 10000
open Go.RowKit
theorem eight_cells {w : World} {n : Nat} {H : Nat → Nat} (h : RowH w n 98 .u32 8 H) : (w.cell? ⟨n, 0, none⟩ = some (.int .u32 (H 0 : Int)) ∧ w.cell? ⟨n, 1, none⟩ = some (.int .u32 (H 1 : Int)) ∧ w.cell? ⟨n, 2, none⟩ = some (.int .u32 (H 2 : Int)) ∧ w.cell? ⟨n, 3, none⟩ = some (.int .u32 (H 3 : Int)) ∧ w.cell? ⟨n, 4, none⟩ = some (.int .u32 (H 4 : Int)) ∧ w.cell? ⟨n, 5, none⟩ = some (.int .u32 (H 5 : Int)) ∧ w.cell? ⟨n, 6, none⟩ = some (.int .u32 (H 6 : Int)) ∧ w.cell? ⟨n, 7, none⟩ = some (.int .u32 (H 7 : Int))) ∧ w.frozen? ⟨n, 0, none⟩ = false ∧ w.frozen? ⟨n, 1, none⟩ = false ∧ w.frozen? ⟨n, 2, none⟩ = false ∧ w.frozen? ⟨n, 3, none⟩ = false ∧ w.frozen? ⟨n, 4, none⟩ = false ∧ w.frozen? ⟨n, 5, none⟩ = false ∧ w.frozen? ⟨n, 6, none⟩ = false ∧ w.frozen? ⟨n, 7, none⟩ = false :=
  ⟨⟨(h.tab.2 0 (by decide)).1, (h.tab.2 1 (by decide)).1, (h.tab.2 2 (by decide)).1, (h.tab.2 3 (by decide)).1, (h.tab.2 4 (by decide)).1, (h.tab.2 5 (by decide)).1, (h.tab.2 6 (by decide)).1, (h.tab.2 7 (by decide)).1⟩, (h.tab.2 0 (by decide)).2, (h.tab.2 1 (by decide)).2, (h.tab.2 2 (by decide)).2, (h.tab.2 3 (by decide)).2, (h.tab.2 4 (by decide)).2, (h.tab.2 5 (by decide)).2, (h.tab.2 6 (by decide)).2, (h.tab.2 7 (by decide)).2⟩
theorem eight_set {w : World} {n : Nat} {H : Nat → Nat} (h : RowH w n 98 .u32 8 H) (F : Nat → Nat) : RowH ((((((((w.setCell ⟨n, 0, none⟩ (.int .u32 (F 0 : Int))).setCell ⟨n, 1, none⟩ (.int .u32 (F 1 : Int))).setCell ⟨n, 2, none⟩ (.int .u32 (F 2 : Int))).setCell ⟨n, 3, none⟩ (.int .u32 (F 3 : Int))).setCell ⟨n, 4, none⟩ (.int .u32 (F 4 : Int))).setCell ⟨n, 5, none⟩ (.int .u32 (F 5 : Int))).setCell ⟨n, 6, none⟩ (.int .u32 (F 6 : Int))).setCell ⟨n, 7, none⟩ (.int .u32 (F 7 : Int))) n 98 .u32 8 F :=
  ((((((((h.set 0 (F 0)).set 1 (F 1)).set 2 (F 2)).set 3 (F 3)).set 4 (F 4)).set 5 (F 5)).set 6 (F 6)).set 7 (F 7)).congr fun j hj => by
    have : j = 0 ∨ j = 1 ∨ j = 2 ∨ j = 3 ∨ j = 4 ∨ j = 5 ∨ j = 6 ∨ j = 7 := by omega
    rcases this with rfl | rfl | rfl | rfl | rfl | rfl | rfl | rfl <;> rfl
theorem eight_ext {a w : World} {n : Nat} (hn : a.heap.size ≤ n) (F : Nat → Nat) (h : Ext a w) : Ext a ((((((((w.setCell ⟨n, 0, none⟩ (.int .u32 (F 0 : Int))).setCell ⟨n, 1, none⟩ (.int .u32 (F 1 : Int))).setCell ⟨n, 2, none⟩ (.int .u32 (F 2 : Int))).setCell ⟨n, 3, none⟩ (.int .u32 (F 3 : Int))).setCell ⟨n, 4, none⟩ (.int .u32 (F 4 : Int))).setCell ⟨n, 5, none⟩ (.int .u32 (F 5 : Int))).setCell ⟨n, 6, none⟩ (.int .u32 (F 6 : Int))).setCell ⟨n, 7, none⟩ (.int .u32 (F 7 : Int))) :=
  Ext.st hn (Ext.st hn (Ext.st hn (Ext.st hn (Ext.st hn (Ext.st hn (Ext.st hn (Ext.st hn h)))))))
/-- The sum's state: eight words in block n. -/
def SM (w wr : World) (n : Nat) (H : Nat → Nat) : Prop := RowH wr n 98 .u32 8 H ∧ Ext w wr ∧ SGl wr ∧ w.heap.size ≤ n
theorem SM.ext {w wr wy : World} {n : Nat} {H : Nat → Nat} (h : SM w wr n H) (hx : Ext wr wy) : SM w wy n H := ⟨h.1.ext hx, h.2.1.trans hx, h.2.2.1.ext hx, h.2.2.2⟩
theorem SM.put {w wr : World} {n : Nat} {H : Nat → Nat} (h : SM w wr n H) (hG : SGl w) (F : Nat → Nat) : SM w ((((((((wr.setCell ⟨n, 0, none⟩ (.int .u32 (F 0 : Int))).setCell ⟨n, 1, none⟩ (.int .u32 (F 1 : Int))).setCell ⟨n, 2, none⟩ (.int .u32 (F 2 : Int))).setCell ⟨n, 3, none⟩ (.int .u32 (F 3 : Int))).setCell ⟨n, 4, none⟩ (.int .u32 (F 4 : Int))).setCell ⟨n, 5, none⟩ (.int .u32 (F 5 : Int))).setCell ⟨n, 6, none⟩ (.int .u32 (F 6 : Int))).setCell ⟨n, 7, none⟩ (.int .u32 (F 7 : Int))) n F :=
  ⟨eight_set h.1 F, eight_ext h.2.2.2 F h.2.1, hG.ext (eight_ext h.2.2.2 F h.2.1), h.2.2.2⟩
def BlkC (s : ByteArray) (k : Nat) (AB : Array Value) : Prop := ∀ wx, Calls Tryd.prog 60 #[.string s, .int .i64 k] wx fun e w' => e = .returned (.agg AB) ∧ Ext wx w'
theorem BlkC.call {s : ByteArray} {k : Nat} {AB : Array Value} (h : BlkC s k AB) (wx : World) : Calls Tryd.prog 60 #[.string s, .int .i64 k] wx fun e w' => e = .returned (.agg AB) ∧ Ext wx w' := h wx
def WdsC (AB AW : Array Value) : Prop := ∀ wx, Calls Tryd.prog 59 #[.agg AB] wx fun e w' => e = .returned (.agg AW) ∧ Ext wx w'
theorem WdsC.call {AB AW : Array Value} (h : WdsC AB AW) (wx : World) : Calls Tryd.prog 59 #[.agg AB] wx fun e w' => e = .returned (.agg AW) ∧ Ext wx w' := h wx
def NxtC (H : Nat → Nat) (AW : Array Value) (F : Nat → Nat) : Prop := ∀ wx, SGl wx → Calls Tryd.prog 58 #[.agg #[.int .u32 (H 0 : Int), .int .u32 (H 1 : Int), .int .u32 (H 2 : Int), .int .u32 (H 3 : Int), .int .u32 (H 4 : Int), .int .u32 (H 5 : Int), .int .u32 (H 6 : Int), .int .u32 (H 7 : Int)], .agg AW] wx fun e w' => e = .returned (.agg #[.int .u32 (F 0 : Int), .int .u32 (F 1 : Int), .int .u32 (F 2 : Int), .int .u32 (F 3 : Int), .int .u32 (F 4 : Int), .int .u32 (F 5 : Int), .int .u32 (F 6 : Int), .int .u32 (F 7 : Int)]) ∧ Ext wx w'
theorem NxtC.call {H F : Nat → Nat} {AW : Array Value} (h : NxtC H AW F) (wx : World) (hG : SGl wx) : Calls Tryd.prog 58 #[.agg #[.int .u32 (H 0 : Int), .int .u32 (H 1 : Int), .int .u32 (H 2 : Int), .int .u32 (H 3 : Int), .int .u32 (H 4 : Int), .int .u32 (H 5 : Int), .int .u32 (H 6 : Int), .int .u32 (H 7 : Int)], .agg AW] wx fun e w' => e = .returned (.agg #[.int .u32 (F 0 : Int), .int .u32 (F 1 : Int), .int .u32 (F 2 : Int), .int .u32 (F 3 : Int), .int .u32 (F 4 : Int), .int .u32 (F 5 : Int), .int .u32 (F 6 : Int), .int .u32 (F 7 : Int)]) ∧ Ext wx w' := h wx hG
theorem round_calls (s : ByteArray) (hs : s.size ≤ 5000) (k : Nat) (hk : k < nblk s.size) : ∃ AB AW, BlkC s k AB ∧ WdsC AB AW ∧ NxtC (fun i => (hashF (sb s) s.size k).getD i 0) AW (fun i => (hashF (sb s) s.size (k + 1)).getD i 0) := by
  refine ⟨_, _, fun wx => sblock_any s k hs hk wx, fun wx => words_any _ (fun j => pb_lt s (64 * k + j)) wx, fun wx hG => ?_⟩
  have hl := hash_eight (sb s) s.size k
  have h := next_any (hashF (sb s) s.size k) (fun t => word4 (fun j => pb s (64 * k + j)) (4 * t)) hl.1 hl.2 wx hG
  exact h
theorem text_call (H : Nat → Nat) (wx : World) : Calls Tryd.prog 61 #[.agg #[.int .u32 (H 0 : Int), .int .u32 (H 1 : Int), .int .u32 (H 2 : Int), .int .u32 (H 3 : Int), .int .u32 (H 4 : Int), .int .u32 (H 5 : Int), .int .u32 (H 6 : Int), .int .u32 (H 7 : Int)]] wx fun e w' => e = .returned (.string (mkS (wB H) 32)) ∧ Ext wx w' := text_any H wx
theorem SMg {w wr : World} {n : Nat} {H : Nat → Nat} (h : Hid (SM w wr n H)) : SGl wr := h.out.2.2.1
theorem keepS {w wr : World} {n : Nat} {H : Nat → Nat} (h : Hid (SM w wr n H)) : wr.cell? ⟨n, 0, none⟩ = some (.int .u32 (H 0 : Int)) ∧ wr.cell? ⟨n, 1, none⟩ = some (.int .u32 (H 1 : Int)) ∧ wr.cell? ⟨n, 2, none⟩ = some (.int .u32 (H 2 : Int)) ∧ wr.cell? ⟨n, 3, none⟩ = some (.int .u32 (H 3 : Int)) ∧ wr.cell? ⟨n, 4, none⟩ = some (.int .u32 (H 4 : Int)) ∧ wr.cell? ⟨n, 5, none⟩ = some (.int .u32 (H 5 : Int)) ∧ wr.cell? ⟨n, 6, none⟩ = some (.int .u32 (H 6 : Int)) ∧ wr.cell? ⟨n, 7, none⟩ = some (.int .u32 (H 7 : Int)) ∧ Hid (SM w wr n H) := by
  obtain ⟨⟨c0, c1, c2, c3, c4, c5, c6, c7⟩, _⟩ := eight_cells h.out.1
  exact ⟨c0, c1, c2, c3, c4, c5, c6, c7, h⟩
theorem SMx {w wr wy : World} {n : Nat} {H : Nat → Nat} (h : Hid (SM w wr n H)) (hx : Ext wr wy) : Hid (SM w wy n H) := h.out.ext hx
set_option maxRecDepth 100000 in
set_option maxHeartbeats 2000000 in
theorem ssum_any (s : ByteArray) (hs : s.size ≤ 5000) (w : World) (hG : SGl w) :
    Calls Tryd.prog 53 #[.string s] w fun e w' => e = .returned (.string (shaS s)) ∧ Ext w w' := by
  obtain ⟨SS, HSS⟩ : ∃ SS, Hid (shaS s = SS) := ⟨_, rfl⟩
  rw [HSS.out]
  obtain ⟨HF, HHF⟩ : ∃ HF : Nat → Nat → Nat, Hid (HF = fun k i => (hashF (sb s) s.size k).getD i 0) := ⟨_, rfl⟩
  have HG : Hid (SGl w) := hG
  have g0 := hG.1
  have g1 : 0 < w.heap.size := by omega
  have c0 : w.cell? ⟨1, 0, none⟩ = some (.int .u32 (HF 0 0 : Int)) := by rw [HHF.out]; exact hG.2.1 0 (by decide)
  have c1 : w.cell? ⟨1, 1, none⟩ = some (.int .u32 (HF 0 1 : Int)) := by rw [HHF.out]; exact hG.2.1 1 (by decide)
  have c2 : w.cell? ⟨1, 2, none⟩ = some (.int .u32 (HF 0 2 : Int)) := by rw [HHF.out]; exact hG.2.1 2 (by decide)
  have c3 : w.cell? ⟨1, 3, none⟩ = some (.int .u32 (HF 0 3 : Int)) := by rw [HHF.out]; exact hG.2.1 3 (by decide)
  have c4 : w.cell? ⟨1, 4, none⟩ = some (.int .u32 (HF 0 4 : Int)) := by rw [HHF.out]; exact hG.2.1 4 (by decide)
  have c5 : w.cell? ⟨1, 5, none⟩ = some (.int .u32 (HF 0 5 : Int)) := by rw [HHF.out]; exact hG.2.1 5 (by decide)
  have c6 : w.cell? ⟨1, 6, none⟩ = some (.int .u32 (HF 0 6 : Int)) := by rw [HHF.out]; exact hG.2.1 6 (by decide)
  have c7 : w.cell? ⟨1, 7, none⟩ = some (.int .u32 (HF 0 7 : Int)) := by rw [HHF.out]; exact hG.2.1 7 (by decide)
  have HS0 : Hid (SM w (w.alloc (.cells #[.int .u32 (HF 0 0 : Int), .int .u32 (HF 0 1 : Int), .int .u32 (HF 0 2 : Int), .int .u32 (HF 0 3 : Int), .int .u32 (HF 0 4 : Int), .int .u32 (HF 0 5 : Int), .int .u32 (HF 0 6 : Int), .int .u32 (HF 0 7 : Int)] 98)) w.heap.size (HF 0)) := ⟨RowH.lay w .u32 8 98 (HF 0), (Ext.refl _).alloc _, hG.ext ((Ext.refl _).alloc _), Nat.le_refl _⟩
  obtain ⟨nb, HNB⟩ : ∃ nb, Hid (nblk s.size = nb) := ⟨_, rfl⟩
  have hnb : blkI (s.size : Int) = (nb : Int) := by rw [← HNB.out]; unfold blkI nblk; rw [if_neg (by omega)]; omega
  have hnb9 : nb < 100 := by rw [← HNB.out]; unfold nblk; omega
  have HC : Hid (∀ k, k < nb → ∃ AB AW, BlkC s k AB ∧ WdsC AB AW ∧ NxtC (HF k) AW (HF (k + 1))) := fun k hk => by rw [HHF.out]; exact round_calls s hs k (by rw [HNB.out]; exact hk)
  have HR : Hid (mkS (wB (HF nb)) 32 = SS) := by show _ = _; rw [← HSS.out, HHF.out, ← HNB.out]; rfl
  clear hG
  go_enter Tryd.func53, Tryd.ntmps53
  go_wp2_with fail
  refine (blocks_eq _ (by omega) (by omega) _).mono ?_
  rintro er wx ⟨rfl, hwx⟩
  rw [hwx, hnb]
  clear hwx wx hnb c0 c1 c2 c3 c4 c5 c6 c7
  generalize w.alloc (.cells #[.int .u32 (HF 0 0 : Int), .int .u32 (HF 0 1 : Int), .int .u32 (HF 0 2 : Int), .int .u32 (HF 0 3 : Int), .int .u32 (HF 0 4 : Int), .int .u32 (HF 0 5 : Int), .int .u32 (HF 0 6 : Int), .int .u32 (HF 0 7 : Int)] 98) = W0 at *
  generalize w.heap.size = n at *
  go_wp2
  go_loopw [9] (fun u9 wr => ∃ (k : Nat), k ≤ nb ∧ u9 = .int .i64 k ∧ Hid (SM w wr n (HF k))) (fun u9 _ => nb - (intOf u9).toNat)
  case atStart => exact ⟨0, by omega, rfl, HS0⟩
  case round =>
    clear HS0
    obtain ⟨k, hk, rfl, HS⟩ := hrel
    by_cases hlt : k < nb
    · have h1 : (k : Int) < (nb : Int) := by omega
      have h0 : (0 : Int) ≤ (k : Int) := by omega
      obtain ⟨AB, AW, C14, C13, C12⟩ := HC.out k hlt
      have C14 : Hid (BlkC s k AB) := C14
      have C13 : Hid (WdsC AB AW) := C13
      obtain ⟨H, hH⟩ : ∃ H, HF k = H := ⟨_, rfl⟩
      obtain ⟨F, hF⟩ : ∃ F, HF (k + 1) = F := ⟨_, rfl⟩
      have C12 : Hid (NxtC H AW F) := by rw [← hH, ← hF]; exact C12
      have HFk : Hid (HF (k + 1) = F) := hF
      rw [hH] at HS
      clear hH hF
      obtain ⟨⟨c0, c1, c2, c3, c4, c5, c6, c7⟩, f0, f1, f2, f3, f4, f5, f6, f7⟩ := eight_cells HS.out.1
      have HSd : Hid (SM w wr.drew n H) := HS.out.ext (Ext.drew (Ext.refl _))
      go_wp2_with fail
      go_region_with (first | (go_at_call 60; (with_reducible refine (BlkC.call C14.out _).mono ?_); rintro e wx1 ⟨rfl, HX1⟩; have hs1 := SMx HSd HX1; obtain ⟨⟨d0, d1, d2, d3, d4, d5, d6, d7⟩, _⟩ := eight_cells hs1.out.1) | (go_at_call 59; (with_reducible refine (WdsC.call C13.out _).mono ?_); rintro e wx2 ⟨rfl, HX2⟩; have hs2 := SMx hs1 HX2; obtain ⟨⟨d0, d1, d2, d3, d4, d5, d6, d7⟩, _⟩ := eight_cells hs2.out.1) | (go_at_call 58; (with_reducible refine (NxtC.call C12.out _ (SMg hs2)).mono ?_); rintro e wx3 ⟨rfl, HX3⟩; have hs3 := SMx hs2 HX3; obtain ⟨⟨d0, d1, d2, d3, d4, d5, d6, d7⟩, f0, f1, f2, f3, f4, f5, f6, f7⟩ := eight_cells hs3.out.1))
      all_goals
        have HS4 : Hid (SM w ((((((((wx3.setCell ⟨n, 0, none⟩ (.int .u32 (F 0 : Int))).setCell ⟨n, 1, none⟩ (.int .u32 (F 1 : Int))).setCell ⟨n, 2, none⟩ (.int .u32 (F 2 : Int))).setCell ⟨n, 3, none⟩ (.int .u32 (F 3 : Int))).setCell ⟨n, 4, none⟩ (.int .u32 (F 4 : Int))).setCell ⟨n, 5, none⟩ (.int .u32 (F 5 : Int))).setCell ⟨n, 6, none⟩ (.int .u32 (F 6 : Int))).setCell ⟨n, 7, none⟩ (.int .u32 (F 7 : Int))) n (HF (k + 1))) := by rw [HFk.out]; exact hs3.out.put HG.out F
        go_wp2
        go_roundw
        case rel => exact ⟨k + 1, hlt, by go_num, HS4⟩
        case measure => simp [intOf]; omega
    · have HT : Hid (k = nb) := (by omega : k = nb)
      have hnl : ¬ (k : Int) < (nb : Int) := by omega
      rw [HT.out] at HS
      obtain ⟨H, hH⟩ : ∃ H, HF nb = H := ⟨_, rfl⟩
      rw [hH] at HS HR
      clear hH
      obtain ⟨⟨c0, c1, c2, c3, c4, c5, c6, c7⟩, _⟩ := eight_cells HS.out.1
      go_wp2_with fail
      refine (text_call H _).mono ?_
      rintro er wx ⟨rfl, HX⟩
      rw [HR.out]
      have HE : Hid (Ext w wx) := HS.out.2.1.trans HX
      clear HX
      go_wp2
      go_ret
      exact ⟨rfl, HE.out⟩
theorem sblocks_any (n : Int) (h1 : -9223372036854775808 ≤ n) (h2 : n ≤ 9223372036854775807) (w : World) (_hG : SGl w) :
    Calls Tryd.prog 57 #[.int .i64 n] w fun e w' => e = .returned (.int .i64 (blkI n)) ∧ Ext w w' :=
  (blocks_eq n h1 h2 w).mono fun _ _ ⟨h, hw⟩ => ⟨h, hw ▸ Ext.refl _⟩
end Go.Proofs.YtpfeakdpckmcgaaDoor
