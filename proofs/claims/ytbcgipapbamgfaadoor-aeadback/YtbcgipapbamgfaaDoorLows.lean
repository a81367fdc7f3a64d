/-
  Words for all walks: what a call leaves ('Ext'), slices that are read, slices that a call has made. No function of the program is named here.
  SHA-256 over natural numbers, by its definition; no Go in this text.
  Products of numbers of some words of 32 bits, as sandglassref07.mul makes them; no Go in this text.
  n cells of one kind of number in a block, which may be written; and slices over them. No function of the program is named here.
  A whole block of n numbers of one kind: known by the heap; loaded, stored, written. No function of the program is named here.
-/
import Derived.Test.YtbcgipapbamgfaaDoorRows
import Derived.WalkKit
import Derived.WalkSpells
import Derived.WalkLawsBesides
import Derived.OwnWalk
import Derived.Deep.RegionHeld3
import Derived.Deep.DeepCutAuto
import Derived.Laws.BitsAllLaws
namespace Go.Proofs.YtbcgipapbamgfaaDoor
open Go.RowKit
theorem setCell_drewN (w : World) (a : Addr) (v : Value) (n : Nat) : (w.drewN n).setCell a v = (w.setCell a v).drewN n := rfl
theorem alloc_drewN (w : World) (o : Obj) (n : Nat) : (w.drewN n).alloc o = (w.alloc o).drewN n := rfl
/-- Whatever lay in the world is as it was; new blocks may lie behind. -/
def Ext (w w' : World) : Prop := Below w.heap.size w w'
theorem Ext.refl (w : World) : Ext w w := Below.refl _ _
theorem Ext.trans {a b c : World} (h : Ext a b) (k : Ext b c) : Ext a c := Below.trans h (Below.mono k h.size)
theorem Ext.alloc {a w : World} (h : Ext a w) (o : Obj) : Ext a (w.alloc o) := Below.alloc h h.size o
theorem Ext.drew {a w : World} (h : Ext a w) : Ext a w.drew := Below.drew h
theorem Ext.drewN {a w : World} (h : Ext a w) (n : Nat) : Ext a (w.drewN n) := below_drewN h n
theorem Ext.size {a w : World} (h : Ext a w) : a.heap.size ≤ w.heap.size := Below.size h
theorem Ext.setCell {a w : World} (h : Ext a w) {p : Addr} (hp : a.heap.size ≤ p.block) (u : Value) : Ext a (w.setCell p u) := Below.setCell h hp u
theorem Ext.st {a w : World} {b i : Nat} {v : Value} (hp : a.heap.size ≤ b) (h : Ext a w) : Ext a (w.setCell ⟨b, i, none⟩ v) := Ext.setCell h (p := ⟨b, i, none⟩) hp v
theorem Ext.cells {W w1 : World} (hb : Ext W w1) : (∀ b o, b < W.heap.size → w1.cell? ⟨b, o, none⟩ = W.cell? ⟨b, o, none⟩) ∧ (∀ b o, b < W.heap.size → w1.frozen? ⟨b, o, none⟩ = W.frozen? ⟨b, o, none⟩) :=
  ⟨fun b o h => Below.cell hb (p := ⟨b, o, none⟩) h, fun b o h => Below.frozen hb (p := ⟨b, o, none⟩) h⟩
theorem later {w wx : World} {a : Addr} {v : Value} (hb : Ext w wx) (h : w.cell? a = some v) : wx.cell? a = some v := cell_later hb h
theorem get_some {l : List Value} {i : Nat} {v : Value} (h : l[i]? = some v) : l[i]'(List.getElem?_eq_some_iff.1 h).1 = v := (List.getElem?_eq_some_iff.1 h).2
def SizeLe (w : World) (b : Nat) : Prop := w.heap.size ≤ b
theorem ext_grown {a w w' : World} {row : Option Nat} (h : Ext a w) (hg : w.grownBy w' row) (hrow : ∀ k, row = some k → a.heap.size ≤ k) : Ext a w' :=
  Below.trans h ⟨hg.os, hg.tape, hg.output, hg.size, fun k hk => hg.block k (Nat.lt_of_lt_of_le hk h.size) (fun e => by have := hrow k e.symm; omega)⟩
theorem own_ext {w w' : World} {base : Nat} {e : TypeId} {s : Nat} {v : Value} {n : Nat} {xs : List Value} (h : w.ownsRow base e s v n xs) (hx : Ext w w') : w'.ownsRow base e s v n xs := by
  refine ⟨h.1, ?_⟩
  rcases h.2 with hn | ⟨g, cap, cur, rfl, hb, hgg, rest⟩
  · exact .inl hn
  · exact .inr ⟨g, cap, cur, rfl, hb, (Below.block hx g (Array.getElem?_eq_some_iff.1 hgg).1).trans hgg, rest⟩
theorem own_base {w : World} {base b2 : Nat} {e : TypeId} {s : Nat} {v : Value} {n : Nat} {xs : List Value} (h : w.ownsRow base e s v n xs) (hb : b2 ≤ base) : w.ownsRow b2 e s v n xs := by
  refine ⟨h.1, ?_⟩
  rcases h.2 with hn | ⟨g, cap, cur, rfl, hbg, rest⟩
  · exact .inl hn
  · exact .inr ⟨g, cap, cur, rfl, Nat.le_trans hb hbg, rest⟩
/-- A slice that is read: nil, or its cells lie there. -/
def SlIs (w : World) (v : Value) (xs : List Value) : Prop := (v = .slice none 0 0 ∧ xs = []) ∨ ∃ b o cap : Nat, v = .slice (some ⟨b, o, none⟩) xs.length cap ∧ b < w.heap.size ∧ xs.length ≤ maxLen ∧ ∀ j x, xs[j]? = some x → w.cell? ⟨b, o + j, none⟩ = some x
theorem SlIs.ext {w w' : World} {v : Value} {xs : List Value} (h : SlIs w v xs) (hx : Ext w w') : SlIs w' v xs := by
  rcases h with h | ⟨b, o, cap, h1, h2, h3, h4⟩
  · exact .inl h
  · exact .inr ⟨b, o, cap, h1, Nat.lt_of_lt_of_le h2 hx.size, h3, fun j x hj => later hx (h4 j x hj)⟩
theorem own_read {w : World} {base : Nat} {e : TypeId} {v : Value} {n : Nat} {xs : List Value} (h : w.ownsRow base e 1 v n xs) : SlIs w v xs := by
  have hl : xs.length = n := by have := h.1; omega
  rcases h.2 with ⟨rfl, rfl⟩ | ⟨g, cap, cur, rfl, hb, hgg, hnc, hm, hs, ht⟩
  · exact .inl ⟨rfl, List.eq_nil_of_length_eq_zero hl⟩
  · refine .inr ⟨g, 0, cap, by rw [hl], (Array.getElem?_eq_some_iff.1 hgg).1, by omega, fun j x hj => ?_⟩
    have hc := h.cells (g := g) rfl j x hj
    have hadd : (⟨g, 0, none⟩ : Addr).add j = ⟨g, 0 + j, none⟩ := by unfold Addr.add; split <;> simp_all
    rwa [hadd] at hc
theorem own_form {w : World} {base : Nat} {e : TypeId} {v : Value} {n : Nat} {xs : List Value} (h : w.ownsRow base e 1 v n xs) : ∃ p c, v = .slice p n c ∧ ∀ j x, xs[j]? = some x → ∃ g, p = some ⟨g, 0, none⟩ ∧ w.cell? ⟨g, j, none⟩ = some x := by
  have hl : xs.length = n := by have := h.1; omega
  rcases h.2 with ⟨rfl, rfl⟩ | ⟨g, cap, cur, rfl, hb, hgg, hnc, hm, hs, ht⟩
  · have : xs = [] := List.eq_nil_of_length_eq_zero hl
    subst this
    exact ⟨none, 0, rfl, fun j x hj => by simp at hj⟩
  · refine ⟨_, cap, rfl, fun j x hj => ⟨g, rfl, ?_⟩⟩
    have hc := h.cells (g := g) rfl j x hj
    have hadd : (⟨g, 0, none⟩ : Addr).add j = ⟨g, j, none⟩ := by unfold Addr.add; split <;> simp_all
    rwa [hadd] at hc
theorem own_at {w : World} {base : Nat} {e : TypeId} {v : Value} {n : Nat} {xs : List Value} (h : w.ownsRow base e 1 v n xs) : ∀ k, v.ownBlock = some k → base ≤ k := fun k hk => (h.lt k hk).1
end Go.Proofs.YtbcgipapbamgfaaDoor
namespace Go.Proofs.YtbcgipapbamgfaaDoor
/-- Turned right, 32 bits. -/
def rotr (x n : Nat) : Nat := x / 2 ^ n ||| (x * 2 ^ (32 - n)) % 4294967296
def bs0 (x : Nat) : Nat := rotr x 2 ^^^ rotr x 13 ^^^ rotr x 22
def bs1 (x : Nat) : Nat := rotr x 6 ^^^ rotr x 11 ^^^ rotr x 25
def ss0 (x : Nat) : Nat := rotr x 7 ^^^ rotr x 18 ^^^ x / 8
def ss1 (x : Nat) : Nat := rotr x 17 ^^^ rotr x 19 ^^^ x / 1024
def chf (e f g : Nat) : Nat := (e &&& f) ^^^ ((e ^^^ 4294967295) &&& g)
def majf (a b c : Nat) : Nat := (a &&& b) ^^^ (a &&& c) ^^^ (b &&& c)
/-- The next word of a block. -/
def wnext (l : List Nat) (t : Nat) : Nat := (ss1 (l.getD (t - 2) 0) + l.getD (t - 7) 0 + ss0 (l.getD (t - 15) 0) + l.getD (t - 16) 0) % 4294967296
/-- The first t words of a block whose first sixteen are B. -/
def wl (B : Nat → Nat) : Nat → List Nat
  | 0 => []
  | t + 1 => wl B t ++ [if t < 16 then B t else wnext (wl B t) t]
/-- One round on eight words. -/
def rstep (v : List Nat) (k w : Nat) : List Nat :=
  match v with
  | [a, b, c, d, e, f, g, h] => [(h + bs1 e + chf e f g + k + w + (bs0 a + majf a b c)) % 4294967296, a, b, c, (d + (h + bs1 e + chf e f g + k + w)) % 4294967296, e, f, g]
  | _ => []
/-- Eight words behind t rounds. -/
def rd (K W : List Nat) (v : List Nat) : Nat → List Nat
  | 0 => v
  | t + 1 => rstep (rd K W v t) (K.getD t 0) (W.getD t 0)
/-- What a block makes of eight words. -/
def blockF (K : List Nat) (B : Nat → Nat) (h : List Nat) : List Nat := List.zipWith (fun x y => (x + y) % 4294967296) h (rd K (wl B 64) h 64)
/-- The round numbers. -/
def KK : List Nat := [1116352408, 1899447441, 3049323471, 3921009573, 961987163, 1508970993, 2453635748, 2870763221, 3624381080, 310598401, 607225278, 1426881987, 1925078388, 2162078206, 2614888103, 3248222580, 3835390401, 4022224774, 264347078, 604807628, 770255983, 1249150122, 1555081692, 1996064986, 2554220882, 2821834349, 2952996808, 3210313671, 3336571891, 3584528711, 113926993, 338241895, 666307205, 773529912, 1294757372, 1396182291, 1695183700, 1986661051, 2177026350, 2456956037, 2730485921, 2820302411, 3259730800, 3345764771, 3516065817, 3600352804, 4094571909, 275423344, 430227734, 506948616, 659060556, 883997877, 958139571, 1322822218, 1537002063, 1747873779, 1955562222, 2024104815, 2227730452, 2361852424, 2428436474, 2756734187, 3204031479, 3329325298]
/-- What a text begins with. -/
def HH : List Nat := [1779033703, 3144134277, 1013904242, 2773480762, 1359893119, 2600822924, 528734635, 1541459225]
/-- A word of four bytes, the highest first. -/
def word4 (b : Nat → Nat) (o : Nat) : Nat := b o * 16777216 + b (o + 1) * 65536 + b (o + 2) * 256 + b (o + 3)
/-- How many bytes of 0 stand behind the bit 1. -/
def padN (n : Nat) : Nat := (119 - n % 64) % 64
/-- How many blocks. -/
def nblk (n : Nat) : Nat := (n + 8) / 64 + 1
/-- Byte i of the padded text of n bytes s. -/
def padB (s : Nat → Nat) (n : Nat) (i : Nat) : Nat := if i < n then s i else if i = n then 128 else if i < 64 * nblk n - 8 then 0 else n * 8 / 256 ^ (64 * nblk n - 1 - i) % 256
/-- Eight words behind k blocks. -/
def hashF (s : Nat → Nat) (n : Nat) : Nat → List Nat
  | 0 => HH
  | k + 1 => blockF KK (fun t => word4 (padB s n) (64 * k + 4 * t)) (hashF s n k)
/-- Byte i of the sum. -/
def shaB (s : Nat → Nat) (n : Nat) (i : Nat) : Nat := (hashF s n (nblk n)).getD (i / 4) 0 / 256 ^ (3 - i % 4) % 256
def tb (l : List Nat) (i : Nat) : Nat := l.getD i 0
set_option maxRecDepth 100000 in
theorem abc_ok : hashF (tb [97, 98, 99]) 3 1 = [0xba7816bf, 0x8f01cfea, 0x414140de, 0x5dae2223, 0xb00361a3, 0x96177a9c, 0xb410ff61, 0xf20015ad] := by decide +kernel
set_option maxRecDepth 100000 in
theorem nil_ok : (hashF (tb []) 0 1).getD 0 0 = 0xe3b0c442 := by decide +kernel
end Go.Proofs.YtbcgipapbamgfaaDoor
namespace Go.Proofs.YtbcgipapbamgfaaDoor
/-- 2^32. -/
def BW : Nat := 4294967296
/-- The number of n words, the lowest first. -/
def nvf (P : Nat → Nat) : Nat → Nat
  | 0 => 0
  | n + 1 => nvf P n + P n * BW ^ n
def put (P : Nat → Nat) (i v : Nat) : Nat → Nat := fun k => if k = i then v else P k
theorem put_same (P : Nat → Nat) (i v : Nat) : put P i v i = v := if_pos rfl
theorem put_other (P : Nat → Nat) {i k : Nat} (v : Nat) (h : k ≠ i) : put P i v k = P k := if_neg h
theorem nvf_congr {P Q : Nat → Nat} {n : Nat} (h : ∀ k, k < n → P k = Q k) : nvf P n = nvf Q n := by
  induction n with
  | zero => rfl
  | succ n ih => unfold nvf; rw [ih (fun k hk => h k (by omega)), h n (by omega)]
theorem nvf_put (P : Nat → Nat) (i v n : Nat) (h : i < n) : nvf (put P i v) n + P i * BW ^ i = nvf P n + v * BW ^ i := by
  induction n with
  | zero => omega
  | succ n ih =>
    unfold nvf
    by_cases e : i = n
    · subst e
      rw [put_same, nvf_congr (P := put P i v) (Q := P) (fun k hk => put_other P v (by omega))]
      omega
    · have := ih (by omega)
      rw [put_other P v (show n ≠ i by omega)]
      omega
/-- What the inner loop keeps. -/
def MIn (A B P0 P : Nat → Nat) (n i j c : Nat) : Prop := nvf P n + c * BW ^ (i + j) = nvf P0 n + A i * nvf B j * BW ^ i ∧ (∀ k, P k < BW) ∧ c < BW ∧ ∀ k, i + j ≤ k → P k = P0 k
theorem MIn.start {A B P0 : Nat → Nat} {n i : Nat} (h : ∀ k, P0 k < BW) : MIn A B P0 P0 n i 0 0 := ⟨by simp [nvf], h, by decide, fun _ _ => rfl⟩
theorem prod_lt {x y p c : Nat} (hx : x < BW) (hy : y < BW) (hp : p < BW) (hc : c < BW) : p + x * y + c < 18446744073709551616 ∧ (p + x * y + c) / BW < BW := by
  have h1 : x * y ≤ 4294967295 * 4294967295 := Nat.mul_le_mul (by unfold BW at hx; omega) (by unfold BW at hy; omega)
  unfold BW at *
  omega
theorem MIn.step {A B P0 P : Nat → Nat} {n i j c : Nat} (h : MIn A B P0 P n i j c) (hij : i + j < n) (hA : A i < BW) (hB : B j < BW) :
    MIn A B P0 (put P (i + j) ((P (i + j) + A i * B j + c) % BW)) n i (j + 1) ((P (i + j) + A i * B j + c) / BW) := by
  obtain ⟨h1, h2, h3, h4⟩ := h
  have hb := prod_lt hA hB (h2 (i + j)) h3
  refine ⟨?_, fun k => ?_, hb.2, fun k hk => ?_⟩
  · have e1 := nvf_put P (i + j) ((P (i + j) + A i * B j + c) % BW) n hij
    have e2 := Nat.div_add_mod (P (i + j) + A i * B j + c) BW
    generalize (P (i + j) + A i * B j + c) / BW = q at *
    generalize (P (i + j) + A i * B j + c) % BW = r at *
    rw [show i + (j + 1) = (i + j) + 1 from by omega, Nat.pow_succ, show nvf B (j + 1) = nvf B j + B j * BW ^ j from rfl]
    have e3 : (BW * q + r) * BW ^ (i + j) = (P (i + j) + A i * B j + c) * BW ^ (i + j) := by rw [e2]
    have e4 : A i * (nvf B j + B j * BW ^ j) * BW ^ i = A i * nvf B j * BW ^ i + A i * B j * BW ^ (i + j) := by
      rw [Nat.mul_add, Nat.add_mul, Nat.pow_add]
      congr 1
      rw [← Nat.mul_assoc, Nat.mul_assoc (A i * B j), Nat.mul_comm (BW ^ j)]
    rw [e4]
    rw [Nat.add_mul, Nat.add_mul, Nat.add_mul] at e3
    have e5 : q * (BW ^ (i + j) * BW) = BW * q * BW ^ (i + j) := by
      rw [Nat.mul_comm (BW ^ (i + j)) BW, ← Nat.mul_assoc, Nat.mul_comm q BW]
    rw [e5]
    omega
  · by_cases e : k = i + j
    · subst e; rw [put_same]; exact Nat.mod_lt _ (by decide)
    · rw [put_other _ _ e]; exact h2 k
  · rw [put_other _ _ (by omega)]
    exact h4 k (by omega)
/-- What the outer loop keeps. -/
def MOut (A B P : Nat → Nat) (n lb i : Nat) : Prop := nvf P n = nvf A i * nvf B lb ∧ (∀ k, P k < BW) ∧ ∀ k, i + lb ≤ k → P k = 0
theorem MOut.start {A B : Nat → Nat} {n lb : Nat} : MOut A B (fun _ => 0) n lb 0 := by
  refine ⟨?_, fun _ => (by decide : 0 < BW), fun _ _ => rfl⟩
  have : ∀ n, nvf (fun _ => 0) n = 0 := fun n => by induction n with
    | zero => rfl
    | succ n ih => unfold nvf; rw [ih]; omega
  rw [this]; simp [nvf]
theorem MOut.step {A B P0 P : Nat → Nat} {n lb i c : Nat} (h : MOut A B P0 n lb i) (k : MIn A B P0 P n i lb c) (hi : i + lb < n) : MOut A B (put P (i + lb) c) n lb (i + 1) := by
  obtain ⟨h1, h2, h3⟩ := h
  obtain ⟨k1, k2, k3, k4⟩ := k
  have hz : P (i + lb) = 0 := by rw [k4 _ (by omega), h3 _ (by omega)]
  refine ⟨?_, fun t => ?_, fun t ht => ?_⟩
  · have e1 := nvf_put P (i + lb) c n hi
    rw [hz] at e1
    rw [show nvf A (i + 1) = nvf A i + A i * BW ^ i from rfl, Nat.add_mul, ← h1]
    have : A i * BW ^ i * nvf B lb = A i * nvf B lb * BW ^ i := by rw [Nat.mul_assoc, Nat.mul_comm (BW ^ i), ← Nat.mul_assoc]
    omega
  · by_cases e : t = i + lb
    · subst e; rw [put_same]; exact k3
    · rw [put_other _ _ e]; exact k2 t
  · rw [put_other _ _ (by omega), k4 _ (by omega), h3 _ (by omega)]
end Go.Proofs.YtbcgipapbamgfaaDoor
namespace Go.Proofs.YtbcgipapbamgfaaDoor
open Go.RowKit
/-- n numbers in block b, which may be written. -/
def TabN (w : World) (b : Nat) (kd : IntKind) (n : Nat) (T : Nat → Nat) : Prop := b < w.heap.size ∧ ∀ k, k < n → w.cell? ⟨b, k, none⟩ = some (.int kd (T k : Int)) ∧ w.frozen? ⟨b, k, none⟩ = false
theorem TabN.ext {w w' : World} {b n : Nat} {kd : IntKind} {T : Nat → Nat} (h : TabN w b kd n T) (hx : Ext w w') : TabN w' b kd n T :=
  ⟨Nat.lt_of_lt_of_le h.1 hx.size, fun k hk => ⟨later hx (h.2 k hk).1, (hx.cells.2 b k h.1).trans (h.2 k hk).2⟩⟩
theorem TabN.set {w : World} {b n : Nat} {kd : IntKind} {T : Nat → Nat} (h : TabN w b kd n T) (o v : Nat) : TabN (w.setCell ⟨b, o, none⟩ (.int kd (v : Int))) b kd n (put T o v) := by
  refine ⟨by simpa using h.1, fun k hk => ⟨?_, by simpa using (h.2 k hk).2⟩⟩
  by_cases e : k = o
  · subst e
    rw [put_same]
    exact World.cell?_setCell_same' _ _ _ (by rw [(h.2 k hk).1]; rfl)
  · rw [put_other _ _ e, World.cell?_setCell_other _ _ _ _ (fun q => e (by injection q with _ q _; exact q.symm))]
    exact (h.2 k hk).1
theorem TabN.other {w : World} {b c i n : Nat} {kd : IntKind} {T : Nat → Nat} {v : Value} (hne : c ≠ b) (h : TabN w c kd n T) : TabN (w.setCell ⟨b, i, none⟩ v) c kd n T :=
  ⟨by simpa using h.1, fun k hk => ⟨by rw [World.cell?_setCell_far _ _ _ _ (fun q => hne q.symm)]; exact (h.2 k hk).1, by simpa using (h.2 k hk).2⟩⟩
theorem TabN.new (w : World) (kd : IntKind) (n : Nat) (t : TypeId) : TabN (w.alloc (.cells (Array.replicate n (.int kd 0)) t)) w.heap.size kd n (fun _ => 0) :=
  ⟨by simp, fun k hk => ⟨by rw [World.cell?_alloc_at _ _ _ _ rfl]; simp [hk], World.frozen?_alloc_at _ _ _ _ rfl⟩⟩
/-- The first n numbers, as a list of cells. -/
def lst (kd : IntKind) (T : Nat → Nat) (n : Nat) : List Value := (List.range n).map fun (i : Nat) => Value.int kd (T i : Int)
theorem lst_len (kd : IntKind) (T : Nat → Nat) (n : Nat) : (lst kd T n).length = n := by simp [lst]
theorem lst_get {kd : IntKind} {T : Nat → Nat} {n i : Nat} (h : i < n) : (lst kd T n)[i]? = some (.int kd (T i : Int)) := by
  unfold lst
  rw [List.getElem?_map, List.getElem?_range h]
  rfl
theorem lst_of {kd : IntKind} {T : Nat → Nat} {n i : Nat} {x : Value} (h : (lst kd T n)[i]? = some x) : i < n ∧ x = .int kd (T i : Int) := by
  have hi : i < n := by
    have := (List.getElem?_eq_some_iff.1 h).1
    rwa [lst_len] at this
  rw [lst_get hi] at h
  exact ⟨hi, (Option.some.inj h).symm⟩
theorem lst_succ (kd : IntKind) (T : Nat → Nat) (n : Nat) : lst kd T (n + 1) = lst kd T n ++ [.int kd (T n : Int)] := by simp [lst, List.range_succ]
theorem lst_congr {kd : IntKind} {T S : Nat → Nat} {n : Nat} (h : ∀ k, k < n → T k = S k) : lst kd T n = lst kd S n := by
  unfold lst
  refine List.map_congr_left fun i hi => ?_
  rw [h i (List.mem_range.1 hi)]
theorem TabN.slice {w : World} {b n c : Nat} {kd : IntKind} {T : Nat → Nat} (h : TabN w b kd n T) (hn : n ≤ maxLen) : SlIs w (.slice (some ⟨b, 0, none⟩) n c) (lst kd T n) :=
  .inr ⟨b, 0, c, by rw [lst_len], h.1, by rw [lst_len]; exact hn, fun j x hj => by obtain ⟨hk, rfl⟩ := lst_of hj; rw [Nat.zero_add]; exact (h.2 j hk).1⟩
/-- A slice that is read, its first cell's place given. -/
theorem SlIs.form {w : World} {v : Value} {kd : IntKind} {T : Nat → Nat} {n : Nat} (h : SlIs w v (lst kd T n)) (hn : 0 < n) : ∃ b o c, v = .slice (some ⟨b, o, none⟩) n c ∧ b < w.heap.size ∧ ∀ j, j < n → w.cell? ⟨b, o + j, none⟩ = some (.int kd (T j : Int)) := by
  rcases h with ⟨_, h⟩ | ⟨b, o, c, h1, h2, _, h4⟩
  · have := lst_len kd T n
    rw [h] at this
    simp at this
    omega
  · rw [lst_len] at h1
    exact ⟨b, o, c, h1, h2, fun j hj => h4 j _ (lst_get hj)⟩
theorem own_tab {w : World} {base g n c : Nat} {e : TypeId} {kd : IntKind} {T : Nat → Nat} (h : w.ownsRow base e 1 (.slice (some ⟨g, 0, none⟩) n c) n (lst kd T n)) : TabN w g kd n T := by
  have hc := h.cells (g := g) rfl
  rcases h.2 with ⟨h0, _⟩ | ⟨g', cap, cur, hv, hb, hgg, rest⟩
  · cases h0
  · injection hv with hv _ _
    injection hv with hv
    injection hv with hv _ _
    subst hv
    refine ⟨(Array.getElem?_eq_some_iff.1 hgg).1, fun k hk => ⟨?_, by simp [World.frozen?, hgg]⟩⟩
    have := hc k _ (lst_get hk)
    have hadd : (⟨g, 0, none⟩ : Addr).add k = ⟨g, k, none⟩ := by unfold Addr.add; split <;> simp_all
    rwa [hadd] at this
theorem made_lst (kd : IntKind) (n : Nat) : (madeCells (Value.int kd 0).cells (n * 1)).toList = lst kd (fun _ => 0) n := by
  unfold madeCells lst
  rw [Nat.mul_one]
  simp [Value.cells, Nat.mod_one]
theorem made_lst' (kd : IntKind) (n : Nat) : (madeCells #[Value.int kd 0] n).toList = lst kd (fun _ => 0) n := by
  have h := made_lst kd n
  rw [Nat.mul_one] at h
  exact h
theorem and32 (t : Nat) (h : t < 18446744073709551616) : bits BinOp.and IntKind.u64 (t : Int) 4294967295 = ((t % BW : Nat) : Int) := by
  have := u64_and_nat t 4294967295 h (by decide)
  rw [show ((4294967295 : Nat) : Int) = 4294967295 from rfl, show (4294967295 : Nat) = 2 ^ 32 - 1 from by decide, Nat.and_two_pow_sub_one_eq_mod] at this
  exact this
end Go.Proofs.YtbcgipapbamgfaaDoor
namespace Go.Proofs.YtbcgipapbamgfaaDoor
open Go.RowKit
/-- Block b is n numbers, and may be written. -/
def RowH (w : World) (b : Nat) (ty : TypeId) (kd : IntKind) (n : Nat) (T : Nat → Nat) : Prop := w.heap[b]? = some (.cells (lst kd T n).toArray ty (0, 0))
theorem RowH.lt {w : World} {b n : Nat} {ty : TypeId} {kd : IntKind} {T : Nat → Nat} (h : RowH w b ty kd n T) : b < w.heap.size := (Array.getElem?_eq_some_iff.1 h).1
theorem RowH.ext {w w' : World} {b n : Nat} {ty : TypeId} {kd : IntKind} {T : Nat → Nat} (h : RowH w b ty kd n T) (hx : Ext w w') : RowH w' b ty kd n T := (Below.block hx b h.lt).trans h
theorem RowH.tab {w : World} {b n : Nat} {ty : TypeId} {kd : IntKind} {T : Nat → Nat} (h : RowH w b ty kd n T) : TabN w b kd n T := by
  refine ⟨h.lt, fun k hk => ⟨?_, ?_⟩⟩
  · have h2 : w.heap[b]? = some (.cells (lst kd T n).toArray ty (0, 0)) := h
    rw [cell_of_row w b k _ _ _ h2]
    simpa using lst_get hk
  · have h2 : w.heap[b]? = some (.cells (lst kd T n).toArray ty (0, 0)) := h
    simp [World.frozen?, h2]
theorem lst_put (kd : IntKind) (T : Nat → Nat) (n o v : Nat) : (lst kd T n).set o (.int kd (v : Int)) = lst kd (put T o v) n := by
  apply List.ext_getElem?
  intro k
  rw [List.getElem?_set]
  by_cases hk : k < n
  · rw [lst_get hk, lst_get hk]
    by_cases e : o = k
    · subst e
      rw [if_pos rfl, if_pos (by rw [lst_len]; exact hk), put_same]
    · rw [if_neg e, put_other _ _ (fun q => e q.symm)]
  · rw [List.getElem?_eq_none (by rw [lst_len]; omega), List.getElem?_eq_none (by rw [lst_len]; omega)]
    split
    · rw [if_neg (by rw [lst_len]; omega)]
    · rfl
theorem RowH.set {w : World} {b n : Nat} {ty : TypeId} {kd : IntKind} {T : Nat → Nat} (h : RowH w b ty kd n T) (o v : Nat) : RowH (w.setCell ⟨b, o, none⟩ (.int kd (v : Int))) b ty kd n (put T o v) := by
  have h2 : w.heap[b]? = some (.cells (lst kd T n).toArray ty (0, 0)) := h
  unfold RowH
  rw [setCell_eq_setRow w b o _ ty (0, 0) _ h2, setRow_heap w b _ _ ty _ h2]
  congr 2
  rw [← lst_put]
  simp
theorem RowH.other {w : World} {b c i n : Nat} {ty : TypeId} {kd : IntKind} {T : Nat → Nat} {v : Value} (hne : c ≠ b) (h : RowH w c ty kd n T) (hb : ∃ cs t fr, w.heap[b]? = some (.cells cs t fr)) : RowH (w.setCell ⟨b, i, none⟩ v) c ty kd n T := by
  obtain ⟨cs, t, fr, hb⟩ := hb
  unfold RowH
  rw [setCell_eq_setRow w b i cs t fr v hb, setRow_other w b c _ hne]
  exact h
theorem RowH.new (w : World) (kd : IntKind) (n : Nat) (t : TypeId) : RowH (w.alloc (.cells (Array.replicate n (.int kd 0)) t)) w.heap.size t kd n (fun _ => 0) := by
  unfold RowH
  rw [heap_alloc_new]
  congr 2
  apply Array.ext'
  apply List.ext_getElem?
  intro k
  by_cases hk : k < n
  · simp [lst_get hk, hk]
  · rw [List.getElem?_eq_none (by simp; omega), List.getElem?_eq_none (by simp [lst_len]; omega)]
theorem RowH.load {P : Program} {w : World} {b n : Nat} {ty : TypeId} {kd : IntKind} {T : Nat → Nat} {e : TypeId} {m : Nat} (h : RowH w b ty kd n T) (t : TypeId) (hu : P.underlying t = some (.array m e)) (hi : (P.info? t).map (·.size) = some n) :
    (loadVar t ⟨b, 0, none⟩).run P w = .ok (.agg (lst kd T n).toArray) w :=
  run_loadVar_row w b ty t _ _ _ h hu rfl (by rw [hi]; simp [lst_len])
theorem lst_one (kd : IntKind) (T : Nat → Nat) (n : Nat) : (lst kd T n).toArray.all (·.oneCell') = true := by
  rw [Array.all_eq_true_iff_forall_mem]
  intro v hv
  simp [lst] at hv
  obtain ⟨i, _, rfl⟩ := hv
  rfl
theorem RowH.store {P : Program} {w : World} {b n : Nat} {ty : TypeId} {kd : IntKind} {T : Nat → Nat} (h : RowH w b ty kd n T) (t : TypeId) (S : Nat → Nat) (hi : (P.info? t).map (·.size) = some n) :
    (storeVar t ⟨b, 0, none⟩ (.agg (lst kd S n).toArray)).run P w = .ok () (w.setRow b (lst kd S n).toArray) :=
  run_storeVar_row w b ty t _ _ h (by rw [hi]; simp [lst_len]) (by simp [lst_len]) (lst_one kd S n)
theorem RowH.row {w : World} {b n : Nat} {ty : TypeId} {kd : IntKind} {T : Nat → Nat} (h : RowH w b ty kd n T) (S : Nat → Nat) : RowH (w.setRow b (lst kd S n).toArray) b ty kd n S := setRow_heap w b _ _ ty _ h
theorem Ext.row {a w : World} (h : Ext a w) {b : Nat} (hb : a.heap.size ≤ b) (cs : Array Value) : Ext a (w.setRow b cs) :=
  Below.trans h ⟨rfl, rfl, rfl, by simp [World.setRow], fun k hk => setRow_other w b k cs (by omega)⟩
end Go.Proofs.YtbcgipapbamgfaaDoor
