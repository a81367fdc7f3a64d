/-
  A generator by its definition (chapter 29): its key, its value, how many bytes were told; no function of the program is named here.
-/
import Derived.Test.YtpfeakdpckmcgaaDoorPads
import Derived.Test.YtpfeakdpckmcgaaDoorLows
namespace Go.Proofs.YtpfeakdpckmcgaaDoor
open Go.RowKit
theorem mac_size (key s : ByteArray) : (macS key s).size = 32 := shaS_size _
def e0S : ByteArray := ⟨#[]⟩
def b0S : ByteArray := ⟨#[0]⟩
def b1S : ByteArray := ⟨#[1]⟩
/-- 32 bytes of one kind. -/
def agS (b : Nat) : ByteArray := mkS (fun _ => b) 32
/-- The key and the value behind the first half of an update, and behind the whole. -/
def k1 (K V s : ByteArray) : ByteArray := macS K (V ++ b0S ++ s)
def v1 (K V s : ByteArray) : ByteArray := macS (k1 K V s) V
def k2 (K V s : ByteArray) : ByteArray := macS (k1 K V s) (v1 K V s ++ b1S ++ s)
def v2 (K V s : ByteArray) : ByteArray := macS (k2 K V s) (v1 K V s)
def upK (K V s : ByteArray) : ByteArray := if s.size = 0 then k1 K V s else k2 K V s
def upV (K V s : ByteArray) : ByteArray := if s.size = 0 then v1 K V s else v2 K V s
theorem k1_size (K V s : ByteArray) : (k1 K V s).size = 32 := mac_size _ _
theorem v1_size (K V s : ByteArray) : (v1 K V s).size = 32 := mac_size _ _
theorem k2_size (K V s : ByteArray) : (k2 K V s).size = 32 := mac_size _ _
theorem v2_size (K V s : ByteArray) : (v2 K V s).size = 32 := mac_size _ _
theorem upK_size (K V s : ByteArray) : (upK K V s).size = 32 := by unfold upK; split; exact mac_size _ _; exact mac_size _ _
theorem upV_size (K V s : ByteArray) : (upV K V s).size = 32 := by unfold upV; split; exact mac_size _ _; exact mac_size _ _
/-- The value, so many steps on; what they tell. -/
def gV (K V : ByteArray) : Nat → ByteArray
  | 0 => V
  | m + 1 => macS K (gV K V m)
def gO (K V : ByteArray) : Nat → ByteArray
  | 0 => e0S
  | m + 1 => gO K V m ++ gV K V (m + 1)
theorem gV_size {K V : ByteArray} (hv : V.size = 32) (m : Nat) : (gV K V m).size = 32 := by
  cases m with
  | zero => exact hv
  | succ m => exact mac_size _ _
theorem gO_size (K V : ByteArray) (m : Nat) : (gO K V m).size = 32 * m := by
  induction m with
  | zero => rfl
  | succ m ih =>
    show (gO K V m ++ macS K (gV K V m)).size = _
    rw [ByteArray.size_append, ih, mac_size]
    omega
/-- So many steps for n bytes. -/
def stp (n : Nat) : Nat := (n + 31) / 32
theorem stp_le {n m : Nat} : n ≤ 32 * m ↔ stp n ≤ m := by unfold stp; omega
def bK (K V : ByteArray) (n : Nat) : ByteArray := upK K (gV K V (stp n)) e0S
def bV (K V : ByteArray) (n : Nat) : ByteArray := upV K (gV K V (stp n)) e0S
def bO (K V : ByteArray) (n : Nat) : ByteArray := (gO K V (stp n)).extract 0 n
theorem bK_size (K V : ByteArray) (n : Nat) : (bK K V n).size = 32 := upK_size _ _ _
theorem bV_size (K V : ByteArray) (n : Nat) : (bV K V n).size = 32 := upV_size _ _ _
theorem bO_size (K V : ByteArray) (n : Nat) : (bO K V n).size = n := by
  unfold bO
  rw [ByteArray.size_extract, gO_size]
  have := (stp_le (n := n) (m := stp n)).2 (Nat.le_refl _)
  omega
/-- The number of 32 bytes. -/
def nm (s : ByteArray) : Int := val (frW (bt s) 0) (frW (bt s) 1) (frW (bt s) 2) (frW (bt s) 3)
theorem nm_lim (s : ByteArray) : Lim4 (frW (bt s) 0) (frW (bt s) 1) (frW (bt s) 2) (frW (bt s) 3) :=
  ⟨frW_lim _ (bt_bd s) 0, frW_lim _ (bt_bd s) 1, frW_lim _ (bt_bd s) 2, frW_lim _ (bt_bd s) 3⟩
/-- Does it go as a scalar? -/
def okN (s : ByteArray) : Bool := decide (nm s < FQ) && !decide (nm s = 0)
/-- A generator: key, value, how many bytes were told. -/
abbrev Gs := ByteArray × ByteArray × Nat
def gB (n : Nat) (x : Gs) : Gs := (bK x.1 x.2.1 n, bV x.1 x.2.1 n, x.2.2 + n)
def gU (s : ByteArray) (x : Gs) : Gs := (upK x.1 x.2.1 s, upV x.1 x.2.1 s, x.2.2)
def gNew (s : ByteArray) : Gs := gU s (agS 0, agS 1, 0)
def gT (n : Nat) (x : Gs) : ByteArray := bO x.1 x.2.1 n
/-- Scalars are looked for up to f times: the generator then, the bytes that go. -/
def sc : Nat → Gs → Gs × Option ByteArray
  | 0, x => (x, none)
  | f + 1, x => if okN (gT 32 x) then (gB 32 x, some (gT 32 x)) else sc f (gB 32 x)
theorem sc_yes {f : Nat} {x : Gs} (h : okN (gT 32 x) = true) : sc (f + 1) x = (gB 32 x, some (gT 32 x)) := if_pos h
theorem sc_no {f : Nat} {x : Gs} (h : okN (gT 32 x) = false) : sc (f + 1) x = sc f (gB 32 x) := if_neg (by rw [h]; decide)
/-- A scalar's words. -/
def scW (o : Option ByteArray) (i : Nat) : Int := match o with
  | some s => frW (bt s) i
  | none => if i = 0 then 1 else 0
def gSf (f : Nat) (x : Gs) : Gs := (sc f x).1
def gRf (f : Nat) (x : Gs) : Option ByteArray := (sc f x).2
def gS (x : Gs) : Gs := gSf 64 x
def gR (x : Gs) : Option ByteArray := gRf 64 x
/-- So many scalars on. -/
def gSs : Nat → Gs → Gs
  | 0, x => x
  | j + 1, x => gS (gSs j x)
/-- Both texts have 32 bytes, and not too many were told. -/
def GOk (x : Gs) (b : Nat) : Prop := x.1.size = 32 ∧ x.2.1.size = 32 ∧ x.2.2 ≤ b
theorem GOk.mono {x : Gs} {b c : Nat} (h : GOk x b) (hc : b ≤ c) : GOk x c := ⟨h.1, h.2.1, Nat.le_trans h.2.2 hc⟩
theorem gB_ok {x : Gs} {b : Nat} (n : Nat) (h : GOk x b) : GOk (gB n x) (b + n) := ⟨bK_size _ _ _, bV_size _ _ _, Nat.add_le_add_right h.2.2 n⟩
theorem gU_ok {x : Gs} {b : Nat} (s : ByteArray) (h : GOk x b) : GOk (gU s x) b := ⟨upK_size _ _ _, upV_size _ _ _, h.2.2⟩
theorem gNew_ok (s : ByteArray) : GOk (gNew s) 0 := gU_ok (x := (agS 0, agS 1, 0)) s ⟨mkS_size _ _, mkS_size _ _, Nat.le_refl 0⟩
theorem sc_ok (f : Nat) : ∀ {x : Gs} {b : Nat}, GOk x b → GOk (sc f x).1 (b + 32 * f) := by
  induction f with
  | zero => exact fun h => h
  | succ f ih =>
    intro x b h
    cases hk : okN (gT 32 x) with
    | true => rw [sc_yes hk]; exact (gB_ok 32 h).mono (by omega)
    | false => rw [sc_no hk]; exact (ih (gB_ok 32 h)).mono (by omega)
theorem gS_ok {x : Gs} {b : Nat} (h : GOk x b) : GOk (gS x) (b + 2048) := by
  have k : ∀ f, GOk (gSf f x) (b + 32 * f) := fun f => sc_ok f h
  have k := k 64
  unfold gS
  generalize gSf 64 x = y at *
  exact k.mono (by omega)
theorem gSs_ok {x : Gs} {b : Nat} (h : GOk x b) (j : Nat) : GOk (gSs j x) (b + 2048 * j) := by
  induction j with
  | zero => exact h
  | succ j ih => exact (gS_ok ih).mono (by omega)
theorem sc_goes (f : Nat) : ∀ x : Gs, ∀ s, (sc f x).2 = some s → okN s = true := by
  induction f with
  | zero => intro x s h; exact absurd h (by simp [sc])
  | succ f ih =>
    intro x s h
    cases hk : okN (gT 32 x) with
    | true => rw [sc_yes hk] at h; exact (congrArg okN (Option.some.inj h)).symm.trans hk
    | false => rw [sc_no hk] at h; exact ih _ s h
def scV (o : Option ByteArray) : Int := val (scW o 0) (scW o 1) (scW o 2) (scW o 3)
theorem scW_lim (o : Option ByteArray) : Lim4 (scW o 0) (scW o 1) (scW o 2) (scW o 3) := by
  cases o with
  | none => exact (by unfold Lim4 Lim; omega : Lim4 1 0 0 0)
  | some s => exact nm_lim s
theorem scV_some (s : ByteArray) : scV (some s) = nm s := by simp only [scV, nm, scW]
/-- A scalar is 1 to q - 1. -/
theorem gRf_goes (f : Nat) (x : Gs) : scV (gRf f x) < FQ ∧ scV (gRf f x) ≠ 0 := by
  cases h : gRf f x with
  | none =>
    have : scV none = 1 := by decide +kernel
    rw [this]
    unfold FQ
    omega
  | some s =>
    have := sc_goes f x s h
    unfold okN at this
    simp only [Bool.and_eq_true, decide_eq_true_eq, Bool.not_eq_true', decide_eq_false_iff_not] at this
    rw [scV_some]
    exact this
theorem gR_goes (x : Gs) : scV (gR x) < FQ ∧ scV (gR x) ≠ 0 := by
  unfold gR
  exact gRf_goes 64 x
/-- Of up to 32 bytes the steps are one. -/
theorem stp_one {n : Nat} (h : 1 ≤ n) (h2 : n ≤ 32) : stp n = 1 := by unfold stp; omega
theorem bK_short (K V : ByteArray) {n m : Nat} (h : stp n = stp m) : bK K V n = bK K V m := by unfold bK; rw [h]
theorem bV_short (K V : ByteArray) {n m : Nat} (h : stp n = stp m) : bV K V n = bV K V m := by unfold bV; rw [h]
theorem ext_ext (s : ByteArray) {n m : Nat} (h : n ≤ m) : s.extract 0 n = (s.extract 0 m).extract 0 n := by
  rw [ByteArray.extract_extract]
  congr 1; omega
theorem bO_short (K V : ByteArray) {n m : Nat} (h : stp n = stp m) (h2 : n ≤ m) : bO K V n = (bO K V m).extract 0 n := by
  unfold bO; rw [h]; exact ext_ext _ h2
theorem gB_short {x : Gs} {n m : Nat} (h : 1 ≤ n) (h2 : n ≤ m) (h3 : m ≤ 32) : (gB n x).1 = (gB m x).1 ∧ (gB n x).2.1 = (gB m x).2.1 ∧ gT n x = (gT m x).extract 0 n :=
  have e : stp n = stp m := (stp_one h (by omega)).trans (stp_one (n := m) (by omega) h3).symm
  ⟨bK_short x.1 x.2.1 e, bV_short x.1 x.2.1 e, bO_short x.1 x.2.1 e h2⟩
end Go.Proofs.YtpfeakdpckmcgaaDoor
