/-
  Slices that are read: cells of a slice by their number. No function of the program is named here.
-/
import Derived.Test.YtpfeakdpckmcgaaDoorLows
import Derived.Test.YtpfeakdpckmcgaaDoorPads
import Derived.Deep.QuietTactic
import Derived.BigQuiet
import Derived.Deep.AppendLies
namespace Go.Proofs.YtpfeakdpckmcgaaDoor
open Go.RowKit
/-- The slice v of n elements of sz cells each: its cell k holds g k. -/
def Lies (w : World) (v : Value) (n sz : Nat) (g : Nat → Value) : Prop :=
  ∃ (a : Option Addr) (cap : Nat), v = .slice a n cap ∧ (0 < n → ∃ b o, a = some ⟨b, o, none⟩ ∧ b < w.heap.size ∧ ∀ k, k < n * sz → w.cell? ⟨b, o + k, none⟩ = some (g k))
theorem Lies.ext {w w' : World} {v : Value} {n sz : Nat} {g : Nat → Value} (h : Lies w v n sz g) (hx : Ext w w') : Lies w' v n sz g := by
  obtain ⟨a, cap, hv, h⟩ := h
  refine ⟨a, cap, hv, fun hn => ?_⟩
  obtain ⟨b, o, ha, hb, hc⟩ := h hn
  exact ⟨b, o, ha, Nat.lt_of_lt_of_le hb hx.size, fun k hk => later hx (hc k hk)⟩
theorem Lies.congr {w : World} {v : Value} {n sz : Nat} {g g' : Nat → Value} (h : Lies w v n sz g) (e : ∀ k, k < n * sz → g k = g' k) : Lies w v n sz g' := by
  obtain ⟨a, cap, hv, h⟩ := h
  refine ⟨a, cap, hv, fun hn => ?_⟩
  obtain ⟨b, o, ha, hb, hc⟩ := h hn
  exact ⟨b, o, ha, hb, fun k hk => by rw [hc k hk, e k hk]⟩
theorem lies_nil (w : World) (sz : Nat) (g : Nat → Value) : Lies w (.slice none 0 0) 0 sz g := ⟨none, 0, rfl, fun h => absurd h (Nat.lt_irrefl 0)⟩
/-- What a call has built by append is read so. -/
theorem Lies.own {w : World} {base : Nat} {e : TypeId} {sz : Nat} {v : Value} {n : Nat} {xs : List Value} (h : w.ownsRow base e sz v n xs) {g : Nat → Value} (hg : ∀ k, k < n * sz → xs[k]? = some (g k)) : Lies w v n sz g := by
  rcases h.2 with ⟨rfl, rfl⟩ | ⟨b, cap, cur, rfl, _, hb, hn, _, hs, hx⟩
  · exact lies_nil _ _ _
  · refine ⟨_, cap, rfl, fun _ => ⟨b, 0, rfl, ?_, fun k hk => ?_⟩⟩
    · rcases Nat.lt_or_ge b w.heap.size with hlt | hge
      · exact hlt
      · rw [Array.getElem?_eq_none hge] at hb; cases hb
    · have := hg k hk
      rw [← hx, List.getElem?_take_of_lt hk] at this
      simp only [World.cell?, hb, Nat.zero_add]
      simpa using this
theorem Ext.grown {a w w' : World} {base : Nat} {e : TypeId} {sz : Nat} {v : Value} {n : Nat} {xs : List Value} (h : Ext a w) (ho : w.ownsRow base e sz v n xs) (hb : a.heap.size ≤ base) (hg : w.grownBy w' v.ownBlock) : Ext a w' :=
  Below.grown h hg h.size fun k hk => Nat.le_trans hb (ho.lt k hk).1
theorem own_setCell {w : World} {base : Nat} {e : TypeId} {sz : Nat} {v : Value} {n : Nat} {xs : List Value} (h : w.ownsRow base e sz v n xs) {b i : Nat} {u : Value} (hne : v.ownBlock ≠ some b) : (w.setCell ⟨b, i, none⟩ u).ownsRow base e sz v n xs := by
  refine ⟨h.1, ?_⟩
  rcases h.2 with h0 | ⟨g, cap, cur, hv, hb, hg, rest⟩
  · exact .inl h0
  · refine .inr ⟨g, cap, cur, hv, hb, ?_, rest⟩
    rw [Below.heap_setCell w ⟨b, i, none⟩ u g (fun q => hne (by rw [hv]; exact congrArg some q))]
    exact hg
/-- Number i of a slice of numbers, word by word. -/
def nc (f : Nat → Nat → Int) (k : Nat) : Value := .int .u64 (f (k / 4) (k % 4))
theorem nc_at (f : Nat → Nat → Int) (i j : Nat) (h : j < 4) : nc f (i * 4 + j) = .int .u64 (f i j) := by
  unfold nc; rw [show (i * 4 + j) / 4 = i from by omega, show (i * 4 + j) % 4 = j from by omega]
theorem Lies.num {w : World} {a : Option Addr} {n cap : Nat} {f : Nat → Nat → Int} (h : Lies w (.slice a n cap) n 4 (nc f)) {i : Nat} (hi : i < n) :
    ∃ b o, a = some ⟨b, o, none⟩ ∧ b < w.heap.size ∧ w.cell? ⟨b, o + i * 4, none⟩ = some (.int .u64 (f i 0)) ∧ w.cell? ⟨b, o + i * 4 + 1, none⟩ = some (.int .u64 (f i 1)) ∧ w.cell? ⟨b, o + i * 4 + 2, none⟩ = some (.int .u64 (f i 2)) ∧ w.cell? ⟨b, o + i * 4 + 3, none⟩ = some (.int .u64 (f i 3)) := by
  obtain ⟨a', cap', e, h⟩ := h
  cases e
  obtain ⟨b, o, ha, hb, hc⟩ := h (by omega)
  refine ⟨b, o, ha, hb, ?_, ?_, ?_, ?_⟩
  · have := hc (i * 4 + 0) (by omega); rwa [nc_at f i 0 (by omega), ← Nat.add_assoc] at this
  · have := hc (i * 4 + 1) (by omega); rwa [nc_at f i 1 (by omega), ← Nat.add_assoc] at this
  · have := hc (i * 4 + 2) (by omega); rwa [nc_at f i 2 (by omega), ← Nat.add_assoc] at this
  · have := hc (i * 4 + 3) (by omega); rwa [nc_at f i 3 (by omega), ← Nat.add_assoc] at this
/-- The cells of k numbers: word j of number i is F i j. -/
def nmw (F : Nat → Nat → Int) : Nat → List Value
  | 0 => []
  | k + 1 => nmw F k ++ [.int .u64 (F k 0), .int .u64 (F k 1), .int .u64 (F k 2), .int .u64 (F k 3)]
theorem nmw_len (F : Nat → Nat → Int) : ∀ k, (nmw F k).length = k * 4
  | 0 => rfl
  | k + 1 => by unfold nmw; rw [List.length_append, nmw_len F k]; show k * 4 + 4 = _; omega
theorem nmw_at (F : Nat → Nat → Int) : ∀ k j, j < k * 4 → (nmw F k)[j]? = some (nc F j)
  | 0, j, h => by omega
  | k + 1, j, h => by
    unfold nmw
    by_cases e : j < k * 4
    · rw [List.getElem?_append_left (by rw [nmw_len]; exact e)]; exact nmw_at F k j e
    · rw [List.getElem?_append_right (by rw [nmw_len]; omega), nmw_len]
      obtain ⟨d, rfl⟩ : ∃ d, j = k * 4 + d := ⟨j - k * 4, by omega⟩
      have hd : d < 4 := by omega
      rw [nc_at _ _ _ hd, show k * 4 + d - k * 4 = d from by omega]
      have : d = 0 ∨ d = 1 ∨ d = 2 ∨ d = 3 := by omega
      rcases this with rfl | rfl | rfl | rfl <;> rfl
theorem news4n (w : World) {a b c d : Value} {t : TypeId} : ∀ j u, [a, b, c, d][j]? = some u → (w.alloc (.cells #[a, b, c, d] t)).cell? (Addr.add ⟨w.heap.size, 0, none⟩ j) = some u := by
  intro j u h
  match j, h with
  | 0, h => simp at h; subst h; simp [Addr.add]
  | 1, h => simp at h; subst h; simp [Addr.add]
  | 2, h => simp at h; subst h; simp [Addr.add]
  | 3, h => simp at h; subst h; simp [Addr.add]
theorem num_one (a b c d : Int) : ∀ u ∈ [Value.int .u64 a, .int .u64 b, .int .u64 c, .int .u64 d], u.oneCell' = true := by
  intro u h
  simp at h
  rcases h with rfl | rfl | rfl | rfl <;> rfl
theorem Tryd.info39 : (Tryd.prog.info? 39).map (fun i => (i.zero, i.size, i.bytes)) = some (some (.agg #[.int .u64 0, .int .u64 0, .int .u64 0, .int .u64 0]), 4, 32) := by kernel_rfl
attribute [local go_sem] run_eq4
set_option maxHeartbeats 4000000 in
set_option maxRecDepth 10000 in
/-- Two lists that are alike. -/
theorem rnums_any (v u : Value) (n : Nat) (f : Nat → Nat → Int) (hn : n ≤ 1000) (w : World) (hv : Lies w v n 4 (nc f)) (hu : Lies w u n 4 (nc f)) :
    Calls Tryd.prog 17 #[v, u] w fun e w' => e = .returned (.bool true) ∧ Ext w w' := by
  obtain ⟨a, ca, rfl, hv'⟩ := hv
  have HV : Hid (Lies w (.slice a n ca) n 4 (nc f)) := ⟨a, ca, rfl, hv'⟩
  clear hv'
  obtain ⟨c, cc, rfl, hu'⟩ := hu
  have HU : Hid (Lies w (.slice c n cc) n 4 (nc f)) := ⟨c, cc, rfl, hu'⟩
  clear hu'
  have HE0 : Hid (Ext w w) := Ext.refl w
  go_enter Tryd.func17, Tryd.ntmps17
  go_wp2
  go_loopw [5] (fun u5 wr => ∃ i : Nat, i ≤ n ∧ u5 = .int .i64 (i : Int) ∧ Hid (Ext w wr)) (fun u5 _ => n - (intOf u5).toNat)
  case atStart => exact ⟨0, Nat.zero_le _, rfl, HE0⟩
  case round =>
    obtain ⟨i, hi, rfl, HE⟩ := hrel
    clear HE0
    by_cases hlt : i < n
    · have h1 : (i : Int) < (n : Int) := by omega
      have h0 : (0 : Int) ≤ (i : Int) := by omega
      have hw : IntKind.i64.wrap ((i : Int) + 1) = (i : Int) + 1 := by rw [IntKind.wrap_i64]; omega
      obtain ⟨b, o, rfl, hb, x0, x1, x2, x3⟩ := (HV.out.ext HE.out).num hlt
      obtain ⟨b', o', rfl, hb', y0, y1, y2, y3⟩ := (HU.out.ext HE.out).num hlt
      have h5 : eq4 (f i 0) (f i 1) (f i 2) (f i 3) (f i 0) (f i 1) (f i 2) (f i 3) = true := by simp [eq4]
      go_wp2_with fail
      go_quiet (fail)
      go_wp2
      go_roundw
      case rel => exact ⟨i + 1, hlt, by push_cast; rfl, HE.out.drewN _⟩
      case measure => simp [intOf]; omega
    · obtain rfl : i = n := by omega
      go_wp2
      go_ret
      exact ⟨rfl, HE.out⟩
end Go.Proofs.YtpfeakdpckmcgaaDoor
