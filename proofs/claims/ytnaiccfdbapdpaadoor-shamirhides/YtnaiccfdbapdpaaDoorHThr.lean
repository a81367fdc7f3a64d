/-
  The polynomial through shares and a secret (sandglasslaw13.through), called: its coefficients in new memory; nothing old is turned.
-/
import Derived.Test.YtnaiccfdbapdpaaDoorThMath
import Derived.Deep.Upon
namespace Go.Proofs.YtnaiccfdbapdpaaDoor
open Go.RowKit
def slen : Value → Nat
  | .slice _ n _ => n
  | _ => 0
def TS (w : World) (b o : Nat) (x : Int) (g : Nat) (d0 d1 d2 d3 : Int) (wx : World) : Prop := wx.cell? ⟨b, o, none⟩ = some (.int .i64 x) ∧ Row wx g d0 d1 d2 d3 ∧ Ext w wx
theorem TS.ext {w wx wy : World} {b o g : Nat} {x d0 d1 d2 d3 : Int} (h : TS w b o x g d0 d1 d2 d3 wx) (hx : Ext wx wy) : TS w b o x g d0 d1 d2 d3 wy := ⟨later hx h.1, h.2.1.ext hx, h.2.2.trans hx⟩
theorem keepT {W0 wx : World} {g b o : Nat} {x0 x1 x2 x3 y0 y1 y2 y3 : Int} (hb : Ext W0 wx) (h : Row W0 g x0 x1 x2 x3) (k : W0.cell? ⟨b, o + 1, none⟩ = some (.int .u64 y0) ∧ W0.cell? ⟨b, o + 2, none⟩ = some (.int .u64 y1) ∧ W0.cell? ⟨b, o + 3, none⟩ = some (.int .u64 y2) ∧ W0.cell? ⟨b, o + 4, none⟩ = some (.int .u64 y3)) : Ext W0 wx ∧ wx.cell? ⟨g, 0, none⟩ = some (.int .u64 x0) ∧ wx.cell? ⟨g, 1, none⟩ = some (.int .u64 x1) ∧ wx.cell? ⟨g, 2, none⟩ = some (.int .u64 x2) ∧ wx.cell? ⟨g, 3, none⟩ = some (.int .u64 x3) ∧ wx.cell? ⟨b, o + 1, none⟩ = some (.int .u64 y0) ∧ wx.cell? ⟨b, o + 2, none⟩ = some (.int .u64 y1) ∧ wx.cell? ⟨b, o + 3, none⟩ = some (.int .u64 y2) ∧ wx.cell? ⟨b, o + 4, none⟩ = some (.int .u64 y3) :=
  ⟨hb, later hb h.2.1, later hb h.2.2.1, later hb h.2.2.2.1, later hb h.2.2.2.2, later hb k.1, later hb k.2.1, later hb k.2.2.1, later hb k.2.2.2⟩
theorem shs_one (P X : Nat → Int) : ∀ k, ∀ u ∈ shs P X k, u.oneCell' = true
  | 0, u, h => by cases h
  | k + 1, u, h => by
    rcases List.mem_append.1 h with h | h
    · exact shs_one P X k u h
    · exact shc_one _ _ u h
/-- The cells of a list that comes in, to be appended. -/
theorem Lies.news {w : World} {b o n cap : Nat} {P X : Nat → Int} (hn : 0 < n) (h : Lies w (.slice (some ⟨b, o, none⟩) n cap) n 5 (sc P (fun i j => qw (X i) j))) : ∀ j u, (shs P X n)[j]? = some u → w.cell? (Addr.add ⟨b, o, none⟩ j) = some u := by
  intro j u hu
  obtain ⟨a', cap', e, h⟩ := h
  cases e
  obtain ⟨b', o', ha, _, hc⟩ := h hn
  cases ha
  have hj : j < n * 5 := by
    have := (List.getElem?_eq_some_iff.1 hu).1
    rwa [shs_len] at this
  rw [shs_at P X n j hj] at hu
  cases hu
  have := hc j hj
  unfold Addr.add
  by_cases h0 : j = 0
  · subst h0; rw [if_pos rfl]; exact this
  · rw [if_neg h0]; exact this
theorem nml_one {X : Nat → Int} {S : Int} (h : X 0 = S) : nml X 1 = [.int .u64 (qw S 0), .int .u64 (qw S 1), .int .u64 (qw S 2), .int .u64 (qw S 3)] := by subst h; rfl
theorem news4b (w : World) {a b c d : Value} {t : TypeId} {z : Nat} (hz : w.heap.size = z) : ∀ j u, [a, b, c, d][j]? = some u → (w.alloc (.cells #[a, b, c, d] t)).cell? (Addr.add ⟨z, 0, none⟩ j) = some u := by
  subst hz; exact news4 w
theorem Lies.less {w : World} {a : Option Addr} {n m cap sz : Nat} {g : Nat → Value} (h : Lies w (.slice a n cap) n sz g) (hm : m ≤ n) : Lies w (.slice a m cap) m sz g := by
  obtain ⟨a', cap', e, h⟩ := h
  cases e
  refine ⟨_, _, rfl, fun h0 => ?_⟩
  obtain ⟨b, o, ha, hb, hc⟩ := h (by omega)
  exact ⟨b, o, ha, hb, fun k hk => hc k (Nat.lt_of_lt_of_le hk (Nat.mul_le_mul_right _ hm))⟩
theorem own_form {w : World} {base : Nat} {e : TypeId} {sz : Nat} {v : Value} {n : Nat} {xs : List Value} (h : w.ownsRow base e sz v n xs) (hn : 0 < n) : ∃ g cap, v = .slice (some ⟨g, 0, none⟩) n cap ∧ base ≤ g ∧ g < w.heap.size ∧ n ≤ cap ∧ cap ≤ maxLen := by
  obtain ⟨g, cap, hv, hb, hg⟩ := h.form hn
  rcases h.2 with ⟨_, h0⟩ | ⟨g', cap', cur, hv', _, _, h1, h2, _⟩
  · omega
  · rw [hv] at hv'; cases hv'; exact ⟨g, cap, hv, hb, hg, h1, h2⟩
theorem own_build (w : World) {q0 q1 q2 q3 : Value} (base : Nat) (hb : base ≤ w.heap.size) {b : Nat} (hz : w.heap.size = b) : (w.alloc (.cells #[q0, q1, q2, q3] 26)).ownsRow base 26 4 (.slice (some ⟨b, 0, none⟩) 1 1) 1 [q0, q1, q2, q3] := by
  subst hz
  exact ⟨rfl, .inr ⟨w.heap.size, 1, #[q0, q1, q2, q3], rfl, hb, heap_alloc_new w _, Nat.le_refl _, by unfold maxLen; omega, rfl, rfl⟩⟩
set_option maxHeartbeats 16000000 in
set_option maxRecDepth 10000 in
theorem thr_any (v : Value) (n : Nat) (P V : Nat → Int) (S : Int) (hn : n ≤ 8) (ho : OkP P n ∨ n = 0) (w : World) (hL : Lies w v n 5 (sc P (fun i j => qw (V i) j))) :
    Calls Tryd.prog 22 #[v, .agg #[.int .u64 (qw (S) 0), .int .u64 (qw (S) 1), .int .u64 (qw (S) 2), .int .u64 (qw (S) 3)]] w fun e w' => ∃ u, e = .returned u ∧ w'.ownsRow w.heap.size 26 4 u (n + 1) (nml (crd P n S V) (n + 1)) ∧ Ext w w' := by
  obtain ⟨i0, hi0, hz0, hz1, hz2⟩ := info_parts info26
  obtain ⟨i1, hj0, hy0, hy1, hy2⟩ := info_parts info47
  obtain ⟨a, cap, rfl, hL'⟩ := hL
  have HL : Hid (Lies w (.slice a n cap) n 5 (sc P (fun i j => qw (V i) j))) := ⟨a, cap, rfl, hL'⟩
  clear hL'
  obtain ⟨X, hX⟩ : ∃ X, Hid (crd P n S V = X) := ⟨_, rfl⟩
  rw [hX.out]
  have HX0 : Hid (X 0 = S) := by rw [← hX.out]; rfl
  have HB1 : Hid (Ext w (w.alloc (.cells #[.int .u64 (qw (S) 0), .int .u64 (qw (S) 1), .int .u64 (qw (S) 2), .int .u64 (qw (S) 3)] 26))) := (Ext.refl _).alloc _
  have RB := Row.new w (qw S 0) (qw S 1) (qw S 2) (qw S 3)
  go_enter Tryd.func22, Tryd.ntmps22
  by_cases hn0 : n = 0
  · subst hn0
    clear HL
    have HC2 : Hid ((((w.alloc (.cells #[.int .u64 (qw (S) 0), .int .u64 (qw (S) 1), .int .u64 (qw (S) 2), .int .u64 (qw (S) 3)] 26)).alloc (.cells #[.int .u64 (qw (S) 0), .int .u64 (qw (S) 1), .int .u64 (qw (S) 2), .int .u64 (qw (S) 3)] 26)).alloc (.cells #[.int .u64 (qw (S) 0), .int .u64 (qw (S) 1), .int .u64 (qw (S) 2), .int .u64 (qw (S) 3)] 26)).ownsRow w.heap.size 26 4 (.slice (some ⟨w.heap.size + 1, 0, none⟩) 1 1) 1 (nml X 1)) := by
      show World.ownsRow _ _ _ _ _ _ _
      rw [nml_one HX0.out]
      exact (own_build _ _ (by simp) (by simp)).alloc _
    have HE2 : Hid (Ext w (((w.alloc (.cells #[.int .u64 (qw (S) 0), .int .u64 (qw (S) 1), .int .u64 (qw (S) 2), .int .u64 (qw (S) 3)] 26)).alloc (.cells #[.int .u64 (qw (S) 0), .int .u64 (qw (S) 1), .int .u64 (qw (S) 2), .int .u64 (qw (S) 3)] 26)).alloc (.cells #[.int .u64 (qw (S) 0), .int .u64 (qw (S) 1), .int .u64 (qw (S) 2), .int .u64 (qw (S) 3)] 26))) := ((HB1.out.alloc _).alloc _)
    rcases a with _ | ⟨ab, ao, asp⟩
    all_goals
      go_wp2
      generalize ((w.alloc (.cells #[.int .u64 (qw (S) 0), .int .u64 (qw (S) 1), .int .u64 (qw (S) 2), .int .u64 (qw (S) 3)] 26)).alloc (.cells #[.int .u64 (qw (S) 0), .int .u64 (qw (S) 1), .int .u64 (qw (S) 2), .int .u64 (qw (S) 3)] 26)).alloc (.cells #[.int .u64 (qw (S) 0), .int .u64 (qw (S) 1), .int .u64 (qw (S) 2), .int .u64 (qw (S) 3)] 26) = W1 at *
      go_loopw [5, 6] (fun u5 u6 wr => u5 = .slice (some ⟨w.heap.size + 1, 0, none⟩) 1 1 ∧ u6 = .slice none 0 0 ∧ wr = W1) (fun _ _ _ => 0)
      case atStart => exact ⟨rfl, rfl, rfl⟩
      case round =>
        obtain ⟨rfl, rfl, rfl⟩ := hrel
        go_wp2
        go_ret
        exact ⟨_, rfl, HC2.out, HE2.out⟩
  · have hok : OkP P n := ho.resolve_right hn0
    have HOk : Hid (OkP P n) := hok
    clear ho hok
    obtain ⟨b, o, rfl, hb, _⟩ := HL.out.share (i := 0) (by omega)
    clear hb
    have HO2 : Hid ((((w.alloc (.cells #[.int .u64 (qw (S) 0), .int .u64 (qw (S) 1), .int .u64 (qw (S) 2), .int .u64 (qw (S) 3)] 26)).alloc (.cells #[.int .u64 (qw (S) 0), .int .u64 (qw (S) 1), .int .u64 (qw (S) 2), .int .u64 (qw (S) 3)] 26))).ownsRow w.heap.size 26 4 (.slice (some ⟨w.heap.size + 1, 0, none⟩) 1 1) 1 (nml X 1)) := by
      show World.ownsRow _ _ _ _ _ _ _
      rw [nml_one HX0.out]
      exact own_build _ _ (by simp) (by simp)
    have HE2 : Hid (Ext w ((w.alloc (.cells #[.int .u64 (qw (S) 0), .int .u64 (qw (S) 1), .int .u64 (qw (S) 2), .int .u64 (qw (S) 3)] 26)).alloc (.cells #[.int .u64 (qw (S) 0), .int .u64 (qw (S) 1), .int .u64 (qw (S) 2), .int .u64 (qw (S) 3)] 26))) := HB1.out.alloc _
    have RB2 := RB.ext ((Ext.refl _).alloc (.cells #[.int .u64 (qw (S) 0), .int .u64 (qw (S) 1), .int .u64 (qw (S) 2), .int .u64 (qw (S) 3)] 26))
    have hs2 : Hid (((w.alloc (.cells #[.int .u64 (qw (S) 0), .int .u64 (qw (S) 1), .int .u64 (qw (S) 2), .int .u64 (qw (S) 3)] 26)).alloc (.cells #[.int .u64 (qw (S) 0), .int .u64 (qw (S) 1), .int .u64 (qw (S) 2), .int .u64 (qw (S) 3)] 26)).heap.size = w.heap.size + 1 + 1) := by show _ = _; simp
    obtain ⟨lb, k0, k1, k2, k3⟩ := RB
    go_wp2_with (first | (at_builtin; refine wpList_append_lies _ rfl _ _ 29 rfl (w.heap.size + 1 + 1) 47 i1 (.agg #[.int .i64 0, .int .u64 0, .int .u64 0, .int .u64 0, .int .u64 0]) 5 40 Tryd.underlying29 hj0 hy0 hy1 hy2 rfl (by decide) (.slice none 0 0) 0 [] rfl (World.ownsRow_nil _ _ _ _) ⟨b, o, none⟩ n cap (shs P V n) rfl (shs_len P V n) ?c1 (shs_one P V n) (by omega) (by unfold maxLen; omega) (by omega) ?c2 _ rfl ?_))
    case c1 => exact (HL.out.ext HE2.out).news (by omega)
    case c2 => exact Nat.le_of_eq hs2.out.symm
    intro g6 c6 w2 hown hgrow _ _
    have HR2 : Hid (Lies w2 (.slice (some ⟨g6, 0, none⟩) n c6) n 5 (sc P (fun i j => qw ((fsq P n S V 0).2 i) j))) := by
      exact Lies.own hown (shs_at P V n)
    have HC2 : Hid (w2.ownsRow w.heap.size 26 4 (.slice (some ⟨w.heap.size + 1, 0, none⟩) 1 1) 1 (nml X 1)) := HO2.out.kept hgrow (.inr (fun e => by cases e))
    have HE3 : Hid (Ext w w2) := Below.grown HE2.out hgrow HE2.out.size (fun k hk => by cases hk)
    have RB3 : Row w2 w.heap.size (qw S 0) (qw S 1) (qw S 2) (qw S 3) := RB2.grown hgrow (fun e => by cases e)
    have hsz2 : w.heap.size + 1 < w2.heap.size := Nat.lt_of_lt_of_le (by rw [hs2.out]; omega) hgrow.size
    clear hown hgrow HO2 HE2 RB2 hs2 k0 k1 k2 k3 lb HB1 HL
    have Rf3 := RowF.new w2 (qw S 0) (qw S 1) (qw S 2) (qw S 3)
    have HC3 : Hid ((w2.alloc (.cells #[.int .u64 (qw (S) 0), .int .u64 (qw (S) 1), .int .u64 (qw (S) 2), .int .u64 (qw (S) 3)] 26)).ownsRow w.heap.size 26 4 (.slice (some ⟨w.heap.size + 1, 0, none⟩) 1 1) 1 (nml X 1)) := HC2.out.alloc _
    have HR3 : Hid (Lies (w2.alloc (.cells #[.int .u64 (qw (S) 0), .int .u64 (qw (S) 1), .int .u64 (qw (S) 2), .int .u64 (qw (S) 3)] 26)) (.slice (some ⟨g6, 0, none⟩) n c6) n 5 (sc P (fun i j => qw ((fsq P n S V 0).2 i) j))) := HR2.out.ext ((Ext.refl _).alloc _)
    have HE4 : Hid (Ext w (w2.alloc (.cells #[.int .u64 (qw (S) 0), .int .u64 (qw (S) 1), .int .u64 (qw (S) 2), .int .u64 (qw (S) 3)] 26))) := HE3.out.alloc _
    have HBg : SizeLe w w2.heap.size := HE3.out.size
    have HNg : Hid (w2.heap.size ≠ w.heap.size + 1) := by show _ ≠ _; omega
    obtain ⟨lb, k0, k1, k2, k3⟩ := RB3
    go_wp2
    clear k0 k1 k2 k3 lb HC2 HR2 HE3
    generalize w2.alloc (.cells #[.int .u64 (qw (S) 0), .int .u64 (qw (S) 1), .int .u64 (qw (S) 2), .int .u64 (qw (S) 3)] 26) = W3 at *
    obtain ⟨g7, hg7⟩ : ∃ g7, w2.heap.size = g7 := ⟨_, rfl⟩
    rw [hg7] at Rf3 HBg HNg ⊢
    clear hg7 hsz2
    have Rf3 : RowF W3 g7 (qw (X 0) 0) (qw (X 0) 1) (qw (X 0) 2) (qw (X 0) 3) := by rw [HX0.out]; exact Rf3
    have HLs0 : Hid (∀ t i d v0 v1 v2 v3 m0 m1 m2 m3, d = val (qw ((fsq P n S V t).2 i) 0) (qw ((fsq P n S V t).2 i) 1) (qw ((fsq P n S V t).2 i) 2) (qw ((fsq P n S V t).2 i) 3) - val (qw (X t) 0) (qw (X t) 1) (qw (X t) 2) (qw (X t) 3) → InvP (val (P i) 0 0 0) v0 v1 v2 v3 → QMod (val (qw d 0) (qw d 1) (qw d 2) (qw d 3) * val v0 v1 v2 v3) m0 m1 m2 m3 → QMod ((fsq P n S V (t + 1)).2 i) m0 m1 m2 m3) := by
      intro t i d v0 v1 v2 v3 m0 m1 m2 m3 hd hv hm
      rw [← hX.out] at hd
      exact less_mod (hd ▸ qw_mod d) hv hm
    have HJn0 : Hid (∀ t m r0 r1 r2 r3, t + m = n → QMod (smN (fun i => wI P i m * val (qw ((fsq P n S V (t + 1)).2 i) 0) (qw ((fsq P n S V (t + 1)).2 i) 1) (qw ((fsq P n S V (t + 1)).2 i) 2) (qw ((fsq P n S V (t + 1)).2 i) 3)) m) r0 r1 r2 r3 → QMod (X (t + 1)) r0 r1 r2 r3) := by
      intro t m r0 r1 r2 r3 h hq
      rw [← hX.out]
      exact join_mod h hq
    clear hX HX0
    generalize fsq P n S V = FS at *
    have hn1 : 0 < n := by omega
    go_loopw [5, 6] (fun u5 u6 wr => ∃ (t m bc cc : Nat) (a6 : Option Addr) (c6 : Nat), t + m = n ∧ 0 < m ∧ u5 = .slice (some ⟨bc, 0, none⟩) (t + 1) cc ∧ u6 = .slice a6 m c6 ∧ Hid (wr.ownsRow w.heap.size 26 4 (.slice (some ⟨bc, 0, none⟩) (t + 1) cc) (t + 1) (nml X (t + 1))) ∧ Hid (Lies wr (.slice a6 m c6) m 5 (sc P (fun i j => qw ((FS t).2 i) j))) ∧ RowF wr g7 (qw (X t) 0) (qw (X t) 1) (qw (X t) 2) (qw (X t) 3) ∧ Hid (g7 ≠ bc) ∧ Hid (Ext w wr)) (fun _ u6 _ => slen u6)
    case atStart => exact ⟨0, n, w.heap.size + 1, 1, _, c6, by omega, hn1, rfl, rfl, HC3, HR3, Rf3, HNg, HE4⟩
    case round =>
      obtain ⟨t, m, bc, cc, a6, c6, htm, hm0, rfl, rfl, HC, HR, Rf, HNb, HE⟩ := hrel
      clear HC3 HR3 Rf3 HNg HE4
      have hm1 : (0 : Int) < (m : Int) := by omega
      have hm2 : 0 < m := hm0
      obtain ⟨b, o, rfl, hb, _⟩ := HR.out.share (i := 0) hm0
      clear hb
      obtain ⟨L, hL⟩ : ∃ L, Hid ((FS (t + 1)).2 = L) := ⟨_, rfl⟩
      obtain ⟨VT, hVT⟩ : ∃ VT, Hid ((FS t).2 = VT) := ⟨_, rfl⟩
      have HJn : Hid (∀ r0 r1 r2 r3, QMod (smN (fun i => wI P i m * val (qw (L i) 0) (qw (L i) 1) (qw (L i) 2) (qw (L i) 3)) m) r0 r1 r2 r3 → QMod (X (t + 1)) r0 r1 r2 r3) := by rw [← hL.out]; exact fun r0 r1 r2 r3 h => HJn0.out t m r0 r1 r2 r3 htm h
      have HLs1 : Hid (∀ i d v0 v1 v2 v3 m0 m1 m2 m3, d = val (qw (VT i) 0) (qw (VT i) 1) (qw (VT i) 2) (qw (VT i) 3) - val (qw (X t) 0) (qw (X t) 1) (qw (X t) 2) (qw (X t) 3) → InvP (val (P i) 0 0 0) v0 v1 v2 v3 → QMod (val (qw d 0) (qw d 1) (qw d 2) (qw d 3) * val v0 v1 v2 v3) m0 m1 m2 m3 → QMod (L i) m0 m1 m2 m3) := by rw [← hL.out, ← hVT.out]; exact HLs0.out t
      have HR : Hid (Lies wr (.slice (some ⟨b, o, none⟩) m c6) m 5 (sc P (fun i j => qw (VT i) j))) := by rw [← hVT.out]; exact HR
      clear hVT
      have HOm : Hid (OkP P m) := HOk.out.less hm0 (by omega)
      have HLim : Hid (∀ i, i < m → Lim4 (P i) 0 0 0) := fun i hi => by
        have := (HOm.out.2 i hi).1
        exact lim_one (by unfold Lim; omega)
      have HWp : Hid (∀ i, i < m → IntKind.u64.wrap (P i) = P i) := fun i hi => by
        have := (HOm.out.2 i hi).1
        rw [IntKind.wrap_u64]; omega
      obtain ⟨W0, hW0⟩ : ∃ W0 : World, W0 = wr := ⟨_, rfl⟩
      subst hW0
      have HO0 : Hid (W0.ownsRow W0.heap.size 47 5 (.slice none 0 0) 0 (shs P L 0)) := World.ownsRow_nil _ _ _ _
      have HE0 : Hid (Ext W0 W0) := Ext.refl _
      go_wp2
      go_loopw [8, 9] (fun u8 u9 wx => ∃ i : Nat, i ≤ m ∧ u9 = .int .i64 (i : Int) ∧ Hid (wx.ownsRow W0.heap.size 47 5 u8 i (shs P L i)) ∧ Hid (Ext W0 wx)) (fun _ u9 _ => m - (intOf u9).toNat)
      case atStart => exact ⟨0, Nat.zero_le _, rfl, HO0, HE0⟩
      case round =>
        obtain ⟨i, hi, rfl, HOr, HEi⟩ := hrel
        clear HO0 HE0
        by_cases hlt : i < m
        · have h1 : (i : Int) < (m : Int) := by omega
          have h0 : (0 : Int) ≤ (i : Int) := by omega
          have hw : IntKind.i64.wrap ((i : Int) + 1) = (i : Int) + 1 := by rw [IntKind.wrap_i64]; omega
          obtain ⟨D, hD⟩ : ∃ D, Hid (D = val (qw (VT i) 0) (qw (VT i) 1) (qw (VT i) 2) (qw (VT i) 3) - val (qw (X t) 0) (qw (X t) 1) (qw (X t) 2) (qw (X t) 3)) := ⟨_, rfl⟩
          have HSub : Hid (∀ W, Calls Tryd.prog 35 #[.agg #[.int .u64 (qw (VT i) 0), .int .u64 (qw (VT i) 1), .int .u64 (qw (VT i) 2), .int .u64 (qw (VT i) 3)], .agg #[.int .u64 (qw (X t) 0), .int .u64 (qw (X t) 1), .int .u64 (qw (X t) 2), .int .u64 (qw (X t) 3)]] W fun e w' => e = .returned (.agg #[.int .u64 (qw (D) 0), .int .u64 (qw (D) 1), .int .u64 (qw (D) 2), .int .u64 (qw (D) 3)]) ∧ Ext W w') := fun W => by
            refine (refSSub_any _ _ _ _ _ _ _ _ (qw_mod _).1 (qw_mod _).1 W).mono ?_
            rintro e w' ⟨r0, r1, r2, r3, rfl, HQ, HX⟩
            rw [← hD.out] at HQ
            obtain ⟨rfl, rfl, rfl, rfl⟩ := qw_one HQ.out
            exact ⟨rfl, HX⟩
          have HLs : Hid (∀ v0 v1 v2 v3 m0 m1 m2 m3, InvP (val (P i) 0 0 0) v0 v1 v2 v3 → QMod (val (qw D 0) (qw D 1) (qw D 2) (qw D 3) * val v0 v1 v2 v3) m0 m1 m2 m3 → QMod (L i) m0 m1 m2 m3) := fun v0 v1 v2 v3 m0 m1 m2 m3 hv hm => HLs1.out i D v0 v1 v2 v3 m0 m1 m2 m3 hD.out hv hm
          have hwp := HWp.out i hlt
          clear hD
          obtain ⟨_, _, e6, hb, p0, y0, y1, y2, y3⟩ := (HR.out.ext HEi.out).share hlt
          cases e6
          have Rc : wr.cell? ⟨b, o + i * 5 + 1, none⟩ = some (.int .u64 (qw (VT i) 0)) ∧ wr.cell? ⟨b, o + i * 5 + 2, none⟩ = some (.int .u64 (qw (VT i) 1)) ∧ wr.cell? ⟨b, o + i * 5 + 3, none⟩ = some (.int .u64 (qw (VT i) 2)) ∧ wr.cell? ⟨b, o + i * 5 + 4, none⟩ = some (.int .u64 (qw (VT i) 3)) := ⟨y0, y1, y2, y3⟩
          have Rx := (Rf.ext HEi.out).1
          have HX0 : Hid (W0.cell? ⟨b, o + i * 5, none⟩ = some (.int .i64 (P i))) := by
            obtain ⟨_, _, e6, _, p0, _⟩ := HR.out.share hlt
            cases e6
            exact p0
          clear p0 y0 y1 y2 y3
          go_wp2_with fail
          go_cut [10] (fun sk wz => ∃ gd : Nat, sk = .pointer (some ⟨gd, 0, none⟩) ∧ wr.heap.size ≤ gd ∧ Row wz gd (qw D 0) (qw D 1) (qw D 2) (qw D 3) ∧ Ext wr wz)
          case first =>
            have hl0 : wr.heap.size ≤ wr.heap.size := Nat.le_refl _
            have hl1 : wr.heap.size ≤ wr.heap.size + 1 := Nat.le_succ _
            go_region_held3 (fun wz : World => Ext wr wz ∧ wz.cell? ⟨g7, 0, none⟩ = some (.int .u64 (qw (X t) 0)) ∧ wz.cell? ⟨g7, 1, none⟩ = some (.int .u64 (qw (X t) 1)) ∧ wz.cell? ⟨g7, 2, none⟩ = some (.int .u64 (qw (X t) 2)) ∧ wz.cell? ⟨g7, 3, none⟩ = some (.int .u64 (qw (X t) 3)) ∧ wz.cell? ⟨b, o + i * 5 + 1, none⟩ = some (.int .u64 (qw (VT i) 0)) ∧ wz.cell? ⟨b, o + i * 5 + 2, none⟩ = some (.int .u64 (qw (VT i) 1)) ∧ wz.cell? ⟨b, o + i * 5 + 3, none⟩ = some (.int .u64 (qw (VT i) 2)) ∧ wz.cell? ⟨b, o + i * 5 + 4, none⟩ = some (.int .u64 (qw (VT i) 3))) ((refine keepT ?_ Rx Rc; simp (maxDischargeDepth := 30) only [extAlloc, extDrew, Ext.st, Ext.refl, *])) (first | (go_at_call 35; (with_reducible refine (HSub.out _).mono ?_); rintro e wy ⟨rfl, HX⟩; have hEy : Ext wr wy := (by refine Ext.trans ?_ HX; simp only [*]); have hz0 : wr.heap.size ≤ wy.heap.size := hEy.size; have hz1 : wr.heap.size ≤ wy.heap.size + 1 := Nat.le_succ_of_le hz0; have htr : ∀ b, b < _ → b < wy.heap.size := (fun b h => Nat.lt_of_lt_of_le h HX.size); have hsz := HX.size; (try simp at hsz); (try have hs1 := Nat.lt_of_succ_le hsz); (try have hs2 := Nat.lt_of_succ_lt (Nat.lt_of_succ_le hsz)); obtain ⟨hcc, hff⟩ := HX.cells; (try simp at hcc); (try simp at hff)))
            all_goals
              go_wp2
              go_meet
              case rel => exact ⟨_, rfl, by simp only [*], ⟨by simp [*], (by first | (go_simp; done) | (go_simp; exact World.cell?_setCell_same' _ _ _ (by go_simp))), (by first | (go_simp; done) | (go_simp; exact World.cell?_setCell_same' _ _ _ (by go_simp))), (by first | (go_simp; done) | (go_simp; exact World.cell?_setCell_same' _ _ _ (by go_simp))), (by first | (go_simp; done) | (go_simp; exact World.cell?_setCell_same' _ _ _ (by go_simp)))⟩, by simp only [*]⟩
          case rest =>
            obtain ⟨gd, rfl, hgd, Rd, HXd⟩ := hcut
            have HOd : Hid (wc.ownsRow W0.heap.size 47 5 u8 i (shs P L i)) := own_ext HOr.out HXd
            have HNd : Hid (∀ b, u8.ownBlock = some b → b = gd → False) := fun b hb e => by
              have := (HOr.out.lt b hb).2
              omega
            have HEd : Hid (Ext W0 wc) := HEi.out.trans HXd
            have hS0 : TS W0 b (o + i * 5) (P i) gd (qw D 0) (qw D 1) (qw D 2) (qw D 3) wc.drew := ⟨later HEd.out.drew HX0.out, Rd.ext (Ext.drew (Ext.refl _)), HEd.out.drew⟩
            clear HXd HOr HEi HEd Rd hgd HSub Rc Rx
            go_wp2_with fail
            refine wp_region_noPanic ?_
            refine wp_region_until (X := 19) (S := TS W0 b (o + i * 5) (P i) gd (qw D 0) (qw D 1) (qw D 2) (qw D 3)) (by kernel_rfl) ?_
            refine until_take (i := 0) (v := ?vt0) rfl (by kernel_rfl) (by kernel_rfl) (by kernel_rfl) (by kernel_rfl) (by kernel_rfl) (fun _ _ _ h => h) rfl ?hyt0 hS0 ?restt0
            case hyt0 => (intro w hSw; obtain ⟨p0, ⟨_, e0, e1, e2, e3⟩, _⟩ := hSw; go_simp; try with_reducible rfl)
            try simp only [Act.put, List.setIfInBounds_toArray, List.set_cons_zero, List.set_cons_succ]
            refine until_take (i := 1) (v := ?vt1) rfl (by kernel_rfl) (by kernel_rfl) (by kernel_rfl) (by kernel_rfl) (by kernel_rfl) (fun _ _ _ h => h) rfl ?hyt1 hS0 ?restt1
            case hyt1 => (intro w hSw; obtain ⟨p0, ⟨_, e0, e1, e2, e3⟩, _⟩ := hSw; go_simp; try with_reducible rfl)
            try simp only [Act.put, List.setIfInBounds_toArray, List.set_cons_zero, List.set_cons_succ]
            refine until_take (i := 2) (v := ?vt2) rfl (by kernel_rfl) (by kernel_rfl) (by kernel_rfl) (by kernel_rfl) (by kernel_rfl) (fun _ _ _ h => h) rfl ?hyt2 hS0 ?restt2
            case hyt2 => (intro w hSw; obtain ⟨p0, ⟨_, e0, e1, e2, e3⟩, _⟩ := hSw; go_simp; try with_reducible rfl)
            try simp only [Act.put, List.setIfInBounds_toArray, List.set_cons_zero, List.set_cons_succ]
            refine until_take (i := 3) (v := ?vt3) rfl (by kernel_rfl) (by kernel_rfl) (by kernel_rfl) (by kernel_rfl) (by kernel_rfl) (fun _ _ _ h => h) rfl ?hyt3 hS0 ?restt3
            case hyt3 => (intro w hSw; obtain ⟨p0, ⟨_, e0, e1, e2, e3⟩, _⟩ := hSw; go_simp; try with_reducible rfl)
            try simp only [Act.put, List.setIfInBounds_toArray, List.set_cons_zero, List.set_cons_succ]
            refine until_take (i := 4) (v := ?vt4) rfl (by kernel_rfl) (by kernel_rfl) (by kernel_rfl) (by kernel_rfl) (by kernel_rfl) (fun _ _ _ h => h) rfl ?hyt4 hS0 ?restt4
            case hyt4 => (intro w hSw; obtain ⟨p0, ⟨_, e0, e1, e2, e3⟩, _⟩ := hSw; go_simp; try with_reducible rfl)
            try simp only [Act.put, List.setIfInBounds_toArray, List.set_cons_zero, List.set_cons_succ]
            refine until_take (i := 5) (v := ?vt5) rfl (by kernel_rfl) (by kernel_rfl) (by kernel_rfl) (by kernel_rfl) (by kernel_rfl) (fun _ _ _ h => h) rfl ?hyt5 hS0 ?restt5
            case hyt5 => (intro w hSw; obtain ⟨p0, ⟨_, e0, e1, e2, e3⟩, _⟩ := hSw; go_simp; try with_reducible rfl)
            try simp only [Act.put, List.setIfInBounds_toArray, List.set_cons_zero, List.set_cons_succ]
            refine until_take (i := 6) (v := ?vt6) rfl (by kernel_rfl) (by kernel_rfl) (by kernel_rfl) (by kernel_rfl) (by kernel_rfl) (fun _ _ _ h => h) rfl ?hyt6 hS0 ?restt6
            case hyt6 => (intro w hSw; obtain ⟨p0, ⟨_, e0, e1, e2, e3⟩, _⟩ := hSw; go_simp; try with_reducible rfl)
            try simp only [Act.put, List.setIfInBounds_toArray, List.set_cons_zero, List.set_cons_succ]
            refine until_take (i := 7) (v := ?vt7) rfl (by kernel_rfl) (by kernel_rfl) (by kernel_rfl) (by kernel_rfl) (by kernel_rfl) (fun _ _ _ h => h) rfl ?hyt7 hS0 ?restt7
            case hyt7 => (intro w hSw; obtain ⟨p0, ⟨_, e0, e1, e2, e3⟩, _⟩ := hSw; go_simp; try with_reducible rfl)
            try simp only [Act.put, List.setIfInBounds_toArray, List.set_cons_zero, List.set_cons_succ]
            refine until_take (i := 8) (v := ?vt8) rfl (by kernel_rfl) (by kernel_rfl) (by kernel_rfl) (by kernel_rfl) (by kernel_rfl) (fun _ _ _ h => h) rfl ?hyt8 hS0 ?restt8
            case hyt8 => (intro w hSw; obtain ⟨p0, ⟨_, e0, e1, e2, e3⟩, _⟩ := hSw; go_simp; try with_reducible rfl)
            try simp only [Act.put, List.setIfInBounds_toArray, List.set_cons_zero, List.set_cons_succ]
            refine until_take (i := 9) (v := ?vt9) rfl (by kernel_rfl) (by kernel_rfl) (by kernel_rfl) (by kernel_rfl) (by kernel_rfl) (fun _ _ _ h => h) rfl ?hyt9 hS0 ?restt9
            case hyt9 => (intro w hSw; obtain ⟨p0, ⟨_, e0, e1, e2, e3⟩, _⟩ := hSw; go_simp; try with_reducible rfl)
            try simp only [Act.put, List.setIfInBounds_toArray, List.set_cons_zero, List.set_cons_succ]
            refine until_take (i := 10) (v := ?vt10) rfl (by kernel_rfl) (by kernel_rfl) (by kernel_rfl) (by kernel_rfl) (by kernel_rfl) (fun _ _ _ h => h) rfl ?hyt10 hS0 ?restt10
            case hyt10 => (intro w hSw; obtain ⟨p0, ⟨_, e0, e1, e2, e3⟩, _⟩ := hSw; go_simp; try with_reducible rfl)
            try simp only [Act.put, List.setIfInBounds_toArray, List.set_cons_zero, List.set_cons_succ]
            refine until_take (i := 11) (v := ?vt11) rfl (by kernel_rfl) (by kernel_rfl) (by kernel_rfl) (by kernel_rfl) (by kernel_rfl) (fun _ _ _ h => h) rfl ?hyt11 hS0 ?restt11
            case hyt11 => (intro w hSw; obtain ⟨p0, ⟨_, e0, e1, e2, e3⟩, _⟩ := hSw; go_simp; try with_reducible rfl)
            try simp only [Act.put, List.setIfInBounds_toArray, List.set_cons_zero, List.set_cons_succ]
            refine until_take (i := 12) (v := ?vt12) rfl (by kernel_rfl) (by kernel_rfl) (by kernel_rfl) (by kernel_rfl) (by kernel_rfl) (fun _ _ _ h => h) rfl ?hyt12 hS0 ?restt12
            case hyt12 => (intro w hSw; obtain ⟨p0, ⟨_, e0, e1, e2, e3⟩, _⟩ := hSw; go_simp; try with_reducible rfl)
            try simp only [Act.put, List.setIfInBounds_toArray, List.set_cons_zero, List.set_cons_succ]
            refine until_take (i := 13) (v := ?vt13) rfl (by kernel_rfl) (by kernel_rfl) (by kernel_rfl) (by kernel_rfl) (by kernel_rfl) (fun _ _ _ h => h) rfl ?hyt13 hS0 ?restt13
            case hyt13 => (intro w hSw; obtain ⟨p0, ⟨_, e0, e1, e2, e3⟩, _⟩ := hSw; go_simp; try with_reducible rfl)
            try simp only [Act.put, List.setIfInBounds_toArray, List.set_cons_zero, List.set_cons_succ]
            refine until_one (i := 14) (by kernel_rfl) (by kernel_rfl) rfl rfl (fun K hK => ?_)
            go_simp
            refine (refSInv_any _ _ _ _ (HLim.out i hlt) _).mono ?_
            rintro e w3 ⟨v0, v1, v2, v3, rfl, HV, HX3⟩
            have hS3 := hS0.ext HX3
            go_simp
            refine hK.out _ _ hS3 ?_
            clear hK K
            try simp only [Act.put, List.setIfInBounds_toArray, List.set_cons_zero, List.set_cons_succ]
            refine until_one (i := 15) (by kernel_rfl) (by kernel_rfl) rfl rfl (fun K hK => ?_)
            go_simp
            refine (refSMul_any _ _ _ _ _ _ _ _ (qw_mod D).1 HV.out.1 _).mono ?_
            rintro e w4 ⟨m0, m1, m2, m3, rfl, HM, HX4⟩
            have hS4 := hS3.ext HX4
            go_simp
            refine hK.out _ _ hS4 ?_
            clear hK K
            try simp only [Act.put, List.setIfInBounds_toArray, List.set_cons_zero, List.set_cons_succ]
            obtain ⟨rfl, rfl, rfl, rfl⟩ := qw_one (HLs.out _ _ _ _ _ _ _ _ HV.out HM.out)
            have HO4 : Hid (w4.ownsRow W0.heap.size 47 5 u8 i (shs P L i)) := own_ext HOd.out ((Ext.refl _).drew.trans (HX3.trans HX4))
            clear HX3 HX4 HV HM HOd
            refine until_one (i := 16) (by kernel_rfl) (by kernel_rfl) rfl rfl (fun K hK => ?_)
            go_simp
            refine hK.out _ _ hS4 ?_
            clear hK K
            try simp only [Act.put, List.setIfInBounds_toArray, List.set_cons_zero, List.set_cons_succ]
            refine until_one (i := 17) (by kernel_rfl) (by kernel_rfl) rfl rfl (fun K hK => ?_)
            go_simp
            have hS5 := hS4.ext ((Ext.refl _).alloc (.cells #[.int .i64 (P i), .int .u64 (qw (L i) 0), .int .u64 (qw (L i) 1), .int .u64 (qw (L i) 2), .int .u64 (qw (L i) 3)] 47))
            refine hK.out _ _ hS5 ?_
            clear hK K
            try simp only [Act.put, List.setIfInBounds_toArray, List.set_cons_zero, List.set_cons_succ]
            refine until_one (i := 18) (by kernel_rfl) (by kernel_rfl) rfl rfl (fun K hK => ?_)
            refine wp_append_lies _ _ _ 29 rfl W0.heap.size 47 i1 (.agg #[.int .i64 0, .int .u64 0, .int .u64 0, .int .u64 0, .int .u64 0]) 5 40 Tryd.underlying29 hj0 hy0 hy1 hy2 rfl (by decide) u8 i (shs P L i) rfl (HO4.out.alloc _) ⟨w4.heap.size, 0, none⟩ 1 1 (shc (P i) (L i)) rfl rfl (news5 w4) (shc_one _ _) (by decide) (by unfold maxLen; omega) (by omega) hS5.2.2.size _ rfl ?_
            intro gg cp w5 hown hgrow _ _
            have HE5 : Hid (Ext W0 w5) := Ext.grown hS5.2.2 (HO4.out.alloc _) (Nat.le_refl _) hgrow
            have hnd : some gd ≠ u8.ownBlock := fun e => HNd.out gd e.symm rfl
            have hS6 : TS W0 b (o + i * 5) (P i) gd (qw D 0) (qw D 1) (qw D 2) (qw D 3) w5 := ⟨later HE5.out HX0.out, hS5.2.1.grown hgrow hnd, HE5.out⟩
            have HO5 : Hid (w5.ownsRow W0.heap.size 47 5 (.slice (some ⟨gg, 0, none⟩) (i + 1) cp) (i + 1) (shs P L (i + 1))) := hown
            refine hK.out _ _ hS6 ?_
            clear hK K hown hgrow HO4
            try simp only [Act.put, List.setIfInBounds_toArray, List.set_cons_zero, List.set_cons_succ]
            refine until_last (by kernel_rfl) (by kernel_rfl) rfl rfl (fun K hK => ?_)
            clear hS0 hS3 hS4 hS5 hS6
            go_simp
            refine hK.out _ _ (NoPanic.normal ?_)
            clear hK K
            try simp only [Act.put, List.setIfInBounds_toArray, List.set_cons_zero, List.set_cons_succ]
            go_wp2
            go_roundw
            case rel => exact ⟨i + 1, hlt, by push_cast; rfl, HO5, HE5⟩
            case measure => simp [intOf]; omega
        · obtain rfl : i = m := by omega
          obtain ⟨gl, cl, rfl, hgl, hgl2, hcl, hcl2⟩ := own_form HOr.out hm0
          clear HLs1 HLim HWp hi hlt
          go_wp2_with fail
          refine (rjoin_any _ i P (fun k j => qw (L k) j) (by omega) (fun k _ => (qw_mod (L k)).1) _ (Lies.own HOr.out (shs_at P L i))).mono ?_
          rintro e w1 ⟨HX1, hj⟩
          obtain ⟨hok, r0, r1, r2, r3, rfl, HQ⟩ := hj.resolve_right (fun h => h.1 HOm.out)
          obtain ⟨rfl, rfl, rfl, rfl⟩ := qw_one (HJn.out _ _ _ _ HQ.out)
          have hbc : bc < W0.heap.size := (HC.out.lt bc rfl).2
          have hg7 : g7 < W0.heap.size := Rf.1.1
          have HC1 : Hid (w1.ownsRow w.heap.size 26 4 (.slice (some ⟨bc, 0, none⟩) (t + 1) cc) (t + 1) (nml X (t + 1))) := own_ext HC.out (HEi.out.trans HX1)
          have HL1 : Hid (w1.ownsRow W0.heap.size 47 5 (.slice (some ⟨gl, 0, none⟩) i cl) i (shs P L i)) := own_ext HOr.out HX1
          have Rf1 := Rf.ext (HEi.out.trans HX1)
          have HE1 : Hid (Ext w w1) := HE.out.trans (HEi.out.trans HX1)
          clear hok hj HQ HJn HX1 HEi HOr HC HR Rf HE
          have Rf2 : RowF ((((w1.setCell ⟨g7, 0, none⟩ (.int .u64 (qw (X (t + 1)) 0))).setCell ⟨g7, 1, none⟩ (.int .u64 (qw (X (t + 1)) 1))).setCell ⟨g7, 2, none⟩ (.int .u64 (qw (X (t + 1)) 2))).setCell ⟨g7, 3, none⟩ (.int .u64 (qw (X (t + 1)) 3))) g7 (qw (X (t + 1)) 0) (qw (X (t + 1)) 1) (qw (X (t + 1)) 2) (qw (X (t + 1)) 3) := RowF.set Rf1
          obtain ⟨⟨lf, y0, y1, y2, y3⟩, f0, f1, f2, f3⟩ := Rf1
          have hcb : (Value.slice (some ⟨bc, 0, none⟩) (t + 1) cc).ownBlock ≠ some g7 := fun e => HNb.out (by cases e; rfl)
          have hlb : (Value.slice (some ⟨gl, 0, none⟩) i cl).ownBlock ≠ some g7 := fun e => by
            have : gl = g7 := by cases e; rfl
            omega
          have HC2 : Hid (((((w1.setCell ⟨g7, 0, none⟩ (.int .u64 (qw (X (t + 1)) 0))).setCell ⟨g7, 1, none⟩ (.int .u64 (qw (X (t + 1)) 1))).setCell ⟨g7, 2, none⟩ (.int .u64 (qw (X (t + 1)) 2))).setCell ⟨g7, 3, none⟩ (.int .u64 (qw (X (t + 1)) 3))).ownsRow w.heap.size 26 4 (.slice (some ⟨bc, 0, none⟩) (t + 1) cc) (t + 1) (nml X (t + 1))) := own_setCell (own_setCell (own_setCell (own_setCell HC1.out hcb) hcb) hcb) hcb
          have HL2 : Hid (((((w1.setCell ⟨g7, 0, none⟩ (.int .u64 (qw (X (t + 1)) 0))).setCell ⟨g7, 1, none⟩ (.int .u64 (qw (X (t + 1)) 1))).setCell ⟨g7, 2, none⟩ (.int .u64 (qw (X (t + 1)) 2))).setCell ⟨g7, 3, none⟩ (.int .u64 (qw (X (t + 1)) 3))).ownsRow W0.heap.size 47 5 (.slice (some ⟨gl, 0, none⟩) i cl) i (shs P L i)) := own_setCell (own_setCell (own_setCell (own_setCell HL1.out hlb) hlb) hlb) hlb
          have HE2 : Hid (Ext w ((((w1.setCell ⟨g7, 0, none⟩ (.int .u64 (qw (X (t + 1)) 0))).setCell ⟨g7, 1, none⟩ (.int .u64 (qw (X (t + 1)) 1))).setCell ⟨g7, 2, none⟩ (.int .u64 (qw (X (t + 1)) 2))).setCell ⟨g7, 3, none⟩ (.int .u64 (qw (X (t + 1)) 3)))) := Ext.st HBg (Ext.st HBg (Ext.st HBg (Ext.st HBg HE1.out)))
          have hsz : Hid (((((w1.setCell ⟨g7, 0, none⟩ (.int .u64 (qw (X (t + 1)) 0))).setCell ⟨g7, 1, none⟩ (.int .u64 (qw (X (t + 1)) 1))).setCell ⟨g7, 2, none⟩ (.int .u64 (qw (X (t + 1)) 2))).setCell ⟨g7, 3, none⟩ (.int .u64 (qw (X (t + 1)) 3))).heap.size = w1.heap.size) := by show _ = _; simp
          have h7l : Hid (g7 < w1.heap.size) := lf
          clear hcb hlb HC1 HL1 HE1
          go_wp2_with (first | (at_builtin; refine wpList_append_lies _ rfl _ _ 22 rfl w.heap.size 26 i0 (.agg #[.int .u64 0, .int .u64 0, .int .u64 0, .int .u64 0]) 4 32 Tryd.underlying22 hi0 hz0 hz1 hz2 rfl (by decide) (.slice (some ⟨bc, 0, none⟩) (t + 1) cc) (t + 1) (nml X (t + 1)) rfl (HC2.out.alloc _) ⟨w1.heap.size, 0, none⟩ 1 1 [.int .u64 (qw (X (t + 1)) 0), .int .u64 (qw (X (t + 1)) 1), .int .u64 (qw (X (t + 1)) 2), .int .u64 (qw (X (t + 1)) 3)] rfl rfl ?c1 (num_one _ _ _ _) (by decide) (by unfold maxLen; omega) (by omega) ?c2 _ rfl ?_))
          case c1 => exact news4b _ hsz.out
          case c2 => exact (HE2.out.alloc _).size
          intro gc cc2 w3 hown hgrow hat _
          have HC3 : Hid (w3.ownsRow w.heap.size 26 4 (.slice (some ⟨gc, 0, none⟩) (t + 1 + 1) cc2) (t + 1 + 1) (nml X (t + 1 + 1))) := hown
          have HL3 : Hid (Lies w3 (.slice (some ⟨gl, 0, none⟩) i cl) i 5 (sc P (fun k j => qw (L k) j))) := Lies.own ((HL2.out.alloc _).kept hgrow (.inr (fun e => by
            have : gl = bc := by cases e; rfl
            omega))) (shs_at P L i)
          have Rf3 := (Rf2.ext ((Ext.refl _).alloc (.cells #[.int .u64 (qw (X (t + 1)) 0), .int .u64 (qw (X (t + 1)) 1), .int .u64 (qw (X (t + 1)) 2), .int .u64 (qw (X (t + 1)) 3)] 26))).grown hgrow (fun e => HNb.out (by cases e; rfl))
          have HE3 : Hid (Ext w w3) := Ext.grown (HE2.out.alloc _) (HC2.out.alloc _) (Nat.le_refl _) hgrow
          have HN3 : Hid (g7 ≠ gc) := by
            rcases hat with e | e
            · have : bc = gc := by cases e; rfl
              rw [← this]; exact HNb.out
            · have := h7l.out
              show _ ≠ _
              omega
          clear hown hgrow hat HC2 HL2 HE2 Rf2 hsz h7l lf y0 y1 y2 y3 f0 f1 f2 f3
          by_cases hm1' : i = 1
          · subst hm1'
            obtain rfl : n = t + 1 := by omega
            go_wp2
            go_ret
            exact ⟨_, rfl, HC3.out, HE3.out⟩
          · obtain ⟨m', rfl⟩ : ∃ m', i = m' + 1 := ⟨i - 1, by omega⟩
            have hb1 : (((m' + 1 : Nat) : Int) == 1) = false := by simp; omega
            have hb2 : ((m' : Int) + 1 == 1) = false := by simp; omega
            have hb3 : ¬ ((m' : Int) + 1 = 1) := by omega
            have hb4 : ¬ (m' = 0) := by omega
            have hb5 : ((m' : Int) == 0) = false := by simp; omega
            have hs1 : ((m' + 1 : Nat) : Int) - 1 = (m' : Int) := by omega
            have hs2 : (m' : Int) + 1 - 1 = (m' : Int) := by omega
            have hs3 : IntKind.i64.wrap (m' : Int) = (m' : Int) := by rw [IntKind.wrap_i64]; omega
            have hs4 : (0 : Int) ≤ (m' : Int) := by omega
            have hs5 : (m' : Int) ≤ (cl : Int) := by omega
            have hs6 : m' ≤ cl := by omega
            have HR3 : Hid (Lies w3 (.slice (some ⟨gl, 0, none⟩) m' cl) m' 5 (sc P (fun k j => qw (L k) j))) := HL3.out.less (by omega)
            have HR3' : Hid (Lies w3 (.slice (some ⟨gl, 0, none⟩) m' cl) m' 5 (sc P (fun k j => qw ((FS (t + 1)).2 k) j))) := by rw [hL.out]; exact HR3
            go_wp2
            exact ⟨⟨t + 1, m', gc, cc2, _, cl, by omega, by omega, rfl, rfl, HC3, HR3', Rf3, HN3, HE3⟩, Nat.lt_succ_self m'⟩
end Go.Proofs.YtnaiccfdbapdpaaDoor
