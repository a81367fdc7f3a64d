/-
  What sandglassref07.block reckons; no function of the program is named here.
-/
import Derived.Test.YtpfeakdpckmcgaaDoorTabx
import Derived.Test.YtpfeakdpckmcgaaDoorRefKs
namespace Go.Proofs.YtpfeakdpckmcgaaDoor
open Go.RowKit
theorem wl_len (B : Nat → Nat) (t : Nat) : (wl B t).length = t := by
  induction t with
  | zero => rfl
  | succ t ih => unfold wl; rw [List.length_append, ih]; rfl
theorem wl_get (B : Nat → Nat) {t i : Nat} (h : i < t) : (wl B (t + 1)).getD i 0 = (wl B t).getD i 0 := by
  rw [show wl B (t + 1) = wl B t ++ [if t < 16 then B t else wnext (wl B t) t] from rfl, List.getD_eq_getElem?_getD, List.getD_eq_getElem?_getD, List.getElem?_append_left (by rw [wl_len]; exact h)]
theorem wl_top (B : Nat → Nat) (t : Nat) : (wl B (t + 1)).getD t 0 = if t < 16 then B t else wnext (wl B t) t := by
  rw [show wl B (t + 1) = wl B t ++ [if t < 16 then B t else wnext (wl B t) t] from rfl, List.getD_eq_getElem?_getD, List.getElem?_append_right (by rw [wl_len]; exact Nat.le_refl _), wl_len]
  simp
/-- The words of a block behind t steps, as cells. -/
def wf (B : Nat → Nat) (t : Nat) : Nat → Nat := fun i => (wl B t).getD i 0
theorem wf_put (B : Nat → Nat) (t : Nat) : put (wf B t) t (if t < 16 then B t else wnext (wl B t) t) = wf B (t + 1) := by
  funext i
  unfold put wf
  by_cases e : i = t
  · subst e; rw [if_pos rfl, wl_top]
  · rw [if_neg e]
    by_cases h : i < t
    · rw [wl_get B h]
    · rw [List.getD_eq_getElem?_getD, List.getD_eq_getElem?_getD, List.getElem?_eq_none (by rw [wl_len]; omega), List.getElem?_eq_none (by rw [wl_len]; omega)]
theorem wf_zero (B : Nat → Nat) : wf B 0 = fun _ => 0 := by
  funext i
  unfold wf wl
  simp
theorem wnext_lt (l : List Nat) (t : Nat) : wnext l t < 4294967296 := Nat.mod_lt _ (by decide)
theorem wf_lt {B : Nat → Nat} (hB : ∀ i, B i < 4294967296) (t i : Nat) : wf B t i < 4294967296 := by
  induction t with
  | zero => rw [wf_zero]; exact (by decide : 0 < 4294967296)
  | succ t ih =>
    rw [← wf_put]
    unfold put
    split
    · split
      · exact hB t
      · exact wnext_lt _ _
    · exact ih
/-- Four bytes joined, as the program's text joins them. -/
theorem word_or (a b c d : Nat) (ha : a < 256) (hb : b < 256) (hc : c < 256) (hd : d < 256) :
    bits BinOp.or IntKind.u32 (bits BinOp.or IntKind.u32 (bits BinOp.or IntKind.u32 ((a * 16777216 : Nat) : Int) ((b * 65536 : Nat) : Int)) ((c * 256 : Nat) : Int)) (d : Int) = ((a * 16777216 + b * 65536 + c * 256 + d : Nat) : Int) := by
  rw [u32_or_nat _ _ (by omega) (by omega), nat_join 24 _ _ (by omega) (by omega), u32_or_nat _ _ (by omega) (by omega), nat_join 16 _ _ (by omega) (by omega), u32_or_nat _ _ (by omega) (by omega), nat_join 8 _ _ (by omega) (by omega)]
theorem word_letters (a b c d : Nat) (ha : a < 256) (hb : b < 256) (hc : c < 256) (hd : d < 256) : ∃ s0 s1 s2 q1 q2 q3 : Nat, IntKind.u32.wrap ((a : Int) * 16777216) = (s0 : Int) ∧ IntKind.u32.wrap ((b : Int) * 65536) = (s1 : Int) ∧ IntKind.u32.wrap ((c : Int) * 256) = (s2 : Int) ∧
    bits BinOp.or IntKind.u32 (s0 : Int) (s1 : Int) = (q1 : Int) ∧ bits BinOp.or IntKind.u32 (q1 : Int) (s2 : Int) = (q2 : Int) ∧ bits BinOp.or IntKind.u32 (q2 : Int) (d : Int) = (q3 : Int) ∧ q3 = a * 16777216 + b * 65536 + c * 256 + d := by
  refine ⟨a * 16777216, b * 65536, c * 256, a * 16777216 + b * 65536, a * 16777216 + b * 65536 + c * 256, _, ?_, ?_, ?_, ?_, ?_, ?_, rfl⟩
  · rw [IntKind.wrap_u32']; omega
  · rw [IntKind.wrap_u32']; omega
  · rw [IntKind.wrap_u32']; omega
  · rw [u32_or_nat _ _ (by omega) (by omega), nat_join 24 _ _ (by omega) (by omega)]
  · rw [u32_or_nat _ _ (by omega) (by omega), nat_join 16 _ _ (by omega) (by omega)]
  · rw [u32_or_nat _ _ (by omega) (by omega), nat_join 8 _ _ (by omega) (by omega)]
theorem xor_lt {a b : Nat} (ha : a < 4294967296) (hb : b < 4294967296) : a ^^^ b < 4294967296 := Nat.xor_lt_two_pow (n := 32) ha hb
theorem and_lt {a b : Nat} (ha : a < 4294967296) : a &&& b < 4294967296 := Nat.lt_of_le_of_lt Nat.and_le_left ha
theorem ss0_lt {x : Nat} (hx : x < 4294967296) : ss0 x < 4294967296 := xor_lt (xor_lt (rotr_lt hx) (rotr_lt hx)) (Nat.lt_of_le_of_lt (Nat.div_le_self _ _) hx)
theorem ss1_lt {x : Nat} (hx : x < 4294967296) : ss1 x < 4294967296 := xor_lt (xor_lt (rotr_lt hx) (rotr_lt hx)) (Nat.lt_of_le_of_lt (Nat.div_le_self _ _) hx)
theorem bs0_lt {x : Nat} (hx : x < 4294967296) : bs0 x < 4294967296 := xor_lt (xor_lt (rotr_lt hx) (rotr_lt hx)) (rotr_lt hx)
theorem bs1_lt {x : Nat} (hx : x < 4294967296) : bs1 x < 4294967296 := xor_lt (xor_lt (rotr_lt hx) (rotr_lt hx)) (rotr_lt hx)
theorem keepW {w : World} {b t d : Nat} {v x : Value} (hne : d ≠ t) (h : w.cell? ⟨b, d, none⟩ = some x) : (w.setCell ⟨b, t, none⟩ v).drew.drew.cell? ⟨b, d, none⟩ = some x := by
  show (w.setCell ⟨b, t, none⟩ v).cell? ⟨b, d, none⟩ = some x
  rw [World.cell?_setCell_other _ _ _ _ (fun q => hne (by injection q with _ q _; exact q.symm))]
  exact h
/-- A turn by a constant, for the walk. -/
def TurnC (x r : Nat) (k : Int) : Prop := ∀ wx, Calls Tryd.prog 52 #[.int .u32 (x : Int), .int .i64 k] wx fun e w' => e = .returned (.int .u32 (r : Int)) ∧ w' = wx
theorem TurnC.call {x r : Nat} {k : Int} (h : TurnC x r k) (wx : World) : Calls Tryd.prog 52 #[.int .u32 (x : Int), .int .i64 k] wx fun e w' => e = .returned (.int .u32 (r : Int)) ∧ w' = wx := h wx
theorem turn_c (x n : Nat) (k : Int) (hx : x < 4294967296) (h0 : 0 < n) (hn : n < 32) (hk : (n : Int) = k) : TurnC x (rotr x n) k := fun wx => by
  subst hk
  exact turn_any x n hx h0 hn wx
/-- The next word, letter by letter. -/
theorem next_letters (l : List Nat) (t : Nat) (hx : l.getD (t - 15) 0 < 4294967296) (hy : l.getD (t - 2) 0 < 4294967296) : ∃ r17 r19 s10 z1 z2 r7 r18 s3 z3 z4 n1 n2 n3 : Nat,
    TurnC (l.getD (t - 2) 0) r17 17 ∧ TurnC (l.getD (t - 2) 0) r19 19 ∧ TurnC (l.getD (t - 15) 0) r7 7 ∧ TurnC (l.getD (t - 15) 0) r18 18 ∧
    ((l.getD (t - 2) 0 : Nat) : Int) / 1024 = (s10 : Int) ∧ ((l.getD (t - 15) 0 : Nat) : Int) / 8 = (s3 : Int) ∧
    bits BinOp.xor IntKind.u32 (r17 : Int) (r19 : Int) = (z1 : Int) ∧ bits BinOp.xor IntKind.u32 (z1 : Int) (s10 : Int) = (z2 : Int) ∧
    bits BinOp.xor IntKind.u32 (r7 : Int) (r18 : Int) = (z3 : Int) ∧ bits BinOp.xor IntKind.u32 (z3 : Int) (s3 : Int) = (z4 : Int) ∧
    IntKind.u32.wrap ((z2 : Int) + ((l.getD (t - 7) 0 : Nat) : Int)) = (n1 : Int) ∧ IntKind.u32.wrap ((n1 : Int) + (z4 : Int)) = (n2 : Int) ∧ IntKind.u32.wrap ((n2 : Int) + ((l.getD (t - 16) 0 : Nat) : Int)) = (n3 : Int) ∧ n3 = wnext l t := by
  have hy2 : l.getD (t - 2) 0 / 1024 < 4294967296 := Nat.lt_of_le_of_lt (Nat.div_le_self _ _) hy
  have hx2 : l.getD (t - 15) 0 / 8 < 4294967296 := Nat.lt_of_le_of_lt (Nat.div_le_self _ _) hx
  refine ⟨_, _, l.getD (t - 2) 0 / 1024, _, ss1 (l.getD (t - 2) 0), _, _, l.getD (t - 15) 0 / 8, _, ss0 (l.getD (t - 15) 0), (ss1 (l.getD (t - 2) 0) + l.getD (t - 7) 0) % 4294967296, (ss1 (l.getD (t - 2) 0) + l.getD (t - 7) 0 + ss0 (l.getD (t - 15) 0)) % 4294967296, wnext l t, turn_c _ 17 17 hy (by decide) (by decide) rfl, turn_c _ 19 19 hy (by decide) (by decide) rfl, turn_c _ 7 7 hx (by decide) (by decide) rfl, turn_c _ 18 18 hx (by decide) (by decide) rfl, by omega, by omega, u32_xor_nat _ _ (rotr_lt hy) (rotr_lt hy), u32_xor_nat _ _ (xor_lt (rotr_lt hy) (rotr_lt hy)) hy2, u32_xor_nat _ _ (rotr_lt hx) (rotr_lt hx), u32_xor_nat _ _ (xor_lt (rotr_lt hx) (rotr_lt hx)) hx2, ?_, ?_, ?_, rfl⟩
  · rw [IntKind.wrap_u32']; omega
  · rw [IntKind.wrap_u32']; omega
  · unfold wnext; rw [IntKind.wrap_u32']; omega
theorem chf_lt {e f g : Nat} (he : e < 4294967296) (_hf : f < 4294967296) : chf e f g < 4294967296 := xor_lt (and_lt he) (and_lt (xor_lt he (by decide)))
theorem majf_lt {a b c : Nat} (ha : a < 4294967296) (hb : b < 4294967296) : majf a b c < 4294967296 := xor_lt (xor_lt (and_lt ha) (and_lt ha)) (and_lt hb)
/-- One round, letter by letter. -/
theorem round_letters (a b c d e f g h k w : Nat) (ha : a < 4294967296) (hb : b < 4294967296) (hc : c < 4294967296) (he : e < 4294967296) (hf : f < 4294967296) (hg : g < 4294967296) :
    ∃ r6 r11 r25 y1 y2 p1 ne p2 p3 o1 o2 o3 o4 r2 r13 r22 t1 t2 q1 q2 q3 q4 q5 tw n0 n4 : Nat,
    (TurnC e r6 6 ∧ TurnC e r11 11 ∧ TurnC e r25 25 ∧ bits BinOp.xor IntKind.u32 (r6 : Int) (r11 : Int) = (y1 : Int) ∧ bits BinOp.xor IntKind.u32 (y1 : Int) (r25 : Int) = (y2 : Int)) ∧
    (bits BinOp.and IntKind.u32 (e : Int) (f : Int) = (p1 : Int) ∧ bits BinOp.xor IntKind.u32 (e : Int) 4294967295 = (ne : Int) ∧ bits BinOp.and IntKind.u32 (ne : Int) (g : Int) = (p2 : Int) ∧ bits BinOp.xor IntKind.u32 (p1 : Int) (p2 : Int) = (p3 : Int)) ∧
    (IntKind.u32.wrap ((h : Int) + (y2 : Int)) = (o1 : Int) ∧ IntKind.u32.wrap ((o1 : Int) + (p3 : Int)) = (o2 : Int) ∧ IntKind.u32.wrap ((o2 : Int) + (k : Int)) = (o3 : Int) ∧ IntKind.u32.wrap ((o3 : Int) + (w : Int)) = (o4 : Int)) ∧
    (TurnC a r2 2 ∧ TurnC a r13 13 ∧ TurnC a r22 22 ∧ bits BinOp.xor IntKind.u32 (r2 : Int) (r13 : Int) = (t1 : Int) ∧ bits BinOp.xor IntKind.u32 (t1 : Int) (r22 : Int) = (t2 : Int)) ∧
    (bits BinOp.and IntKind.u32 (a : Int) (b : Int) = (q1 : Int) ∧ bits BinOp.and IntKind.u32 (a : Int) (c : Int) = (q2 : Int) ∧ bits BinOp.and IntKind.u32 (b : Int) (c : Int) = (q3 : Int) ∧ bits BinOp.xor IntKind.u32 (q1 : Int) (q2 : Int) = (q4 : Int) ∧ bits BinOp.xor IntKind.u32 (q4 : Int) (q3 : Int) = (q5 : Int)) ∧
    (IntKind.u32.wrap ((t2 : Int) + (q5 : Int)) = (tw : Int) ∧ IntKind.u32.wrap ((o4 : Int) + (tw : Int)) = (n0 : Int) ∧ IntKind.u32.wrap ((d : Int) + (o4 : Int)) = (n4 : Int)) ∧
    [n0, a, b, c, n4, e, f, g] = rstep [a, b, c, d, e, f, g, h] k w := by
  have hne : e ^^^ 4294967295 < 4294967296 := xor_lt he (by decide)
  refine ⟨_, _, _, _, bs1 e, _, _, _, chf e f g, (h + bs1 e) % 4294967296, (h + bs1 e + chf e f g) % 4294967296, (h + bs1 e + chf e f g + k) % 4294967296, (h + bs1 e + chf e f g + k + w) % 4294967296, _, _, _, _, bs0 a, _, _, _, _, majf a b c, (bs0 a + majf a b c) % 4294967296, (h + bs1 e + chf e f g + k + w + (bs0 a + majf a b c)) % 4294967296, (d + (h + bs1 e + chf e f g + k + w)) % 4294967296,
    ⟨turn_c _ 6 6 he (by decide) (by decide) rfl, turn_c _ 11 11 he (by decide) (by decide) rfl, turn_c _ 25 25 he (by decide) (by decide) rfl, u32_xor_nat _ _ (rotr_lt he) (rotr_lt he), u32_xor_nat _ _ (xor_lt (rotr_lt he) (rotr_lt he)) (rotr_lt he)⟩,
    ⟨u32_and_nat _ _ he hf, u32_xor_nat _ _ he (by decide), u32_and_nat _ _ hne hg, u32_xor_nat _ _ (and_lt he) (and_lt hne)⟩, ⟨?_, ?_, ?_, ?_⟩,
    ⟨turn_c _ 2 2 ha (by decide) (by decide) rfl, turn_c _ 13 13 ha (by decide) (by decide) rfl, turn_c _ 22 22 ha (by decide) (by decide) rfl, u32_xor_nat _ _ (rotr_lt ha) (rotr_lt ha), u32_xor_nat _ _ (xor_lt (rotr_lt ha) (rotr_lt ha)) (rotr_lt ha)⟩,
    ⟨u32_and_nat _ _ ha hb, u32_and_nat _ _ ha hc, u32_and_nat _ _ hb hc, u32_xor_nat _ _ (and_lt ha) (and_lt ha), u32_xor_nat _ _ (xor_lt (and_lt ha) (and_lt ha)) (and_lt hb)⟩, ⟨?_, ?_, ?_⟩, rfl⟩
  all_goals (rw [IntKind.wrap_u32']; omega)
theorem rstep_len {V : List Nat} {k w : Nat} (h : V.length = 8) : (rstep V k w).length = 8 ∧ ((∀ x ∈ V, x < 4294967296) → ∀ x ∈ rstep V k w, x < 4294967296) := by
  match V, h with
  | [a, b, c, d, e, f, g, h], _ =>
    refine ⟨rfl, fun hl x hx => ?_⟩
    unfold rstep at hx
    simp only [List.mem_cons, List.not_mem_nil, or_false] at hx
    rcases hx with rfl | rfl | rfl | rfl | rfl | rfl | rfl | rfl
    · exact Nat.mod_lt _ (by decide)
    · exact hl _ (by simp)
    · exact hl _ (by simp)
    · exact hl _ (by simp)
    · exact Nat.mod_lt _ (by decide)
    · exact hl _ (by simp)
    · exact hl _ (by simp)
    · exact hl _ (by simp)
theorem rd_len {K W v : List Nat} (h : v.length = 8) (hl : ∀ x ∈ v, x < 4294967296) (t : Nat) : (rd K W v t).length = 8 ∧ ∀ x ∈ rd K W v t, x < 4294967296 := by
  induction t with
  | zero => exact ⟨h, hl⟩
  | succ t ih => exact ⟨(rstep_len ih.1).1, (rstep_len ih.1).2 ih.2⟩
theorem list8 {V : List Nat} (h : V.length = 8) : ∃ a b c d e f g h, V = [a, b, c, d, e, f, g, h] := by
  match V, h with
  | [a, b, c, d, e, f, g, h], _ => exact ⟨a, b, c, d, e, f, g, h, rfl⟩
/-- Eight words from the beginning of block b on. -/
def Oct (w : World) (b : Nat) (V : List Nat) : Prop := b < w.heap.size ∧ ∀ j, j < 8 → w.cell? ⟨b, j, none⟩ = some (.int .u32 ((V.getD j 0 : Nat) : Int))
theorem Oct.ext {w w' : World} {b : Nat} {V : List Nat} (h : Oct w b V) (hx : Ext w w') : Oct w' b V := ⟨Nat.lt_of_lt_of_le h.1 hx.size, fun j hj => later hx (h.2 j hj)⟩
theorem Oct.new (w : World) (t : TypeId) (a b c d e f g h : Nat) : Oct (w.alloc (.cells #[.int .u32 (a : Int), .int .u32 (b : Int), .int .u32 (c : Int), .int .u32 (d : Int), .int .u32 (e : Int), .int .u32 (f : Int), .int .u32 (g : Int), .int .u32 (h : Int)] t)) w.heap.size [a, b, c, d, e, f, g, h] := by
  refine ⟨by simp, fun j hj => ?_⟩
  rw [World.cell?_alloc_at _ _ _ _ rfl]
  have : j = 0 ∨ j = 1 ∨ j = 2 ∨ j = 3 ∨ j = 4 ∨ j = 5 ∨ j = 6 ∨ j = 7 := by omega
  rcases this with rfl | rfl | rfl | rfl | rfl | rfl | rfl | rfl <;> rfl
theorem block_get (K : List Nat) (B : Nat → Nat) {h : List Nat} (h8 : h.length = 8) (hl : ∀ x ∈ h, x < 4294967296) {i : Nat} (hi : i < 8) : (blockF K B h).getD i 0 = (h.getD i 0 + (rd K (wl B 64) h 64).getD i 0) % 4294967296 := by
  have hr := (rd_len (K := K) (W := wl B 64) h8 hl 64).1
  unfold blockF
  generalize rd K (wl B 64) h 64 = V at *
  obtain ⟨a, b, c, d, e, f, g, x, rfl⟩ := list8 h8
  obtain ⟨a', b', c', d', e', f', g', x', rfl⟩ := list8 hr
  have : i = 0 ∨ i = 1 ∨ i = 2 ∨ i = 3 ∨ i = 4 ∨ i = 5 ∨ i = 6 ∨ i = 7 := by omega
  rcases this with rfl | rfl | rfl | rfl | rfl | rfl | rfl | rfl <;> rfl
end Go.Proofs.YtpfeakdpckmcgaaDoor
