/-
  Powers by four bits at a time: no Go's function is named here.
-/
import Derived.Test.YtmpcoohinppdhaaDoorTab
import Derived.WalkMore
import Derived.ScopeJumps
namespace Go.Proofs.YtmpcoohinppdhaaDoor
open Go.RowKit
theorem and15 (x : Int) (h : Lim x) : bits BinOp.and IntKind.u64 x 15 = x % 16 := by
  have := bits_mask .u64 64 (by decide) (fun n p q => by rw [IntKind.wrap_u64]; have : (2 : Int) ^ 64 = 18446744073709551616 := by decide
                                                         omega) 4 (by decide) x h.1 (by rw [show (2 : Int) ^ 64 = 18446744073709551616 from by decide]; exact h.2)
  rw [show (2 : Int) ^ 4 - 1 = 15 from by decide, show (2 : Int) ^ 4 = 16 from by decide] at this
  exact this
theorem nib_ok {e0 e1 e2 e3 : Int} (he : Lim4 e0 e1 e2 e3) (j : Nat) (hj : j < 64) : bits BinOp.and IntKind.u64 (wd e0 e1 e2 e3 (4 * j / 64) / 2 ^ (4 * j % 64)) 15 = ((((val e0 e1 e2 e3).toNat / 16 ^ j % 16 : Nat)) : Int) := by
  have hl := wd_lim he (4 * j / 64)
  have hq : 4 * j / 64 = j / 16 := by omega
  have hr : 4 * j % 64 = 4 * (j % 16) := by omega
  have h2 : (0 : Int) < 2 ^ (4 * j % 64) := Int.pow_pos (by decide)
  rw [and15 _ (by
    unfold Lim at *
    refine ⟨Int.ediv_nonneg hl.1 (Int.le_of_lt h2), Int.lt_of_le_of_lt (Int.ediv_le_self _ hl.1) hl.2⟩)]
  have hn := nibble he (j / 16) (j % 16) (by omega) (by omega)
  rw [show 16 * (j / 16) + j % 16 = j from by omega] at hn
  rw [hq, hr]
  unfold wd
  rw [hn]
  have h0 := (val_bd he).1
  obtain ⟨E, hE⟩ := Int.eq_ofNat_of_zero_le h0
  rw [hE]
  simp
theorem sq_step {X : Int} {k : Nat} {s0 s1 s2 s3 r0 r1 r2 r3 : Int} (h : FMod (X ^ k * B256) s0 s1 s2 s3) (hr : FMod (val s0 s1 s2 s3 * val s0 s1 s2 s3 * RI) r0 r1 r2 r3) : FMod (X ^ (k + k) * B256) r0 r1 r2 r3 := by
  have := prod_scaled h h hr
  rwa [← Int.pow_add] at this
theorem mul_step {X : Int} {k d : Nat} {s0 s1 s2 s3 t0 t1 t2 t3 r0 r1 r2 r3 : Int} (h : FMod (X ^ k * B256) s0 s1 s2 s3) (ht : FMod (X ^ d * B256) t0 t1 t2 t3) (hr : FMod (val s0 s1 s2 s3 * val t0 t1 t2 t3 * RI) r0 r1 r2 r3) : FMod (X ^ (k + d) * B256) r0 r1 r2 r3 := by
  have := prod_scaled h ht hr
  rwa [← Int.pow_add] at this
theorem exp_step (E j : Nat) : E / 16 ^ j = 16 * (E / 16 ^ (j + 1)) + E / 16 ^ j % 16 := by
  rw [Nat.pow_succ, ← Nat.div_div_eq_div_mul]
  omega
theorem row_wd {w : World} {b : Nat} {e0 e1 e2 e3 : Int} (h : Row w b e0 e1 e2 e3) (i : Nat) (hi : i < 4) : w.cell? ⟨b, i, none⟩ = some (.int .u64 (wd e0 e1 e2 e3 i)) := by
  obtain ⟨_, c0, c1, c2, c3⟩ := h
  have : i = 0 ∨ i = 1 ∨ i = 2 ∨ i = 3 := by omega
  rcases this with rfl | rfl | rfl | rfl <;> assumption
theorem scope_jumps2 {P : Program} {a : Act} {w : World} {Q : Exit → Act → World → Prop} {c rest : Code} (l : Nat) (J : Act → World → Prop) (μ : Act → World → Nat) (hf : findLabel c l = some (Code.skip.seq rest))
    (pass : ∀ a w, J a w → rest.wp P (Exit.jump l (fun a' w' => J a' w' ∧ μ a' w' < μ a w) Q) a w)
    (first : (∀ a w, J a w → rest.wp P (Exit.jump l J Q) a w) → c.wp P (Exit.jump l J Q) a w) : (Code.scope c).wp P Q a w :=
  wp_scope_jumps l J μ hf (first fun a w h => wp_mono (pass a w h) fun e a' w' hq => by
    cases e <;> first | exact hq | exact ⟨hq.1, hq.2.1⟩) fun a w h => wp_seq (wp_skip (pass a w h))
end Go.Proofs.YtmpcoohinppdhaaDoor
