/-
  Numbers modulo 2^130 - 5: no Go in this text.
-/
import Derived.Test.YtgpcnmdaplkpoaaMathC
namespace Go.Proofs.Ytgpcnmdaplkpoaa
/-- 2^130 - 5. -/
def P13 : Int := 1361129467683753853853498429727072845819
theorem val_P13 : val 18446744073709551611 18446744073709551615 3 0 = P13 := by decide
theorem lim_P13 : Lim4 18446744073709551611 18446744073709551615 3 0 := by unfold Lim4 Lim; decide
theorem P13_pos : (0 : Int) < P13 := by decide
/-- A number modulo 2^130 - 5. -/
def PMod (x r0 r1 r2 r3 : Int) : Prop := Lim4 r0 r1 r2 r3 ∧ val r0 r1 r2 r3 = x % P13
theorem PMod.less {x r0 r1 r2 r3 : Int} (h : PMod x r0 r1 r2 r3) : val r0 r1 r2 r3 < P13 := by
  rw [h.2]; exact Int.emod_lt_of_pos _ P13_pos
theorem PMod.cong {x y r0 r1 r2 r3 : Int} (h : PMod x r0 r1 r2 r3) (e : x % P13 = y % P13) : PMod y r0 r1 r2 r3 := ⟨h.1, h.2.trans e⟩
theorem pmod_less {x0 x1 x2 x3 : Int} (hx : Lim4 x0 x1 x2 x3) (h : val x0 x1 x2 x3 < P13) : PMod (val x0 x1 x2 x3) x0 x1 x2 x3 :=
  ⟨hx, (Int.emod_eq_of_lt (val_bd hx).1 h).symm⟩
theorem padd_less {x0 x1 x2 x3 y0 y1 y2 y3 s0 s1 s2 s3 : Int} {k : Bool} (hx : Lim4 x0 x1 x2 x3) (hy : Lim4 y0 y1 y2 y3) (lx : val x0 x1 x2 x3 < P13) (ly : val y0 y1 y2 y3 < P13) (hs : AddP x0 x1 x2 x3 y0 y1 y2 y3 s0 s1 s2 s3 k) : val s0 s1 s2 s3 = val x0 x1 x2 x3 + val y0 y1 y2 y3 := by
  obtain ⟨ls, es⟩ := hs
  have b1 := val_bd hx
  have b2 := val_bd hy
  have b3 := val_bd ls
  unfold P13 B256 at *
  cases k <;> simp at es <;> omega
theorem padd_small {x0 x1 x2 x3 y0 y1 y2 y3 s0 s1 s2 s3 : Int} {k : Bool} (hx : Lim4 x0 x1 x2 x3) (hy : Lim4 y0 y1 y2 y3) (lx : val x0 x1 x2 x3 < P13) (ly : val y0 y1 y2 y3 < P13) (hs : AddP x0 x1 x2 x3 y0 y1 y2 y3 s0 s1 s2 s3 k) (h : val s0 s1 s2 s3 < P13) : PMod (val x0 x1 x2 x3 + val y0 y1 y2 y3) s0 s1 s2 s3 := by
  have := padd_less hx hy lx ly hs
  rw [← this]
  exact pmod_less hs.1 h
theorem padd_great {x0 x1 x2 x3 y0 y1 y2 y3 s0 s1 s2 s3 d0 d1 d2 d3 : Int} {k c : Bool} (hx : Lim4 x0 x1 x2 x3) (hy : Lim4 y0 y1 y2 y3) (lx : val x0 x1 x2 x3 < P13) (ly : val y0 y1 y2 y3 < P13) (hs : AddP x0 x1 x2 x3 y0 y1 y2 y3 s0 s1 s2 s3 k) (h : ¬ val s0 s1 s2 s3 < P13)
    (hd : SubP s0 s1 s2 s3 18446744073709551611 18446744073709551615 3 0 d0 d1 d2 d3 c) : PMod (val x0 x1 x2 x3 + val y0 y1 y2 y3) d0 d1 d2 d3 := by
  have hq := padd_less hx hy lx ly hs
  obtain ⟨ld, ed⟩ := hd
  rw [val_P13] at ed
  have b1 := val_bd hs.1
  have b2 := val_bd ld
  refine ⟨ld, ?_⟩
  rw [← hq]
  have : val s0 s1 s2 s3 % P13 = val s0 s1 s2 s3 - P13 := by unfold P13 at *; omega
  rw [this]
  unfold P13 B256 at *
  cases c <;> simp at ed <;> omega
end Go.Proofs.Ytgpcnmdaplkpoaa
