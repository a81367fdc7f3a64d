/-
  What the package's variable holds when the call begins, as the rows list it, read as the walks want it; and that the door's own run lays just that.
-/
import Derived.Test.YtbcgipapbamgfaaDoorOpen
import Derived.Test.YtbcgipapbamgfaaDoorCParts
import Derived.LaidMore
import Derived.Lib.LaidTab
import Derived.Stop.LaidErr
import Derived.MakeChecks
namespace Go.Proofs.YtbcgipapbamgfaaDoor
open Go.ChangeShapes Go.WideShapes Go.ChangeAt Go.RowKit
/-- The list of the rows. -/
def laidL : List (String × DataW Unit) := [("sandglass/chacha.quarters", Rows.laid_sandglass_chacha_quarters)]
theorem gv0 : Tryd.prog.globalNamed "sandglass/chacha.quarters" = some 0 := by kernel_rfl
theorem gt0 : (Tryd.prog.globals[0]?).map (·.type) = some 113 := by kernel_rfl
/-- A table of tables, cell for cell. -/
theorem cells_of_tab2 {H : Type} {enc : TypeId × Value → H} {P : Program} {w : World} {base : Nat} {sp : Nat → Bool} {held : Bool} {fuel : Nat} {t e f : TypeId} {n m : Nat} {k : IntKind} {cs : List Value} {zss : List (List Int)} {p : List MemPlace}
    (ht : P.underlying t = some (.array n e)) (he : P.underlying e = some (.array m f)) (hf : P.underlying f = some (.int k)) (hcf : P.cellsOf f = 1) (hce : P.cellsOf e = m) (hct : P.cellsOf t = n * m)
    (h : DataW.trod enc P w base sp held fuel t cs = some (.agg (zss.map (Lib.tabData k)), p)) : cs.length = n * m ∧ ∀ i zs, zss[i]? = some zs → i < n → (cs.drop (i * m)).take m = zs.map fun z => Value.int k z := by
  cases fuel with
  | zero => simp [DataW.trod] at h
  | succ fuel =>
    simp only [DataW.trod, ht, hce, hct] at h
    split at h
    · rename_i hl
      obtain ⟨xs, hm, hx⟩ := Option.map_eq_some_iff.1 h
      have hxs : xs.map (·.1) = zss.map (Lib.tabData k) := by
        have := congrArg Prod.fst hx
        simpa using this
      refine ⟨by simpa using hl, fun i zs hz hi => ?_⟩
      obtain ⟨b, hb, hfb⟩ := Lib.mapM_at hm i i (by simp [hi])
      have h2 : (xs.map (·.1))[i]? = some b.1 := by simp [hb]
      rw [hxs] at h2
      have h3 : b.1 = Lib.tabData k zs := by simpa [hz] using h2.symm
      obtain ⟨b1, b2⟩ := b
      simp only at h3
      subst h3
      exact Lib.cells_of_tab he hf hcf hce hfb
    · cases h
def QR : List (List Int) := [[0, 4, 8, 12], [1, 5, 9, 13], [2, 6, 10, 14], [3, 7, 11, 15], [0, 5, 10, 15], [1, 6, 11, 12], [2, 7, 8, 13], [3, 4, 9, 14]]
theorem cells_join {cs : List Value} (hl : cs.length = 8 * 4) (h : ∀ i zs, QR[i]? = some zs → i < 8 → (cs.drop (i * 4)).take 4 = zs.map fun z => Value.int .i64 z) : cs = lst .i64 qf 32 := by
  have e : ∀ (l : List Value) (a : List Value), l.take 4 = a → l = a ++ l.drop 4 := fun l a h => by rw [← h, List.take_append_drop]
  have h0 := e _ _ (h 0 _ rfl (by decide))
  have h1 := e _ _ (h 1 _ rfl (by decide))
  have h2 := e _ _ (h 2 _ rfl (by decide))
  have h3 := e _ _ (h 3 _ rfl (by decide))
  have h4 := e _ _ (h 4 _ rfl (by decide))
  have h5 := e _ _ (h 5 _ rfl (by decide))
  have h6 := e _ _ (h 6 _ rfl (by decide))
  have h7 := e _ _ (h 7 _ rfl (by decide))
  have h8 : cs.drop 32 = [] := List.drop_eq_nil_of_le (by omega)
  simp only [List.drop_drop, List.drop_zero, Nat.zero_mul, Nat.one_mul, Nat.reduceMul, Nat.reduceAdd] at h0 h1 h2 h3 h4 h5 h6 h7
  rw [h0, h1, h2, h3, h4, h5, h6, h7, h8]
  rfl
set_option maxRecDepth 100000 in
theorem gl_of_laid {W : World} (h : laidMetH Tryd.prog laidL W) : Gl W := by
  rw [MakeChecks.laidMetH_plain _ _ _ (by kernel_rfl)] at h
  obtain ⟨ps, ⟨g', t', cs, fuel, p, q, hg', ht', hvar, hd, _, _⟩, _⟩ := h
  obtain rfl := Option.some.inj (gv0.symm.trans hg')
  obtain rfl := Option.some.inj (gt0.symm.trans ht')
  have hc := cells_of_tab2 (zss := QR) Tryd.underlying113 Tryd.underlying112 Tryd.underlying3 Tryd.cells3o Tryd.cells112o Tryd.cells113o hd
  have hcs := cells_join hc.1 hc.2
  unfold World.var? at hvar
  rw [gv0] at hvar
  simp only [Option.bind_some] at hvar
  split at hvar
  · rename_i cs' t fr hb
    obtain rfl := Option.some.inj hvar
    exact ⟨t, fr, by rw [← hcs]; simpa using hb⟩
  · cases hvar
theorem door_met (os : Os) (args : Array Value) : laidMetH Tryd.prog laidL ((World.doorLaid Tryd.prog 400 os).forCall (fun _ _ => 0) ⟨#[], args, []⟩).memory :=
  laidMetH_of_parts3 (fuel := 8) (laidMet_of_run' 8 (by kernel_rfl) (by kernel_rfl)) (by kernel_rfl) (by kernel_rfl)
end Go.Proofs.YtbcgipapbamgfaaDoor
