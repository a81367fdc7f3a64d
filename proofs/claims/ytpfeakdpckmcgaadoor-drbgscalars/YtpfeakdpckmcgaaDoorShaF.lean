/-
  sha.Blocks, called: how many blocks; the world stays. And what copying a text into a row of bytes leaves.
-/
import Derived.Test.YtpfeakdpckmcgaaDoorShaW
import Derived.Test.YtpfeakdpckmcgaaDoorPads
import Derived.Test.YtpfeakdpckmcgaaDoorShaX
import Derived.Laws.CopyRow
namespace Go.Proofs.YtpfeakdpckmcgaaDoor
open Go.RowKit
/-- 'copy(b[:], s)' into a row of n bytes: as many of s's bytes as fit; the rest of the row stays. -/
theorem run_copy_text {P : Program} (w : World) (dT sT ty elem t : TypeId) (g n c : Nat) (s : ByteArray) (T : Nat → Nat)
    (hu : P.underlying dT = some (.slice elem)) (hs : (P.info? elem).map (·.size) = some 1) (hg : RowH w g t .u8 n T) :
    (Builtin.copy_ #[dT, sT] ty #[.slice (some ⟨g, 0, none⟩) n c, .string s]).run P w =
      .ok (goInt ((Nat.min s.size n : Nat) : Int)) (w.setRow g (lst .u8 (fun j => if j < s.size then sb s j else T j) n).toArray) := by
  have hcs : List.take (Nat.min s.size n) (List.map (fun b : UInt8 => Value.int IntKind.u8 (b.toNat : Int)) s.data.toList) = lst .u8 (sb s) (min s.size n) := by
    apply List.ext_getElem?
    intro k
    by_cases hk : k < min s.size n
    · have hk2 : k < Nat.min s.size n := hk
      have hk3 : k < s.size := by omega
      rw [lst_get hk, List.getElem?_take, if_pos hk2, List.getElem?_map]
      have : s.data.toList[k]? = some s[k] := by
        rw [List.getElem?_eq_getElem (by simpa using hk3)]
        rfl
      rw [this]
      simp [sb, hk3]
      rfl
    · have hk2 : ¬ k < Nat.min s.size n := hk
      rw [List.getElem?_take, if_neg hk2, List.getElem?_eq_none (by rw [lst_len]; omega)]
  have hlen : (lst .u8 (sb s) (min s.size n)).length = min s.size n := lst_len _ _ _
  have hst := run_storeCells_at P g 0 t (lst .u8 (sb s) (min s.size n)) 0 (lst .u8 T n).toArray w hg (by rw [hlen]; simp [lst_len]; omega) (fun v hv => by
    simp [lst] at hv
    obtain ⟨i, _, rfl⟩ := hv
    rfl)
  rw [hlen] at hst
  simp only [Nat.add_zero, Nat.zero_add, List.take_zero, List.nil_append] at hst
  have hrow : (lst .u8 (sb s) (min s.size n) ++ List.drop (min s.size n) (lst .u8 T n)) = lst .u8 (fun j => if j < s.size then sb s j else T j) n := by
    apply List.ext_getElem?
    intro k
    by_cases hk : k < min s.size n
    · rw [List.getElem?_append_left (by rw [hlen]; exact hk), lst_get hk, lst_get (by omega), if_pos (by omega)]
    · rw [List.getElem?_append_right (by rw [hlen]; omega), hlen, List.getElem?_drop, show min s.size n + (k - min s.size n) = k from by omega]
      by_cases hk2 : k < n
      · rw [lst_get hk2, lst_get hk2, if_neg (by omega)]
      · rw [List.getElem?_eq_none (by rw [lst_len]; omega), List.getElem?_eq_none (by rw [lst_len]; omega)]
  cases hq : P.info? elem with
  | none => simp [hq] at hs
  | some i =>
    simp [Builtin.copy_, run_underlying hu, Builtin.lenOf, Builtin.firstCells, sizeOf, typeInfo, hq]
    rw [hcs, hst]
    simp [Result.andThen, hrow]
set_option maxHeartbeats 400000 in
theorem blocks_eq (n : Int) (h1 : -9223372036854775808 ≤ n) (h2 : n ≤ 9223372036854775807) (w : World) :
    Calls Tryd.prog 57 #[.int .i64 n] w fun e w' => e = .returned (.int .i64 (blkI n)) ∧ w' = w := by
  by_cases hn : n < 0
  · have HB : Hid (blkI n = 0) := if_pos (Or.inl hn)
    go_enter Tryd.func57, Tryd.ntmps57
    go_wp2
    go_ret
    exact ⟨by rw [HB.out]; rfl, rfl⟩
  · by_cases hm : 1152921504606846976 < n
    · have HB : Hid (blkI n = 0) := if_pos (Or.inr hm)
      go_enter Tryd.func57, Tryd.ntmps57
      go_wp2
      go_ret
      exact ⟨by rw [HB.out]; rfl, rfl⟩
    · have HB : Hid (blkI n = (n + 8) / 64 + 1) := if_neg (by omega)
      have a1 : IntKind.i64.wrap (n + 8) = n + 8 := by rw [IntKind.wrap_i64]; omega
      have a2 : (n + 8).tdiv 64 = (n + 8) / 64 := Int.tdiv_eq_ediv_of_nonneg (by omega)
      have a3 : IntKind.i64.wrap ((n + 8) / 64 + 1) = (n + 8) / 64 + 1 := by rw [IntKind.wrap_i64]; omega
      go_enter Tryd.func57, Tryd.ntmps57
      go_wp2
      go_ret
      exact ⟨by rw [HB.out]; rfl, rfl⟩
end Go.Proofs.YtpfeakdpckmcgaaDoor
