/-
  strings.Join as this program bears it (the library's contract, laid), and the program's own variadic join of two and of three texts, called: the texts one behind the other; nothing old is turned.
-/
import Derived.Shelf.Strings.OnBuilder
import Derived.Test.YtpfeakdpckmcgaaDoorEx
namespace Go.Proofs.YtpfeakdpckmcgaaDoor
open Go.RowKit Go.Shelf
def lays156_ren : Go.Shelf.Ren := ⟨fun | 156 => 62 | 165 => 69 | 166 => 70 | 169 => 71 | 240 => 73 | 241 => 74 | 276 => 76 | 277 => 77 | n => n, fun | 31 => 104 | 9 => 9 | 3 => 3 | 4 => 4 | 0 => 0 | 20 => 20 | 72 => 110 | 76 => 114 | 70 => 108 | 37 => 62 | 75 => 113 | 127 => 117 | 164 => 118 | 5 => 5 | 80 => 116 | n => n, fun | n => n⟩
theorem lays156 : Go.Proofs.Lays.n156 Tryd.prog lays156_ren := {
  mixed := by kernel_rfl
  f156 := Tryd.func62.trans (congrArg some (by kernel_rfl))
  f165 := Tryd.func69.trans (congrArg some (by kernel_rfl))
  f166 := Tryd.func70.trans (congrArg some (by kernel_rfl))
  f169 := Tryd.func71.trans (congrArg some (by kernel_rfl))
  f240 := Tryd.func73.trans (congrArg some (by kernel_rfl))
  f241 := Tryd.func74.trans (congrArg some (by kernel_rfl))
  f276 := Tryd.func76.trans (congrArg some (by kernel_rfl))
  f277 := Tryd.func77.trans (congrArg some (by kernel_rfl))
  t0 := Tryd.underlying0
  a0 := Tryd.isAgg0
  z0 := Tryd.sizeOf0
  v0 := Tryd.zeroValue0
  t3 := Tryd.underlying3
  a3 := Tryd.isAgg3
  z3 := Tryd.sizeOf3
  v3 := Tryd.zeroValue3
  t4 := Tryd.underlying4
  a4 := Tryd.isAgg4
  z4 := Tryd.sizeOf4
  v4 := Tryd.zeroValue4
  t9 := Tryd.underlying9
  a9 := Tryd.isAgg9
  z9 := Tryd.sizeOf9
  v9 := Tryd.zeroValue9
  t20 := Tryd.underlying20
  a20 := Tryd.isAgg20
  z20 := Tryd.sizeOf20
  v20 := Tryd.zeroValue20
  t31 := Tryd.underlying104
  a31 := Tryd.isAgg104
  z31 := Tryd.sizeOf104
  v31 := Tryd.zeroValue104
  t37 := Tryd.underlying62
  a37 := Tryd.isAgg62
  z37 := Tryd.sizeOf62
  v37 := Tryd.zeroValue62
  t70 := Tryd.underlying108
  a70 := Tryd.isAgg108
  z70 := Tryd.sizeOf108
  v70 := Tryd.zeroValue108
  t72 := Tryd.underlying110
  a72 := Tryd.isAgg110
  z72 := Tryd.sizeOf110
  v72 := Tryd.zeroValue110
  t75 := Tryd.underlying113
  a75 := Tryd.isAgg113
  z75 := Tryd.sizeOf113
  v75 := Tryd.zeroValue113
  t76 := Tryd.underlying114
  a76 := Tryd.isAgg114
  z76 := Tryd.sizeOf114
  v76 := Tryd.zeroValue114
  t127 := Tryd.underlying117
  a127 := Tryd.isAgg117
  z127 := Tryd.sizeOf117
  v127 := Tryd.zeroValue117
  t164 := Tryd.underlying118
  a164 := Tryd.isAgg118
  z164 := Tryd.sizeOf118
  v164 := Tryd.zeroValue118 }
theorem bldExtra156 : Go.Proofs.Builder.Extra Tryd.prog lays156_ren := {
  sizeBuilder := by kernel_rfl
  liesBuilder := by kernel_rfl
  t5 := Tryd.underlying5
  a5 := Tryd.isAgg5
  z5 := Tryd.sizeOf5
  v5 := Tryd.zeroValue5
  infoByte := by kernel_rfl
  cellsByte := by kernel_rfl
  sizeByte := by kernel_rfl
  neB5 := by decide }
theorem sjoin_any (bk c : Nat) (xs : List ByteArray) (w : World) (hcells : ∀ (j : Nat) x, xs[j]? = some x → w.cell? ⟨bk, 0 + j, none⟩ = some (.string x)) (hbk : bk < w.heap.size) (hN : xs.length ≤ 140737488355328) (hcap : xs.length ≤ c) (hlen : (Lib.join (xs.map (·.data.toList)) []).length ≤ 140737488355328) :
    Calls Tryd.prog 62 #[.slice (some ⟨bk, 0, none⟩) xs.length c, .string ⟨#[]⟩] w fun e w' => e = .returned (.string ⟨(Lib.join (xs.map (·.data.toList)) []).toArray⟩) ∧ Ext w w' :=
  Any.strings_Join lays156 bldExtra156 bk 0 c xs ⟨#[]⟩ w hcells hbk hN hcap hlen
theorem join_two (x y : ByteArray) : (⟨(Lib.join ([x, y].map (·.data.toList)) []).toArray⟩ : ByteArray) = x ++ y := by
  apply ByteArray.ext
  apply Array.ext'
  simp [Lib.join, List.intercalate]
theorem join_three (x y z : ByteArray) : (⟨(Lib.join ([x, y, z].map (·.data.toList)) []).toArray⟩ : ByteArray) = x ++ y ++ z := by
  apply ByteArray.ext
  apply Array.ext'
  simp [Lib.join, List.intercalate]
theorem jlen_two (x y : ByteArray) : (Lib.join ([x, y].map (·.data.toList)) []).length = x.size + y.size := by
  have h := congrArg ByteArray.size (join_two x y)
  rw [ByteArray.size_append] at h
  exact h
theorem jlen_three (x y z : ByteArray) : (Lib.join ([x, y, z].map (·.data.toList)) []).length = x.size + y.size + z.size := by
  have h := congrArg ByteArray.size (join_three x y z)
  rw [ByteArray.size_append, ByteArray.size_append] at h
  exact h
set_option maxHeartbeats 400000 in
theorem join2_any (x y : ByteArray) (hs : x.size + y.size ≤ 100000) (bk : Nat) (w : World) (hbk : bk < w.heap.size) (h0 : w.cell? ⟨bk, 0, none⟩ = some (.string x)) (h1 : w.cell? ⟨bk, 1, none⟩ = some (.string y)) :
    Calls Tryd.prog 54 #[.slice (some ⟨bk, 0, none⟩) 2 2] w fun e w' => e = .returned (.string (x ++ y)) ∧ Ext w w' := by
  have hC : Calls Tryd.prog 62 #[.slice (some ⟨bk, 0, none⟩) 2 2, .string ⟨#[]⟩] w fun e w' => e = .returned (.string (x ++ y)) ∧ Ext w w' := by
    have h := sjoin_any bk 2 [x, y] w (fun j z hj => by
      match j, hj with
      | 0, hj => cases hj; exact h0
      | 1, hj => cases hj; exact h1) hbk (by simp) (by simp) (by rw [jlen_two]; omega)
    rw [join_two] at h
    exact h
  have HC : Hid (Calls Tryd.prog 62 #[.slice (some ⟨bk, 0, none⟩) 2 2, .string ⟨#[]⟩] w fun e w' => e = .returned (.string (x ++ y)) ∧ Ext w w') := hC
  clear hC h0 h1 hs
  generalize x ++ y = r at *
  go_enter Tryd.func54, Tryd.ntmps54
  go_wp2_with fail
  refine HC.out.mono ?_
  rintro e w1 ⟨rfl, HX⟩
  have HX1 : Hid (Ext w w1) := HX
  clear HX
  go_wp2
  go_ret
  exact ⟨rfl, HX1.out⟩
set_option maxHeartbeats 400000 in
theorem join3_any (x y z : ByteArray) (hs : x.size + y.size + z.size ≤ 100000) (bk : Nat) (w : World) (hbk : bk < w.heap.size) (h0 : w.cell? ⟨bk, 0, none⟩ = some (.string x)) (h1 : w.cell? ⟨bk, 1, none⟩ = some (.string y)) (h2 : w.cell? ⟨bk, 2, none⟩ = some (.string z)) :
    Calls Tryd.prog 54 #[.slice (some ⟨bk, 0, none⟩) 3 3] w fun e w' => e = .returned (.string (x ++ y ++ z)) ∧ Ext w w' := by
  have hC : Calls Tryd.prog 62 #[.slice (some ⟨bk, 0, none⟩) 3 3, .string ⟨#[]⟩] w fun e w' => e = .returned (.string (x ++ y ++ z)) ∧ Ext w w' := by
    have h := sjoin_any bk 3 [x, y, z] w (fun j u hj => by
      match j, hj with
      | 0, hj => cases hj; exact h0
      | 1, hj => cases hj; exact h1
      | 2, hj => cases hj; exact h2) hbk (by simp) (by simp) (by rw [jlen_three]; omega)
    rw [join_three] at h
    exact h
  have HC : Hid (Calls Tryd.prog 62 #[.slice (some ⟨bk, 0, none⟩) 3 3, .string ⟨#[]⟩] w fun e w' => e = .returned (.string (x ++ y ++ z)) ∧ Ext w w') := hC
  clear hC h0 h1 h2 hs
  generalize x ++ y ++ z = r at *
  go_enter Tryd.func54, Tryd.ntmps54
  go_wp2_with fail
  refine HC.out.mono ?_
  rintro e w1 ⟨rfl, HX⟩
  have HX1 : Hid (Ext w w1) := HX
  clear HX
  go_wp2
  go_ret
  exact ⟨rfl, HX1.out⟩
end Go.Proofs.YtpfeakdpckmcgaaDoor
