/-
  hmac.mac, called with a key that fits: the sum of the key xored and the inner sum; nothing old is turned.
-/
import Derived.Test.YtpfeakdpckmcgaaDoorHmA
import Derived.Test.YtpfeakdpckmcgaaDoorHmB
import Derived.Test.YtpfeakdpckmcgaaDoorJoin
namespace Go.Proofs.YtpfeakdpckmcgaaDoor
set_option maxRecDepth 10000
open Go.RowKit
/-- The bytes of a key's block, each xored. -/
def maskS (T : Nat → Nat) (x : Nat) : ByteArray := mkS (fun i => T i ^^^ x) 64
def macT (T : Nat → Nat) (s : ByteArray) : ByteArray := shaS (maskS T 92 ++ shaS (maskS T 54 ++ s))
theorem macT_fit (key s : ByteArray) : macT (fitB key) s = macS key s := rfl
theorem two_cells (w : World) (x y : ByteArray) (t : TypeId) : (w.alloc (.cells #[.string x, .string y] t)).cell? ⟨w.heap.size, 0, none⟩ = some (.string x) ∧ (w.alloc (.cells #[.string x, .string y] t)).cell? ⟨w.heap.size, 1, none⟩ = some (.string y) ∧ w.heap.size < (w.alloc (.cells #[.string x, .string y] t)).heap.size :=
  ⟨by rw [World.cell?_alloc_at _ _ _ _ rfl]; rfl, by rw [World.cell?_alloc_at _ _ _ _ rfl]; rfl, by simp⟩
def JoinC (x y : ByteArray) (r : ByteArray) : Prop := ∀ W : World, Calls Tryd.prog 54 #[.slice (some ⟨W.heap.size, 0, none⟩) 2 2] (W.alloc (.cells #[.string x, .string y] 9)) fun e w' => e = .returned (.string r) ∧ Ext W w'
theorem joinC (x y : ByteArray) (hs : x.size + y.size ≤ 100000) : JoinC x y (x ++ y) := fun W => by
  obtain ⟨c0, c1, hl⟩ := two_cells W x y 9
  refine (join2_any x y hs _ _ hl c0 c1).mono ?_
  rintro e w' ⟨h, HX⟩
  exact ⟨h, ((Ext.refl _).alloc _).trans HX⟩
def MaskC (T : Nat → Nat) (x : Int) (r : ByteArray) : Prop := ∀ W : World, Calls Tryd.prog 55 #[.agg (lst .u8 T 64).toArray, .int .u8 x] W fun e w' => e = .returned (.string r) ∧ Ext W w'
def SumC (s r : ByteArray) : Prop := ∀ W : World, SGl W → Calls Tryd.prog 53 #[.string s] W fun e w' => e = .returned (.string r) ∧ Ext W w'
set_option maxRecDepth 100000 in
set_option maxHeartbeats 1000000 in
theorem mac_any (T : Nat → Nat) (hT : ∀ j, T j < 256) (s : ByteArray) (hs : s.size ≤ 4500) (w : World) (hG : SGl w) :
    Calls Tryd.prog 49 #[.agg (lst .u8 T 64).toArray, .string s] w fun e w' => e = .returned (.string (macT T s)) ∧ Ext w w' := by
  have z92 : (maskS T 92).size = 64 := mkS_size _ _
  have z54 : (maskS T 54).size = 64 := mkS_size _ _
  have M92 : Hid (MaskC T 92 (maskS T 92)) := fun W => masked_any T hT 92 (by decide) W
  have M54 : Hid (MaskC T 54 (maskS T 54)) := fun W => masked_any T hT 54 (by decide) W
  have J1 : Hid (JoinC (maskS T 54) s (maskS T 54 ++ s)) := joinC _ _ (by omega)
  have zi : (shaS (maskS T 54 ++ s)).size = 32 := shaS_size _
  have J2 : Hid (JoinC (maskS T 92) (shaS (maskS T 54 ++ s)) (maskS T 92 ++ shaS (maskS T 54 ++ s))) := joinC _ _ (by omega)
  have S1 : Hid (SumC (maskS T 54 ++ s) (shaS (maskS T 54 ++ s))) := fun W hW => ssum_any _ (by rw [ByteArray.size_append]; omega) W hW
  have S2 : Hid (SumC (maskS T 92 ++ shaS (maskS T 54 ++ s)) (macT T s)) := fun W hW => ssum_any _ (by rw [ByteArray.size_append]; omega) W hW
  generalize macT T s = O at *
  generalize maskS T 92 ++ shaS (maskS T 54 ++ s) = A2 at *
  generalize shaS (maskS T 54 ++ s) = I at *
  generalize maskS T 54 ++ s = A1 at *
  generalize maskS T 54 = P54 at *
  generalize maskS T 92 = P92 at *
  clear z92 z54 zi hT hs
  have HR0 : Hid (RowH (w.alloc (.cells (lst .u8 T 64).toArray 89)) w.heap.size 89 .u8 64 T) := heap_alloc_new w _
  have HE0 : Hid (Ext w (w.alloc (.cells (lst .u8 T 64).toArray 89))) := (Ext.refl _).alloc _
  have HGw : Hid (SGl w) := hG
  clear hG
  have HR : RowH (w.alloc (.cells (lst .u8 T 64).toArray 89)) w.heap.size 89 .u8 64 T := HR0.out
  go_enter Tryd.func49, Tryd.ntmps49
  go_wp2_with (first | (refine wpList_load_row rfl 89 _ rfl w.heap.size rfl 89 (lst .u8 T 64).toArray (0, 0) _ HR Tryd.underlying89 rfl (by rw [Tryd.size89]; simp [lst_len]) ?_))
  refine (M54.out _).mono ?_
  rintro e w1 ⟨rfl, HX⟩
  have HR1 : Hid (RowH w1 w.heap.size 89 .u8 64 T) := HR0.out.ext HX
  have HE1 : Hid (Ext w w1) := HE0.out.trans HX
  clear HX HR0 HE0 HR
  go_wp2_with fail
  refine (J1.out w1).mono ?_
  rintro e w2 ⟨rfl, HX⟩
  have HR2 : Hid (RowH w2 w.heap.size 89 .u8 64 T) := HR1.out.ext HX
  have HE2 : Hid (Ext w w2) := HE1.out.trans HX
  clear HX HR1 HE1
  go_wp2_with fail
  refine (S1.out w2 (HGw.out.ext HE2.out)).mono ?_
  rintro e w3 ⟨rfl, HX⟩
  have HR3 : Hid (RowH w3 w.heap.size 89 .u8 64 T) := HR2.out.ext HX
  have HE3 : Hid (Ext w w3) := HE2.out.trans HX
  clear HX HR2 HE2
  have HR : RowH w3 w.heap.size 89 .u8 64 T := HR3.out
  go_wp2_with (first | (refine wpList_load_row rfl 89 _ rfl w.heap.size rfl 89 (lst .u8 T 64).toArray (0, 0) _ HR Tryd.underlying89 rfl (by rw [Tryd.size89]; simp [lst_len]) ?_))
  refine (M92.out _).mono ?_
  rintro e w4 ⟨rfl, HX⟩
  have HE4 : Hid (Ext w w4) := HE3.out.trans HX
  clear HX HE3 HR
  go_wp2_with fail
  refine (J2.out w4).mono ?_
  rintro e w5 ⟨rfl, HX⟩
  have HE5 : Hid (Ext w w5) := HE4.out.trans HX
  clear HX HE4
  go_wp2_with fail
  refine (S2.out w5 (HGw.out.ext HE5.out)).mono ?_
  rintro e w6 ⟨rfl, HX⟩
  have HE6 : Hid (Ext w w6) := HE5.out.trans HX
  clear HX HE5
  go_wp2
  go_ret
  exact ⟨rfl, HE6.out⟩
end Go.Proofs.YtpfeakdpckmcgaaDoor
