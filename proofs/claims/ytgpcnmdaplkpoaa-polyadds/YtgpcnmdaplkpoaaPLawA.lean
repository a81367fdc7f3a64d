/-
  PolyAdds, called: true for every input; nothing old is turned.
-/
import Derived.Test.YtgpcnmdaplkpoaaPLaws
namespace Go.Proofs.Ytgpcnmdaplkpoaa
open Go.RowKit
abbrev StrC (f : Nat) (a b r : ByteArray) : Prop := ∀ W, Calls Try.prog f #[.string a, .string b] W fun e w' => e = .returned (.tuple #[.string r, .int .i64 0]) ∧ Ext W w'
abbrev AggC (f : Nat) (a b : ByteArray) (X : Array Value) : Prop := ∀ W, Calls Try.prog f #[.string a, .string b] W fun e w' => e = .returned (.agg X) ∧ Ext W w'
set_option maxHeartbeats 1000000 in
theorem adds_walk (key other s r r2 : ByteArray) (X : Array Value) (hk1 : (key.size : Int) = 32) (ho1 : (other.size : Int) = 16) (h1 : ¬ (2000 : Int) < (s.size : Int)) (hm1 : (r.size : Int) = 16) (hm2 : (r2.size : Int) = 16)
    (hsz : ¬ 9223372036854775807 < (key.extract 0 16).size + other.size)
    (hC1 : StrC 8 key s r) (hC2 : StrC 8 (key.extract 0 16 ++ other) s r2) (hC3 : AggC 12 r (key.extract 16 key.size) X) (hC4 : AggC 12 r2 other X)
    (heq : ∀ W, (Op.equalIn 10000 32 (.agg X) (.agg X)).run Try.prog W = .ok true W) (w : World) :
    Calls Try.prog 6 #[.string key, .string other, .string s] w fun e w' => e = .returned (.bool true) ∧ Ext w w' := by
  have CA : Hid (∀ W, Calls Try.prog 7 #[] W fun e w' => e = .returned (.bool true) ∧ Ext W w') := awake_any
  have C1 : Hid (StrC 8 key s r) := hC1
  have C2 : Hid (StrC 8 (key.extract 0 16 ++ other) s r2) := hC2
  have C3 : Hid (AggC 12 r (key.extract 16 key.size) X) := hC3
  have C4 : Hid (AggC 12 r2 other X) := hC4
  clear hC1 hC2 hC3 hC4
  go_enter Try.func6, Try.ntmps6
  go_wp2_with fail
  with_reducible refine (C1.out _).mono ?_
  rintro e w1 ⟨rfl, HX⟩
  have HX1 : Hid (Ext w w1) := HX
  clear HX
  go_wp2_with fail
  with_reducible refine (C2.out _).mono ?_
  rintro e w2 ⟨rfl, HX⟩
  have HX2 : Hid (Ext w w2) := HX1.out.trans HX
  clear HX
  go_wp2_with fail
  with_reducible refine (C3.out _).mono ?_
  rintro e w3 ⟨rfl, HX⟩
  have HX3 : Hid (Ext w w3) := HX2.out.trans HX
  clear HX
  go_wp2_with fail
  with_reducible refine (C4.out _).mono ?_
  rintro e w4 ⟨rfl, HX⟩
  have HX4 : Hid (Ext w w4) := HX3.out.trans HX
  clear HX
  go_wp2_with fail
  with_reducible refine (CA.out _).mono ?_
  rintro e w5 ⟨rfl, HX⟩
  have HX5 : Hid (Ext w w5) := HX4.out.trans HX
  clear HX
  go_wp2
  go_ret
  exact ⟨rfl, HX5.out⟩
theorem adds_tag (key other s : ByteArray) (hk : key.size = 32) (ho : other.size = 16) : lst .u8 (df (sb (macS (key.extract 0 16 ++ other) s)) (sb other)) 16 = lst .u8 (df (sb (macS key s)) (sb (key.extract 16 32))) 16 :=
  lst_congr (fun j hj => (tag_less key other s hk ho j hj).symm)
theorem adds_good (key other s : ByteArray) (hk : key.size = 32) (ho : other.size = 16) (h : s.size ≤ 2000) (w : World) :
    Calls Try.prog 6 #[.string key, .string other, .string s] w fun e w' => e = .returned (.bool true) ∧ Ext w w' := by
  have hz : (key.extract 0 16).size = 16 := size_ext (by omega)
  have hz2 : (key.extract 16 32).size = 16 := size_ext (by omega)
  have hc : (key.extract 0 16 ++ other).size = 32 := by rw [cat_size, hz, ho]
  have m1 := macS_size key s
  have m2 := macS_size (key.extract 0 16 ++ other) s
  have C1 : StrC 8 key s (macS key s) := fun W => pmac_any key s hk (by omega) W
  have C2 : StrC 8 (key.extract 0 16 ++ other) s (macS (key.extract 0 16 ++ other) s) := fun W => pmac_any _ s hc (by omega) W
  have C3 : AggC 12 (macS key s) (key.extract 16 key.size) (lst .u8 (df (sb (macS key s)) (sb (key.extract 16 32))) 16).toArray := fun W => by
    rw [hk]
    exact less_any _ _ m1 hz2 W
  have C4 : AggC 12 (macS (key.extract 0 16 ++ other) s) other (lst .u8 (df (sb (macS key s)) (sb (key.extract 16 32))) 16).toArray := fun W => by
    have := less_any (macS (key.extract 0 16 ++ other) s) other m2 ho W
    rw [adds_tag key other s hk ho] at this
    exact this
  exact adds_walk key other s _ _ _ (by omega) (by omega) (by omega) (by omega) (by omega) (by omega) C1 C2 C3 C4 (fun W => run_eq16 _ W) w
set_option maxHeartbeats 1000000 in
theorem polyAdds_any (key other s : ByteArray) (w : World) :
    Calls Try.prog 6 #[.string key, .string other, .string s] w fun e w' => e = .returned (.bool true) ∧ Ext w w' := by
  have CA : Hid (∀ W, Calls Try.prog 7 #[] W fun e w' => e = .returned (.bool true) ∧ Ext W w') := awake_any
  by_cases hk : key.size = 32
  · have hk1 : (key.size : Int) = 32 := by omega
    by_cases ho : other.size = 16
    · have ho1 : (other.size : Int) = 16 := by omega
      by_cases h : s.size ≤ 2000
      · exact adds_good key other s hk ho h w
      · have h1 : (2000 : Int) < (s.size : Int) := by omega
        go_enter Try.func6, Try.ntmps6
        go_wp2_with fail
        with_reducible refine (CA.out _).mono ?_
        rintro e w1 ⟨rfl, HX⟩
        have HX1 : Hid (Ext w w1) := HX
        clear HX
        go_wp2
        go_ret
        exact ⟨rfl, HX1.out⟩
    · have ho1 : ¬ (other.size : Int) = 16 := by omega
      go_enter Try.func6, Try.ntmps6
      go_wp2_with fail
      with_reducible refine (CA.out _).mono ?_
      rintro e w1 ⟨rfl, HX⟩
      have HX1 : Hid (Ext w w1) := HX
      clear HX
      go_wp2
      go_ret
      exact ⟨rfl, HX1.out⟩
  · have hk1 : ¬ (key.size : Int) = 32 := by omega
    go_enter Try.func6, Try.ntmps6
    go_wp2_with fail
    with_reducible refine (CA.out _).mono ?_
    rintro e w1 ⟨rfl, HX⟩
    have HX1 : Hid (Ext w w1) := HX
    clear HX
    go_wp2
    go_ret
    exact ⟨rfl, HX1.out⟩
end Go.Proofs.Ytgpcnmdaplkpoaa
