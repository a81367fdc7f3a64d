/-
  What the package's variables hold, as a fact of the world. No function of the program is named here.
  How many blocks n bytes have. No function of the program is named here.
  Eight words behind any number of blocks: eight, each less than 2^32. No function of the program is named here.
  sha.right, the four sigmas, choice, majority, called: what the definition says; the world stays.
-/
import Derived.Test.YtpfeakdpckmcgaaDoorTabx
import Derived.Test.YtpfeakdpckmcgaaDoorEx
import Derived.Test.YtpfeakdpckmcgaaDoorBlockMath
namespace Go.Proofs.YtpfeakdpckmcgaaDoor
open Go.RowKit
/-- The package's variables hold what their initialisers lay. -/
def SGl (w : World) : Prop := 2 < w.heap.size ∧ (∀ k, k < 8 → w.cell? ⟨1, k, none⟩ = some (.int .u32 ((HH.getD k 0 : Nat) : Int))) ∧ ∀ k, k < 64 → w.cell? ⟨2, k, none⟩ = some (.int .u32 ((KK.getD k 0 : Nat) : Int))
theorem SGl.ext {w w' : World} (h : SGl w) (hx : Ext w w') : SGl w' := ⟨Nat.lt_of_lt_of_le h.1 hx.size, fun k hk => later hx (h.2.1 k hk), fun k hk => later hx (h.2.2 k hk)⟩
end Go.Proofs.YtpfeakdpckmcgaaDoor
namespace Go.Proofs.YtpfeakdpckmcgaaDoor
/-- How many blocks n bytes have, as the document says it. -/
def blkI (n : Int) : Int := if n < 0 ∨ 1152921504606846976 < n then 0 else (n + 8) / 64 + 1
end Go.Proofs.YtpfeakdpckmcgaaDoor
namespace Go.Proofs.YtpfeakdpckmcgaaDoor
theorem hash_eight (s : Nat → Nat) (n k : Nat) : (hashF s n k).length = 8 ∧ ∀ x ∈ hashF s n k, x < 4294967296 := by
  induction k with
  | zero => exact ⟨rfl, (by decide : ∀ x ∈ HH, x < 4294967296)⟩
  | succ k ih =>
    refine ⟨?_, fun x hx => ?_⟩
    · show (blockF _ _ _).length = 8
      unfold blockF
      rw [List.length_zipWith, ih.1, (rd_len ih.1 ih.2 64).1]
      rfl
    · have hx2 : x ∈ List.zipWith (fun x y => (x + y) % 4294967296) (hashF s n k) (rd KK (wl (fun t => word4 (padB s n) (64 * k + 4 * t)) 64) (hashF s n k) 64) := hx
      obtain ⟨i, hi, rfl⟩ := List.mem_iff_getElem.1 hx2
      rw [List.getElem_zipWith]
      exact Nat.mod_lt _ (by decide)
end Go.Proofs.YtpfeakdpckmcgaaDoor
namespace Go.Proofs.YtpfeakdpckmcgaaDoor
open Go.RowKit
theorem rot_and (n : Nat) (h0 : 0 < n) (hn : n < 32) : bits BinOp.and IntKind.u64 (18446744073709551616 - (n : Int)) 31 = ((32 - n : Nat) : Int) := by
  have h := u64_and_nat (18446744073709551616 - n) 31 (by omega) (by decide)
  rw [show (31 : Nat) = 2 ^ 5 - 1 from by decide, Nat.and_two_pow_sub_one_eq_mod] at h
  rw [show ((18446744073709551616 - n : Nat) : Int) = 18446744073709551616 - (n : Int) from by omega] at h
  rw [show (((2 : Nat) ^ 5 - 1 : Nat) : Int) = 31 from by decide] at h
  rw [h]
  omega
theorem rot_int (x n : Nat) (hx : x < 4294967296) : bits BinOp.or IntKind.u32 ((x : Int) * 2 ^ (32 - n) % 4294967296) ((x : Int) / 2 ^ n) = ((rotr x n : Nat) : Int) := by
  have e1 : (2 : Int) ^ n = ((2 ^ n : Nat) : Int) := (Int.natCast_pow 2 n).symm
  have e2 : (2 : Int) ^ (32 - n) = ((2 ^ (32 - n) : Nat) : Int) := (Int.natCast_pow 2 (32 - n)).symm
  have h := u32_or_nat ((x * 2 ^ (32 - n)) % 4294967296) (x / 2 ^ n) (Nat.mod_lt _ (by decide)) (Nat.lt_of_le_of_lt (Nat.div_le_self _ _) hx)
  rw [Nat.or_comm] at h
  unfold rotr
  rw [← h, e1, e2]
  generalize (2 : Nat) ^ n = p
  generalize (2 : Nat) ^ (32 - n) = q
  rw [← Int.natCast_mul]
  generalize x * q = z
  rw [show ((z : Int) % 4294967296) = ((z % 4294967296 : Nat) : Int) from by omega, Int.natCast_ediv]
set_option maxHeartbeats 400000 in
theorem rotl_any (x n : Nat) (hx : x < 4294967296) (h0 : 0 < n) (hn : n < 32) (w : World) :
    Calls Tryd.prog 75 #[.int .u32 (x : Int), .int .i64 (-(n : Int))] w fun e w' => e = .returned (.int .u32 ((rotr x n : Nat) : Int)) ∧ w' = w := by
  have h1 : IntKind.u64.wrap (-(n : Int)) = 18446744073709551616 - (n : Int) := by rw [IntKind.wrap_u64]; omega
  have h2 := rot_and n h0 hn
  obtain ⟨m, HM⟩ : ∃ m, Hid (32 - n = m) := ⟨_, rfl⟩
  rw [HM.out] at h2
  have h3 : IntKind.u64.wrap (32 - (m : Int)) = (n : Int) := by have := HM.out; rw [IntKind.wrap_u64]; omega
  have h4 : (0 : Int) ≤ (m : Int) := by omega
  have h5 : (0 : Int) ≤ (n : Int) := by omega
  have h6 : min m 32 = m := by have := HM.out; omega
  go_enter Tryd.func75, Tryd.ntmps75
  go_wp2
  go_ret
  refine ⟨?_, rfl⟩
  rw [← rot_int x n hx, HM.out]
  rfl
set_option maxHeartbeats 400000 in
theorem right_any (x n : Nat) (hx : x < 4294967296) (h0 : 0 < n) (hn : n < 32) (w : World) :
    Calls Tryd.prog 72 #[.int .u32 (x : Int), .int .i64 (n : Int)] w fun e w' => e = .returned (.int .u32 ((rotr x n : Nat) : Int)) ∧ w' = w := by
  have h1 : IntKind.i64.wrap (-(n : Int)) = -(n : Int) := by rw [IntKind.wrap_i64]; omega
  go_enter Tryd.func72, Tryd.ntmps72
  go_wp2_with fail
  refine (rotl_any x n hx h0 hn _).mono ?_
  rintro e _ ⟨rfl, rfl⟩
  go_wp2
  go_ret
  exact ⟨rfl, rfl⟩
/-- A turn by a constant, for the walk. -/
def RightC (x r : Nat) (k : Int) : Prop := ∀ wx, Calls Tryd.prog 72 #[.int .u32 (x : Int), .int .i64 k] wx fun e w' => e = .returned (.int .u32 (r : Int)) ∧ w' = wx
theorem right_c (x n : Nat) (k : Int) (hx : x < 4294967296) (h0 : 0 < n) (hn : n < 32) (hk : (n : Int) = k) : RightC x (rotr x n) k := fun wx => by
  subst hk
  exact right_any x n hx h0 hn wx
set_option maxHeartbeats 400000 in
theorem bs0_any (x : Nat) (hx : x < 4294967296) (w : World) :
    Calls Tryd.prog 65 #[.int .u32 (x : Int)] w fun e w' => e = .returned (.int .u32 ((bs0 x : Nat) : Int)) ∧ w' = w := by
  obtain ⟨r1, H1, C1⟩ : ∃ r, Hid (rotr x 2 = r) ∧ RightC x r 2 := ⟨_, rfl, right_c x 2 2 hx (by decide) (by decide) rfl⟩
  obtain ⟨r2, H2, C2⟩ : ∃ r, Hid (rotr x 13 = r) ∧ RightC x r 13 := ⟨_, rfl, right_c x 13 13 hx (by decide) (by decide) rfl⟩
  obtain ⟨r3, H3, C3⟩ : ∃ r, Hid (rotr x 22 = r) ∧ RightC x r 22 := ⟨_, rfl, right_c x 22 22 hx (by decide) (by decide) rfl⟩
  have l1 : r1 < 4294967296 := by rw [← H1.out]; exact rotr_lt hx
  have l2 : r2 < 4294967296 := by rw [← H2.out]; exact rotr_lt hx
  have l3 : r3 < 4294967296 := by rw [← H3.out]; exact rotr_lt hx
  have e1 := u32_xor_nat r1 r2 l1 l2
  have e2 := u32_xor_nat (r1 ^^^ r2) r3 (xor_lt l1 l2) l3
  have HF : Hid (r1 ^^^ r2 ^^^ r3 = bs0 x) := by show _ = _; rw [← H1.out, ← H2.out, ← H3.out]; rfl
  generalize r1 ^^^ r2 = y1 at *
  generalize y1 ^^^ r3 = y2 at *
  go_enter Tryd.func65, Tryd.ntmps65
  go_wp2_with fail
  refine (C1 _).mono ?_
  rintro e _ ⟨rfl, rfl⟩
  go_wp2_with fail
  refine (C2 _).mono ?_
  rintro e _ ⟨rfl, rfl⟩
  go_wp2_with fail
  refine (C3 _).mono ?_
  rintro e _ ⟨rfl, rfl⟩
  go_wp2
  go_ret
  exact ⟨by rw [HF.out]; rfl, rfl⟩
set_option maxHeartbeats 400000 in
theorem bs1_any (x : Nat) (hx : x < 4294967296) (w : World) :
    Calls Tryd.prog 63 #[.int .u32 (x : Int)] w fun e w' => e = .returned (.int .u32 ((bs1 x : Nat) : Int)) ∧ w' = w := by
  obtain ⟨r1, H1, C1⟩ : ∃ r, Hid (rotr x 6 = r) ∧ RightC x r 6 := ⟨_, rfl, right_c x 6 6 hx (by decide) (by decide) rfl⟩
  obtain ⟨r2, H2, C2⟩ : ∃ r, Hid (rotr x 11 = r) ∧ RightC x r 11 := ⟨_, rfl, right_c x 11 11 hx (by decide) (by decide) rfl⟩
  obtain ⟨r3, H3, C3⟩ : ∃ r, Hid (rotr x 25 = r) ∧ RightC x r 25 := ⟨_, rfl, right_c x 25 25 hx (by decide) (by decide) rfl⟩
  have l1 : r1 < 4294967296 := by rw [← H1.out]; exact rotr_lt hx
  have l2 : r2 < 4294967296 := by rw [← H2.out]; exact rotr_lt hx
  have l3 : r3 < 4294967296 := by rw [← H3.out]; exact rotr_lt hx
  have e1 := u32_xor_nat r1 r2 l1 l2
  have e2 := u32_xor_nat (r1 ^^^ r2) r3 (xor_lt l1 l2) l3
  have HF : Hid (r1 ^^^ r2 ^^^ r3 = bs1 x) := by show _ = _; rw [← H1.out, ← H2.out, ← H3.out]; rfl
  generalize r1 ^^^ r2 = y1 at *
  generalize y1 ^^^ r3 = y2 at *
  go_enter Tryd.func63, Tryd.ntmps63
  go_wp2_with fail
  refine (C1 _).mono ?_
  rintro e _ ⟨rfl, rfl⟩
  go_wp2_with fail
  refine (C2 _).mono ?_
  rintro e _ ⟨rfl, rfl⟩
  go_wp2_with fail
  refine (C3 _).mono ?_
  rintro e _ ⟨rfl, rfl⟩
  go_wp2
  go_ret
  exact ⟨by rw [HF.out]; rfl, rfl⟩
set_option maxHeartbeats 400000 in
theorem ss0_any (x : Nat) (hx : x < 4294967296) (w : World) :
    Calls Tryd.prog 68 #[.int .u32 (x : Int)] w fun e w' => e = .returned (.int .u32 ((ss0 x : Nat) : Int)) ∧ w' = w := by
  obtain ⟨r1, H1, C1⟩ : ∃ r, Hid (rotr x 7 = r) ∧ RightC x r 7 := ⟨_, rfl, right_c x 7 7 hx (by decide) (by decide) rfl⟩
  obtain ⟨r2, H2, C2⟩ : ∃ r, Hid (rotr x 18 = r) ∧ RightC x r 18 := ⟨_, rfl, right_c x 18 18 hx (by decide) (by decide) rfl⟩
  obtain ⟨r3, H3, C3⟩ : ∃ r : Nat, Hid (x / 8 = r) ∧ (x : Int) / 8 = (r : Int) := ⟨x / 8, rfl, by omega⟩
  have l1 : r1 < 4294967296 := by rw [← H1.out]; exact rotr_lt hx
  have l2 : r2 < 4294967296 := by rw [← H2.out]; exact rotr_lt hx
  have l3 : r3 < 4294967296 := by rw [← H3.out]; omega
  have e1 := u32_xor_nat r1 r2 l1 l2
  have e2 := u32_xor_nat (r1 ^^^ r2) r3 (xor_lt l1 l2) l3
  have HF : Hid (r1 ^^^ r2 ^^^ r3 = ss0 x) := by show _ = _; rw [← H1.out, ← H2.out, ← H3.out]; rfl
  generalize r1 ^^^ r2 = y1 at *
  generalize y1 ^^^ r3 = y2 at *
  go_enter Tryd.func68, Tryd.ntmps68
  go_wp2_with fail
  refine (C1 _).mono ?_
  rintro e _ ⟨rfl, rfl⟩
  go_wp2_with fail
  refine (C2 _).mono ?_
  rintro e _ ⟨rfl, rfl⟩
  go_wp2
  go_ret
  exact ⟨by rw [HF.out]; rfl, rfl⟩
set_option maxHeartbeats 400000 in
theorem ss1_any (x : Nat) (hx : x < 4294967296) (w : World) :
    Calls Tryd.prog 67 #[.int .u32 (x : Int)] w fun e w' => e = .returned (.int .u32 ((ss1 x : Nat) : Int)) ∧ w' = w := by
  obtain ⟨r1, H1, C1⟩ : ∃ r, Hid (rotr x 17 = r) ∧ RightC x r 17 := ⟨_, rfl, right_c x 17 17 hx (by decide) (by decide) rfl⟩
  obtain ⟨r2, H2, C2⟩ : ∃ r, Hid (rotr x 19 = r) ∧ RightC x r 19 := ⟨_, rfl, right_c x 19 19 hx (by decide) (by decide) rfl⟩
  obtain ⟨r3, H3, C3⟩ : ∃ r : Nat, Hid (x / 1024 = r) ∧ (x : Int) / 1024 = (r : Int) := ⟨x / 1024, rfl, by omega⟩
  have l1 : r1 < 4294967296 := by rw [← H1.out]; exact rotr_lt hx
  have l2 : r2 < 4294967296 := by rw [← H2.out]; exact rotr_lt hx
  have l3 : r3 < 4294967296 := by rw [← H3.out]; omega
  have e1 := u32_xor_nat r1 r2 l1 l2
  have e2 := u32_xor_nat (r1 ^^^ r2) r3 (xor_lt l1 l2) l3
  have HF : Hid (r1 ^^^ r2 ^^^ r3 = ss1 x) := by show _ = _; rw [← H1.out, ← H2.out, ← H3.out]; rfl
  generalize r1 ^^^ r2 = y1 at *
  generalize y1 ^^^ r3 = y2 at *
  go_enter Tryd.func67, Tryd.ntmps67
  go_wp2_with fail
  refine (C1 _).mono ?_
  rintro e _ ⟨rfl, rfl⟩
  go_wp2_with fail
  refine (C2 _).mono ?_
  rintro e _ ⟨rfl, rfl⟩
  go_wp2
  go_ret
  exact ⟨by rw [HF.out]; rfl, rfl⟩
set_option maxHeartbeats 400000 in
theorem maj_any (a b c : Nat) (ha : a < 4294967296) (hb : b < 4294967296) (hc : c < 4294967296) (w : World) :
    Calls Tryd.prog 66 #[.int .u32 (a : Int), .int .u32 (b : Int), .int .u32 (c : Int)] w fun e w' => e = .returned (.int .u32 ((majf a b c : Nat) : Int)) ∧ w' = w := by
  have e1 := u32_and_nat a b ha hb
  have e2 := u32_and_nat a c ha hc
  have e3 := u32_and_nat b c hb hc
  have e4 := u32_xor_nat (a &&& b) (a &&& c) (and_lt ha) (and_lt ha)
  have e5 := u32_xor_nat ((a &&& b) ^^^ (a &&& c)) (b &&& c) (xor_lt (and_lt ha) (and_lt ha)) (and_lt hb)
  have HF : Hid ((a &&& b) ^^^ (a &&& c) ^^^ (b &&& c) = majf a b c) := rfl
  generalize (a &&& b) ^^^ (a &&& c) ^^^ (b &&& c) = y at *
  generalize (a &&& b) ^^^ (a &&& c) = y2 at *
  generalize a &&& b = q1 at *
  generalize a &&& c = q2 at *
  generalize b &&& c = q3 at *
  go_enter Tryd.func66, Tryd.ntmps66
  go_wp2
  go_ret
  exact ⟨by rw [HF.out]; rfl, rfl⟩
set_option maxHeartbeats 400000 in
theorem cho_any (a b c : Nat) (ha : a < 4294967296) (hb : b < 4294967296) (hc : c < 4294967296) (w : World) :
    Calls Tryd.prog 64 #[.int .u32 (a : Int), .int .u32 (b : Int), .int .u32 (c : Int)] w fun e w' => e = .returned (.int .u32 ((chf a b c : Nat) : Int)) ∧ w' = w := by
  have e1 := u32_and_nat a b ha hb
  have hne : a ^^^ 4294967295 < 4294967296 := xor_lt ha (by decide)
  have e2 := u32_and_nat (a ^^^ 4294967295) c hne hc
  have e3 := u32_xor_nat (a &&& b) ((a ^^^ 4294967295) &&& c) (and_lt ha) (and_lt hne)
  have HF : Hid ((a &&& b) ^^^ ((a ^^^ 4294967295) &&& c) = chf a b c) := rfl
  have hn : bits BinOp.xor IntKind.u32 IntKind.u32.max (a : Int) = ((a ^^^ 4294967295 : Nat) : Int) := by have h := u32_xor_nat 4294967295 a (by decide) ha; rw [Nat.xor_comm] at h; exact h
  generalize (a &&& b) ^^^ ((a ^^^ 4294967295) &&& c) = y at *
  generalize (a ^^^ 4294967295) &&& c = q2 at *
  generalize a ^^^ 4294967295 = ne at *
  generalize a &&& b = q1 at *
  go_enter Tryd.func64, Tryd.ntmps64
  go_wp2
  go_ret
  exact ⟨by rw [HF.out]; rfl, rfl⟩
end Go.Proofs.YtpfeakdpckmcgaaDoor
