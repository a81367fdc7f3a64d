/-
  ChaCha20 over whole numbers and texts, by its definition; no function of the program is named here.
  sandglassref09.turn, called; the world stays.
-/
import Derived.Test.YtbcgipapbamgfaaDoorPads
import Derived.Test.YtbcgipapbamgfaaDoorLows
namespace Go.Proofs.YtbcgipapbamgfaaDoor
open Go.RowKit
def rotl (x n : Nat) : Nat := (x * 2 ^ n) % 4294967296 ||| x / 2 ^ (32 - n)
/-- x[i] += x[j]. -/
def qAdd (x : List Nat) (i j : Nat) : List Nat := x.set i ((x.getD i 0 + x.getD j 0) % 4294967296)
/-- x[i] = turn(x[i] ^ x[j], n). -/
def qXor (x : List Nat) (i j n : Nat) : List Nat := x.set i (rotl (x.getD i 0 ^^^ x.getD j 0) n)
def quart (x : List Nat) (a b c d : Nat) : List Nat :=
  qXor (qAdd (qXor (qAdd (qXor (qAdd (qXor (qAdd x a b) d a 16) c d) b c 12) a b) d a 8) c d) b c 7
def col (x : List Nat) (i : Nat) : List Nat := quart x i (4 + i) (8 + i) (12 + i)
def dia (x : List Nat) (i : Nat) : List Nat := quart x i (4 + (i + 1) % 4) (8 + (i + 2) % 4) (12 + (i + 3) % 4)
def colN (x : List Nat) : Nat → List Nat
  | 0 => x
  | i + 1 => col (colN x i) i
def diaN (x : List Nat) : Nat → List Nat
  | 0 => x
  | i + 1 => dia (diaN x i) i
def rnd (x : List Nat) : Nat → List Nat
  | 0 => x
  | k + 1 => diaN (colN (rnd x k) 4) 4
/-- Four bytes, the lowest first. -/
def word (b : Nat → Nat) (i : Nat) : Nat := b i + 256 * b (i + 1) + 65536 * b (i + 2) + 16777216 * b (i + 3)
def state (key nonce : Nat → Nat) (n : Nat) : List Nat :=
  [0x61707865, 0x3320646E, 0x79622D32, 0x6B206574] ++ (List.range 8).map (fun i => word key (4 * i)) ++ [n] ++ (List.range 3).map fun i => word nonce (4 * i)
/-- The word of the block. -/
def outW (x : List Nat) (i : Nat) : Nat := (x.getD i 0 + (rnd x 10).getD i 0) % 4294967296
def blkB (x : List Nat) (j : Nat) : Nat := outW x (j / 4) / 256 ^ (j % 4) % 256
def blkS (key nonce : ByteArray) (n : Nat) : ByteArray := mkS (blkB (state (sb key) (sb nonce) n)) 64
/-- The byte that byte i of a text is xored with. -/
def strB (key nonce : ByteArray) (n i : Nat) : Nat := blkB (state (sb key) (sb nonce) ((n + i / 64) % 4294967296)) (i % 64)
def xorS (key nonce : ByteArray) (n : Nat) (s : ByteArray) : ByteArray := mkS (fun i => sb s i ^^^ strB key nonce n i) s.size
theorem mkS_size (T : Nat → Nat) (n : Nat) : (mkS T n).size = n := by
  show (((List.range n).map fun i => UInt8.ofNat (T i)).toArray).size = n
  simp
theorem blkS_size (key nonce : ByteArray) (n : Nat) : (blkS key nonce n).size = 64 := mkS_size _ _
theorem xorS_size (key nonce : ByteArray) (n : Nat) (s : ByteArray) : (xorS key nonce n s).size = s.size := mkS_size _ _
set_option maxRecDepth 100000 in
theorem zeroBlk : ((blkS (mkS (fun _ => 0) 32) (mkS (fun _ => 0) 12) 0).data.toList.take 4) = [0x76, 0xb8, 0xe0, 0xad] := by decide +kernel
end Go.Proofs.YtbcgipapbamgfaaDoor
namespace Go.Proofs.YtbcgipapbamgfaaDoor
open Go.RowKit
theorem rotl_lt {x n : Nat} (hx : x < 4294967296) : rotl x n < 4294967296 := by
  unfold rotl
  exact Nat.or_lt_two_pow (n := 32) (Nat.mod_lt _ (by decide)) (Nat.lt_of_le_of_lt (Nat.div_le_self _ _) hx)
theorem turn_int (x n : Nat) (hx : x < 4294967296) : bits BinOp.or IntKind.u32 ((x : Int) * 2 ^ n % 4294967296) ((x : Int) / 2 ^ (32 - n)) = ((rotl x n : Nat) : Int) := by
  have h : bits BinOp.or IntKind.u32 (((x * 2 ^ n) % 4294967296 : Nat) : Int) ((x / 2 ^ (32 - n) : Nat) : Int) = ((rotl x n : Nat) : Int) :=
    u32_or_nat _ _ (Nat.mod_lt _ (by decide)) (Nat.lt_of_le_of_lt (Nat.div_le_self _ _) hx)
  rw [← h]
  have e1 : (2 : Int) ^ n = ((2 ^ n : Nat) : Int) := (Int.natCast_pow 2 n).symm
  have e2 : (2 : Int) ^ (32 - n) = ((2 ^ (32 - n) : Nat) : Int) := (Int.natCast_pow 2 (32 - n)).symm
  rw [e1, e2]
  generalize (2 : Nat) ^ n = p
  generalize (2 : Nat) ^ (32 - n) = q
  rw [← Int.natCast_mul]
  generalize x * p = z
  rw [show ((z : Int) % 4294967296) = ((z % 4294967296 : Nat) : Int) from by omega, Int.natCast_ediv]
set_option maxHeartbeats 400000 in
theorem turn_any (x n : Nat) (hx : x < 4294967296) (h0 : 0 < n) (hn : n < 32) (w : World) :
    Calls Tryd.prog 62 #[.int .u32 (x : Int), .int .i64 (n : Int)] w fun e w' => e = .returned (.int .u32 ((rotl x n : Nat) : Int)) ∧ w' = w := by
  have h1 : (0 : Int) ≤ (n : Int) := by omega
  have h2 : IntKind.i64.wrap (32 - (n : Int)) = 32 - (n : Int) := by rw [IntKind.wrap_i64]; omega
  go_enter Tryd.func62, Tryd.ntmps62
  go_wp2
  go_ret
  refine ⟨?_, rfl⟩
  rw [← turn_int x n hx]
  rfl
theorem sb_at (s : ByteArray) {i : Nat} (h : i < s.size) : (s[i]'h).toNat = sb s i := by
  unfold sb
  rw [List.getD_eq_getElem?_getD]
  have h2 : i < s.data.toList.length := h
  rw [List.getElem?_eq_getElem h2]
  rfl
theorem join_low (k x y : Nat) (hx : x < 2 ^ k) : x ||| y * 2 ^ k = x + y * 2 ^ k := by
  rw [Nat.or_comm, Nat.mul_comm, Nat.add_comm]
  exact (Nat.two_pow_add_eq_or_of_lt hx y).symm
theorem word_letters (a b c d : Nat) (ha : a < 256) (hb : b < 256) (hc : c < 256) (hd : d < 256) : ∃ s1 s2 s3 q1 q2 q3 : Nat, IntKind.u32.wrap ((b : Int) * 256) = (s1 : Int) ∧ IntKind.u32.wrap ((c : Int) * 65536) = (s2 : Int) ∧ IntKind.u32.wrap ((d : Int) * 16777216) = (s3 : Int) ∧
    bits BinOp.or IntKind.u32 (a : Int) (s1 : Int) = (q1 : Int) ∧ bits BinOp.or IntKind.u32 (q1 : Int) (s2 : Int) = (q2 : Int) ∧ bits BinOp.or IntKind.u32 (q2 : Int) (s3 : Int) = (q3 : Int) ∧ q3 = a + 256 * b + 65536 * c + 16777216 * d := by
  refine ⟨b * 2 ^ 8, c * 2 ^ 16, d * 2 ^ 24, a + b * 2 ^ 8, a + b * 2 ^ 8 + c * 2 ^ 16, a + b * 2 ^ 8 + c * 2 ^ 16 + d * 2 ^ 24, ?_, ?_, ?_, ?_, ?_, ?_, by omega⟩
  · rw [IntKind.wrap_u32']; omega
  · rw [IntKind.wrap_u32']; omega
  · rw [IntKind.wrap_u32']; omega
  · rw [u32_or_nat _ _ (by omega) (by omega), join_low 8 _ _ (by omega)]
  · rw [u32_or_nat _ _ (by omega) (by omega), join_low 16 _ _ (by omega)]
  · rw [u32_or_nat _ _ (by omega) (by omega), join_low 24 _ _ (by omega)]
set_option maxHeartbeats 400000 in
theorem word_any (s : ByteArray) (hs : 4 ≤ s.size) (w : World) :
    Calls Tryd.prog 47 #[.string s] w fun e w' => e = .returned (.int .u32 ((word (sb s) 0 : Nat) : Int)) ∧ Ext w w' := by
  have n0 : 0 < s.size := by omega
  have n1 : 1 < s.size := by omega
  have n2 : 2 < s.size := by omega
  have n3 : 3 < s.size := by omega
  have e0 := sb_at s n0
  have e1 := sb_at s n1
  have e2 := sb_at s n2
  have e3 := sb_at s n3
  have l0 := sb_lt s 0
  have l1 := sb_lt s 1
  have l2 := sb_lt s 2
  have l3 := sb_lt s 3
  have HW : Hid (word (sb s) 0 = sb s 0 + 256 * sb s 1 + 65536 * sb s 2 + 16777216 * sb s 3) := rfl
  generalize sb s 0 = b0 at e0 l0 HW
  generalize sb s 1 = b1 at e1 l1 HW
  generalize sb s 2 = b2 at e2 l2 HW
  generalize sb s 3 = b3 at e3 l3 HW
  obtain ⟨s1, s2, s3, q1, q2, q3, f1, f2, f3, g1, g2, g3, HQ⟩ := word_letters b0 b1 b2 b3 l0 l1 l2 l3
  have v0 : IntKind.u32.wrap (b0 : Int) = (b0 : Int) := by rw [IntKind.wrap_u32']; omega
  have v1 : IntKind.u32.wrap (b1 : Int) = (b1 : Int) := by rw [IntKind.wrap_u32']; omega
  have v2 : IntKind.u32.wrap (b2 : Int) = (b2 : Int) := by rw [IntKind.wrap_u32']; omega
  have v3 : IntKind.u32.wrap (b3 : Int) = (b3 : Int) := by rw [IntKind.wrap_u32']; omega
  have HQ2 : Hid (word (sb s) 0 = q3) := by show _ = _; rw [HW.out, HQ]
  clear HW HQ l0 l1 l2 l3
  go_enter Tryd.func47, Tryd.ntmps47
  go_wp2
  go_region
  go_wp2
  go_ret
  exact ⟨by rw [HQ2.out]; rfl, (Ext.refl _).drew⟩
end Go.Proofs.YtbcgipapbamgfaaDoor
