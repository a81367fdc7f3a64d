/-
  ChaCha20 over whole numbers and texts, by its definition; no function of the program is named here.
-/
import Derived.Test.YtdafckjcggaflaaDoorPad
namespace Go.Proofs.YtdafckjcggaflaaDoor
open Go.RowKit
def rotl (x n : Nat) : Nat := (x * 2 ^ n) % 4294967296 ||| x / 2 ^ (32 - n)
/-- x[i] += x[j]. -/
def qAdd (x : List Nat) (i j : Nat) : List Nat := x.set i ((x.getD i 0 + x.getD j 0) % 4294967296)
/-- x[i] = turn(x[i] ^ x[j], n). -/
def qXor (x : List Nat) (i j n : Nat) : List Nat := x.set i (rotl (x.getD i 0 ^^^ x.getD j 0) n)
def quart (x : List Nat) (a b c d : Nat) : List Nat :=
  qXor (qAdd (qXor (qAdd (qXor (qAdd (qXor (qAdd x a b) d a 16) c d) b c 12) a b) d a 8) c d) b c 7
def col (x : List Nat) (i : Nat) : List Nat := quart x i (4 + i) (8 + i) (12 + i)
def dia (x : List Nat) (i : Nat) : List Nat := quart x i (4 + (i + 1) % 4) (8 + (i + 2) % 4) (12 + (i + 3) % 4)
def colN (x : List Nat) : Nat → List Nat
  | 0 => x
  | i + 1 => col (colN x i) i
def diaN (x : List Nat) : Nat → List Nat
  | 0 => x
  | i + 1 => dia (diaN x i) i
def rnd (x : List Nat) : Nat → List Nat
  | 0 => x
  | k + 1 => diaN (colN (rnd x k) 4) 4
/-- Four bytes, the lowest first. -/
def word (b : Nat → Nat) (i : Nat) : Nat := b i + 256 * b (i + 1) + 65536 * b (i + 2) + 16777216 * b (i + 3)
def state (key nonce : Nat → Nat) (n : Nat) : List Nat :=
  [0x61707865, 0x3320646E, 0x79622D32, 0x6B206574] ++ (List.range 8).map (fun i => word key (4 * i)) ++ [n] ++ (List.range 3).map fun i => word nonce (4 * i)
/-- The word of the block. -/
def outW (x : List Nat) (i : Nat) : Nat := (x.getD i 0 + (rnd x 10).getD i 0) % 4294967296
def blkB (x : List Nat) (j : Nat) : Nat := outW x (j / 4) / 256 ^ (j % 4) % 256
def blkS (key nonce : ByteArray) (n : Nat) : ByteArray := mkS (blkB (state (sb key) (sb nonce) n)) 64
/-- The byte that byte i of a text is xored with. -/
def strB (key nonce : ByteArray) (n i : Nat) : Nat := blkB (state (sb key) (sb nonce) ((n + i / 64) % 4294967296)) (i % 64)
def xorS (key nonce : ByteArray) (n : Nat) (s : ByteArray) : ByteArray := mkS (fun i => sb s i ^^^ strB key nonce n i) s.size
theorem mkS_size (T : Nat → Nat) (n : Nat) : (mkS T n).size = n := by
  show (((List.range n).map fun i => UInt8.ofNat (T i)).toArray).size = n
  simp
theorem blkS_size (key nonce : ByteArray) (n : Nat) : (blkS key nonce n).size = 64 := mkS_size _ _
theorem xorS_size (key nonce : ByteArray) (n : Nat) (s : ByteArray) : (xorS key nonce n s).size = s.size := mkS_size _ _
set_option maxRecDepth 100000 in
theorem zeroBlk : ((blkS (mkS (fun _ => 0) 32) (mkS (fun _ => 0) 12) 0).data.toList.take 4) = [0x76, 0xb8, 0xe0, 0xad] := by decide +kernel
end Go.Proofs.YtdafckjcggaflaaDoor
