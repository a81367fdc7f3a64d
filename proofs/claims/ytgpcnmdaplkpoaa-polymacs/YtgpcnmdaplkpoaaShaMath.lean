/-
  SHA-256 over natural numbers, by its definition; no Go in this text.
-/
import Derived.WalkKit
namespace Go.Proofs.Ytgpcnmdaplkpoaa
/-- Turned right, 32 bits. -/
def rotr (x n : Nat) : Nat := x / 2 ^ n ||| (x * 2 ^ (32 - n)) % 4294967296
def bs0 (x : Nat) : Nat := rotr x 2 ^^^ rotr x 13 ^^^ rotr x 22
def bs1 (x : Nat) : Nat := rotr x 6 ^^^ rotr x 11 ^^^ rotr x 25
def ss0 (x : Nat) : Nat := rotr x 7 ^^^ rotr x 18 ^^^ x / 8
def ss1 (x : Nat) : Nat := rotr x 17 ^^^ rotr x 19 ^^^ x / 1024
def chf (e f g : Nat) : Nat := (e &&& f) ^^^ ((e ^^^ 4294967295) &&& g)
def majf (a b c : Nat) : Nat := (a &&& b) ^^^ (a &&& c) ^^^ (b &&& c)
/-- The next word of a block. -/
def wnext (l : List Nat) (t : Nat) : Nat := (ss1 (l.getD (t - 2) 0) + l.getD (t - 7) 0 + ss0 (l.getD (t - 15) 0) + l.getD (t - 16) 0) % 4294967296
/-- The first t words of a block whose first sixteen are B. -/
def wl (B : Nat → Nat) : Nat → List Nat
  | 0 => []
  | t + 1 => wl B t ++ [if t < 16 then B t else wnext (wl B t) t]
/-- One round on eight words. -/
def rstep (v : List Nat) (k w : Nat) : List Nat :=
  match v with
  | [a, b, c, d, e, f, g, h] => [(h + bs1 e + chf e f g + k + w + (bs0 a + majf a b c)) % 4294967296, a, b, c, (d + (h + bs1 e + chf e f g + k + w)) % 4294967296, e, f, g]
  | _ => []
/-- Eight words behind t rounds. -/
def rd (K W : List Nat) (v : List Nat) : Nat → List Nat
  | 0 => v
  | t + 1 => rstep (rd K W v t) (K.getD t 0) (W.getD t 0)
/-- What a block makes of eight words. -/
def blockF (K : List Nat) (B : Nat → Nat) (h : List Nat) : List Nat := List.zipWith (fun x y => (x + y) % 4294967296) h (rd K (wl B 64) h 64)
/-- The round numbers. -/
def KK : List Nat := [1116352408, 1899447441, 3049323471, 3921009573, 961987163, 1508970993, 2453635748, 2870763221, 3624381080, 310598401, 607225278, 1426881987, 1925078388, 2162078206, 2614888103, 3248222580, 3835390401, 4022224774, 264347078, 604807628, 770255983, 1249150122, 1555081692, 1996064986, 2554220882, 2821834349, 2952996808, 3210313671, 3336571891, 3584528711, 113926993, 338241895, 666307205, 773529912, 1294757372, 1396182291, 1695183700, 1986661051, 2177026350, 2456956037, 2730485921, 2820302411, 3259730800, 3345764771, 3516065817, 3600352804, 4094571909, 275423344, 430227734, 506948616, 659060556, 883997877, 958139571, 1322822218, 1537002063, 1747873779, 1955562222, 2024104815, 2227730452, 2361852424, 2428436474, 2756734187, 3204031479, 3329325298]
/-- What a text begins with. -/
def HH : List Nat := [1779033703, 3144134277, 1013904242, 2773480762, 1359893119, 2600822924, 528734635, 1541459225]
/-- A word of four bytes, the highest first. -/
def word4 (b : Nat → Nat) (o : Nat) : Nat := b o * 16777216 + b (o + 1) * 65536 + b (o + 2) * 256 + b (o + 3)
/-- How many bytes of 0 stand behind the bit 1. -/
def padN (n : Nat) : Nat := (119 - n % 64) % 64
/-- How many blocks. -/
def nblk (n : Nat) : Nat := (n + 8) / 64 + 1
/-- Byte i of the padded text of n bytes s. -/
def padB (s : Nat → Nat) (n : Nat) (i : Nat) : Nat := if i < n then s i else if i = n then 128 else if i < 64 * nblk n - 8 then 0 else n * 8 / 256 ^ (64 * nblk n - 1 - i) % 256
/-- Eight words behind k blocks. -/
def hashF (s : Nat → Nat) (n : Nat) : Nat → List Nat
  | 0 => HH
  | k + 1 => blockF KK (fun t => word4 (padB s n) (64 * k + 4 * t)) (hashF s n k)
/-- Byte i of the sum. -/
def shaB (s : Nat → Nat) (n : Nat) (i : Nat) : Nat := (hashF s n (nblk n)).getD (i / 4) 0 / 256 ^ (3 - i % 4) % 256
def tb (l : List Nat) (i : Nat) : Nat := l.getD i 0
set_option maxRecDepth 100000 in
theorem abc_ok : hashF (tb [97, 98, 99]) 3 1 = [0xba7816bf, 0x8f01cfea, 0x414140de, 0x5dae2223, 0xb00361a3, 0x96177a9c, 0xb410ff61, 0xf20015ad] := by decide +kernel
set_option maxRecDepth 100000 in
theorem nil_ok : (hashF (tb []) 0 1).getD 0 0 = 0xe3b0c442 := by decide +kernel
end Go.Proofs.Ytgpcnmdaplkpoaa
