/-
  The call of limbs.Bytes: whatever the four words, their 32 bytes, the highest first; nothing old is turned.
-/
import Derived.Test.YtfndloakoknpaaaEq
namespace Go.Proofs.Ytfndloakoknpaaa
open Go.RowKit
/-- The cells of the text behind k rounds. -/
def tx (B : Nat → Int) : Nat → Array Value
  | 0 => #[.int .u8 0, .int .u8 0, .int .u8 0, .int .u8 0, .int .u8 0, .int .u8 0, .int .u8 0, .int .u8 0, .int .u8 0, .int .u8 0, .int .u8 0, .int .u8 0, .int .u8 0, .int .u8 0, .int .u8 0, .int .u8 0, .int .u8 0, .int .u8 0, .int .u8 0, .int .u8 0, .int .u8 0, .int .u8 0, .int .u8 0, .int .u8 0, .int .u8 0, .int .u8 0, .int .u8 0, .int .u8 0, .int .u8 0, .int .u8 0, .int .u8 0, .int .u8 0]
  | k + 1 => (tx B k).setIfInBounds (31 - k) (.int .u8 (B k))
theorem tx_size (B : Nat → Int) (k : Nat) : (tx B k).size = 32 := by
  induction k with
  | zero => rfl
  | succ k ih => simp [tx, ih]
/-- Word number i of four. -/
def wd (a0 a1 a2 a3 : Int) (i : Nat) : Int := if i = 0 then a0 else if i = 1 then a1 else if i = 2 then a2 else a3
theorem wd_get (a0 a1 a2 a3 : Int) (i : Nat) (h : i < 4) : [Value.int .u64 a0, .int .u64 a1, .int .u64 a2, .int .u64 a3][i]? = some (.int .u64 (wd a0 a1 a2 a3 i)) := by
  have : i = 0 ∨ i = 1 ∨ i = 2 ∨ i = 3 := by omega
  rcases this with rfl | rfl | rfl | rfl <;> rfl
def byteAt (a0 a1 a2 a3 : Int) (k : Nat) : Int := wd a0 a1 a2 a3 (k / 8) / 2 ^ (k % 8 * 8) % 256
/-- The numbers of the 32 bytes, the highest first; the text. -/
def nsOf (B : Nat → Int) : List Int := [B 31, B 30, B 29, B 28, B 27, B 26, B 25, B 24, B 23, B 22, B 21, B 20, B 19, B 18, B 17, B 16, B 15, B 14, B 13, B 12, B 11, B 10, B 9, B 8, B 7, B 6, B 5, B 4, B 3, B 2, B 1, B 0]
def bs (B : Nat → Int) : ByteArray := ⟨((nsOf B).map fun n => UInt8.ofNat n.toNat).toArray⟩
theorem tx_32 (B : Nat → Int) : tx B 32 = ((nsOf B).map (Value.int .u8)).toArray := by
  simp [tx, nsOf]
theorem foldl_push (ns : List Int) (l : List UInt8) : ns.foldl (fun r n => r.push (UInt8.ofNat n.toNat)) (⟨l.toArray⟩ : ByteArray) = ⟨(l ++ ns.map fun n => UInt8.ofNat n.toNat).toArray⟩ := by
  induction ns generalizing l with
  | nil => simp
  | cons n ns ih =>
    rw [List.foldl_cons]
    have : (⟨l.toArray⟩ : ByteArray).push (UInt8.ofNat n.toNat) = ⟨(l ++ [UInt8.ofNat n.toNat]).toArray⟩ := by
      show ByteArray.mk (l.toArray.push _) = _
      simp
    rw [this, ih]
    simp
theorem run_bs (B : Nat → Int) (W : World) : (convert 50 9 (.slice (some ⟨W.heap.size, 0, none⟩) 32 32)).run Try.prog (W.alloc (.cells (tx B 32) 49)) = .ok (.string (bs B)) (W.alloc (.cells (tx B 32) 49)) := by
  rw [run_convert_bytes_string _ 50 9 5 _ _ _ Try.underlying50 Try.underlying5 Try.underlying9]
  rw [run_bytesToString _ _ _ _ (nsOf B)]
  · have := foldl_push (nsOf B) []
    rw [show (ByteArray.empty : ByteArray) = ⟨([] : List UInt8).toArray⟩ from rfl, this]
    rfl
  · have := run_loadCells_list (P := Try.prog) (w := W.alloc (.cells (tx B 32) 49)) ⟨W.heap.size, 0, none⟩ ((nsOf B).map (Value.int .u8)) (by
      intro j v h
      rw [show (⟨W.heap.size, 0, none⟩ : Addr).add j = ⟨W.heap.size, j, none⟩ from by simp [Addr.add]; omega, World.cell?_alloc_at _ _ _ _ rfl, tx_32]
      simpa using h)
    exact this
set_option maxHeartbeats 400000 in
theorem bytes_any (a0 a1 a2 a3 : Int) (w : World) :
    Calls Try.prog 20 #[.agg #[.int .u64 a0, .int .u64 a1, .int .u64 a2, .int .u64 a3]] w fun e w' =>
      e = .returned (.string (bs (byteAt a0 a1 a2 a3))) ∧ Ext w w' := by
  go_enter Try.func20, Try.ntmps20
  go_wp2
  go_loopw [5] (fun i wr => ∃ k : Nat, k ≤ 32 ∧ i = .int .i64 k ∧ wr = (w.alloc (.cells #[.int .u64 a0, .int .u64 a1, .int .u64 a2, .int .u64 a3] 24)).alloc (.cells (tx (byteAt a0 a1 a2 a3) k) 49)) (fun i _ => 32 - (intOf i).toNat)
  case atStart => exact ⟨0, Nat.zero_le _, rfl, rfl⟩
  case round =>
    obtain ⟨k, hk, rfl, rfl⟩ := hrel
    by_cases hlt : k < 32
    · have hw := wd_get a0 a1 a2 a3 (k / 8) (by omega)
      have HB : Hid (byteAt a0 a1 a2 a3 k = wd a0 a1 a2 a3 (k / 8) / 2 ^ (k % 8 * 8) % 256) := rfl
      generalize wd a0 a1 a2 a3 (k / 8) = x at hw HB
      have ht : (tx (byteAt a0 a1 a2 a3) k)[31 - k]? = some ((tx (byteAt a0 a1 a2 a3) k)[31 - k]'(by rw [tx_size]; omega)) := Array.getElem?_eq_getElem _
      go_wp2
      exact ⟨⟨k + 1, hlt, by go_num, by rw [tx, HB.out]⟩, by simp [intOf]; omega⟩
    · obtain rfl : k = 32 := by omega
      have hc := run_bs (byteAt a0 a1 a2 a3) (w.alloc (.cells #[.int .u64 a0, .int .u64 a1, .int .u64 a2, .int .u64 a3] 24))
      rw [show (w.alloc (.cells #[.int .u64 a0, .int .u64 a1, .int .u64 a2, .int .u64 a3] 24)).heap.size = w.heap.size + 1 from by simp] at hc
      generalize tx (byteAt a0 a1 a2 a3) 32 = T at hc
      obtain ⟨S, HS⟩ : ∃ S, Hid (bs (byteAt a0 a1 a2 a3) = S) := ⟨_, rfl⟩
      rw [HS.out] at hc
      go_wp2
      go_ret
      exact ⟨by rw [HS.out]; rfl, ((Ext.refl _).alloc _).alloc _⟩
end Go.Proofs.Ytfndloakoknpaaa
