/-
  The document's bytes of a number (sandglassref01.Bytes), called; nothing old is turned.
-/
import Derived.Test.YtdjdociecokilaaDoorBytesMath
namespace Go.Proofs.YtdjdociecokilaaDoor
open Go.RowKit
theorem Tryd.info5 : (Tryd.prog.info? 5).map (fun i => (i.zero, i.size, i.bytes)) = some (some (.int .u8 0), 1, 1) := by kernel_rfl
/-- The first n bytes, the highest first. -/
def pf (B : Nat → Int) (n : Nat) : List Value := (List.range n).map fun t => .int .u8 (B (31 - t))
theorem pf_len (B : Nat → Int) (n : Nat) : (pf B n).length = n := by simp [pf]
theorem pf_succ (B : Nat → Int) (n : Nat) : pf B (n + 1) = pf B n ++ [.int .u8 (B (31 - n))] := by simp [pf, List.range_succ]
theorem pf_32 (B : Nat → Int) : pf B 32 = (nsOf B).map (Value.int .u8) := by simp [pf, nsOf, List.range, List.range.loop]
theorem byteAt_at (a0 a1 a2 a3 : Int) (m j : Nat) (hm : m < 4) (hj : j < 8) : byteAt a0 a1 a2 a3 (31 - (8 * m + j)) = wd a0 a1 a2 a3 (3 - m) / 2 ^ (8 * (7 - j)) % 256 := by
  unfold byteAt
  rw [show (31 - (8 * m + j)) / 8 = 3 - m from by omega, show (31 - (8 * m + j)) % 8 * 8 = 8 * (7 - j) from by omega]
theorem run_row_string (w : World) (B : Nat → Int) {base : Nat} {v : Value} (h : w.ownsRow base 5 1 v 32 (pf B 32)) : (convert 42 9 v).run Tryd.prog w = .ok (.string (bs B)) w := by
  obtain ⟨hl, h | ⟨g, cap, cur, rfl, _, hg, hn, hc, hs, ht⟩⟩ := h
  · omega
  have own : w.ownsRow base 5 1 (.slice (some ⟨g, 0, none⟩) 32 cap) 32 (pf B 32) := ⟨hl, .inr ⟨g, cap, cur, rfl, ‹_›, hg, hn, hc, hs, ht⟩⟩
  rw [run_convert_bytes_string _ 42 9 5 _ _ _ Tryd.underlying42 Tryd.underlying5 Tryd.underlying9]
  rw [run_bytesToString _ _ _ _ (nsOf B)]
  · have := foldl_push (nsOf B) []
    rw [show (ByteArray.empty : ByteArray) = ⟨([] : List UInt8).toArray⟩ from rfl, this]
    rfl
  · have := run_loadCells_list (P := Tryd.prog) (w := w) ⟨g, 0, none⟩ ((nsOf B).map (Value.int .u8)) (by
      intro j v h
      exact own.cells rfl j v (by rw [pf_32]; exact h))
    exact this
set_option maxHeartbeats 1000000 in
theorem refBytes_any (a0 a1 a2 a3 : Int) (w : World) :
    Calls Tryd.prog 24 #[.agg #[.int .u64 a0, .int .u64 a1, .int .u64 a2, .int .u64 a3]] w fun e w' =>
      e = .returned (.string (bs (byteAt a0 a1 a2 a3))) ∧ Ext w w' := by
  obtain ⟨i0, hi, hz0, hz1, hz2⟩ := info_parts Tryd.info5
  obtain ⟨Bf, HBf⟩ : ∃ f, Hid (byteAt a0 a1 a2 a3 = f) := ⟨_, rfl⟩
  go_enter Tryd.func24, Tryd.ntmps24
  go_wp2
  go_loopw [3, 4] (fun v i wr => ∃ m : Nat, m ≤ 4 ∧ i = .int .i64 (3 - m) ∧ wr.ownsRow (w.heap.size + 1) 5 1 v (8 * m) (pf Bf (8 * m)) ∧ Ext (w.alloc (.cells #[.int .u64 a0, .int .u64 a1, .int .u64 a2, .int .u64 a3] 24)) wr) (fun _ i _ => (intOf i + 1).toNat)
  case atStart => exact ⟨0, by omega, rfl, World.ownsRow_nil _ _ _ _, Ext.refl _⟩
  case round =>
    obtain ⟨m, hm, rfl, hown, HX⟩ := hrel
    by_cases hlt : m < 4
    · obtain ⟨p, hp⟩ : ∃ p : Nat, (3 : Int) - (m : Int) = (p : Int) := ⟨3 - m, by omega⟩
      have HP : Hid (p = 3 - m) := by show _ = _; omega
      have ga := wd_get a0 a1 a2 a3 p (by omega)
      have ga2 := get_some ga
      have HW : Hid (∀ j, j < 8 → Bf (31 - (8 * m + j)) = wd a0 a1 a2 a3 p / 2 ^ (8 * (7 - j)) % 256) := by
        intro j hj
        rw [← HBf.out, HP.out]
        exact byteAt_at a0 a1 a2 a3 m j hlt hj
      rw [hp]
      have HPM : Hid ((3 : Int) - (m : Int) = (p : Int)) := hp
      have hp0 : (0 : Int) ≤ (p : Int) := by omega
      have hp1 : (p : Int) < 4 := by omega
      clear hp
      generalize wd a0 a1 a2 a3 p = x at *
      go_wp2
      go_loopw [3, 5] (fun v i wr => ∃ j : Nat, j ≤ 8 ∧ i = .int .i64 (7 - j) ∧ wr.ownsRow (w.heap.size + 1) 5 1 v (8 * m + j) (pf Bf (8 * m + j)) ∧ Ext (w.alloc (.cells #[.int .u64 a0, .int .u64 a1, .int .u64 a2, .int .u64 a3] 24)) wr) (fun _ i _ => (intOf i + 1).toNat)
      case atStart => exact ⟨0, by omega, rfl, hown, HX⟩
      case round =>
        clear hown HX
        obtain ⟨j, hj, rfl, hown, HX⟩ := hrel
        by_cases hjl : j < 8
        · obtain ⟨q, hq⟩ : ∃ q : Nat, (7 : Int) - (j : Int) = (q : Int) := ⟨7 - j, by omega⟩
          have HQ : Hid (q = 7 - j) := by show _ = _; omega
          rw [hq]
          have HQM : Hid ((7 : Int) - (j : Int) = (q : Int)) := hq
          have hq0 : (0 : Int) ≤ (q : Int) := by omega
          have hq1 : (q : Int) < 8 := by omega
          clear hq
          have gc : wr.cell? ⟨w.heap.size, p, none⟩ = some (.int .u64 x) := by
            rw [HX.cells.1 w.heap.size p (by simp), World.cell?_alloc_at _ _ _ _ rfl]
            simpa using ga
          have HV : Hid (x / 2 ^ (8 * q) % 256 = Bf (31 - (8 * m + j))) := by
            show _ = _
            rw [HW.out j hjl, HQ.out]
          go_wp2_with (first | (at_builtin; refine wpList_append_own _ rfl _ _ 42 rfl (w.heap.size + 1) 5 i0 (.int .u8 0) 1 1 Tryd.underlying42 hi hz0 hz1 hz2 rfl (by decide) _ _ _ rfl (hown.alloc _) ⟨wr.heap.size, 0, none⟩ 1 1 [.int .u8 (x / 2 ^ (8 * q) % 256)] rfl rfl ?c1 ?c2 ?c3 ?c4 ?c5 ?_))
          case c1 =>
            intro t u ht
            match t, ht with
            | 0, ht => simp at ht; subst ht; simp [Addr.add]
          case c2 => intro u hu; simp at hu; subst hu; rfl
          case c3 => unfold maxLen; omega
          case c4 => omega
          case c5 => have := HX.size; simp at this; simp; omega
          · intro v' w1 hown' hgrow _
            rw [HV.out, ← pf_succ] at hown'
            have HX1 : Ext (w.alloc (.cells #[.int .u64 a0, .int .u64 a1, .int .u64 a2, .int .u64 a3] 24)) w1 := Below.grown (HX.alloc _) hgrow (by have := HX.size; simp at this; simp; omega) (fun k hk => by have := (hown.lt k hk).1; simp; omega)
            clear hown hgrow HX
            go_wp2
            exact ⟨⟨j + 1, hjl, by have := HQM.out; exact congrArg (Value.int IntKind.i64) (by omega), hown', HX1⟩, by simp [intOf]⟩
        · obtain rfl : j = 8 := by omega
          go_wp2
          exact ⟨⟨m + 1, hlt, by have := HPM.out; exact congrArg (Value.int IntKind.i64) (by omega), hown, HX⟩, by simp [intOf]⟩
    · obtain rfl : m = 4 := by omega
      have hcv := run_row_string wr Bf hown
      obtain ⟨S, HS⟩ : ∃ S, Hid (bs Bf = S) := ⟨_, rfl⟩
      rw [HS.out] at hcv
      have HE : Hid (Ext w wr) := ((Ext.refl _).alloc _).trans HX
      clear hown HX
      go_wp2
      go_ret
      exact ⟨by rw [HBf.out, HS.out]; rfl, HE.out⟩
end Go.Proofs.YtdjdociecokilaaDoor
