/-
  A part that a law made itself: what each call leaves of it. The example's states.
-/
import Derived.Test.YtmibekclhnkhnaaCTk
import Derived.Test.YtmibekclhnkhnaaRa
namespace Go.Proofs.Ytmibekclhnkhnaa
open Go.RowKit
/-- A part made since w, within the blocks G; nothing of w has turned. -/
def Cs (w : World) (v : Value) (N T F : Nat) (s : St) (G : Nat → Prop) (wr : World) : Prop := (∃ G', CAt wr v N T F s G' ∧ ∀ k, G' k → G k) ∧ Ext w wr ∧ From G w.heap.size ∧ (∀ k, G k → k < wr.heap.size) ∧ Ok N T F s ∧ hasQ N T
section
variable {w W : World} {v : Value} {N T F : Nat} {s : St} {G : Nat → Prop}
theorem Cs.ext {wy : World} (h : Cs w v N T F s G W) (hx : Ext W wy) : Cs w v N T F s G wy := by
  obtain ⟨⟨G', h1, h2⟩, h3, h4, h5, h6⟩ := h
  exact ⟨⟨G', h1.ext hx, h2⟩, h3.trans hx, h4, fun k q => Nat.lt_of_lt_of_le (h5 k q) hx.size, h6⟩
theorem Cs.old (h : Cs w v N T F s G W) : Ext w W := h.2.1
/-- While blocks outside G turn. -/
theorem Cs.far {wy : World} {H : Nat → Prop} (h : Cs w v N T F s G W) (hx : Chg H W wy) (ha : Asunder G H) (hf : From H w.heap.size) : Cs w v N T F s G wy := by
  obtain ⟨⟨G', h1, h2⟩, h3, h4, h5, h6⟩ := h
  exact ⟨⟨G', h1.far hx (fun k a b => ha k (h2 k a) b), h2⟩, Chg.ext h3 hf hx, h4, fun k q => Nat.lt_of_lt_of_le (h5 k q) hx.size, h6⟩
theorem own_keep {w w' : World} {base : Nat} {e : TypeId} {sz : Nat} {v : Value} {n : Nat} {xs : List Value} (h : w.ownsRow base e sz v n xs) (hk : ∀ k, v.ownBlock = some k → w'.heap[k]? = w.heap[k]?) : w'.ownsRow base e sz v n xs := by
  refine ⟨h.1, ?_⟩
  rcases h.2 with h0 | ⟨g, cap, cur, hv, hb, hg, rest⟩
  · exact .inl h0
  · exact .inr ⟨g, cap, cur, hv, hb, (hk g (by rw [hv]; rfl)).trans hg, rest⟩
theorem own_len {w : World} {base sz n : Nat} {e : TypeId} {v : Value} {xs : List Value} (h : w.ownsRow base e sz v n xs) : ∃ a c, v = .slice a n c := by
  rcases h.2 with ⟨rfl, rfl⟩ | ⟨g, cap, cur, rfl, _⟩
  · exact ⟨none, 0, rfl⟩
  · exact ⟨_, cap, rfl⟩
theorem stp_len (N T F : Nat) (s : St) (m : Msg) : (stp N T F s m).1.L.length ≤ s.L.length + 1 := by
  by_cases hc : ctsB N F s.L m = true
  · by_cases hk : m.kd = 1
    · rw [stp_send hc hk]; simp
    · rw [stp_voice hc hk]; simp
  · rw [stp_bad (by cases q : ctsB N F s.L m; rfl; exact absurd q hc)]; simp
theorem Ok.tbs (h : Ok N T F s) : ∀ B, s.tb = some B → B.size ≤ 100000 := fun B hB => by
  have := h.tb3 B hB
  obtain ⟨m, hm, q⟩ := List.countP_pos_iff.1 (Nat.lt_of_le_of_lt (Nat.zero_le _) this)
  have q := of_decide_eq_true q
  have := (may_iff.1 (h.may m hm)).2.2.2.2.1
  rw [q.2] at this
  omega
theorem lnew_any (N T F : Nat) (h : hasC N T F) (w W : World) (hx : Ext w W) : Calls Try.prog 12 #[.int .i64 (N : Int), .int .i64 (T : Int), .int .i64 (F : Int)] W fun e w' => ∃ a G, e = .returned (.pointer (some a)) ∧ Cs w (.pointer (some a)) N T F st0 G w' ∧ From G W.heap.size ∧ Ext W w' := by
  refine (cnew_good N T F h W).mono ?_
  rintro e w' ⟨v, G, rfl, HC, HF, HX⟩
  obtain ⟨a, rfl⟩ := HC.form
  exact ⟨a, G, rfl, ⟨⟨G, HC, fun _ q => q⟩, hx.trans HX, fun k q => Nat.le_trans hx.size (HF k q), HC.lt, ok_nil N T F, h.1⟩, HF, HX⟩
theorem ltake_any (m : Msg) (hl : s.L.length ≤ 900) (h : Cs w v N T F s G W) : Calls Try.prog 17 #[v, mv3 m] W fun e w' => ∃ a c, e = .returned (.slice a (stp N T F s m).2.length c) ∧ w'.ownsRow W.heap.size 38 3 (.slice a (stp N T F s m).2.length c) (stp N T F s m).2.length (mcs (stp N T F s m).2) ∧ Cs w v N T F (stp N T F s m).1 G w' ∧ Chg G W w' := by
  obtain ⟨⟨G', h1, h2⟩, h3, h4, h5, h6, h7⟩ := h
  refine (ctake_any m h7 h6 hl W h1).mono ?_
  rintro e w' ⟨u, G2, rfl, q1, q2, q3, q4⟩
  obtain ⟨a, c, rfl⟩ := own_len q4
  have q3 := q3.weaken h2
  exact ⟨a, c, rfl, q4, ⟨⟨G2, q1, fun k z => h2 k (q2 k z)⟩, Chg.ext h3 h4 q3, h4, fun k z => Nat.lt_of_lt_of_le (h5 k z) q3.size, h6.stp m, h7⟩, q3⟩
theorem ltold_any (h : Cs w v N T F s G W) : Calls Try.prog 16 #[v] W fun e w' => e = .returned (.tuple #[.string (s.tb.getD ⟨#[]⟩), .bool s.tb.isSome]) ∧ Ext W w' := by
  obtain ⟨⟨G', h1, h2⟩, h3, h4, h5, h6, h7⟩ := h
  exact ctold_any h6.tbs W h1
end
/-- The example. -/
def exX : ByteArray := ⟨#[120]⟩
/-- Behind the send, and j echoes. -/
def awE : Nat → St
  | 0 => (stp 4 1 1 st0 ⟨1, 1, exX⟩).1
  | j + 1 => (stp 4 1 1 (awE j) ⟨2, (j : Int) + 1, exX⟩).1
def awO (j : Nat) : Nat := (stp 4 1 1 (awE j) ⟨2, (j : Int) + 1, exX⟩).2.length
def awN : Nat → Nat
  | 0 => 0
  | j + 1 => awN j + awO j
/-- And j readies. -/
def awR : Nat → St
  | 0 => awE 3
  | j + 1 => (stp 4 1 1 (awR j) ⟨3, (j : Int) + 1, exX⟩).1
theorem awE_len : ∀ j, (awE j).L.length ≤ j + 1
  | 0 => stp_len 4 1 1 st0 _
  | j + 1 => Nat.le_trans (stp_len 4 1 1 (awE j) _) (by have := awE_len j; omega)
theorem awR_len : ∀ j, (awR j).L.length ≤ j + 4
  | 0 => awE_len 3
  | j + 1 => Nat.le_trans (stp_len 4 1 1 (awR j) _) (by have := awR_len j; omega)
theorem aw_send : (stp 4 1 1 st0 ⟨1, 1, exX⟩).2 = [⟨2, 0, exX⟩] := by
  rw [stp_send (N := 4) (T := 1) (F := 1) (s := st0) (m := ⟨1, 1, exX⟩) (by decide +kernel) rfl]
theorem aw_no : (awE 0).tb.isSome = false := by decide +kernel
theorem awN_3 : awN 3 = 1 := by decide +kernel
theorem awN_le (j : Nat) (h : j ≤ 3) : awN j ≤ 10 ∧ awO j ≤ 10 := by
  have : j = 0 ∨ j = 1 ∨ j = 2 ∨ j = 3 := by omega
  rcases this with rfl | rfl | rfl | rfl <;> decide +kernel
theorem awR_3 : (awR 3).tb.isSome = true ∧ (awR 3).tb.getD ⟨#[]⟩ = exX := by decide +kernel
end Go.Proofs.Ytmibekclhnkhnaa
