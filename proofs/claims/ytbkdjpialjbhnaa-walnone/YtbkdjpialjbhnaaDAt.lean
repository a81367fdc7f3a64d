/-
  A disk of package disk: where it lies; New, Text, Synced, called.
-/
import Derived.Test.YtbkdjpialjbhnaaDb2
namespace Go.Proofs.Ytbkdjpialjbhnaa
open Go.RowKit
/-- v points to a disk that holds T, of which y bytes are synced; its blocks are F. -/
def DAt (w : World) (v : Value) (T : ByteArray) (y : Nat) (F : Nat → Prop) : Prop :=
  ∃ b s, v = .pointer (some ⟨b, 0, none⟩) ∧ b < w.heap.size ∧ w.cell? ⟨b, 0, none⟩ = some s ∧ w.cell? ⟨b, 1, none⟩ = some (.int .i64 (y : Int)) ∧ w.frozen? ⟨b, 0, none⟩ = false ∧ w.frozen? ⟨b, 1, none⟩ = false ∧
    w.ownsRow 0 5 1 s T.size (lst .u8 (sb T) T.size) ∧ s.ownBlock ≠ some b ∧ F = fun k => k = b ∨ s.ownBlock = some k
theorem DAt.lt {w : World} {v : Value} {T : ByteArray} {y : Nat} {F : Nat → Prop} (h : DAt w v T y F) : ∀ k, F k → k < w.heap.size := by
  obtain ⟨b, s, rfl, hb, _, _, _, _, ho, _, rfl⟩ := h
  rintro k (rfl | hk)
  · exact hb
  · exact (ho.lt k hk).2
theorem DAt.keep {w w' : World} {v : Value} {T : ByteArray} {y : Nat} {F : Nat → Prop} (h : DAt w v T y F) (hs : w.heap.size ≤ w'.heap.size) (hk : ∀ k, F k → w'.heap[k]? = w.heap[k]?) : DAt w' v T y F := by
  obtain ⟨b, s, rfl, hb, h0, h1, h2, h3, h4, h5, rfl⟩ := h
  have e := hk b (.inl rfl)
  exact ⟨b, s, rfl, by omega, (World.cell?_of_block (a := ⟨b, 0, none⟩) e).trans h0, (World.cell?_of_block (a := ⟨b, 1, none⟩) e).trans h1, (World.frozen?_of_block (a := ⟨b, 0, none⟩) e).trans h2, (World.frozen?_of_block (a := ⟨b, 1, none⟩) e).trans h3, own_keep h4 (fun k q => hk k (.inr q)), h5, rfl⟩
theorem DAt.form {w : World} {v : Value} {T : ByteArray} {y : Nat} {F : Nat → Prop} (h : DAt w v T y F) : ∃ a, v = .pointer (some a) := by
  obtain ⟨b, s, rfl, _⟩ := h
  exact ⟨_, rfl⟩
theorem DAt.ext {w w' : World} {v : Value} {T : ByteArray} {y : Nat} {F : Nat → Prop} (h : DAt w v T y F) (hx : Ext w w') : DAt w' v T y F := h.keep hx.size fun k hk => Below.block hx k (h.lt k hk)
theorem DAt.far {w w' : World} {v : Value} {T : ByteArray} {y : Nat} {F G : Nat → Prop} (h : DAt w v T y F) (hx : Chg G w w') (ha : Asunder F G) : DAt w' v T y F := h.keep hx.size fun k hk => hx.block k (h.lt k hk) (fun q => ha k hk q)
set_option maxHeartbeats 1000000 in
theorem dnew_any (w : World) : Calls Try.prog 21 #[] w fun e w' => ∃ v F, e = .returned v ∧ DAt w' v ⟨#[]⟩ 0 F ∧ From F w.heap.size ∧ Ext w w' := by
  go_enter Try.func21, Try.ntmps21
  go_wp2
  refine bodyPost_ret (v := .pointer (some ⟨w.heap.size, 0, none⟩)) (by simp [results, Try.results21, go_sem]) rfl ⟨_, fun k => k = w.heap.size ∨ Value.ownBlock (.slice none 0 0) = some k, rfl, ⟨w.heap.size, .slice none 0 0, rfl, by simp, ?_, ?_, World.frozen?_alloc_at _ _ _ _ rfl, World.frozen?_alloc_at _ _ _ _ rfl, World.ownsRow_nil _ _ _ _, (fun q => by cases q), rfl⟩, ?_, (Ext.refl w).alloc _⟩
  · rw [World.cell?_alloc_at _ _ _ _ rfl]; rfl
  · rw [World.cell?_alloc_at _ _ _ _ rfl]; rfl
  · rintro k (rfl | hk)
    · exact Nat.le_refl _
    · cases hk
theorem nil_text {T : ByteArray} (h : T.size = 0) : T = ⟨#[]⟩ := sb_eq h fun i hi => by omega
theorem mkS_self (T : ByteArray) : mkS (sb T) T.size = T := sb_eq (mkS_len _ _) fun i hi => by rw [mkS_len] at hi; exact mkS_sb hi (sb_lt T i)
theorem run_nil_string (w : World) : (convert 67 9 (.slice none 0 0)).run Try.prog w = .ok (.string ⟨#[]⟩) w := by
  rw [run_convert_bytes_string _ 67 9 5 _ _ _ Try.underlying67 Try.underlying5 Try.underlying9]
  simp [Conv.bytesToString]
  rfl
set_option maxHeartbeats 1000000 in
theorem dtext_any {v : Value} {T : ByteArray} {y : Nat} {F : Nat → Prop} (w : World) (h : DAt w v T y F) : Calls Try.prog 24 #[v] w fun e w' => e = .returned (.string T) ∧ Ext w w' := by
  obtain ⟨b, s, rfl, hb, h0, h1, h2, h3, h4, h5, rfl⟩ := h
  have HE : Hid (Ext w w) := Ext.refl w
  rcases h4.2 with ⟨rfl, hn⟩ | ⟨g, cap, cur, rfl, _, _, _, _, _, _⟩
  · obtain rfl := nil_text hn
    have hcs := run_nil_string w
    clear h1 h2 h3 h4 h5
    go_enter Try.func24, Try.ntmps24
    go_wp2
    go_ret
    exact ⟨rfl, HE.out⟩
  · have hcs := run_tab_string Try.prog 5 67 9 Try.underlying67 Try.underlying5 Try.underlying9 w (sb T) T.size T.size g cap (own_tab h4) (Nat.le_refl _)
    rw [mkS_self] at hcs
    clear h1 h2 h3 h4 h5
    go_enter Try.func24, Try.ntmps24
    go_wp2
    go_ret
    exact ⟨rfl, HE.out⟩
set_option maxHeartbeats 1000000 in
theorem dsynced_any {v : Value} {T : ByteArray} {y : Nat} {F : Nat → Prop} (w : World) (h : DAt w v T y F) : Calls Try.prog 29 #[v] w fun e w' => e = .returned (.int .i64 (y : Int)) ∧ Ext w w' := by
  obtain ⟨b, s, rfl, hb, h0, h1, h2, h3, h4, h5, rfl⟩ := h
  clear h0 h2 h3 h4 h5
  go_enter Try.func29, Try.ntmps29
  go_wp2
  go_ret
  exact ⟨rfl, Ext.refl w⟩
set_option maxHeartbeats 1000000 in
theorem dtext_nil (w : World) : Calls Try.prog 24 #[.pointer none] w fun e w' => e = .returned (.string ⟨#[]⟩) ∧ Ext w w' := by
  go_enter Try.func24, Try.ntmps24
  go_wp2
  go_ret
  exact ⟨rfl, Ext.refl w⟩
set_option maxHeartbeats 1000000 in
theorem dsynced_nil (w : World) : Calls Try.prog 29 #[.pointer none] w fun e w' => e = .returned (.int .i64 0) ∧ Ext w w' := by
  go_enter Try.func29, Try.ntmps29
  go_wp2
  go_ret
  exact ⟨rfl, Ext.refl w⟩
set_option maxHeartbeats 1000000 in
theorem ddo_nil (k : Int) (x : ByteArray) (K : Nat) (w : World) : Calls Try.prog 22 #[.pointer none, .agg #[.int .i64 k, .string x, .int .u64 (K : Int)]] w fun e w' => e = .returned (.int .i64 1) ∧ Ext w w' := by
  go_enter Try.func22, Try.ntmps22
  go_wp2
  go_ret
  exact ⟨rfl, (Ext.refl w).alloc _⟩
end Go.Proofs.Ytbkdjpialjbhnaa
