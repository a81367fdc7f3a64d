/-
  (*disk.Disk).write, sectorEnd and tear, called.
-/
import Derived.Test.YtbkdjpialjbhnaaDAt
namespace Go.Proofs.Ytbkdjpialjbhnaa
open Go.RowKit
theorem Try.info5a : (Try.prog.info? 5).map (fun i => (i.zero, i.size, i.bytes)) = some (some (.int .u8 0), 1, 1) := by kernel_rfl
set_option maxHeartbeats 1000000 in
theorem send_any (a S : Nat) (hS : S ≤ 65536) (ha : a < S) (w : World) : Calls Try.prog 40 #[.int .i64 (a : Int), .int .i64 (S : Int)] w fun e w' => e = .returned (.int .i64 (sEnd a S : Int)) ∧ w' = w := by
  have h0 : (a : Int).tdiv 64 = ((a / 64 : Nat) : Int) := rfl
  have h1 : IntKind.i64.wrap ((a / 64 : Nat) : Int) = ((a / 64 : Nat) : Int) := by rw [IntKind.wrap_i64]; omega
  have h2 : IntKind.i64.wrap (((a / 64 : Nat) : Int) + 1) = ((a / 64 : Nat) : Int) + 1 := by rw [IntKind.wrap_i64]; omega
  have h3 : IntKind.i64.wrap ((((a / 64 : Nat) : Int) + 1) * 64) = (((a / 64 : Nat) : Int) + 1) * 64 := by rw [IntKind.wrap_i64]; omega
  have e1 : ((a : Int) / 64 + 1) * 64 ≤ (S : Int) → ((a : Int) / 64 + 1) * 64 = (sEnd a S : Int) := fun q => by unfold sEnd; omega
  have e2 : ¬ ((a : Int) / 64 + 1) * 64 ≤ (S : Int) → (S : Int) = (sEnd a S : Int) := fun q => by unfold sEnd; omega
  by_cases q : ((a : Int) / 64 + 1) * 64 ≤ (S : Int)
  · have E : Hid (((a : Int) / 64 + 1) * 64 = (sEnd a S : Int)) := e1 q
    clear e1 e2
    go_enter Try.func40, Try.ntmps40
    go_wp2
    go_ret
    exact ⟨by rw [← E.out]; rfl, rfl⟩
  · have E : Hid ((S : Int) = (sEnd a S : Int)) := e2 q
    clear e1 e2
    go_enter Try.func40, Try.ntmps40
    go_wp2
    go_ret
    exact ⟨by rw [← E.out]; rfl, rfl⟩
/-- The disk's own field is set: the row is as it was. -/
theorem own_st {w : World} {base : Nat} {e : TypeId} {v : Value} {n : Nat} {xs : List Value} (h : w.ownsRow base e 1 v n xs) {b i : Nat} {u : Value} (hne : v.ownBlock ≠ some b) : (w.setCell ⟨b, i, none⟩ u).ownsRow base e 1 v n xs := own_setCell h hne
set_option maxHeartbeats 2000000 in
theorem dwrite_over {v : Value} {T : ByteArray} {y : Nat} {F : Nat → Prop} (x : ByteArray) (hk : dOk T y) (hz : 65536 < T.size + x.size) (w : World) (h : DAt w v T y F) :
    Calls Try.prog 30 #[v, .string x] w fun e w' => e = .returned (.int .i64 2) ∧ w' = w := by
  obtain ⟨b, s, rfl, hb, h0, h1, h2, h3, h4, h5, rfl⟩ := h
  obtain ⟨k1, k2⟩ := hk
  have w1 : IntKind.i64.wrap (65536 - (T.size : Int)) = 65536 - (T.size : Int) := by rw [IntKind.wrap_i64]; omega
  have c1 : 65536 - (T.size : Int) < (x.size : Int) := by omega
  obtain ⟨p, c, rfl, _⟩ := own_form h4
  clear h1 h2 h3 h4 h5
  go_enter Try.func30, Try.ntmps30
  go_wp2
  go_ret
  exact ⟨rfl, rfl⟩
set_option maxHeartbeats 2000000 in
theorem dwrite_good {v : Value} {T : ByteArray} {y : Nat} {F : Nat → Prop} (x : ByteArray) (hk : dOk T y) (hz : ¬ 65536 < T.size + x.size) (w : World) (h : DAt w v T y F) :
    Calls Try.prog 30 #[v, .string x] w fun e w' => ∃ F', e = .returned (.int .i64 0) ∧ DAt w' v (T ++ x) y F' ∧ Sub F' F w ∧ Chg F w w' := by
  obtain ⟨b, s, rfl, hb, h0, h1, h2, h3, h4, h5, rfl⟩ := h
  obtain ⟨k1, k2⟩ := hk
  have w1 : IntKind.i64.wrap (65536 - (T.size : Int)) = 65536 - (T.size : Int) := by rw [IntKind.wrap_i64]; omega
  have c1 : ¬ 65536 - (T.size : Int) < (x.size : Int) := by omega
  obtain ⟨p, c, rfl, _⟩ := own_form h4
  have HZ : Hid ((T ++ x).size = T.size + x.size) := ByteArray.size_append
  have hz' : T.size + x.size ≤ 65536 := by omega
  obtain ⟨i0, hi, hz0, hz1, hz2⟩ := info_parts Try.info5a
  have m1 : T.size + x.size ≤ maxLen := by unfold maxLen; omega
  have m2 : T.size + x.size ≤ 140737488355328 := by omega
  have HA : Hid (b < w.heap.size ∧ w.cell? ⟨b, 1, none⟩ = some (.int .i64 (y : Int)) ∧ w.frozen? ⟨b, 0, none⟩ = false ∧ w.frozen? ⟨b, 1, none⟩ = false ∧ w.ownsRow 0 5 1 (.slice p T.size c) T.size (lst .u8 (sb T) T.size) ∧ Value.ownBlock (.slice p T.size c) ≠ some b) := ⟨hb, h1, h2, h3, h4, h5⟩
  clear h1 h2 h3 h4 h5
  go_enter Try.func30, Try.ntmps30
  go_wp2_with (first | (at_builtin; refine wpList_app_where w rfl _ _ 67 9 rfl i0 Try.underlying67 Try.underlying9 hi hz0 hz1 hz2 _ _ _ rfl HA.out.2.2.2.2.1 x rfl m1 m2 ?_))
  intro s' w' ho hg hwh
  obtain ⟨_, h1, h2, h3, h4, h5⟩ := HA.out
  rw [lst_text, ← HZ.out] at ho
  have hb' : b < w'.heap.size := Nat.lt_of_lt_of_le hb hg.size
  have hbk := hg.block b hb (fun q => h5 q.symm)
  have f2 := (World.frozen?_of_block (a := ⟨b, 0, none⟩) hbk).trans h2
  have f3 := (World.frozen?_of_block (a := ⟨b, 1, none⟩) hbk).trans h3
  have d0 := (World.cell?_of_block (a := ⟨b, 0, none⟩) hbk).trans h0
  have d1 := (World.cell?_of_block (a := ⟨b, 1, none⟩) hbk).trans h1
  obtain ⟨p', c', rfl, _⟩ := own_form ho
  have HN : Hid (Value.ownBlock (.slice p' (T ++ x).size c') ≠ some b ∧ ∀ k, Value.ownBlock (.slice p' (T ++ x).size c') = some k → Value.ownBlock (.slice p T.size c) = some k ∨ w.heap.size ≤ k) := by
    rcases hwh with q | q
    · rw [q]
      exact ⟨h5, fun k hk => .inl hk⟩
    · rw [q]
      exact ⟨fun e => by injection e with e; omega, fun k hk => .inr (by injection hk with e; omega)⟩
  have HO : Hid (w'.ownsRow 0 5 1 (.slice p' (T ++ x).size c') (T ++ x).size (lst .u8 (sb (T ++ x)) (T ++ x).size)) := ho
  have HG : Hid (w.grownBy w' (Value.ownBlock (.slice p T.size c))) := hg
  clear HA h0 h1 h2 h3 h4 h5 hbk ho hg hi hz0 hz1 hz2 m1 m2 hwh
  go_wp2
  go_ret
  refine ⟨fun k => k = b ∨ Value.ownBlock (.slice p' (T ++ x).size c') = some k, rfl, ⟨b, .slice p' (T ++ x).size c', rfl, by simpa using hb', ?_, ?_, by simpa using f2, by simpa using f3, own_st HO.out HN.out.1, HN.out.1, rfl⟩, ?_, ?_⟩
  · simp [World.cell?_setCell_same, d0]
  · simp [World.cell?_setCell_other, d1]
  · rintro k (rfl | hk)
    · exact .inl (.inl rfl)
    · rcases HN.out.2 k hk with q | q
      · exact .inl (.inr q)
      · exact .inr q
  · exact Chg.st (.inl (.inl rfl)) ((Chg.refl _ w).grown HG.out (fun k q => .inl (.inr q)))
end Go.Proofs.Ytbkdjpialjbhnaa
