/-
  One node's part of package cast: where it lies; New, Told, say, called.
-/
import Derived.Test.YtmibekclhnkhnaaCa
namespace Go.Proofs.Ytmibekclhnkhnaa
open Go.RowKit
/-- The first n cells of block b. -/
def Blk (w : World) (b n : Nat) (g : Nat → Value) : Prop := b < w.heap.size ∧ ∀ j, j < n → w.cell? ⟨b, j, none⟩ = some (g j) ∧ w.frozen? ⟨b, j, none⟩ = false
theorem Blk.keep {w w' : World} {b n : Nat} {g : Nat → Value} (h : Blk w b n g) (hs : w.heap.size ≤ w'.heap.size) (hb : w'.heap[b]? = w.heap[b]?) : Blk w' b n g :=
  ⟨Nat.lt_of_lt_of_le h.1 hs, fun j hj => ⟨(World.cell?_of_block (a := ⟨b, j, none⟩) hb).trans (h.2 j hj).1, (World.frozen?_of_block (a := ⟨b, j, none⟩) hb).trans (h.2 j hj).2⟩⟩
theorem Blk.ext {w w' : World} {b n : Nat} {g : Nat → Value} (h : Blk w b n g) (hx : Ext w w') : Blk w' b n g := h.keep hx.size (Below.block hx b h.1)
theorem Blk.st {w : World} {b n c i : Nat} {g : Nat → Value} {v : Value} (h : Blk w b n g) (hne : b ≠ c) : Blk (w.setCell ⟨c, i, none⟩ v) b n g := h.keep (by simp) (Below.heap_setCell w ⟨c, i, none⟩ v b hne)
theorem Blk.put {w : World} {b n : Nat} {g : Nat → Value} (h : Blk w b n g) {i : Nat} (hi : i < n) (v : Value) : Blk (w.setCell ⟨b, i, none⟩ v) b n (fun j => if j = i then v else g j) := by
  refine ⟨by simpa using h.1, fun j hj => ⟨?_, by simpa using (h.2 j hj).2⟩⟩
  show _ = some (if j = i then v else g j)
  by_cases e : j = i
  · subst e
    rw [if_pos rfl]
    rw [World.cell?_setCell_same _ _ _ (by rw [(h.2 j hj).1])]
  · rw [if_neg e, World.cell?_setCell_other _ _ _ _ (fun q => e (by first | exact congrArg Addr.off q | exact (congrArg Addr.off q).symm))]
    exact (h.2 j hj).1
theorem Blk.congr {w : World} {b n : Nat} {g g' : Nat → Value} (h : Blk w b n g) (e : ∀ j, j < n → g j = g' j) : Blk w b n g' := ⟨h.1, fun j hj => by rw [← e j hj]; exact h.2 j hj⟩
theorem Blk.new (w : World) (cs : Array Value) (t : TypeId) {n : Nat} {g : Nat → Value} (h : ∀ j, j < n → cs[j]? = some (g j)) : Blk (w.alloc (.cells cs t)) w.heap.size n g :=
  ⟨by simp, fun j hj => ⟨by rw [World.cell?_alloc_at _ _ _ _ rfl]; exact h j hj, World.frozen?_alloc_at _ _ _ _ rfl⟩⟩
theorem Blk.grown {w w' : World} {b n : Nat} {g : Nat → Value} {row : Option Nat} (h : Blk w b n g) (hg : w.grownBy w' row) (hne : row ≠ some b) : Blk w' b n g := h.keep hg.size (hg.block b h.1 (fun q => hne q.symm))
/-- A part's cells. -/
def cg (N T F : Nat) (s : St) (mv : Option Nat) (j : Nat) : Value :=
  if j = 0 then .int .i64 (N : Int) else if j = 1 then .int .i64 (T : Int) else if j = 2 then .int .i64 (F : Int)
  else if j < 35 then .bool (hrd s.L (((j - 3) / 8 : Nat) : Int) (((j - 3) % 8 : Nat) : Int))
  else if j = 35 then .map mv else if j = 36 then .bool s.rb.isSome else if j = 37 then .bool s.tb.isSome else .string (s.tb.getD ⟨#[]⟩)
/-- The voices of a part. -/
def vof (L : List Msg) (k : Int) (B : ByteArray) : Nat := if k = 1 then 0 else cnt L k B
theorem vof_nil : vof [] = fun _ _ => 0 := by funext k B; unfold vof; split <;> rfl
/-- v points to a part; its blocks are G. -/
def CAt (w : World) (v : Value) (N T F : Nat) (s : St) (G : Nat → Prop) : Prop :=
  ∃ b mv, v = .pointer (some ⟨b, 0, none⟩) ∧ Blk w b 39 (cg N T F s mv) ∧ ((s.tb.isSome = true ∧ mv = none) ∨ (s.tb.isSome = false ∧ ∃ bm, mv = some bm ∧ bm ≠ b ∧ Vo w bm s.L.length (vof s.L))) ∧ G = fun k => k = b ∨ mv = some k
theorem CAt.lt {w : World} {v : Value} {N T F : Nat} {s : St} {G : Nat → Prop} (h : CAt w v N T F s G) : ∀ k, G k → k < w.heap.size := by
  obtain ⟨b, mv, rfl, hb, hm, rfl⟩ := h
  rintro k (rfl | rfl)
  · exact hb.1
  · rcases hm with ⟨_, q⟩ | ⟨_, bm, q, _, hv⟩
    · cases q
    · cases q; exact hv.lt
theorem CAt.keep {w w' : World} {v : Value} {N T F : Nat} {s : St} {G : Nat → Prop} (h : CAt w v N T F s G) (hs : w.heap.size ≤ w'.heap.size) (hk : ∀ k, G k → w'.heap[k]? = w.heap[k]?) : CAt w' v N T F s G := by
  obtain ⟨b, mv, rfl, hb, hm, rfl⟩ := h
  refine ⟨b, mv, rfl, hb.keep hs (hk b (.inl rfl)), ?_, rfl⟩
  rcases hm with q | ⟨q1, bm, q, h1, hv⟩
  · exact .inl q
  · exact .inr ⟨q1, bm, q, h1, hv.keep (hk bm (.inr q))⟩
theorem CAt.form {w : World} {v : Value} {N T F : Nat} {s : St} {G : Nat → Prop} (h : CAt w v N T F s G) : ∃ a, v = .pointer (some a) := by
  obtain ⟨b, mv, rfl, _⟩ := h
  exact ⟨_, rfl⟩
theorem CAt.ext {w w' : World} {v : Value} {N T F : Nat} {s : St} {G : Nat → Prop} (h : CAt w v N T F s G) (hx : Ext w w') : CAt w' v N T F s G := h.keep hx.size fun k hk => Below.block hx k (h.lt k hk)
theorem CAt.far {w w' : World} {v : Value} {N T F : Nat} {s : St} {G H : Nat → Prop} (h : CAt w v N T F s G) (hx : Chg H w w') (ha : Asunder G H) : CAt w' v N T F s G := h.keep hx.size fun k hk => hx.block k (h.lt k hk) (fun q => ha k hk q)
/-- There is such a broadcast. -/
abbrev hasC (n t f : Int) : Prop := hasQ n t ∧ 1 ≤ f ∧ f ≤ n
theorem q_pos {n t : Int} (h : hasQ n t) : ¬ qI n t = 0 := by
  unfold qI
  rw [if_pos h]
  obtain ⟨h1, h2, h3, h4⟩ := h
  omega
set_option maxHeartbeats 1000000 in
theorem cnew_bad (n t f : Int) (h : ¬ hasC n t f) (w : World) : Calls Try.prog 12 #[.int .i64 n, .int .i64 t, .int .i64 f] w fun e w' => e = .returned (.pointer none) ∧ Ext w w' := by
  have HE : Hid (Ext w w) := Ext.refl w
  have HC : Hid (Calls Try.prog 8 #[.int .i64 n, .int .i64 t] w fun e w' => e = .returned (.int .i64 (qI n t)) ∧ w' = w) := quorum_any n t w
  by_cases hq : hasQ n t
  · have h0 : ¬ qI n t = 0 := q_pos hq
    by_cases h1 : f < 1
    · clear h hq
      go_enter Try.func12, Try.ntmps12
      go_wp2_with fail
      refine HC.out.mono ?_
      rintro e w1 ⟨rfl, rfl⟩
      go_wp2
      go_ret
      exact ⟨rfl, HE.out⟩
    · have h2 : n < f := by unfold hasC at h; have : ¬ (1 ≤ f ∧ f ≤ n) := fun q => h ⟨hq, q⟩; omega
      clear h hq
      go_enter Try.func12, Try.ntmps12
      go_wp2_with fail
      refine HC.out.mono ?_
      rintro e w1 ⟨rfl, rfl⟩
      go_wp2
      go_ret
      exact ⟨rfl, HE.out⟩
  · have h0 : qI n t = 0 := if_neg hq
    clear h hq
    go_enter Try.func12, Try.ntmps12
    go_wp2_with fail
    refine HC.out.mono ?_
    rintro e w1 ⟨rfl, rfl⟩
    go_wp2
    go_ret
    exact ⟨rfl, HE.out⟩
set_option maxHeartbeats 1000000 in
theorem cnew_good (N T F : Nat) (h : hasC N T F) (w : World) : Calls Try.prog 12 #[.int .i64 (N : Int), .int .i64 (T : Int), .int .i64 (F : Int)] w fun e w' => ∃ v G, e = .returned v ∧ CAt w' v N T F st0 G ∧ From G w.heap.size ∧ Ext w w' := by
  have HE : Hid (Ext w w) := Ext.refl w
  have HC : Hid (Calls Try.prog 8 #[.int .i64 (N : Int), .int .i64 (T : Int)] w fun e w' => e = .returned (.int .i64 (qI N T)) ∧ w' = w) := quorum_any N T w
  have h0 : (qI N T == 0) = false := by simpa using q_pos h.1
  have h1 : ¬ (F : Int) < 1 := by have := h.2.1; omega
  have h2 : ¬ (N : Int) < (F : Int) := by have := h.2.2; omega
  have hmm := @run_makeMap Try.prog
  clear h
  go_enter Try.func12, Try.ntmps12
  go_wp2_with fail
  refine HC.out.mono ?_
  rintro e w1 ⟨rfl, rfl⟩
  go_wp2
  refine bodyPost_ret (v := .pointer (some ⟨w1.heap.size + 1, 0, none⟩)) (by simp [results, Try.results12, go_sem]) rfl ⟨_, fun k => k = w1.heap.size + 1 ∨ (some w1.heap.size : Option Nat) = some k, rfl, ⟨w1.heap.size + 1, some w1.heap.size, rfl, ?_, .inr ⟨rfl, w1.heap.size, rfl, by omega, (by show Vo _ _ 0 (vof []); rw [vof_nil]; exact (vo_new w1).ext ((Ext.refl _).alloc _))⟩, rfl⟩, ?_, (HE.out.alloc _).alloc _⟩
  · have := Blk.new (w1.alloc (.map #[] 0)) (n := 39) (g := cg N T F st0 (some w1.heap.size)) #[.int .i64 (N : Int), .int .i64 (T : Int), .int .i64 (F : Int), .bool false, .bool false, .bool false, .bool false, .bool false, .bool false, .bool false, .bool false, .bool false, .bool false, .bool false, .bool false, .bool false, .bool false, .bool false, .bool false, .bool false, .bool false, .bool false, .bool false, .bool false, .bool false, .bool false, .bool false, .bool false, .bool false, .bool false, .bool false, .bool false, .bool false, .bool false, .bool false, .map (some w1.heap.size), .bool false, .bool false, .string ⟨#[]⟩] 60 (by
      intro j hj
      rw [← Array.getElem?_toList]
      show ((List.range 39).map (cg N T F st0 (some w1.heap.size)))[j]? = _
      simp [hj])
    rw [show (w1.alloc (.map #[] 0)).heap.size = w1.heap.size + 1 from by simp] at this
    exact this
  · rintro k (rfl | q)
    · omega
    · injection q with q; omega
set_option maxHeartbeats 1000000 in
theorem ctold_nil (w : World) : Calls Try.prog 16 #[.pointer none] w fun e w' => e = .returned (.tuple #[.string ⟨#[]⟩, .bool false]) ∧ Ext w w' := by
  go_enter Try.func16, Try.ntmps16
  go_wp2
  refine bodyPost_ret (v := .tuple #[.string ⟨#[]⟩, .bool false]) (by simp [results, Try.results16, go_sem]) rfl ⟨rfl, Ext.refl w⟩
set_option maxHeartbeats 1000000 in
theorem ctake_nil (k f : Int) (B : ByteArray) (w : World) : Calls Try.prog 17 #[.pointer none, .agg #[.int .i64 k, .int .i64 f, .string B]] w fun e w' => e = .returned (.slice none 0 0) ∧ Ext w w' := by
  go_enter Try.func17, Try.ntmps17
  go_wp2
  go_ret
  exact ⟨rfl, (Ext.refl w).alloc _⟩
/-- A slice that was written out. -/
theorem own_new (w : World) (t : TypeId) (sz n : Nat) {cs : Array Value} {xs : List Value} (hx : cs.toList = xs) (hl : cs.size = n * sz) {base : Nat} (hb : base ≤ w.heap.size) (hn : n ≤ maxLen := by decide) :
    (w.alloc (.cells cs t)).ownsRow base t sz (.slice (some ⟨w.heap.size, 0, none⟩) n n) n xs := by
  subst hx
  refine ⟨by simpa using hl, .inr ⟨w.heap.size, n, cs, rfl, hb, Deep.blk_alloc_new w _, Nat.le_refl _, hn, hl, ?_⟩⟩
  rw [List.take_of_length_le (by simp [hl])]
/-- Messages as cells. -/
def mcs (l : List Msg) : List Value := l.flatMap fun m => [.int .i64 m.kd, .int .i64 m.fr, .string m.bd]
set_option maxHeartbeats 1000000 in
theorem say_any (k : Int) (B : ByteArray) (hB : B.size ≤ 4096) (w : World) : Calls Try.prog 23 #[.int .i64 k, .string B] w fun e w' => ∃ g, e = .returned (.slice (some ⟨g, 0, none⟩) 1 1) ∧ w'.ownsRow w.heap.size 38 3 (.slice (some ⟨g, 0, none⟩) 1 1) 1 (mcs [⟨k, 0, B⟩]) ∧ Ext w w' := by
  go_enter Try.func23, Try.ntmps23
  go_wp2_with fail
  refine (clone_any B (by omega) _).mono ?_
  rintro e w1 ⟨rfl, HX⟩
  have HX1 : Hid (Ext w w1) := HX
  clear HX
  go_wp2
  refine bodyPost_ret (v := .slice (some ⟨w1.heap.size, 0, none⟩) 1 1) (by simp [results, Try.results23, go_sem]) rfl ⟨w1.heap.size, rfl, ?_, HX1.out.alloc _⟩
  exact own_new w1 38 3 1 rfl rfl HX1.out.size
end Go.Proofs.Ytmibekclhnkhnaa
