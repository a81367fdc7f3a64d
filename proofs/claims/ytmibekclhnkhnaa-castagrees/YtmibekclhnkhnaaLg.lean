/-
  Messages under way, in a slice; sandglasslaw20.onto, called.
-/
import Derived.Test.YtmibekclhnkhnaaLa
import Derived.Test.YtmibekclhnkhnaaRb
namespace Go.Proofs.Ytmibekclhnkhnaa
open Go.RowKit
/-- Messages under way as cells. -/
def wcs (l : List (Nat × Msg)) : List Value := l.flatMap fun x => [.int .i64 (x.1 : Int), .int .i64 x.2.kd, .int .i64 x.2.fr, .string x.2.bd]
theorem wcs_len (l : List (Nat × Msg)) : (wcs l).length = l.length * 4 := by
  induction l with
  | nil => rfl
  | cons m r ih => show (_ :: _ :: _ :: _ :: wcs r).length = _; simp [ih]; omega
theorem wcs_app (l m : List (Nat × Msg)) : wcs (l ++ m) = wcs l ++ wcs m := by unfold wcs; simp
theorem wcs_one (l : List (Nat × Msg)) : ∀ u ∈ wcs l, u.oneCell' = true := by
  intro u hu
  obtain ⟨m, _, q⟩ := List.mem_flatMap.1 hu
  simp at q
  rcases q with rfl | rfl | rfl | rfl <;> rfl
theorem wcs_get : ∀ (l : List (Nat × Msg)) {j : Nat} {x : Nat × Msg}, l[j]? = some x → (wcs l)[j * 4]? = some (.int .i64 (x.1 : Int)) ∧ (wcs l)[j * 4 + 1]? = some (.int .i64 x.2.kd) ∧ (wcs l)[j * 4 + 2]? = some (.int .i64 x.2.fr) ∧ (wcs l)[j * 4 + 3]? = some (.string x.2.bd)
  | [], j, m, h => by simp at h
  | x :: r, 0, m, h => by
    simp at h
    subst h
    exact ⟨rfl, rfl, rfl, rfl⟩
  | x :: r, j + 1, m, h => by
    have := wcs_get r (j := j) (x := m) (by simpa using h)
    show (_ :: _ :: _ :: _ :: wcs r)[(j + 1) * 4]? = _ ∧ (_ :: _ :: _ :: _ :: wcs r)[(j + 1) * 4 + 1]? = _ ∧ (_ :: _ :: _ :: _ :: wcs r)[(j + 1) * 4 + 2]? = _ ∧ (_ :: _ :: _ :: _ :: wcs r)[(j + 1) * 4 + 3]? = _
    rw [show (j + 1) * 4 = j * 4 + 4 from by omega]
    exact this
theorem one4 (n x y : Int) (B : ByteArray) : ∀ u ∈ ([.int .i64 n, .int .i64 x, .int .i64 y, .string B] : List Value), u.oneCell' = true := by
  intro u hu
  simp at hu
  rcases hu with rfl | rfl | rfl | rfl <;> rfl
theorem slv_new4 (w : World) (n x y : Int) (B : ByteArray) (t : TypeId) {b : Nat} (hb : w.heap.size = b) : SlV (w.alloc (.cells #[.int .i64 n, .int .i64 x, .int .i64 y, .string B] t)) (.slice (some ⟨b, 0, none⟩) 1 1) 1 [.int .i64 n, .int .i64 x, .int .i64 y, .string B] := by
  subst hb
  refine .inr ⟨_, _, _, rfl, fun j z hj => ?_⟩
  have h3 : j < 4 := (List.getElem?_eq_some_iff.1 hj).1
  have h3 : j = 0 ∨ j = 1 ∨ j = 2 ∨ j = 3 := by omega
  rw [World.cell?_alloc_at _ _ _ _ rfl]
  rcases h3 with rfl | rfl | rfl | rfl <;> exact hj
/-- So far: the first i of what is said, to all. -/
def onK (m : Msg) (f : Int) (k : Nat) : List (Nat × Msg) := (List.range k).map fun n => (n, ⟨m.kd, f, m.bd⟩)
theorem onK_succ (m : Msg) (f : Int) (k : Nat) : onK m f (k + 1) = onK m f k ++ [(k, ⟨m.kd, f, m.bd⟩)] := by unfold onK; rw [List.range_succ, List.map_append]; rfl
theorem ont_step {l : List Msg} {i : Nat} {m : Msg} (h : l[i]? = some m) (n : Nat) (f : Int) : ont n f (l.take (i + 1)) = ont n f (l.take i) ++ onK m f n := by
  unfold ont onK
  rw [List.take_add_one, h, List.flatMap_append]
  simp
theorem ont_len (n : Nat) (f : Int) (l : List Msg) : (ont n f l).length = l.length * n := by
  unfold ont
  induction l with
  | nil => simp
  | cons a r ih => rw [List.flatMap_cons, List.length_append, ih]; simp; rw [Nat.add_mul]; omega
/-- What onto has made so far. -/
def OS (W : World) (v : Value) (l : List (Nat × Msg)) (wr : World) : Prop := wr.ownsRow W.heap.size 53 4 v l.length (wcs l) ∧ Ext W wr
theorem OS.more {W wr wy : World} {v v' : Value} {l : List (Nat × Msg)} {x : Nat × Msg} (h : OS W v l wr) {wz : World} (hx : Ext wr wz) (ho : wy.ownsRow W.heap.size 53 4 v' (l.length + 1) (wcs l ++ [.int .i64 (x.1 : Int), .int .i64 x.2.kd, .int .i64 x.2.fr, .string x.2.bd])) (hg : wz.grownBy wy v.ownBlock) : OS W v' (l ++ [x]) wy := by
  refine ⟨?_, ext_grown (h.2.trans hx) hg (fun k q => (h.1.lt k q).1)⟩
  rw [show (l ++ [x]).length = l.length + 1 from by simp, show wcs (l ++ [x]) = wcs l ++ [.int .i64 (x.1 : Int), .int .i64 x.2.kd, .int .i64 x.2.fr, .string x.2.bd] from by rw [wcs_app]; rfl]
  exact ho
set_option maxRecDepth 100000 in
set_option maxHeartbeats 4000000 in
theorem onto_any (wa : Option Addr) (wn wc0 : Nat) (way : List (Nat × Msg)) (h : Nat) (f : Int) (la : Option Addr) (lc : Nat) (l : List Msg) (hh : h ≤ 7) (hl : l.length ≤ 1) (hw : way.length ≤ 5000) (W : World) (ho : W.ownsRow 0 53 4 (.slice wa wn wc0) way.length (wcs way)) (hm : MsIs W (.slice la l.length lc) l) :
    Calls Try.prog 18 #[.slice wa wn wc0, .int .i64 (h : Int), .int .i64 f, .slice la l.length lc] W fun e w' => ∃ a n c, e = .returned (.slice a n c) ∧ OS W (.slice a n c) (way ++ ont h f l) w' := by
  have HO : Hid (W.ownsRow 0 53 4 (.slice wa wn wc0) way.length (wcs way)) := ho
  have HM : Hid (MsIs W (.slice la l.length lc) l) := hm
  obtain ⟨n, Hn⟩ : ∃ n, Hid (l.length = n) := ⟨_, rfl⟩
  rw [Hn.out] at HM ⊢
  have hn1 : n ≤ 1 := by rw [← Hn.out]; exact hl
  clear ho hm hl
  go_enter Try.func18, Try.ntmps18
  go_wp2_with (first | (at_builtin; refine list_of_wp rfl (fun K hK => ?_); refine app49 W _ _ rfl W.heap.size (.slice none 0 0) 0 [] rfl (World.ownsRow_nil _ _ _ _) (.slice wa wn wc0) way.length (wcs way) rfl (own_slv HO.out) (wcs_len way) (wcs_one way) (by omega) (Nat.le_refl _) ?_))
  intro v1 y1 ho hg hb
  obtain ⟨a1, c1, rfl⟩ := own_len ho
  refine hK.out _ _ ?_
  clear hK K
  have HS1 : Hid (OS W (.slice a1 way.length c1) (way ++ ont h f (l.take 0)) y1) := by
    refine ⟨?_, ext_grown (Ext.refl W) hg (fun k q => by cases q)⟩
    rw [show way ++ ont h f (l.take 0) = way from List.append_nil _]
    simpa using ho
  clear ho hg hb
  go_wp2_with fail
  go_loopw [9, 10] (fun u9 u10 wr => ∃ (i : Nat) (a9 : Option Addr) (n9 c9 : Nat), i ≤ n ∧ u10 = .int .i64 i ∧ u9 = .slice a9 n9 c9 ∧ Hid (OS W (.slice a9 n9 c9) (way ++ ont h f (l.take i)) wr)) (fun _ u10 _ => n - (intOf u10).toNat)
  case atStart => exact ⟨0, a1, way.length, c1, Nat.zero_le _, rfl, rfl, HS1⟩
  case round =>
    obtain ⟨i, a9, n9, c9, hi, rfl, rfl, HS⟩ := hrel
    clear HS1
    by_cases hlt : i < n
    · obtain ⟨q1, q0, qw⟩ := lp_nums i n hlt (by omega)
      obtain ⟨m, hm⟩ : ∃ m, l[i]? = some m := ⟨l[i]'(by rw [Hn.out]; exact hlt), List.getElem?_eq_getElem _⟩
      have HM2 : MsIs wr (.slice la l.length lc) l := by rw [Hn.out]; exact HM.out.ext HS.out.2
      obtain ⟨g, o, rfl, hbl, hd0, hd1, hd2⟩ := HM2.get hm
      have HSt : Hid (ont h f (l.take (i + 1)) = ont h f (l.take i) ++ onK m f h) := ont_step hm h f
      have HLe : Hid ((way ++ ont h f (l.take i)).length ≤ 5010) := by
        show _ ≤ _
        rw [List.length_append, ont_len, List.length_take]
        have e1 : min i l.length = 0 := by have := Hn.out; omega
        rw [e1]; omega
      clear HM2 hm
      obtain ⟨w0, HW0⟩ : ∃ w0, Hid (way ++ ont h f (l.take i) = w0) := ⟨_, rfl⟩
      rw [HW0.out] at HS HLe
      have HSb : Hid (OS W (.slice a9 n9 c9) (w0 ++ onK m f 0) (wr.alloc (.cells #[.int .i64 m.kd, .int .i64 f, .string m.bd] 38))) := by
        rw [show w0 ++ onK m f 0 = w0 from List.append_nil _]
        exact ⟨own_ext HS.out.1 ((Ext.refl _).alloc _), HS.out.2.alloc _⟩
      have HBb : Hid (Blk (wr.alloc (.cells #[.int .i64 m.kd, .int .i64 f, .string m.bd] 38)) wr.heap.size 3 (mg ⟨m.kd, f, m.bd⟩)) := Blk.new wr _ _ fun j hj => by
        have : j = 0 ∨ j = 1 ∨ j = 2 := by omega
        rcases this with rfl | rfl | rfl <;> rfl
      have HNb : Hid (Value.ownBlock (.slice a9 n9 c9) ≠ some wr.heap.size) := fun z => by have := (HS.out.1.lt _ z).2; omega
      clear HS
      go_wp2_with fail
      generalize wr.alloc (.cells #[.int .i64 m.kd, .int .i64 f, .string m.bd] 38) = Y0 at *
      generalize wr.heap.size = mb at *
      go_loopw [9, 12] (fun u9 u12 wr => ∃ (k : Nat) (a9 : Option Addr) (n9 c9 : Nat), k ≤ h ∧ u12 = .int .i64 k ∧ u9 = .slice a9 n9 c9 ∧ Hid (OS W (.slice a9 n9 c9) (w0 ++ onK m f k) wr) ∧ Hid (Blk wr mb 3 (mg ⟨m.kd, f, m.bd⟩)) ∧ Hid (Value.ownBlock (.slice a9 n9 c9) ≠ some mb)) (fun _ u12 _ => h - (intOf u12).toNat)
      case atStart => exact ⟨0, a9, n9, c9, Nat.zero_le _, rfl, rfl, HSb, HBb, HNb⟩
      case round =>
        obtain ⟨k, a8, n8, c8, hk, rfl, rfl, HT, HBm, HNm⟩ := hrel
        clear HSb HBb HNb
        by_cases hkl : k < h
        · obtain ⟨r1, r0, rw'⟩ := lp_nums k h hkl (by omega)
          have m0 : wr.cell? ⟨mb, 0, none⟩ = some (.int .i64 m.kd) := (HBm.out.2 0 (by decide)).1
          have m1 : wr.cell? ⟨mb, 1, none⟩ = some (.int .i64 f) := (HBm.out.2 1 (by decide)).1
          have m2 : wr.cell? ⟨mb, 2, none⟩ = some (.string m.bd) := (HBm.out.2 2 (by decide)).1
          have hml := HBm.out.1
          have HLk : Hid ((w0 ++ onK m f k).length ≤ 6000) := by
            show _ ≤ _
            rw [List.length_append]
            have : (onK m f k).length = k := by unfold onK; simp
            have := HLe.out
            omega
          have HSk : Hid (w0 ++ onK m f (k + 1) = (w0 ++ onK m f k) ++ [(k, ⟨m.kd, f, m.bd⟩)]) := by show _ = _; rw [onK_succ, List.append_assoc]
          generalize w0 ++ onK m f k = w1 at *
          go_wp2_with (first | (at_builtin; refine list_of_wp rfl (fun K hK => ?_); refine app49 (wr.alloc (.cells #[.int .i64 (k : Int), .int .i64 m.kd, .int .i64 f, .string m.bd] 53)) _ _ rfl W.heap.size (.slice a8 n8 c8) w1.length (wcs w1) rfl (HT.out.1.alloc _) (.slice (some ⟨wr.heap.size, 0, none⟩) 1 1) 1 [.int .i64 (k : Int), .int .i64 m.kd, .int .i64 f, .string m.bd] rfl (slv_new4 _ _ _ _ _ _ (by simp)) rfl (one4 _ _ _ _) (by have := HLk.out; omega) (by have := HT.out.2.size; simp; omega) ?_))
          intro v2 y2 ho hg hb
          obtain ⟨a2, c2, rfl⟩ := own_len ho
          refine hK.out _ _ ?_
          clear hK K
          have HT2 : Hid (OS W (.slice a2 (w1.length + 1) c2) (w0 ++ onK m f (k + 1)) y2) := by
            rw [HSk.out]
            exact HT.out.more (x := (k, ⟨m.kd, f, m.bd⟩)) ((Ext.refl _).alloc _) ho hg
          have HBm2 : Hid (Blk y2 mb 3 (mg ⟨m.kd, f, m.bd⟩)) := (HBm.out.ext ((Ext.refl _).alloc _)).grown hg HNm.out
          have HNm2 : Hid (Value.ownBlock (.slice a2 (w1.length + 1) c2) ≠ some mb) := fun z => by
            rcases hb with e | e
            · rw [e] at z; exact HNm.out z
            · rw [e] at z; injection z with z; (try simp at z); omega
          clear ho hg hb m0 m1 m2 hml HT HBm HNm
          go_wp2
          go_roundw
          case rel => exact ⟨k + 1, a2, w1.length + 1, c2, hkl, by push_cast; rfl, rfl, HT2, HBm2, HNm2⟩
          case measure => exact lp_meas hkl
        · obtain rfl : k = h := by omega
          have hnl : ¬ (k : Int) < (k : Int) := by omega
          have HT3 : Hid (OS W (.slice a8 n8 c8) (way ++ ont k f (l.take (i + 1))) wr) := by
            rw [HSt.out, ← List.append_assoc, HW0.out]
            exact HT.out
          clear HT HBm HNm
          go_wp2
          go_roundw
          case rel => exact ⟨i + 1, a8, n8, c8, hlt, by push_cast; rfl, rfl, HT3⟩
          case measure => exact lp_meas hlt
    · obtain rfl : i = n := by omega
      have hnl : ¬ (i : Int) < (i : Int) := by omega
      have HF : Hid (l.take i = l) := List.take_of_length_le (by rw [Hn.out]; exact Nat.le_refl _)
      rw [HF.out] at HS
      go_wp2
      go_ret
      exact ⟨a9, n9, c9, rfl, HS.out⟩
end Go.Proofs.Ytmibekclhnkhnaa
