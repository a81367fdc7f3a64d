/-
  sandglassref07.K, called: the round numbers; nothing old is turned.
  sandglassref07.Table, called: the numbers that rounds begin with, and the round numbers; nothing old is turned.
  sandglassref07.turn, called: turned right; the world stays.
-/
import Derived.Test.YtpfeakdpckmcgaaDoorTabx
import Derived.Test.YtpfeakdpckmcgaaDoorRefPs
import Derived.Deep.AppendLies
import Derived.Deep.RegionLaw
namespace Go.Proofs.YtpfeakdpckmcgaaDoor
open Go.RowKit
/-- The first i round numbers are laid. -/
def Kfun (i : Nat) : Nat → Nat := fun k => if k < i then KK.getD k 0 else 0
theorem Kfun_step (i : Nat) : put (Kfun i) i (KK.getD i 0) = Kfun (i + 1) := by
  funext k
  unfold put Kfun
  by_cases e : k = i
  · subst e; simp
  · rw [if_neg e]
    by_cases h : k < i
    · rw [if_pos h, if_pos (by omega)]
    · rw [if_neg h, if_neg (by omega)]
theorem own_cells {w : World} {base : Nat} {e : TypeId} {v : Value} {l : List Nat} {n : Nat} (h : w.ownsRow base e 1 v n (u64s l)) (hl : l.length = n) (hn : 0 < n := by decide) : ∃ g c, v = .slice (some ⟨g, 0, none⟩) n c ∧ base ≤ g ∧ ∀ j, j < n → w.cell? ⟨g, j, none⟩ = some (.int .u64 ((l.getD j 0 : Nat) : Int)) := by
  subst hl
  obtain ⟨p, c, rfl, HF⟩ := own_form h
  obtain ⟨g, rfl, _⟩ := HF 0 _ (u64s_get hn)
  refine ⟨g, c, rfl, own_at h g rfl, fun j hj => ?_⟩
  obtain ⟨g', e1, e2⟩ := HF j _ (u64s_get hj)
  injection e1 with e1
  injection e1 with e1 _ _
  subst e1
  rw [e2, List.getD_eq_getElem?_getD, List.getElem?_eq_getElem hj]
  rfl
theorem Tryd.size82 : (Tryd.prog.info? 82).map (·.size) = some 64 := by kernel_rfl
set_option maxHeartbeats 1000000 in
theorem refK_any (w : World) :
    Calls Tryd.prog 43 #[] w fun e w' => e = .returned (.agg (lst .u32 (fun i => KK.getD i 0) 64).toArray) ∧ Ext w w' := by
  have HN : Hid (RowH (w.alloc (.cells (Array.replicate 64 (.int .u32 0)) 82)) w.heap.size 82 .u32 64 (fun _ => 0)) := RowH.new w .u32 64 82
  have HN1 : Hid (RowH ((w.alloc (.cells (Array.replicate 64 (.int .u32 0)) 82)).alloc (.cells (Array.replicate 64 (.int .u32 0)) 82)) (w.heap.size + 1) 82 .u32 64 (fun _ => 0)) := by
    have := RowH.new (w.alloc (.cells (Array.replicate 64 (.int .u32 0)) 82)) .u32 64 82
    rwa [show (w.alloc (.cells (Array.replicate 64 (.int .u32 0)) 82)).heap.size = w.heap.size + 1 from by simp] at this
  have HN0 : Hid (RowH ((w.alloc (.cells (Array.replicate 64 (.int .u32 0)) 82)).alloc (.cells (Array.replicate 64 (.int .u32 0)) 82)) w.heap.size 82 .u32 64 (fun _ => 0)) := HN.out.ext ((Ext.refl _).alloc _)
  have HE0 : Hid (Ext w ((w.alloc (.cells (Array.replicate 64 (.int .u32 0)) 82)).alloc (.cells (Array.replicate 64 (.int .u32 0)) 82))) := ((Ext.refl _).alloc _).alloc _
  clear HN
  go_enter Tryd.func43, Tryd.ntmps43
  go_wp2_with fail
  refine (primes_any 64 (by decide) _).mono ?_
  rintro e w1 ⟨k, v, rfl, hlen, hown, HX⟩
  have HR0 : RowH w1 w.heap.size 82 .u32 64 (fun _ => 0) := HN0.out.ext HX
  have HR1 : RowH w1 (w.heap.size + 1) 82 .u32 64 (Kfun 0) := HN1.out.ext HX
  have HE1 : Hid (Ext w w1) := HE0.out.trans HX
  have HO := own_base (b2 := w.heap.size + 1 + 1) hown (by simp)
  clear hown HX HN0 HN1 HE0
  obtain ⟨g, c, rfl, hg, HC0⟩ := own_cells HO hlen
  have HC : Hid (∀ j, j < 64 → w1.cell? ⟨g, j, none⟩ = some (.int .u64 (((sieve k).getD j 0 : Nat) : Int))) := HC0
  clear HC0
  have HS : Hid (∀ i, i < 64 → (sieve k).getD i 0 < 1000 ∧ rootN ((sieve k).getD i 0) 3 40 % BW = KK.getD i 0) := fun i hi => by
    obtain ⟨e1, e2⟩ := sieve_pre_get hlen (by decide) hi
    exact ⟨e2, by rw [e1]; exact KK_root hi⟩
  have HB1 : SizeLe w (w.heap.size + 1) := by unfold SizeLe; omega
  have HB0 : SizeLe w w.heap.size := Nat.le_refl _
  clear hlen HO
  generalize w.heap.size = n at *
  generalize sieve k = L at *
  go_wp2
  go_loopw [3] (fun u3 wr => ∃ (i : Nat), i ≤ 64 ∧ u3 = .int .i64 i ∧ RowH wr n 82 .u32 64 (fun _ => 0) ∧ RowH wr (n + 1) 82 .u32 64 (Kfun i) ∧ Hid (∀ j, j < 64 → wr.cell? ⟨g, j, none⟩ = some (.int .u64 ((L.getD j 0 : Nat) : Int))) ∧ g < wr.heap.size ∧ Hid (Ext w wr)) (fun u3 _ => 64 - (intOf u3).toNat)
  case atStart => exact ⟨0, by omega, rfl, HR0, HR1, HC, by exact World.block_lt_of_cell? w1 _ (HC.out 0 (by decide)), HE1⟩
  case round =>
    clear HR0 HR1 HC HE1
    obtain ⟨i, hi, rfl, HR0, HR1, HC, hgl, HE⟩ := hrel
    by_cases hlt : i < 64
    · have h1 : (i : Int) < 64 := by omega
      have h0 : (0 : Int) ≤ (i : Int) := by omega
      have hc := HC.out i hlt
      obtain ⟨hx, hr⟩ := HS.out i hlt
      have HR : Hid (rootN (L.getD i 0) 3 40 % BW = KK.getD i 0) := hr
      clear hr
      generalize L.getD i 0 = x at *
      go_wp2_with fail
      refine (root3_any x hx _).mono ?_
      rintro e w2 ⟨rfl, HX2⟩
      rw [HR.out]
      have HR1' := HR1.ext HX2
      have HR0' := HR0.ext HX2
      obtain ⟨gc, gf⟩ := HR1'.tab.2 i hlt
      have HR2 : Hid (RowH (w2.setCell ⟨n + 1, i, none⟩ (.int .u32 ((KK.getD i 0 : Nat) : Int))) (n + 1) 82 .u32 64 (Kfun (i + 1))) := by
        have := HR1'.set i (KK.getD i 0)
        rwa [Kfun_step] at this
      have HR3 : Hid (RowH (w2.setCell ⟨n + 1, i, none⟩ (.int .u32 ((KK.getD i 0 : Nat) : Int))) n 82 .u32 64 (fun _ => 0)) := HR0'.other (by omega) ⟨_, _, _, HR1'⟩
      have HC2 : Hid (∀ j, j < 64 → (w2.setCell ⟨n + 1, i, none⟩ (.int .u32 ((KK.getD i 0 : Nat) : Int))).cell? ⟨g, j, none⟩ = some (.int .u64 ((L.getD j 0 : Nat) : Int))) := fun j hj => by
        rw [World.cell?_setCell_far _ _ _ _ (by show n + 1 ≠ g; omega)]
        exact later HX2 (HC.out j hj)
      have HE2 : Hid (Ext w (w2.setCell ⟨n + 1, i, none⟩ (.int .u32 ((KK.getD i 0 : Nat) : Int)))) := Ext.st HB1 (HE.out.trans HX2)
      have hg2 : Hid (g < w2.heap.size) := Nat.lt_of_lt_of_le hgl HX2.size
      clear HR0 HR1 HR0' HR1' hc HX2
      generalize KK.getD i 0 = kv at *
      go_wp2
      go_roundw
      case rel => exact ⟨i + 1, hlt, by go_num, HR3.out, HR2.out, HC2, by simpa using hg2.out, HE2⟩
      case measure => simp [intOf]; omega
    · obtain rfl : i = 64 := by omega
      have HA : Hid (lst .u32 (fun i => KK.getD i 0) 64 = lst .u32 (Kfun 64) 64) := lst_congr fun k hk => by unfold Kfun; rw [if_pos hk]
      have HE2 : Hid (Ext w (wr.setRow n (lst .u32 (Kfun 64) 64).toArray)) := HE.out.row HB0 _
      have hz : ((64 : Nat) : Int) = 64 := rfl
      rw [hz]
      go_wp2_with (first | (refine wpList_load_row rfl 82 _ rfl (n + 1) rfl 82 (lst .u32 (Kfun 64) 64).toArray (0, 0) _ HR1 Tryd.underlying82 rfl (by rw [Tryd.size82]; simp [lst_len]) ?_) | (refine wpList_store_row rfl 82 _ _ rfl n (lst .u32 (Kfun 64) 64).toArray rfl rfl 82 _ HR0 (by rw [Tryd.size82]; simp [lst_len]) (by simp [lst_len]) (lst_one _ _ _) ?_))
      refine bodyPost_ret (v := .agg (lst .u32 (Kfun 64) 64).toArray) ?_ rfl ⟨by rw [HA.out], HE2.out⟩
      exact results_cell_row Tryd.results43 _ _ n 82 _ (0, 0) _ rfl (HR0.row (Kfun 64)) Tryd.underlying82 rfl (by rw [Tryd.size82]; simp [lst_len])
end Go.Proofs.YtpfeakdpckmcgaaDoor
namespace Go.Proofs.YtpfeakdpckmcgaaDoor
open Go.RowKit
/-- The state of Table's run: two fields in block n + 1, the answer's in block n. -/
def PT (w wr : World) (n : Nat) (vh vk : Value) : Prop := wr.cell? ⟨n, 0, none⟩ = some (.slice none 0 0) ∧ wr.cell? ⟨n, 1, none⟩ = some (.slice none 0 0) ∧ wr.frozen? ⟨n, 0, none⟩ = false ∧ wr.frozen? ⟨n, 1, none⟩ = false ∧ wr.cell? ⟨n + 1, 0, none⟩ = some vh ∧ wr.cell? ⟨n + 1, 1, none⟩ = some vk ∧ wr.frozen? ⟨n + 1, 0, none⟩ = false ∧ wr.frozen? ⟨n + 1, 1, none⟩ = false ∧ Ext w wr ∧ n + 1 < wr.heap.size ∧ w.heap.size ≤ n
theorem PT.ext {w wr wy : World} {n : Nat} {vh vk : Value} (h : PT w wr n vh vk) (hx : Ext wr wy) : PT w wy n vh vk := by
  obtain ⟨a0, a1, f0, f1, b0, b1, g0, g1, hE, l, hn⟩ := h
  exact ⟨later hx a0, later hx a1, (hx.cells.2 n 0 (by omega)).trans f0, (hx.cells.2 n 1 (by omega)).trans f1, later hx b0, later hx b1, (hx.cells.2 (n + 1) 0 l).trans g0, (hx.cells.2 (n + 1) 1 l).trans g1, hE.trans hx, Nat.lt_of_lt_of_le l hx.size, hn⟩
theorem PT.grown {w wr wy : World} {n : Nat} {vh vk : Value} {row : Option Nat} (h : PT w wr n vh vk) (hg : wr.grownBy wy row) (hrow : ∀ k, row = some k → n + 1 < k) : PT w wy n vh vk := by
  obtain ⟨a0, a1, f0, f1, b0, b1, g0, g1, hE, l, hn⟩ := h
  have ne : ∀ k, k ≤ n + 1 → some k ≠ row := fun k hk e => by have := hrow k e.symm; omega
  have hc : ∀ b o, b ≤ n + 1 → wy.cell? ⟨b, o, none⟩ = wr.cell? ⟨b, o, none⟩ := fun b o hb => hg.cell_far ⟨b, o, none⟩ (by show b < _; omega) (ne b hb)
  have hf : ∀ b o, b ≤ n + 1 → wy.frozen? ⟨b, o, none⟩ = wr.frozen? ⟨b, o, none⟩ := fun b o hb => hg.frozen_far ⟨b, o, none⟩ (by show b < _; omega) (ne b hb)
  exact ⟨(hc n 0 (by omega)).trans a0, (hc n 1 (by omega)).trans a1, (hf n 0 (by omega)).trans f0, (hf n 1 (by omega)).trans f1, (hc _ 0 (by omega)).trans b0, (hc _ 1 (by omega)).trans b1, (hf _ 0 (by omega)).trans g0, (hf _ 1 (by omega)).trans g1, ext_grown hE hg (fun k hk => by have := hrow k hk; omega), Nat.lt_of_lt_of_le l hg.size, hn⟩
theorem PT.setH {w wr : World} {n : Nat} {vh vk : Value} (h : PT w wr n vh vk) (v : Value) : PT w (wr.setCell ⟨n + 1, 0, none⟩ v) n v vk := by
  obtain ⟨a0, a1, f0, f1, b0, b1, g0, g1, hE, l, hn⟩ := h
  refine ⟨?_, ?_, by simpa using f0, by simpa using f1, ?_, ?_, by simpa using g0, by simpa using g1, Ext.st (by omega) hE, by simpa using l, hn⟩
  · rw [World.cell?_setCell_far _ _ _ _ (by show n + 1 ≠ n; omega)]; exact a0
  · rw [World.cell?_setCell_far _ _ _ _ (by show n + 1 ≠ n; omega)]; exact a1
  · exact World.cell?_setCell_same' _ _ _ (by rw [b0]; rfl)
  · rw [World.cell?_setCell_other _ _ _ _ (fun q => by injection q with _ q _; cases q)]; exact b1
theorem PT.setK {w wr : World} {n : Nat} {vh vk : Value} (h : PT w wr n vh vk) (v : Value) : PT w (wr.setCell ⟨n + 1, 1, none⟩ v) n vh v := by
  obtain ⟨a0, a1, f0, f1, b0, b1, g0, g1, hE, l, hn⟩ := h
  refine ⟨?_, ?_, by simpa using f0, by simpa using f1, ?_, ?_, by simpa using g0, by simpa using g1, Ext.st (by omega) hE, by simpa using l, hn⟩
  · rw [World.cell?_setCell_far _ _ _ _ (by show n + 1 ≠ n; omega)]; exact a0
  · rw [World.cell?_setCell_far _ _ _ _ (by show n + 1 ≠ n; omega)]; exact a1
  · rw [World.cell?_setCell_other _ _ _ _ (fun q => by injection q with _ q _; cases q)]; exact b0
  · exact World.cell?_setCell_same' _ _ _ (by rw [b1]; rfl)
theorem PT.new (w : World) (t : TypeId) : PT w ((w.alloc (.cells #[.slice none 0 0, .slice none 0 0] t)).alloc (.cells #[.slice none 0 0, .slice none 0 0] t)) w.heap.size (.slice none 0 0) (.slice none 0 0) := by
  have h1 : ∀ i v, #[Value.slice none 0 0, .slice none 0 0][i]? = some v → ((w.alloc (.cells #[.slice none 0 0, .slice none 0 0] t)).alloc (.cells #[.slice none 0 0, .slice none 0 0] t)).cell? ⟨w.heap.size, i, none⟩ = some v := fun i v hv => by
    rw [World.cell?_alloc_past _ _ _ (by simp), World.cell?_alloc_at _ _ _ _ rfl]; exact hv
  have h2 : ∀ i v, #[Value.slice none 0 0, .slice none 0 0][i]? = some v → ((w.alloc (.cells #[.slice none 0 0, .slice none 0 0] t)).alloc (.cells #[.slice none 0 0, .slice none 0 0] t)).cell? ⟨w.heap.size + 1, i, none⟩ = some v := fun i v hv => by
    rw [World.cell?_alloc_at _ _ _ _ (by simp)]; exact hv
  have e := ((Ext.refl w).alloc (.cells #[.slice none 0 0, .slice none 0 0] t)).alloc (.cells #[.slice none 0 0, .slice none 0 0] t)
  refine ⟨h1 0 _ rfl, h1 1 _ rfl, ?_, ?_, h2 0 _ rfl, h2 1 _ rfl, ?_, ?_, e, by simp, Nat.le_refl _⟩
  · rw [(((Ext.refl (w.alloc (.cells #[.slice none 0 0, .slice none 0 0] t))).alloc _).cells.2 _ 0 (by simp))]; exact World.frozen?_alloc_at _ _ _ _ rfl
  · rw [(((Ext.refl (w.alloc (.cells #[.slice none 0 0, .slice none 0 0] t))).alloc _).cells.2 _ 1 (by simp))]; exact World.frozen?_alloc_at _ _ _ _ rfl
  · exact World.frozen?_alloc_at _ _ _ _ (by simp)
  · exact World.frozen?_alloc_at _ _ _ _ (by simp)
theorem Tryd.info80 : (Tryd.prog.info? 80).map (fun i => (i.zero, i.size, i.bytes)) = some (some (.int .u32 0), 1, 4) := by kernel_rfl
theorem news1 (w : World) (v : Value) {t : TypeId} : ∀ j u, [v][j]? = some u → (w.alloc (.cells #[v] t)).cell? ((⟨w.heap.size, 0, none⟩ : Addr).add j) = some u := by
  intro j u hj
  match j, hj with
  | 0, hj => simp at hj; subst hj; simp [Addr.add]
theorem news_one (n : Int) {kd : IntKind} : ∀ u ∈ [Value.int kd n], u.oneCell' = true := by
  intro u hu; simp at hu; subst hu; rfl
theorem own_other {w : World} {base : Nat} {e : TypeId} {s : Nat} {v : Value} {n : Nat} {xs : List Value} {b i : Nat} {u : Value} (h : w.ownsRow base e s v n xs) (hb : b < base) : (w.setCell ⟨b, i, none⟩ u).ownsRow base e s v n xs := by
  refine ⟨h.1, ?_⟩
  rcases h.2 with hn | ⟨g, cap, cur, rfl, hbg, hgg, rest⟩
  · exact .inl hn
  · exact .inr ⟨g, cap, cur, rfl, hbg, (heap_setCell_other w ⟨b, i, none⟩ g u (by show g ≠ b; omega)).trans hgg, rest⟩
theorem far_cells {w w' : World} {row : Option Nat} {g n : Nat} {F : Nat → Nat} (hg : w.grownBy w' row) (hl : g < w.heap.size) (hne : some g ≠ row) (h : ∀ j, j < n → w.cell? ⟨g, j, none⟩ = some (.int .u64 (F j : Int))) : ∀ j, j < n → w'.cell? ⟨g, j, none⟩ = some (.int .u64 (F j : Int)) :=
  fun j hj => (hg.cell_far ⟨g, j, none⟩ hl hne).trans (h j hj)
set_option maxHeartbeats 2000000 in
theorem refTable_any (w : World) :
    Calls Tryd.prog 35 #[] w fun e w' => ∃ vh vk, e = .returned (.agg #[vh, vk]) ∧ SlIs w' vh (lst .u32 (fun i => HH.getD i 0) 8) ∧ SlIs w' vk (lst .u32 (fun i => KK.getD i 0) 64) ∧ Ext w w' := by
  obtain ⟨i0, hi, hz0, hz1, hz2⟩ := info_parts Tryd.info80
  have HP0 := PT.new w 71
  go_enter Tryd.func35, Tryd.ntmps35
  go_wp2_with fail
  refine (primes_any 8 (by decide) _).mono ?_
  rintro e w1 ⟨k, v, rfl, hlen, hown, HX⟩
  have HP1 := HP0.ext HX
  have HO := own_base (b2 := w.heap.size + 1 + 1) hown (by simp)
  clear hown HX HP0
  obtain ⟨g, c, rfl, hg, HC0⟩ := own_cells HO hlen
  have hg1 : g < w1.heap.size := World.block_lt_of_cell? w1 _ (HC0 0 (by decide))
  have HC : Hid (∀ j, j < 8 → w1.cell? ⟨g, j, none⟩ = some (.int .u64 (((sieve k).getD j 0 : Nat) : Int))) := HC0
  have HS : Hid (∀ i, i < 8 → (sieve k).getD i 0 < 1000 ∧ rootN ((sieve k).getD i 0) 2 40 % BW = HH.getD i 0) := fun i hi => by
    obtain ⟨e1, e2⟩ := sieve_pre_get hlen (by decide) hi
    exact ⟨e2, by rw [e1]; exact HH_root hi⟩
  clear hlen HO HC0
  generalize w.heap.size = n at *
  generalize sieve k = L at *
  generalize hB : w1.heap.size = B at *
  have HB : Hid (B ≤ w1.heap.size) := Nat.le_of_eq hB.symm
  clear hB
  go_wp2
  go_loopw [3] (fun u3 wr => ∃ (i : Nat) (vh : Value), i ≤ 8 ∧ u3 = .int .i64 i ∧ PT w wr n vh (.slice none 0 0) ∧ Hid (wr.ownsRow B 80 1 vh i (lst .u32 (fun i => HH.getD i 0) i)) ∧ Hid (∀ j, j < 8 → wr.cell? ⟨g, j, none⟩ = some (.int .u64 ((L.getD j 0 : Nat) : Int))) ∧ Hid (B ≤ wr.heap.size)) (fun u3 _ => 8 - (intOf u3).toNat)
  case atStart => exact ⟨0, _, by omega, rfl, HP1, World.ownsRow_nil _ _ _ _, HC, HB⟩
  case round =>
    clear HP1 HC HB
    obtain ⟨i, vh, hi8, rfl, HP, HO, HC, HB⟩ := hrel
    by_cases hlt : i < 8
    · have h1 : (i : Int) < 8 := by omega
      have h0 : (0 : Int) ≤ (i : Int) := by omega
      have hc := HC.out i hlt
      obtain ⟨hx, hr⟩ := HS.out i hlt
      obtain ⟨hv, HV⟩ : ∃ hv, Hid (HH.getD i 0 = hv) := ⟨_, rfl⟩
      have HR : Hid (rootN (L.getD i 0) 2 40 % BW = hv) := by rw [← HV.out]; exact hr
      clear hr
      generalize L.getD i 0 = x at *
      have b0 := HP.2.2.2.2.1
      go_wp2_with fail
      go_region_law (first | (refine step_append_lies _ rfl (.tmp 12) (.tmp 18) 69 rfl B 80 i0 (.int .u32 0) 1 4 Tryd.underlying69 hi hz0 hz1 hz2 rfl (by decide) vh i _ rfl HO2.out ⟨_, 0, none⟩ 1 1 [.int .u32 (hv : Int)] rfl rfl (news1 _ _) (news_one _) (by decide) (by unfold maxLen; omega) (by omega) HB2.out _ rfl ?_; intro g3 cap w3 hown3 hgrow hat hlt3; have HP3 := HP2.grown hgrow (fun k hk => by have := own_at HO2.out k hk; omega); obtain ⟨_, _, _, _, p0, p1, q0, q1, _⟩ := HP3) | (go_simp; go_at_call 42; refine (root2_any x hx _).mono ?_; rintro e w2 ⟨rfl, HX2⟩; rw [HR.out]; have HXX := Ext.trans (Ext.drew (Ext.refl _)) HX2; have p2 := later HXX b0; have l2 : n + 1 < w2.heap.size := (HP.ext HXX).2.2.2.2.2.2.2.2.2.1; have HP2 := (HP.ext HXX).ext ((Ext.refl _).alloc (.cells #[.int .u32 (hv : Int)] 80)); have HO2 : Hid ((w2.alloc (.cells #[.int .u32 (hv : Int)] 80)).ownsRow B 80 1 vh i (lst .u32 (fun i => HH.getD i 0) i)) := own_ext HO.out (HXX.alloc _); have HB2 : Hid (B ≤ (w2.alloc (.cells #[.int .u32 (hv : Int)] 80)).heap.size) := Nat.le_trans HB.out (HXX.alloc _).size))
      all_goals
        have HP4 := (HP2.grown hgrow (fun k hk => by have := own_at HO2.out k hk; omega)).setH (.slice (some ⟨g3, 0, none⟩) (i + 1) cap)
        have HO4 : Hid ((w3.setCell ⟨n + 1, 0, none⟩ (.slice (some ⟨g3, 0, none⟩) (i + 1) cap)).ownsRow B 80 1 (.slice (some ⟨g3, 0, none⟩) (i + 1) cap) (i + 1) (lst .u32 (fun i => HH.getD i 0) (i + 1))) := by
          refine own_other ?_ (by omega)
          rw [lst_succ, HV.out]
          exact hown3
        have HC4 : Hid (∀ j, j < 8 → (w3.setCell ⟨n + 1, 0, none⟩ (.slice (some ⟨g3, 0, none⟩) (i + 1) cap)).cell? ⟨g, j, none⟩ = some (.int .u64 ((L.getD j 0 : Nat) : Int))) := fun j hj => by
          rw [World.cell?_setCell_far _ _ _ _ (by show n + 1 ≠ g; omega)]
          refine far_cells (F := fun j => L.getD j 0) hgrow (Nat.lt_of_lt_of_le hg1 HB2.out) (fun q => by have := own_at HO2.out g q.symm; omega) (fun j hj => ?_) j hj
          exact later (HXX.alloc _) (HC.out j hj)
        have HB4 : Hid (B ≤ (w3.setCell ⟨n + 1, 0, none⟩ (.slice (some ⟨g3, 0, none⟩) (i + 1) cap)).heap.size) := by
          show _ ≤ _
          rw [World.size_setCell]
          exact Nat.le_trans HB2.out hgrow.size
        clear hown3 hgrow hat hlt3 HP2 HO2 HB2 HXX HP HO HB HC p0 p1 q0 q1
        go_wp2
        go_roundw
        case rel => exact ⟨i + 1, _, hlt, by go_num, HP4, HO4, HC4, HB4⟩
        case measure => simp [intOf]; omega
    · have HI : Hid (i = 8) := (by omega : i = 8)
      have hnl : ¬ (i : Int) < 8 := by omega
      go_wp2_with fail
      refine (refK_any _).mono ?_
      rintro e w4 ⟨rfl, HX4⟩
      have HKl : Hid ((lst .u32 (fun i => KK.getD i 0) 64).toArray.all (·.oneCell') = true) := lst_one _ _ _
      have HKs : Hid ((lst .u32 (fun i => KK.getD i 0) 64).toArray.size = 64) := by show _ = _; simp [lst_len]
      obtain ⟨KA, HKA⟩ : ∃ KA, Hid ((lst .u32 (fun i => KK.getD i 0) 64).toArray = KA) := ⟨_, rfl⟩
      rw [HKA.out] at HKl HKs
      rw [HKA.out]
      go_wp2_with (first | (refine wpList_store_row rfl 82 _ _ rfl _ KA rfl rfl 82 _ (heap_alloc_new _ _) (by rw [Tryd.size82, HKs.out]) (by rw [HKs.out]; rfl) HKl.out ?_))
      have HE5 : Hid (Ext w4 ((w4.alloc (.cells #[.int .u32 0, .int .u32 0, .int .u32 0, .int .u32 0, .int .u32 0, .int .u32 0, .int .u32 0, .int .u32 0, .int .u32 0, .int .u32 0, .int .u32 0, .int .u32 0, .int .u32 0, .int .u32 0, .int .u32 0, .int .u32 0, .int .u32 0, .int .u32 0, .int .u32 0, .int .u32 0, .int .u32 0, .int .u32 0, .int .u32 0, .int .u32 0, .int .u32 0, .int .u32 0, .int .u32 0, .int .u32 0, .int .u32 0, .int .u32 0, .int .u32 0, .int .u32 0, .int .u32 0, .int .u32 0, .int .u32 0, .int .u32 0, .int .u32 0, .int .u32 0, .int .u32 0, .int .u32 0, .int .u32 0, .int .u32 0, .int .u32 0, .int .u32 0, .int .u32 0, .int .u32 0, .int .u32 0, .int .u32 0, .int .u32 0, .int .u32 0, .int .u32 0, .int .u32 0, .int .u32 0, .int .u32 0, .int .u32 0, .int .u32 0, .int .u32 0, .int .u32 0, .int .u32 0, .int .u32 0, .int .u32 0, .int .u32 0, .int .u32 0, .int .u32 0] 82)).setRow w4.heap.size KA)) := ((Ext.refl w4).alloc _).row (Nat.le_refl _) KA
      have HR5 : Hid (RowH ((w4.alloc (.cells #[.int .u32 0, .int .u32 0, .int .u32 0, .int .u32 0, .int .u32 0, .int .u32 0, .int .u32 0, .int .u32 0, .int .u32 0, .int .u32 0, .int .u32 0, .int .u32 0, .int .u32 0, .int .u32 0, .int .u32 0, .int .u32 0, .int .u32 0, .int .u32 0, .int .u32 0, .int .u32 0, .int .u32 0, .int .u32 0, .int .u32 0, .int .u32 0, .int .u32 0, .int .u32 0, .int .u32 0, .int .u32 0, .int .u32 0, .int .u32 0, .int .u32 0, .int .u32 0, .int .u32 0, .int .u32 0, .int .u32 0, .int .u32 0, .int .u32 0, .int .u32 0, .int .u32 0, .int .u32 0, .int .u32 0, .int .u32 0, .int .u32 0, .int .u32 0, .int .u32 0, .int .u32 0, .int .u32 0, .int .u32 0, .int .u32 0, .int .u32 0, .int .u32 0, .int .u32 0, .int .u32 0, .int .u32 0, .int .u32 0, .int .u32 0, .int .u32 0, .int .u32 0, .int .u32 0, .int .u32 0, .int .u32 0, .int .u32 0, .int .u32 0, .int .u32 0] 82)).setRow w4.heap.size KA) w4.heap.size 82 .u32 64 (fun i => KK.getD i 0)) := by
        show _ = _
        rw [setRow_heap _ _ _ _ 82 (0, 0) (heap_alloc_new w4 _), HKA.out]
      have hl4 := HP.2.2.2.2.2.2.2.2.2.1
      have hl5 : Hid (n + 1 < w4.heap.size) := Nat.lt_of_lt_of_le hl4 HX4.size
      generalize (w4.alloc (.cells #[.int .u32 0, .int .u32 0, .int .u32 0, .int .u32 0, .int .u32 0, .int .u32 0, .int .u32 0, .int .u32 0, .int .u32 0, .int .u32 0, .int .u32 0, .int .u32 0, .int .u32 0, .int .u32 0, .int .u32 0, .int .u32 0, .int .u32 0, .int .u32 0, .int .u32 0, .int .u32 0, .int .u32 0, .int .u32 0, .int .u32 0, .int .u32 0, .int .u32 0, .int .u32 0, .int .u32 0, .int .u32 0, .int .u32 0, .int .u32 0, .int .u32 0, .int .u32 0, .int .u32 0, .int .u32 0, .int .u32 0, .int .u32 0, .int .u32 0, .int .u32 0, .int .u32 0, .int .u32 0, .int .u32 0, .int .u32 0, .int .u32 0, .int .u32 0, .int .u32 0, .int .u32 0, .int .u32 0, .int .u32 0, .int .u32 0, .int .u32 0, .int .u32 0, .int .u32 0, .int .u32 0, .int .u32 0, .int .u32 0, .int .u32 0, .int .u32 0, .int .u32 0, .int .u32 0, .int .u32 0, .int .u32 0, .int .u32 0, .int .u32 0, .int .u32 0] 82)).setRow w4.heap.size KA = W5 at *
      have HP5 := (HP.ext HX4).ext HE5.out
      have HO5 : Hid (W5.ownsRow B 80 1 vh i (lst .u32 (fun i => HH.getD i 0) i)) := own_ext (own_ext HO.out HX4) HE5.out
      have HB5 : Hid (B ≤ W5.heap.size) := Nat.le_trans HB.out (Nat.le_trans HX4.size HE5.out.size)
      have HN5 : Hid (∀ j u, (lst .u32 (fun i => KK.getD i 0) 64)[j]? = some u → W5.drew.cell? ((⟨w4.heap.size, 0, none⟩ : Addr).add j) = some u) := fun j u hu => by
        obtain ⟨hj, rfl⟩ := lst_of hu
        have hadd : (⟨w4.heap.size, 0, none⟩ : Addr).add j = ⟨w4.heap.size, j, none⟩ := by unfold Addr.add; split <;> simp_all
        rw [hadd]
        exact (HR5.out.tab.2 j hj).1
      have HK1 : Hid (∀ u ∈ lst .u32 (fun i => KK.getD i 0) 64, u.oneCell' = true) := fun u hu => by
        simp [lst] at hu
        obtain ⟨i, _, rfl⟩ := hu
        rfl
      clear HKl HKs HKA HP HO HC HB HX4 hl4
      generalize w4.heap.size = bk at *
      have HPk := HP5
      obtain ⟨_, _, _, _, p0, p1, q0, q1, _⟩ := HP5
      go_wp2_with fail
      go_region_law (refine step_append_lies _ rfl (.tmp 23) (.tmp 24) 69 rfl B 80 i0 (.int .u32 0) 1 4 Tryd.underlying69 hi hz0 hz1 hz2 rfl (by decide) (.slice none 0 0) 0 [] rfl (World.ownsRow_nil _ _ _ _) ⟨bk, 0, none⟩ 64 64 (lst .u32 (fun i => KK.getD i 0) 64) rfl (by rw [lst_len]) HN5.out HK1.out (by decide) (by decide) (by decide) HB5.out _ rfl ?_; intro g6 cap6 w6 hown6 hgrow6 hat6 hlt6; have HP6 := (PT.ext HPk (Ext.drew (Ext.refl _))).grown hgrow6 (fun k hk => by cases hk); have HPm := HP6; obtain ⟨_, _, _, _, r0, r1, s0, s1, _⟩ := HP6)
      have HP7 := HPm.setK (.slice (some ⟨g6, 0, none⟩) 64 cap6)
      have HOk : Hid ((w6.setCell ⟨n + 1, 1, none⟩ (.slice (some ⟨g6, 0, none⟩) 64 cap6)).ownsRow B 80 1 (.slice (some ⟨g6, 0, none⟩) 64 cap6) 64 (lst .u32 (fun i => KK.getD i 0) 64)) := own_other hown6 (by omega)
      have HOh : Hid ((w6.setCell ⟨n + 1, 1, none⟩ (.slice (some ⟨g6, 0, none⟩) 64 cap6)).ownsRow B 80 1 vh 8 (lst .u32 (fun i => HH.getD i 0) 8)) := by
        refine own_other ?_ (by omega)
        have h := (own_ext HO5.out (Ext.drew (Ext.refl _))).kept hgrow6 (by cases h : vh.ownBlock with
          | none => exact Or.inl rfl
          | some x => exact Or.inr (fun q => by cases q))
        rwa [HI.out] at h
      clear hown6 hgrow6 hat6 hlt6 HPm HPk HO5 HB5 HN5 HK1 p0 p1 q0 q1 r0 r1 s0 s1 HE5 HR5 hl5
      generalize w6.setCell ⟨n + 1, 1, none⟩ (.slice (some ⟨g6, 0, none⟩) 64 cap6) = W7 at *
      obtain ⟨a0, a1, f0, f1, b0, b1, g0, g1, hE, hl, hnn⟩ := HP7
      have HE7 : Hid (Ext w W7) := hE
      have HNn : Hid (w.heap.size ≤ n) := hnn
      have HB2 : Hid (n < B) := (by omega : n < B)
      clear hE hnn
      obtain ⟨ph, ch, rfl, _⟩ := own_form HOh.out
      go_wp2
      refine bodyPost_ret (v := .agg #[.slice ph 8 ch, .slice (some ⟨g6, 0, none⟩) 64 cap6]) (by simp [results, Tryd.results35, go_sem, a0, a1]) rfl ⟨_, _, rfl, own_read (own_other (own_other HOh.out HB2.out) HB2.out), own_read (own_other (own_other HOk.out HB2.out) HB2.out), ?_⟩
      exact Ext.st HNn.out (Ext.st HNn.out HE7.out)
end Go.Proofs.YtpfeakdpckmcgaaDoor
namespace Go.Proofs.YtpfeakdpckmcgaaDoor
open Go.RowKit
theorem rotr_lt {x n : Nat} (hx : x < 4294967296) : rotr x n < 4294967296 := by
  unfold rotr
  exact Nat.or_lt_two_pow (n := 32) (Nat.lt_of_le_of_lt (Nat.div_le_self _ _) hx) (Nat.mod_lt _ (by decide))
theorem turn_ok (x n : Nat) (hx : x < 4294967296) : bits BinOp.or IntKind.u32 ((x / 2 ^ n : Nat) : Int) (((x * 2 ^ (32 - n)) % 4294967296 : Nat) : Int) = ((rotr x n : Nat) : Int) :=
  u32_or_nat _ _ (Nat.lt_of_le_of_lt (Nat.div_le_self _ _) hx) (Nat.mod_lt _ (by decide))
theorem turn_int (x n : Nat) (hx : x < 4294967296) : bits BinOp.or IntKind.u32 ((x : Int) / 2 ^ n) ((x : Int) * 2 ^ (32 - n) % 4294967296) = ((rotr x n : Nat) : Int) := by
  rw [← turn_ok x n hx]
  have e1 : (2 : Int) ^ n = ((2 ^ n : Nat) : Int) := (Int.natCast_pow 2 n).symm
  have e2 : (2 : Int) ^ (32 - n) = ((2 ^ (32 - n) : Nat) : Int) := (Int.natCast_pow 2 (32 - n)).symm
  rw [e1, e2]
  generalize (2 : Nat) ^ n = p
  generalize (2 : Nat) ^ (32 - n) = q
  rw [← Int.natCast_mul]
  generalize x * q = z
  rw [show ((z : Int) % 4294967296) = ((z % 4294967296 : Nat) : Int) from by omega, Int.natCast_ediv]
set_option maxHeartbeats 400000 in
theorem turn_any (x n : Nat) (hx : x < 4294967296) (h0 : 0 < n) (hn : n < 32) (w : World) :
    Calls Tryd.prog 52 #[.int .u32 (x : Int), .int .i64 (n : Int)] w fun e w' => e = .returned (.int .u32 ((rotr x n : Nat) : Int)) ∧ w' = w := by
  have h1 : (0 : Int) ≤ (n : Int) := by omega
  have h2 : IntKind.i64.wrap (32 - (n : Int)) = 32 - (n : Int) := by rw [IntKind.wrap_i64]; omega
  go_enter Tryd.func52, Tryd.ntmps52
  go_wp2
  go_ret
  refine ⟨?_, rfl⟩
  rw [← turn_int x n hx]
  rfl
end Go.Proofs.YtpfeakdpckmcgaaDoor
