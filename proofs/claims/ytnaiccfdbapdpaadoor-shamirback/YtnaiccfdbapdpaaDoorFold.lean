/-
  scalar.fold, called on a slice of the rest's words: five words take over times 2^256 - q.
-/
import Derived.Test.YtnaiccfdbapdpaaDoorMaths
import Derived.Test.YtnaiccfdbapdpaaDoorMulx
import Derived.Test.YtnaiccfdbapdpaaDoorLows
namespace Go.Proofs.YtnaiccfdbapdpaaDoor
open Go.RowKit
set_option maxHeartbeats 400000 in
theorem fold_any (b p n : Nat) (hn : 5 ≤ n) (o r0 r1 r2 r3 : Int) (ho : Lim o) (hr : Lim4 r0 r1 r2 r3) (w : World)
    (c0 : w.cell? ⟨b, p, none⟩ = some (.int .u64 r0)) (c1 : w.cell? ⟨b, p + 1, none⟩ = some (.int .u64 r1)) (c2 : w.cell? ⟨b, p + 2, none⟩ = some (.int .u64 r2)) (c3 : w.cell? ⟨b, p + 3, none⟩ = some (.int .u64 r3)) (c4 : w.cell? ⟨b, p + 4, none⟩ = some (.int .u64 0))
    (f0 : w.frozen? ⟨b, p, none⟩ = false) (f1 : w.frozen? ⟨b, p + 1, none⟩ = false) (f2 : w.frozen? ⟨b, p + 2, none⟩ = false) (f3 : w.frozen? ⟨b, p + 3, none⟩ = false) (f4 : w.frozen? ⟨b, p + 4, none⟩ = false) :
    Calls Tryd.prog 54 #[.slice (some ⟨b, p, none⟩) n n, .int .u64 o] w fun e w' => ∃ s0 s1 s2 s3 s4 : Int, e = .returned (.tuple #[]) ∧ Hid (FoldP o r0 r1 r2 r3 s0 s1 s2 s3 s4) ∧ w' = ((((w.setCell ⟨b, p, none⟩ (.int .u64 s0)).setCell ⟨b, p + 1, none⟩ (.int .u64 s1)).setCell ⟨b, p + 2, none⟩ (.int .u64 s2)).setCell ⟨b, p + 3, none⟩ (.int .u64 s3)).setCell ⟨b, p + 4, none⟩ (.int .u64 s4) := by
  have hn0 : (0 : Int) < (n : Int) := by omega
  have hn1 : (1 : Int) < (n : Int) := by omega
  have hn2 : (2 : Int) < (n : Int) := by omega
  have hn3 : (3 : Int) < (n : Int) := by omega
  have hn4 : (4 : Int) < (n : Int) := by omega
  go_enter Tryd.func54, Tryd.ntmps54
  go_wp2_with fail
  refine (mul64_any o 884452912994769583 ho (lim_of _ rfl) _).mono ?_
  rintro e _ ⟨u0, w0, rfl, P0, rfl⟩
  go_wp2_with fail
  refine (mul64_any o 4834901526196019579 ho (lim_of _ rfl) _).mono ?_
  rintro e _ ⟨u1, w1, rfl, P1, rfl⟩
  go_wp2_with fail
  refine (mul64_any o 4294967295 ho (lim_of _ rfl) _).mono ?_
  rintro e _ ⟨w4, w3, rfl, P3, rfl⟩
  obtain ⟨x1, k, A, ea⟩ := add64_any w1 u0 0 P1.out.2.1 P0.out.1 (by omega) (by omega)
  obtain ⟨s0, k0, A0, e0⟩ := add64_any r0 w0 0 hr.1 P0.out.2.1 (by omega) (by omega)
  obtain ⟨s1, k1, A1, e1⟩ := add64_any r1 x1 k0 hr.2.1 A.out.1 A0.out.2.1 A0.out.2.2.1
  obtain ⟨s2, k2, A2, e2⟩ := add64_any r2 (IntKind.u64.wrap (u1 + k)) k1 hr.2.2.1 (wrap_lim u1 k) A1.out.2.1 A1.out.2.2.1
  obtain ⟨s3, k3, A3, e3⟩ := add64_any r3 w3 k2 hr.2.2.2 P3.out.2.1 A2.out.2.1 A2.out.2.2.1
  go_wp2
  refine bodyPost_end (v := .tuple #[]) (by simp [results, Tryd.results54, go_sem]) rfl ?_
  exact ⟨s0, s1, s2, s3, _, rfl, fold_of ho P0.out P1.out P3.out A.out A0.out A1.out A2.out A3.out, rfl⟩
end Go.Proofs.YtnaiccfdbapdpaaDoor
