/-
  The deferred function of Decode: what it does in a frame that panics, and in one that returns.
-/
import Derived.Test.YtmhdgpmlconngaaFg
import Derived.Tactics
import Derived.Defers
import Derived.Recover
import Derived.Laws.Pointers
namespace Go.Proofs.Ytmhdgpmlconngaa
open Go.RowKit Go.Proofs.Ytmhdgpmlconngaa.Cr

/-- The results of a malformed string, laid. -/
def lost (w : World) (a b : Nat) : World := (((((((((w.setCell ⟨a, 0, none⟩ (.int .i64 0)).setCell ⟨a, 1, none⟩ (.int .i64 0)).setCell ⟨a, 2, none⟩ (.bool false)).setCell ⟨a, 3, none⟩ (.int .i64 0)).setCell ⟨a, 4, none⟩ (.int .i64 0)).setCell ⟨a, 5, none⟩ (.bool false)).setCell ⟨a, 6, none⟩ (.int .i64 0)).setCell ⟨a, 7, none⟩ (.int .i64 0)).setCell ⟨a, 8, none⟩ (.string ⟨#[]⟩)).setCell ⟨b, 0, none⟩ (.int .i64 5)

set_option maxRecDepth 20000 in
set_option maxHeartbeats 2000000 in
theorem catch_panicking (a b : Nat) (hab : ¬ a = b) (f : Fr) (u : TypeId) (pv : Value) (older : List PanicEntry) (w : World) (hF : Fb w a f) (hb : w.cell? ⟨b, 0, none⟩ = some (.int .i64 0)) (hz : w.frozen? ⟨b, 0, none⟩ = false) :
    CallsD Try.prog 38 #[.pointer (some ⟨a, 0, none⟩), .pointer (some ⟨b, 0, none⟩)] (.panicking ({ v := .iface u pv, recovered := false } :: older)) w fun e u' w' =>
      e = .returned (.tuple #[]) ∧ u' = .panicking ({ v := .iface u pv, recovered := true } :: older) ∧ w' = lost w a b := by
  obtain ⟨c0, c1, c2, c3, c4, c5, c6, c7, c8⟩ := hF.cells
  obtain ⟨f0, f1, f2, f3, f4, f5, f6, f7, f8⟩ := hF.frozen
  have hba : ¬ b = a := fun h => hab h.symm
  unfold lost
  refine callsD_of_wpS Try.func38 rfl fun c₀ cs hu => ?_
  apply wpS_seq
  apply wpS_region
  simp [wpOpsS, go_sem, recoverD, hu, Try.ntmps38, Exit.thenS]
  refine wpS_cond (t := true) (by simp [Act.eval, Array.replicate]) ?_
  simp only [if_true]
  apply wpS_region
  simp [wpOpsS, go_sem, c0, c1, c2, c3, c4, c5, c6, c7, c8, f0, f1, f2, f3, f4, f5, f6, f7, f8, hb, hz, bodyPostS, results, Try.results38]

theorem catch_idle (a b : Nat) (w : World) :
    CallsD Try.prog 38 #[.pointer (some ⟨a, 0, none⟩), .pointer (some ⟨b, 0, none⟩)] .returning w fun e u' w' => e = .returned (.tuple #[]) ∧ u' = .returning ∧ w' = w := by
  refine callsD_of_wpS Try.func38 rfl fun c₀ cs hu => ?_
  apply wpS_seq
  apply wpS_region
  simp [wpOpsS, go_sem, recoverD, hu, Try.ntmps38, Exit.thenS]
  refine wpS_cond (t := false) (by simp [Act.eval, Array.replicate]) ?_
  simp only [Bool.false_eq_true, if_false]
  refine wpS_of_wp (wp_skip ?_)
  cases c₀
  simp_all [bodyPostS, results, Try.results38]

end Go.Proofs.Ytmhdgpmlconngaa
