/-
  A frame loaded from one block and stored into another: a region of two operations.
-/
import Derived.Test.YtmhdgpmlconngaaFu
namespace Go.Proofs.Ytmhdgpmlconngaa
open Go.RowKit Go.Proofs.Ytmhdgpmlconngaa.Cr

set_option maxRecDepth 20000 in
theorem frame_copy {Q : Exit → Act → World → Prop} {a : Act} {w : World} {id i j k : Nat} {ty1 ty2 : TypeId} {p1 p2 : String} {a1 a2 : Array Edge} {c n0 : Nat} {f g : Fr}
    (hi : a.eval (.tmp i) = .pointer (some ⟨c, 0, none⟩)) (hj : (a.put (some k) f.v).eval (.tmp j) = .pointer (some ⟨n0, 0, none⟩)) (hk : (a.put (some k) f.v).eval (.tmp k) = f.v) (F : Fb w c f) (Z : Fb w n0 g)
    (hQ : Q .normal (a.put (some k) f.v) (st9 w n0 f)) :
    (Code.region id #[{ dst := some k, op := Op.load 23 (Operand.tmp i), type := ty1, pos := p1, after := a1, guard := none }, { dst := none, op := Op.store 23 (Operand.tmp j) (Operand.tmp k), type := ty2, pos := p2, after := a2, guard := none }] false).wp Try.prog Q a w := by
  obtain ⟨q0, q1, q2, q3, q4, q5, q6, q7, q8⟩ := F.cells
  obtain ⟨z0, z1, z2, z3, z4, z5, z6, z7, z8⟩ := Z.cells
  obtain ⟨zf0, zf1, zf2, zf3, zf4, zf5, zf6, zf7, zf8⟩ := Z.frozen
  have hL : (execOp a.eval { dst := some k, op := Op.load 23 (Operand.tmp i), type := ty1, pos := p1, after := a1, guard := none }).run Try.prog w = .ok (.value f.v) w := by
    simp only [execOp, hi]
    unfold Fr.v
    simp [go_sem, q0, q1, q2, q3, q4, q5, q6, q7, q8]
  have hS : (execOp (a.put (some k) f.v).eval { dst := none, op := Op.store 23 (Operand.tmp j) (Operand.tmp k), type := ty2, pos := p2, after := a2, guard := none }).run Try.prog w = .ok .skip (st9 w n0 f) := by
    simp only [execOp, hj, hk]
    unfold Fr.v st9
    simp [go_sem, z0, z1, z2, z3, z4, z5, z6, z7, z8, zf0, zf1, zf2, zf3, zf4, zf5, zf6, zf7, zf8]
  refine wp_region_list ?_
  simp only [wpList, Region.wanted, Oper.wp, hL, Oper.upon_value, hS, Oper.upon_skip, if_true]
  exact .inl (.inl hQ)

theorem results_frame {fn : Func} {p : Tmp} (h : fn.results = #[.cell p 23]) (tmps : Array Value) (w : World) (c : Nat) (f : Fr) (hp : tmps.getD p undef = .pointer (some ⟨c, 0, none⟩)) (F : Fb w c f) : (results fn tmps).run Try.prog w = .ok f.v w := by
  have hp' : tmps[p]?.getD undef = .pointer (some ⟨c, 0, none⟩) := by simpa using hp
  obtain ⟨q0, q1, q2, q3, q4, q5, q6, q7, q8⟩ := F.cells
  unfold Fr.v
  simp [results, h, hp', asAddr, go_sem, q0, q1, q2, q3, q4, q5, q6, q7, q8]

end Go.Proofs.Ytmhdgpmlconngaa
