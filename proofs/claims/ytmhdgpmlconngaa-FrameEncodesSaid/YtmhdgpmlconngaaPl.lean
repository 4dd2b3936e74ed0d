/-
  Of no program: a region that draws its order, each of whose operations puts one slot and waits for operations before it: whatever the order, what each slot holds behind it. One step an operation, not one an order.
-/
import Derived.OrdersHeld
import Derived.Tactics2
import Derived.Below
namespace Go.Proofs.Ytmhdgpmlconngaa

section
variable {P : Program} {ops : Array Oper} {Q : Exit → Act → World → Prop} {md : Region.Mode}

/-- What is kept while the operations come up. -/
structure PoolAt (T : World → World → Prop) (R : Nat → Value → World → Prop) (ds : Nat → Tmp) (n : Nat) (a0 : Act) (W : World) (L : Array Bool) (a : Act) (w : World) : Prop where
  size : L.size = n
  defers : a.defers = a0.defers
  slots : a.tmps.size = a0.tmps.size
  grown : T W w
  rest : ∀ t, (∀ j, j < n → ds j ≠ t) → a.eval (.tmp t) = a0.eval (.tmp t)
  done : ∀ j, j < n → L.getD j false = true → R j (a.eval (.tmp (ds j))) w

theorem count_set_true {L : Array Bool} {i : Nat} (h : L.getD i true = false) : (L.setIfInBounds i true).toList.count false + 1 = L.toList.count false := by
  have hi : i < L.size := by
    rcases Nat.lt_or_ge i L.size with h' | h'
    · exact h'
    · simp [Array.getElem?_eq_none h'] at h
  have hl : L[i] = false := by simpa [hi] using h
  have hm : 0 < L.toList.count false := List.count_pos_iff.2 (by rw [← hl]; simp)
  have hl' : L.toList[i]'(by simpa using hi) = false := by simpa using hl
  rw [Array.toList_setIfInBounds, List.count_set (by simpa using hi), hl']
  simp only [BEq.rfl, if_true, show (true == false) = false from rfl, Bool.false_eq_true, if_false]
  omega
theorem ready_nil {L : Array Bool} (h : L.toList.count false = 0) : Region.ready md ops L = [] := by
  rw [List.eq_nil_iff_forall_not_mem]
  intro i hi
  have h1 := count_set_true (mem_ready.1 hi).1
  omega
/-- If nothing may come up, all has. -/
theorem all_done {L : Array Bool} (hs : L.size = ops.size) (hafter : ∀ (i : Nat) (o : Oper), ops[i]? = some o → ∀ e ∈ o.after, e.on < i) (h : Region.ready md ops L = []) : ∀ i, i < ops.size → L.getD i false = true := by
  intro i
  induction i using Nat.strongRecOn with
  | ind i ih =>
    intro hi
    rcases hb : L.getD i false with _ | _
    · exfalso
      have hm : i ∈ Region.ready md ops L := mem_ready.2 ⟨by simp [show i < L.size by omega] at hb ⊢; exact hb, ops[i], Array.getElem?_eq_getElem hi, fun e he _ => ih e.on (hafter i ops[i] (Array.getElem?_eq_getElem hi) e he) (Nat.lt_trans (hafter i ops[i] (Array.getElem?_eq_getElem hi) e he) hi)⟩
      rw [h] at hm
      cases hm
    · rfl

theorem eval_put_ne {a : Act} {d t : Tmp} {v : Value} (h : d ≠ t) : (a.put (some d) v).eval (.tmp t) = a.eval (.tmp t) :=
  Act.eval_put (fun _ hx hy => h ((Option.some.inj hx).trans (Operand.tmp.inj hy).symm))
theorem eval_put_eq {a : Act} {d : Tmp} {v : Value} (h : d < a.tmps.size) : (a.put (some d) v).eval (.tmp d) = v := by
  simp [Act.put, Act.eval, h]

theorem pool (T : World → World → Prop) (R : Nat → Value → World → Prop) (ds : Nat → Tmp) {a0 : Act} {W : World} (hT : ∀ {a b c}, T a b → T b c → T a c)
    (hinj : ∀ i j, i < ops.size → j < ops.size → ds i = ds j → i = j) (hsz : ∀ i, i < ops.size → ds i < a0.tmps.size)
    (hafter : ∀ (i : Nat) (o : Oper), ops[i]? = some o → ∀ e ∈ o.after, e.on < i) (hR : ∀ i v w w', R i v w → T w w' → R i v w')
    (hstep : ∀ (i : Nat) (o : Oper), ops[i]? = some o → ∀ (K : Act → World → Prop) (a : Act) (w : World), a.tmps.size = a0.tmps.size → T W w → (∀ t, (∀ j, j < ops.size → ds j ≠ t) → a.eval (.tmp t) = a0.eval (.tmp t)) →
      (∀ e ∈ o.after, Region.binds md e = true → R e.on (a.eval (.tmp (ds e.on))) w) → (∀ v w', T w w' → R i v w' → K (a.put (some (ds i)) v) w') → wpOp P ops Q i K a w)
    (hend : ∀ a w, a.defers = a0.defers → a.tmps.size = a0.tmps.size → T W w → (∀ t, (∀ j, j < ops.size → ds j ≠ t) → a.eval (.tmp t) = a0.eval (.tmp t)) → (∀ j, j < ops.size → R j (a.eval (.tmp (ds j))) w) → Q .normal a w) :
    ∀ (fuel : Nat) (L : Array Bool) (a : Act) (w : World), PoolAt T R ds ops.size a0 W L a w → L.toList.count false ≤ fuel → wpAnyH P md ops Q (fun _ => True) fuel L a w := by
  have fin : ∀ (L : Array Bool) (a : Act) (w : World), PoolAt T R ds ops.size a0 W L a w → Region.ready md ops L = [] → Q .normal a w := fun L a w h h0 =>
    hend a w h.defers h.slots h.grown h.rest (fun j hj => h.done j hj (all_done h.size hafter h0 j hj))
  intro fuel
  induction fuel with
  | zero =>
    intro L a w h hc
    have h0 := ready_nil (md := md) (ops := ops) (show L.toList.count false = 0 by omega)
    exact ⟨h0, fin L a w h h0⟩
  | succ fuel ih =>
    intro L a w h hc
    refine ⟨fin L a w h, fun i hi => ?_⟩
    obtain ⟨hun, o, ho, hall⟩ := mem_ready.1 hi
    have hin : i < ops.size := by
      rcases Nat.lt_or_ge i ops.size with h' | h'
      · exact h'
      · rw [Array.getElem?_eq_none h'] at ho; cases ho
    refine hstep i o ho _ a w h.slots h.grown h.rest (fun e he hb => h.done e.on (Nat.lt_trans (hafter i o ho e he) hin) (hall e he hb)) (fun v w' hw' hv => ⟨trivial, ?_⟩)
    refine ih _ _ w' ⟨by rw [Array.size_setIfInBounds]; exact h.size, h.defers, ?_, hT h.grown hw', ?_, ?_⟩ ?_
    · rw [← h.slots]; simp [Act.put]
    · intro t ht
      rw [eval_put_ne (ht i hin)]
      exact h.rest t ht
    · intro j hj hd
      by_cases e : j = i
      · subst e
        rw [eval_put_eq (by rw [h.slots]; exact hsz j hj)]
        exact hv
      · rw [eval_put_ne (fun h' => e (hinj i j hin hj h').symm)]
        refine hR j _ w w' (h.done j hj ?_) hw'
        simpa [Array.getElem?_setIfInBounds_ne (Ne.symm e)] using hd
    · have := count_set_true hun
      omega

/-- Each operation waits for operations before it alone. -/
def okAfter (ops : Array Oper) : Bool := (List.range ops.size).all fun i => ((ops[i]?).map (·.after.all fun e => decide (e.on < i))).getD true
theorem okAfter_spec {ops : Array Oper} (h : okAfter ops = true) (i : Nat) (o : Oper) (ho : ops[i]? = some o) (e : Edge) (he : e ∈ o.after) : e.on < i := by
  have hi : i < ops.size := by
    rcases Nat.lt_or_ge i ops.size with h' | h'
    · exact h'
    · rw [Array.getElem?_eq_none h'] at ho; cases ho
  have h1 := List.all_eq_true.1 h i (List.mem_range.2 hi)
  rw [ho] at h1
  simp only [Option.map_some, Option.getD_some] at h1
  have h2 := Array.all_eq_true'.1 h1 e he
  simpa using h2
/-- What is left of the frame. -/
theorem act_puts {n : Nat} {ds : Nat → Tmp} {a a0 : Act} (hd : a.defers = a0.defers) (hs : a.tmps.size = a0.tmps.size) (hds : ∀ i, i < n → ds i < a0.tmps.size) (hrest : ∀ t, (∀ j, j < n → ds j ≠ t) → a.eval (.tmp t) = a0.eval (.tmp t)) :
    a = (List.range n).foldl (fun x i => x.put (some (ds i)) (a.eval (.tmp (ds i)))) a0 := by
  have key : ∀ m, m ≤ n → ∀ x, x = (List.range m).foldl (fun x i => x.put (some (ds i)) (a.eval (.tmp (ds i)))) a0 → x.defers = a0.defers ∧ x.tmps.size = a0.tmps.size ∧ ∀ t, x.eval (.tmp t) = a.eval (.tmp t) ∨ ((∀ j, j < m → ds j ≠ t) ∧ x.eval (.tmp t) = a0.eval (.tmp t)) := by
    intro m
    induction m with
    | zero => intro _ x hx; subst hx; exact ⟨rfl, rfl, fun t => .inr ⟨fun j hj => absurd hj (by omega), rfl⟩⟩
    | succ m ih =>
      intro hm x hx
      obtain ⟨y, hy⟩ : ∃ y, y = (List.range m).foldl (fun x i => x.put (some (ds i)) (a.eval (.tmp (ds i)))) a0 := ⟨_, rfl⟩
      obtain ⟨h1, h2, h3⟩ := ih (by omega) y hy
      rw [List.range_succ, List.foldl_append, ← hy] at hx
      subst hx
      refine ⟨h1, by rw [← h2]; simp [Act.put], fun t => ?_⟩
      by_cases e : ds m = t
      · left
        show (y.put (some (ds m)) (a.eval (.tmp (ds m)))).eval (.tmp t) = _
        rw [← e, eval_put_eq (by rw [h2]; exact hds m (by omega))]
      · show (y.put (some (ds m)) (a.eval (.tmp (ds m)))).eval (.tmp t) = _ ∨ (_ ∧ (y.put (some (ds m)) (a.eval (.tmp (ds m)))).eval (.tmp t) = _)
        rw [eval_put_ne e]
        rcases h3 t with h | ⟨h, h'⟩
        · exact .inl h
        · refine .inr ⟨fun j hj => ?_, h'⟩
          rcases Nat.lt_or_ge j m with hjm | hjm
          · exact h j hjm
          · obtain rfl : j = m := by omega
            exact e
  obtain ⟨x, hx⟩ : ∃ x, x = (List.range n).foldl (fun x i => x.put (some (ds i)) (a.eval (.tmp (ds i)))) a0 := ⟨_, rfl⟩
  obtain ⟨h1, h2, h3⟩ := key n (Nat.le_refl _) x hx
  rw [← hx]
  have hev : ∀ t, a.eval (.tmp t) = x.eval (.tmp t) := fun t => by
    rcases h3 t with h | ⟨h, h'⟩
    · exact h.symm
    · rw [h', hrest t h]
  obtain ⟨at_, ad⟩ := a
  obtain ⟨xt, xd⟩ := x
  simp only at hd hs h1 h2
  have e1 : ad = xd := by rw [hd, h1]
  have e2 : at_ = xt := by
    apply Array.ext (by rw [hs, h2])
    intro i hi hi'
    have h := hev i
    simp only [Act.eval] at h
    simpa [hi, hi'] using h
  rw [e1, e2]

/-- Behind the beginning. -/
theorem wp_region_pool {id : Nat} {a0 : Act} {w0 : World} (hm : P.follows .mixedOrders = true) (T : World → World → Prop) (R : Nat → Value → World → Prop) (ds : Nat → Tmp) (hT : ∀ {a b c}, T a b → T b c → T a c) (hT0 : ∀ a, T a a)
    (hinj : ∀ i j, i < ops.size → j < ops.size → ds i = ds j → i = j) (hsz : ∀ i, i < ops.size → ds i < a0.tmps.size)
    (hafter : ∀ (i : Nat) (o : Oper), ops[i]? = some o → ∀ e ∈ o.after, e.on < i) (hR : ∀ i v w w', R i v w → T w w' → R i v w')
    (hstep : ∀ (i : Nat) (o : Oper), ops[i]? = some o → ∀ (K : Act → World → Prop) (a : Act) (w : World), a.tmps.size = a0.tmps.size → T { w0 with drawn := w0.drawn + 1 } w → (∀ t, (∀ j, j < ops.size → ds j ≠ t) → a.eval (.tmp t) = a0.eval (.tmp t)) →
      (∀ e ∈ o.after, Region.binds .any e = true → R e.on (a.eval (.tmp (ds e.on))) w) → (∀ v w', T w w' → R i v w' → K (a.put (some (ds i)) v) w') → wpOp P ops Q i K a w)
    (hend : ∀ a w, a.defers = a0.defers → a.tmps.size = a0.tmps.size → T { w0 with drawn := w0.drawn + 1 } w → (∀ t, (∀ j, j < ops.size → ds j ≠ t) → a.eval (.tmp t) = a0.eval (.tmp t)) → (∀ j, j < ops.size → R j (a.eval (.tmp (ds j))) w) → Q .normal a w) :
    (Code.region id ops true).wp P Q a0 w0 := by
  refine wp_region_held (S := fun _ => True) hm (pool T R ds hT hinj hsz hafter hR hstep hend ops.size _ a0 _ ⟨by simp, rfl, rfl, hT0 _, fun _ _ => rfl, fun j hj hd => ?_⟩ ?_)
  · simp [hj] at hd
  · simp
end

end Go.Proofs.Ytmhdgpmlconngaa
