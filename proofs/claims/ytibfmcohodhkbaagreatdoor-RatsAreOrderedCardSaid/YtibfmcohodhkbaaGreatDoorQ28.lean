/- A region that draws its order, with two calls and two new variables: 'x, y := f(..), g(..)'. -/
import Derived.Test.YtibfmcohodhkbaaGreatDoorQ27
namespace Go.Proofs.YtibfmcohodhkbaaGreatDoor
open Go.RowKit Hm Wm Wn

def optPut (a : Act) (d : Tmp) : Option Value → Act
  | none => a
  | some v => a.put (some d) v
def optSet (L : Array Bool) (i : Nat) : Bool → Array Bool
  | false => L
  | true => L.setIfInBounds i true
theorem put_comm (a : Act) {d d' : Tmp} (h : d ≠ d') (v u : Value) : (a.put (some d') u).put (some d) v = (a.put (some d) v).put (some d') u := by
  simp only [Act.put]
  rw [Array.setIfInBounds_comm _ _ (Ne.symm h)]
theorem optPut_comm (a : Act) {d d' : Tmp} (h : d ≠ d') (v : Value) (o : Option Value) : (optPut a d' o).put (some d) v = optPut (a.put (some d) v) d' o := by
  cases o with
  | none => rfl
  | some u => exact put_comm a h v u
theorem optSet_comm (L : Array Bool) {i j : Nat} (h : i ≠ j) (b : Bool) : (optSet L j b).setIfInBounds i true = optSet (L.setIfInBounds i true) j b := by
  cases b with
  | false => rfl
  | true => exact Array.setIfInBounds_comm _ _ (Ne.symm h)
def lstC (L : Array Bool) (i1 i2 j1 j2 : Nat) (b1 b2 b3 b4 : Bool) : Array Bool := optSet (optSet (optSet (optSet L i1 b1) i2 b2) j1 b3) j2 b4
def actC (a : Act) (d1 d2 e1 e2 : Tmp) (o1 o2 o3 o4 : Option Value) : Act := optPut (optPut (optPut (optPut a d1 o1) d2 o2) e1 o3) e2 o4
/-- Whatever order is drawn, one of the four comes up (for the kernel). -/
def ordersC (md : Region.Mode) (ops : Array Oper) (L : Array Bool) (i1 i2 j1 j2 : Nat) : Bool :=
  [false, true].all fun b1 => [false, true].all fun b2 => [false, true].all fun b3 => [false, true].all fun b4 =>
    (b2 && !b1) || (b1 && b2 && b3 && b4) ||
      (!(Region.ready md ops (lstC L i1 i2 j1 j2 b1 b2 b3 b4)).isEmpty && (Region.ready md ops (lstC L i1 i2 j1 j2 b1 b2 b3 b4)).all fun i => (i == i1 && !b1) || (i == i2 && b1 && !b2) || (i == j1 && !b3) || (i == j2 && !b4))
theorem ordersC_spec {md : Region.Mode} {ops : Array Oper} {L : Array Bool} {i1 i2 j1 j2 : Nat} (h : ordersC md ops L i1 i2 j1 j2 = true) (b1 b2 b3 b4 : Bool) (h1 : b2 = true → b1 = true) (h2 : (b1 && b2 && b3 && b4) = false) :
    Region.ready md ops (lstC L i1 i2 j1 j2 b1 b2 b3 b4) ≠ [] ∧ ∀ i ∈ Region.ready md ops (lstC L i1 i2 j1 j2 b1 b2 b3 b4), (i = i1 ∧ b1 = false) ∨ (i = i2 ∧ b1 = true ∧ b2 = false) ∨ (i = j1 ∧ b3 = false) ∨ (i = j2 ∧ b4 = false) := by
  have all2 : ∀ {f : Bool → Bool}, [false, true].all f = true → ∀ b, f b = true := fun {f} hf b => by
    simp only [List.all_cons, List.all_nil, Bool.and_true, Bool.and_eq_true] at hf
    cases b
    · exact hf.1
    · exact hf.2
  have k := all2 (all2 (all2 (all2 h b1) b2) b3) b4
  rw [h2, Bool.or_false, Bool.or_eq_true] at k
  rcases k with k0 | k0
  · obtain ⟨k1, k2⟩ := (Bool.and_eq_true _ _).mp k0
    rw [h1 k1] at k2; cases k2
  · obtain ⟨k1, k2⟩ := (Bool.and_eq_true _ _).mp k0
    refine ⟨(fun e => by rw [e] at k1; cases k1), fun i hi => ?_⟩
    have := List.all_eq_true.1 k2 i hi
    simp only [Bool.or_eq_true, Bool.and_eq_true, beq_iff_eq, Bool.not_eq_true'] at this
    rcases this with ((h3 | h3) | h3) | h3
    · exact .inl h3
    · exact .inr (.inl ⟨h3.1.1, h3.1.2, h3.2⟩)
    · exact .inr (.inr (.inl h3))
    · exact .inr (.inr (.inr h3))
theorem exec_allocC {P : Program} {oi : Oper} {a : Act} {w : World} (t : TypeId) (ho : oi.op = .alloc t) (Z : List Value) (hz : (P.info? t).map (·.zero) = some (some (.agg Z.toArray))) : (execOp a.eval oi).run P w = .ok (.value (.pointer (some ⟨w.heap.size, 0, none⟩))) (w.alloc (.cells Z.toArray t)) := by
  have h := run_alloc_zero (P := P) w t Z hz
  simp [execOp, ho, h]
section
variable {P : Program} {md : Region.Mode} {ops : Array Oper} {Q : Exit → Act → World → Prop} {S : Array Bool → World → Prop}
theorem late_ccaa (i1 i2 j1 j2 : Nat) {c1 c2 x1 x2 : Oper} (d1 d2 e1 e2 : Tmp) {F1 F2 : FuncId} {xs1 xs2 : Array Operand} {ts1 ts2 : Array TypeId} {fn1 fn2 : Func} {fuel : Nat} {L : Array Bool} {a : Act} {w0 : World}
    (n1 : i1 ≠ i2) (n2 : i1 ≠ j1) (n3 : i1 ≠ j2) (n4 : i2 ≠ j1) (n5 : i2 ≠ j2) (n6 : j1 ≠ j2) (m1 : d1 ≠ d2) (m2 : d1 ≠ e1) (m3 : d1 ≠ e2) (m4 : d2 ≠ e1) (m5 : d2 ≠ e2) (m6 : e1 ≠ e2)
    (hc1 : ops[i1]? = some c1) (hc2 : ops[i2]? = some c2) (hx1 : ops[j1]? = some x1) (hx2 : ops[j2]? = some x2) (hd1 : c1.dst = some d1) (hd2 : c2.dst = some d2) (he1 : x1.dst = some e1) (he2 : x2.dst = some e2)
    (hw1 : ∀ l, Region.wanted c1 l = true) (hw2 : ∀ l, Region.wanted c2 l = true) (hw3 : ∀ l, Region.wanted x1 l = true) (hw4 : ∀ l, Region.wanted x2 l = true)
    (ho1 : c1.op = .call { callee := .value (.func F1), args := xs1, argTypes := ts1 }) (ho2 : c2.op = .call { callee := .value (.func F2), args := xs2, argTypes := ts2 }) (t : TypeId) (hy1 : x1.op = .alloc t) (hy2 : x2.op = .alloc t)
    (hf1 : P.funcs[F1]? = some fn1) (hn1 : (fn1.name == "runtime.NumGoroutine") = false) (hb1 : fn1.body.isNone = false) (hf2 : P.funcs[F2]? = some fn2) (hn2 : (fn2.name == "runtime.NumGoroutine") = false) (hb2 : fn2.body.isNone = false)
    (vs1 vs2 : Array Value) (r1 r2 : Value) (hv1 : ∀ o2 o3 o4, xs1.toList.map (actC a d1 d2 e1 e2 none o2 o3 o4).eval = vs1.toList) (hv2 : ∀ o1 o3 o4, xs2.toList.map (actC a d1 d2 e1 e2 o1 none o3 o4).eval = vs2.toList)
    (Z : List Value) (hz : (P.info? t).map (·.zero) = some (some (.agg Z.toArray))) (Inv : World → Prop) (hInv : ∀ W W', Inv W → Below W.heap.size W W' → Inv W') (hS : ∀ l W, Inv W → S l W)
    (h1 : ∀ W, Inv W → Calls P F1 vs1 W fun e w' => e = .returned r1 ∧ Below W.heap.size W w') (h2 : ∀ W, Inv W → Calls P F2 vs2 W fun e w' => e = .returned r2 ∧ Below W.heap.size W w')
    (hr : ordersC md ops L i1 i2 j1 j2 = true) (h0 : Inv w0)
    (hK : ∀ g1 g2 W, Inv W → Blk W g1 t Z → Blk W g2 t Z → g1 ≠ g2 → w0.heap.size ≤ g1 → w0.heap.size ≤ g2 → Below w0.heap.size w0 W →
      wpAnyT P md ops Q S fuel ((((L.setIfInBounds i1 true).setIfInBounds i2 true).setIfInBounds j1 true).setIfInBounds j2 true) ((((a.put (some d1) r1).put (some d2) r2).put (some e1) (.pointer (some ⟨g1, 0, none⟩))).put (some e2) (.pointer (some ⟨g2, 0, none⟩))) W) :
    wpAnyT P md ops Q S (fuel + 4) L a w0 := by
  have key : ∀ (m : Nat) (b1 b2 b3 b4 : Bool) (g1 g2 : Nat) (W : World), (!b1).toNat + (!b2).toNat + (!b3).toNat + (!b4).toNat = m → (b2 = true → b1 = true) → Inv W → Below w0.heap.size w0 W → (b3 = true → Blk W g1 t Z ∧ w0.heap.size ≤ g1) → (b4 = true → Blk W g2 t Z ∧ w0.heap.size ≤ g2) → (b3 = true → b4 = true → g1 ≠ g2) →
      wpAnyT P md ops Q S (fuel + m) (lstC L i1 i2 j1 j2 b1 b2 b3 b4) (actC a d1 d2 e1 e2 (if b1 then some r1 else none) (if b2 then some r2 else none) (if b3 then some (.pointer (some ⟨g1, 0, none⟩)) else none) (if b4 then some (.pointer (some ⟨g2, 0, none⟩)) else none)) W := by
    intro m
    induction m with
    | zero =>
      intro b1 b2 b3 b4 g1 g2 W hc hb hI hB h3 h4 h34
      obtain rfl : b1 = true := by cases b1 <;> simp_all
      obtain rfl : b2 = true := by cases b2 <;> simp_all
      obtain rfl : b3 = true := by cases b3 <;> simp_all
      obtain rfl : b4 = true := by cases b4 <;> simp_all
      exact hK g1 g2 W hI (h3 rfl).1 (h4 rfl).1 (h34 rfl rfl) (h3 rfl).2 (h4 rfl).2 hB
    | succ m ih =>
      intro b1 b2 b3 b4 g1 g2 W hc hb hI hB h3 h4 h34
      have hall : (b1 && b2 && b3 && b4) = false := by
        cases b1 <;> cases b2 <;> cases b3 <;> cases b4 <;> first | rfl | (simp at hc)
      obtain ⟨q1, q2⟩ := ordersC_spec hr b1 b2 b3 b4 hb hall
      refine ⟨fun e => absurd e q1, fun i hi => ?_⟩
      rcases q2 i hi with ⟨rfl, rfl⟩ | ⟨rfl, rfl, rfl⟩ | ⟨rfl, rfl⟩ | ⟨rfl, rfl⟩
      · refine op_callG (some d1) hc1 hd1 (hw1 _) ho1 hf1 hn1 hb1 vs1 (hv1 _ _ _) (h1 W hI) ?_
        rintro e w' ⟨rfl, hbw⟩
        refine ⟨r1, rfl, hS _ _ (hInv _ _ hI hbw), ?_⟩
        have e1' : (lstC L i i2 j1 j2 false b2 b3 b4).setIfInBounds i true = lstC L i i2 j1 j2 true b2 b3 b4 := by
          unfold lstC
          rw [optSet_comm _ n3, optSet_comm _ n2, optSet_comm _ n1]
          rfl
        rw [e1']
        have e2' : ∀ o2 o3 o4, (actC a d1 d2 e1 e2 none o2 o3 o4).put (some d1) r1 = actC a d1 d2 e1 e2 (some r1) o2 o3 o4 := fun o2 o3 o4 => by
          unfold actC
          rw [optPut_comm _ m3, optPut_comm _ m2, optPut_comm _ m1]
          rfl
        have := ih true b2 b3 b4 g1 g2 w' (by simp at hc ⊢; omega) (fun _ => rfl) (hInv _ _ hI hbw) (hB.trans (hbw.mono hB.size)) (fun h => ⟨(h3 h).1.next hbw, (h3 h).2⟩) (fun h => ⟨(h4 h).1.next hbw, (h4 h).2⟩) h34
        rw [if_pos rfl] at this
        rw [if_neg (by decide), e2']
        exact this
      · refine op_callG (some d2) hc2 hd2 (hw2 _) ho2 hf2 hn2 hb2 vs2 (hv2 _ _ _) (h2 W hI) ?_
        rintro e w' ⟨rfl, hbw⟩
        refine ⟨r2, rfl, hS _ _ (hInv _ _ hI hbw), ?_⟩
        have e1' : (lstC L i1 i j1 j2 true false b3 b4).setIfInBounds i true = lstC L i1 i j1 j2 true true b3 b4 := by
          unfold lstC
          rw [optSet_comm _ n5, optSet_comm _ n4]
          rfl
        rw [e1']
        have e2' : ∀ o1 o3 o4, (actC a d1 d2 e1 e2 o1 none o3 o4).put (some d2) r2 = actC a d1 d2 e1 e2 o1 (some r2) o3 o4 := fun o1 o3 o4 => by
          unfold actC
          rw [optPut_comm _ m5, optPut_comm _ m4]
          rfl
        have := ih true true b3 b4 g1 g2 w' (by simp at hc ⊢; omega) (fun _ => rfl) (hInv _ _ hI hbw) (hB.trans (hbw.mono hB.size)) (fun h => ⟨(h3 h).1.next hbw, (h3 h).2⟩) (fun h => ⟨(h4 h).1.next hbw, (h4 h).2⟩) h34
        rw [if_pos rfl, if_pos rfl] at this
        rw [if_pos rfl, if_neg (by decide), e2']
        exact this
      · refine op_runG (some e1) hx1 he1 (hw3 _) _ _ (exec_allocC t hy1 Z hz) ?_
        have hbw : Below W.heap.size W (W.alloc (.cells Z.toArray t)) := (Below.refl _ _).alloc (Nat.le_refl _) _
        refine ⟨hS _ _ (hInv _ _ hI hbw), ?_⟩
        have e1' : (lstC L i1 i2 i j2 b1 b2 false b4).setIfInBounds i true = lstC L i1 i2 i j2 b1 b2 true b4 := by
          unfold lstC
          rw [optSet_comm _ n6]
          rfl
        rw [e1']
        have e2' : ∀ (v : Value) o1 o2 o4, (actC a d1 d2 e1 e2 o1 o2 none o4).put (some e1) v = actC a d1 d2 e1 e2 o1 o2 (some v) o4 := fun v o1 o2 o4 => by
          unfold actC
          rw [optPut_comm _ m6]
          rfl
        have hlt : b4 = true → g2 < W.heap.size := fun h => (h4 h).1.lt
        have := ih b1 b2 true b4 W.heap.size g2 _ (by simp at hc ⊢; omega) hb (hInv _ _ hI hbw) (hB.trans (hbw.mono hB.size)) (fun _ => ⟨Blk.new W t Z, hB.size⟩) (fun h => ⟨(h4 h).1.next hbw, (h4 h).2⟩) (fun _ h => by have := hlt h; omega)
        rw [if_pos (rfl : true = true)] at this
        rw [if_neg (show ¬ (false = true) by decide), e2']
        exact this
      · refine op_runG (some e2) hx2 he2 (hw4 _) _ _ (exec_allocC t hy2 Z hz) ?_
        have hbw : Below W.heap.size W (W.alloc (.cells Z.toArray t)) := (Below.refl _ _).alloc (Nat.le_refl _) _
        refine ⟨hS _ _ (hInv _ _ hI hbw), ?_⟩
        have e1' : (lstC L i1 i2 j1 i b1 b2 b3 false).setIfInBounds i true = lstC L i1 i2 j1 i b1 b2 b3 true := rfl
        rw [e1']
        have e2' : ∀ (v : Value) o1 o2 o3, (actC a d1 d2 e1 e2 o1 o2 o3 none).put (some e2) v = actC a d1 d2 e1 e2 o1 o2 o3 (some v) := fun v o1 o2 o3 => rfl
        have hlt : b3 = true → g1 < W.heap.size := fun h => (h3 h).1.lt
        have := ih b1 b2 b3 true g1 W.heap.size _ (by simp at hc ⊢; omega) hb (hInv _ _ hI hbw) (hB.trans (hbw.mono hB.size)) (fun h => ⟨(h3 h).1.next hbw, (h3 h).2⟩) (fun _ => ⟨Blk.new W t Z, hB.size⟩) (fun h _ => by have := hlt h; omega)
        rw [if_pos (rfl : true = true)] at this
        rw [if_neg (show ¬ (false = true) by decide), e2']
        exact this
  exact key 4 false false false false 0 0 w0 rfl (fun h => by cases h) h0 (Below.refl _ _) (fun h => by cases h) (fun h => by cases h) (fun h => by cases h)
end
end Go.Proofs.YtibfmcohodhkbaaGreatDoor
