/- A range over a function whose rounds come in a known order, none of which leaves. -/
import Derived.Test.YtmifpaafpmibmaaDoorCF
namespace Go.Proofs.YtmifpaafpmibmaaDoor
open Go.RowKit Hm Wm Cm
attribute [local go_sem] Oper.semAt_some

/-- The record of the loop. -/
def lrec (fn : FuncId) (tmps : Array Value) (ps : Array Tmp) (assign body : Code) (d : Nat) (st : LoopState) : Loop := { state := st, pending := none, fn, tmps, params := ps, assign, body, defers := d }
theorem range_each {α : Type} {P : Program} {n : Nat} {g : Operand} {ps : Array Tmp} {assign body : Code} {Q : Exit → Act → World → Prop} {a : Act} {w : World} (h1 : 1 ≤ n) {gf : Nat} {lb : Array Value}
    (hg : a.eval g = .func (.func gf) #[] lb) (eg : ∀ args w, (callFunc gf args).run P w = .ok (.enter gf args) w) {encs : α → Array Value} {Pr : List α → α → Prop} {ys : List α} {K0 : World → World → Prop}
    (hcall : ∀ (l : Nat) (J : List α → World → Prop) (W : World), Below w.heap.size w W → AbidesFrom W.heap.size J →
      (∀ pre x W1, J pre W1 → Pr pre x → YieldAt Fence.wide (n - 1 - 1) P l (encs x) W1 fun e W' => e = .returned (.bool true) ∧ J (pre ++ [x]) W' ∧ K0 W1 W') → J [] W →
      CallsIn Fence.wide (n - 1) P gf (#[.func (.yield l) #[] #[]] ++ lb) W fun e W' => (∃ v, e = .returned v) ∧ J ys W')
    (hKt : ∀ {A B C : World}, K0 A B → K0 B C → K0 A C) (hKb : ∀ (W : World) (l : Nat) (o o' : Obj), w.heap.size ≤ l → W.heap[l]? = some o → o.isCells = false → o.isWalk = false → K0 W (W.putObj l o')) (hps : ∀ x, (encs x).size = ps.size)
    (I : List α → World → Prop) (hI : OwnFrom w.heap.size I) (h0 : I [] w) (Ax : α → Act → World → Prop) (hAx : ∀ x a', OwnFrom w.heap.size (fun (_ : Unit) W => Ax x a' W))
    (hassign : ∀ (l : Nat) (pre : List α) (x : α) (W : World) (K : Act → World → Prop), I pre W → Pr pre x → (∀ a' W', KeepsFrom w.heap.size W W' → K0 W W' → I pre W' → Ax x a' W' → K a' W') →
      assign.wpIn (Fence.wide.inRound l) (n - 1 - 1) P (Exit.then K (fun _ _ _ => False)) { tmps := (ps.zip (encs x)).foldl (fun t (p, v) => t.setIfInBounds p v) a.tmps, defers := [] } W)
    (hbody : ∀ (l : Nat) (pre : List α) (x : α) (a' : Act) (W : World), w.heap.size ≤ l → I pre W → Pr pre x → Ax x a' W → body.wpIn (Fence.wide.inRound l) (n - 1 - 1) P (ownPostG w.heap.size K0 I (fun _ _ _ => False) (pre ++ [x]) W) a' W)
    (hdone : ∀ (D : Nat) (W : World), w.heap.size ≤ D → I ys W → W.heap[D]? = some (.deferred (some [])) → Q .normal { a with defers := { target := .collected D, args := #[] } :: a.defers } W) :
    (Code.rangeFunc g ps assign body).wpIn Fence.wide n P Q a w := by
  refine wpIn_rangeFunc fun fn hfn => ?_
  -- the two blocks of book-keeping: D holds the deferred calls, L the record
  obtain ⟨D, hD⟩ : ∃ D, D = w.heap.size := ⟨_, rfl⟩
  obtain ⟨L, hL⟩ : ∃ L, L = D + 1 := ⟨_, rfl⟩
  have hDL : D ≠ L := by omega
  obtain ⟨W0, hW0⟩ : ∃ W0, W0 = (w.alloc (.deferred (some []))).alloc (.loop (lrec fn a.tmps ps assign body w.heap.size .ready)) := ⟨_, rfl⟩
  have bel0 : Below w.heap.size w W0 := by rw [hW0]; exact ((Below.refl _ w).alloc (Nat.le_refl _) _).alloc (by simp) _
  have oD : W0.heap[D]? = some (.deferred (some [])) := by rw [hW0, hD]; exact (Below.heap_alloc _ _ _ (by simp)).trans (World.alloc_heap_new w _)
  have oL : W0.heap[L]? = some (.loop (lrec fn a.tmps ps assign body w.heap.size .ready)) := by
    rw [hW0, hL, hD]
    have := World.alloc_heap_new (w.alloc (.deferred (some []))) (.loop (lrec fn a.tmps ps assign body w.heap.size .ready))
    rwa [World.size_alloc] at this
  have i0 : I [] W0 := by rw [hW0]; exact hI.alloc _ (hI.alloc _ h0)
  have s0 : w.heap.size ≤ W0.heap.size := bel0.size
  refine ⟨L, [{ target := .collected D, args := #[] }], W0, { target := .fn (.func gf) lb, args := #[.func (.yield L) #[] #[]] }, W0, gf, #[.func (.yield L) #[] #[]] ++ lb, W0, ?_, ?_, fun _ _ => trivial, ?_, fun _ => h1, ?_⟩
  · rw [hW0, hL, hD]; exact run_enterLoop_outer _ _ _ _ _
  · simp only [resolve, hg]
    simp [go_sem]
  · simp [invoke, go_sem, eg]
  -- the iterator, at what stands between two rounds
  refine (hcall L (fun pre W => I pre W ∧ W.heap[L]? = some (.loop (lrec fn a.tmps ps assign body w.heap.size .ready)) ∧ W.heap[D]? = some (.deferred (some []))) W0 bel0 ?_ ?_ ⟨i0, oL, oD⟩).mono ?_
  · intro s A B row hs hgr hr
    have hr' : ∀ r, row = some r → w.heap.size ≤ r ∧ ∃ o : Obj, A.heap[r]? = some o ∧ o.isCells = false := fun r e => by
      obtain ⟨c1, o, c2, c3⟩ := hr r e
      exact ⟨by omega, o, c2, Obj.not_cells_of_walk c3⟩
    exact ⟨hI s A B row hs.1 hgr hr', (grownBy_keeps hgr (fun r e => (hr r e).2) hs.2.1 rfl).trans hs.2.1, (grownBy_keeps hgr (fun r e => (hr r e).2) hs.2.2 rfl).trans hs.2.2⟩
  · -- one round: the assignment, the record is busy, the body, the record is ready again
    rintro pre x W ⟨iW, lW, dW⟩ hpr
    have hy := run_yield (P := P) (args := encs x) lW (by show (encs x).size = ps.size; exact hps x)
    refine ⟨fn, _, assign, body, hy, roundIn_of_wpIn hfn (hassign _ pre x W _ iW hpr fun a' W1 kf k0 iW1 axW => ?_)⟩
    have lW1 := kf.same _ _ (by omega) lW rfl
    have dW1 := kf.same _ _ (by omega) dW rfl
    have hlt := (Array.getElem?_eq_some_iff.1 lW1).1
    refine ⟨_, run_beginRound lW1 rfl, ?_⟩
    obtain ⟨W2, hW2⟩ : ∃ W2, W2 = W1.putObj L (.loop (lrec fn a.tmps ps assign body w.heap.size .busy)) := ⟨_, rfl⟩
    have l2 : W2.heap[L]? = some (.loop (lrec fn a.tmps ps assign body w.heap.size .busy)) := by rw [hW2]; exact World.putObj_heap_same hlt
    have d2 : W2.heap[D]? = some (.deferred (some [])) := by rw [hW2]; exact (World.putObj_heap_other hDL).trans dW1
    have k2 : K0 W1 W2 := by rw [hW2]; exact hKb _ _ _ _ (by omega) lW1 rfl rfl
    have i2 : I pre W2 := by rw [hW2]; exact hI.putObj _ iW1 (by omega) lW1 rfl
    have a2 : Ax x a' W2 := by rw [hW2]; exact (hAx x a').putObj (s := ()) _ axW (by omega) lW1 rfl
    show body.wpIn _ _ _ _ _ (W1.putObj L (.loop (lrec fn a.tmps ps assign body w.heap.size .busy)))
    rw [← hW2]
    refine wpIn_mono (hbody L pre x a' W2 (by omega) i2 hpr a2) ?_
    rintro e a3 W3 hp
    cases e with
    | normal =>
      obtain ⟨kf3, k3, i3⟩ := hp
      have l3 := kf3.same _ _ (by omega) l2 rfl
      have d3 := kf3.same _ _ (by omega) d2 rfl
      have hr := run_endRound (P := P) none l3
      refine ⟨_, _, hr, rfl, ⟨hI.putObj _ i3 (by omega) l3 rfl, World.putObj_heap_same (Array.getElem?_eq_some_iff.1 l3).1, (World.putObj_heap_other hDL).trans d3⟩, hKt k0 (hKt (hKt k2 k3) (hKb _ _ _ _ (by omega) l3 rfl rfl))⟩
    | ret => exact hp.2.elim
    | exit id => exact hp.2.elim
    | goto t => exact hp.2.elim
    | panic ch => exact hp.elim
    | outgrown => exact hp.elim
  · -- behind the iterator
    rintro e W2 ⟨⟨v, rfl⟩, iW, lW, dW⟩
    refine ⟨none, _, run_endLoop (P := P) lW (by show LoopState.ready ≠ _; simp), ?_⟩
    exact hdone D _ (by omega) (hI.putObj _ iW (by omega) lW rfl) ((World.putObj_heap_other hDL).trans dW)
end Go.Proofs.YtmifpaafpmibmaaDoor
