/- A region that draws its order, whose last stores change what its loads read: 'S' is asked only until the first of those stores. -/
import Derived.Test.YtggjgikpiljoiaaDoorNB
namespace Go.Proofs.YtggjgikpiljoiaaDoor
open Go.RowKit Hm Wm

section
variable {P : Program} {md : Region.Mode} {ops : Array Oper} {Q : Exit → Act → World → Prop} {S : Array Bool → World → Prop} {late : List Nat}
def lateFree (late : List Nat) (listed : Array Bool) : Prop := ∀ s ∈ late, listed.getD s true = false
/-- Whatever order is picked from here on, and 'S' (of what has come up, and the world) holds behind every operation. -/
def wpAnyT (P : Program) (md : Region.Mode) (ops : Array Oper) (Q : Exit → Act → World → Prop) (S : Array Bool → World → Prop) : Nat → Array Bool → Act → World → Prop
  | 0, listed, a, w => Region.ready md ops listed = [] ∧ Q .normal a w
  | fuel + 1, listed, a, w =>
    (Region.ready md ops listed = [] → Q .normal a w) ∧
    ∀ i ∈ Region.ready md ops listed, wpOp P ops Q i (fun a' w' => S (listed.setIfInBounds i true) w' ∧ wpAnyT P md ops Q S fuel (listed.setIfInBounds i true) a' w') a w
theorem wpAny_of_late : ∀ (fuel : Nat) (listed : Array Bool) (a : Act) (w : World), wpAnyT P md ops Q S fuel listed a w → wpAny P md ops Q fuel listed a w
  | 0, _, _, _, h => h
  | fuel + 1, _, _, _, h => ⟨h.1, fun i hi => wpOp_mono (fun a' w' h' => wpAny_of_late fuel _ a' w' h'.2) (h.2 i hi)⟩
theorem wpAnyT_first {i : Nat} {oi : Oper} {v : Value} (hi : ops[i]? = some oi) (hsel : ∀ (j : Nat) (o : Oper) cs b, ops[j]? = some o → o.op ≠ .select cs b)
    (hQ : ∀ c a w, Q (.panic c) (a.put oi.dst v) w → Q (.panic c) a w) (hlate : ∀ s ∈ late, s ≠ i ∧ ∀ o, ops[s]? = some o → ∃ e ∈ o.after, Region.binds md e = true ∧ (e.on = i ∨ e.on ∈ late))
    (hSi : ∀ L W, S (L.setIfInBounds i true) W → S L W) :
    ∀ (fuel : Nat) (listed : Array Bool) (a : Act) (w : World),
      (∀ j oj, ops[j]? = some oj → j ≠ i → listed.getD j true = false → (∀ e ∈ oj.after, Region.binds md e = true → e.on ≠ i) → oi.apart ops oj = true) →
      i ∈ Region.ready md ops listed → YieldsIf P ops (fun W => ∃ L, lateFree late L ∧ S L W) oi v a → lateFree late listed → S listed w → S (listed.setIfInBounds i true) w →
      wpAnyT P md ops Q S fuel (listed.setIfInBounds i true) (a.put oi.dst v) w → wpAnyT P md ops Q S (fuel + 1) listed a w := by
  intro fuel
  induction fuel with
  | zero =>
    intro listed a w _ hr hy hl hS hS' H
    refine ⟨fun h => (by rw [h] at hr; cases hr), fun j hj => ?_⟩
    by_cases hji : j = i
    · subst hji; exact hy.wpOp hi ⟨listed, hl, hS⟩ ⟨hS', H⟩
    · have := ready_mono hj hji
      rw [H.1] at this
      cases this
  | succ fuel ih =>
    intro listed a w hfree hr hy hl hS hS' H
    refine ⟨fun h => (by rw [h] at hr; cases hr), fun j hj => ?_⟩
    by_cases hji : j = i
    · subst hji; exact hy.wpOp hi ⟨listed, hl, hS⟩ ⟨hS', H⟩
    · have h1 := H.2 j (ready_mono hj hji)
      obtain ⟨hjun, oj, hoj, hall⟩ := mem_ready.1 hj
      have hnot : ∀ e ∈ oj.after, Region.binds md e = true → e.on ≠ i := fun e he hb heq => by
        have h1 := hall e he hb
        have h0 := (mem_ready.1 hr).1
        rw [heq] at h1
        rcases Nat.lt_or_ge i listed.size with h' | h'
        · simp [h'] at h0 h1; rw [h0] at h1; cases h1
        · simp [Array.getElem?_eq_none h'] at h1
      have hlj : ∀ s ∈ late, s ≠ j := fun s hs e => by
        subst e
        obtain ⟨e, he, hb, hon⟩ := (hlate s hs).2 oj hoj
        rcases hon with hon | hon
        · exact hnot e he hb hon
        · have h1 := hall e he hb
          have h0 := hl e.on hon
          rcases Nat.lt_or_ge e.on listed.size with h' | h'
          · simp [h'] at h0 h1; rw [h0] at h1; cases h1
          · simp [Array.getElem?_eq_none h'] at h1
      have hl1 : lateFree late (listed.setIfInBounds j true) := fun s hs => by rw [getD_set_ne true (Ne.symm (hlj s hs))]; exact hl s hs
      have h2 := wpOp_putIf hoj (hfree j oj hoj hji hjun hnot) (fun cs b => hsel i oi cs b hi) (fun cs b => hsel j oj cs b hoj) hQ hy h1
      have hfree' : ∀ k ok, ops[k]? = some ok → k ≠ i → (listed.setIfInBounds j true).getD k true = false →
          (∀ e ∈ ok.after, Region.binds md e = true → e.on ≠ i) → oi.apart ops ok = true := fun k ok hk hki hun hno => by
        refine hfree k ok hk hki ?_ hno
        by_cases hjk : j = k
        · subst hjk; exact hjun
        · rw [getD_set_ne true hjk] at hun; exact hun
      refine wpOp_mono (fun a' w' h3 => ?_) h2
      have hs3 := h3.2.1
      have hw3 := h3.2.2
      rw [Array.setIfInBounds_comm _ _ (Ne.symm hji)] at hs3 hw3
      exact ⟨hSi _ _ hs3, ih (listed.setIfInBounds j true) a' w' hfree' (ready_mono hr (Ne.symm hji)) h3.1 hl1 (hSi _ _ hs3) hs3 hw3⟩
/-- Whether the late ones wait for number i (for the kernel). -/
def waitsFor (md : Region.Mode) (ops : Array Oper) (late : List Nat) (i : Nat) : Bool := late.all fun s => s != i && (match ops[s]? with | some o => o.after.any fun e => Region.binds md e && (e.on == i || late.contains e.on) | none => true)
theorem waitsFor_spec {i : Nat} (h : waitsFor md ops late i = true) : ∀ s ∈ late, s ≠ i ∧ ∀ o, ops[s]? = some o → ∃ e ∈ o.after, Region.binds md e = true ∧ (e.on = i ∨ e.on ∈ late) := by
  intro s hs
  have h1 := List.all_eq_true.1 h s hs
  simp only [Bool.and_eq_true, bne_iff_ne, ne_eq] at h1
  refine ⟨h1.1, fun o ho => ?_⟩
  have h2 := h1.2
  rw [ho] at h2
  simp only [Array.any_eq_true, Bool.and_eq_true, Bool.or_eq_true, beq_iff_eq, List.contains_iff_mem] at h2
  obtain ⟨k, hk, h3, h4⟩ := h2
  exact ⟨_, Array.getElem_mem hk, h3, h4⟩
def lateFreeB (late : List Nat) (listed : Array Bool) : Bool := late.all fun s => listed.getD s true == false
theorem lateFreeB_spec {listed : Array Bool} (h : lateFreeB late listed = true) : lateFree late listed := fun s hs => by
  have h1 := List.all_eq_true.1 h s hs
  simpa using h1
variable {i fuel : Nat} {oi : Oper} {listed : Array Bool} {a : Act} {w : World}
theorem late_take (late : List Nat) (d : Option Tmp) (hi : ops[i]? = some oi) (hd : oi.dst = d) (hw : Region.wanted oi (yielded ops a.tmps) = true) (hs : Region.noSelect ops = true) (hf : Region.free md ops listed i = true) (hr : (Region.ready md ops listed).contains i = true)
    (hwt : waitsFor md ops late i = true) (hlf : lateFreeB late listed = true) (hSi : ∀ L W, S (L.setIfInBounds i true) W → S L W) (v : Value) (hQ : ∀ c a w, Q (.panic c) (a.put d v) w → Q (.panic c) a w) (hy : ∀ L W, lateFree late L → S L W → (execOp a.eval oi).run P W = .ok (.value v) W) (hS : S listed w) (hS' : S (listed.setIfInBounds i true) w)
    (h : wpAnyT P md ops Q S fuel (listed.setIfInBounds i true) (a.put d v) w) : wpAnyT P md ops Q S (fuel + 1) listed a w := by
  subst hd
  exact wpAnyT_first hi (Region.noSelect_spec hs) hQ (waitsFor_spec hwt) hSi fuel listed a w (Region.free_spec hi hf) (by simpa using hr) (.inl ⟨hw, fun W ⟨L, h1, h2⟩ => hy L W h1 h2⟩) (lateFreeB_spec hlf) hS hS' h
theorem late_one (hr : Region.ready md ops listed = [i]) (h : wpOp P ops Q i (fun a' w' => S (listed.setIfInBounds i true) w' ∧ wpAnyT P md ops Q S fuel (listed.setIfInBounds i true) a' w') a w) : wpAnyT P md ops Q S (fuel + 1) listed a w :=
  ⟨fun h0 => (by rw [hr] at h0; cases h0), fun j hj => by
    rw [hr] at hj
    obtain rfl : j = i := by simpa using hj
    exact h⟩
theorem late_done (hr : Region.ready md ops listed = []) (h : Q .normal a w) : ∀ fuel, wpAnyT P md ops Q S fuel listed a w
  | 0 => ⟨hr, h⟩
  | _ + 1 => ⟨fun _ => h, by rw [hr]; simp⟩
/-- The beginning. -/
theorem late_begin {id : Nat} (hm : P.follows .mixedOrders = true) (h : wpAnyT P .any ops Q S ops.size (Array.replicate ops.size false) a w.drew) : (Code.region id ops true).wp P Q a w :=
  wp_region_any hm (wpAny_of_late _ _ _ _ h)
end
/-- A fact on the world that stands till the operation k has come up. -/
def TillQ (k : Nat) (S0 : World → Prop) (L : Array Bool) (W : World) : Prop := L.getD k true = false → S0 W
theorem TillQ.off {k i : Nat} {S0 : World → Prop} {L : Array Bool} {W : World} (hk : i ≠ k) (h : TillQ k S0 (L.setIfInBounds i true) W) : TillQ k S0 L W := fun h' => h (by rw [getD_set_ne true hk]; exact h')
end Go.Proofs.YtggjgikpiljoiaaDoor
