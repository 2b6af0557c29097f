/- Cover: the closure that calls itself. -/
import Derived.Test.YtmifpaafpmibmaaDoorCG
namespace Go.Proofs.YtmifpaafpmibmaaDoor
open Go.RowKit Hm Wm Cm
attribute [local go_sem] Oper.semAt_some

def pcv (m : Nat) : List Bk → Nat → List Bk
  | [], _ => []
  | x :: r, a => cov m a x.2.1 ++ x :: pcv m r x.2.2
def cur : List Bk → Nat → Nat
  | [], a => a
  | x :: r, _ => cur r x.2.2
theorem covB_split (m b : Nat) : ∀ (l : List Bk) (a : Nat), covB (cov m) b l a = pcv m l a ++ cov m (cur l a) b
  | [], a => by simp [covB, pcv, cur]
  | x :: r, a => by
    rw [covB, pcv, cur, covB_split m b r x.2.2]
    simp
theorem pcv_snoc (m : Nat) (x : Bk) : ∀ (l : List Bk) (a : Nat), pcv m (l ++ [x]) a = pcv m l a ++ cov m (cur l a) x.2.1 ++ [x]
  | [], a => by simp [pcv, cur]
  | y :: r, a => by
    show cov m a y.2.1 ++ y :: pcv m (r ++ [x]) y.2.2 = (cov m a y.2.1 ++ y :: pcv m r y.2.2) ++ cov m (cur r y.2.2) x.2.1 ++ [x]
    rw [pcv_snoc m x r y.2.2]
    simp
theorem cur_snoc (x : Bk) : ∀ (l : List Bk) (a : Nat), cur (l ++ [x]) a = x.2.2
  | [], _ => rfl
  | y :: r, _ => cur_snoc x r y.2.2
theorem pcv_app (m : Nat) : ∀ (l k : List Bk) (a : Nat), pcv m (l ++ k) a = pcv m l a ++ pcv m k (cur l a)
  | [], k, a => by simp [pcv, cur]
  | y :: r, k, a => by
    show cov m a y.2.1 ++ y :: pcv m (r ++ k) y.2.2 = (cov m a y.2.1 ++ y :: pcv m r y.2.2) ++ pcv m k (cur r y.2.2)
    rw [pcv_app m r k y.2.2]
    simp
theorem pcv_len {m a : Nat} {pre l : List Bk} {x : Bk} (h : pre ++ [x] <+: l) : (pcv m pre a).length + (cov m (cur pre a) x.2.1).length + 1 ≤ (pcv m l a).length := by
  obtain ⟨t, rfl⟩ := h
  rw [pcv_app, pcv_snoc]
  simp only [List.length_append, List.length_cons, List.length_nil]
  omega
theorem cur_any {l : List Bk} (h : l ≠ []) (a c : Nat) : cur l a = cur l c := by
  cases l with
  | nil => exact absurd rfl h
  | cons x r => rfl
theorem ws_pre (n b : Nat) (x : Bk) : ∀ (f s : Nat) (pre : List Bk), pre ++ [x] <+: ws n b f s → x.1 = n ∧ x.2.2 = nx n x.2.1 ∧ x.2.1 < b ∧ x.2.2 ≤ b ∧ (pre = [] → x.2.1 = s) ∧ (pre ≠ [] → ∀ c, cur pre c = x.2.1) := by
  intro f
  induction f with
  | zero =>
    intro s pre h
    have := h.length_le
    rw [List.length_append] at this
    simp [ws] at this
  | succ f ih =>
    intro s pre h
    rw [ws] at h
    by_cases hc : s < b ∧ nx n s ≤ b
    · rw [if_pos hc] at h
      cases pre with
      | nil =>
        obtain ⟨t, ht⟩ := h
        rw [List.nil_append, List.cons_append] at ht
        injection ht with h1 h2
        subst h1
        exact ⟨rfl, rfl, hc.1, hc.2, fun _ => rfl, fun h => absurd rfl h⟩
      | cons p r =>
        rw [List.cons_append] at h
        obtain ⟨t, ht⟩ := h
        rw [List.cons_append] at ht
        injection ht with h1 h2
        obtain ⟨a1, a2, a3, a4, a5, a6⟩ := ih (nx n s) r ⟨t, h2⟩
        refine ⟨a1, a2, a3, a4, fun h => (by cases h), fun _ c => ?_⟩
        show cur r p.2.2 = x.2.1
        by_cases hr : r = []
        · subst hr
          rw [a5 rfl, h1]
          rfl
        · exact a6 hr _
    · rw [if_neg hc] at h
      have := h.length_le
      rw [List.length_append] at this
      simp at this
theorem wi_pre {n a b : Nat} {pre : List Bk} {x : Bk} (hM : b ≤ M) (h : pre ++ [x] <+: wi n a b) : cur pre a ≤ x.2.1 ∧ x.2.1 < x.2.2 ∧ x.2.2 ≤ b ∧ x.1 = n ∧ (n = 0 → cur pre a = x.2.1) := by
  rw [wi] at h
  by_cases hab : a < b
  · rw [if_pos hab] at h
    obtain ⟨a1, a2, a3, a4, a5, a6⟩ := ws_pre n b x _ _ _ h
    obtain ⟨f1, f2, f3, f4, f5⟩ := first_ok n a (by omega)
    have hin := blk_in (L := n) (t := x.2.1) (by omega)
    by_cases hp : pre = []
    · subst hp
      have := a5 rfl
      refine ⟨?_, by omega, a4, a1, fun h0 => ?_⟩
      · show a ≤ _; omega
      · show a = _
        have := f5 h0
        omega
    · have := a6 hp a
      exact ⟨by omega, by omega, a4, a1, fun _ => this⟩
  · rw [if_neg hab] at h
    have := h.length_le
    rw [List.length_append] at this
    simp at this
theorem cur_ws (n b : Nat) (hM : b ≤ M) : ∀ (f s : Nat), s ≤ b → s ≤ cur (ws n b f s) s ∧ cur (ws n b f s) s ≤ b ∧ (n = 0 → b - s ≤ f → cur (ws n b f s) s = b) := by
  intro f
  induction f with
  | zero => intro s hs; exact ⟨Nat.le_refl _, hs, fun _ h => by show s = b; omega⟩
  | succ f ih =>
    intro s hs
    rw [ws]
    by_cases hc : s < b ∧ nx n s ≤ b
    · rw [if_pos hc]
      have hin := blk_in (L := n) (t := s) (by omega)
      obtain ⟨i1, i2, i3⟩ := ih (nx n s) hc.2
      show s ≤ cur (ws n b f (nx n s)) (nx n s) ∧ cur (ws n b f (nx n s)) (nx n s) ≤ b ∧ _
      exact ⟨by omega, i2, fun h0 hf => i3 h0 (by omega)⟩
    · rw [if_neg hc]
      refine ⟨Nat.le_refl _, hs, fun h0 _ => ?_⟩
      subst h0
      rw [nx_zero] at hc
      show s = b
      omega
theorem cur_wi {n a b : Nat} (hM : b ≤ M) (hab : a ≤ b) : a ≤ cur (wi n a b) a ∧ cur (wi n a b) a ≤ b ∧ (n = 0 → cur (wi n a b) a = b) := by
  rw [wi]
  by_cases h : a < b
  · rw [if_pos h]
    obtain ⟨f1, f2, f3, f4, f5⟩ := first_ok n a (by omega)
    by_cases he : ws n b (b - a) (fst' n a) = []
    · rw [he]
      refine ⟨Nat.le_refl _, hab, fun h0 => ?_⟩
      obtain ⟨f, hf⟩ : ∃ f, b - a = f + 1 := ⟨b - a - 1, by omega⟩
      rw [hf, ws, f5 h0] at he
      subst h0
      rw [nx_zero, if_pos ⟨h, h⟩] at he
      cases he
    · have hsb : fst' n a ≤ b := by
        rcases Nat.lt_or_ge b (fst' n a) with h1 | h1
        · exfalso
          obtain ⟨f, hf⟩ : ∃ f, b - a = f + 1 := ⟨b - a - 1, by omega⟩
          rw [hf, ws, if_neg (by omega)] at he
          exact he rfl
        · exact h1
      rw [cur_any he a (fst' n a)]
      obtain ⟨i1, i2, i3⟩ := cur_ws n b hM (b - a) (fst' n a) hsb
      exact ⟨by omega, i2, fun h0 => i3 h0 (by omega)⟩
  · rw [if_neg h]
    exact ⟨Nat.le_refl _, hab, fun _ => by show a = b; omega⟩

/-- What a call of the closure leaves as it is: all but the list's variable and the rows of blocks. -/
def KeepX (g : Nat) (W W' : World) : Prop := W.heap.size ≤ W'.heap.size ∧ ∀ (k : Nat) (o : Obj), W.heap[k]? = some o → Kq o → k ≠ g → W'.heap[k]? = some o
theorem KeepX.refl (g : Nat) (W : World) : KeepX g W W := ⟨Nat.le_refl _, fun _ _ h _ _ => h⟩
theorem KeepX.trans {g : Nat} {X Y Z : World} (h : KeepX g X Y) (k : KeepX g Y Z) : KeepX g X Z := ⟨Nat.le_trans h.1 k.1, fun i o h1 h2 h3 => k.2 i o (h.2 i o h1 h2 h3) h2 h3⟩
theorem Keeps.x {W W' : World} (h : Keeps W W') (g : Nat) : KeepX g W W' := ⟨h.1, fun k o h1 h2 _ => h.2 k o h1 h2⟩
theorem KeepX.only {W W' : World} {g : Nat} (h : Only g W W') : KeepX g W W' := ⟨Nat.le_of_eq h.size.symm, fun k _ h1 _ h3 => (h.block k h3).trans h1⟩
/-- What lay in W is left as it is, where block k is new. -/
theorem KeepX.onlyNew {X W W' : World} {g k : Nat} (h : KeepX g X W) (ho : Only k W W') (hk : X.heap.size ≤ k) : KeepX g X W' := ⟨Nat.le_trans h.1 (Nat.le_of_eq ho.size.symm), fun i o h1 h2 h3 => (ho.block i (by have := (Array.getElem?_eq_some_iff.1 h1).1; omega)).trans (h.2 i o h1 h2 h3)⟩
theorem KeepX.below {g : Nat} {W W' : World} (h : Below W.heap.size W W') : KeepX g W W' := (Keeps.below h).x g
theorem KeepX.blk {W W' : World} {g k : Nat} {T : TypeId} {cs : List Value} (h : KeepX g W W') (hb : Blk W k T cs) (hs : T ≠ 23 ∨ cs.length = 3) (hk : k ≠ g) : Blk W' k T cs :=
  h.2 k _ hb (.inr ⟨_, _, _, rfl, by simpa using hs⟩) hk
theorem KeepX.others {W W' : World} {g : Nat} {T : TypeId} {cs : List Value} (h : KeepX g W W') (hb : Blk W g T cs) : KeepsOthers W W' := ⟨h.1, fun k o h1 h2 => h.2 k o h1 (.inl h2) (by
  rintro rfl
  rw [hb] at h1; cases h1; cases h2)⟩
theorem KeepX.kp {B : Nat} {gs : Nat → Prop} {W W' : World} {g : Nat} {T : TypeId} {cs : List Value} (h : KeepX g W W') (hb : Blk W g T cs) (h1 : T ≠ 3) (h2 : T ≠ 23) (hB : Below B W W') : Kp B gs W W' := ⟨hB, fun k o a1 a2 _ => h.2 k o a1 a2.kq (by
  rintro rfl
  rw [hb] at a1
  obtain ⟨cs', T', e, hq⟩ := a2
  injection a1 with a1
  rw [e] at a1
  injection a1 with b1 b2 b3
  rcases hq with hq | ⟨hq, _⟩
  · exact h1 (b2.trans hq)
  · exact h2 (b2.trans hq))⟩
theorem keepX_own {β : Type} {g B : Nat} {X : World} (hB : X.heap.size ≤ B) : OwnFrom B (fun (_ : β) W => KeepX g X W) := by
  intro s W W' row h hg hr
  refine ⟨Nat.le_trans h.1 hg.size, fun k o h1 h2 h3 => ?_⟩
  have h4 := h.2 k o h1 h2 h3
  refine (hg.block k (Array.getElem?_eq_some_iff.1 h4).1 fun e => ?_).trans h4
  have := (hr k e.symm).1
  have := (Array.getElem?_eq_some_iff.1 h1).1
  omega
end Go.Proofs.YtmifpaafpmibmaaDoor
