/- Plain mathematics: the checks accept the proofs, and nothing else in their place. -/
import Derived.Test.YtfbemmeonkceiaaDoorKW0
namespace Go.Proofs.YtfbemmeonkceiaaDoor
open Go.RowKit Hm Wm

theorem nx_at (pre x post : List Dg) (r : Dg) : nx (pre ++ x ++ (r :: post)) (pre.length + x.length) = r := by
  unfold nx
  rw [List.getD_eq_getElem?_getD, List.getElem?_append_right (by simp), List.length_append, Nat.sub_self]; rfl
theorem take_hf_len {l : List Dg} (h : 2 ≤ l.length) : (l.take (hf l.length)).length = hf l.length := by
  have := hf_lt h
  rw [List.length_take]; omega
/-- Inclusion: the path leads to the root. -/
theorem one_incl (k : Nat) : ∀ (l : List Dg) (i : Nat) (d : Dg) (pre post : List Dg), l.length ≤ k → l[i]? = some d → oneD d i l.length pre.length (pre ++ inclD l i ++ post) = (rootD l, pre.length + (inclD l i).length) := by
  induction k with
  | zero =>
    intro l i d pre post hk hd
    obtain ⟨h, _⟩ := List.getElem?_eq_some_iff.1 hd
    omega
  | succ k ih =>
    intro l i d pre post hk hd
    obtain ⟨hi, hdi⟩ := List.getElem?_eq_some_iff.1 hd
    by_cases h2 : 2 ≤ l.length
    · have hlt := hf_lt h2
      have hp := hf_pos l.length
      have e1 := take_hf_len h2
      have e2 : (l.drop (hf l.length)).length = l.length - hf l.length := List.length_drop
      by_cases hc : i < hf l.length
      · have h3 := ih (l.take (hf l.length)) i d pre (rootD (l.drop (hf l.length)) :: post) (by omega) (by rw [List.getElem?_take, if_pos hc]; exact hd)
        rw [e1] at h3
        rw [oneD_lo d _ _ h2 hc, inclD_lo h2 hc, rootD_two h2]
        rw [show pre ++ (inclD (l.take (hf l.length)) i ++ [rootD (l.drop (hf l.length))]) ++ post = pre ++ inclD (l.take (hf l.length)) i ++ (rootD (l.drop (hf l.length)) :: post) by simp]
        rw [h3]
        simp only [nx_at, List.length_append, List.length_singleton, Nat.add_assoc]
      · have h3 := ih (l.drop (hf l.length)) (i - hf l.length) d pre (rootD (l.take (hf l.length)) :: post) (by omega) (by rw [List.getElem?_drop, show hf l.length + (i - hf l.length) = i by omega]; exact hd)
        rw [e2] at h3
        rw [oneD_hi d _ _ h2 (by omega), inclD_hi h2 (by omega), rootD_two h2]
        rw [show pre ++ (inclD (l.drop (hf l.length)) (i - hf l.length) ++ [rootD (l.take (hf l.length))]) ++ post = pre ++ inclD (l.drop (hf l.length)) (i - hf l.length) ++ (rootD (l.take (hf l.length)) :: post) by simp]
        rw [h3]
        simp only [nx_at, List.length_append, List.length_singleton, Nat.add_assoc]
    · obtain ⟨x, rfl⟩ : ∃ x, l = [x] := List.length_eq_one_iff.1 (by omega)
      have : i = 0 := by simp at hi; exact hi
      subst this
      have : x = d := by simpa using hd
      subst this
      rw [oneD_one x _ _ (by simp), inclD_one _ (by simp), rootD_one]; rfl
theorem one_ok {l : List Dg} {i : Nat} {d : Dg} (h : l[i]? = some d) : oneD d i l.length 0 (inclD l i) = (rootD l, (inclD l i).length) := by
  have := one_incl l.length l i d [] [] (Nat.le_refl _) h
  rw [List.nil_append, List.append_nil, List.length_nil, Nat.zero_add] at this
  exact this
/-- The root of a beginning that is longer than the first part. -/
theorem root_take {l : List Dg} {m : Nat} (h2 : 2 ≤ l.length) (hm : hf l.length < m) (hl : m ≤ l.length) : rootD (l.take m) = nodeD (rootD (l.take (hf l.length))) (rootD ((l.drop (hf l.length)).take (m - hf l.length))) := by
  have e : (l.take m).length = m := by rw [List.length_take]; omega
  have h3 := hf_two h2
  have hh : hf m = hf l.length := hf_only (e := Nat.log2 (l.length - 1)) hm (by unfold hf at h3; omega)
  rw [rootD_two (by rw [e]; have := hf_pos l.length; omega), e, hh, List.take_take, Nat.min_eq_left (by omega), List.drop_take]
/-- Consistency: the path leads to both roots. -/
theorem old_cons (k : Nat) : ∀ (l : List Dg) (m : Nat) (mark : Bool) (old : Dg) (pre post : List Dg), l.length ≤ k → 1 ≤ m → m ≤ l.length → (mark = true → old = rootD (l.take m)) →
    oldD m l.length mark old pre.length (pre ++ consD l m mark ++ post) = (rootD (l.take m), rootD l, pre.length + (consD l m mark).length) := by
  induction k with
  | zero => intro l m mark old pre post hk h1 h2; omega
  | succ k ih =>
    intro l m mark old pre post hk h1 hl ho
    by_cases hm : m = l.length
    · subst hm
      rw [List.take_length] at ho ⊢
      cases mark
      · rw [oldD_all', consD_all']
        have := nx_at pre [] post (rootD l)
        rw [List.append_nil, List.length_nil, Nat.add_zero] at this
        rw [show pre ++ [rootD l] ++ post = pre ++ (rootD l :: post) by simp, this]; rfl
      · rw [oldD_all, consD_all, ho rfl]; rfl
    · have h2 : 2 ≤ l.length := by omega
      have hlt := hf_lt h2
      have hp := hf_pos l.length
      have e1 := take_hf_len h2
      have e2 : (l.drop (hf l.length)).length = l.length - hf l.length := List.length_drop
      by_cases hc : m ≤ hf l.length
      · have ht : (l.take (hf l.length)).take m = l.take m := by rw [List.take_take, Nat.min_eq_left hc]
        have h3 := ih (l.take (hf l.length)) m mark old pre (rootD (l.drop (hf l.length)) :: post) (by omega) h1 (by omega) (by rw [ht]; exact ho)
        rw [e1, ht] at h3
        rw [oldD_lo mark old _ _ h2 hm hc, consD_lo mark h2 hm hc, rootD_two h2]
        rw [show pre ++ (consD (l.take (hf l.length)) m mark ++ [rootD (l.drop (hf l.length))]) ++ post = pre ++ consD (l.take (hf l.length)) m mark ++ (rootD (l.drop (hf l.length)) :: post) by simp]
        rw [h3]
        simp only [nx_at, List.length_append, List.length_singleton, Nat.add_assoc]
      · have h3 := ih (l.drop (hf l.length)) (m - hf l.length) false old pre (rootD (l.take (hf l.length)) :: post) (by omega) (by omega) (by omega) (by intro h; cases h)
        rw [e2] at h3
        rw [oldD_hi mark old _ _ h2 hm (by omega), consD_hi mark h2 hm (by omega), root_take h2 (by omega) hl]
        rw [show pre ++ (consD (l.drop (hf l.length)) (m - hf l.length) false ++ [rootD (l.take (hf l.length))]) ++ post = pre ++ consD (l.drop (hf l.length)) (m - hf l.length) false ++ (rootD (l.take (hf l.length)) :: post) by simp]
        rw [h3]
        simp only [nx_at, List.length_append, List.length_singleton, Nat.add_assoc]
        rw [← rootD_two h2]
theorem old_ok {l : List Dg} {m : Nat} (h1 : 1 ≤ m) (hl : m ≤ l.length) : oldD m l.length true (rootD (l.take m)) 0 (consD l m true) = (rootD (l.take m), rootD l, (consD l m true).length) := by
  have := old_cons l.length l m true (rootD (l.take m)) [] [] (Nat.le_refl _) h1 hl (fun _ => rfl)
  rw [List.nil_append, List.append_nil, List.length_nil, Nat.zero_add] at this
  exact this
/-- Without the mark nothing hangs on the old root. -/
theorem old_unmarked (x y : Dg) (path : List Dg) (k : Nat) : ∀ (n m a : Nat), n ≤ k → 1 ≤ m → m ≤ n → oldD m n false x a path = oldD m n false y a path := by
  induction k with
  | zero => intro n m a hk h1 h2; omega
  | succ k ih =>
    intro n m a hk h1 hl
    by_cases hm : m = n
    · subst hm; rw [oldD_all', oldD_all']
    · have h2 : 2 ≤ n := by omega
      have hlt := hf_lt h2
      have hp := hf_pos n
      by_cases hc : m ≤ hf n
      · rw [oldD_lo false x a path h2 hm hc, oldD_lo false y a path h2 hm hc, ih (hf n) m a (by omega) h1 hc]
      · rw [oldD_hi false x a path h2 hm (by omega), oldD_hi false y a path h2 hm (by omega), ih (n - hf n) (m - hf n) a (by omega) (by omega) (by omega)]
theorem old_free (x y : Dg) (path : List Dg) (k : Nat) : ∀ (n m a : Nat), n ≤ k → 1 ≤ m → m < n → (∀ e, m ≠ 2 ^ e) → oldD m n true x a path = oldD m n true y a path := by
  induction k with
  | zero => intro n m a hk h1 h2; omega
  | succ k ih =>
    intro n m a hk h1 hl hne
    have hm : m ≠ n := by omega
    have h2 : 2 ≤ n := by omega
    have hlt := hf_lt h2
    have hp := hf_pos n
    by_cases hc : m ≤ hf n
    · have : m ≠ hf n := hne _
      rw [oldD_lo true x a path h2 hm hc, oldD_lo true y a path h2 hm hc, ih (hf n) m a (by omega) h1 (by omega) hne]
    · rw [oldD_hi true x a path h2 hm (by omega), oldD_hi true y a path h2 hm (by omega), old_unmarked x y path (n - hf n) (n - hf n) (m - hf n) a (Nat.le_refl _) (by omega) (by omega)]

/-- What CheckConsistency answers to a proof of Consistency. -/
noncomputable def ccB (l : List Dg) (m : Nat) (old root : Dg) : Bool :=
  if m = 0 then (dgEq old emptyD && decide (0 = ([] : List Dg).length))
  else ((dgEq (oldD m l.length true old 0 (consD l m true)).1 old && dgEq (oldD m l.length true old 0 (consD l m true)).2.1 root) && decide ((oldD m l.length true old 0 (consD l m true)).2.2 = (consD l m true).length))
theorem dgEq_self (d : Dg) : dgEq d d = true := dgEq_iff.2 rfl
theorem dgEq_comm (d e : Dg) : dgEq d e = dgEq e d := by unfold dgEq; rw [decide_eq_decide]; exact eq_comm
theorem cc_yes {l : List Dg} {m : Nat} (hl : m ≤ l.length) (root : Dg) (hr : m = 0 ∨ root = rootD l) : ccB l m (rootD (l.take m)) root = true := by
  unfold ccB
  by_cases h0 : m = 0
  · subst h0; rw [if_pos rfl, List.take_zero, rootD_nil, dgEq_self]; rfl
  · rw [if_neg h0, old_ok (by omega) hl]
    rcases hr with hr | rfl
    · exact absurd hr h0
    · simp only [dgEq_self, Bool.and_self, Bool.true_and]
      simp
theorem cc_root {l : List Dg} {m : Nat} (h1 : m ≠ 0) (hl : m ≤ l.length) (other : Dg) : ccB l m (rootD (l.take m)) other = dgEq other (rootD l) := by
  unfold ccB
  rw [if_neg h1, old_ok (by omega) hl]
  simp only [dgEq_self, Bool.true_and, decide_true, Bool.and_true]
  exact dgEq_comm _ _
theorem cc_old {l : List Dg} {m : Nat} (hl : m ≤ l.length) (hm : m = l.length ∨ ∀ e, m ≠ 2 ^ e) (other : Dg) : ccB l m other (rootD l) = dgEq other (rootD (l.take m)) := by
  unfold ccB
  by_cases h0 : m = 0
  · subst h0; rw [if_pos rfl, List.take_zero, rootD_nil]; simp
  · rw [if_neg h0]
    by_cases he : m = l.length
    · subst he
      rw [oldD_all, consD_all, List.take_length, dgEq_self]; simp
    · rcases hm with hm | hm
      · exact absurd hm he
      · rw [old_free other (rootD (l.take m)) _ l.length l.length m 0 (Nat.le_refl _) (by omega) (by omega) hm, old_ok (by omega) hl]
        simp only [dgEq_self, decide_true, Bool.and_true]
        exact dgEq_comm _ _

theorem take_filter {ps : List Int} (hs : ps.Pairwise (· < ·)) (x : Int) : ps.take (ps.filter (· < x)).length = ps.filter (· < x) ∧ ps.drop (ps.filter (· < x)).length = ps.filter (fun p => ¬ p < x) := by
  have := sorted_cut x ps hs
  rw [List.countP_eq_length_filter] at this
  exact this
/-- Many: the path and what was found lead to the root. -/
theorem wlk_many (k : Nat) : ∀ (l : List Dg) (fr : Int) (ps : List Int) (pre post : List Dg), l.length ≤ k → 1 ≤ l.length → (∀ p ∈ ps, fr ≤ p ∧ p < fr + l.length) → ps.Pairwise (· < ·) →
    wlkD fr l.length ps (ps.map fun p => l.getD (p - fr).toNat dz) pre.length (pre ++ manyD l fr ps ++ post) = (rootD l, pre.length + (manyD l fr ps).length) := by
  induction k with
  | zero => intro l fr ps pre post hk h1; omega
  | succ k ih =>
    intro l fr ps pre post hk h1 hps hs
    by_cases hp : ps = []
    · subst hp
      rw [wlkD_none fr _ _ _ h1, manyD_none fr h1]
      have := nx_at pre [] post (rootD l)
      rw [List.append_nil, List.length_nil, Nat.add_zero] at this
      rw [show pre ++ [rootD l] ++ post = pre ++ (rootD l :: post) by simp, this]; rfl
    · by_cases h2 : 2 ≤ l.length
      · have hlt := hf_lt h2
        have hpp := hf_pos l.length
        have e1 := take_hf_len h2
        have e2 : (l.drop (hf l.length)).length = l.length - hf l.length := List.length_drop
        obtain ⟨t1, t2⟩ := take_filter hs (fr + hf l.length)
        have f1 : ((ps.map fun p => l.getD (p - fr).toNat dz).take (ps.filter (· < fr + hf l.length)).length) = (ps.filter (· < fr + hf l.length)).map fun p => (l.take (hf l.length)).getD (p - fr).toNat dz := by
          rw [← List.map_take, t1]
          refine List.map_congr_left fun p hp => ?_
          have hp1 := List.mem_filter.1 hp
          have hp2 := hps p hp1.1
          have hp3 : p < fr + hf l.length := by simpa using hp1.2
          rw [List.getD_eq_getElem?_getD, List.getD_eq_getElem?_getD, List.getElem?_take, if_pos (by omega)]
        have f2 : ((ps.map fun p => l.getD (p - fr).toNat dz).drop (ps.filter (· < fr + hf l.length)).length) = (ps.filter (fun p => ¬ p < fr + hf l.length)).map fun p => (l.drop (hf l.length)).getD (p - (fr + hf l.length)).toNat dz := by
          rw [← List.map_drop, t2]
          refine List.map_congr_left fun p hp => ?_
          have hp1 := List.mem_filter.1 hp
          have hp2 := hps p hp1.1
          have hp3 : ¬ p < fr + hf l.length := by simpa using hp1.2
          rw [List.getD_eq_getElem?_getD, List.getD_eq_getElem?_getD, List.getElem?_drop, show hf l.length + (p - (fr + hf l.length)).toNat = (p - fr).toNat by omega]
        have i1 := ih (l.take (hf l.length)) fr (ps.filter (· < fr + hf l.length)) pre (manyD (l.drop (hf l.length)) (fr + hf l.length) (ps.filter (fun p => ¬ p < fr + hf l.length)) ++ post) (by omega) (by omega) (by
          intro p hp
          have hp1 := List.mem_filter.1 hp
          have hp2 := hps p hp1.1
          have hp3 : p < fr + hf l.length := by simpa using hp1.2
          rw [e1]; omega) (hs.filter _)
        have i2 := ih (l.drop (hf l.length)) (fr + hf l.length) (ps.filter (fun p => ¬ p < fr + hf l.length)) (pre ++ manyD (l.take (hf l.length)) fr (ps.filter (· < fr + hf l.length))) post (by omega) (by omega) (by
          intro p hp
          have hp1 := List.mem_filter.1 hp
          have hp2 := hps p hp1.1
          have hp3 : ¬ p < fr + hf l.length := by simpa using hp1.2
          rw [e2]; omega) (hs.filter _)
        rw [e1] at i1
        rw [e2, List.length_append] at i2
        rw [wlkD_two fr _ _ _ h2 hp, manyD_two fr h2 hp, rootD_two h2, f1, f2]
        rw [show pre ++ (manyD (l.take (hf l.length)) fr (ps.filter (· < fr + hf l.length)) ++ manyD (l.drop (hf l.length)) (fr + hf l.length) (ps.filter (fun p => ¬ p < fr + hf l.length))) ++ post = pre ++ manyD (l.take (hf l.length)) fr (ps.filter (· < fr + hf l.length)) ++ (manyD (l.drop (hf l.length)) (fr + hf l.length) (ps.filter (fun p => ¬ p < fr + hf l.length)) ++ post) by simp]
        rw [i1]
        simp only
        rw [← List.append_assoc, i2]
        simp only [List.length_append, Nat.add_assoc]
      · obtain ⟨x, rfl⟩ : ∃ x, l = [x] := List.length_eq_one_iff.1 (by omega)
        obtain ⟨p, r, rfl⟩ := List.exists_cons_of_ne_nil hp
        have h3 := hps p List.mem_cons_self
        simp only [List.length_singleton] at h3
        have : wlkD fr [x].length (p :: r) ((p :: r).map fun p => [x].getD (p - fr).toNat dz) pre.length (pre ++ manyD [x] fr (p :: r) ++ post) = (((p :: r).map fun p => [x].getD (p - fr).toNat dz).headD dz, pre.length) := wlkD_one fr _ _ _ hp
        rw [this, manyD_one fr (by simp) hp, rootD_one, List.map_cons, List.headD_cons, show (p - fr).toNat = 0 by omega]; rfl
theorem wlk_ok {l : List Dg} {ps : List Int} (h1 : 1 ≤ l.length) (hps : ∀ p ∈ ps, -1 < p ∧ p < l.length) (hs : ps.Pairwise (· < ·)) :
    wlkD 0 l.length ps (ps.map fun p => l.getD p.toNat dz) 0 (manyD l 0 ps) = (rootD l, (manyD l 0 ps).length) := by
  have := wlk_many l.length l 0 ps [] [] (Nat.le_refl _) h1 (fun p hp => by have := hps p hp; omega) hs
  rw [List.nil_append, List.append_nil, List.length_nil, Nat.zero_add] at this
  simp only [Int.sub_zero] at this
  exact this
theorem asc_of (n : Int) : ∀ (ps : List Int) (last : Int), (∀ p ∈ ps, last < p ∧ p < n) → ps.Pairwise (· < ·) → ascF n last ps = true
  | [], _, _, _ => rfl
  | p :: r, last, h, hs => by
    have h1 := h p List.mem_cons_self
    have h2 := List.pairwise_cons.1 hs
    rw [ascF_cons, if_neg (by omega)]
    exact asc_of n r p (fun q hq => ⟨h2.1 q hq, (h q (List.mem_cons_of_mem _ hq)).2⟩) h2.2
/-- The power of 2 that a loop finds. -/
theorem pow_not {m e : Nat} (h1 : e = 0 ∨ 2 ^ (e - 1) < m) (h2 : m ≤ 2 ^ e) (hm : m ≠ 2 ^ e) : ∀ j, m ≠ 2 ^ j := by
  rintro j rfl
  have hj : j < e := by
    rcases Nat.lt_or_ge j e with h | h
    · exact h
    · have : 2 ^ e ≤ 2 ^ j := Nat.pow_le_pow_right (by decide) h
      omega
  rcases h1 with h1 | h1
  · omega
  · have : 2 ^ j ≤ 2 ^ (e - 1) := Nat.pow_le_pow_right (by decide) (by omega)
    omega
end Go.Proofs.YtfbemmeonkceiaaDoor
