/- Plain mathematics of hash trees: roots, proofs and checks as functions of lists of digests. -/
import Derived.Test.YtfbemmeonkceiaaDoorMD
namespace Go.Proofs.YtfbemmeonkceiaaDoor
open Go.RowKit Hm

/-- A digest: 16 bytes. -/
abbrev Dg := {l : List UInt8 // l.length = 16}
/-- Its cells. -/
def dc (d : Dg) : List Value := bc d.1
theorem dc_len (d : Dg) : (dc d).length = 16 := by unfold dc; rw [bc_len, d.2]
theorem dc_one (d : Dg) : ∀ v ∈ dc d, v.oneCell' = true := bc_one _
def dz : Dg := ⟨List.replicate 16 0, rfl⟩
theorem dz_cells : dc dz = zb 16 := rfl
/-- The digest of a tag and parts. -/
def hashD (tag : Int) (ss : List ByteArray) : Dg := ⟨(Hm.sum (tagB tag :: encP ss)).take 16, by rw [List.length_take, sum_len]; rfl⟩
theorem leafD_ex (s : ByteArray) : ∃ d : Dg, d = hashD 30 [s] := ⟨_, rfl⟩
noncomputable def leafD (s : ByteArray) : Dg := Classical.choose (leafD_ex s)
theorem leafD_eq (s : ByteArray) : leafD s = hashD 30 [s] := Classical.choose_spec (leafD_ex s)
/-- Bytes as a string. -/
def sbD (l : List UInt8) : ByteArray := ⟨l.toArray⟩
theorem nodeD_ex (a b : Dg) : ∃ d : Dg, d = hashD 31 [sbD a.1, sbD b.1] := ⟨_, rfl⟩
noncomputable def nodeD (a b : Dg) : Dg := Classical.choose (nodeD_ex a b)
theorem nodeD_eq (a b : Dg) : nodeD a b = hashD 31 [sbD a.1, sbD b.1] := Classical.choose_spec (nodeD_ex a b)
theorem emptyD_ex : ∃ d : Dg, d = hashD 32 [] := ⟨_, rfl⟩
noncomputable def emptyD : Dg := Classical.choose emptyD_ex
theorem emptyD_eq : emptyD = hashD 32 [] := Classical.choose_spec emptyD_ex

/-- The greatest power of 2 that is less than n. -/
def hf (n : Nat) : Nat := 2 ^ Nat.log2 (n - 1)
theorem hf_pos (n : Nat) : 0 < hf n := Nat.two_pow_pos _
theorem hf_lt {n : Nat} (h : 2 ≤ n) : hf n < n := by
  have := Nat.log2_self_le (n := n - 1) (by omega)
  unfold hf; omega
theorem hf_two {n : Nat} (h : 2 ≤ n) : n ≤ 2 * hf n := by
  have := Nat.lt_log2_self (n := n - 1)
  unfold hf
  rw [Nat.pow_succ] at this; omega
/-- It is the only one. -/
theorem hf_only {n e : Nat} (h1 : 2 ^ e < n) (h2 : n ≤ 2 * 2 ^ e) : hf n = 2 ^ e := by
  have hp := Nat.two_pow_pos e
  have : Nat.log2 (n - 1) = e := by
    rw [Nat.log2_eq_iff (by omega)]
    rw [Nat.pow_succ]; omega
  unfold hf; rw [this]

/-- The root of a list. -/
noncomputable def rootD (l : List Dg) : Dg :=
  if _h : 2 ≤ l.length then nodeD (rootD (l.take (hf l.length))) (rootD (l.drop (hf l.length))) else l.headD emptyD
termination_by l.length
decreasing_by
  · have := hf_lt (by assumption); rw [List.length_take]; omega
  · have := hf_pos l.length; rw [List.length_drop]; omega
theorem rootD_nil : rootD [] = emptyD := by rw [rootD]; rfl
theorem rootD_one (d : Dg) : rootD [d] = d := by rw [rootD]; rfl
theorem rootD_two {l : List Dg} (h : 2 ≤ l.length) : rootD l = nodeD (rootD (l.take (hf l.length))) (rootD (l.drop (hf l.length))) := by rw [rootD, dif_pos h]

/-- The proof of a position. -/
noncomputable def inclD (l : List Dg) (i : Nat) : List Dg :=
  if _h : 2 ≤ l.length then (if i < hf l.length then inclD (l.take (hf l.length)) i ++ [rootD (l.drop (hf l.length))] else inclD (l.drop (hf l.length)) (i - hf l.length) ++ [rootD (l.take (hf l.length))]) else []
termination_by l.length
decreasing_by
  · have := hf_lt (by assumption); rw [List.length_take]; omega
  · have := hf_pos l.length; rw [List.length_drop]; omega
theorem inclD_one {l : List Dg} (i : Nat) (h : l.length ≤ 1) : inclD l i = [] := by rw [inclD, dif_neg (by omega)]
theorem inclD_lo {l : List Dg} {i : Nat} (h : 2 ≤ l.length) (hi : i < hf l.length) : inclD l i = inclD (l.take (hf l.length)) i ++ [rootD (l.drop (hf l.length))] := by rw [inclD, dif_pos h, if_pos hi]
theorem inclD_hi {l : List Dg} {i : Nat} (h : 2 ≤ l.length) (hi : hf l.length ≤ i) : inclD l i = inclD (l.drop (hf l.length)) (i - hf l.length) ++ [rootD (l.take (hf l.length))] := by rw [inclD, dif_pos h, if_neg (by omega)]

theorem inclD_len (l : List Dg) (i : Nat) : (inclD l i).length ≤ l.length - 1 := by
  have aux : ∀ k (l : List Dg) i, l.length ≤ k → (inclD l i).length ≤ l.length - 1 := by
    intro k
    induction k with
    | zero => intro l i h; rw [inclD_one i (by omega)]; simp
    | succ k ih =>
      intro l i h
      by_cases h2 : 2 ≤ l.length
      · have h3 := hf_lt h2
        have h4 := hf_pos l.length
        by_cases hi : i < hf l.length
        · rw [inclD_lo h2 hi, List.length_append]
          have := ih (l.take (hf l.length)) i (by rw [List.length_take]; omega)
          rw [List.length_take] at this
          simp only [List.length_singleton]; omega
        · rw [inclD_hi h2 (by omega), List.length_append]
          have := ih (l.drop (hf l.length)) (i - hf l.length) (by rw [List.length_drop]; omega)
          rw [List.length_drop] at this
          simp only [List.length_singleton]; omega
      · rw [inclD_one i (by omega)]; simp
  exact aux _ l i (Nat.le_refl _)

/-- The proof of a beginning. -/
noncomputable def consD (l : List Dg) (m : Nat) (mark : Bool) : List Dg :=
  if m = l.length then (if mark then [] else [rootD l])
  else if _h : 2 ≤ l.length then (if m ≤ hf l.length then consD (l.take (hf l.length)) m mark ++ [rootD (l.drop (hf l.length))] else consD (l.drop (hf l.length)) (m - hf l.length) false ++ [rootD (l.take (hf l.length))]) else []
termination_by l.length
decreasing_by
  · have := hf_lt (by assumption); rw [List.length_take]; omega
  · have := hf_pos l.length; rw [List.length_drop]; omega
theorem consD_all {l : List Dg} : consD l l.length true = [] := by rw [consD, if_pos rfl]; rfl
theorem consD_all' {l : List Dg} : consD l l.length false = [rootD l] := by rw [consD, if_pos rfl]; rfl
theorem consD_lo {l : List Dg} {m : Nat} (mark : Bool) (h : 2 ≤ l.length) (hm : m ≠ l.length) (hi : m ≤ hf l.length) : consD l m mark = consD (l.take (hf l.length)) m mark ++ [rootD (l.drop (hf l.length))] := by rw [consD, if_neg hm, dif_pos h, if_pos hi]
theorem consD_hi {l : List Dg} {m : Nat} (mark : Bool) (h : 2 ≤ l.length) (hm : m ≠ l.length) (hi : hf l.length < m) : consD l m mark = consD (l.drop (hf l.length)) (m - hf l.length) false ++ [rootD (l.take (hf l.length))] := by rw [consD, if_neg hm, dif_pos h, if_neg (by omega)]

theorem consD_len (l : List Dg) (m : Nat) (mark : Bool) (h1 : 1 ≤ m) (h2 : m ≤ l.length) : (consD l m mark).length ≤ l.length := by
  have aux : ∀ k (l : List Dg) m mark, l.length ≤ k → 1 ≤ m → m ≤ l.length → (consD l m mark).length ≤ l.length := by
    intro k
    induction k with
    | zero => intro l m mark h; omega
    | succ k ih =>
      intro l m mark h h1 h2
      by_cases hm : m = l.length
      · subst hm
        cases mark
        · rw [consD_all', List.length_singleton]; exact h1
        · rw [consD_all]; simp
      · have h3 := hf_lt (n := l.length) (by omega)
        have h4 := hf_pos l.length
        by_cases hi : m ≤ hf l.length
        · rw [consD_lo mark (by omega) hm hi, List.length_append]
          have := ih (l.take (hf l.length)) m mark (by rw [List.length_take]; omega) h1 (by rw [List.length_take]; omega)
          rw [List.length_take] at this
          simp only [List.length_singleton]; omega
        · rw [consD_hi mark (by omega) hm (by omega), List.length_append]
          have := ih (l.drop (hf l.length)) (m - hf l.length) false (by rw [List.length_drop]; omega) (by omega) (by rw [List.length_drop]; omega)
          rw [List.length_drop] at this
          simp only [List.length_singleton]; omega
  exact aux _ l m mark (Nat.le_refl _) h1 h2

/-- The proof of several positions. -/
noncomputable def manyD (l : List Dg) (fr : Int) (ps : List Int) : List Dg :=
  if l.length = 0 then [] else if ps = [] then [rootD l] else
  if _h : 2 ≤ l.length then manyD (l.take (hf l.length)) fr (ps.filter (· < fr + hf l.length)) ++ manyD (l.drop (hf l.length)) (fr + hf l.length) (ps.filter (fun p => ¬ p < fr + hf l.length)) else []
termination_by l.length
decreasing_by
  · have := hf_lt (by assumption); rw [List.length_take]; omega
  · have := hf_pos l.length; rw [List.length_drop]; omega
theorem manyD_nil (fr : Int) (ps : List Int) : manyD [] fr ps = [] := by rw [manyD]; rfl
theorem manyD_none {l : List Dg} (fr : Int) (h : 1 ≤ l.length) : manyD l fr [] = [rootD l] := by rw [manyD, if_neg (by omega), if_pos rfl]
theorem manyD_one {l : List Dg} (fr : Int) {ps : List Int} (h : l.length = 1) (hp : ps ≠ []) : manyD l fr ps = [] := by rw [manyD, if_neg (by omega), if_neg hp, dif_neg (by omega)]
theorem manyD_two {l : List Dg} (fr : Int) {ps : List Int} (h : 2 ≤ l.length) (hp : ps ≠ []) : manyD l fr ps = manyD (l.take (hf l.length)) fr (ps.filter (· < fr + hf l.length)) ++ manyD (l.drop (hf l.length)) (fr + hf l.length) (ps.filter (fun p => ¬ p < fr + hf l.length)) := by
  rw [manyD, if_neg (by omega), if_neg hp, dif_pos h]

/-- A digest of a path, or zero behind its end. -/
def nx (path : List Dg) (a : Nat) : Dg := path.getD a dz
/-- The root that an inclusion path leads to; how many digests were asked for. -/
noncomputable def oneD (leaf : Dg) (i n a : Nat) (path : List Dg) : Dg × Nat :=
  if _h : 2 ≤ n then
    (if i < hf n then (nodeD (oneD leaf i (hf n) a path).1 (nx path (oneD leaf i (hf n) a path).2), (oneD leaf i (hf n) a path).2 + 1)
     else (nodeD (nx path (oneD leaf (i - hf n) (n - hf n) a path).2) (oneD leaf (i - hf n) (n - hf n) a path).1, (oneD leaf (i - hf n) (n - hf n) a path).2 + 1))
  else (leaf, a)
termination_by n
decreasing_by all_goals (have := hf_lt (by assumption); have := hf_pos n; omega)
theorem oneD_one (leaf : Dg) {i n : Nat} (a : Nat) (path : List Dg) (h : n ≤ 1) : oneD leaf i n a path = (leaf, a) := by rw [oneD, dif_neg (by omega)]
theorem oneD_lo (leaf : Dg) {i n : Nat} (a : Nat) (path : List Dg) (h : 2 ≤ n) (hi : i < hf n) : oneD leaf i n a path = (nodeD (oneD leaf i (hf n) a path).1 (nx path (oneD leaf i (hf n) a path).2), (oneD leaf i (hf n) a path).2 + 1) := by
  rw [oneD, dif_pos h, if_pos hi]
theorem oneD_hi (leaf : Dg) {i n : Nat} (a : Nat) (path : List Dg) (h : 2 ≤ n) (hi : hf n ≤ i) : oneD leaf i n a path = (nodeD (nx path (oneD leaf (i - hf n) (n - hf n) a path).2) (oneD leaf (i - hf n) (n - hf n) a path).1, (oneD leaf (i - hf n) (n - hf n) a path).2 + 1) := by
  rw [oneD, dif_pos h, if_neg (by omega)]
/-- At most n - 1 digests are asked for. -/
theorem oneD_asks (leaf : Dg) (path : List Dg) (k : Nat) : ∀ n i a, n ≤ k → a ≤ (oneD leaf i n a path).2 ∧ (oneD leaf i n a path).2 ≤ a + (n - 1) := by
  induction k with
  | zero => intro n i a h; rw [oneD_one leaf a path (by omega)]; exact ⟨Nat.le_refl _, by simp⟩
  | succ k ih =>
    intro n i a h
    by_cases h2 : 2 ≤ n
    · have h3 := hf_lt h2
      have h4 := hf_pos n
      by_cases hi : i < hf n
      · rw [oneD_lo leaf a path h2 hi]; have := ih (hf n) i a (by omega); simp only; omega
      · rw [oneD_hi leaf a path h2 (by omega)]; have := ih (n - hf n) (i - hf n) a (by omega); simp only; omega
    · rw [oneD_one leaf a path (by omega)]; exact ⟨Nat.le_refl _, by simp⟩

/-- The roots that a consistency path leads to. -/
noncomputable def oldD (m n : Nat) (mark : Bool) (old : Dg) (a : Nat) (path : List Dg) : Dg × Dg × Nat :=
  if m = n then (if mark then (old, old, a) else (nx path a, nx path a, a + 1))
  else if _h : 2 ≤ n then
    (if m ≤ hf n then let r := oldD m (hf n) mark old a path; (r.1, nodeD r.2.1 (nx path r.2.2), r.2.2 + 1)
     else let r := oldD (m - hf n) (n - hf n) false old a path; (nodeD (nx path r.2.2) r.1, nodeD (nx path r.2.2) r.2.1, r.2.2 + 1))
  else (old, old, a)
termination_by n
decreasing_by all_goals (have := hf_lt (by assumption); have := hf_pos n; omega)
theorem oldD_all (n : Nat) (old : Dg) (a : Nat) (path : List Dg) : oldD n n true old a path = (old, old, a) := by rw [oldD, if_pos rfl]; rfl
theorem oldD_all' (n : Nat) (old : Dg) (a : Nat) (path : List Dg) : oldD n n false old a path = (nx path a, nx path a, a + 1) := by rw [oldD, if_pos rfl]; rfl
theorem oldD_lo {m n : Nat} (mark : Bool) (old : Dg) (a : Nat) (path : List Dg) (h : 2 ≤ n) (hm : m ≠ n) (hi : m ≤ hf n) : oldD m n mark old a path = ((oldD m (hf n) mark old a path).1, nodeD (oldD m (hf n) mark old a path).2.1 (nx path (oldD m (hf n) mark old a path).2.2), (oldD m (hf n) mark old a path).2.2 + 1) := by
  rw [oldD, if_neg hm, dif_pos h, if_pos hi]
theorem oldD_hi {m n : Nat} (mark : Bool) (old : Dg) (a : Nat) (path : List Dg) (h : 2 ≤ n) (hm : m ≠ n) (hi : hf n < m) : oldD m n mark old a path = (nodeD (nx path (oldD (m - hf n) (n - hf n) false old a path).2.2) (oldD (m - hf n) (n - hf n) false old a path).1, nodeD (nx path (oldD (m - hf n) (n - hf n) false old a path).2.2) (oldD (m - hf n) (n - hf n) false old a path).2.1, (oldD (m - hf n) (n - hf n) false old a path).2.2 + 1) := by
  rw [oldD, if_neg hm, dif_pos h, if_neg (by omega)]
theorem oldD_asks (old : Dg) (path : List Dg) (k : Nat) : ∀ n m mark a, n ≤ k → 1 ≤ m → m ≤ n → a ≤ (oldD m n mark old a path).2.2 ∧ (oldD m n mark old a path).2.2 ≤ a + n := by
  induction k with
  | zero => intro n m mark a h h1 h2; omega
  | succ k ih =>
    intro n m mark a h h1 h2
    by_cases hm : m = n
    · subst hm
      cases mark
      · rw [oldD_all']; simp only; omega
      · rw [oldD_all]; simp only; omega
    · have h3 := hf_lt (n := n) (by omega)
      have h4 := hf_pos n
      by_cases hi : m ≤ hf n
      · rw [oldD_lo mark old a path (by omega) hm hi]; have := ih (hf n) m mark a (by omega) h1 hi; simp only; omega
      · rw [oldD_hi mark old a path (by omega) hm (by omega)]; have := ih (n - hf n) (m - hf n) false a (by omega) (by omega) (by omega); simp only; omega

/-- The root that a path of several positions leads to. -/
noncomputable def wlkD (fr : Int) (n : Nat) (ps : List Int) (fs : List Dg) (a : Nat) (path : List Dg) : Dg × Nat :=
  if n = 0 then (emptyD, a) else if ps = [] then (nx path a, a + 1) else
  if _h : 2 ≤ n then
    (nodeD (wlkD fr (hf n) (ps.filter (· < fr + hf n)) (fs.take (ps.filter (· < fr + hf n)).length) a path).1
      (wlkD (fr + hf n) (n - hf n) (ps.filter (fun p => ¬ p < fr + hf n)) (fs.drop (ps.filter (· < fr + hf n)).length) (wlkD fr (hf n) (ps.filter (· < fr + hf n)) (fs.take (ps.filter (· < fr + hf n)).length) a path).2 path).1,
     (wlkD (fr + hf n) (n - hf n) (ps.filter (fun p => ¬ p < fr + hf n)) (fs.drop (ps.filter (· < fr + hf n)).length) (wlkD fr (hf n) (ps.filter (· < fr + hf n)) (fs.take (ps.filter (· < fr + hf n)).length) a path).2 path).2)
  else (fs.headD dz, a)
termination_by n
decreasing_by all_goals (have := hf_lt (by assumption); have := hf_pos n; omega)
theorem wlkD_zero (fr : Int) (ps : List Int) (fs : List Dg) (a : Nat) (path : List Dg) : wlkD fr 0 ps fs a path = (emptyD, a) := by rw [wlkD, if_pos rfl]
theorem wlkD_none (fr : Int) {n : Nat} (fs : List Dg) (a : Nat) (path : List Dg) (h : 1 ≤ n) : wlkD fr n [] fs a path = (nx path a, a + 1) := by rw [wlkD, if_neg (by omega), if_pos rfl]
theorem wlkD_one (fr : Int) {ps : List Int} (fs : List Dg) (a : Nat) (path : List Dg) (hp : ps ≠ []) : wlkD fr 1 ps fs a path = (fs.headD dz, a) := by rw [wlkD, if_neg (by omega), if_neg hp, dif_neg (by omega)]
theorem wlkD_two (fr : Int) {n : Nat} {ps : List Int} (fs : List Dg) (a : Nat) (path : List Dg) (h : 2 ≤ n) (hp : ps ≠ []) : wlkD fr n ps fs a path = 
    (nodeD (wlkD fr (hf n) (ps.filter (· < fr + hf n)) (fs.take (ps.filter (· < fr + hf n)).length) a path).1
      (wlkD (fr + hf n) (n - hf n) (ps.filter (fun p => ¬ p < fr + hf n)) (fs.drop (ps.filter (· < fr + hf n)).length) (wlkD fr (hf n) (ps.filter (· < fr + hf n)) (fs.take (ps.filter (· < fr + hf n)).length) a path).2 path).1,
     (wlkD (fr + hf n) (n - hf n) (ps.filter (fun p => ¬ p < fr + hf n)) (fs.drop (ps.filter (· < fr + hf n)).length) (wlkD fr (hf n) (ps.filter (· < fr + hf n)) (fs.take (ps.filter (· < fr + hf n)).length) a path).2 path).2) := by
  rw [wlkD, if_neg (by omega), if_neg hp, dif_pos h]
theorem wlkD_asks (path : List Dg) (k : Nat) : ∀ n fr ps fs a, n ≤ k → a ≤ (wlkD fr n ps fs a path).2 ∧ (wlkD fr n ps fs a path).2 ≤ a + n := by
  induction k with
  | zero => intro n fr ps fs a h; obtain rfl : n = 0 := by omega
            rw [wlkD_zero]; exact ⟨Nat.le_refl _, Nat.le_refl _⟩
  | succ k ih =>
    intro n fr ps fs a h
    by_cases h0 : n = 0
    · subst h0; rw [wlkD_zero]; exact ⟨Nat.le_refl _, Nat.le_refl _⟩
    · by_cases hp : ps = []
      · subst hp; rw [wlkD_none fr fs a path (by omega)]; simp only; omega
      · by_cases h2 : 2 ≤ n
        · have h3 := hf_lt h2
          have h4 := hf_pos n
          rw [wlkD_two fr fs a path h2 hp]
          have e1 := ih (hf n) fr (ps.filter (· < fr + hf n)) (fs.take (ps.filter (· < fr + hf n)).length) a (by omega)
          have e2 := ih (n - hf n) (fr + hf n) (ps.filter (fun p => ¬ p < fr + hf n)) (fs.drop (ps.filter (· < fr + hf n)).length) (wlkD fr (hf n) (ps.filter (· < fr + hf n)) (fs.take (ps.filter (· < fr + hf n)).length) a path).2 (by omega)
          simp only
          omega
        · obtain rfl : n = 1 := by omega
          rw [wlkD_one fr fs a path hp]; simp only; omega
end Go.Proofs.YtfbemmeonkceiaaDoor
