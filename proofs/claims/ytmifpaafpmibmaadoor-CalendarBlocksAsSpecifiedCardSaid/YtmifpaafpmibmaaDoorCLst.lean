/- Dates of days; what is at a place of a cover; no list of blocks is shorter. -/
import Derived.Test.YtmifpaafpmibmaaDoorCCov
namespace Go.Proofs.YtmifpaafpmibmaaDoor.Cm

theorem ms_366 : ∀ j : Fin 41, ms (12 * j.1) ≤ 366 * j.1 := by decide +kernel
theorem yr_len : ∀ j : Fin 40, ms (12 * (j.1 + 1)) = ms (12 * j.1) + (if lp (2000 + j.1) then 366 else 365) := by decide +kernel
theorem mo_year {d j : Nat} (hd : d < 14610) (h1 : ms (12 * j) ≤ d) (h2 : d < ms (12 * (j + 1))) : mo d / 12 = j := by
  have a := mo_le d
  have b := mo_next hd
  have c : mo d < 12 * (j + 1) := by
    rcases Nat.lt_or_ge (mo d) (12 * (j + 1)) with h | h
    · exact h
    · have := ms_le h; omega
  have e : 12 * j < mo d + 1 := by
    rcases Nat.lt_or_ge (12 * j) (mo d + 1) with h | h
    · exact h
    · have := ms_le h; omega
  omega
theorem mlen_of (j m : Nat) (h : m < 12) : mlen (12 * j + m) = ml (2000 + j) m := by
  unfold mlen
  rw [show (12 * j + m) / 12 = j by omega, show (12 * j + m) % 12 = m by omega]

theorem Gr.nil_eq {N b a : Nat} (h : Gr N b a []) : a = b := by
  cases h
  rfl
theorem Gr.head {N b a : Nat} {l : List Bk} (h : Gr N b a l) {y : Bk} (hy : l[0]? = some y) : y.2.1 = a := by
  cases h with
  | nil => simp at hy
  | cons _ _ => simp at hy; subst hy; rfl
/-- What stands at a place of a list that is a cover. -/
theorem Gr.at' {N b a : Nat} {l : List Bk} (h : Gr N b a l) (hM : b ≤ M) : ∀ (i : Nat) (x : Bk), l[i]? = some x → a ≤ x.2.1 ∧ x.2.1 < x.2.2 ∧ x.2.2 ≤ b ∧ x.1 = top N x.2.1 b ∧ fl x.1 x.2.1 = x.2.1 ∧ nx x.1 x.2.1 = x.2.2 ∧ (i = 0 → x.2.1 = a) ∧ (i + 1 = l.length → x.2.2 = b) ∧ (∀ y, l[i + 1]? = some y → y.2.1 = x.2.2) := by
  induction h with
  | nil => intro i x hx; simp at hx
  | cons hlt hg ih =>
    rename_i a l
    intro i x hx
    have hin := blk_in (L := top N a b) (t := a) (by omega)
    obtain ⟨t1, t2⟩ := top_fits N a b hlt
    cases i with
    | zero =>
      simp at hx
      subst hx
      refine ⟨Nat.le_refl _, hin.2.1, t2, rfl, t1, rfl, fun _ => rfl, fun hl => ?_, fun y hy => ?_⟩
      · have : l = [] := by
          cases l with
          | nil => rfl
          | cons x l => simp at hl
        subst this
        exact hg.nil_eq
      · exact hg.head (by simpa using hy)
    | succ i =>
      rw [List.getElem?_cons_succ] at hx
      obtain ⟨a1, a2, a3, a4, a5, a6, a7, a8, a9⟩ := ih i x hx
      refine ⟨by omega, a2, a3, a4, a5, a6, fun h => by omega, fun h => a8 (by simp at h; omega), fun y hy => a9 y (by rwa [List.getElem?_cons_succ] at hy)⟩
theorem Gr.pos {N b a : Nat} {l : List Bk} (h : Gr N b a l) (hlt : a < b) : 0 < l.length := by
  cases h with
  | nil => omega
  | cons _ _ => simp
theorem Gr.emp {N b : Nat} {l : List Bk} (h : Gr N b b l) : l = [] := by
  cases h with
  | nil => rfl
  | cons h _ => omega

/-- A block that begins in one of a cover, and ends not behind its end, lies in it. -/
theorem inside {b c p L K : Nat} (hM : b ≤ M) (hcb : c < b) (hL : L = top 4 c b) (h1 : c ≤ p) (h2 : p < nx L c) (hfc : fl L c = c) (hK : K ≤ 4) (hf : fl K p = p) (hq : nx K p ≤ b) : nx K p ≤ nx L c := by
  have hp : p < M := by
    have := blk_in (L := L) (t := c) (by omega)
    omega
  have hs := blk_same (L := L) (t := c) (s := p) (by omega) (by omega) h2
  rcases Nat.lt_or_ge L K with h | h
  · have hu := blk_up (K := L) (L := K) hp (by omega)
    have hpc : p = c := by omega
    subst hpc
    have := top_max 4 p b K hK hf hq
    omega
  · have hu := blk_up (K := K) (L := L) hp h
    omega

/-- Where one is when k blocks of a list are looked at: at a place of the cover, behind a tick p. -/
def At (best : List Bk) (a k at_ p : Nat) : Prop := (k = 0 ∧ at_ = 0 ∧ p = a) ∨ (at_ < k ∧ ∃ x, best[at_]? = some x ∧ x.2.1 < p ∧ p ≤ x.2.2)
/-- At most one step to the next block of the cover. -/
theorem At.step {best : List Bk} {a b k at_ p : Nat} (h : Gr 4 b a best) (hM : b ≤ M) (hp : p < b) (hA : At best a k at_ p) : ∃ i x, best[i]? = some x ∧ x.2.1 ≤ p ∧ p < x.2.2 ∧ i < k + 1 ∧ (i = at_ ∨ (i = at_ + 1 ∧ ∃ y, best[at_]? = some y ∧ y.2.2 ≤ p)) := by
  rcases hA with ⟨rfl, rfl, rfl⟩ | ⟨hk, x, hx, h1, h2⟩
  · have hpos := h.pos hp
    refine ⟨0, best[0], by simp [hpos], ?_⟩
    have := h.at' hM 0 best[0] (by simp [hpos])
    refine ⟨by omega, by omega, by omega, .inl rfl⟩
  · have e := h.at' hM at_ x hx
    rcases Nat.lt_or_ge p x.2.2 with h3 | h3
    · exact ⟨at_, x, hx, by omega, h3, by omega, .inl rfl⟩
    · have hl : at_ < best.length := by
        rcases Nat.lt_or_ge at_ best.length with h | h
        · exact h
        · rw [List.getElem?_eq_none h] at hx; simp at hx
      have hl2 : at_ + 1 < best.length := by
        rcases Nat.lt_or_ge (at_ + 1) best.length with h | h
        · exact h
        · have := e.2.2.2.2.2.2.2.1 (by omega); omega
      have hy : best[at_ + 1]? = some best[at_ + 1] := by simp [hl2]
      have e1 := e.2.2.2.2.2.2.2.2 _ hy
      have e2 := h.at' hM (at_ + 1) _ hy
      exact ⟨at_ + 1, best[at_ + 1], hy, by omega, by omega, by omega, .inr ⟨rfl, x, hx, by omega⟩⟩
/-- The block that is looked at lies in that of the cover. -/
theorem At.next {best : List Bk} {a b k i p K : Nat} {x : Bk} (h : Gr 4 b a best) (hM : b ≤ M) (hx : best[i]? = some x) (h1 : x.2.1 ≤ p) (h2 : p < x.2.2) (hi : i < k + 1) (hK : K ≤ 4) (hf : fl K p = p) (hq : nx K p ≤ b) : nx K p ≤ x.2.2 ∧ At best a (k + 1) i (nx K p) := by
  have e := h.at' hM i x hx
  have hp : p < M := by omega
  have hin := blk_in (L := K) hp
  have := inside hM (c := x.2.1) (p := p) (L := x.1) (K := K) (by omega) e.2.2.2.1 h1 (by omega) e.2.2.2.2.1 hK hf hq
  refine ⟨by omega, .inr ⟨hi, x, hx, by omega, by omega⟩⟩
theorem At.done {best : List Bk} {a b k at_ : Nat} (h : Gr 4 b a best) (hM : b ≤ M) (hA : At best a k at_ b) : best.length ≤ k := by
  rcases hA with ⟨rfl, rfl, rfl⟩ | ⟨hk, x, hx, h1, h2⟩
  · rw [h.emp]; exact Nat.le_refl _
  · have e := h.at' hM at_ x hx
    rcases Nat.lt_or_ge k best.length with h3 | h3
    · exfalso
      have hy : best[at_ + 1]? = some best[at_ + 1] := by simp [show at_ + 1 < best.length by omega]
      have e1 := e.2.2.2.2.2.2.2.2 _ hy
      have e2 := h.at' hM (at_ + 1) _ hy
      omega
    · exact h3
end Go.Proofs.YtmifpaafpmibmaaDoor.Cm
