/- The walk of LexerIgnoresBlanks. -/
import Derived.Test.YtggjgikpiljoiaaDoorL33
namespace Go.Proofs.YtggjgikpiljoiaaDoor
open Go.RowKit Hm Wm Lx

theorem walk_blanks (s r : ByteArray) (pl kd : Nat) (w : World) (hE : Env w) (hpl : pl < 256) : Calls Tryd.prog 6 #[.string s, .string r, .agg #[.int .u8 pl, .int .u8 kd]] w fun e w' => e = .returned (.bool true) ∧ Below w.heap.size w w' := by
  rw [(sb_of s).symm, (sb_of r).symm]
  generalize s.data.toList = l
  generalize r.data.toList = c
  rcases Nat.lt_or_ge 2000 l.length with h | h
  · exact blanks_longa l c pl kd w hE h
  · rcases Nat.lt_or_ge 100 c.length with h2 | h2
    · exact blanks_longb l c pl kd w hE h h2
    · cases hx : lex l 0 with
      | bad x k => exact blanks_bad l c pl kd w hE h h2 x k (lex_codes hx) hx
      | ok T =>
        have h5 := lex_nonempty hx
        have h6 := (lex_small l 0 T hx).1
        obtain ⟨t, ht⟩ : ∃ t, T[pl % T.length]? = some t := ⟨T[pl % T.length]'(Nat.mod_lt _ h5), List.getElem?_eq_getElem _⟩
        have hsame : ∀ V : List Tok, V.map strip = T.map strip → ∀ (A B : Option Addr) (cA cB : Nat) (W : World), RdT W A (T.map toT) → RdT W B (V.map toT) → Calls Tryd.prog 13 #[.slice A T.length cA, .slice B V.length cB] W fun e w' => e = .returned (.bool true) ∧ Below W.heap.size W w' := fun V hV A B cA cB W ha hb => by
          have := same_any (T.map toT) (V.map toT) A B cA cB W ha hb (strip_st hV) (by rw [List.length_map]; omega)
          rw [List.length_map, List.length_map] at this
          exact this
        have hcm : Bls (35 :: (flt c ++ [10])) := bls_cmt fun d hd => by
          have := (List.mem_filter.1 hd).2
          simpa [nlf] using this
        obtain ⟨tk, ta, ts, tv⟩ := t
        have k0 := lex_ins hx ht bls_32
        have k1 := lex_ins hx ht bls_9
        have k2 := lex_ins hx ht bls_10
        have k3 := lex_ins hx ht hcm
        simp only at k0 k1 k2 k3
        have hta := k0.1
        have hm : kd % 5 = 0 ∨ kd % 5 = 1 ∨ kd % 5 = 2 ∨ (kd % 5 ≠ 0 ∧ kd % 5 ≠ 1 ∧ kd % 5 ≠ 2) := by omega
        by_cases he : ta = l.length
        · rw [if_pos he] at k0 k1 k2 k3
          rcases hm with hm | hm | hm | hm
          · obtain ⟨V, e1, e2⟩ := k0.2
            exact blanks_0e l c pl kd w hE h h2 hpl hm T V _ tk ta tv ts hx rfl ht hta he e1 (hsame V e2)
          · obtain ⟨V, e1, e2⟩ := k1.2
            exact blanks_1e l c pl kd w hE h h2 hpl hm T V _ tk ta tv ts hx rfl ht hta he e1 (hsame V e2)
          · obtain ⟨V, e1, e2⟩ := k2.2
            exact blanks_2e l c pl kd w hE h h2 hpl hm T V _ tk ta tv ts hx rfl ht hta he e1 (hsame V e2)
          · obtain ⟨V, e1, e2⟩ := k3.2
            exact blanks_re l c pl kd w hE h h2 hpl _ rfl hm T V _ tk ta tv ts hx rfl ht hta he e1 (hsame V e2)
        · rw [if_neg he] at k0 k1 k2 k3
          rcases hm with hm | hm | hm | hm
          · obtain ⟨V, e1, e2⟩ := k0.2
            exact blanks_0n l c pl kd w hE h h2 hpl hm T V _ tk ta tv ts hx rfl ht hta he e1 (hsame V e2)
          · obtain ⟨V, e1, e2⟩ := k1.2
            exact blanks_1n l c pl kd w hE h h2 hpl hm T V _ tk ta tv ts hx rfl ht hta he e1 (hsame V e2)
          · obtain ⟨V, e1, e2⟩ := k2.2
            exact blanks_2n l c pl kd w hE h h2 hpl hm T V _ tk ta tv ts hx rfl ht hta he e1 (hsame V e2)
          · obtain ⟨V, e1, e2⟩ := k3.2
            exact blanks_rn l c pl kd w hE h h2 hpl _ rfl hm T V _ tk ta tv ts hx rfl ht hta he e1 (hsame V e2)
end Go.Proofs.YtggjgikpiljoiaaDoor
