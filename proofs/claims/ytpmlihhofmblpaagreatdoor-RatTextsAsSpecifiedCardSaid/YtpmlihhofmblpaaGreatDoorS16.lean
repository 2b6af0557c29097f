/- RatTextsAsSpecified. -/
import Derived.Test.YtpmlihhofmblpaaGreatDoorS15
namespace Go.Proofs.YtpmlihhofmblpaaGreatDoor
open Go.RowKit Hm Wm Wn

theorem neg_shape (l : List UInt8) : (ngL l = true ∧ l = 45 :: rsL l) ∨ (ngL l = false ∧ rsL l = l ∧ (l = [] ∨ ∃ c q, l = c :: q ∧ c ≠ 45)) := by
  match l with
  | [] => exact .inr ⟨rfl, rfl, .inl rfl⟩
  | c :: q =>
    by_cases hc : c = 45
    · subst hc; exact .inl ⟨rfl, rfl⟩
    · have h : Lib.hasPrefix (c :: q) [45] = false := by
        show ((45 : UInt8) == c && _) = false
        rw [beq_eq_false_iff_ne.2 (fun e => hc e.symm)]; rfl
      refine .inr ⟨h, ?_, .inr ⟨c, q, rfl, hc⟩⟩
      unfold rsL Lib.trimPrefix
      rw [h]; rfl
theorem par_parts (l : List UInt8) : parA l = if decide (pn ((rsL l).take (slL (rsL l))) = ⟨#[]⟩) = true then zR else ⟨ngL l, pn ((rsL l).take (slL (rsL l))), if decide (slL (rsL l) < (rsL l).length) = true then pn ((rsL l).drop (slL (rsL l) + 1)) else ⟨#[1]⟩⟩ := by
  unfold parA blL cuL
  by_cases h : slL (rsL l) < (rsL l).length
  · rw [sl_yes h, decide_eq_true h, if_pos rfl, if_pos rfl]
    by_cases h2 : pn ((rsL l).take (slL (rsL l))) = ⟨#[]⟩
    · rw [if_pos h2, decide_eq_true h2, if_pos rfl]
    · rw [if_neg h2, decide_eq_false h2, if_neg (by decide)]
  · have h1 : slL (rsL l) = (rsL l).length := Nat.le_antisymm (sl_le _) (by omega)
    have h9 : pn [49] = ⟨#[1]⟩ := by decide +kernel
    rw [sl_no h1, decide_eq_false h, h1, List.take_length]
    by_cases h2 : pn (rsL l) = ⟨#[]⟩
    · simp [h2]
    · simp [h2, h9]
theorem rparse5_core (s : ByteArray) (w : World) (hs : s.size ≤ 400) (r : Rv) (er : Int) (hr : (txtQ (valR (parA s.data.toList)) = s.data.toList ∧ r = parA s.data.toList ∧ er = 0) ∨ (txtQ (valR (parA s.data.toList)) ≠ s.data.toList ∧ r = zR ∧ er = 27)) :
    Calls Tryz.prog 9 #[.string s] w fun e w' => e = .returned (mk5 r er) ∧ Below w.heap.size w w' := by
  have hl : s.data.toList.length = s.size := Array.length_toList
  have hsb : s = sb s.data.toList := (sb_back s).symm
  have hrl := rs_len s.data.toList
  have hp := par_size s.data.toList (by omega)
  have hsz : ∀ l : List UInt8, (decide (sb l ≠ s) = false ↔ l = s.data.toList) := fun l => by
    rw [decide_eq_false_iff_not, Decidable.not_not]
    exact ⟨fun e => by rw [← e, sb_list], fun e => by rw [e, sb_of]⟩
  have h30 : ∀ W, Calls Tryz.prog 39 #[.string (sb ((rsL s.data.toList).take (slL (rsL s.data.toList))))] W fun e w' => e = .returned (.agg #[.string (pn ((rsL s.data.toList).take (slL (rsL s.data.toList)))), .int .i64 (pe ((rsL s.data.toList).take (slL (rsL s.data.toList))))]) ∧ Below W.heap.size W w' := fun W => by
    have h := rparse_any (sb ((rsL s.data.toList).take (slL (rsL s.data.toList)))) W (by rw [sb_size, List.length_take]; omega)
    rwa [sb_list, rpV_pn] at h
  have h43 : decide (slL (rsL s.data.toList) < (rsL s.data.toList).length) = true → ∀ W, Calls Tryz.prog 39 #[.string (sb ((rsL s.data.toList).drop (slL (rsL s.data.toList) + 1)))] W fun e w' => e = .returned (.agg #[.string (if decide (slL (rsL s.data.toList) < (rsL s.data.toList).length) = true then pn ((rsL s.data.toList).drop (slL (rsL s.data.toList) + 1)) else ⟨#[1]⟩), .int .i64 (pe ((rsL s.data.toList).drop (slL (rsL s.data.toList) + 1)))]) ∧ Below W.heap.size W w' := fun hb W => by
    rw [if_pos hb]
    have h := rparse_any (sb ((rsL s.data.toList).drop (slL (rsL s.data.toList) + 1))) W (by rw [sb_size, List.length_drop]; omega)
    rwa [sb_list, rpV_pn] at h
  refine rparse5_walk s s.data.toList (rsL s.data.toList) _ _ (slL (rsL s.data.toList)) (ngL s.data.toList) _ _ (okB (parA s.data.toList)) _ _ _ (sb (txtQ (valR (parA s.data.toList)))) _ _ er (parA s.data.toList) r w hsb (by omega) (neg_shape _) (sl_le _) rfl rfl rfl (fun _ => rfl) (fun h => ?_) rfl (par_parts _) rfl ?_ h30 h43 (fun W => rvalidq _ W hp) (fun W => rtext5_any _ W ?_)
  · rw [h]; rfl
  · rcases hr with ⟨h1, h2, h3⟩ | ⟨h1, h2, h3⟩
    · refine .inl ⟨?_, (hsz _).2 h1, h2, h3⟩
      have e : parA s.data.toList = rt (valR (parA s.data.toList)) := by
        conv => lhs; rw [← h1]
        exact par_txt _
      rw [e]; exact okB_valid _
    · refine .inr ⟨?_, h2, h3⟩
      cases hv : okB (parA s.data.toList)
      · exact .inl rfl
      · refine .inr ⟨rfl, ?_⟩
        rw [← Bool.not_eq_false]
        exact fun h => h1 ((hsz _).1 h)
  · have h1 := cu_len s.data.toList
    have h2 := pn_size (cuL s.data.toList).1
    have h3 := pn_size (blL s.data.toList)
    unfold parA
    split
    · exact ⟨Nat.zero_le _, Nat.zero_le _⟩
    · exact ⟨show (pn _).size ≤ _ by omega, show (pn _).size ≤ _ by omega⟩
theorem parse_both5 (s : ByteArray) (hs : s.size ≤ 500) : ∃ (a : Rv) (e : Int), (∀ W, Env W → Calls Tryz.prog 8 #[.string s] W fun f w' => f = .returned (.tuple #[rv a, .int .i64 e]) ∧ Below W.heap.size W w') ∧ (∀ W, Env W → Calls Tryz.prog 9 #[.string s] W fun f w' => f = .returned (mk5 a e) ∧ Below W.heap.size W w') := by
  by_cases h : 400 < s.size
  · exact ⟨zR, 2, fun W _ => Parse_long s W h (by omega), fun W _ => rparse5_long s W h⟩
  · by_cases ht : txtQ (valR (parA s.data.toList)) = s.data.toList
    · exact ⟨_, 0, fun W hE => Parse_core s W hE (by omega) _ 0 (.inl ⟨ht, rfl, rfl⟩), fun W _ => rparse5_core s W (by omega) _ 0 (.inl ⟨ht, rfl, rfl⟩)⟩
    · exact ⟨zR, 27, fun W hE => Parse_core s W hE (by omega) _ 27 (.inr ⟨ht, rfl, rfl⟩), fun W _ => rparse5_core s W (by omega) _ 27 (.inr ⟨ht, rfl, rfl⟩)⟩
theorem walk_tx (A : Option Addr) (c : Nat) (l : List Rv) (s : ByteArray) (w : World) (hE : Env w) (hr : RdQ w A l) (hc : l.length ≤ c) : Calls Tryz.prog 3 #[.slice A l.length c, .string s] w fun e w' => e = .returned (.bool true) ∧ Below w.heap.size w w' := by
  by_cases hn : 12 < l.length
  · exact tx_out_n A l.length c s w hE hn
  by_cases hs : 500 < s.size
  · exact tx_out_s A l.length c s w hE (by omega) hs
  obtain ⟨a1, e1, p, p5⟩ := parse_both5 s (by omega)
  exact tx_in A l.length c l s (fun x => sb (txtQ (valR x))) (rt (sumQ (l.map valR))) a1 e1 w hE (by omega) rfl (by omega) hr (fun x W => few_any 20 x W)
    (fun x hf W hE => Text_any x W hE.pow (sz_big (few_sz hf) (by decide))) (fun x hf W _ => rtext5_any x W (sz_big (few_sz hf) (by decide))) p p5
    (fun hall W hr => Sum_any 20 l A c W (by decide) (by decide) (by omega) hc (fun x hx => few_sz (hall x hx)) hr)
    (fun hall W hr => rsum5_any 20 l A c W (by decide) (by omega) (fun x hx => few_sz (hall x hx)) hr)
end Go.Proofs.YtpmlihhofmblpaaGreatDoor
