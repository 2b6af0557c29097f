/- The reference: slash. -/
import Derived.Test.YtpmlihhofmblpaaGreatDoorS11
namespace Go.Proofs.YtpmlihhofmblpaaGreatDoor
open Go.RowKit Hm Wm Wn

/-- The place of the first sign / (47), or the length. -/
def slL (l : List UInt8) : Nat := (l.takeWhile (fun c => c != 47)).length
theorem slL_end : ∀ {l : List UInt8}, (∀ (j : Nat) (c : UInt8), l[j]? = some c → c ≠ 47) → slL l = l.length
  | [], _ => rfl
  | c :: l, h => by
    have hc := h 0 c rfl
    have h2 := slL_end (l := l) (fun j d hd => h (j + 1) d (by simpa using hd))
    unfold slL at h2 ⊢
    rw [List.takeWhile_cons, if_pos (show (c != 47) = true from bne_iff_ne.2 hc), List.length_cons, List.length_cons, h2]
theorem slL_at : ∀ {l : List UInt8} {k : Nat}, l[k]? = some 47 → (∀ j c, j < k → l[j]? = some c → c ≠ 47) → slL l = k
  | [], _, h, _ => by simp at h
  | c :: l, 0, h, _ => by
    have hc : c = 47 := by simpa using h
    subst hc
    rfl
  | c :: l, k + 1, h, hb => by
    have hc := hb 0 c (by omega) rfl
    have h2 := slL_at (l := l) (k := k) (by simpa using h) (fun j d hj hd => hb (j + 1) d (by omega) (by simpa using hd))
    unfold slL at h2 ⊢
    rw [List.takeWhile_cons, if_pos (show (c != 47) = true from bne_iff_ne.2 hc), List.length_cons, h2]
set_option maxRecDepth 100000 in
set_option maxHeartbeats 1000000 in
theorem rslash_any (l : List UInt8) (w : World) (hl : l.length ≤ 1000) : Calls Tryz.prog 38 #[.string (sb l)] w fun e w' => e = .returned (.int .i64 (slL l : Nat)) ∧ w' = w := by
  go_enter Tryz.func38, Tryz.ntmps38
  go_wp2_with fail
  go_loopw [3] (fun iv wr => ∃ k : Nat, iv = .int .i64 k ∧ k ≤ l.length ∧ Hid (∀ j c, j < k → l[j]? = some c → c ≠ 47) ∧ wr = w) (fun iv _ => l.length - (intOf iv).toNat)
  case atStart => exact ⟨0, rfl, Nat.zero_le _, Lib.hid (fun j c h => absurd h (Nat.not_lt_zero _)), rfl⟩
  case round =>
    obtain ⟨k, rfl, hk, HB, rfl⟩ := hrel
    by_cases hlt : k < l.length
    · obtain ⟨c, hc⟩ : ∃ c, l[k]? = some c := ⟨l[k], List.getElem?_eq_getElem hlt⟩
      have HIX := Lib.hid (show (sb l).data.toList[k]? = some c by rw [sb_list]; exact hc)
      have i1 : decide ((k : Int) < ((sb l).size : Int)) = true := decide_eq_true (by rw [sb_size]; omega)
      by_cases h47 : c = 47
      · have HS := Lib.hid (slL_at (l := l) (k := k) (by rw [hc, h47]) HB.out)
        have HE := Lib.hid (show ((c.toNat : Int) == 47) = true by rw [h47]; rfl)
        clear h47 hc
        go_wp2_with (first | (refine wpList_dst 12 rfl ?_; refine wpList_run 12 rfl rfl _ (exec_indexS (.tmp 10) (.tmp 11) rfl (sb l) k c HIX.out rfl rfl) ?_; go_frame) | (refine wpList_dst 13 rfl ?_; refine wpList_run 13 rfl rfl _ (exec_eqlI _ _ _ _ rfl .u8 (c.toNat : Int) 47 true HE.out rfl rfl) ?_; go_frame))
        go_ret
        exact ⟨by rw [HS.out]; rfl, rfl⟩
      · have HE := Lib.hid (show ((c.toNat : Int) == 47) = false from beq_eq_false_iff_ne.2 (fun e => h47 (UInt8.toNat_inj.1 (show c.toNat = (47 : UInt8).toNat by rw [show (47 : UInt8).toNat = 47 from rfl]; omega))))
        have HN : Hid (∀ j d, j < k + 1 → l[j]? = some d → d ≠ 47) := Lib.hid (fun j d hj hd => by
          rcases Nat.lt_or_ge j k with h | h
          · exact HB.out j d h hd
          · obtain rfl : j = k := by omega
            rw [hc] at hd
            obtain rfl := Option.some.inj hd
            exact h47)
        clear h47 hc
        go_wp2_with (first | (refine wpList_dst 12 rfl ?_; refine wpList_run 12 rfl rfl _ (exec_indexS (.tmp 10) (.tmp 11) rfl (sb l) k c HIX.out rfl rfl) ?_; go_frame) | (refine wpList_dst 13 rfl ?_; refine wpList_run 13 rfl rfl _ (exec_eqlI _ _ _ _ rfl .u8 (c.toNat : Int) 47 false HE.out rfl rfl) ?_; go_frame))
        go_roundw
        case rel => exact ⟨k + 1, by go_num, by omega, HN, trivial⟩
        case measure => simp [intOf]; omega
    · obtain rfl : k = l.length := by omega
      have HS := Lib.hid (slL_end (l := l) (fun j c h => HB.out j c (by have := (List.getElem?_eq_some_iff.1 h).1; exact this) h))
      have i1 : decide ((l.length : Int) < ((sb l).size : Int)) = false := decide_eq_false (by rw [sb_size]; omega)
      go_wp2_with fail
      go_ret
      exact ⟨by rw [HS.out, ← sb_size l]; rfl, rfl⟩
end Go.Proofs.YtpmlihhofmblpaaGreatDoor
