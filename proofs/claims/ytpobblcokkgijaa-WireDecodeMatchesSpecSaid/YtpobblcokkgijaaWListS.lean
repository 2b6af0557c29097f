/- Contracts of wire's getList at string, and GetStrings. -/
import Derived.Test.YtpobblcokkgijaaWList
namespace Go.Proofs.Ytpobblcokkgijaa
open Go.RowKit Wm

set_option maxRecDepth 100000 in
set_option maxHeartbeats 1000000 in
theorem getListStrings_any (A : Option Addr) (c : Nat) (l : List UInt8) (w : World) (hc : l.length ≤ c) (hl : l.length ≤ 1099511627776) (hr : Rd w A (bc l)) :
    Calls Try.prog 48 #[.slice A l.length c, .int .i64 1, .func (.func 26) #[] #[]] w fun e w' => ∃ v, e = .returned (.tuple #[v, .int .i64 ((getL 1 gb l).2.1 : Nat), .int .i64 ((getL 1 gb l).2.2 : Nat)]) ∧
      w'.ownsRow w.heap.size 9 1 v (getL 1 gb l).1.length ((getL 1 gb l).1.map (fun x => Value.string (st x))) ∧ Below w.heap.size w w' := by
  obtain ⟨n, u, e, hg⟩ : ∃ n u e, gl 1 l = (n, u, e) := ⟨_, _, _, rfl⟩
  have hcs := gl_cases 1 l
  rw [hg] at hcs
  have hst := withL_start gb 1 l
  have hbad : (gl 1 l).2.2 ≠ 0 → getL 1 gb l = ([], 0, (gl 1 l).2.2) := fun h => by unfold getL; rw [if_pos h]
  rw [hg] at hst hbad
  have HC := Lib.hid (getLength_at hg A c w (by omega) (by omega) (by omega) hr)
  obtain ⟨i0, hi, hz0, hz1, hz2⟩ := info_parts str_info
  clear hg
  rcases hcs with h | h | h
  · obtain ⟨h0, h1, h2, _, _⟩ := h
    have h0' : e = 0 := h0
    subst h0'
    have h1' : 1 ≤ u := h1
    have h2' : u + n ≤ l.length := by have : u + 1 * n ≤ l.length := h2; omega
    have HR := Lib.hid (hst rfl)
    obtain ⟨w1, hmk, hown0, hg0⟩ := run_make_own (P := Try.prog) (w := w) w.heap.size 23 9 i0 _ 1 Try.underlying23 hi hz0 hz1 .i64 .i64 n (by rw [hz2]; omega) (by unfold maxLen; omega) (Nat.le_refl _)
    have hb1 : Below w.heap.size w w1 := (Below.refl _ _).grown hg0 (Nat.le_refl _) (by simp)
    have HA := Lib.hid hr
    clear h0 h1 h2 hst hbad hr hi hz0 hz1 hz2 hg0
    go_enter Try.func48, Try.ntmps48
    go_wp2_with (go_at_call 45; refine HC.out.mono ?_; rintro e w' ⟨rfl, rfl⟩)
    clear hmk
    go_loopw [12, 10, 29] (fun v at_ i wr => ∃ (k d : Nat) (ys : List (List UInt8)), i = .int .i64 k ∧ k ≤ n ∧ at_ = .int .i64 d ∧ 1 ≤ d ∧ d ≤ l.length ∧ ys.length = k ∧
        Hid (getL 1 gb l = withL ys d (gls gb (n - k) (l.drop d))) ∧ wr.ownsRow w.heap.size 9 1 v ys.length (ys.map (fun x => Value.string (st x))) ∧ w.heap.size ≤ wr.heap.size ∧ Below w.heap.size w wr)
      (fun _ _ i _ => n - (intOf i).toNat)
    case atStart => exact ⟨0, u, [], rfl, by omega, rfl, by omega, by omega, rfl, by rw [Nat.sub_zero]; exact HR, hown0, hb1.size, hb1⟩
    case round =>
      obtain ⟨k, d, ys, rfl, hk, rfl, hd1, hd, hyl, HI, ho, hbs, hb⟩ := hrel
      clear HC HR hown0 hb1
      have HL := Lib.hid hyl
      clear hyl
      by_cases hlt : k < n
      · have hrw := HA.out.below hb
        obtain ⟨A1, cp, HA1, hr1, hcp⟩ := cut_at hrw hc hd
        obtain ⟨x, q, e, hq⟩ : ∃ x q e, gb (l.drop d) = (x, q, e) := ⟨_, _, _, rfl⟩
        have hat := gb_at (l.drop d)
        rw [hq, List.length_drop] at hat
        have hnk : n - k = (n - (k + 1)) + 1 := by omega
        have hI := HI.out
        rw [hnk] at hI
        have hcall := getBytes_at hq A1 cp wr (by rw [List.length_drop]; omega) (by rw [List.length_drop]; omega) hr1
        rw [List.length_drop] at hcall
        have HD := Lib.hid hcall
        clear hcall hrw hr1 hnk
        rcases hat with h | h
        · obtain ⟨h0, h1, h2⟩ := h
          have h0' : e = 0 := h0
          subst h0'
          have h1' : 1 ≤ q := h1
          have h2' : q ≤ l.length - d := h2
          have hsp := withL_step hI hq
          rw [List.drop_drop] at hsp
          have HS := Lib.hid hsp
          clear hI hq hsp h0 h1 h2
          have hyn : ys.length ≤ 1099511627776 := by have := HL.out; omega
          rcases HA1.out with ⟨he, _, _⟩ | ⟨hne, rfl, rfl⟩
          · omega
          · clear HA1
            go_wp2_with (first | (go_at_call 26; refine HD.out.mono ?_; rintro e w' ⟨rfl, rfl⟩) | (at_builtin; refine wpList_push1 rfl (.tmp 43) (.tmp 45) 23 9 rfl Try.underlying23 _ _ str_info rfl w.heap.size _ _ _ rfl ho _ rfl hbs hyn (by decide) rfl ?_; intro v2 w2 ho2 hb2))
            go_roundw
            case rel =>
              refine ⟨k + 1, d + q, ys ++ [x], by go_num, by omega, by go_num, by omega, by omega, by rw [List.length_append, HL.out]; rfl, HS.out, ?_, Nat.le_trans hbs hb2.size, hb.trans hb2⟩
              rw [List.length_append, List.map_append]
              exact ho2
            case measure => simp [intOf]; omega
        · obtain ⟨hx1, hx2, he⟩ := h
          have he2 : e = 10 ∨ e = 11 := he
          have hx1' : x = [] := hx1
          have hx2' : q = 0 := hx2
          have h0 : e ≠ 0 := by omega
          have HS := Lib.hid (withL_stop hI (by rw [hq]) h0)
          subst hx1' hx2'
          clear hI hq hx1 hx2 he h0
          rcases HA1.out with ⟨hcd, rfl, rfl⟩ | ⟨hne, rfl, rfl⟩
          · have hz : l.length - d = 0 := by omega
            rw [hz] at HD
            clear HA1 hz
            subst hcd
            rcases he2 with rfl | rfl
            all_goals
              go_wp2_with (go_at_call 26; refine HD.out.mono ?_; rintro e w' ⟨rfl, rfl⟩)
              go_ret3
              exact ⟨_, by rw [HS.out]; rfl, by rw [HS.out]; exact World.ownsRow_nil _ _ _ _, hb⟩
          clear HA1
          rcases he2 with rfl | rfl
          all_goals
            go_wp2_with (go_at_call 26; refine HD.out.mono ?_; rintro e w' ⟨rfl, rfl⟩)
            go_ret3
            exact ⟨_, by rw [HS.out]; rfl, by rw [HS.out]; exact World.ownsRow_nil _ _ _ _, hb⟩
      · have hkn : n - k = 0 := by omega
        have hI := HI.out
        rw [hkn] at hI
        have hfin : getL 1 gb l = (ys, d, 0) := by rw [hI]; simp [withL, gls]
        have HF := Lib.hid hfin
        clear hI hfin hkn
        go_wp2
        go_ret3
        exact ⟨_, by rw [HF.out]; rfl, by rw [HF.out]; exact ho, hb⟩
  all_goals
    injection h with a b; injection b with b d
    subst a; subst b; subst d
    have HR := Lib.hid (hbad (by decide))
    clear hst hbad hr hi hz0 hz1 hz2
    go_enter Try.func48, Try.ntmps48
    go_wp2_with (go_at_call 45; refine HC.out.mono ?_; rintro e w' ⟨rfl, rfl⟩)
    go_ret3
    exact ⟨_, by rw [HR.out]; rfl, by rw [HR.out]; exact World.ownsRow_nil _ _ _ _, Below.refl _ _⟩

set_option maxHeartbeats 400000 in
theorem getStrings_any (A : Option Addr) (c : Nat) (l : List UInt8) (w : World) (hc : l.length ≤ c) (hl : l.length ≤ 1099511627776) (hr : Rd w A (bc l)) :
    Calls Try.prog 31 #[.slice A l.length c] w fun e w' => ∃ v, e = .returned (.tuple #[v, .int .i64 ((getL 1 gb l).2.1 : Nat), .int .i64 ((getL 1 gb l).2.2 : Nat)]) ∧
      w'.ownsRow w.heap.size 9 1 v (getL 1 gb l).1.length ((getL 1 gb l).1.map (fun x => Value.string (st x))) ∧ Below w.heap.size w w' := by
  have HC := Lib.hid (getListStrings_any A c l w hc hl hr)
  clear hr
  go_enter Try.func31, Try.ntmps31
  go_wp2_with (go_at_call 48; refine HC.out.mono ?_; rintro e w' ⟨v, rfl, ho, hb⟩)
  go_ret3
  exact ⟨v, rfl, ho, hb⟩
end Go.Proofs.Ytpobblcokkgijaa
