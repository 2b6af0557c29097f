/- Contracts of wire's getList at Digest, and GetDigests. -/
import Derived.Test.YtpobblcokkgijaaWDig
namespace Go.Proofs.Ytpobblcokkgijaa
open Go.RowKit Wm

def gd (l : List UInt8) : List UInt8 × Nat × Nat := (l.take 16, 16, 0)

theorem dcs_app (a b : List (List UInt8)) : dcs (a ++ b) = dcs a ++ dcs b := by simp [dcs]

/-- An own row is kept where only later blocks turn. -/
theorem own_below {w w' : World} {base : Nat} {e : TypeId} {size : Nat} {v : Value} {n : Nat} {xs : List Value} (h : w.ownsRow base e size v n xs) (hb : Below w.heap.size w w') : w'.ownsRow base e size v n xs := by
  refine ⟨h.1, ?_⟩
  rcases h.2 with hn | ⟨g, cap, cur, rfl, hbg, hg, rest⟩
  · exact .inl hn
  · exact .inr ⟨g, cap, cur, rfl, hbg, (hb.block g (Array.getElem?_eq_some_iff.1 hg).1).trans hg, rest⟩

/-- 'append(l, d)' onto an own row of digests. -/
theorem wpList_push16 {w : World} {ops : Array Oper} {rest : List Oper} {o : Oper} {a : Act} {Q : Exit → Act → World → Prop} (hgd : o.guard = none) (s x : Operand)
    (ho : o.op = .call { callee := .builtin .append, args := #[s, x], argTypes := #[24, 24] })
    (base : Nat) (v : Value) (n : Nat) (ys : List (List UInt8)) (hs : a.eval s = v) (hown : w.ownsRow base 57 16 v n (dcs ys)) (d : List UInt8) (hd : d.length = 16) (hb : base ≤ w.heap.size) (hl : n ≤ 1099511627776)
    (hx : a.eval x = .slice (some ⟨w.heap.size, 0, none⟩) 1 1)
    (h : ∀ v' w', w'.ownsRow base 57 16 v' (n + 1) (dcs (ys ++ [d])) → Below base w w' → wpList Try.prog ops Q rest (a.put o.dst v') w') :
    wpList Try.prog ops Q (o :: rest) a (w.alloc (.cells (bc d).toArray 57)) := by
  obtain ⟨i0, hi, hz0, hz1, hz2⟩ := info_parts dig_info
  refine wpList_append_own _ hgd s x 24 ho base 57 i0 _ 16 16 Try.underlying24 hi hz0 hz1 hz2 rfl (by decide) v n (dcs ys) hs (World.ownsRow.alloc hown _)
    ⟨w.heap.size, 0, none⟩ 1 1 (bc d) hx (by rw [bc_len, hd]) ?_ (bc_one d) ?_ ?_ ?_ ?_
  · intro j u hu
    rw [Addr.add_mid]
    exact rangeAt_new w (bc d) 57 j u hu
  · unfold maxLen; omega
  · omega
  · simp; omega
  · intro v' w' h1 h2 _
    refine h v' w' ?_ (((Below.refl base w).alloc hb _).grown h2 (by simp; omega) (fun k hk => (World.ownsRow.lt hown k hk).1))
    rw [dcs_app, show dcs [d] = bc d from by simp [dcs]]
    exact h1

set_option maxRecDepth 100000 in
set_option maxHeartbeats 1000000 in
theorem getListDigs_any (A : Option Addr) (c : Nat) (l : List UInt8) (w : World) (hc : l.length ≤ c) (hl : l.length ≤ 1099511627776) (hr : Rd w A (bc l)) :
    Calls Try.prog 49 #[.slice A l.length c, .int .i64 16, .func (.func 50) #[] #[]] w fun e w' => ∃ v, e = .returned (.tuple #[v, .int .i64 ((getL 16 gd l).2.1 : Nat), .int .i64 ((getL 16 gd l).2.2 : Nat)]) ∧
      w'.ownsRow w.heap.size 57 16 v (getL 16 gd l).1.length (dcs (getL 16 gd l).1) ∧ (∀ d ∈ (getL 16 gd l).1, d.length = 16) ∧ Below w.heap.size w w' := by
  obtain ⟨n, u, e, hg⟩ : ∃ n u e, gl 16 l = (n, u, e) := ⟨_, _, _, rfl⟩
  have hcs := gl_cases 16 l
  rw [hg] at hcs
  have hst := withL_start gd 16 l
  have hbad : (gl 16 l).2.2 ≠ 0 → getL 16 gd l = ([], 0, (gl 16 l).2.2) := fun h => by unfold getL; rw [if_pos h]
  rw [hg] at hst hbad
  have HC := Lib.hid (getLength_at hg A c w (by omega) (by omega) (by omega) hr)
  obtain ⟨i0, hi, hz0, hz1, hz2⟩ := info_parts dig_info
  clear hg
  rcases hcs with h | h | h
  · obtain ⟨h0, h1, h2, _, _⟩ := h
    have h0' : e = 0 := h0
    subst h0'
    have h1' : 1 ≤ u := h1
    have h2' : u + 16 * n ≤ l.length := h2
    have HR := Lib.hid (hst rfl)
    obtain ⟨w1, hmk, hown0, hg0⟩ := run_make_own (P := Try.prog) (w := w) w.heap.size 24 57 i0 _ 16 Try.underlying24 hi hz0 hz1 .i64 .i64 n (by rw [hz2]; omega) (by unfold maxLen; omega) (Nat.le_refl _)
    have hb1 : Below w.heap.size w w1 := (Below.refl _ _).grown hg0 (Nat.le_refl _) (by simp)
    have HA := Lib.hid hr
    have HI := Lib.hid hi
    have HZ := Lib.hid hz0
    clear h0 h1 h2 hst hbad hr hi hz0 hg0
    go_enter Try.func49, Try.ntmps49
    go_wp2_with (go_at_call 45; refine HC.out.mono ?_; rintro e w' ⟨rfl, rfl⟩)
    clear hmk
    go_loopw [12, 10, 29] (fun v at_ i wr => ∃ (k d : Nat) (ys : List (List UInt8)), i = .int .i64 k ∧ k ≤ n ∧ at_ = .int .i64 d ∧ d + 16 * (n - k) ≤ l.length ∧ ys.length = k ∧ Hid (∀ y ∈ ys, y.length = 16) ∧
        Hid (getL 16 gd l = withL ys d (gls gd (n - k) (l.drop d))) ∧ wr.ownsRow w.heap.size 57 16 v ys.length (dcs ys) ∧ w.heap.size ≤ wr.heap.size ∧ Below w.heap.size w wr)
      (fun _ _ i _ => n - (intOf i).toNat)
    case atStart => exact ⟨0, u, [], rfl, by omega, rfl, by omega, rfl, (by intro y hy; simp at hy), by rw [Nat.sub_zero]; exact HR, hown0, hb1.size, hb1⟩
    case round =>
      obtain ⟨k, d, ys, rfl, hk, rfl, hd, hyl, HY, HE, ho, hbs, hb⟩ := hrel
      clear HC HR hown0 hb1
      have hyn : ys.length ≤ 1099511627776 := by omega
      have HL := Lib.hid hyl
      clear hyl
      by_cases hlt : k < n
      · have hrw := HA.out.below hb
        have hcd : c ≠ d := by omega
        have hr1 := hrw.cut (k := d) (cap := c) (by rw [bc_len]; exact hc)
        rw [if_neg hcd, ← bc_drop] at hr1
        have hcall := getDigest_any (Option.map (fun x => x.add d) A) (c - d) (l.drop d) wr (by rw [List.length_drop]; omega) (by rw [List.length_drop]; omega) hr1
        rw [List.length_drop] at hcall
        have hxl : ((l.drop d).take 16).length = 16 := by rw [List.length_take, List.length_drop]; omega
        have hnk : n - k = (n - (k + 1)) + 1 := by omega
        have hI := HE.out
        rw [hnk] at hI
        have hsp := withL_step hI (show gd (l.drop d) = ((l.drop d).take 16, 16, 0) from rfl)
        rw [List.drop_drop] at hsp
        obtain ⟨x, hx⟩ : ∃ x, (l.drop d).take 16 = x := ⟨_, rfl⟩
        rw [hx] at hcall hxl hsp
        have HD := Lib.hid hcall
        have HS := Lib.hid hsp
        have HX := Lib.hid hxl
        clear hcall hsp hxl hI hx hnk hr1 hrw
        have hdd : d ≤ l.length := by omega
        go_wp2_with (first
          | (go_at_call 50; refine HD.out.mono ?_; rintro e w2 ⟨rfl, hb2⟩; have ho2 := own_below ho hb2; have hs2 := Nat.le_trans hbs hb2.size)
          | (refine wpList_store_dig rfl (.tmp 13) (.tmp 37) rfl x HX.out rfl rfl ?_)
          | (refine wpList_load_dig rfl (.tmp 13) rfl w2.heap.size 0 rfl x HX.out (rangeAt_new _ _ _) ?_)
          | (refine wpList_build_dig rfl (.tmp 44) rfl x HX.out rfl ?_)
          | (at_builtin; refine wpList_push16 rfl (.tmp 43) (.tmp 45) rfl w.heap.size _ _ ys rfl (World.ownsRow.alloc ho2 _) x HX.out ?s1 hyn rfl ?_; rotate_left 1; intro v3 w3 ho3 hb3))
        go_roundw
        case rel =>
          have hb4 := ((Below.refl w.heap.size w2).alloc hs2 (.cells (bc x).toArray 57)).trans hb3
          have hb5 := (hb2.mono hbs).trans hb4
          refine ⟨k + 1, d + 16, ys ++ [x], by go_num, by omega, by go_num, by omega, by rw [List.length_append, HL.out]; rfl, ?_, HS.out, ?_, Nat.le_trans hbs hb5.size, hb.trans hb5⟩
          · intro y hy
            rcases List.mem_append.1 hy with h1 | h1
            · exact HY.out y h1
            · rw [List.mem_singleton.1 h1]; exact HX.out
          · rw [List.length_append]
            exact ho3
        case measure => simp [intOf]; omega
        case s1 => simp; omega
      · have hkn : n - k = 0 := by omega
        have hI := HE.out
        rw [hkn] at hI
        have hfin : getL 16 gd l = (ys, d, 0) := by rw [hI]; simp [withL, gls]
        have HF := Lib.hid hfin
        clear hI hfin hkn
        go_wp2
        go_ret3
        exact ⟨_, by rw [HF.out]; rfl, by rw [HF.out]; exact ho, by rw [HF.out]; exact HY.out, hb⟩
  all_goals
    injection h with a b; injection b with b d
    subst a; subst b; subst d
    have HR := Lib.hid (hbad (by decide))
    clear hst hbad hr hi hz0 hz1 hz2
    go_enter Try.func49, Try.ntmps49
    go_wp2_with (go_at_call 45; refine HC.out.mono ?_; rintro e w' ⟨rfl, rfl⟩)
    go_ret3
    exact ⟨_, by rw [HR.out]; rfl, by rw [HR.out]; exact World.ownsRow_nil _ _ _ _, (by rw [HR.out]; intro y hy; simp at hy), Below.refl _ _⟩

set_option maxHeartbeats 400000 in
theorem getDigs_any (A : Option Addr) (c : Nat) (l : List UInt8) (w : World) (hc : l.length ≤ c) (hl : l.length ≤ 1099511627776) (hr : Rd w A (bc l)) :
    Calls Try.prog 34 #[.slice A l.length c] w fun e w' => ∃ v, e = .returned (.tuple #[v, .int .i64 ((getL 16 gd l).2.1 : Nat), .int .i64 ((getL 16 gd l).2.2 : Nat)]) ∧
      w'.ownsRow w.heap.size 57 16 v (getL 16 gd l).1.length (dcs (getL 16 gd l).1) ∧ (∀ d ∈ (getL 16 gd l).1, d.length = 16) ∧ Below w.heap.size w w' := by
  have HC := Lib.hid (getListDigs_any A c l w hc hl hr)
  clear hr
  go_enter Try.func34, Try.ntmps34
  go_wp2_with (go_at_call 49; refine HC.out.mono ?_; rintro e w' ⟨v, rfl, ho, hz, hb⟩)
  go_ret3
  exact ⟨v, rfl, ho, hz, hb⟩
end Go.Proofs.Ytpobblcokkgijaa
