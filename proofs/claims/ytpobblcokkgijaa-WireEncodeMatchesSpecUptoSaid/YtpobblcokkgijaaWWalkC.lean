/- The walk of WireConcat. -/
import Derived.Test.YtpobblcokkgijaaWWalkA
import Derived.Test.YtpobblcokkgijaaWMathB
namespace Go.Proofs.Ytpobblcokkgijaa
open Go.RowKit Wm

/-- A slice of integers that came in. -/
theorem ints_in {w : World} {a : Option Addr} {len cap : Nat} {zs : List Int}
    (h : (a = none ∧ len = 0 ∧ cap = 0 ∧ zs = []) ∨ ∃ x, a = some x ∧ len ≤ cap ∧ cap ≤ maxLen ∧ zs.length = cap ∧ (∀ i, i < zs.length → w.cell? (x.add i) = some (.int .i64 (zs.getD i 0))) ∧ ∀ n ∈ zs, (Lit.int .i64 n).wf = true) :
    ∃ l : List Int, l.length = len ∧ Rd w a (l.map (Value.int .i64)) ∧ ∀ z ∈ l, -9223372036854775808 ≤ z ∧ z ≤ 9223372036854775807 := by
  rcases h with ⟨rfl, rfl, rfl, rfl⟩ | ⟨x, rfl, h1, h2, h3, h4, h5⟩
  · exact ⟨[], rfl, Rd.nil _ _, by intro z hz; simp at hz⟩
  · refine ⟨zs.take len, by simp; omega, ?_, fun z hz => bounds_i64 (h5 z (List.mem_of_mem_take hz))⟩
    intro hne
    have hlen : 0 < len := by
      rcases Nat.eq_zero_or_pos len with h0 | h0
      · subst h0; simp at hne
      · exact h0
    obtain ⟨b, off, rfl, hc⟩ := ints_at h4 (by omega)
    refine ⟨b, off, rfl, fun k u hu => ?_⟩
    have hk : k < len := by
      rcases Nat.lt_or_ge k len with h | h
      · exact h
      · rw [List.getElem?_eq_none (by simp; omega)] at hu; cases hu
    have hkz : k < zs.length := by omega
    rw [hc k hkz]
    simp only [List.getElem?_map, List.getElem?_take, if_pos hk, List.getElem?_eq_getElem hkz, Option.map_some] at hu
    rw [← hu]
    simp [List.getD, hkz]

theorem encI_len (l : List Int) (hz : ∀ z ∈ l, -9223372036854775808 ≤ z ∧ z ≤ 9223372036854775807) (hl : l.length ≤ 4611686018427387904) : (encI l).length ≤ 10 + 10 * l.length := by
  unfold encI encL
  rw [List.length_append]
  have h1 := enc_le (n := (l.length : Int)) (by omega) (by omega)
  have h2 : ∀ l : List Int, (∀ z ∈ l, -9223372036854775808 ≤ z ∧ z ≤ 9223372036854775807) → (l.flatMap enc).length ≤ 10 * l.length := by
    intro l
    induction l with
    | nil => intro _; simp
    | cons z r ih =>
      intro h
      have a := ih fun y hy => h y (List.mem_cons_of_mem _ hy)
      have b := enc_le (h z List.mem_cons_self).1 (h z List.mem_cons_self).2
      rw [List.flatMap_cons, List.length_append, List.length_cons]; omega
  have := h2 l hz
  omega
theorem encB_le (x : List UInt8) (hx : x.length ≤ 4611686018427387904) : (encB x).length ≤ 10 + x.length := by
  unfold encB
  rw [List.length_append]
  have h1 := enc_le (n := (x.length : Int)) (by omega) (by omega)
  omega

/-- 'append(b, c...)', b an own row of bytes, c a slice that reads. -/
theorem wpList_both {w : World} {ops : Array Oper} {rest : List Oper} {o : Oper} {a : Act} {Q : Exit → Act → World → Prop} (hgd : o.guard = none) (s x : Operand)
    (ho : o.op = .call { callee := .builtin .append, args := #[s, x], argTypes := #[28, 28] })
    (base : Nat) (v : Value) (l r : List UInt8) (hs : a.eval s = v) (hown : OwnB w base v l) (B : Option Addr) (c : Nat) (hx : a.eval x = .slice B r.length c) (hr : Rd w B (bc r)) (hne : r ≠ []) (hb : base ≤ w.heap.size) (hl : l.length + r.length ≤ 1099511627776)
    (h : ∀ v' w', OwnB w' base v' (l ++ r) → Below base w w' → wpList Try.prog ops Q rest (a.put o.dst v') w') :
    wpList Try.prog ops Q (o :: rest) a w := by
  obtain ⟨i0, hi, hz0, hz1, hz2⟩ := info_parts u8_info
  have hrne : bc r ≠ [] := by intro e; apply hne; have := bc_len r; rw [e] at this; exact List.eq_nil_of_length_eq_zero this.symm
  obtain ⟨b, rfl, hd⟩ := hr.news hrne
  refine wpList_append_own _ hgd s x 28 ho base 5 i0 (.int .u8 0) 1 1 Try.underlying28 hi hz0 hz1 hz2 rfl (by decide) v l.length (bc l) hs hown b r.length c (bc r) hx (by rw [bc_len, Nat.mul_one]) hd (bc_one r) (by unfold maxLen; omega) (by omega) hb ?_
  intro v' w' h1 h2 _
  refine h v' w' ?_ ((Below.refl base w).grown h2 hb (fun k hk => (World.ownsRow.lt hown k hk).1))
  unfold OwnB
  rw [List.length_append, bc_app]
  exact h1

set_option maxRecDepth 100000 in
set_option maxHeartbeats 1000000 in
theorem walkConcat (s : ByteArray) (A : Option Addr) (cap : Nat) (zs : List Int) (w : World) (hs : s.size ≤ 140737488351232) (hr : Rd w A (zs.map (Value.int .i64))) (hz : ∀ z ∈ zs, -9223372036854775808 ≤ z ∧ z ≤ 9223372036854775807) (hzl : zs.length ≤ 140737488351232) :
    Calls Try.prog 10 #[.string s, .slice A zs.length cap] w fun e w' => e = .returned (.bool true) ∧ Below w.heap.size w w' := by
  by_cases hl : s.size + zs.length ≤ 2000
  · have hsz : s.data.toList.length = s.size := Array.length_toList (xs := s.data)
    have hx1 := encB_le s.data.toList (by omega)
    have hx2 := encI_len zs hz (by omega)
    have hpI : 0 < (encI zs).length := by unfold encI encL; have := enc_pos zs.length; rw [List.length_append]; omega
    have hpB : 0 < (encB s.data.toList).length := by unfold encB; have := enc_pos s.data.toList.length; rw [List.length_append]; omega
    have HG1 := Lib.hid (gb_enc s.data.toList (encI zs) (by omega))
    have hg2 := getI_enc zs hz (by omega) []
    rw [List.append_nil] at hg2
    have HG2 := Lib.hid hg2
    have HB := Lib.hid (fun W => bytes_any s W (by omega))
    have HI := Lib.hid (fun W (h : Rd W A (zs.map (Value.int .i64))) => ints_any A cap zs W h hz (by omega) (by omega))
    have HR := Lib.hid hr
    have hst : st s.data.toList = s := st_of s
    obtain ⟨X, hX⟩ : ∃ X, encB s.data.toList = X := ⟨_, rfl⟩
    obtain ⟨Y, hY⟩ : ∃ Y, encI zs = Y := ⟨_, rfl⟩
    rw [hX] at hx1 hpB HG1 HB
    rw [hY] at hx2 hpI HG1 HG2 HI
    have HST := Lib.hid hst
    clear hr hz hg2 hX hY hst
    rw [hsz] at hx1
    clear hsz
    go_enter Try.func10, Try.ntmps10
    go_wp2_with fail
    refine (HB.out _).mono ?_
    rintro e w1 ⟨v1, rfl, ho1, hb1⟩
    go_wp2_with fail
    refine (HI.out _ (HR.out.below hb1)).mono ?_
    rintro e w2 ⟨v2, rfl, ho2, hb2⟩
    obtain ⟨A2, c2, hv, hr2, hc2⟩ := ho2.out
    have hown := ho1.kept hb2
    clear ho1 ho2
    rw [hv]
    clear hv
    have HO := Lib.hid hown
    have HR2 := Lib.hid hr2
    clear hown hr2
    go_wp2_with (at_builtin; refine wpList_both rfl (.tmp 20) (.tmp 22) rfl w.heap.size _ X Y rfl HO.out A2 c2 rfl HR2.out ?c1 ?c2 ?c3 ?_; rotate_left 3; intro v3 w3 ho3 hb3)
    · obtain ⟨A3, c3, hv, hr3, hc3⟩ := ho3.out
      clear ho3
      rw [hv]
      clear hv
      have hc1 := getBytes_at HG1.out A3 c3 w3 hc3 (by simp; omega) hr3
      rw [HST.out] at hc1
      have HC1 := Lib.hid hc1
      have hcut := hr3.cut (k := X.length) (cap := c3) (by rw [bc_len]; exact hc3)
      rw [if_neg (by simp at hc3; omega), ← bc_drop, List.drop_left] at hcut
      have hc2' : ∀ W, Below w3.heap.size w3 W → Calls Try.prog 28 #[.slice (Option.map (fun x => x.add X.length) A3) Y.length (c3 - X.length)] W fun e w' => ∃ A c, e = .returned (.tuple #[.slice A zs.length c, .int .i64 (Y.length : Int), .int .i64 0]) ∧ Rd w' A (zs.map (Value.int .i64)) ∧ Below W.heap.size W w' := by
        intro W hW
        refine (getInts_any _ (c3 - X.length) Y W (by simp at hc3; omega) (by omega) (hcut.below hW)).mono ?_
        rintro e w' ⟨v, rfl, ho, hb⟩
        rw [HG2.out] at ho ⊢
        obtain ⟨A, c, rfl, hra, _⟩ := row_out ho
        exact ⟨A, c, rfl, hra, hb⟩
      have HC2 := Lib.hid (hc2' w3 (Below.refl _ _))
      have hlen : (X ++ Y).length = X.length + Y.length := List.length_append
      rw [hlen] at HC1 ⊢
      have hcc : c3 ≠ X.length := by simp at hc3; omega
      clear hc1 hcut hc2' hr3 hc3 hlen
      have hzl' : zs.length ≤ 1099511627776 := by omega
      refine HC1.out.mono ?_
      rintro e w4 ⟨rfl, rfl⟩
      go_wp2_with fail
      refine HC2.out.mono ?_
      rintro e w4 ⟨A4, c4, rfl, hr4, hb4⟩
      have HR4 := Lib.hid hr4
      clear hr4
      go_wp2_with fail
      refine (sanity_any _).mono ?_
      rintro e w5 ⟨rfl, hb5⟩
      have hb03 := hb1.trans ((hb2.mono hb1.size).trans hb3)
      have hb05 := Below.next hb03 (Below.next hb4 hb5)
      have HR5 := Lib.hid (HR.out.below hb05)
      have HR4' := Lib.hid (HR4.out.below hb5)
      go_wp2_with fail
      refine (sameInts_any A4 A c4 cap zs w5 HR4'.out HR5.out hzl').mono ?_
      rintro e w6 ⟨rfl, n6, hw6⟩
      have HB6 := Lib.hid (show Below w.heap.size w w6 by rw [hw6]; exact below_drewN hb05 n6)
      clear hw6 hb03 hb05 hb4 hb5 hb3 hb1 hb2
      go_wp2
      go_ret
      exact ⟨rfl, HB6.out⟩
    case c1 => intro e0; rw [e0] at hpI; simp at hpI
    case c2 => exact Nat.le_trans hb1.size hb2.size
    case c3 => omega
  · go_enter Try.func10, Try.ntmps10
    go_wp2_with (go_at_call 12; refine (sanity_any _).mono ?_; rintro e w1 ⟨rfl, hb1⟩)
    go_ret
    exact ⟨rfl, hb1⟩
end Go.Proofs.Ytpobblcokkgijaa
