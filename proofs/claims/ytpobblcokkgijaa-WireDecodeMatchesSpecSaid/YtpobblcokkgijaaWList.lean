/- Contracts of wire's getList (at int and string), GetInts and GetStrings. -/
import Derived.Test.YtpobblcokkgijaaWPut
import Derived.Laws.MakeOwn
namespace Go.Proofs.Ytpobblcokkgijaa
open Go.RowKit Wm

/-- n elements off the beginning of a list of bytes. -/
def gls {α : Type} (f : List UInt8 → α × Nat × Nat) : Nat → List UInt8 → List α × Nat × Nat
  | 0, _ => ([], 0, 0)
  | n + 1, l =>
    if (f l).2.2 ≠ 0 then ([], 0, (f l).2.2)
    else if (gls f n (l.drop (f l).2.1)).2.2 ≠ 0 then ([], 0, (gls f n (l.drop (f l).2.1)).2.2)
    else ((f l).1 :: (gls f n (l.drop (f l).2.1)).1, (f l).2.1 + (gls f n (l.drop (f l).2.1)).2.1, 0)
/-- What the decoding of a list is to answer: its elements have at least s bytes each. -/
def getL {α : Type} (s : Nat) (f : List UInt8 → α × Nat × Nat) (l : List UInt8) : List α × Nat × Nat :=
  if (gl s l).2.2 ≠ 0 then ([], 0, (gl s l).2.2)
  else if (gls f (gl s l).1 (l.drop (gl s l).2.1)).2.2 ≠ 0 then ([], 0, (gls f (gl s l).1 (l.drop (gl s l).2.1)).2.2)
  else ((gls f (gl s l).1 (l.drop (gl s l).2.1)).1, (gl s l).2.1 + (gls f (gl s l).1 (l.drop (gl s l).2.1)).2.1, 0)

theorem gls_bad {α : Type} (f : List UInt8 → α × Nat × Nat) : ∀ (n : Nat) (l : List UInt8), (gls f n l).2.2 ≠ 0 → (gls f n l).1 = [] ∧ (gls f n l).2.1 = 0 := by
  intro n
  cases n with
  | zero => intro l h; exact absurd rfl h
  | succ n =>
    intro l
    simp only [gls]
    split
    · intro _; exact ⟨rfl, rfl⟩
    · split
      · intro _; exact ⟨rfl, rfl⟩
      · intro h; exact absurd rfl h

/-- So far ys, which took d bytes; the rest is q. -/
def withL {α : Type} (ys : List α) (d : Nat) (q : List α × Nat × Nat) : List α × Nat × Nat := if q.2.2 ≠ 0 then ([], 0, q.2.2) else (ys ++ q.1, d + q.2.1, 0)

theorem withL_start {α : Type} (f : List UInt8 → α × Nat × Nat) (s : Nat) (l : List UInt8) (h : (gl s l).2.2 = 0) : getL s f l = withL [] (gl s l).2.1 (gls f (gl s l).1 (l.drop (gl s l).2.1)) := by
  unfold getL withL
  rw [if_neg (by omega), List.nil_append]
theorem withL_stop {α : Type} {f : List UInt8 → α × Nat × Nat} {l' : List UInt8} {ys : List α} {d n e : Nat} {R : List α × Nat × Nat} (h : R = withL ys d (gls f (n + 1) l')) (he : (f l').2.2 = e) (h0 : e ≠ 0) : R = ([], 0, e) := by
  subst he
  rw [h]
  simp only [gls, if_pos h0]
  simp [withL, h0]
theorem withL_step {α : Type} {f : List UInt8 → α × Nat × Nat} {l' : List UInt8} {ys : List α} {d n u : Nat} {x : α} {R : List α × Nat × Nat} (h : R = withL ys d (gls f (n + 1) l')) (he : f l' = (x, u, 0)) :
    R = withL (ys ++ [x]) (d + u) (gls f n (l'.drop u)) := by
  rw [h]
  simp only [gls, he]
  by_cases hr : (gls f n (l'.drop u)).2.2 = 0
  · simp [withL, hr, Nat.add_assoc]
  · simp [withL, hr]

/-- 'append(l, x)' onto an own row of one-cell elements. -/
theorem wpList_push1 {w : World} {ops : Array Oper} {rest : List Oper} {o : Oper} {a : Act} {Q : Exit → Act → World → Prop} (hgd : o.guard = none) (s x : Operand) (t e : TypeId)
    (ho : o.op = .call { callee := .builtin .append, args := #[s, x], argTypes := #[t, t] }) (ht : Try.prog.underlying t = some (.slice e)) (z : Value) (bytes : Nat)
    (hin : (Try.prog.info? e).map (fun i => (i.zero, i.size, i.bytes)) = some (some z, 1, bytes)) (hz : z.cells.size = 1)
    (base : Nat) (v : Value) (n : Nat) (xs : List Value) (hs : a.eval s = v) (hown : w.ownsRow base e 1 v n xs) (u : Value) (hu : u.oneCell' = true) (hb : base ≤ w.heap.size) (hl : n ≤ 1099511627776) (hby : bytes ≤ 64)
    (hx : a.eval x = .slice (some ⟨w.heap.size, 0, none⟩) 1 1)
    (h : ∀ v' w', w'.ownsRow base e 1 v' (n + 1) (xs ++ [u]) → Below base w w' → wpList Try.prog ops Q rest (a.put o.dst v') w') :
    wpList Try.prog ops Q (o :: rest) a (w.alloc (.cells #[u] e)) := by
  obtain ⟨i0, hi, hz0, hz1, hz2⟩ := info_parts hin
  refine wpList_append_own _ hgd s x t ho base e i0 z 1 bytes ht hi hz0 hz1 hz2 hz (by decide) v n xs hs (World.ownsRow.alloc hown _)
    ⟨w.heap.size, 0, none⟩ 1 1 [u] hx rfl (cell_one_new _ _ _) ?_ ?_ ?_ ?_ ?_
  · intro u' hu'; simp at hu'; subst hu'; exact hu
  · unfold maxLen; omega
  · have := Nat.mul_le_mul (show n + 1 ≤ 1099511627777 by omega) hby
    omega
  · simp; omega
  · intro v' w' h1 h2 _
    exact h v' w' h1 (((Below.refl base w).alloc hb _).grown h2 (by simp; omega) (fun k hk => (World.ownsRow.lt hown k hk).1))

theorem gi_at (l : List UInt8) : ((gi l).2.2 = 0 ∧ 1 ≤ (gi l).2.1 ∧ (gi l).2.1 ≤ l.length) ∨ ((gi l).1 = 0 ∧ (gi l).2.1 = 0 ∧ ((gi l).2.2 = 10 ∨ (gi l).2.2 = 11)) := by
  rcases gi_cases l with h | h | h
  · exact .inl ⟨h.1, h.2.1, h.2.2.2.1⟩
  · rw [h]; exact .inr ⟨rfl, rfl, .inl rfl⟩
  · rw [h]; exact .inr ⟨rfl, rfl, .inr rfl⟩
theorem gb_at (l : List UInt8) : ((gb l).2.2 = 0 ∧ 1 ≤ (gb l).2.1 ∧ (gb l).2.1 ≤ l.length) ∨ ((gb l).1 = [] ∧ (gb l).2.1 = 0 ∧ ((gb l).2.2 = 10 ∨ (gb l).2.2 = 11)) := by
  unfold gb
  rcases gl_cases 1 l with h | h | h
  · obtain ⟨h0, h1, h2, _⟩ := h
    rw [if_pos h0]
    exact .inl ⟨rfl, by show 1 ≤ _ + _; omega, by show _ + _ ≤ _; omega⟩
  · rw [h]; exact .inr ⟨rfl, rfl, .inl rfl⟩
  · rw [h]; exact .inr ⟨rfl, rfl, .inr rfl⟩
theorem getBytes_at {l : List UInt8} {x : List UInt8} {u e : Nat} (hg : gb l = (x, u, e)) (A : Option Addr) (c : Nat) (w : World) (hc : l.length ≤ c) (hl : l.length ≤ 140737488355328) (hr : Rd w A (bc l)) :
    Calls Try.prog 26 #[.slice A l.length c] w fun y w' => y = .returned (.tuple #[.string (st x), .int .i64 (u : Int), .int .i64 (e : Int)]) ∧ w = w' := by
  have h := getBytes_any A c l w hc hl hr
  rw [hg] at h
  exact h
/-- 'b[d:]', in the two forms that its address takes. -/
theorem cut_at {w : World} {A : Option Addr} {l : List UInt8} {c d : Nat} (h : Rd w A (bc l)) (hc : l.length ≤ c) (hd : d ≤ l.length) :
    ∃ A1 cp, Hid ((c = d ∧ A1 = A ∧ cp = 0) ∨ (c ≠ d ∧ A1 = Option.map (fun x => x.add d) A ∧ cp = c - d)) ∧ Rd w A1 (bc (l.drop d)) ∧ l.length - d ≤ cp := by
  have h1 := h.cut (k := d) (cap := c) (by rw [bc_len]; exact hc)
  rw [← bc_drop] at h1
  by_cases e : c = d
  · rw [if_pos e] at h1
    exact ⟨A, 0, .inl ⟨e, rfl, rfl⟩, h1, by omega⟩
  · rw [if_neg e] at h1
    exact ⟨_, c - d, .inr ⟨e, rfl, rfl⟩, h1, by omega⟩
theorem int_info : (Try.prog.info? 3).map (fun i => (i.zero, i.size, i.bytes)) = some (some (.int .i64 0), 1, 8) := by kernel_rfl
theorem str_info : (Try.prog.info? 9).map (fun i => (i.zero, i.size, i.bytes)) = some (some (.string ByteArray.empty), 1, 16) := by kernel_rfl

set_option maxRecDepth 100000 in
set_option maxHeartbeats 1000000 in
theorem getListInts_any (A : Option Addr) (c : Nat) (l : List UInt8) (w : World) (hc : l.length ≤ c) (hl : l.length ≤ 1099511627776) (hr : Rd w A (bc l)) :
    Calls Try.prog 46 #[.slice A l.length c, .int .i64 1, .func (.func 24) #[] #[]] w fun e w' => ∃ v, e = .returned (.tuple #[v, .int .i64 ((getL 1 gi l).2.1 : Nat), .int .i64 ((getL 1 gi l).2.2 : Nat)]) ∧
      w'.ownsRow w.heap.size 3 1 v (getL 1 gi l).1.length ((getL 1 gi l).1.map (Value.int .i64)) ∧ Below w.heap.size w w' := by
  obtain ⟨n, u, e, hg⟩ : ∃ n u e, gl 1 l = (n, u, e) := ⟨_, _, _, rfl⟩
  have hcs := gl_cases 1 l
  rw [hg] at hcs
  have hst := withL_start gi 1 l
  have hbad : (gl 1 l).2.2 ≠ 0 → getL 1 gi l = ([], 0, (gl 1 l).2.2) := fun h => by unfold getL; rw [if_pos h]
  rw [hg] at hst hbad
  have HC := Lib.hid (getLength_at hg A c w (by omega) (by omega) (by omega) hr)
  obtain ⟨i0, hi, hz0, hz1, hz2⟩ := info_parts int_info
  clear hg
  rcases hcs with h | h | h
  · obtain ⟨h0, h1, h2, _, _⟩ := h
    have h0' : e = 0 := h0
    subst h0'
    have h1' : 1 ≤ u := h1
    have h2' : u + n ≤ l.length := by have : u + 1 * n ≤ l.length := h2; omega
    have HR := Lib.hid (hst rfl)
    obtain ⟨w1, hmk, hown0, hg0⟩ := run_make_own (P := Try.prog) (w := w) w.heap.size 22 3 i0 _ 1 Try.underlying22 hi hz0 hz1 .i64 .i64 n (by rw [hz2]; omega) (by unfold maxLen; omega) (Nat.le_refl _)
    have hb1 : Below w.heap.size w w1 := (Below.refl _ _).grown hg0 (Nat.le_refl _) (by simp)
    have HA := Lib.hid hr
    clear h0 h1 h2 hst hbad hr hi hz0 hz1 hz2 hg0
    go_enter Try.func46, Try.ntmps46
    go_wp2_with (go_at_call 45; refine HC.out.mono ?_; rintro e w' ⟨rfl, rfl⟩)
    clear hmk
    go_loopw [12, 10, 29] (fun v at_ i wr => ∃ (k d : Nat) (ys : List Int), i = .int .i64 k ∧ k ≤ n ∧ at_ = .int .i64 d ∧ 1 ≤ d ∧ d ≤ l.length ∧ ys.length = k ∧
        Hid (getL 1 gi l = withL ys d (gls gi (n - k) (l.drop d))) ∧ wr.ownsRow w.heap.size 3 1 v ys.length (ys.map (Value.int .i64)) ∧ w.heap.size ≤ wr.heap.size ∧ Below w.heap.size w wr)
      (fun _ _ i _ => n - (intOf i).toNat)
    case atStart => exact ⟨0, u, [], rfl, by omega, rfl, by omega, by omega, rfl, by rw [Nat.sub_zero]; exact HR, hown0, hb1.size, hb1⟩
    case round =>
      obtain ⟨k, d, ys, rfl, hk, rfl, hd1, hd, hyl, HI, ho, hbs, hb⟩ := hrel
      clear HC HR hown0 hb1
      have HL := Lib.hid hyl
      clear hyl
      by_cases hlt : k < n
      · have hrw := HA.out.below hb
        obtain ⟨A1, cp, HA1, hr1, hcp⟩ := cut_at hrw hc hd
        obtain ⟨x, q, e, hq⟩ : ∃ x q e, gi (l.drop d) = (x, q, e) := ⟨_, _, _, rfl⟩
        have hat := gi_at (l.drop d)
        rw [hq, List.length_drop] at hat
        have hnk : n - k = (n - (k + 1)) + 1 := by omega
        have hI := HI.out
        rw [hnk] at hI
        have hcall := getInt_at hq A1 cp wr (by rw [List.length_drop]; omega) hr1
        rw [List.length_drop] at hcall
        have HD := Lib.hid hcall
        clear hcall hrw hr1 hnk
        rcases hat with h | h
        · obtain ⟨h0, h1, h2⟩ := h
          have h0' : e = 0 := h0
          subst h0'
          have h1' : 1 ≤ q := h1
          have h2' : q ≤ l.length - d := h2
          have hsp := withL_step hI hq
          rw [List.drop_drop] at hsp
          have HS := Lib.hid hsp
          clear hI hq hsp h0 h1 h2
          have hyn : ys.length ≤ 1099511627776 := by have := HL.out; omega
          rcases HA1.out with ⟨he, _, _⟩ | ⟨hne, rfl, rfl⟩
          · omega
          · clear HA1
            go_wp2_with (first | (go_at_call 24; refine HD.out.mono ?_; rintro e w' ⟨rfl, rfl⟩) | (at_builtin; refine wpList_push1 rfl (.tmp 43) (.tmp 45) 22 3 rfl Try.underlying22 _ _ int_info rfl w.heap.size _ _ _ rfl ho _ rfl hbs hyn (by decide) rfl ?_; intro v2 w2 ho2 hb2))
            go_roundw
            case rel =>
              refine ⟨k + 1, d + q, ys ++ [x], by go_num, by omega, by go_num, by omega, by omega, by rw [List.length_append, HL.out]; rfl, HS.out, ?_, Nat.le_trans hbs hb2.size, hb.trans hb2⟩
              rw [List.length_append, List.map_append]
              exact ho2
            case measure => simp [intOf]; omega
        · obtain ⟨hx1, hx2, he⟩ := h
          have he2 : e = 10 ∨ e = 11 := he
          have hx1' : x = 0 := hx1
          have hx2' : q = 0 := hx2
          have h0 : e ≠ 0 := by omega
          have HS := Lib.hid (withL_stop hI (by rw [hq]) h0)
          subst hx1' hx2'
          clear hI hq hx1 hx2 he h0
          rcases HA1.out with ⟨hcd, rfl, rfl⟩ | ⟨hne, rfl, rfl⟩
          · have hz : l.length - d = 0 := by omega
            rw [hz] at HD
            clear HA1 hz
            subst hcd
            rcases he2 with rfl | rfl
            all_goals
              go_wp2_with (go_at_call 24; refine HD.out.mono ?_; rintro e w' ⟨rfl, rfl⟩)
              go_ret3
              exact ⟨_, by rw [HS.out]; rfl, by rw [HS.out]; exact World.ownsRow_nil _ _ _ _, hb⟩
          clear HA1
          rcases he2 with rfl | rfl
          all_goals
            go_wp2_with (go_at_call 24; refine HD.out.mono ?_; rintro e w' ⟨rfl, rfl⟩)
            go_ret3
            exact ⟨_, by rw [HS.out]; rfl, by rw [HS.out]; exact World.ownsRow_nil _ _ _ _, hb⟩
      · have hkn : n - k = 0 := by omega
        have hI := HI.out
        rw [hkn] at hI
        have hfin : getL 1 gi l = (ys, d, 0) := by rw [hI]; simp [withL, gls]
        have HF := Lib.hid hfin
        clear hI hfin hkn
        go_wp2
        go_ret3
        exact ⟨_, by rw [HF.out]; rfl, by rw [HF.out]; exact ho, hb⟩
  all_goals
    injection h with a b; injection b with b d
    subst a; subst b; subst d
    have HR := Lib.hid (hbad (by decide))
    clear hst hbad hr hi hz0 hz1 hz2
    go_enter Try.func46, Try.ntmps46
    go_wp2_with (go_at_call 45; refine HC.out.mono ?_; rintro e w' ⟨rfl, rfl⟩)
    go_ret3
    exact ⟨_, by rw [HR.out]; rfl, by rw [HR.out]; exact World.ownsRow_nil _ _ _ _, Below.refl _ _⟩

set_option maxHeartbeats 400000 in
theorem getInts_any (A : Option Addr) (c : Nat) (l : List UInt8) (w : World) (hc : l.length ≤ c) (hl : l.length ≤ 1099511627776) (hr : Rd w A (bc l)) :
    Calls Try.prog 28 #[.slice A l.length c] w fun e w' => ∃ v, e = .returned (.tuple #[v, .int .i64 ((getL 1 gi l).2.1 : Nat), .int .i64 ((getL 1 gi l).2.2 : Nat)]) ∧
      w'.ownsRow w.heap.size 3 1 v (getL 1 gi l).1.length ((getL 1 gi l).1.map (Value.int .i64)) ∧ Below w.heap.size w w' := by
  have HC := Lib.hid (getListInts_any A c l w hc hl hr)
  clear hr
  go_enter Try.func28, Try.ntmps28
  go_wp2_with (go_at_call 46; refine HC.out.mono ?_; rintro e w' ⟨v, rfl, ho, hb⟩)
  go_ret3
  exact ⟨v, rfl, ho, hb⟩
end Go.Proofs.Ytpobblcokkgijaa
