/- Lists of blocks as they are read; whether two are the same. -/
import Derived.Test.YtmifpaafpmibmaaDoorCJ
namespace Go.Proofs.YtmifpaafpmibmaaDoor
open Go.RowKit Hm Wm Cm

/-- Any three integers of a block. -/
abbrev I3 := Int × Int × Int
def cI (x : I3) : List Value := b3 x.1 x.2.1 x.2.2
def vI (x : I3) : Value := .agg (cI x).toArray
def toI (x : Bk) : I3 := (x.1, x.2.1, x.2.2)
def bI (l : List I3) : List Value := l.flatMap cI
theorem bI_app (l m : List I3) : bI (l ++ m) = bI l ++ bI m := by simp [bI]
theorem bI_len (l : List I3) : (bI l).length = l.length * 3 := by
  induction l with
  | nil => rfl
  | cons x l ih =>
    have : bI (x :: l) = cI x ++ bI l := by simp [bI]
    rw [this, List.length_append, ih]
    simp [cI]
    omega
theorem bI_bL (l : List Bk) : bI (l.map toI) = bL l := by
  unfold bI bL
  rw [List.flatMap_map]
  rfl
theorem cI_one (x : I3) : ∀ v ∈ cI x, v.oneCell' = true := b_one _ _ _
theorem bin_under : Tryd.prog.underlying 23 = some (.struct (Tryd.prog.fieldsOf 23)) := by kernel_rfl
theorem bI_at (l : List I3) {k : Nat} (hk : k < l.length) (j : Nat) (u : Value) (hj : (cI l[k])[j]? = some u) : (bI l)[k * 3 + j]? = some u := by
  have hjl : j < (cI l[k]).length := by
    rcases Nat.lt_or_ge j (cI l[k]).length with h1 | h1
    · exact h1
    · rw [List.getElem?_eq_none h1] at hj; cases hj
  have e : l = l.take k ++ (l[k] :: l.drop (k + 1)) := by rw [← List.drop_eq_getElem_cons hk, List.take_append_drop]
  have e2 : bI l = bI (l.take k) ++ (cI l[k] ++ bI (l.drop (k + 1))) := by
    conv => lhs; rw [e, bI_app]
    rfl
  have hl : (bI (l.take k)).length = k * 3 := by rw [bI_len, List.length_take]; omega
  rw [e2, List.getElem?_append_right (by omega), hl, show k * 3 + j - k * 3 = j from by omega, List.getElem?_append_left hjl]; exact hj
/-- A slice of blocks reads as a list. -/
def RdB (w : World) (A : Option Addr) (l : List I3) : Prop := Rd w A (bI l)
theorem RdB.below {w w' : World} {A : Option Addr} {l : List I3} (h : RdB w A l) (hb : Below w.heap.size w w') : RdB w' A l := Rd.below h hb
theorem Row.reads {W : World} {base : Nat} {v : Value} {l : List Bk} (h : Row W base v l) : ∃ A c, v = .slice A l.length c ∧ l.length ≤ c ∧ RdB W A (l.map toI) := by
  obtain ⟨A, c, rfl, hc⟩ := h.form
  refine ⟨A, c, rfl, hc, ?_⟩
  unfold RdB
  rw [bI_bL]
  exact Rd.of_row h.1
theorem RdB.range {w : World} {A : Option Addr} {l : List I3} (h : RdB w A l) {k : Nat} (hk : k < l.length) : ∃ b off, A = some ⟨b, off, none⟩ ∧ w.rangeAt b (off + k * 3) (cI l[k]) := by
  have hne : bI l ≠ [] := by intro e; have := bI_len l; rw [e] at this; simp at this; omega
  obtain ⟨b, off, hA, hc⟩ := h hne
  refine ⟨b, off, hA, fun j u hu => ?_⟩
  have := hc (k * 3 + j) u (bI_at l hk j u hu)
  rw [← Nat.add_assoc] at this; exact this

theorem bn_elem : Tryd.prog.elem 33 = 23 := by kernel_rfl
theorem bn_sizeOf (W : World) : (sizeOf 23).run Tryd.prog W = .ok 3 W := by
  cases hq : Tryd.prog.info? 23 with
  | none => have h := bn_size; rw [hq] at h; cases h
  | some i =>
    have h := bn_size
    rw [hq] at h
    have h2 : i.size = 3 := by simpa using h
    simp [sizeOf, typeInfo, hq, h2]
theorem run_atB (b off n c k : Nat) (hk : k < n) (W : World) : (Instr.indexAt 33 (.slice (some ⟨b, off, none⟩) n c) (.int .i64 k)).run Tryd.prog W = .ok (.pointer (some ⟨b, off + k * 3, none⟩)) W := by
  refine (run_indexAt_slice W 33 ⟨b, off, none⟩ n c .i64 k (by rw [bn_elem]; exact bs_under)).trans ?_
  rw [if_pos ⟨by omega, by omega⟩, bn_elem, bn_sizeOf, Result.andThen_ok, Int.toNat_natCast, Addr.add_mid]
theorem exec_atB {oi : Oper} {a : Act} {w : World} (x y : Operand) (ho : oi.op = .indexAddr 33 x y) (b off n c k : Nat) (hk : k < n) (hx : a.eval x = .slice (some ⟨b, off, none⟩) n c) (hy : a.eval y = .int .i64 k) : (execOp a.eval oi).run Tryd.prog w = .ok (.value (.pointer (some ⟨b, off + k * 3, none⟩))) w :=
  exec_indexAddr _ x y ho _ _ _ hx hy (run_atB b off n c k hk w)
theorem exec_loadB {oi : Oper} {a : Act} {w : World} (x : Operand) (ho : oi.op = .load 23 x) (b o : Nat) (d : I3) (hx : a.eval x = .pointer (some ⟨b, o, none⟩)) (hc : w.rangeAt b o (cI d)) : (execOp a.eval oi).run Tryd.prog w = .ok (.value (vI d)) w :=
  exec_load 23 x ho _ _ hx (run_loadAt_mid w b o _ (cI d) _ hc bin_under rfl bn_size)
theorem bn_neq (x y : I3) (W : World) : (binOp .neq 23 (vI x) (vI y)).run Tryd.prog W = .ok (.bool (!decide (x = y))) W := by
  obtain ⟨l, f, t⟩ := x
  obtain ⟨a, b, c⟩ := y
  have u1 := Tryd.underlying3
  have a1 := Tryd.isAgg3
  have z1 := Tryd.sizeOf3
  have hS : Tryd.prog.underlying 23 = some (.struct (Tryd.prog.fieldsOf 23)) := by kernel_rfl
  have hp : Tryd.prog.stoodInHeld 23 = false := by kernel_rfl
  unfold vI cI
  rw [run_neq_struct, show (10000 : Nat) = 9999 + 1 from rfl, run_equalIn_agg W 9999 23 _ _ hS hp]
  simp only [Program.fieldsOf, Tryd.underlying23]
  go_simp
  by_cases h1 : l = a <;> by_cases h2 : f = b <;> by_cases h3 : t = c <;> simp [h1, h2, h3]
theorem exec_neqB {oi : Oper} {a : Act} {w : World} (x y : Operand) (rt : TypeId) (ho : oi.op = .binOp .neq 23 x y rt) (d e : I3) (hx : a.eval x = vI d) (hy : a.eval y = vI e) : (execOp a.eval oi).run Tryd.prog w = .ok (.value (.bool (!decide (d = e)))) w :=
  exec_bin .neq 23 rt x y ho _ _ _ hx hy (bn_guard _ _ _ _ _ _) (bn_neq d e w)
theorem RdB.at {w : World} {A : Option Addr} {l : List I3} (h : RdB w A l) {k : Nat} {x : I3} (hx : l[k]? = some x) : ∃ b off, A = some ⟨b, off, none⟩ ∧ w.rangeAt b (off + k * 3) (cI x) := by
  obtain ⟨hk, rfl⟩ := List.getElem?_eq_some_iff.1 hx
  exact h.range hk
theorem take_more {α : Type} {a b : List α} {k : Nat} {x y : α} (h : a.take k = b.take k) (ha : a[k]? = some x) (hb : b[k]? = some y) : a.take (k + 1) = b.take (k + 1) ↔ x = y := by
  obtain ⟨h1, h2⟩ := List.getElem?_eq_some_iff.1 ha
  obtain ⟨h3, h4⟩ := List.getElem?_eq_some_iff.1 hb
  rw [List.take_succ_eq_append_getElem h1, List.take_succ_eq_append_getElem h3, h, h2, h4]
  constructor
  · intro e; simpa using e
  · rintro rfl; rfl

set_option maxRecDepth 100000 in
set_option maxHeartbeats 1000000 in
theorem same_any (A B : Option Addr) (c d : Nat) (la lb : List I3) (w : World) (ha : RdB w A la) (hb : RdB w B lb) (hl : la.length ≤ 2 ^ 41) :
    Calls Tryd.prog 13 #[.slice A la.length c, .slice B lb.length d] w fun e w' => e = .returned (.bool (decide (la = lb))) ∧ Below w.heap.size w w' := by
  by_cases hlen : la.length = lb.length
  case neg =>
    have hne : decide (la = lb) = false := decide_eq_false (fun e => hlen (by rw [e]))
    have d0 : ((la.length : Int) != lb.length) = true := by rw [bne_iff_ne]; omega
    have d1 : (la.length != lb.length) = true := by rw [bne_iff_ne]; omega
    have d2 : (la.length == lb.length) = false := by rw [beq_eq_false_iff_ne]; omega
    have d3 : ((la.length : Int) == lb.length) = false := by rw [beq_eq_false_iff_ne]; omega
    rw [hne]
    clear ha hb hl hlen hne
    go_enter Tryd.func13, Tryd.ntmps13
    go_wp2
    go_ret
    exact ⟨rfl, Below.refl _ _⟩
  case pos =>
    have HA := Lib.hid ha
    have HB := Lib.hid hb
    have HLE := Lib.hid hlen
    rw [← hlen]
    clear ha hb hlen
    go_enter Tryd.func13, Tryd.ntmps13
    go_wp2
    go_loopw [5] (fun i wr => ∃ k : Nat, i = .int .i64 k ∧ k ≤ la.length ∧ Hid (la.take k = lb.take k) ∧ Hid (Below w.heap.size w wr)) (fun i _ => la.length - (intOf i).toNat)
    case atStart => exact ⟨0, rfl, Nat.zero_le _, rfl, Below.refl _ _⟩
    case round =>
      obtain ⟨k, rfl, hk, HT, HW⟩ := hrel
      by_cases hlt : k < la.length
      · have hltb : k < lb.length := by rw [← HLE.out]; exact hlt
        obtain ⟨x, hx⟩ : ∃ x, la[k]? = some x := ⟨la[k], List.getElem?_eq_getElem hlt⟩
        obtain ⟨y, hy⟩ : ∃ y, lb[k]? = some y := ⟨lb[k], List.getElem?_eq_getElem hltb⟩
        obtain ⟨b1, o1, rfl, hc1⟩ := (HA.out.below HW.out).at hx
        obtain ⟨b2, o2, rfl, hc2⟩ := (HB.out.below HW.out).at hy
        have HTM := Lib.hid (take_more HT.out hx hy)
        have HNE := Lib.hid (show x ≠ y → la ≠ lb from by rintro h rfl; rw [hx] at hy; injection hy with hy; exact h hy)
        have HC1 := Lib.hid hc1
        have HC2 := Lib.hid hc2
        clear hx hy hc1 hc2 hltb
        have d3 : decide ((k : Int) < (la.length : Int)) = true := decide_eq_true (by omega)
        go_wp2_with fail
        refine wp_region_held_drew (S := fun W => Below wr.heap.size wr W) (by kernel_rfl) (Below.refl _ _).drew (fun hS => ?_)
        generalize wr.drew = w4 at hS ⊢
        refine reg_takeG (i := 0) (some 17) rfl rfl rfl (by kernel_rfl) (by kernel_rfl) (by kernel_rfl) (.slice (some ⟨b1, o1, none⟩) la.length c) (fun _ _ _ h => h) (fun W hW => exec_move (.tmp 0) rfl _ rfl) hS ?_
        go_frame
        refine reg_takeG (i := 1) (some 18) rfl rfl rfl (by kernel_rfl) (by kernel_rfl) (by kernel_rfl) (.int .i64 k) (fun _ _ _ h => h) (fun W hW => exec_move (.tmp 5) rfl _ rfl) hS ?_
        go_frame
        refine reg_takeG (i := 2) (some 19) rfl rfl rfl (by kernel_rfl) (by kernel_rfl) (by kernel_rfl) (.pointer (some ⟨b1, o1 + k * 3, none⟩)) (fun _ _ _ h => h) (fun W hW => exec_atB (.tmp 17) (.tmp 18) rfl b1 o1 _ c k hlt rfl rfl) hS ?_
        go_frame
        refine reg_takeG (i := 3) (some 20) rfl rfl rfl (by kernel_rfl) (by kernel_rfl) (by kernel_rfl) (vI x) (fun _ _ _ h => h) (fun W hW => exec_loadB (.tmp 19) rfl _ _ x rfl (range_below' HC1.out hW)) hS ?_
        go_frame
        refine reg_takeG (i := 4) (some 21) rfl rfl rfl (by kernel_rfl) (by kernel_rfl) (by kernel_rfl) (.slice (some ⟨b2, o2, none⟩) la.length d) (fun _ _ _ h => h) (fun W hW => exec_move (.tmp 1) rfl _ rfl) hS ?_
        go_frame
        refine reg_takeG (i := 5) (some 22) rfl rfl rfl (by kernel_rfl) (by kernel_rfl) (by kernel_rfl) (.int .i64 k) (fun _ _ _ h => h) (fun W hW => exec_move (.tmp 5) rfl _ rfl) hS ?_
        go_frame
        refine reg_takeG (i := 6) (some 23) rfl rfl rfl (by kernel_rfl) (by kernel_rfl) (by kernel_rfl) (.pointer (some ⟨b2, o2 + k * 3, none⟩)) (fun _ _ _ h => h) (fun W hW => exec_atB (.tmp 21) (.tmp 22) rfl b2 o2 _ d k hlt rfl rfl) hS ?_
        go_frame
        refine reg_takeG (i := 7) (some 24) rfl rfl rfl (by kernel_rfl) (by kernel_rfl) (by kernel_rfl) (vI y) (fun _ _ _ h => h) (fun W hW => exec_loadB (.tmp 23) rfl _ _ y rfl (range_below' HC2.out hW)) hS ?_
        go_frame
        have HW4 := Lib.hid (HW.out.trans (hS.mono HW.out.size))
        refine reg_valueG (i := 8) (some 25) rfl rfl rfl (by kernel_rfl) (.bool (!decide (x = y))) (exec_neqB (.tmp 20) (.tmp 24) _ rfl x y rfl rfl) hS ?_
        go_frame
        refine wpAnyH_done (by kernel_rfl) ?_ _
        clear hS
        by_cases he : decide (x = y) = true
        · have HE := Lib.hid (HTM.out.2 (of_decide_eq_true he))
          rw [he]
          clear he
          go_wp2
          go_roundw
          case rel => exact ⟨k + 1, by go_num, by omega, HE.out, HW4⟩
          case measure => simp [intOf]; omega
        · have hf : decide (x = y) = false := by simpa using he
          have HE := Lib.hid (HNE.out (fun e => he (decide_eq_true e)))
          rw [hf]
          clear he hf
          go_wp2
          go_ret
          exact ⟨by rw [decide_eq_false HE.out]; rfl, HW4.out⟩
      · obtain rfl : k = la.length := by omega
        have HE : Hid (la = lb) := by
          have := HT.out
          rw [List.take_of_length_le (Nat.le_refl _), List.take_of_length_le (by rw [← HLE.out]; exact Nat.le_refl _)] at this
          exact this
        have d3 : decide ((la.length : Int) < (la.length : Int)) = false := decide_eq_false (by omega)
        go_wp2
        go_ret
        exact ⟨by rw [decide_eq_true HE.out]; rfl, HW.out⟩
end Go.Proofs.YtmifpaafpmibmaaDoor
