/- addTimes and takeTimes: rows changed in place. -/
import Derived.Test.YtkjnfobaoaaopaaGreatDoorN1
import Derived.Shelf.Spec.BitsCarry
namespace Go.Proofs.YtkjnfobaoaaopaaGreatDoor
open Go.RowKit Hm Wm Wn

theorem Only.refl (g : Nat) (w : World) : Only g w w := ⟨rfl, rfl, rfl, rfl, fun _ _ => rfl⟩
theorem Only.trans {g : Nat} {w w1 w2 : World} (h1 : Only g w w1) (h2 : Only g w1 w2) : Only g w w2 :=
  ⟨h2.os.trans h1.os, h2.tape.trans h1.tape, h2.output.trans h1.output, h2.size.trans h1.size, fun k hk => (h2.block k hk).trans (h1.block k hk)⟩
/-- An address lies outside a block. -/
def Off (g : Nat) (A : Option Addr) : Prop := ∀ a, A = some a → a.block ≠ g
theorem RdW.only {g : Nat} {w w' : World} {A : Option Addr} {l : List Nat} (h : RdW w A l) (ho : Only g w w') (hA : l = [] ∨ Off g A) : RdW w' A l := by
  rcases hA with rfl | hA
  · exact Rd.nil _ _
  intro hne
  obtain ⟨b, off, rfl, hc⟩ := h hne
  refine ⟨b, off, rfl, fun k u hu => ?_⟩
  have h1 := hc k u hu
  have hb := ho.block b (hA _ rfl)
  unfold World.cell? at h1 ⊢
  rw [hb]
  exact h1
theorem ws_set (l : List Nat) (n v : Nat) : (ws l).set n (wu v) = ws (l.set n v) := (List.map_set ..).symm
theorem set_mid (pre dn rest post : List Nat) (x s : Nat) : (pre ++ (dn ++ x :: rest) ++ post).set (pre.length + dn.length) s = pre ++ ((dn ++ [s]) ++ rest) ++ post := by
  have e : pre ++ (dn ++ x :: rest) ++ post = (pre ++ dn) ++ x :: (rest ++ post) := by simp
  rw [e, ← List.length_append, List.set_append_right _ _ (Nat.le_refl _), Nat.sub_self, List.set_cons_zero]
  simp
theorem get_mid (pre dn rest post : List Nat) (x : Nat) : (pre ++ (dn ++ x :: rest) ++ post)[pre.length + dn.length]? = some x := by
  have e : pre ++ (dn ++ x :: rest) ++ post = (pre ++ dn) ++ x :: (rest ++ post) := by simp
  rw [e, ← List.length_append, List.getElem?_append_right (Nat.le_refl _), Nat.sub_self]
  rfl
/-- A word is stored into a block known whole. -/
theorem wpList_store_w {w : World} {ops : Array Oper} {rest : List Oper} {op : Oper} {a : Act} {Q : Exit → Act → World → Prop} (hgd : op.guard = none) (x y : Operand) (ho : op.op = .store 53 x y)
    (g o : Nat) (t : TypeId) (l : List Nat) (v : Nat) (hx : a.eval x = .pointer (some ⟨g, o, none⟩)) (hy : a.eval y = .int .u64 v) (hb : Blk w g t (ws l)) (hl : o < l.length)
    (h : ∀ w', Hid (Blk w' g t (ws (l.set o v))) → Only g w w' → wpList Tryz.prog ops Q rest (a.put op.dst undef) w') : wpList Tryz.prog ops Q (op :: rest) a w := by
  have hfit : o + 1 ≤ (ws l).length := by rw [ws_len]; omega
  have hs := run_storeCells_at Tryz.prog g o t [wu v] 0 (ws l).toArray w hb (by simpa using hfit) (by intro u hu; rw [List.mem_singleton.1 hu]; rfl)
  have hi : (Tryz.prog.info? 53).map (·.size) = some 1 := by kernel_rfl
  have hrun : (Instr.storeAt 53 (.pointer (some ⟨g, o, none⟩)) (wu v)).run Tryz.prog w = .ok () (w.setRow g (splice (ws l) o [wu v]).toArray) := by
    cases hq : Tryz.prog.info? 53 with
    | none => simp [hq] at hi
    | some i =>
      have hsz : i.size = 1 := by simpa [hq] using hi
      have e : (splice (ws l) o [wu v]).toArray = ((ws l).toArray.toList.take (o + 0) ++ [wu v] ++ (ws l).toArray.toList.drop (o + 0 + [wu v].length)).toArray := by simp [splice]
      rw [e, ← hs]
      simp [Instr.storeAt, Instr.sureAddr, storeVar, sizeOf, typeInfo, hq, Value.cells, hsz, wu]
  have hsp : splice (ws l) o [wu v] = ws (l.set o v) := by
    rw [← ws_set]
    unfold splice
    rw [List.set_eq_take_append_cons_drop, if_pos (by rw [ws_len]; exact hl)]
    simp
  rw [hsp] at hrun
  refine wpList_plain hgd fun K hK => ?_
  unfold Oper.wp execOp
  simp only [ho, hx, hy, Sem.run_bind]
  have e2 : (Value.int IntKind.u64 (v : Int)) = wu v := rfl
  rw [e2, hrun]
  exact hK _ _ (h _ (Lib.hid (setRow_heap w g _ _ t _ hb)) (Only.setRow w g _))

theorem add_step {x y f c q r s t : Nat} (hq : (y * f + c) / B = q) (hr : (y * f + c) % B = r) (hs : (x + r) % B = s) (ht : (x + r) / B = t) : (x + (y * f + c)) % B = s ∧ (x + (y * f + c)) / B = t + q := by
  have h := Nat.div_add_mod (y * f + c) B
  rw [hq, hr] at h
  rw [← h, ← hs, ← ht]
  constructor
  · rw [show x + (B * q + r) = (x + r) + B * q by omega, Nat.add_mul_mod_self_left]
  · rw [show x + (B * q + r) = (x + r) + B * q by omega, Nat.add_mul_div_left _ _ B_pos]
/-- What stands in the loop of addTimes. -/
def AdR (w : World) (g : Nat) (pre X post Y : List Nat) (f : Nat) (cv iv : Value) (wr : World) : Prop :=
  ∃ (i c : Nat) (dn : List Nat), iv = .int .i64 i ∧ cv = .int .u64 c ∧ i ≤ X.length ∧ c ≤ 18446744073709551615 ∧ dn.length = i ∧
    Hid ((dn ++ (addTL (X.drop i) (Y.drop i) f c).1, (addTL (X.drop i) (Y.drop i) f c).2) = addTL X Y f 0) ∧ Hid (Blk wr g 53 (ws (pre ++ (dn ++ X.drop i) ++ post))) ∧ Hid (Only g w wr)
set_option maxRecDepth 100000 in
set_option maxHeartbeats 400000 in
theorem addT_any (g : Nat) (pre X post Y : List Nat) (cap : Nat) (A2 : Option Addr) (c2 f : Nat) (w : World) (hk : Blk w g 53 (ws (pre ++ X ++ post))) (hr : RdW w A2 Y) (hA : Y = [] ∨ Off g A2) (hX : Dig X) (hY : Dig Y) (hf : f < B) (hl : X.length ≤ 1000000) :
    Calls Tryz.prog 54 #[.slice (some ⟨g, pre.length, none⟩) X.length cap, .slice A2 Y.length c2, .int .u64 f] w fun e w' => e = .returned (.int .u64 (addTL X Y f 0).2) ∧ Blk w' g 53 (ws (pre ++ (addTL X Y f 0).1 ++ post)) ∧ Only g w w' := by
  have HR := Lib.hid hr
  have HA := Lib.hid hA
  have HX := Lib.hid hX
  have HY := Lib.hid hY
  have HF := Lib.hid hf
  have HK := Lib.hid hk
  clear hr hA hX hY hf hk
  go_enter Tryz.func54, Tryz.ntmps54
  go_wp2_with fail
  go_loopw [6, 12] (AdR w g pre X post Y f) (fun _ iv _ => X.length - (intOf iv).toNat)
  case atStart => exact ⟨0, 0, [], rfl, rfl, Nat.zero_le _, by omega, rfl, Lib.hid (by simp), Lib.hid (by simpa using HK.out), Lib.hid (Only.refl _ _)⟩
  case round =>
    obtain ⟨i, c, dn, rfl, rfl, hi, hc, hdn, HAD, HB, HO⟩ := hrel
    by_cases hlt : i < X.length
    · have d1 : decide ((i : Int) < (X.length : Int)) = true := decide_eq_true (by omega)
      have d1' : decide (i < X.length) = true := decide_eq_true hlt
      have hxd : X.drop i = X[i] :: X.drop (i + 1) := List.drop_eq_getElem_cons hlt
      have hxB := HX.out _ (List.getElem_mem hlt)
      obtain ⟨x, hx⟩ : ∃ x, X[i] = x := ⟨_, rfl⟩
      rw [hx] at hxd hxB
      have hyd : (Y.drop i).headD 0 = Y.getD i 0 := by simp [List.headD_eq_head?_getD, List.head?_drop, List.getD_eq_getElem?_getD]
      have hyt : (Y.drop i).tail = Y.drop (i + 1) := List.tail_drop
      have hP := product_any A2 c2 Y i f c wr (HR.out.only HO.out HA.out) HY.out HF.out (Nat.lt_succ_of_le hc)
      obtain ⟨y, hy⟩ : ∃ y, Y.getD i 0 = y := ⟨_, rfl⟩
      rw [hy] at hP hyd
      obtain ⟨q, hq⟩ : ∃ q, (y * f + c) / B = q := ⟨_, rfl⟩
      obtain ⟨r, hr⟩ : ∃ r, (y * f + c) % B = r := ⟨_, rfl⟩
      obtain ⟨s, hs⟩ : ∃ s, (x + r) % B = s := ⟨_, rfl⟩
      obtain ⟨t, ht⟩ : ∃ t, (x + r) / B = t := ⟨_, rfl⟩
      obtain ⟨h1, h2⟩ := add_step hq hr hs ht
      have hyB : y < B := by rw [← hyd]; exact headD_lt (HY.out.drop i)
      have hnc := carry_lt hxB hyB HF.out (Nat.lt_succ_of_le hc)
      rw [h2] at hnc
      have hnc' : t + q ≤ 18446744073709551615 := Nat.le_of_lt_succ hnc
      rw [hq, hr] at hP
      have had := HAD.out
      rw [hxd] at had
      have hstep : addTL (x :: X.drop (i + 1)) (Y.drop i) f c = (s :: (addTL (X.drop (i + 1)) (Y.drop (i + 1)) f (t + q)).1, (addTL (X.drop (i + 1)) (Y.drop (i + 1)) f (t + q)).2) := by
        simp only [addTL]
        rw [hyd, hyt, h1, h2]
      rw [hstep] at had
      have HAD2 : Hid (((dn ++ [s]) ++ (addTL (X.drop (i + 1)) (Y.drop (i + 1)) f (t + q)).1, (addTL (X.drop (i + 1)) (Y.drop (i + 1)) f (t + q)).2) = addTL X Y f 0) := Lib.hid (by rw [← had]; simp)
      have hB := HB.out
      rw [hxd] at hB
      have hgm := get_mid pre dn (X.drop (i + 1)) post x
      have hst := set_mid pre dn (X.drop (i + 1)) post x s
      rw [hdn] at hgm hst
      have hlen : pre.length + i < (pre ++ (dn ++ x :: X.drop (i + 1)) ++ post).length := by
        rcases Nat.lt_or_ge (pre.length + i) (pre ++ (dn ++ x :: X.drop (i + 1)) ++ post).length with h | h
        · exact h
        · rw [List.getElem?_eq_none h] at hgm; cases hgm
      have hcell : wr.cell? ⟨g, pre.length + i, none⟩ = some (.int .u64 x) := by
        rw [hB.cell (pre.length + i)]
        unfold ws
        rw [List.getElem?_map, hgm]
        rfl
      obtain ⟨L, hL⟩ : ∃ L, pre ++ (dn ++ x :: X.drop (i + 1)) ++ post = L := ⟨_, rfl⟩
      rw [hL] at hB hst hlen
      have HBL := Lib.hid hB
      have HST := Lib.hid hst
      have HLN := Lib.hid hlen
      have HP := Lib.hid hP
      have HS := Lib.hid hs
      have HT := Lib.hid ht
      have HDN := Lib.hid (show (dn ++ [s]).length = i + 1 by rw [List.length_append, hdn]; rfl)
      clear hxd hx hyd hyt hP hy hq hr hs ht h1 h2 hyB hnc had hstep hB hgm hst hlen hL HAD HB hdn hxB
      go_wp2_with fail
      refine HP.out.mono ?_
      rintro e w' ⟨rfl, rfl⟩
      go_wp2_with (first | (refine wpList_run 31 rfl rfl _ (exec_add64 (.tmp 29) (.tmp 30) _ rfl x r s t HS.out HT.out rfl rfl) ?_) | (refine wpList_store_w rfl (.tmp 34) (.tmp 32) rfl g (pre.length + i) _ L s rfl rfl HBL.out HLN.out ?_; intro w5 HB5 ho5; have HO5 := Lib.hid (HO.out.trans ho5); clear ho5))
      go_roundw
      case rel => exact ⟨i + 1, t + q, dn ++ [s], by go_num, by go_num, by omega, hnc', HDN.out, HAD2, Lib.hid (by rw [← HST.out]; exact HB5.out), HO5⟩
      case measure => simp [intOf]; omega
    · obtain rfl : i = X.length := by omega
      have d1 : decide ((X.length : Int) < (X.length : Int)) = false := decide_eq_false (by omega)
      have had := HAD.out
      have hB := HB.out
      rw [List.drop_length] at had hB
      simp only [addTL, List.append_nil] at had hB
      have HE := Lib.hid (congrArg Prod.snd had)
      have HE1 := Lib.hid (congrArg Prod.fst had)
      have HBL := Lib.hid hB
      clear had hB HAD HB
      go_wp2
      go_ret
      exact ⟨by rw [← HE.out]; rfl, by rw [← HE1.out]; simpa [List.append_assoc] using HBL.out, HO.out⟩
theorem call_sub64 (m n : Nat) (w : World) : (callFunc 78 #[.int .u64 m, .int .u64 n, .int .u64 0]).run Tryz.prog w = .ok (.value (.tuple #[.int .u64 (((m + B - n) % B : Nat) : Int), .int .u64 ((if m < n then 1 else 0 : Nat) : Int)])) w := by
  have h0 : (Value.int IntKind.u64 0) = .int .u64 ((0 : Nat) : Int) := rfl
  rw [h0, run_callFunc_extern Tryz.func78 (by kernel_rfl) (by kernel_rfl) (by kernel_rfl) (e := sub64Entry) (by kernel_rfl), run_sub64 m n 0 (by omega)]
  rfl
theorem exec_sub64 {oi : Oper} {a : Act} {w : World} (x y : Operand) (ts : Array TypeId) (ho : oi.op = .call { callee := .value (.func 78), args := #[x, y, .const (.int .u64 0)], argTypes := ts }) (m n s t : Nat) (hs : (m + B - n) % B = s) (ht : (if m < n then 1 else 0) = t) (hx : a.eval x = .int .u64 m) (hy : a.eval y = .int .u64 n) :
    (execOp a.eval oi).run Tryz.prog w = .ok (.value (.tuple #[.int .u64 (s : Int), .int .u64 (t : Int)])) w := by
  subst hs
  subst ht
  exact exec_extern ho #[.int .u64 m, .int .u64 n, .int .u64 0] (by show [a.eval x, a.eval y, _] = _; rw [hx, hy]; rfl) _ (call_sub64 m n w)
/-- What stands in the loop of takeTimes. -/
def SuR (w : World) (g : Nat) (pre X post Y : List Nat) (f : Nat) (cv iv : Value) (wr : World) : Prop :=
  ∃ (i c : Nat) (dn : List Nat), iv = .int .i64 i ∧ cv = .int .u64 c ∧ i ≤ X.length ∧ c ≤ 18446744073709551615 ∧ dn.length = i ∧
    Hid ((dn ++ (subTL (X.drop i) (Y.drop i) f c).1, (subTL (X.drop i) (Y.drop i) f c).2) = subTL X Y f 0) ∧ Hid (Blk wr g 53 (ws (pre ++ (dn ++ X.drop i) ++ post))) ∧ Hid (Only g w wr)
set_option maxRecDepth 100000 in
set_option maxHeartbeats 400000 in
theorem subT_any (g : Nat) (pre X post Y : List Nat) (cap : Nat) (A2 : Option Addr) (c2 f : Nat) (w : World) (hk : Blk w g 53 (ws (pre ++ X ++ post))) (hr : RdW w A2 Y) (hA : Y = [] ∨ Off g A2) (hX : Dig X) (hY : Dig Y) (hf : f < B) (hl : X.length ≤ 1000000) :
    Calls Tryz.prog 55 #[.slice (some ⟨g, pre.length, none⟩) X.length cap, .slice A2 Y.length c2, .int .u64 f] w fun e w' => e = .returned (.int .u64 (subTL X Y f 0).2) ∧ Blk w' g 53 (ws (pre ++ (subTL X Y f 0).1 ++ post)) ∧ Only g w w' := by
  have HR := Lib.hid hr
  have HA := Lib.hid hA
  have HX := Lib.hid hX
  have HY := Lib.hid hY
  have HF := Lib.hid hf
  have HK := Lib.hid hk
  clear hr hA hX hY hf hk
  go_enter Tryz.func55, Tryz.ntmps55
  go_wp2_with fail
  go_loopw [6, 12] (SuR w g pre X post Y f) (fun _ iv _ => X.length - (intOf iv).toNat)
  case atStart => exact ⟨0, 0, [], rfl, rfl, Nat.zero_le _, by omega, rfl, Lib.hid (by simp), Lib.hid (by simpa using HK.out), Lib.hid (Only.refl _ _)⟩
  case round =>
    obtain ⟨i, c, dn, rfl, rfl, hi, hc, hdn, HAD, HB, HO⟩ := hrel
    by_cases hlt : i < X.length
    · have d1 : decide ((i : Int) < (X.length : Int)) = true := decide_eq_true (by omega)
      have d1' : decide (i < X.length) = true := decide_eq_true hlt
      have hxd : X.drop i = X[i] :: X.drop (i + 1) := List.drop_eq_getElem_cons hlt
      obtain ⟨x, hx⟩ : ∃ x, X[i] = x := ⟨_, rfl⟩
      rw [hx] at hxd
      have hyd : (Y.drop i).headD 0 = Y.getD i 0 := by simp [List.headD_eq_head?_getD, List.head?_drop, List.getD_eq_getElem?_getD]
      have hyt : (Y.drop i).tail = Y.drop (i + 1) := List.tail_drop
      have hP := product_any A2 c2 Y i f c wr (HR.out.only HO.out HA.out) HY.out HF.out (Nat.lt_succ_of_le hc)
      obtain ⟨y, hy⟩ : ∃ y, Y.getD i 0 = y := ⟨_, rfl⟩
      rw [hy] at hP hyd
      obtain ⟨q, hq⟩ : ∃ q, (y * f + c) / B = q := ⟨_, rfl⟩
      obtain ⟨r, hr⟩ : ∃ r, (y * f + c) % B = r := ⟨_, rfl⟩
      obtain ⟨s, hs⟩ : ∃ s, (x + B - r) % B = s := ⟨_, rfl⟩
      obtain ⟨t, ht⟩ : ∃ t, (if x < r then 1 else 0) = t := ⟨_, rfl⟩
      have hyB : y < B := by rw [← hyd]; exact headD_lt (HY.out.drop i)
      have hnc := borrow_lt (x := x) hyB HF.out (Nat.lt_succ_of_le hc)
      rw [hq, hr, ht, Nat.add_comm] at hnc
      have hnc' : t + q ≤ 18446744073709551615 := Nat.le_of_lt_succ hnc
      rw [hq, hr] at hP
      have had := HAD.out
      rw [hxd] at had
      have hstep : subTL (x :: X.drop (i + 1)) (Y.drop i) f c = (s :: (subTL (X.drop (i + 1)) (Y.drop (i + 1)) f (t + q)).1, (subTL (X.drop (i + 1)) (Y.drop (i + 1)) f (t + q)).2) := by
        simp only [subTL]
        rw [hyd, hyt, hq, hr, hs, ht, Nat.add_comm q t]
      rw [hstep] at had
      have HAD2 : Hid (((dn ++ [s]) ++ (subTL (X.drop (i + 1)) (Y.drop (i + 1)) f (t + q)).1, (subTL (X.drop (i + 1)) (Y.drop (i + 1)) f (t + q)).2) = subTL X Y f 0) := Lib.hid (by rw [← had]; simp)
      have hB := HB.out
      rw [hxd] at hB
      have hgm := get_mid pre dn (X.drop (i + 1)) post x
      have hst := set_mid pre dn (X.drop (i + 1)) post x s
      rw [hdn] at hgm hst
      have hlen : pre.length + i < (pre ++ (dn ++ x :: X.drop (i + 1)) ++ post).length := by
        rcases Nat.lt_or_ge (pre.length + i) (pre ++ (dn ++ x :: X.drop (i + 1)) ++ post).length with h | h
        · exact h
        · rw [List.getElem?_eq_none h] at hgm; cases hgm
      have hcell : wr.cell? ⟨g, pre.length + i, none⟩ = some (.int .u64 x) := by
        rw [hB.cell (pre.length + i)]
        unfold ws
        rw [List.getElem?_map, hgm]
        rfl
      obtain ⟨L, hL⟩ : ∃ L, pre ++ (dn ++ x :: X.drop (i + 1)) ++ post = L := ⟨_, rfl⟩
      rw [hL] at hB hst hlen
      have HBL := Lib.hid hB
      have HST := Lib.hid hst
      have HLN := Lib.hid hlen
      have HP := Lib.hid hP
      have HS := Lib.hid hs
      have HT := Lib.hid ht
      have HDN := Lib.hid (show (dn ++ [s]).length = i + 1 by rw [List.length_append, hdn]; rfl)
      clear hxd hx hyd hyt hP hy hq hr hs ht hyB hnc had hstep hB hgm hst hlen hL HAD HB hdn
      go_wp2_with fail
      refine HP.out.mono ?_
      rintro e w' ⟨rfl, rfl⟩
      go_wp2_with (first | (refine wpList_run 31 rfl rfl _ (exec_sub64 (.tmp 29) (.tmp 30) _ rfl x r s t HS.out HT.out rfl rfl) ?_) | (refine wpList_store_w rfl (.tmp 34) (.tmp 32) rfl g (pre.length + i) _ L s rfl rfl HBL.out HLN.out ?_; intro w5 HB5 ho5; have HO5 := Lib.hid (HO.out.trans ho5); clear ho5))
      go_roundw
      case rel => exact ⟨i + 1, t + q, dn ++ [s], by go_num, by go_num, by omega, hnc', HDN.out, HAD2, Lib.hid (by rw [← HST.out]; exact HB5.out), HO5⟩
      case measure => simp [intOf]; omega
    · obtain rfl : i = X.length := by omega
      have d1 : decide ((X.length : Int) < (X.length : Int)) = false := decide_eq_false (by omega)
      have had := HAD.out
      have hB := HB.out
      rw [List.drop_length] at had hB
      simp only [subTL, List.append_nil] at had hB
      have HE := Lib.hid (congrArg Prod.snd had)
      have HE1 := Lib.hid (congrArg Prod.fst had)
      have HBL := Lib.hid hB
      clear had hB HAD HB
      go_wp2
      go_ret
      exact ⟨by rw [← HE.out]; rfl, by rw [← HE1.out]; simpa [List.append_assoc] using HBL.out, HO.out⟩
end Go.Proofs.YtkjnfobaoaaopaaGreatDoor
