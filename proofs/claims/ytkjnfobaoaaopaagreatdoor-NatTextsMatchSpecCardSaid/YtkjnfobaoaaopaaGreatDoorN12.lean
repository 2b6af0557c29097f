/- isText. -/
import Derived.Test.YtkjnfobaoaaopaaGreatDoorN11
namespace Go.Proofs.YtkjnfobaoaaopaaGreatDoor
open Go.RowKit Hm Wm Wn

theorem run_neq_str (w : World) (l r : List UInt8) : (binOp .neq 9 (.string (sb l)) (.string (sb r))).run Tryz.prog w = .ok (.bool (decide (l ≠ r))) w := by
  rw [binOp_string_neq]
  have h1 : (sb l).toList = l := by simp [sb]
  have h2 : (sb r).toList = r := by simp [sb]
  rw [h1, h2, Sem.run_pure]
  congr 2
  rw [Bool.eq_iff_iff]; simp
theorem exec_indexS0 {oi : Oper} {a : Act} {w : World} (x y : Operand) (ho : oi.op = .index 9 x y) (s : ByteArray) (b : UInt8) (hb : s.data.toList[0]? = some b) (hx : a.eval x = .string s) (hy : a.eval y = .int .i64 0) : (execOp a.eval oi).run Tryz.prog w = .ok (.value (.int .u8 b.toNat)) w :=
  exec_indexS x y ho s 0 b hb hx (by rw [hy]; rfl)
theorem wpList_runG {w : World} {ops : Array Oper} {rest : List Oper} {o : Oper} {a : Act} {Q : Exit → Act → World → Prop} (d : Tmp) (hd : o.dst = some d) (hw : Region.wanted o (yielded ops a.tmps) = true) (v : Value) (hrun : (execOp a.eval o).run Tryz.prog w = .ok (.value v) w) (h : wpList Tryz.prog ops Q rest (a.put (some d) v) w) : wpList Tryz.prog ops Q (o :: rest) a w := by
  refine wpList_want hw fun K hK => ?_
  unfold Oper.wp
  rw [hrun]
  have := hK _ _ h
  rw [← hd] at this
  exact this
/-- The texts of numbers. -/
def isTextL (l : List UInt8) : Bool := match l with | [] => false | b :: r => !(b == 48 && !r.isEmpty) && l.all isDig
def ItR (l : List UInt8) (iv : Value) : Prop := ∃ i : Nat, iv = .int .i64 i ∧ i ≤ l.length ∧ Hid ((l.take i).all isDig = true)
set_option maxRecDepth 100000 in
set_option maxHeartbeats 400000 in
theorem isText_any (l : List UInt8) (w : World) (hl : l.length ≤ 1000000) : Calls Tryz.prog 47 #[.string (sb l)] w fun e w' => e = .returned (.bool (isTextL l)) ∧ w' = w := by
  have hq := fun W => run_eql_str W l []
  have hz := fun W => run_neq_str W l [48]
  obtain ⟨t, ht⟩ : ∃ t, sb l = t := ⟨_, rfl⟩
  have htl : t.data.toList = l := by rw [← ht, sb_list]
  have hts : t.size = l.length := by rw [← ht, sb_size]
  rw [ht] at hq hz ⊢
  have HTL := Lib.hid htl
  rcases l with _ | ⟨b, r⟩
  · have HV := Lib.hid (show isTextL [] = false from rfl)
    have HQ := Lib.hid (fun W => show (binOp .eql 9 (.string t) (.string ⟨#[]⟩)).run Tryz.prog W = .ok (.bool true) W from hq W)
    clear hq hz ht htl hts
    go_enter Tryz.func47, Tryz.ntmps47
    go_wp2_with (refine wpList_run 5 rfl rfl _ (exec_bin .eql 9 _ (.tmp 4) (.const (.string ⟨#[]⟩)) rfl _ _ _ rfl rfl rfl (HQ.out _)) ?_)
    go_ret
    exact ⟨by rw [HV.out]; rfl, rfl⟩
  have HQ := Lib.hid (fun W => show (binOp .eql 9 (.string t) (.string ⟨#[]⟩)).run Tryz.prog W = .ok (.bool false) W from hq W)
  have HI0 := Lib.hid (show t.data.toList[0]? = some b by rw [htl]; rfl)
  have hb48 : b.toNat = 48 ↔ b = 48 := by
    constructor
    · intro h; exact UInt8.toNat_inj.1 h
    · rintro rfl; rfl
  by_cases hb0 : b = 48 ∧ r ≠ []
  · have e1 : ((b.toNat : Int) == 48) = true := by rw [hb0.1]; rfl
    have HZ := Lib.hid (fun W => show (binOp .neq 9 (.string t) (.string ⟨#[48]⟩)).run Tryz.prog W = .ok (.bool true) W by
      have := hz W
      rw [show decide (b :: r ≠ [48]) = true from decide_eq_true (by simp [hb0.1, hb0.2])] at this
      exact this)
    have HV := Lib.hid (show isTextL (b :: r) = false by
      unfold isTextL
      have : r.isEmpty = false := by cases r; exact absurd rfl hb0.2; rfl
      simp [hb0.1, this])
    clear hq hz ht htl hts hb0 hb48
    go_enter Tryz.func47, Tryz.ntmps47
    go_wp2_with (first | (refine wpList_run 5 rfl rfl _ (exec_bin .eql 9 _ (.tmp 4) (.const (.string ⟨#[]⟩)) rfl _ _ _ rfl rfl rfl (HQ.out _)) ?_) | (refine wpList_runG 8 rfl rfl _ (exec_indexS0 (.tmp 7) (.const (.int .i64 0)) rfl t b HI0.out rfl rfl) ?_) | (refine wpList_runG 12 rfl rfl _ (exec_bin .neq 9 _ (.tmp 11) (.const (.string ⟨#[48]⟩)) rfl _ _ _ rfl rfl rfl (HZ.out _)) ?_))
    go_ret
    exact ⟨by rw [HV.out]; rfl, rfl⟩
  have HT := Lib.hid (fun ha : (b :: r).all isDig = true => show isTextL (b :: r) = true by
    unfold isTextL
    have h2 : (b == 48 && !r.isEmpty) = false := by
      cases hbb : b == 48
      · rfl
      · have hb : b = 48 := by simpa using hbb
        have hr : r = [] := Classical.byContradiction fun h => hb0 ⟨hb, h⟩
        rw [hr]; rfl
    simp only [h2, ha]; rfl)
  have HF := Lib.hid (fun (i : Nat) (hi : i < (b :: r).length) (h : isDig (b :: r)[i] = false) => show isTextL (b :: r) = false by
    unfold isTextL
    have ha : (b :: r).all isDig = false := by
      rw [List.all_eq_false]
      exact ⟨_, List.getElem_mem hi, by rw [h]; decide⟩
    simp only [ha, Bool.and_false])
  by_cases h48 : b = 48
  · have hr : r = [] := Classical.byContradiction fun h => hb0 ⟨h48, h⟩
    have e0 : ((b.toNat : Int) == 48) = true := by rw [h48]; rfl
    have HZ := Lib.hid (fun W => show (binOp .neq 9 (.string t) (.string ⟨#[48]⟩)).run Tryz.prog W = .ok (.bool false) W by
      have := hz W
      rw [show decide (b :: r ≠ [48]) = false from decide_eq_false (by simp [h48, hr])] at this
      exact this)
    obtain ⟨l, hll⟩ : ∃ l, b :: r = l := ⟨_, rfl⟩
    rw [hll] at HT HF HTL hl hts ⊢
    clear hq hz ht htl hb0 hb48 h48 hr hll
    go_enter Tryz.func47, Tryz.ntmps47
    go_wp2_with (first | (refine wpList_run 5 rfl rfl _ (exec_bin .eql 9 _ (.tmp 4) (.const (.string ⟨#[]⟩)) rfl _ _ _ rfl rfl rfl (HQ.out _)) ?_) | (refine wpList_runG 8 rfl rfl _ (exec_indexS0 (.tmp 7) (.const (.int .i64 0)) rfl t b HI0.out rfl rfl) ?_) | (refine wpList_runG 12 rfl rfl _ (exec_bin .neq 9 _ (.tmp 11) (.const (.string ⟨#[48]⟩)) rfl _ _ _ rfl rfl rfl (HZ.out _)) ?_))
    go_loop [17] (ItR l) (fun iv => l.length - (intOf iv).toNat)
    case atStart => exact ⟨0, rfl, Nat.zero_le _, Lib.hid (by simp)⟩
    case round =>
      obtain ⟨i, rfl, hi, HA⟩ := hrel
      by_cases hlt : i < l.length
      · have d1 : decide ((i : Int) < (l.length : Int)) = true := decide_eq_true (by omega)
        have d1' : decide (i < l.length) = true := decide_eq_true hlt
        have hc : t.data.toList[i]? = some l[i] := by rw [HTL.out]; exact List.getElem?_eq_getElem hlt
        have hf := fun h : isDig l[i] = false => HF.out i hlt h
        have htk : isDig l[i] = true → (l.take (i + 1)).all isDig = true := fun h => by
          rw [List.take_succ_eq_append_getElem hlt, List.all_append, HA.out]; simp [h]
        obtain ⟨c, hcc⟩ : ∃ c, l[i] = c := ⟨_, rfl⟩
        rw [hcc] at hc hf htk
        have HIX := Lib.hid hc
        by_cases h1 : c.toNat < 48
        · have e1 : decide ((c.toNat : Int) < 48) = true := decide_eq_true (by omega)
          have HV := Lib.hid (hf (by unfold isDig; rw [decide_eq_false (by omega)]; rfl))
          clear hc hf htk hcc h1 HA
          go_wp2_with (refine wpList_run 22 rfl rfl _ (exec_indexS (.tmp 20) (.tmp 21) rfl t i c HIX.out rfl rfl) ?_)
          go_ret
          exact ⟨by rw [HV.out]; rfl, rfl⟩
        have e1 : decide ((c.toNat : Int) < 48) = false := decide_eq_false (by omega)
        by_cases h2 : 57 < c.toNat
        · have e2 : decide ((57 : Int) < (c.toNat : Int)) = true := decide_eq_true (by omega)
          have HV := Lib.hid (hf (by unfold isDig; rw [decide_eq_false (p := c.toNat ≤ 57) (by omega), Bool.and_false]))
          clear hc hf htk hcc h1 h2 HA
          go_wp2_with (first | (refine wpList_run 22 rfl rfl _ (exec_indexS (.tmp 20) (.tmp 21) rfl t i c HIX.out rfl rfl) ?_) | (refine wpList_runG 27 rfl rfl _ (exec_indexS (.tmp 25) (.tmp 26) rfl t i c HIX.out rfl rfl) ?_))
          go_ret
          exact ⟨by rw [HV.out]; rfl, rfl⟩
        have e2 : decide ((57 : Int) < (c.toNat : Int)) = false := decide_eq_false (by omega)
        have HA2 := Lib.hid (htk (by unfold isDig; rw [decide_eq_true (p := 48 ≤ c.toNat) (by omega), decide_eq_true (p := c.toNat ≤ 57) (by omega)]; rfl))
        clear hc hf htk hcc h1 h2 HA
        go_wp2_with (first | (refine wpList_run 22 rfl rfl _ (exec_indexS (.tmp 20) (.tmp 21) rfl t i c HIX.out rfl rfl) ?_) | (refine wpList_runG 27 rfl rfl _ (exec_indexS (.tmp 25) (.tmp 26) rfl t i c HIX.out rfl rfl) ?_))
        go_round
        case rel => exact ⟨i + 1, by go_num, by omega, HA2⟩
        case measure => simp [intOf]; omega
      · obtain rfl : i = l.length := by omega
        have d1 : decide ((l.length : Int) < (l.length : Int)) = false := decide_eq_false (by omega)
        have ha := HA.out
        rw [List.take_length] at ha
        have HV := Lib.hid (HT.out ha)
        clear ha HA
        go_wp2
        go_ret
        exact ⟨by rw [HV.out]; rfl, rfl⟩
  · have e0 : ((b.toNat : Int) == 48) = false := by rw [beq_eq_false_iff_ne]; intro h; exact h48 (hb48.1 (by omega))
    obtain ⟨l, hll⟩ : ∃ l, b :: r = l := ⟨_, rfl⟩
    rw [hll] at HT HF HTL hl hts ⊢
    clear hq hz ht htl hb0 hb48 h48 hll
    go_enter Tryz.func47, Tryz.ntmps47
    go_wp2_with (first | (refine wpList_run 5 rfl rfl _ (exec_bin .eql 9 _ (.tmp 4) (.const (.string ⟨#[]⟩)) rfl _ _ _ rfl rfl rfl (HQ.out _)) ?_) | (refine wpList_runG 8 rfl rfl _ (exec_indexS0 (.tmp 7) (.const (.int .i64 0)) rfl t b HI0.out rfl rfl) ?_))
    go_loop [17] (ItR l) (fun iv => l.length - (intOf iv).toNat)
    case atStart => exact ⟨0, rfl, Nat.zero_le _, Lib.hid (by simp)⟩
    case round =>
      obtain ⟨i, rfl, hi, HA⟩ := hrel
      by_cases hlt : i < l.length
      · have d1 : decide ((i : Int) < (l.length : Int)) = true := decide_eq_true (by omega)
        have d1' : decide (i < l.length) = true := decide_eq_true hlt
        have hc : t.data.toList[i]? = some l[i] := by rw [HTL.out]; exact List.getElem?_eq_getElem hlt
        have hf := fun h : isDig l[i] = false => HF.out i hlt h
        have htk : isDig l[i] = true → (l.take (i + 1)).all isDig = true := fun h => by
          rw [List.take_succ_eq_append_getElem hlt, List.all_append, HA.out]; simp [h]
        obtain ⟨c, hcc⟩ : ∃ c, l[i] = c := ⟨_, rfl⟩
        rw [hcc] at hc hf htk
        have HIX := Lib.hid hc
        by_cases h1 : c.toNat < 48
        · have e1 : decide ((c.toNat : Int) < 48) = true := decide_eq_true (by omega)
          have HV := Lib.hid (hf (by unfold isDig; rw [decide_eq_false (by omega)]; rfl))
          clear hc hf htk hcc h1 HA
          go_wp2_with (refine wpList_run 22 rfl rfl _ (exec_indexS (.tmp 20) (.tmp 21) rfl t i c HIX.out rfl rfl) ?_)
          go_ret
          exact ⟨by rw [HV.out]; rfl, rfl⟩
        have e1 : decide ((c.toNat : Int) < 48) = false := decide_eq_false (by omega)
        by_cases h2 : 57 < c.toNat
        · have e2 : decide ((57 : Int) < (c.toNat : Int)) = true := decide_eq_true (by omega)
          have HV := Lib.hid (hf (by unfold isDig; rw [decide_eq_false (p := c.toNat ≤ 57) (by omega), Bool.and_false]))
          clear hc hf htk hcc h1 h2 HA
          go_wp2_with (first | (refine wpList_run 22 rfl rfl _ (exec_indexS (.tmp 20) (.tmp 21) rfl t i c HIX.out rfl rfl) ?_) | (refine wpList_runG 27 rfl rfl _ (exec_indexS (.tmp 25) (.tmp 26) rfl t i c HIX.out rfl rfl) ?_))
          go_ret
          exact ⟨by rw [HV.out]; rfl, rfl⟩
        have e2 : decide ((57 : Int) < (c.toNat : Int)) = false := decide_eq_false (by omega)
        have HA2 := Lib.hid (htk (by unfold isDig; rw [decide_eq_true (p := 48 ≤ c.toNat) (by omega), decide_eq_true (p := c.toNat ≤ 57) (by omega)]; rfl))
        clear hc hf htk hcc h1 h2 HA
        go_wp2_with (first | (refine wpList_run 22 rfl rfl _ (exec_indexS (.tmp 20) (.tmp 21) rfl t i c HIX.out rfl rfl) ?_) | (refine wpList_runG 27 rfl rfl _ (exec_indexS (.tmp 25) (.tmp 26) rfl t i c HIX.out rfl rfl) ?_))
        go_round
        case rel => exact ⟨i + 1, by go_num, by omega, HA2⟩
        case measure => simp [intOf]; omega
      · obtain rfl : i = l.length := by omega
        have d1 : decide ((l.length : Int) < (l.length : Int)) = false := decide_eq_false (by omega)
        have ha := HA.out
        rw [List.take_length] at ha
        have HV := Lib.hid (HT.out ha)
        clear ha HA
        go_wp2
        go_ret
        exact ⟨by rw [HV.out]; rfl, rfl⟩
end Go.Proofs.YtkjnfobaoaaopaaGreatDoor
