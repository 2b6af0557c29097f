/- Texts between quotation marks. -/
import Derived.Test.YtggjgikpiljoiaaDoorL7
namespace Go.Proofs.YtggjgikpiljoiaaDoor
open Go.RowKit Hm Wm Lx

/-- 'append(b, x, y)' onto an own row of bytes. -/
theorem wpList_push2 {w : World} {ops : Array Oper} {rest : List Oper} {o : Oper} {a : Act} {Q : Exit → Act → World → Prop} (hgd : o.guard = none) (s x : Operand)
    (ho : o.op = .call { callee := .builtin .append, args := #[s, x], argTypes := #[39, 39] })
    (base : Nat) (v : Value) (l : List UInt8) (hs : a.eval s = v) (hown : OwnB w base v l) (m n : Int) (b c : UInt8) (hm : m = b.toNat) (hn : n = c.toNat) (hb : base ≤ w.heap.size) (hl : l.length ≤ 70368744177664)
    (hx : a.eval x = .slice (some ⟨w.heap.size, 0, none⟩) 2 2)
    (h : ∀ v' w', OwnB w' base v' (l ++ [b, c]) → Below base w w' → wpList Tryd.prog ops Q rest (a.put o.dst v') w') :
    wpList Tryd.prog ops Q (o :: rest) a (w.alloc (.cells #[.int .u8 m, .int .u8 n] 5)) := by
  obtain ⟨i0, hi0, hz0, hz1, hz2⟩ := info_parts u8_info
  subst hm hn
  have hnews : ∀ j u, (bc [b, c])[j]? = some u → (w.alloc (.cells (bc [b, c]).toArray 5)).cell? ((⟨w.heap.size, 0, none⟩ : Addr).add j) = some u := by
    intro j u hu
    rw [Addr.add_mid, Nat.zero_add, (Blk.new w 5 (bc [b, c])).cell j]
    exact hu
  obtain ⟨v', w', hrun, h2, h3, _⟩ := run_append_own_at (P := Tryd.prog) (w.alloc (.cells (bc [b, c]).toArray 5)) base 39 o.type 5 i0 (.int .u8 0) 1 1 Tryd.underlying39 hi0 hz0 hz1 hz2 rfl (by decide) v l.length (bc l) (World.ownsRow.alloc hown _)
    ⟨w.heap.size, 0, none⟩ 2 2 (bc [b, c]) rfl hnews (bc_one _) (by unfold maxLen; omega) (by omega) (by simp; omega)
  refine wpList_plain hgd fun K hK => ?_
  unfold Oper.wp execOp
  have hrun' : (Builtin.append_ #[39, 39] o.type #[v, .slice (some ⟨w.heap.size, 0, none⟩) 2 2]).run Tryd.prog (w.alloc (.cells #[.int .u8 (b.toNat : Int), .int .u8 (c.toNat : Int)] 5)) = .ok v' w' := hrun
  simp only [ho, resolve, invoke, builtin, Sem.run_bind, Sem.run_pure, Result.andThen_ok, List.map_toArray, List.map_cons, List.map_nil, hs, hx, hrun']
  refine hK _ _ (h v' w' ?_ ?_)
  · unfold OwnB
    rw [List.length_append, bc_app]
    exact h2
  · exact (((Below.refl base w).alloc hb _).grown h3 (by simp; omega) (fun k hk => (World.ownsRow.lt hown k hk).1))
/-- A list of bytes that was just built. -/
theorem OwnB.one (w : World) (base : Nat) (b : UInt8) (hb : base ≤ w.heap.size) : OwnB (w.alloc (.cells #[.int .u8 b.toNat] 5)) base (.slice (some ⟨w.heap.size, 0, none⟩) 1 1) [b] :=
  ⟨rfl, .inr ⟨w.heap.size, 1, #[.int .u8 b.toNat], rfl, hb, heap_alloc_new w _, Nat.le_refl _, by unfold maxLen; omega, rfl, rfl⟩⟩
theorem quo_next {s : List UInt8} {k : Nat} {d : UInt8} (h : s[k]? = some d) : 34 :: (s.take (k + 1)).flatMap esc = (34 :: (s.take k).flatMap esc) ++ esc d := by
  obtain ⟨hk, rfl⟩ := List.getElem?_eq_some_iff.1 h
  rw [List.take_succ_eq_append_getElem hk, List.flatMap_append]
  simp
theorem quo_len (s : List UInt8) : (s.flatMap esc).length ≤ 2 * s.length := by
  induction s with
  | nil => simp
  | cons c s ih =>
    have : (esc c).length ≤ 2 := by unfold esc; repeat' split
                                    all_goals simp
    rw [List.flatMap_cons, List.length_append, List.length_cons]; omega
set_option maxRecDepth 100000 in
set_option maxHeartbeats 800000 in
theorem quoted_any (s : List UInt8) (w : World) (hs : s.length ≤ 2 ^ 44) : Calls Tryd.prog 20 #[.string (sb s)] w fun e w' => e = .returned (.string (sb (quo s))) ∧ Below w.heap.size w w' := by
  have hz : (sb s).size = s.length := sb_size s
  have hq := quo_len
  have HQL := Lib.hid hq
  clear hq
  go_enter Tryd.func20, Tryd.ntmps20
  go_wp2
  have HO := Lib.hid (OwnB.one w w.heap.size 34 (Nat.le_refl _))
  have HB := Lib.hid (show Below w.heap.size w (w.alloc (.cells #[.int .u8 ((34 : UInt8).toNat : Int)] 5)) from (Below.refl _ _).alloc (Nat.le_refl _) _)
  go_loopw [3, 8] (fun a b wr => ∃ k : Nat, b = .int .i64 k ∧ k ≤ s.length ∧ Hid (OwnB wr w.heap.size a (34 :: (s.take k).flatMap esc)) ∧ Hid (Below w.heap.size w wr)) (fun _ b _ => s.length - (intOf b).toNat)
  case atStart => exact ⟨0, rfl, Nat.zero_le _, HO, HB⟩
  case round =>
    obtain ⟨k, rfl, hk, HO, HB⟩ := hrel
    have hql := HQL.out (s.take k)
    rw [List.length_take] at hql
    by_cases hlt : k < s.length
    · obtain ⟨d, hd⟩ : ∃ d, s[k]? = some d := ⟨s[k], List.getElem?_eq_getElem hlt⟩
      have HD := Lib.hid (show (sb s).data.toList[k]? = some d by rw [sb_list]; exact hd)
      have HN := Lib.hid (quo_next hd)
      have hacc : (34 :: (s.take k).flatMap esc).length ≤ 2 ^ 46 := by simp only [List.length_cons]; omega
      generalize 34 :: (s.take k).flatMap esc = acc at HO HN hacc
      clear hd hql
      by_cases hd : d.toNat = 34
      · have HES := Lib.hid (show esc d = [92, d] by unfold esc; rw [if_pos (.inl hd)])
        have m34 : ((d.toNat : Int) == 34) = true := by rw [hd]; rfl
        clear hd
        go_wp2_with (first | (refine wpList_dst 13 rfl ?_; refine wpList_run 13 rfl rfl _ (exec_index 9 (.tmp 11) (.tmp 12) rfl _ _ (.int .u8 d.toNat) rfl rfl (sb_at (sb s) (k := k) HD.out _)) ?_; go_frame) | (refine wpList_dst 17 rfl ?_; refine wpList_run 17 rfl rfl _ (exec_index 9 (.tmp 15) (.tmp 16) rfl _ _ (.int .u8 d.toNat) rfl rfl (sb_at (sb s) (k := k) HD.out _)) ?_; go_frame) | (refine wpList_dst 26 rfl ?_; refine wpList_run 26 rfl rfl _ (exec_index 9 (.tmp 24) (.tmp 25) rfl _ _ (.int .u8 d.toNat) rfl rfl (sb_at (sb s) (k := k) HD.out _)) ?_; go_frame) | (at_builtin; refine wpList_push2 rfl (.tmp 23) (.tmp 27) rfl w.heap.size _ acc rfl HO.out _ _ 92 (d) rfl rfl HB.out.size (by omega) rfl ?_; intro v5 w5 ho5 hb5; have HO5 := Lib.hid ho5; have HB5 := Lib.hid (HB.out.trans hb5); clear ho5 hb5 HO HB))
        go_roundw
        case rel => exact ⟨k + 1, by go_num, by omega, Lib.hid (by rw [HN.out, HES.out]; exact HO5.out), HB5⟩
        case measure => simp [intOf]; omega
      by_cases hd2 : d.toNat = 92
      · have HES := Lib.hid (show esc d = [92, d] by unfold esc; rw [if_pos (.inr hd2)])
        have m34 : ((d.toNat : Int) == 34) = false := by rw [beq_eq_false_iff_ne]; omega
        have m92 : ((d.toNat : Int) == 92) = true := by rw [hd2]; rfl
        clear hd hd2
        go_wp2_with (first | (refine wpList_dst 13 rfl ?_; refine wpList_run 13 rfl rfl _ (exec_index 9 (.tmp 11) (.tmp 12) rfl _ _ (.int .u8 d.toNat) rfl rfl (sb_at (sb s) (k := k) HD.out _)) ?_; go_frame) | (refine wpList_dst 17 rfl ?_; refine wpList_run 17 rfl rfl _ (exec_index 9 (.tmp 15) (.tmp 16) rfl _ _ (.int .u8 d.toNat) rfl rfl (sb_at (sb s) (k := k) HD.out _)) ?_; go_frame) | (refine wpList_dst 26 rfl ?_; refine wpList_run 26 rfl rfl _ (exec_index 9 (.tmp 24) (.tmp 25) rfl _ _ (.int .u8 d.toNat) rfl rfl (sb_at (sb s) (k := k) HD.out _)) ?_; go_frame) | (at_builtin; refine wpList_push2 rfl (.tmp 23) (.tmp 27) rfl w.heap.size _ acc rfl HO.out _ _ 92 (d) rfl rfl HB.out.size (by omega) rfl ?_; intro v5 w5 ho5 hb5; have HO5 := Lib.hid ho5; have HB5 := Lib.hid (HB.out.trans hb5); clear ho5 hb5 HO HB))
        go_roundw
        case rel => exact ⟨k + 1, by go_num, by omega, Lib.hid (by rw [HN.out, HES.out]; exact HO5.out), HB5⟩
        case measure => simp [intOf]; omega
      by_cases hd3 : d.toNat = 10
      · have HES := Lib.hid (show esc d = [92, 110] by unfold esc; rw [if_neg (by omega), if_pos hd3])
        have m34 : ((d.toNat : Int) == 34) = false := by rw [beq_eq_false_iff_ne]; omega
        have m92 : ((d.toNat : Int) == 92) = false := by rw [beq_eq_false_iff_ne]; omega
        have m10 : ((d.toNat : Int) == 10) = true := by rw [hd3]; rfl
        clear hd hd2 hd3
        go_wp2_with (first | (refine wpList_dst 13 rfl ?_; refine wpList_run 13 rfl rfl _ (exec_index 9 (.tmp 11) (.tmp 12) rfl _ _ (.int .u8 d.toNat) rfl rfl (sb_at (sb s) (k := k) HD.out _)) ?_; go_frame) | (refine wpList_dst 17 rfl ?_; refine wpList_run 17 rfl rfl _ (exec_index 9 (.tmp 15) (.tmp 16) rfl _ _ (.int .u8 d.toNat) rfl rfl (sb_at (sb s) (k := k) HD.out _)) ?_; go_frame) | (refine wpList_dst 26 rfl ?_; refine wpList_run 26 rfl rfl _ (exec_index 9 (.tmp 24) (.tmp 25) rfl _ _ (.int .u8 d.toNat) rfl rfl (sb_at (sb s) (k := k) HD.out _)) ?_; go_frame) | (at_builtin; refine wpList_push2 rfl (.tmp 31) (.tmp 32) rfl w.heap.size _ acc rfl HO.out _ _ 92 (110) rfl rfl HB.out.size (by omega) rfl ?_; intro v5 w5 ho5 hb5; have HO5 := Lib.hid ho5; have HB5 := Lib.hid (HB.out.trans hb5); clear ho5 hb5 HO HB))
        go_roundw
        case rel => exact ⟨k + 1, by go_num, by omega, Lib.hid (by rw [HN.out, HES.out]; exact HO5.out), HB5⟩
        case measure => simp [intOf]; omega
      · have HES := Lib.hid (show esc d = [d] by unfold esc; rw [if_neg (by omega), if_neg hd3])
        have m34 : ((d.toNat : Int) == 34) = false := by rw [beq_eq_false_iff_ne]; omega
        have m92 : ((d.toNat : Int) == 92) = false := by rw [beq_eq_false_iff_ne]; omega
        have m10 : ((d.toNat : Int) == 10) = false := by rw [beq_eq_false_iff_ne]; omega
        clear hd hd2 hd3
        go_wp2_with (first | (refine wpList_dst 13 rfl ?_; refine wpList_run 13 rfl rfl _ (exec_index 9 (.tmp 11) (.tmp 12) rfl _ _ (.int .u8 d.toNat) rfl rfl (sb_at (sb s) (k := k) HD.out _)) ?_; go_frame) | (refine wpList_dst 17 rfl ?_; refine wpList_run 17 rfl rfl _ (exec_index 9 (.tmp 15) (.tmp 16) rfl _ _ (.int .u8 d.toNat) rfl rfl (sb_at (sb s) (k := k) HD.out _)) ?_; go_frame) | (refine wpList_dst 26 rfl ?_; refine wpList_run 26 rfl rfl _ (exec_index 9 (.tmp 24) (.tmp 25) rfl _ _ (.int .u8 d.toNat) rfl rfl (sb_at (sb s) (k := k) HD.out _)) ?_; go_frame) | (at_builtin; refine wpList_push rfl (.tmp 14) (.tmp 18) rfl w.heap.size _ acc rfl HO.out _ d rfl HB.out.size (by omega) rfl ?_; intro v5 w5 ho5 hb5; have HO5 := Lib.hid ho5; have HB5 := Lib.hid (HB.out.trans hb5); clear ho5 hb5 HO HB))
        go_roundw
        case rel => exact ⟨k + 1, by go_num, by omega, Lib.hid (by rw [HN.out, HES.out]; exact HO5.out), HB5⟩
        case measure => simp [intOf]; omega
    · obtain rfl : k = s.length := by omega
      have h1 : decide ((s.length : Int) < (s.length : Int)) = false := decide_eq_false (by omega)
      have hacc : (34 :: (s.take s.length).flatMap esc).length ≤ 2 ^ 46 := by simp only [List.length_cons]; omega
      have HE := Lib.hid (show quo s = (34 :: (s.take s.length).flatMap esc) ++ [34] by rw [List.take_length]; rfl)
      generalize 34 :: (s.take s.length).flatMap esc = acc at HO HE hacc
      clear hql
      go_wp2_with (first | (at_builtin; refine wpList_push rfl (.tmp 35) (.tmp 36) rfl w.heap.size _ acc rfl HO.out _ 34 rfl HB.out.size (by omega) rfl ?_; intro v5 w5 ho5 hb5; obtain ⟨A5, c5, rfl, _, hc5⟩ := ho5.form; have HO5 := Lib.hid ho5; have HB5 := Lib.hid (HB.out.trans hb5); clear ho5 hb5 HO HB hc5) | (refine wpList_dst 38 rfl ?_; refine wpList_run 38 rfl rfl _ (exec_convert 39 9 (.tmp 37) rfl _ (.string (sb (acc ++ [34]))) rfl (run_str (OwnB.rd HO5.out) c5)) ?_; go_frame))
      go_ret
      exact ⟨by rw [HE.out]; rfl, HB5.out⟩
end Go.Proofs.YtggjgikpiljoiaaDoor
