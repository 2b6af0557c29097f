/- The reference: texts. -/
import Derived.Test.YtggjgikpiljoiaaDoorL37
namespace Go.Proofs.YtggjgikpiljoiaaDoor
open Go.RowKit Hm Wm Lx

theorem exec_lenB {oi : Oper} {a : Act} {w : World} (x : Operand) (ho : oi.op = .call { callee := .builtin .len, args := #[x], argTypes := #[39] }) (A : Option Addr) (n c : Nat) (hx : a.eval x = .slice A n c) : (execOp a.eval oi).run Tryd.prog w = .ok (.value (.int .i64 n)) w := by
  have hu := Tryd.underlying39
  unfold execOp
  simp [ho, resolve, invoke, builtin, hx, Builtin.len_, run_underlying hu, goInt]
theorem wrap_two (a : Nat) (h : a ≤ 9223372036854775800) : IntKind.i64.wrap ((a : Int) + 2) = ((a + 2 : Nat) : Int) := by
  simp [IntKind.wrap, IntKind.bits, IntKind.signed]; omega
theorem xchr_pl {d : UInt8} {q : List UInt8} (h : pl d = true) : chr (d :: q) = (d, 1) := by simp [chr, h]
theorem xchr_no {d : UInt8} {q : List UInt8} (h : pl d = false) (h2 : d.toNat ≠ 92) : (chr (d :: q)).2 = 0 := by simp [chr, h, h2]
theorem xchr_92 {d e : UInt8} {q : List UInt8} (h : d.toNat = 92) (he : e.toNat = 34 ∨ e.toNat = 92 ∨ e.toNat = 110) : ∃ b : UInt8, prI e.toNat = (b.toNat : Int) ∧ b.toNat ≠ 0 ∧ chr (d :: e :: q) = (b, 2) := by
  have hp : pl d = false := by simp [pl, h]
  rcases he with he | he | he
  · exact ⟨e, by unfold prI; rw [if_pos (by omega)], by omega, by simp [chr, hp, h, he]⟩
  · exact ⟨e, by unfold prI; rw [if_pos (by omega)], by omega, by simp [chr, hp, h, he]⟩
  · exact ⟨10, by unfold prI; rw [if_neg (by omega), if_pos (by omega)]; rfl, by decide, by simp [chr, hp, h, he]⟩
theorem xchr_92n {d e : UInt8} {q : List UInt8} (h : d.toNat = 92) (he : ¬ (e.toNat = 34 ∨ e.toNat = 92 ∨ e.toNat = 110)) : prI e.toNat = 0 ∧ (chr (d :: e :: q)).2 = 0 := by
  have hp : pl d = false := by simp [pl, h]
  refine ⟨by unfold prI; rw [if_neg (by omega), if_neg (by omega)], ?_⟩
  have h1 : ¬ (e.toNat = 34 ∨ e.toNat = 92) := by omega
  have h2 : e.toNat ≠ 110 := by omega
  simp [chr, hp, h, h1, h2]
theorem xchr_92e {d : UInt8} (h : d.toNat = 92) : (chr [d]).2 = 0 := by
  have hp : pl d = false := by simp [pl, h]
  simp [chr, hp, h]
/-- What a text that was read in part becomes. -/
def TxQ (r acc : List UInt8) (m : Nat) (q : St) : Prop := (acc.length ≤ 200 ∧ txt (r.drop m) acc (1 + m) = q) ∨ (acc.length = 201 ∧ q = .bad 2)
theorem TxQ.next {r acc : List UInt8} {m : Nat} {q : St} {d b : UInt8} {k : Nat} (h1 : acc.length ≤ 200) (h2 : txt (r.drop m) acc (1 + m) = q) (hd : r.drop m = d :: r.drop (m + 1)) (hn : d.toNat ≠ 34) (hc : chr (d :: r.drop (m + 1)) = (b, k)) (hk : k ≠ 0) : TxQ r (acc ++ [b]) (m + k) q := by
  have e : (chr (d :: r.drop (m + 1))).2 ≠ 0 := by rw [hc]; exact hk
  rw [hd] at h2
  by_cases hl : acc.length = 200
  · rw [txt_long hn e hl] at h2
    exact .inr ⟨by simp [hl], h2.symm⟩
  · rw [txt_next hn e hl, hc, ← hd, List.drop_drop] at h2
    exact .inl ⟨by simp; omega, by rw [← h2, Nat.add_assoc]⟩
set_option maxRecDepth 100000 in
set_option maxHeartbeats 3000000 in
theorem rtext_read (l r : List UInt8) (c : UInt8) (p : Nat) (w : World) (hl : l.length ≤ 65536) (hd : l.drop p = c :: r) (hc : c.toNat = 34) :
    Calls Tryd.prog 35 #[.string (sb l), .int .i64 p] w fun e w' => e = .returned (oneV p (Lx.step (c :: r))) ∧ Below w.heap.size w w' := by
  have hz : (sb l).size = l.length := sb_size l
  have HZ := Lib.hid hz
  have hlen : p + 1 + r.length = l.length := by
    have h1 := congrArg List.length hd
    have h2 := (at_drop hd).2.2
    rw [List.length_drop, List.length_cons] at h1; omega
  have HAT := Lib.hid (show ∀ k, r[k]? = l[p + 1 + k]? from fun k => by
    have h1 := (at_drop hd).2.1
    rw [← h1, List.getElem?_drop])
  have HQ0 := Lib.hid (show TxQ r [] 0 (Lx.step (c :: r)) from .inl ⟨by simp, by rw [List.drop_zero, step_34 hc]⟩)
  have HP1 := Lib.hid (wrap_one p (by omega))
  clear hz hd hc
  generalize Lx.step (c :: r) = q at HQ0 ⊢
  go_enter Tryd.func35, Tryd.ntmps35
  go_wp2_with (first | (refine wpList_new rfl 50 rfl zO on_zero ?_; intro w1 HP HW) | (refine wpList_dst 8 rfl ?_; refine wpList_run 8 rfl rfl _ (exec_addI _ (.tmp 7) _ _ rfl _ _ _ rfl rfl HP1.out) ?_; go_frame))
  have HO := Lib.hid (OwnB.nil w1 w1.heap.size)
  have HB := Lib.hid (Below.refl w1.heap.size w1)
  have hwl := HW.out.size
  have hgl : w.heap.size < w1.heap.size := HP.out.lt
  go_loopw [5, 6] (fun a b wr => ∃ (m : Nat) (acc : List UInt8), b = .int .i64 ((p + 1 + m : Nat) : Int) ∧ m ≤ r.length ∧ Hid (OwnB wr w1.heap.size a acc) ∧ Hid (TxQ r acc m q) ∧ Hid (Below w1.heap.size w1 wr)) (fun _ b _ => p + 1 + r.length - (intOf b).toNat)
  case atStart => exact ⟨0, [], rfl, Nat.zero_le _, HO, HQ0, HB⟩
  case round =>
    clear HO HQ0 HB
    obtain ⟨m, acc, rfl, hm, HO, HQ, HB⟩ := hrel
    have HPr := Lib.hid (HP.out.next HB.out)
    have HWr := Lib.hid (HW.out.trans (HB.out.mono hwl))
    obtain ⟨A, ca, rfl, _, hca⟩ := HO.out.form
    clear hca
    by_cases hlt : m < r.length
    · have l1 : decide (((p + 1 + m : Nat) : Int) < ((sb l).size : Int)) = true := decide_eq_true (by rw [HZ.out]; omega)
      rcases HQ.out with ⟨ha, hq⟩ | ⟨ha, hq⟩
      rotate_left
      · have gl : decide ((200 : Int) < (acc.length : Int)) = true := decide_eq_true (by omega)
        have HQQ := Lib.hid hq
        clear hq ha
        go_upto_region 3 with fail
        refine wp_region_lit ?_
        refine wpList_run 9 rfl rfl (.int .i64 ((p + 1 + m : Nat) : Int)) (exec_move (.tmp 6) rfl _ rfl) ?_
        go_frame
        refine wpList_run 10 rfl rfl (.string (sb l)) (exec_move (.tmp 0) rfl _ rfl) ?_
        go_frame
        refine wpList_run 11 rfl rfl (.int .i64 (sb l).size) (exec_lenS (.tmp 10) rfl (sb l) rfl) ?_
        go_frame
        refine wpList_run 12 rfl rfl (.bool true) (exec_lssI' _ _ _ _ rfl .i64 (((p + 1 + m : Nat) : Int)) ((sb l).size) true l1 rfl rfl) ?_
        go_frame
        refine wpList_nil ?_
        go_upto_region 4 with fail
        refine wp_region_lit ?_
        refine wpList_run 13 rfl rfl (.slice A acc.length ca) (exec_move (.tmp 5) rfl _ rfl) ?_
        go_frame
        refine wpList_run 14 rfl rfl (.int .i64 acc.length) (exec_lenB (.tmp 13) rfl _ acc.length _ rfl) ?_
        go_frame
        refine wpList_run 15 rfl rfl (.bool true) (exec_gtrI _ _ _ _ rfl .i64 (acc.length) (200) true gl rfl rfl) ?_
        go_frame
        refine wpList_nil ?_
        go_wp2_with (first | (refine wpList_dst 16 rfl ?_; refine wpList_run 16 rfl rfl _ (exec_buildF 50 #[(2, .const (.int .i64 2))] rfl #[(2, .int .i64 2)] rfl _ (build_oe 2 _)) ?_; go_frame) | (refine wpList_store_all rfl 50 (.tmp 4) (.tmp 16) rfl w.heap.size 50 zO [.int .i64 0, .int .i64 0, .string ByteArray.empty, .int .i64 0, .int .i64 0, .int .i64 2] rfl rfl HPr.out rfl on_size (List.forall_mem_cons.2 ⟨rfl, (List.forall_mem_cons.2 ⟨rfl, (List.forall_mem_cons.2 ⟨rfl, (List.forall_mem_cons.2 ⟨rfl, (List.forall_mem_cons.2 ⟨rfl, (List.forall_mem_cons.2 ⟨rfl, fun _ h => nomatch h⟩)⟩)⟩)⟩)⟩)⟩) ?_; intro w8 HP8 ho8; have HO8 := Lib.hid ho8; clear ho8))
        rw [HQQ.out]
        exact bodyPost_ret (results_blk rfl _ _ w.heap.size _ [.int .i64 0, .int .i64 0, .string ByteArray.empty, .int .i64 0, .int .i64 0, .int .i64 2] _ rfl HP8.out on_under rfl on_size) rfl ⟨rfl, HWr.out.trans (HO8.out.below (Nat.le_refl _))⟩
      have gl : decide ((200 : Int) < (acc.length : Int)) = false := decide_eq_false (by omega)
      obtain ⟨d, hd⟩ : ∃ d, r[m]? = some d := ⟨r[m], List.getElem?_eq_getElem hlt⟩
      have HC := Lib.hid (show (sb l).data.toList[p + 1 + m]? = some d by rw [sb_list, ← HAT.out]; exact hd)
      have hdr : r.drop m = d :: r.drop (m + 1) := by
        obtain ⟨h1, rfl⟩ := List.getElem?_eq_some_iff.1 hd
        exact List.drop_eq_getElem_cons h1
      have HDR := Lib.hid hdr
      have HTX := Lib.hid hq
      have HK1 := Lib.hid (show IntKind.i64.wrap (((p + 1 + m : Nat) : Int) + 1) = ((p + 1 + (m + 1) : Nat) : Int) from wrap_one (p + 1 + m) (by omega))
      have HK2 := Lib.hid (show IntKind.i64.wrap (((p + 1 + m : Nat) : Int) + 2) = ((p + 1 + (m + 2) : Nat) : Int) from wrap_two (p + 1 + m) (by omega))
      clear hd hdr hq HQ
      by_cases h34 : d.toNat = 34
      · have m34 : ((d.toNat : Int) == 34) = true := by rw [h34]; rfl
        have HQQ := Lib.hid (show q = .tok 3 acc 0 (1 + m + 1) by rw [← HTX.out, HDR.out, txt_quote h34])
        clear h34
        go_upto_region 3 with fail
        refine wp_region_lit ?_
        refine wpList_run 9 rfl rfl (.int .i64 ((p + 1 + m : Nat) : Int)) (exec_move (.tmp 6) rfl _ rfl) ?_
        go_frame
        refine wpList_run 10 rfl rfl (.string (sb l)) (exec_move (.tmp 0) rfl _ rfl) ?_
        go_frame
        refine wpList_run 11 rfl rfl (.int .i64 (sb l).size) (exec_lenS (.tmp 10) rfl (sb l) rfl) ?_
        go_frame
        refine wpList_run 12 rfl rfl (.bool true) (exec_lssI' _ _ _ _ rfl .i64 (((p + 1 + m : Nat) : Int)) ((sb l).size) true l1 rfl rfl) ?_
        go_frame
        refine wpList_nil ?_
        go_upto_region 4 with fail
        refine wp_region_lit ?_
        refine wpList_run 13 rfl rfl (.slice A acc.length ca) (exec_move (.tmp 5) rfl _ rfl) ?_
        go_frame
        refine wpList_run 14 rfl rfl (.int .i64 acc.length) (exec_lenB (.tmp 13) rfl _ acc.length _ rfl) ?_
        go_frame
        refine wpList_run 15 rfl rfl (.bool false) (exec_gtrI _ _ _ _ rfl .i64 (acc.length) (200) false gl rfl rfl) ?_
        go_frame
        refine wpList_nil ?_
        go_upto_region 8 with fail
        refine wp_region_lit ?_
        refine wpList_run 26 rfl rfl (.string (sb l)) (exec_move (.tmp 0) rfl _ rfl) ?_
        go_frame
        refine wpList_run 27 rfl rfl (.int .i64 ((p + 1 + m : Nat) : Int)) (exec_move (.tmp 6) rfl _ rfl) ?_
        go_frame
        refine wpList_run 28 rfl rfl (.int .u8 d.toNat) (exec_index 9 (.tmp 26) (.tmp 27) rfl _ _ (.int .u8 d.toNat) rfl rfl (sb_at (sb l) (k := p + 1 + m) HC.out _)) ?_
        go_frame
        refine wpList_run 29 rfl rfl (.bool true) (exec_eqlI _ _ _ _ rfl .u8 (d.toNat) (34) true m34 rfl rfl) ?_
        go_frame
        refine wpList_run 25 rfl rfl (.bool true) (exec_assign (.tmp 29) rfl _ rfl) ?_
        go_frame
        refine wpList_nil ?_
        have hee : p + 1 + (m + 1) = p + (1 + m + 1) := by omega
        have HEE := Lib.hid hee
        clear hee
        go_wp2_with (first | (refine wpList_dst 32 rfl ?_; refine wpList_run 32 rfl rfl _ (exec_convert 39 9 (.tmp 31) rfl _ (.string (sb acc)) rfl (run_str (OwnB.rd HO.out) ca)) ?_; go_frame) | (refine wpList_dst 33 rfl ?_; refine wpList_run 33 rfl rfl _ (exec_buildF 33 #[(0, .const (.int .i64 3)), (1, .tmp 30), (2, .tmp 32)] rfl #[(0, .int .i64 3), (1, .int .i64 p), (2, .string (sb acc))] rfl _ (build_ks 3 p (sb acc) _)) ?_; go_frame) | (refine wpList_dst 35 rfl ?_; refine wpList_run 35 rfl rfl _ (exec_addI _ (.tmp 34) _ _ rfl _ _ _ rfl rfl HK1.out) ?_; go_frame) | (refine wpList_dst 36 rfl ?_; refine wpList_run 36 rfl rfl _ (exec_buildF 50 #[(0, .tmp 33), (1, .tmp 35)] rfl #[(0, .agg #[.int .i64 3, .int .i64 p, .string (sb acc), .int .i64 0]), (1, .int .i64 ((p + 1 + (m + 1) : Nat) : Int))] rfl _ (build_ot 3 p 0 _ (sb acc) _)) ?_; go_frame) | (refine wpList_store_all rfl 50 (.tmp 4) (.tmp 36) rfl w.heap.size 50 zO [.int .i64 3, .int .i64 p, .string (sb acc), .int .i64 0, .int .i64 ((p + 1 + (m + 1) : Nat) : Int), .int .i64 0] rfl rfl HPr.out rfl on_size (List.forall_mem_cons.2 ⟨rfl, (List.forall_mem_cons.2 ⟨rfl, (List.forall_mem_cons.2 ⟨rfl, (List.forall_mem_cons.2 ⟨rfl, (List.forall_mem_cons.2 ⟨rfl, (List.forall_mem_cons.2 ⟨rfl, fun _ h => nomatch h⟩)⟩)⟩)⟩)⟩)⟩) ?_; intro w8 HP8 ho8; have HO8 := Lib.hid ho8; clear ho8))
        rw [HQQ.out]
        have hfin : oneV p (.tok 3 acc 0 (1 + m + 1)) = .agg #[.int .i64 3, .int .i64 p, .string (sb acc), .int .i64 0, .int .i64 ((p + 1 + (m + 1) : Nat) : Int), .int .i64 0] := by unfold oneV; rw [HEE.out]; rfl
        rw [hfin]
        exact bodyPost_ret (results_blk rfl _ _ w.heap.size _ [.int .i64 3, .int .i64 p, .string (sb acc), .int .i64 0, .int .i64 ((p + 1 + (m + 1) : Nat) : Int), .int .i64 0] _ rfl HP8.out on_under rfl on_size) rfl ⟨rfl, HWr.out.trans (HO8.out.below (Nat.le_refl _))⟩
      have m34 : ((d.toNat : Int) == 34) = false := by rw [beq_eq_false_iff_ne]; omega
      by_cases h92 : d.toNat = 92
      · have m92 : ((d.toNat : Int) == 92) = true := by rw [h92]; rfl
        by_cases hmm : m + 1 < r.length
        · have lm : decide (((p + 1 + (m + 1) : Nat) : Int) < ((sb l).size : Int)) = true := decide_eq_true (by rw [HZ.out]; omega)
          obtain ⟨e, he⟩ : ∃ e, r[m + 1]? = some e := ⟨r[m + 1], List.getElem?_eq_getElem hmm⟩
          have HE := Lib.hid (show (sb l).data.toList[p + 1 + (m + 1)]? = some e by rw [sb_list, ← HAT.out]; exact he)
          have hdr2 : r.drop (m + 1) = e :: r.drop (m + 2) := by
            obtain ⟨h1, rfl⟩ := List.getElem?_eq_some_iff.1 he
            exact List.drop_eq_getElem_cons h1
          by_cases hpe : e.toNat = 34 ∨ e.toNat = 92 ∨ e.toNat = 110
          · obtain ⟨b8, hb1, hb2, hb3⟩ := xchr_92 (q := r.drop (m + 2)) h92 hpe
            rw [← hdr2] at hb3
            have HNX := Lib.hid (TxQ.next ha HTX.out HDR.out h34 hb3 (by decide))
            have HPA := Lib.hid (show ∀ W, Calls Tryd.prog 51 #[.int .u8 e.toNat] W fun e w' => e = .returned (.int .u8 (b8.toNat : Int)) ∧ W = w' from fun W => by have := pair_any e.toNat W; rwa [hb1] at this)
            have mp : (!((b8.toNat : Int) == 0)) = true := by rw [beq_eq_false_iff_ne.2 (by omega)]; rfl
            have hal : acc.length ≤ 70368744177664 := by omega
            clear he hdr2 hpe hb1 hb2 hb3 h92 h34 ha
            go_upto_region 3 with fail
            refine wp_region_lit ?_
            refine wpList_run 9 rfl rfl (.int .i64 ((p + 1 + m : Nat) : Int)) (exec_move (.tmp 6) rfl _ rfl) ?_
            go_frame
            refine wpList_run 10 rfl rfl (.string (sb l)) (exec_move (.tmp 0) rfl _ rfl) ?_
            go_frame
            refine wpList_run 11 rfl rfl (.int .i64 (sb l).size) (exec_lenS (.tmp 10) rfl (sb l) rfl) ?_
            go_frame
            refine wpList_run 12 rfl rfl (.bool true) (exec_lssI' _ _ _ _ rfl .i64 (((p + 1 + m : Nat) : Int)) ((sb l).size) true l1 rfl rfl) ?_
            go_frame
            refine wpList_nil ?_
            go_upto_region 4 with fail
            refine wp_region_lit ?_
            refine wpList_run 13 rfl rfl (.slice A acc.length ca) (exec_move (.tmp 5) rfl _ rfl) ?_
            go_frame
            refine wpList_run 14 rfl rfl (.int .i64 acc.length) (exec_lenB (.tmp 13) rfl _ acc.length _ rfl) ?_
            go_frame
            refine wpList_run 15 rfl rfl (.bool false) (exec_gtrI _ _ _ _ rfl .i64 (acc.length) (200) false gl rfl rfl) ?_
            go_frame
            refine wpList_nil ?_
            go_upto_region 8 with fail
            refine wp_region_lit ?_
            refine wpList_run 26 rfl rfl (.string (sb l)) (exec_move (.tmp 0) rfl _ rfl) ?_
            go_frame
            refine wpList_run 27 rfl rfl (.int .i64 ((p + 1 + m : Nat) : Int)) (exec_move (.tmp 6) rfl _ rfl) ?_
            go_frame
            refine wpList_run 28 rfl rfl (.int .u8 d.toNat) (exec_index 9 (.tmp 26) (.tmp 27) rfl _ _ (.int .u8 d.toNat) rfl rfl (sb_at (sb l) (k := p + 1 + m) HC.out _)) ?_
            go_frame
            refine wpList_run 29 rfl rfl (.bool false) (exec_eqlI _ _ _ _ rfl .u8 (d.toNat) (34) false m34 rfl rfl) ?_
            go_frame
            refine wpList_run 25 rfl rfl (.bool false) (exec_assign (.tmp 29) rfl _ rfl) ?_
            go_frame
            refine wpList_nil ?_
            go_upto_region 10 with fail
            refine wp_region_lit ?_
            refine wpList_run 38 rfl rfl (.string (sb l)) (exec_move (.tmp 0) rfl _ rfl) ?_
            go_frame
            refine wpList_run 39 rfl rfl (.int .i64 ((p + 1 + m : Nat) : Int)) (exec_move (.tmp 6) rfl _ rfl) ?_
            go_frame
            refine wpList_run 40 rfl rfl (.int .u8 d.toNat) (exec_index 9 (.tmp 38) (.tmp 39) rfl _ _ (.int .u8 d.toNat) rfl rfl (sb_at (sb l) (k := p + 1 + m) HC.out _)) ?_
            go_frame
            refine wpList_run 41 rfl rfl (.bool true) (exec_eqlI _ _ _ _ rfl .u8 (d.toNat) (92) true m92 rfl rfl) ?_
            go_frame
            refine wpList_run 42 rfl rfl (.bool true) (exec_move (.tmp 41) rfl _ rfl) ?_
            go_frame
            refine wpList_runG 43 rfl (by first | rfl | kernel_rfl) (.int .i64 ((p + 1 + m : Nat) : Int)) (exec_move (.tmp 6) rfl _ rfl) ?_
            go_frame
            refine wpList_runG 44 rfl (by first | rfl | kernel_rfl) (.int .i64 ((p + 1 + (m + 1) : Nat) : Int)) (exec_addI _ _ _ _ rfl _ _ _ rfl rfl HK1.out) ?_
            go_frame
            refine wpList_runG 45 rfl (by first | rfl | kernel_rfl) (.string (sb l)) (exec_move (.tmp 0) rfl _ rfl) ?_
            go_frame
            refine wpList_runG 46 rfl (by first | rfl | kernel_rfl) (.int .i64 (sb l).size) (exec_lenS (.tmp 45) rfl (sb l) rfl) ?_
            go_frame
            refine wpList_runG 47 rfl (by first | rfl | kernel_rfl) (.bool true) (exec_lssI' _ _ _ _ rfl .i64 (((p + 1 + (m + 1) : Nat) : Int)) ((sb l).size) true lm rfl rfl) ?_
            go_frame
            refine wpList_run 48 rfl rfl (.bool true) (exec_pickT _ _ _ rfl (.bool true) rfl rfl) ?_
            go_frame
            refine wpList_run 49 rfl rfl (.bool true) (exec_move (.tmp 48) rfl _ rfl) ?_
            go_frame
            refine wpList_runG 50 rfl (by first | rfl | kernel_rfl) (.string (sb l)) (exec_move (.tmp 0) rfl _ rfl) ?_
            go_frame
            refine wpList_runG 51 rfl (by first | rfl | kernel_rfl) (.int .i64 ((p + 1 + m : Nat) : Int)) (exec_move (.tmp 6) rfl _ rfl) ?_
            go_frame
            refine wpList_runG 52 rfl (by first | rfl | kernel_rfl) (.int .i64 ((p + 1 + (m + 1) : Nat) : Int)) (exec_addI _ _ _ _ rfl _ _ _ rfl rfl HK1.out) ?_
            go_frame
            refine wpList_runG 53 rfl (by first | rfl | kernel_rfl) (.int .u8 e.toNat) (exec_index 9 (.tmp 50) (.tmp 52) rfl _ _ (.int .u8 e.toNat) rfl rfl (sb_at (sb l) (k := p + 1 + (m + 1)) HE.out _)) ?_
            go_frame
            refine wpList_callF 54 rfl (by first | rfl | kernel_rfl) rfl Tryd.func51 (by kernel_rfl) (by kernel_rfl) #[.int .u8 e.toNat] rfl (HPA.out _) ?_
            rintro e wz ⟨rfl, rfl⟩
            refine ⟨_, rfl, ?_⟩
            go_frame
            refine wpList_runG 55 rfl (by first | rfl | kernel_rfl) (.bool true) (exec_neqlI _ _ _ _ rfl .u8 (b8.toNat) (0) true mp rfl rfl) ?_
            go_frame
            refine wpList_run 56 rfl rfl (.bool true) (exec_pickT _ _ _ rfl (.bool true) rfl rfl) ?_
            go_frame
            refine wpList_run 37 rfl rfl (.bool true) (exec_assign (.tmp 56) rfl _ rfl) ?_
            go_frame
            refine wpList_nil ?_
            go_wp2_with (first | (refine wpList_dst 60 rfl ?_; refine wpList_run 60 rfl rfl _ (exec_addI _ (.tmp 59) _ _ rfl _ _ _ rfl rfl HK1.out) ?_; go_frame) | (refine wpList_dst 61 rfl ?_; refine wpList_run 61 rfl rfl _ (exec_index 9 (.tmp 58) (.tmp 60) rfl _ _ (.int .u8 e.toNat) rfl rfl (sb_at (sb l) (k := p + 1 + (m + 1)) HE.out _)) ?_; go_frame) | ((with_reducible refine (HPA.out _).mono ?_); rintro e w3 ⟨rfl, rfl⟩) | (at_builtin; refine wpList_push rfl (.tmp 57) (.tmp 63) rfl w1.heap.size _ acc rfl HO.out _ b8 rfl HB.out.size (by omega) rfl ?_; intro v5 w5 ho5 hb5; have HO5 := Lib.hid ho5; have HB5 := Lib.hid (HB.out.trans hb5); clear ho5 hb5) | (refine wpList_dst 66 rfl ?_; refine wpList_run 66 rfl rfl _ (exec_addI _ (.tmp 65) _ _ rfl _ _ _ rfl rfl HK2.out) ?_; go_frame))
            go_roundw
            case rel => first | exact ⟨m + 2, acc ++ [b8], by go_num, by omega, HO5, HNX, HB5⟩ | ((repeat apply Exists.intro); exact ⟨⟨m + 2, acc ++ [b8], by go_num, by omega, HO5, HNX, HB5⟩, rfl⟩)
            case measure => simp [intOf]; omega
          · obtain ⟨hb1, hb2⟩ := xchr_92n (q := r.drop (m + 2)) h92 hpe
            rw [← hdr2] at hb2
            have HQQ := Lib.hid (show q = .bad 28 by rw [← HTX.out, HDR.out, txt_bad h34 hb2])
            have HPA := Lib.hid (show ∀ W, Calls Tryd.prog 51 #[.int .u8 e.toNat] W fun e w' => e = .returned (.int .u8 0) ∧ W = w' from fun W => by have := pair_any e.toNat W; rwa [hb1] at this)
            have mp : (!((0 : Int) == 0)) = false := rfl
            clear he hdr2 hpe hb1 hb2 h92 h34 ha
            go_upto_region 3 with fail
            refine wp_region_lit ?_
            refine wpList_run 9 rfl rfl (.int .i64 ((p + 1 + m : Nat) : Int)) (exec_move (.tmp 6) rfl _ rfl) ?_
            go_frame
            refine wpList_run 10 rfl rfl (.string (sb l)) (exec_move (.tmp 0) rfl _ rfl) ?_
            go_frame
            refine wpList_run 11 rfl rfl (.int .i64 (sb l).size) (exec_lenS (.tmp 10) rfl (sb l) rfl) ?_
            go_frame
            refine wpList_run 12 rfl rfl (.bool true) (exec_lssI' _ _ _ _ rfl .i64 (((p + 1 + m : Nat) : Int)) ((sb l).size) true l1 rfl rfl) ?_
            go_frame
            refine wpList_nil ?_
            go_upto_region 4 with fail
            refine wp_region_lit ?_
            refine wpList_run 13 rfl rfl (.slice A acc.length ca) (exec_move (.tmp 5) rfl _ rfl) ?_
            go_frame
            refine wpList_run 14 rfl rfl (.int .i64 acc.length) (exec_lenB (.tmp 13) rfl _ acc.length _ rfl) ?_
            go_frame
            refine wpList_run 15 rfl rfl (.bool false) (exec_gtrI _ _ _ _ rfl .i64 (acc.length) (200) false gl rfl rfl) ?_
            go_frame
            refine wpList_nil ?_
            go_upto_region 8 with fail
            refine wp_region_lit ?_
            refine wpList_run 26 rfl rfl (.string (sb l)) (exec_move (.tmp 0) rfl _ rfl) ?_
            go_frame
            refine wpList_run 27 rfl rfl (.int .i64 ((p + 1 + m : Nat) : Int)) (exec_move (.tmp 6) rfl _ rfl) ?_
            go_frame
            refine wpList_run 28 rfl rfl (.int .u8 d.toNat) (exec_index 9 (.tmp 26) (.tmp 27) rfl _ _ (.int .u8 d.toNat) rfl rfl (sb_at (sb l) (k := p + 1 + m) HC.out _)) ?_
            go_frame
            refine wpList_run 29 rfl rfl (.bool false) (exec_eqlI _ _ _ _ rfl .u8 (d.toNat) (34) false m34 rfl rfl) ?_
            go_frame
            refine wpList_run 25 rfl rfl (.bool false) (exec_assign (.tmp 29) rfl _ rfl) ?_
            go_frame
            refine wpList_nil ?_
            go_upto_region 10 with fail
            refine wp_region_lit ?_
            refine wpList_run 38 rfl rfl (.string (sb l)) (exec_move (.tmp 0) rfl _ rfl) ?_
            go_frame
            refine wpList_run 39 rfl rfl (.int .i64 ((p + 1 + m : Nat) : Int)) (exec_move (.tmp 6) rfl _ rfl) ?_
            go_frame
            refine wpList_run 40 rfl rfl (.int .u8 d.toNat) (exec_index 9 (.tmp 38) (.tmp 39) rfl _ _ (.int .u8 d.toNat) rfl rfl (sb_at (sb l) (k := p + 1 + m) HC.out _)) ?_
            go_frame
            refine wpList_run 41 rfl rfl (.bool true) (exec_eqlI _ _ _ _ rfl .u8 (d.toNat) (92) true m92 rfl rfl) ?_
            go_frame
            refine wpList_run 42 rfl rfl (.bool true) (exec_move (.tmp 41) rfl _ rfl) ?_
            go_frame
            refine wpList_runG 43 rfl (by first | rfl | kernel_rfl) (.int .i64 ((p + 1 + m : Nat) : Int)) (exec_move (.tmp 6) rfl _ rfl) ?_
            go_frame
            refine wpList_runG 44 rfl (by first | rfl | kernel_rfl) (.int .i64 ((p + 1 + (m + 1) : Nat) : Int)) (exec_addI _ _ _ _ rfl _ _ _ rfl rfl HK1.out) ?_
            go_frame
            refine wpList_runG 45 rfl (by first | rfl | kernel_rfl) (.string (sb l)) (exec_move (.tmp 0) rfl _ rfl) ?_
            go_frame
            refine wpList_runG 46 rfl (by first | rfl | kernel_rfl) (.int .i64 (sb l).size) (exec_lenS (.tmp 45) rfl (sb l) rfl) ?_
            go_frame
            refine wpList_runG 47 rfl (by first | rfl | kernel_rfl) (.bool true) (exec_lssI' _ _ _ _ rfl .i64 (((p + 1 + (m + 1) : Nat) : Int)) ((sb l).size) true lm rfl rfl) ?_
            go_frame
            refine wpList_run 48 rfl rfl (.bool true) (exec_pickT _ _ _ rfl (.bool true) rfl rfl) ?_
            go_frame
            refine wpList_run 49 rfl rfl (.bool true) (exec_move (.tmp 48) rfl _ rfl) ?_
            go_frame
            refine wpList_runG 50 rfl (by first | rfl | kernel_rfl) (.string (sb l)) (exec_move (.tmp 0) rfl _ rfl) ?_
            go_frame
            refine wpList_runG 51 rfl (by first | rfl | kernel_rfl) (.int .i64 ((p + 1 + m : Nat) : Int)) (exec_move (.tmp 6) rfl _ rfl) ?_
            go_frame
            refine wpList_runG 52 rfl (by first | rfl | kernel_rfl) (.int .i64 ((p + 1 + (m + 1) : Nat) : Int)) (exec_addI _ _ _ _ rfl _ _ _ rfl rfl HK1.out) ?_
            go_frame
            refine wpList_runG 53 rfl (by first | rfl | kernel_rfl) (.int .u8 e.toNat) (exec_index 9 (.tmp 50) (.tmp 52) rfl _ _ (.int .u8 e.toNat) rfl rfl (sb_at (sb l) (k := p + 1 + (m + 1)) HE.out _)) ?_
            go_frame
            refine wpList_callF 54 rfl (by first | rfl | kernel_rfl) rfl Tryd.func51 (by kernel_rfl) (by kernel_rfl) #[.int .u8 e.toNat] rfl (HPA.out _) ?_
            rintro e wz ⟨rfl, rfl⟩
            refine ⟨_, rfl, ?_⟩
            go_frame
            refine wpList_runG 55 rfl (by first | rfl | kernel_rfl) (.bool false) (exec_neqlI _ _ _ _ rfl .u8 (0) (0) false mp rfl rfl) ?_
            go_frame
            refine wpList_run 56 rfl rfl (.bool false) (exec_pickT _ _ _ rfl (.bool false) rfl rfl) ?_
            go_frame
            refine wpList_run 37 rfl rfl (.bool false) (exec_assign (.tmp 56) rfl _ rfl) ?_
            go_frame
            refine wpList_nil ?_
            go_upto_region 13 with fail
            refine wp_region_lit ?_
            refine wpList_run 68 rfl rfl (.string (sb l)) (exec_move (.tmp 0) rfl _ rfl) ?_
            go_frame
            refine wpList_run 69 rfl rfl (.int .i64 ((p + 1 + m : Nat) : Int)) (exec_move (.tmp 6) rfl _ rfl) ?_
            go_frame
            refine wpList_run 70 rfl rfl (.int .u8 d.toNat) (exec_index 9 (.tmp 68) (.tmp 69) rfl _ _ (.int .u8 d.toNat) rfl rfl (sb_at (sb l) (k := p + 1 + m) HC.out _)) ?_
            go_frame
            refine wpList_run 71 rfl rfl (.bool true) (exec_eqlI _ _ _ _ rfl .u8 (d.toNat) (92) true m92 rfl rfl) ?_
            go_frame
            refine wpList_runSkip 72 rfl (by first | rfl | kernel_rfl) (.bool true) (exec_move (.tmp 71) rfl _ rfl) 4 [73, 74, 75, 76] (by kernel_rfl) ?_
            simp only [List.drop_succ_cons, List.drop_zero, List.foldl_cons, List.foldl_nil]
            go_frame
            refine wpList_run 77 rfl rfl (.bool true) (exec_pickT _ _ _ rfl (.bool true) rfl rfl) ?_
            go_frame
            refine wpList_runSkip 78 rfl (by first | rfl | kernel_rfl) (.bool true) (exec_move (.tmp 77) rfl _ rfl) 4 [79, 80, 81, 82] (by kernel_rfl) ?_
            simp only [List.drop_succ_cons, List.drop_zero, List.foldl_cons, List.foldl_nil]
            go_frame
            refine wpList_run 83 rfl rfl (.bool true) (exec_pickT _ _ _ rfl (.bool true) rfl rfl) ?_
            go_frame
            refine wpList_run 67 rfl rfl (.bool true) (exec_assign (.tmp 83) rfl _ rfl) ?_
            go_frame
            refine wpList_nil ?_
            go_wp2_with (first | (refine wpList_dst 84 rfl ?_; refine wpList_run 84 rfl rfl _ (exec_buildF 50 #[(2, .const (.int .i64 28))] rfl #[(2, .int .i64 28)] rfl _ (build_oe 28 _)) ?_; go_frame) | (refine wpList_store_all rfl 50 (.tmp 4) (.tmp 84) rfl w.heap.size 50 zO [.int .i64 0, .int .i64 0, .string ByteArray.empty, .int .i64 0, .int .i64 0, .int .i64 28] rfl rfl HPr.out rfl on_size (List.forall_mem_cons.2 ⟨rfl, (List.forall_mem_cons.2 ⟨rfl, (List.forall_mem_cons.2 ⟨rfl, (List.forall_mem_cons.2 ⟨rfl, (List.forall_mem_cons.2 ⟨rfl, (List.forall_mem_cons.2 ⟨rfl, fun _ h => nomatch h⟩)⟩)⟩)⟩)⟩)⟩) ?_; intro w8 HP8 ho8; have HO8 := Lib.hid ho8; clear ho8))
            rw [HQQ.out]
            exact bodyPost_ret (results_blk rfl _ _ w.heap.size _ [.int .i64 0, .int .i64 0, .string ByteArray.empty, .int .i64 0, .int .i64 0, .int .i64 28] _ rfl HP8.out on_under rfl on_size) rfl ⟨rfl, HWr.out.trans (HO8.out.below (Nat.le_refl _))⟩
        · have lm : decide (((p + 1 + (m + 1) : Nat) : Int) < ((sb l).size : Int)) = false := decide_eq_false (by rw [HZ.out]; omega)
          have HQQ := Lib.hid (show q = .bad 28 by
            have h5 : r.drop (m + 1) = [] := List.drop_eq_nil_of_le (by omega)
            rw [← HTX.out, HDR.out, h5, txt_bad h34 (xchr_92e h92)])
          clear h92 h34 ha
          go_upto_region 3 with fail
          refine wp_region_lit ?_
          refine wpList_run 9 rfl rfl (.int .i64 ((p + 1 + m : Nat) : Int)) (exec_move (.tmp 6) rfl _ rfl) ?_
          go_frame
          refine wpList_run 10 rfl rfl (.string (sb l)) (exec_move (.tmp 0) rfl _ rfl) ?_
          go_frame
          refine wpList_run 11 rfl rfl (.int .i64 (sb l).size) (exec_lenS (.tmp 10) rfl (sb l) rfl) ?_
          go_frame
          refine wpList_run 12 rfl rfl (.bool true) (exec_lssI' _ _ _ _ rfl .i64 (((p + 1 + m : Nat) : Int)) ((sb l).size) true l1 rfl rfl) ?_
          go_frame
          refine wpList_nil ?_
          go_upto_region 4 with fail
          refine wp_region_lit ?_
          refine wpList_run 13 rfl rfl (.slice A acc.length ca) (exec_move (.tmp 5) rfl _ rfl) ?_
          go_frame
          refine wpList_run 14 rfl rfl (.int .i64 acc.length) (exec_lenB (.tmp 13) rfl _ acc.length _ rfl) ?_
          go_frame
          refine wpList_run 15 rfl rfl (.bool false) (exec_gtrI _ _ _ _ rfl .i64 (acc.length) (200) false gl rfl rfl) ?_
          go_frame
          refine wpList_nil ?_
          go_upto_region 8 with fail
          refine wp_region_lit ?_
          refine wpList_run 26 rfl rfl (.string (sb l)) (exec_move (.tmp 0) rfl _ rfl) ?_
          go_frame
          refine wpList_run 27 rfl rfl (.int .i64 ((p + 1 + m : Nat) : Int)) (exec_move (.tmp 6) rfl _ rfl) ?_
          go_frame
          refine wpList_run 28 rfl rfl (.int .u8 d.toNat) (exec_index 9 (.tmp 26) (.tmp 27) rfl _ _ (.int .u8 d.toNat) rfl rfl (sb_at (sb l) (k := p + 1 + m) HC.out _)) ?_
          go_frame
          refine wpList_run 29 rfl rfl (.bool false) (exec_eqlI _ _ _ _ rfl .u8 (d.toNat) (34) false m34 rfl rfl) ?_
          go_frame
          refine wpList_run 25 rfl rfl (.bool false) (exec_assign (.tmp 29) rfl _ rfl) ?_
          go_frame
          refine wpList_nil ?_
          go_upto_region 10 with fail
          refine wp_region_lit ?_
          refine wpList_run 38 rfl rfl (.string (sb l)) (exec_move (.tmp 0) rfl _ rfl) ?_
          go_frame
          refine wpList_run 39 rfl rfl (.int .i64 ((p + 1 + m : Nat) : Int)) (exec_move (.tmp 6) rfl _ rfl) ?_
          go_frame
          refine wpList_run 40 rfl rfl (.int .u8 d.toNat) (exec_index 9 (.tmp 38) (.tmp 39) rfl _ _ (.int .u8 d.toNat) rfl rfl (sb_at (sb l) (k := p + 1 + m) HC.out _)) ?_
          go_frame
          refine wpList_run 41 rfl rfl (.bool true) (exec_eqlI _ _ _ _ rfl .u8 (d.toNat) (92) true m92 rfl rfl) ?_
          go_frame
          refine wpList_run 42 rfl rfl (.bool true) (exec_move (.tmp 41) rfl _ rfl) ?_
          go_frame
          refine wpList_runG 43 rfl (by first | rfl | kernel_rfl) (.int .i64 ((p + 1 + m : Nat) : Int)) (exec_move (.tmp 6) rfl _ rfl) ?_
          go_frame
          refine wpList_runG 44 rfl (by first | rfl | kernel_rfl) (.int .i64 ((p + 1 + (m + 1) : Nat) : Int)) (exec_addI _ _ _ _ rfl _ _ _ rfl rfl HK1.out) ?_
          go_frame
          refine wpList_runG 45 rfl (by first | rfl | kernel_rfl) (.string (sb l)) (exec_move (.tmp 0) rfl _ rfl) ?_
          go_frame
          refine wpList_runG 46 rfl (by first | rfl | kernel_rfl) (.int .i64 (sb l).size) (exec_lenS (.tmp 45) rfl (sb l) rfl) ?_
          go_frame
          refine wpList_runG 47 rfl (by first | rfl | kernel_rfl) (.bool false) (exec_lssI' _ _ _ _ rfl .i64 (((p + 1 + (m + 1) : Nat) : Int)) ((sb l).size) false lm rfl rfl) ?_
          go_frame
          refine wpList_run 48 rfl rfl (.bool false) (exec_pickT _ _ _ rfl (.bool false) rfl rfl) ?_
          go_frame
          refine wpList_runSkip 49 rfl (by first | rfl | kernel_rfl) (.bool false) (exec_move (.tmp 48) rfl _ rfl) 6 [50, 51, 52, 53, 54, 55] (by kernel_rfl) ?_
          simp only [List.drop_succ_cons, List.drop_zero, List.foldl_cons, List.foldl_nil]
          go_frame
          refine wpList_run 56 rfl rfl (.bool false) (exec_pickF _ _ _ rfl (.bool false) rfl rfl) ?_
          go_frame
          refine wpList_run 37 rfl rfl (.bool false) (exec_assign (.tmp 56) rfl _ rfl) ?_
          go_frame
          refine wpList_nil ?_
          go_upto_region 13 with fail
          refine wp_region_lit ?_
          refine wpList_run 68 rfl rfl (.string (sb l)) (exec_move (.tmp 0) rfl _ rfl) ?_
          go_frame
          refine wpList_run 69 rfl rfl (.int .i64 ((p + 1 + m : Nat) : Int)) (exec_move (.tmp 6) rfl _ rfl) ?_
          go_frame
          refine wpList_run 70 rfl rfl (.int .u8 d.toNat) (exec_index 9 (.tmp 68) (.tmp 69) rfl _ _ (.int .u8 d.toNat) rfl rfl (sb_at (sb l) (k := p + 1 + m) HC.out _)) ?_
          go_frame
          refine wpList_run 71 rfl rfl (.bool true) (exec_eqlI _ _ _ _ rfl .u8 (d.toNat) (92) true m92 rfl rfl) ?_
          go_frame
          refine wpList_runSkip 72 rfl (by first | rfl | kernel_rfl) (.bool true) (exec_move (.tmp 71) rfl _ rfl) 4 [73, 74, 75, 76] (by kernel_rfl) ?_
          simp only [List.drop_succ_cons, List.drop_zero, List.foldl_cons, List.foldl_nil]
          go_frame
          refine wpList_run 77 rfl rfl (.bool true) (exec_pickT _ _ _ rfl (.bool true) rfl rfl) ?_
          go_frame
          refine wpList_runSkip 78 rfl (by first | rfl | kernel_rfl) (.bool true) (exec_move (.tmp 77) rfl _ rfl) 4 [79, 80, 81, 82] (by kernel_rfl) ?_
          simp only [List.drop_succ_cons, List.drop_zero, List.foldl_cons, List.foldl_nil]
          go_frame
          refine wpList_run 83 rfl rfl (.bool true) (exec_pickT _ _ _ rfl (.bool true) rfl rfl) ?_
          go_frame
          refine wpList_run 67 rfl rfl (.bool true) (exec_assign (.tmp 83) rfl _ rfl) ?_
          go_frame
          refine wpList_nil ?_
          go_wp2_with (first | (refine wpList_dst 84 rfl ?_; refine wpList_run 84 rfl rfl _ (exec_buildF 50 #[(2, .const (.int .i64 28))] rfl #[(2, .int .i64 28)] rfl _ (build_oe 28 _)) ?_; go_frame) | (refine wpList_store_all rfl 50 (.tmp 4) (.tmp 84) rfl w.heap.size 50 zO [.int .i64 0, .int .i64 0, .string ByteArray.empty, .int .i64 0, .int .i64 0, .int .i64 28] rfl rfl HPr.out rfl on_size (List.forall_mem_cons.2 ⟨rfl, (List.forall_mem_cons.2 ⟨rfl, (List.forall_mem_cons.2 ⟨rfl, (List.forall_mem_cons.2 ⟨rfl, (List.forall_mem_cons.2 ⟨rfl, (List.forall_mem_cons.2 ⟨rfl, fun _ h => nomatch h⟩)⟩)⟩)⟩)⟩)⟩) ?_; intro w8 HP8 ho8; have HO8 := Lib.hid ho8; clear ho8))
          rw [HQQ.out]
          exact bodyPost_ret (results_blk rfl _ _ w.heap.size _ [.int .i64 0, .int .i64 0, .string ByteArray.empty, .int .i64 0, .int .i64 0, .int .i64 28] _ rfl HP8.out on_under rfl on_size) rfl ⟨rfl, HWr.out.trans (HO8.out.below (Nat.le_refl _))⟩
      have m92 : ((d.toNat : Int) == 92) = false := by rw [beq_eq_false_iff_ne]; omega
      by_cases hlo : d.toNat < 32
      · have mlo : decide ((d.toNat : Int) < 32) = true := decide_eq_true (by omega)
        have HQQ := Lib.hid (show q = .bad 28 by rw [← HTX.out, HDR.out, txt_bad h34 (xchr_no (by simp [pl]; omega) h92)])
        clear h92 h34 ha hlo
        go_upto_region 3 with fail
        refine wp_region_lit ?_
        refine wpList_run 9 rfl rfl (.int .i64 ((p + 1 + m : Nat) : Int)) (exec_move (.tmp 6) rfl _ rfl) ?_
        go_frame
        refine wpList_run 10 rfl rfl (.string (sb l)) (exec_move (.tmp 0) rfl _ rfl) ?_
        go_frame
        refine wpList_run 11 rfl rfl (.int .i64 (sb l).size) (exec_lenS (.tmp 10) rfl (sb l) rfl) ?_
        go_frame
        refine wpList_run 12 rfl rfl (.bool true) (exec_lssI' _ _ _ _ rfl .i64 (((p + 1 + m : Nat) : Int)) ((sb l).size) true l1 rfl rfl) ?_
        go_frame
        refine wpList_nil ?_
        go_upto_region 4 with fail
        refine wp_region_lit ?_
        refine wpList_run 13 rfl rfl (.slice A acc.length ca) (exec_move (.tmp 5) rfl _ rfl) ?_
        go_frame
        refine wpList_run 14 rfl rfl (.int .i64 acc.length) (exec_lenB (.tmp 13) rfl _ acc.length _ rfl) ?_
        go_frame
        refine wpList_run 15 rfl rfl (.bool false) (exec_gtrI _ _ _ _ rfl .i64 (acc.length) (200) false gl rfl rfl) ?_
        go_frame
        refine wpList_nil ?_
        go_upto_region 8 with fail
        refine wp_region_lit ?_
        refine wpList_run 26 rfl rfl (.string (sb l)) (exec_move (.tmp 0) rfl _ rfl) ?_
        go_frame
        refine wpList_run 27 rfl rfl (.int .i64 ((p + 1 + m : Nat) : Int)) (exec_move (.tmp 6) rfl _ rfl) ?_
        go_frame
        refine wpList_run 28 rfl rfl (.int .u8 d.toNat) (exec_index 9 (.tmp 26) (.tmp 27) rfl _ _ (.int .u8 d.toNat) rfl rfl (sb_at (sb l) (k := p + 1 + m) HC.out _)) ?_
        go_frame
        refine wpList_run 29 rfl rfl (.bool false) (exec_eqlI _ _ _ _ rfl .u8 (d.toNat) (34) false m34 rfl rfl) ?_
        go_frame
        refine wpList_run 25 rfl rfl (.bool false) (exec_assign (.tmp 29) rfl _ rfl) ?_
        go_frame
        refine wpList_nil ?_
        go_upto_region 10 with fail
        refine wp_region_lit ?_
        refine wpList_run 38 rfl rfl (.string (sb l)) (exec_move (.tmp 0) rfl _ rfl) ?_
        go_frame
        refine wpList_run 39 rfl rfl (.int .i64 ((p + 1 + m : Nat) : Int)) (exec_move (.tmp 6) rfl _ rfl) ?_
        go_frame
        refine wpList_run 40 rfl rfl (.int .u8 d.toNat) (exec_index 9 (.tmp 38) (.tmp 39) rfl _ _ (.int .u8 d.toNat) rfl rfl (sb_at (sb l) (k := p + 1 + m) HC.out _)) ?_
        go_frame
        refine wpList_run 41 rfl rfl (.bool false) (exec_eqlI _ _ _ _ rfl .u8 (d.toNat) (92) false m92 rfl rfl) ?_
        go_frame
        refine wpList_runSkip 42 rfl (by first | rfl | kernel_rfl) (.bool false) (exec_move (.tmp 41) rfl _ rfl) 5 [43, 44, 45, 46, 47] (by kernel_rfl) ?_
        simp only [List.drop_succ_cons, List.drop_zero, List.foldl_cons, List.foldl_nil]
        go_frame
        refine wpList_run 48 rfl rfl (.bool false) (exec_pickF _ _ _ rfl (.bool false) rfl rfl) ?_
        go_frame
        refine wpList_runSkip 49 rfl (by first | rfl | kernel_rfl) (.bool false) (exec_move (.tmp 48) rfl _ rfl) 6 [50, 51, 52, 53, 54, 55] (by kernel_rfl) ?_
        simp only [List.drop_succ_cons, List.drop_zero, List.foldl_cons, List.foldl_nil]
        go_frame
        refine wpList_run 56 rfl rfl (.bool false) (exec_pickF _ _ _ rfl (.bool false) rfl rfl) ?_
        go_frame
        refine wpList_run 37 rfl rfl (.bool false) (exec_assign (.tmp 56) rfl _ rfl) ?_
        go_frame
        refine wpList_nil ?_
        go_upto_region 13 with fail
        refine wp_region_lit ?_
        refine wpList_run 68 rfl rfl (.string (sb l)) (exec_move (.tmp 0) rfl _ rfl) ?_
        go_frame
        refine wpList_run 69 rfl rfl (.int .i64 ((p + 1 + m : Nat) : Int)) (exec_move (.tmp 6) rfl _ rfl) ?_
        go_frame
        refine wpList_run 70 rfl rfl (.int .u8 d.toNat) (exec_index 9 (.tmp 68) (.tmp 69) rfl _ _ (.int .u8 d.toNat) rfl rfl (sb_at (sb l) (k := p + 1 + m) HC.out _)) ?_
        go_frame
        refine wpList_run 71 rfl rfl (.bool false) (exec_eqlI _ _ _ _ rfl .u8 (d.toNat) (92) false m92 rfl rfl) ?_
        go_frame
        refine wpList_run 72 rfl rfl (.bool false) (exec_move (.tmp 71) rfl _ rfl) ?_
        go_frame
        refine wpList_runG 73 rfl (by first | rfl | kernel_rfl) (.string (sb l)) (exec_move (.tmp 0) rfl _ rfl) ?_
        go_frame
        refine wpList_runG 74 rfl (by first | rfl | kernel_rfl) (.int .i64 ((p + 1 + m : Nat) : Int)) (exec_move (.tmp 6) rfl _ rfl) ?_
        go_frame
        refine wpList_runG 75 rfl (by first | rfl | kernel_rfl) (.int .u8 d.toNat) (exec_index 9 (.tmp 73) (.tmp 74) rfl _ _ (.int .u8 d.toNat) rfl rfl (sb_at (sb l) (k := p + 1 + m) HC.out _)) ?_
        go_frame
        refine wpList_runG 76 rfl (by first | rfl | kernel_rfl) (.bool true) (exec_lssI' _ _ _ _ rfl .u8 (d.toNat) (32) true mlo rfl rfl) ?_
        go_frame
        refine wpList_run 77 rfl rfl (.bool true) (exec_pickF _ _ _ rfl (.bool true) rfl rfl) ?_
        go_frame
        refine wpList_runSkip 78 rfl (by first | rfl | kernel_rfl) (.bool true) (exec_move (.tmp 77) rfl _ rfl) 4 [79, 80, 81, 82] (by kernel_rfl) ?_
        simp only [List.drop_succ_cons, List.drop_zero, List.foldl_cons, List.foldl_nil]
        go_frame
        refine wpList_run 83 rfl rfl (.bool true) (exec_pickT _ _ _ rfl (.bool true) rfl rfl) ?_
        go_frame
        refine wpList_run 67 rfl rfl (.bool true) (exec_assign (.tmp 83) rfl _ rfl) ?_
        go_frame
        refine wpList_nil ?_
        go_wp2_with (first | (refine wpList_dst 84 rfl ?_; refine wpList_run 84 rfl rfl _ (exec_buildF 50 #[(2, .const (.int .i64 28))] rfl #[(2, .int .i64 28)] rfl _ (build_oe 28 _)) ?_; go_frame) | (refine wpList_store_all rfl 50 (.tmp 4) (.tmp 84) rfl w.heap.size 50 zO [.int .i64 0, .int .i64 0, .string ByteArray.empty, .int .i64 0, .int .i64 0, .int .i64 28] rfl rfl HPr.out rfl on_size (List.forall_mem_cons.2 ⟨rfl, (List.forall_mem_cons.2 ⟨rfl, (List.forall_mem_cons.2 ⟨rfl, (List.forall_mem_cons.2 ⟨rfl, (List.forall_mem_cons.2 ⟨rfl, (List.forall_mem_cons.2 ⟨rfl, fun _ h => nomatch h⟩)⟩)⟩)⟩)⟩)⟩) ?_; intro w8 HP8 ho8; have HO8 := Lib.hid ho8; clear ho8))
        rw [HQQ.out]
        exact bodyPost_ret (results_blk rfl _ _ w.heap.size _ [.int .i64 0, .int .i64 0, .string ByteArray.empty, .int .i64 0, .int .i64 0, .int .i64 28] _ rfl HP8.out on_under rfl on_size) rfl ⟨rfl, HWr.out.trans (HO8.out.below (Nat.le_refl _))⟩
      have mlo : decide ((d.toNat : Int) < 32) = false := decide_eq_false (by omega)
      by_cases hhi : 126 < d.toNat
      · have mhi : decide ((126 : Int) < (d.toNat : Int)) = true := decide_eq_true (by omega)
        have HQQ := Lib.hid (show q = .bad 28 by rw [← HTX.out, HDR.out, txt_bad h34 (xchr_no (by simp [pl]; omega) h92)])
        clear h92 h34 ha hlo hhi
        go_upto_region 3 with fail
        refine wp_region_lit ?_
        refine wpList_run 9 rfl rfl (.int .i64 ((p + 1 + m : Nat) : Int)) (exec_move (.tmp 6) rfl _ rfl) ?_
        go_frame
        refine wpList_run 10 rfl rfl (.string (sb l)) (exec_move (.tmp 0) rfl _ rfl) ?_
        go_frame
        refine wpList_run 11 rfl rfl (.int .i64 (sb l).size) (exec_lenS (.tmp 10) rfl (sb l) rfl) ?_
        go_frame
        refine wpList_run 12 rfl rfl (.bool true) (exec_lssI' _ _ _ _ rfl .i64 (((p + 1 + m : Nat) : Int)) ((sb l).size) true l1 rfl rfl) ?_
        go_frame
        refine wpList_nil ?_
        go_upto_region 4 with fail
        refine wp_region_lit ?_
        refine wpList_run 13 rfl rfl (.slice A acc.length ca) (exec_move (.tmp 5) rfl _ rfl) ?_
        go_frame
        refine wpList_run 14 rfl rfl (.int .i64 acc.length) (exec_lenB (.tmp 13) rfl _ acc.length _ rfl) ?_
        go_frame
        refine wpList_run 15 rfl rfl (.bool false) (exec_gtrI _ _ _ _ rfl .i64 (acc.length) (200) false gl rfl rfl) ?_
        go_frame
        refine wpList_nil ?_
        go_upto_region 8 with fail
        refine wp_region_lit ?_
        refine wpList_run 26 rfl rfl (.string (sb l)) (exec_move (.tmp 0) rfl _ rfl) ?_
        go_frame
        refine wpList_run 27 rfl rfl (.int .i64 ((p + 1 + m : Nat) : Int)) (exec_move (.tmp 6) rfl _ rfl) ?_
        go_frame
        refine wpList_run 28 rfl rfl (.int .u8 d.toNat) (exec_index 9 (.tmp 26) (.tmp 27) rfl _ _ (.int .u8 d.toNat) rfl rfl (sb_at (sb l) (k := p + 1 + m) HC.out _)) ?_
        go_frame
        refine wpList_run 29 rfl rfl (.bool false) (exec_eqlI _ _ _ _ rfl .u8 (d.toNat) (34) false m34 rfl rfl) ?_
        go_frame
        refine wpList_run 25 rfl rfl (.bool false) (exec_assign (.tmp 29) rfl _ rfl) ?_
        go_frame
        refine wpList_nil ?_
        go_upto_region 10 with fail
        refine wp_region_lit ?_
        refine wpList_run 38 rfl rfl (.string (sb l)) (exec_move (.tmp 0) rfl _ rfl) ?_
        go_frame
        refine wpList_run 39 rfl rfl (.int .i64 ((p + 1 + m : Nat) : Int)) (exec_move (.tmp 6) rfl _ rfl) ?_
        go_frame
        refine wpList_run 40 rfl rfl (.int .u8 d.toNat) (exec_index 9 (.tmp 38) (.tmp 39) rfl _ _ (.int .u8 d.toNat) rfl rfl (sb_at (sb l) (k := p + 1 + m) HC.out _)) ?_
        go_frame
        refine wpList_run 41 rfl rfl (.bool false) (exec_eqlI _ _ _ _ rfl .u8 (d.toNat) (92) false m92 rfl rfl) ?_
        go_frame
        refine wpList_runSkip 42 rfl (by first | rfl | kernel_rfl) (.bool false) (exec_move (.tmp 41) rfl _ rfl) 5 [43, 44, 45, 46, 47] (by kernel_rfl) ?_
        simp only [List.drop_succ_cons, List.drop_zero, List.foldl_cons, List.foldl_nil]
        go_frame
        refine wpList_run 48 rfl rfl (.bool false) (exec_pickF _ _ _ rfl (.bool false) rfl rfl) ?_
        go_frame
        refine wpList_runSkip 49 rfl (by first | rfl | kernel_rfl) (.bool false) (exec_move (.tmp 48) rfl _ rfl) 6 [50, 51, 52, 53, 54, 55] (by kernel_rfl) ?_
        simp only [List.drop_succ_cons, List.drop_zero, List.foldl_cons, List.foldl_nil]
        go_frame
        refine wpList_run 56 rfl rfl (.bool false) (exec_pickF _ _ _ rfl (.bool false) rfl rfl) ?_
        go_frame
        refine wpList_run 37 rfl rfl (.bool false) (exec_assign (.tmp 56) rfl _ rfl) ?_
        go_frame
        refine wpList_nil ?_
        go_upto_region 13 with fail
        refine wp_region_lit ?_
        refine wpList_run 68 rfl rfl (.string (sb l)) (exec_move (.tmp 0) rfl _ rfl) ?_
        go_frame
        refine wpList_run 69 rfl rfl (.int .i64 ((p + 1 + m : Nat) : Int)) (exec_move (.tmp 6) rfl _ rfl) ?_
        go_frame
        refine wpList_run 70 rfl rfl (.int .u8 d.toNat) (exec_index 9 (.tmp 68) (.tmp 69) rfl _ _ (.int .u8 d.toNat) rfl rfl (sb_at (sb l) (k := p + 1 + m) HC.out _)) ?_
        go_frame
        refine wpList_run 71 rfl rfl (.bool false) (exec_eqlI _ _ _ _ rfl .u8 (d.toNat) (92) false m92 rfl rfl) ?_
        go_frame
        refine wpList_run 72 rfl rfl (.bool false) (exec_move (.tmp 71) rfl _ rfl) ?_
        go_frame
        refine wpList_runG 73 rfl (by first | rfl | kernel_rfl) (.string (sb l)) (exec_move (.tmp 0) rfl _ rfl) ?_
        go_frame
        refine wpList_runG 74 rfl (by first | rfl | kernel_rfl) (.int .i64 ((p + 1 + m : Nat) : Int)) (exec_move (.tmp 6) rfl _ rfl) ?_
        go_frame
        refine wpList_runG 75 rfl (by first | rfl | kernel_rfl) (.int .u8 d.toNat) (exec_index 9 (.tmp 73) (.tmp 74) rfl _ _ (.int .u8 d.toNat) rfl rfl (sb_at (sb l) (k := p + 1 + m) HC.out _)) ?_
        go_frame
        refine wpList_runG 76 rfl (by first | rfl | kernel_rfl) (.bool false) (exec_lssI' _ _ _ _ rfl .u8 (d.toNat) (32) false mlo rfl rfl) ?_
        go_frame
        refine wpList_run 77 rfl rfl (.bool false) (exec_pickF _ _ _ rfl (.bool false) rfl rfl) ?_
        go_frame
        refine wpList_run 78 rfl rfl (.bool false) (exec_move (.tmp 77) rfl _ rfl) ?_
        go_frame
        refine wpList_runG 79 rfl (by first | rfl | kernel_rfl) (.string (sb l)) (exec_move (.tmp 0) rfl _ rfl) ?_
        go_frame
        refine wpList_runG 80 rfl (by first | rfl | kernel_rfl) (.int .i64 ((p + 1 + m : Nat) : Int)) (exec_move (.tmp 6) rfl _ rfl) ?_
        go_frame
        refine wpList_runG 81 rfl (by first | rfl | kernel_rfl) (.int .u8 d.toNat) (exec_index 9 (.tmp 79) (.tmp 80) rfl _ _ (.int .u8 d.toNat) rfl rfl (sb_at (sb l) (k := p + 1 + m) HC.out _)) ?_
        go_frame
        refine wpList_runG 82 rfl (by first | rfl | kernel_rfl) (.bool true) (exec_gtrI _ _ _ _ rfl .u8 (d.toNat) (126) true mhi rfl rfl) ?_
        go_frame
        refine wpList_run 83 rfl rfl (.bool true) (exec_pickF _ _ _ rfl (.bool true) rfl rfl) ?_
        go_frame
        refine wpList_run 67 rfl rfl (.bool true) (exec_assign (.tmp 83) rfl _ rfl) ?_
        go_frame
        refine wpList_nil ?_
        go_wp2_with (first | (refine wpList_dst 84 rfl ?_; refine wpList_run 84 rfl rfl _ (exec_buildF 50 #[(2, .const (.int .i64 28))] rfl #[(2, .int .i64 28)] rfl _ (build_oe 28 _)) ?_; go_frame) | (refine wpList_store_all rfl 50 (.tmp 4) (.tmp 84) rfl w.heap.size 50 zO [.int .i64 0, .int .i64 0, .string ByteArray.empty, .int .i64 0, .int .i64 0, .int .i64 28] rfl rfl HPr.out rfl on_size (List.forall_mem_cons.2 ⟨rfl, (List.forall_mem_cons.2 ⟨rfl, (List.forall_mem_cons.2 ⟨rfl, (List.forall_mem_cons.2 ⟨rfl, (List.forall_mem_cons.2 ⟨rfl, (List.forall_mem_cons.2 ⟨rfl, fun _ h => nomatch h⟩)⟩)⟩)⟩)⟩)⟩) ?_; intro w8 HP8 ho8; have HO8 := Lib.hid ho8; clear ho8))
        rw [HQQ.out]
        exact bodyPost_ret (results_blk rfl _ _ w.heap.size _ [.int .i64 0, .int .i64 0, .string ByteArray.empty, .int .i64 0, .int .i64 0, .int .i64 28] _ rfl HP8.out on_under rfl on_size) rfl ⟨rfl, HWr.out.trans (HO8.out.below (Nat.le_refl _))⟩
      · have mhi : decide ((126 : Int) < (d.toNat : Int)) = false := decide_eq_false (by omega)
        have HNX := Lib.hid (TxQ.next ha HTX.out HDR.out h34 (xchr_pl (d := d) (q := r.drop (m + 1)) (by simp [pl]; omega)) (by decide))
        have hal : acc.length ≤ 70368744177664 := by omega
        clear h92 h34 ha hlo hhi
        go_upto_region 3 with fail
        refine wp_region_lit ?_
        refine wpList_run 9 rfl rfl (.int .i64 ((p + 1 + m : Nat) : Int)) (exec_move (.tmp 6) rfl _ rfl) ?_
        go_frame
        refine wpList_run 10 rfl rfl (.string (sb l)) (exec_move (.tmp 0) rfl _ rfl) ?_
        go_frame
        refine wpList_run 11 rfl rfl (.int .i64 (sb l).size) (exec_lenS (.tmp 10) rfl (sb l) rfl) ?_
        go_frame
        refine wpList_run 12 rfl rfl (.bool true) (exec_lssI' _ _ _ _ rfl .i64 (((p + 1 + m : Nat) : Int)) ((sb l).size) true l1 rfl rfl) ?_
        go_frame
        refine wpList_nil ?_
        go_upto_region 4 with fail
        refine wp_region_lit ?_
        refine wpList_run 13 rfl rfl (.slice A acc.length ca) (exec_move (.tmp 5) rfl _ rfl) ?_
        go_frame
        refine wpList_run 14 rfl rfl (.int .i64 acc.length) (exec_lenB (.tmp 13) rfl _ acc.length _ rfl) ?_
        go_frame
        refine wpList_run 15 rfl rfl (.bool false) (exec_gtrI _ _ _ _ rfl .i64 (acc.length) (200) false gl rfl rfl) ?_
        go_frame
        refine wpList_nil ?_
        go_upto_region 8 with fail
        refine wp_region_lit ?_
        refine wpList_run 26 rfl rfl (.string (sb l)) (exec_move (.tmp 0) rfl _ rfl) ?_
        go_frame
        refine wpList_run 27 rfl rfl (.int .i64 ((p + 1 + m : Nat) : Int)) (exec_move (.tmp 6) rfl _ rfl) ?_
        go_frame
        refine wpList_run 28 rfl rfl (.int .u8 d.toNat) (exec_index 9 (.tmp 26) (.tmp 27) rfl _ _ (.int .u8 d.toNat) rfl rfl (sb_at (sb l) (k := p + 1 + m) HC.out _)) ?_
        go_frame
        refine wpList_run 29 rfl rfl (.bool false) (exec_eqlI _ _ _ _ rfl .u8 (d.toNat) (34) false m34 rfl rfl) ?_
        go_frame
        refine wpList_run 25 rfl rfl (.bool false) (exec_assign (.tmp 29) rfl _ rfl) ?_
        go_frame
        refine wpList_nil ?_
        go_upto_region 10 with fail
        refine wp_region_lit ?_
        refine wpList_run 38 rfl rfl (.string (sb l)) (exec_move (.tmp 0) rfl _ rfl) ?_
        go_frame
        refine wpList_run 39 rfl rfl (.int .i64 ((p + 1 + m : Nat) : Int)) (exec_move (.tmp 6) rfl _ rfl) ?_
        go_frame
        refine wpList_run 40 rfl rfl (.int .u8 d.toNat) (exec_index 9 (.tmp 38) (.tmp 39) rfl _ _ (.int .u8 d.toNat) rfl rfl (sb_at (sb l) (k := p + 1 + m) HC.out _)) ?_
        go_frame
        refine wpList_run 41 rfl rfl (.bool false) (exec_eqlI _ _ _ _ rfl .u8 (d.toNat) (92) false m92 rfl rfl) ?_
        go_frame
        refine wpList_runSkip 42 rfl (by first | rfl | kernel_rfl) (.bool false) (exec_move (.tmp 41) rfl _ rfl) 5 [43, 44, 45, 46, 47] (by kernel_rfl) ?_
        simp only [List.drop_succ_cons, List.drop_zero, List.foldl_cons, List.foldl_nil]
        go_frame
        refine wpList_run 48 rfl rfl (.bool false) (exec_pickF _ _ _ rfl (.bool false) rfl rfl) ?_
        go_frame
        refine wpList_runSkip 49 rfl (by first | rfl | kernel_rfl) (.bool false) (exec_move (.tmp 48) rfl _ rfl) 6 [50, 51, 52, 53, 54, 55] (by kernel_rfl) ?_
        simp only [List.drop_succ_cons, List.drop_zero, List.foldl_cons, List.foldl_nil]
        go_frame
        refine wpList_run 56 rfl rfl (.bool false) (exec_pickF _ _ _ rfl (.bool false) rfl rfl) ?_
        go_frame
        refine wpList_run 37 rfl rfl (.bool false) (exec_assign (.tmp 56) rfl _ rfl) ?_
        go_frame
        refine wpList_nil ?_
        go_upto_region 13 with fail
        refine wp_region_lit ?_
        refine wpList_run 68 rfl rfl (.string (sb l)) (exec_move (.tmp 0) rfl _ rfl) ?_
        go_frame
        refine wpList_run 69 rfl rfl (.int .i64 ((p + 1 + m : Nat) : Int)) (exec_move (.tmp 6) rfl _ rfl) ?_
        go_frame
        refine wpList_run 70 rfl rfl (.int .u8 d.toNat) (exec_index 9 (.tmp 68) (.tmp 69) rfl _ _ (.int .u8 d.toNat) rfl rfl (sb_at (sb l) (k := p + 1 + m) HC.out _)) ?_
        go_frame
        refine wpList_run 71 rfl rfl (.bool false) (exec_eqlI _ _ _ _ rfl .u8 (d.toNat) (92) false m92 rfl rfl) ?_
        go_frame
        refine wpList_run 72 rfl rfl (.bool false) (exec_move (.tmp 71) rfl _ rfl) ?_
        go_frame
        refine wpList_runG 73 rfl (by first | rfl | kernel_rfl) (.string (sb l)) (exec_move (.tmp 0) rfl _ rfl) ?_
        go_frame
        refine wpList_runG 74 rfl (by first | rfl | kernel_rfl) (.int .i64 ((p + 1 + m : Nat) : Int)) (exec_move (.tmp 6) rfl _ rfl) ?_
        go_frame
        refine wpList_runG 75 rfl (by first | rfl | kernel_rfl) (.int .u8 d.toNat) (exec_index 9 (.tmp 73) (.tmp 74) rfl _ _ (.int .u8 d.toNat) rfl rfl (sb_at (sb l) (k := p + 1 + m) HC.out _)) ?_
        go_frame
        refine wpList_runG 76 rfl (by first | rfl | kernel_rfl) (.bool false) (exec_lssI' _ _ _ _ rfl .u8 (d.toNat) (32) false mlo rfl rfl) ?_
        go_frame
        refine wpList_run 77 rfl rfl (.bool false) (exec_pickF _ _ _ rfl (.bool false) rfl rfl) ?_
        go_frame
        refine wpList_run 78 rfl rfl (.bool false) (exec_move (.tmp 77) rfl _ rfl) ?_
        go_frame
        refine wpList_runG 79 rfl (by first | rfl | kernel_rfl) (.string (sb l)) (exec_move (.tmp 0) rfl _ rfl) ?_
        go_frame
        refine wpList_runG 80 rfl (by first | rfl | kernel_rfl) (.int .i64 ((p + 1 + m : Nat) : Int)) (exec_move (.tmp 6) rfl _ rfl) ?_
        go_frame
        refine wpList_runG 81 rfl (by first | rfl | kernel_rfl) (.int .u8 d.toNat) (exec_index 9 (.tmp 79) (.tmp 80) rfl _ _ (.int .u8 d.toNat) rfl rfl (sb_at (sb l) (k := p + 1 + m) HC.out _)) ?_
        go_frame
        refine wpList_runG 82 rfl (by first | rfl | kernel_rfl) (.bool false) (exec_gtrI _ _ _ _ rfl .u8 (d.toNat) (126) false mhi rfl rfl) ?_
        go_frame
        refine wpList_run 83 rfl rfl (.bool false) (exec_pickF _ _ _ rfl (.bool false) rfl rfl) ?_
        go_frame
        refine wpList_run 67 rfl rfl (.bool false) (exec_assign (.tmp 83) rfl _ rfl) ?_
        go_frame
        refine wpList_nil ?_
        go_wp2_with (first | (refine wpList_dst 20 rfl ?_; refine wpList_run 20 rfl rfl _ (exec_index 9 (.tmp 18) (.tmp 19) rfl _ _ (.int .u8 d.toNat) rfl rfl (sb_at (sb l) (k := p + 1 + m) HC.out _)) ?_; go_frame) | (at_builtin; refine wpList_push rfl (.tmp 17) (.tmp 21) rfl w1.heap.size _ acc rfl HO.out _ d rfl HB.out.size (by omega) rfl ?_; intro v5 w5 ho5 hb5; have HO5 := Lib.hid ho5; have HB5 := Lib.hid (HB.out.trans hb5); clear ho5 hb5) | (refine wpList_dst 24 rfl ?_; refine wpList_run 24 rfl rfl _ (exec_addI _ (.tmp 23) _ _ rfl _ _ _ rfl rfl HK1.out) ?_; go_frame))
        go_roundw
        case rel => first | exact ⟨m + 1, acc ++ [d], by go_num, by omega, HO5, HNX, HB5⟩ | ((repeat apply Exists.intro); exact ⟨⟨m + 1, acc ++ [d], by go_num, by omega, HO5, HNX, HB5⟩, rfl⟩)
        case measure => simp [intOf]; omega
    · obtain rfl : m = r.length := by omega
      have l1 : decide (((p + 1 + r.length : Nat) : Int) < ((sb l).size : Int)) = false := decide_eq_false (by rw [HZ.out]; omega)
      have HLEN := Lib.hid hlen
      clear hlen
      rcases HQ.out with ⟨ha, hq⟩ | ⟨ha, hq⟩
      · have gl : decide ((200 : Int) < (acc.length : Int)) = false := decide_eq_false (by omega)
        have HQQ := Lib.hid (show q = .bad 28 by rw [← hq, List.drop_length]; exact txt_nil _ _)
        clear hq ha
        go_upto_region 3 with fail
        refine wp_region_lit ?_
        refine wpList_run 9 rfl rfl (.int .i64 ((p + 1 + r.length : Nat) : Int)) (exec_move (.tmp 6) rfl _ rfl) ?_
        go_frame
        refine wpList_run 10 rfl rfl (.string (sb l)) (exec_move (.tmp 0) rfl _ rfl) ?_
        go_frame
        refine wpList_run 11 rfl rfl (.int .i64 (sb l).size) (exec_lenS (.tmp 10) rfl (sb l) rfl) ?_
        go_frame
        refine wpList_run 12 rfl rfl (.bool false) (exec_lssI' _ _ _ _ rfl .i64 (((p + 1 + r.length : Nat) : Int)) ((sb l).size) false l1 rfl rfl) ?_
        go_frame
        refine wpList_nil ?_
        go_upto_region 15 with fail
        refine wp_region_lit ?_
        refine wpList_run 85 rfl rfl (.slice A acc.length ca) (exec_move (.tmp 5) rfl _ rfl) ?_
        go_frame
        refine wpList_run 86 rfl rfl (.int .i64 acc.length) (exec_lenB (.tmp 85) rfl _ acc.length _ rfl) ?_
        go_frame
        refine wpList_run 87 rfl rfl (.bool false) (exec_gtrI _ _ _ _ rfl .i64 (acc.length) (200) false gl rfl rfl) ?_
        go_frame
        refine wpList_nil ?_
        go_wp2_with (first | (refine wpList_dst 89 rfl ?_; refine wpList_run 89 rfl rfl _ (exec_buildF 50 #[(2, .const (.int .i64 28))] rfl #[(2, .int .i64 28)] rfl _ (build_oe 28 _)) ?_; go_frame) | (refine wpList_store_all rfl 50 (.tmp 4) (.tmp 89) rfl w.heap.size 50 zO [.int .i64 0, .int .i64 0, .string ByteArray.empty, .int .i64 0, .int .i64 0, .int .i64 28] rfl rfl HPr.out rfl on_size (List.forall_mem_cons.2 ⟨rfl, (List.forall_mem_cons.2 ⟨rfl, (List.forall_mem_cons.2 ⟨rfl, (List.forall_mem_cons.2 ⟨rfl, (List.forall_mem_cons.2 ⟨rfl, (List.forall_mem_cons.2 ⟨rfl, fun _ h => nomatch h⟩)⟩)⟩)⟩)⟩)⟩) ?_; intro w8 HP8 ho8; have HO8 := Lib.hid ho8; clear ho8))
        rw [HQQ.out]
        exact bodyPost_ret (results_blk rfl _ _ w.heap.size _ [.int .i64 0, .int .i64 0, .string ByteArray.empty, .int .i64 0, .int .i64 0, .int .i64 28] _ rfl HP8.out on_under rfl on_size) rfl ⟨rfl, HWr.out.trans (HO8.out.below (Nat.le_refl _))⟩
      · have gl : decide ((200 : Int) < (acc.length : Int)) = true := decide_eq_true (by omega)
        have HQQ := Lib.hid hq
        clear hq ha
        go_upto_region 3 with fail
        refine wp_region_lit ?_
        refine wpList_run 9 rfl rfl (.int .i64 ((p + 1 + r.length : Nat) : Int)) (exec_move (.tmp 6) rfl _ rfl) ?_
        go_frame
        refine wpList_run 10 rfl rfl (.string (sb l)) (exec_move (.tmp 0) rfl _ rfl) ?_
        go_frame
        refine wpList_run 11 rfl rfl (.int .i64 (sb l).size) (exec_lenS (.tmp 10) rfl (sb l) rfl) ?_
        go_frame
        refine wpList_run 12 rfl rfl (.bool false) (exec_lssI' _ _ _ _ rfl .i64 (((p + 1 + r.length : Nat) : Int)) ((sb l).size) false l1 rfl rfl) ?_
        go_frame
        refine wpList_nil ?_
        go_upto_region 15 with fail
        refine wp_region_lit ?_
        refine wpList_run 85 rfl rfl (.slice A acc.length ca) (exec_move (.tmp 5) rfl _ rfl) ?_
        go_frame
        refine wpList_run 86 rfl rfl (.int .i64 acc.length) (exec_lenB (.tmp 85) rfl _ acc.length _ rfl) ?_
        go_frame
        refine wpList_run 87 rfl rfl (.bool true) (exec_gtrI _ _ _ _ rfl .i64 (acc.length) (200) true gl rfl rfl) ?_
        go_frame
        refine wpList_nil ?_
        go_wp2_with (first | (refine wpList_dst 88 rfl ?_; refine wpList_run 88 rfl rfl _ (exec_buildF 50 #[(2, .const (.int .i64 2))] rfl #[(2, .int .i64 2)] rfl _ (build_oe 2 _)) ?_; go_frame) | (refine wpList_store_all rfl 50 (.tmp 4) (.tmp 88) rfl w.heap.size 50 zO [.int .i64 0, .int .i64 0, .string ByteArray.empty, .int .i64 0, .int .i64 0, .int .i64 2] rfl rfl HPr.out rfl on_size (List.forall_mem_cons.2 ⟨rfl, (List.forall_mem_cons.2 ⟨rfl, (List.forall_mem_cons.2 ⟨rfl, (List.forall_mem_cons.2 ⟨rfl, (List.forall_mem_cons.2 ⟨rfl, (List.forall_mem_cons.2 ⟨rfl, fun _ h => nomatch h⟩)⟩)⟩)⟩)⟩)⟩) ?_; intro w8 HP8 ho8; have HO8 := Lib.hid ho8; clear ho8))
        rw [HQQ.out]
        exact bodyPost_ret (results_blk rfl _ _ w.heap.size _ [.int .i64 0, .int .i64 0, .string ByteArray.empty, .int .i64 0, .int .i64 0, .int .i64 2] _ rfl HP8.out on_under rfl on_size) rfl ⟨rfl, HWr.out.trans (HO8.out.below (Nat.le_refl _))⟩
end Go.Proofs.YtggjgikpiljoiaaDoor
