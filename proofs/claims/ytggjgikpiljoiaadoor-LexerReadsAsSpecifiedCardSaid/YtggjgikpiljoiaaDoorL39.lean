/- The reference: tokens. -/
import Derived.Test.YtggjgikpiljoiaaDoorL38
import Derived.Test.YtggjgikpiljoiaaDoorL12
namespace Go.Proofs.YtggjgikpiljoiaaDoor
open Go.RowKit Hm Wm Lx

def oneC (p : Nat) : St → List Value
  | .tok k s v n => [.int .i64 k, .int .i64 p, .string (sb s), .int .i64 v, .int .i64 ((p + n : Nat) : Int), .int .i64 0]
  | .bad e => [.int .i64 0, .int .i64 0, .string ByteArray.empty, .int .i64 0, .int .i64 0, .int .i64 e]
  | .skip _ => [.int .i64 0, .int .i64 0, .string ByteArray.empty, .int .i64 0, .int .i64 0, .int .i64 0]
theorem oneV_eq (p : Nat) (q : St) : oneV p q = .agg (oneC p q).toArray := by cases q <;> rfl
theorem oneC_len (p : Nat) (q : St) : (oneC p q).length = 6 := by cases q <;> rfl
theorem oneC_one (p : Nat) (q : St) : ∀ v ∈ oneC p q, v.oneCell' = true := by
  intro v hv
  cases q <;> (simp only [oneC, List.mem_cons, List.not_mem_nil, or_false] at hv; rcases hv with rfl | rfl | rfl | rfl | rfl | rfl <;> rfl)
theorem oneC_size (p : Nat) (q : St) : (Tryd.prog.info? 50).map (·.size) = some (oneC p q).length := by rw [oneC_len]; exact on_size
/-- What stands at the beginning is no blank. -/
def NB (c : UInt8) : Prop := bl c = false ∧ c.toNat ≠ 35
theorem sgS_bad {c : UInt8} {r : List UInt8} (h : sgn c r = .bad 26) : sgS (c :: r) = [] := by unfold sgS; simp only; rw [h]
theorem sgS_tok {c : UInt8} {r s : List UInt8} {k v n : Nat} (h : sgn c r = .tok k s v n) : sgS (c :: r) = s := by unfold sgS; simp only; rw [h]
set_option maxRecDepth 100000 in
set_option maxHeartbeats 1500000 in
theorem token_lt (l r : List UInt8) (c : UInt8) (p : Nat) (w : World) (hl : l.length ≤ 65536) (hd : l.drop p = c :: r) (h : lt c = true) : Calls Tryd.prog 18 #[.string (sb l), .int .i64 p] w fun e w' => e = .returned (.agg (oneC p (Lx.step (c :: r))).toArray) ∧ Below w.heap.size w w' := by
  have HC := Lib.hid (at_drop hd).1
  have HRD := Lib.hid (show ∀ W, Calls Tryd.prog 32 #[.string (sb l), .int .i64 p] W fun e w' => e = .returned (.agg (oneC p (Lx.step (c :: r))).toArray) ∧ Below W.heap.size W w' from fun W => by have := rname_any l r c p W hl hd h; rwa [oneV_eq] at this)
  generalize Lx.step (c :: r) = q at HRD ⊢
  have HLE := Lib.hid h
  clear hd h
  go_enter Tryd.func18, Tryd.ntmps18
  go_wp2_with (first | (refine wpList_new rfl 50 rfl zO on_zero ?_; intro w1 HP HW) | (refine wpList_dst 9 rfl ?_; refine wpList_run 9 rfl rfl _ (exec_index 9 (.tmp 7) (.tmp 8) rfl _ _ (.int .u8 c.toNat) rfl rfl (sb_at (sb l) (k := p) HC.out _)) ?_; go_frame) | ((with_reducible refine (letter_any c true HLE.out _).mono ?_); rintro e w2 ⟨rfl, rfl⟩) | ((with_reducible refine (HRD.out _).mono ?_); rintro e w3 ⟨rfl, hb⟩; replace HP := Lib.hid (HP.out.next hb); replace HW := Lib.hid (HW.out.trans (hb.mono HW.out.size)); clear hb) | (refine wpList_store_all rfl 50 (.tmp 4) (.tmp 13) rfl w.heap.size 50 zO (oneC p q) rfl rfl HP.out (oneC_len p q) (oneC_size p q) (oneC_one p q) ?_; intro w8 HP8 ho8; have HO8 := Lib.hid ho8; clear ho8))
  exact bodyPost_ret (results_blk rfl _ _ w.heap.size _ (oneC p q) _ rfl HP8.out on_under rfl (oneC_size p q)) rfl ⟨rfl, HW.out.trans (HO8.out.below (Nat.le_refl _))⟩
set_option maxRecDepth 100000 in
set_option maxHeartbeats 1500000 in
theorem token_dg (l r : List UInt8) (c : UInt8) (p : Nat) (w : World) (hl : l.length ≤ 65536) (hd : l.drop p = c :: r) (h : dg c = true) : Calls Tryd.prog 18 #[.string (sb l), .int .i64 p] w fun e w' => e = .returned (.agg (oneC p (Lx.step (c :: r))).toArray) ∧ Below w.heap.size w w' := by
  have HC := Lib.hid (at_drop hd).1
  have HRD := Lib.hid (show ∀ W, Calls Tryd.prog 34 #[.string (sb l), .int .i64 p] W fun e w' => e = .returned (.agg (oneC p (Lx.step (c :: r))).toArray) ∧ Below W.heap.size W w' from fun W => by have := rnumber_any l r c p W hl hd h; rwa [oneV_eq] at this)
  generalize Lx.step (c :: r) = q at HRD ⊢
  have HLE := Lib.hid (cl_dg h).2.2.1
  have HDG := Lib.hid h
  clear hd h
  go_enter Tryd.func18, Tryd.ntmps18
  go_wp2_with (first | (refine wpList_new rfl 50 rfl zO on_zero ?_; intro w1 HP HW) | (refine wpList_dst 9 rfl ?_; refine wpList_run 9 rfl rfl _ (exec_index 9 (.tmp 7) (.tmp 8) rfl _ _ (.int .u8 c.toNat) rfl rfl (sb_at (sb l) (k := p) HC.out _)) ?_; go_frame) | ((with_reducible refine (letter_any c false HLE.out _).mono ?_); rintro e w2 ⟨rfl, rfl⟩) | (refine wpList_dst 17 rfl ?_; refine wpList_run 17 rfl rfl _ (exec_index 9 (.tmp 15) (.tmp 16) rfl _ _ (.int .u8 c.toNat) rfl rfl (sb_at (sb l) (k := p) HC.out _)) ?_; go_frame) | ((with_reducible refine (digit_any c true HDG.out _).mono ?_); rintro e w2 ⟨rfl, rfl⟩) | ((with_reducible refine (HRD.out _).mono ?_); rintro e w3 ⟨rfl, hb⟩; replace HP := Lib.hid (HP.out.next hb); replace HW := Lib.hid (HW.out.trans (hb.mono HW.out.size)); clear hb) | (refine wpList_store_all rfl 50 (.tmp 4) (.tmp 21) rfl w.heap.size 50 zO (oneC p q) rfl rfl HP.out (oneC_len p q) (oneC_size p q) (oneC_one p q) ?_; intro w8 HP8 ho8; have HO8 := Lib.hid ho8; clear ho8))
  exact bodyPost_ret (results_blk rfl _ _ w.heap.size _ (oneC p q) _ rfl HP8.out on_under rfl (oneC_size p q)) rfl ⟨rfl, HW.out.trans (HO8.out.below (Nat.le_refl _))⟩
set_option maxRecDepth 100000 in
set_option maxHeartbeats 1500000 in
theorem token_34 (l r : List UInt8) (c : UInt8) (p : Nat) (w : World) (hl : l.length ≤ 65536) (hd : l.drop p = c :: r) (h : c.toNat = 34) : Calls Tryd.prog 18 #[.string (sb l), .int .i64 p] w fun e w' => e = .returned (.agg (oneC p (Lx.step (c :: r))).toArray) ∧ Below w.heap.size w w' := by
  have HC := Lib.hid (at_drop hd).1
  have HRD := Lib.hid (show ∀ W, Calls Tryd.prog 35 #[.string (sb l), .int .i64 p] W fun e w' => e = .returned (.agg (oneC p (Lx.step (c :: r))).toArray) ∧ Below W.heap.size W w' from fun W => by have := rtext_read l r c p W hl hd h; rwa [oneV_eq] at this)
  generalize Lx.step (c :: r) = q at HRD ⊢
  have HLE := Lib.hid (cl_34 h).2.2.1
  have HDG := Lib.hid (cl_34 h).2.2.2
  have m34 : ((c.toNat : Int) == 34) = true := by rw [h]; rfl
  clear hd h
  go_enter Tryd.func18, Tryd.ntmps18
  go_wp2_with (first | (refine wpList_new rfl 50 rfl zO on_zero ?_; intro w1 HP HW) | (refine wpList_dst 9 rfl ?_; refine wpList_run 9 rfl rfl _ (exec_index 9 (.tmp 7) (.tmp 8) rfl _ _ (.int .u8 c.toNat) rfl rfl (sb_at (sb l) (k := p) HC.out _)) ?_; go_frame) | ((with_reducible refine (letter_any c false HLE.out _).mono ?_); rintro e w2 ⟨rfl, rfl⟩) | (refine wpList_dst 17 rfl ?_; refine wpList_run 17 rfl rfl _ (exec_index 9 (.tmp 15) (.tmp 16) rfl _ _ (.int .u8 c.toNat) rfl rfl (sb_at (sb l) (k := p) HC.out _)) ?_; go_frame) | ((with_reducible refine (digit_any c false HDG.out _).mono ?_); rintro e w2 ⟨rfl, rfl⟩) | (refine wpList_dst 25 rfl ?_; refine wpList_run 25 rfl rfl _ (exec_index 9 (.tmp 23) (.tmp 24) rfl _ _ (.int .u8 c.toNat) rfl rfl (sb_at (sb l) (k := p) HC.out _)) ?_; go_frame) | ((with_reducible refine (HRD.out _).mono ?_); rintro e w3 ⟨rfl, hb⟩; replace HP := Lib.hid (HP.out.next hb); replace HW := Lib.hid (HW.out.trans (hb.mono HW.out.size)); clear hb) | (refine wpList_store_all rfl 50 (.tmp 4) (.tmp 29) rfl w.heap.size 50 zO (oneC p q) rfl rfl HP.out (oneC_len p q) (oneC_size p q) (oneC_one p q) ?_; intro w8 HP8 ho8; have HO8 := Lib.hid ho8; clear ho8))
  exact bodyPost_ret (results_blk rfl _ _ w.heap.size _ (oneC p q) _ rfl HP8.out on_under rfl (oneC_size p q)) rfl ⟨rfl, HW.out.trans (HO8.out.below (Nat.le_refl _))⟩
set_option maxRecDepth 100000 in
set_option maxHeartbeats 1500000 in
theorem token_sg (l r : List UInt8) (c : UInt8) (p : Nat) (w : World) (hl : l.length ≤ 65536) (hd : l.drop p = c :: r) (hn : NB c) (h1 : lt c = false) (h2 : dg c = false) (h3 : c.toNat ≠ 34) : Calls Tryd.prog 18 #[.string (sb l), .int .i64 p] w fun e w' => e = .returned (.agg (oneC p (Lx.step (c :: r))).toArray) ∧ Below w.heap.size w w' := by
  have HC := Lib.hid (at_drop hd).1
  have hlen : p ≤ l.length := by have := (at_drop hd).2.2; omega
  have hcl : p + (c :: r).length = l.length := by have := congrArg List.length hd; rw [List.length_drop] at this; omega
  have HLO := Lib.hid (show ∀ W, (Instr.sliceAt 9 (.string (sb l)) (some (.int .i64 p)) none none).run Tryd.prog W = .ok (.string (sb (c :: r))) W from fun W => by have := run_str_lo W l p hlen; rwa [hd] at this)
  have HSG := Lib.hid (fun W => Sign_any c r W (by have := congrArg List.length hd; rw [List.length_drop] at this; omega))
  have HLE := Lib.hid h1
  have HDG := Lib.hid h2
  have m34 : ((c.toNat : Int) == 34) = false := by rw [beq_eq_false_iff_ne]; omega
  have hst := step_sg (r := r) hn.1 hn.2 h1 h2 h3
  clear hd hn h1 h2 h3
  rcases sgn_cases c r with hs | ⟨n, hs, h0, _, hnl⟩
  · have HQ := Lib.hid (show oneC p (Lx.step (c :: r)) = [.int .i64 0, .int .i64 0, .string ByteArray.empty, .int .i64 0, .int .i64 0, .int .i64 26] by rw [hst, hs]; rfl)
    have HS0 := Lib.hid (sgS_bad hs)
    rw [HS0.out] at HSG
    have HEM := Lib.hid (show ∀ W, (binOp .eql 9 (.string (sb [])) (.string ⟨#[]⟩)).run Tryd.prog W = .ok (.bool true) W from fun W => run_eql_str W [] [])
    clear hst hs
    generalize oneC p (Lx.step (c :: r)) = oc at HQ ⊢
    go_enter Tryd.func18, Tryd.ntmps18
    go_wp2_with (first | (refine wpList_new rfl 50 rfl zO on_zero ?_; intro w1 HP HW) | (refine wpList_dst 9 rfl ?_; refine wpList_run 9 rfl rfl _ (exec_index 9 (.tmp 7) (.tmp 8) rfl _ _ (.int .u8 c.toNat) rfl rfl (sb_at (sb l) (k := p) HC.out _)) ?_; go_frame) | ((with_reducible refine (letter_any c false HLE.out _).mono ?_); rintro e w2 ⟨rfl, rfl⟩) | (refine wpList_dst 17 rfl ?_; refine wpList_run 17 rfl rfl _ (exec_index 9 (.tmp 15) (.tmp 16) rfl _ _ (.int .u8 c.toNat) rfl rfl (sb_at (sb l) (k := p) HC.out _)) ?_; go_frame) | ((with_reducible refine (digit_any c false HDG.out _).mono ?_); rintro e w2 ⟨rfl, rfl⟩) | (refine wpList_dst 25 rfl ?_; refine wpList_run 25 rfl rfl _ (exec_index 9 (.tmp 23) (.tmp 24) rfl _ _ (.int .u8 c.toNat) rfl rfl (sb_at (sb l) (k := p) HC.out _)) ?_; go_frame) | (refine wpList_dst 32 rfl ?_; refine wpList_run 32 rfl rfl _ (exec_slice_lo 9 (.tmp 30) (.tmp 31) rfl (.string (sb l)) (.int .i64 p) (.string (sb (c :: r))) rfl rfl (HLO.out _)) ?_; go_frame) | ((with_reducible refine (HSG.out _).mono ?_); rintro e w3 ⟨rfl, hb⟩; replace HP := Lib.hid (HP.out.next hb); replace HW := Lib.hid (HW.out.trans (hb.mono HW.out.size)); clear hb) | (refine wpList_dst 35 rfl ?_; refine wpList_run 35 rfl rfl _ (exec_bin .eql 9 _ (.tmp 34) _ rfl (.string (sb ([]))) (.string ⟨#[]⟩) (.bool true) rfl rfl rfl (HEM.out _)) ?_; go_frame) | (refine wpList_dst 36 rfl ?_; refine wpList_run 36 rfl rfl _ (exec_buildF 50 #[(2, .const (.int .i64 26))] rfl #[(2, .int .i64 26)] rfl _ (build_oe 26 _)) ?_; go_frame) | (refine wpList_store_all rfl 50 (.tmp 4) (.tmp 36) rfl w.heap.size 50 zO [.int .i64 0, .int .i64 0, .string ByteArray.empty, .int .i64 0, .int .i64 0, .int .i64 26] rfl rfl HP.out rfl on_size (List.forall_mem_cons.2 ⟨rfl, (List.forall_mem_cons.2 ⟨rfl, (List.forall_mem_cons.2 ⟨rfl, (List.forall_mem_cons.2 ⟨rfl, (List.forall_mem_cons.2 ⟨rfl, (List.forall_mem_cons.2 ⟨rfl, fun _ h => nomatch h⟩)⟩)⟩)⟩)⟩)⟩) ?_; intro w8 HP8 ho8; have HO8 := Lib.hid ho8; clear ho8))
    rw [HQ.out]
    exact bodyPost_ret (results_blk rfl _ _ w.heap.size _ [.int .i64 0, .int .i64 0, .string ByteArray.empty, .int .i64 0, .int .i64 0, .int .i64 26] _ rfl HP8.out on_under rfl on_size) rfl ⟨rfl, HW.out.trans (HO8.out.below (Nat.le_refl _))⟩
  · have hsn : ((c :: r).take n).length = n := by rw [List.length_take]; omega
    have hsz : (sb ((c :: r).take n)).size = n := by rw [sb_size, hsn]
    have HQ := Lib.hid (show oneC p (Lx.step (c :: r)) = [.int .i64 4, .int .i64 p, .string (sb ((c :: r).take n)), .int .i64 0, .int .i64 ((p + n : Nat) : Int), .int .i64 0] by rw [hst, hs]; rfl)
    have HS0 := Lib.hid (sgS_tok hs)
    rw [HS0.out] at HSG
    have HEM := Lib.hid (show ∀ W, (binOp .eql 9 (.string (sb ((c :: r).take n))) (.string ⟨#[]⟩)).run Tryd.prog W = .ok (.bool false) W from fun W => by
      have := run_eql_str W ((c :: r).take n) []
      rw [decide_eq_false (fun h => by rw [h] at hsn; simp at hsn; omega)] at this
      exact this)
    have HAD := Lib.hid (show IntKind.i64.wrap ((p : Int) + ((sb ((c :: r).take n)).size : Int)) = ((p + n : Nat) : Int) by rw [hsz]; exact wrap_add _ _ (by omega))
    clear hst hs hsn hsz
    generalize oneC p (Lx.step (c :: r)) = oc at HQ ⊢
    generalize (c :: r).take n = s at HQ HSG HEM HAD
    go_enter Tryd.func18, Tryd.ntmps18
    go_wp2_with (first | (refine wpList_new rfl 50 rfl zO on_zero ?_; intro w1 HP HW) | (refine wpList_dst 9 rfl ?_; refine wpList_run 9 rfl rfl _ (exec_index 9 (.tmp 7) (.tmp 8) rfl _ _ (.int .u8 c.toNat) rfl rfl (sb_at (sb l) (k := p) HC.out _)) ?_; go_frame) | ((with_reducible refine (letter_any c false HLE.out _).mono ?_); rintro e w2 ⟨rfl, rfl⟩) | (refine wpList_dst 17 rfl ?_; refine wpList_run 17 rfl rfl _ (exec_index 9 (.tmp 15) (.tmp 16) rfl _ _ (.int .u8 c.toNat) rfl rfl (sb_at (sb l) (k := p) HC.out _)) ?_; go_frame) | ((with_reducible refine (digit_any c false HDG.out _).mono ?_); rintro e w2 ⟨rfl, rfl⟩) | (refine wpList_dst 25 rfl ?_; refine wpList_run 25 rfl rfl _ (exec_index 9 (.tmp 23) (.tmp 24) rfl _ _ (.int .u8 c.toNat) rfl rfl (sb_at (sb l) (k := p) HC.out _)) ?_; go_frame) | (refine wpList_dst 32 rfl ?_; refine wpList_run 32 rfl rfl _ (exec_slice_lo 9 (.tmp 30) (.tmp 31) rfl (.string (sb l)) (.int .i64 p) (.string (sb (c :: r))) rfl rfl (HLO.out _)) ?_; go_frame) | ((with_reducible refine (HSG.out _).mono ?_); rintro e w3 ⟨rfl, hb⟩; replace HP := Lib.hid (HP.out.next hb); replace HW := Lib.hid (HW.out.trans (hb.mono HW.out.size)); clear hb) | (refine wpList_dst 35 rfl ?_; refine wpList_run 35 rfl rfl _ (exec_bin .eql 9 _ (.tmp 34) _ rfl (.string (sb (s))) (.string ⟨#[]⟩) (.bool false) rfl rfl rfl (HEM.out _)) ?_; go_frame) | (refine wpList_dst 39 rfl ?_; refine wpList_run 39 rfl rfl _ (exec_buildF 33 #[(0, .const (.int .i64 4)), (1, .tmp 37), (2, .tmp 38)] rfl #[(0, .int .i64 4), (1, .int .i64 p), (2, .string (sb s))] rfl _ (build_ks 4 p (sb s) _)) ?_; go_frame) | (refine wpList_dst 42 rfl ?_; refine wpList_run 42 rfl rfl _ (exec_lenS (.tmp 41) rfl (sb s) rfl) ?_; go_frame) | (refine wpList_dst 43 rfl ?_; refine wpList_run 43 rfl rfl _ (exec_addI _ (.tmp 40) (.tmp 42) _ rfl _ _ _ rfl rfl HAD.out) ?_; go_frame) | (refine wpList_dst 44 rfl ?_; refine wpList_run 44 rfl rfl _ (exec_buildF 50 #[(0, .tmp 39), (1, .tmp 43)] rfl #[(0, .agg #[.int .i64 4, .int .i64 p, .string (sb s), .int .i64 0]), (1, .int .i64 ((p + n : Nat) : Int))] rfl _ (build_ot 4 p 0 _ (sb s) _)) ?_; go_frame) | (refine wpList_store_all rfl 50 (.tmp 4) (.tmp 44) rfl w.heap.size 50 zO [.int .i64 4, .int .i64 p, .string (sb s), .int .i64 0, .int .i64 ((p + n : Nat) : Int), .int .i64 0] rfl rfl HP.out rfl on_size (List.forall_mem_cons.2 ⟨rfl, (List.forall_mem_cons.2 ⟨rfl, (List.forall_mem_cons.2 ⟨rfl, (List.forall_mem_cons.2 ⟨rfl, (List.forall_mem_cons.2 ⟨rfl, (List.forall_mem_cons.2 ⟨rfl, fun _ h => nomatch h⟩)⟩)⟩)⟩)⟩)⟩) ?_; intro w8 HP8 ho8; have HO8 := Lib.hid ho8; clear ho8))
    rw [HQ.out]
    exact bodyPost_ret (results_blk rfl _ _ w.heap.size _ [.int .i64 4, .int .i64 p, .string (sb s), .int .i64 0, .int .i64 ((p + n : Nat) : Int), .int .i64 0] _ rfl HP8.out on_under rfl on_size) rfl ⟨rfl, HW.out.trans (HO8.out.below (Nat.le_refl _))⟩
theorem rtoken_any (l r : List UInt8) (c : UInt8) (p : Nat) (w : World) (hl : l.length ≤ 65536) (hd : l.drop p = c :: r) (hn : NB c) : Calls Tryd.prog 18 #[.string (sb l), .int .i64 p] w fun e w' => e = .returned (.agg (oneC p (Lx.step (c :: r))).toArray) ∧ Below w.heap.size w w' := by
  by_cases h1 : lt c = true
  · exact token_lt l r c p w hl hd h1
  by_cases h2 : dg c = true
  · exact token_dg l r c p w hl hd h2
  by_cases h3 : c.toNat = 34
  · exact token_34 l r c p w hl hd h3
  · exact token_sg l r c p w hl hd hn (by simpa using h1) (by simpa using h2) h3
end Go.Proofs.YtggjgikpiljoiaaDoor
