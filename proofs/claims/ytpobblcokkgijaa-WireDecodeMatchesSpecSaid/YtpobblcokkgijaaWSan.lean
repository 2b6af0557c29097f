/- The laws' examples hold: the contract of sanity. -/
import Derived.Test.YtpobblcokkgijaaWSanA
namespace Go.Proofs.Ytpobblcokkgijaa
open Go.RowKit Wm

/-- As wpList_plain, at a guarded operation whose guard says yes. -/
theorem wpList_want {P : Program} {ops : Array Oper} {rest : List Oper} {o : Oper} {a : Act} {w : World} {Q : Exit → Act → World → Prop} (hw : Region.wanted o (yielded ops a.tmps) = true)
    (h : ∀ K : Act → World → Prop, (∀ a w, wpList P ops Q rest a w → K a w) → o.wp P a w K Q) : wpList P ops Q (o :: rest) a w :=
  wpList_step fun K hK => by simp only [hw, if_true]; exact h K hK
theorem wpList_load_digG {w : World} {ops : Array Oper} {rest : List Oper} {op : Oper} {a : Act} {Q : Exit → Act → World → Prop} (hw : Region.wanted op (yielded ops a.tmps) = true) (x : Operand) (ho : op.op = .load 57 x)
    (b o : Nat) (hx : a.eval x = .pointer (some ⟨b, o, none⟩)) (d : List UInt8) (hd : d.length = 16) (hc : w.rangeAt b o (bc d))
    (h : wpList Try.prog ops Q rest (a.put op.dst (.agg (bc d).toArray)) w) : wpList Try.prog ops Q (op :: rest) a w :=
  wpList_want hw fun _ hK => wp_load_mid 57 x ho b o hx (bc d) _ hc dig_under rfl (by rw [dig_size, bc_len, hd]) (hK _ _ h)
theorem wpList_build_digG {w : World} {ops : Array Oper} {rest : List Oper} {op : Oper} {a : Act} {Q : Exit → Act → World → Prop} (hw : Region.wanted op (yielded ops a.tmps) = true) (x : Operand) (ho : op.op = .buildSlice 24 1 #[(0, x)])
    (d : List UInt8) (hd : d.length = 16) (hx : a.eval x = .agg (bc d).toArray)
    (h : wpList Try.prog ops Q rest (a.put op.dst (.slice (some ⟨w.heap.size, 0, none⟩) 1 1)) (w.alloc (.cells (bc d).toArray 57))) : wpList Try.prog ops Q (op :: rest) a w := by
  refine wpList_want hw fun K hK => ?_
  have hrun := run_buildSlice_dig w d hd
  unfold Oper.wp execOp
  simp only [ho, List.map_toArray, List.map_cons, List.map_nil, hx, Sem.run_bind, hrun, Result.andThen_ok]
  exact hK _ _ h

set_option maxRecDepth 1000000 in
set_option maxHeartbeats 4000000 in
theorem sanity_any (w : World) : Calls Try.prog 12 #[] w fun e w' => e = .returned (.bool true) ∧ Below w.heap.size w w' := by
  go_enter Try.func12, Try.ntmps12
  go_wp2_with fail
  refine (s_int1 w).mono ?_
  rintro e w1 ⟨rfl, hb1⟩
  go_wp2_with fail
  refine (s_int2 w1).mono ?_
  rintro e w2 ⟨rfl, hb2⟩
  go_wp2_with fail
  refine (s_int3 w2).mono ?_
  rintro e w3 ⟨rfl, hb3⟩
  go_wp2_with fail
  refine (s_bytes w3).mono ?_
  rintro e w4 ⟨rfl, hb4⟩
  go_wp2_with fail
  refine (s_ints w4).mono ?_
  rintro e w5 ⟨A5, c5, rfl, hr5, hb5⟩
  have HR5 := Lib.hid hr5
  clear hr5
  go_wp2_with (first | (refine wpList_store_dig rfl (.tmp 16) (.tmp 54) rfl dd rfl rfl rfl ?_) | (refine wpList_load_dig rfl (.tmp 16) rfl w5.heap.size 0 rfl dd rfl (rangeAt_new _ _ _) ?_) | (refine wpList_build_dig rfl (.tmp 56) rfl dd rfl rfl ?_) | (go_at_call 22; refine (s_digs w5).mono ?_; rintro e w6 ⟨A6, c6, rfl, hr6, hc6, hd6, hb6⟩; have HR6 := Lib.hid hr6; have HD6 := Lib.hid hd6; clear hr6 hd6))
  refine (s_getDigs A6 c6 w6 HR6.out hc6).mono ?_
  rintro e w7 ⟨A7, c7, rfl, hr7, hb7⟩
  have HR7 := Lib.hid hr7
  clear hr7
  go_wp2_with fail
  refine (s_strs w7).mono ?_
  rintro e w8 ⟨A8, c8, rfl, hr8, hb8⟩
  have HR8 := Lib.hid hr8
  clear hr8
  go_wp2_with fail
  refine (s_sameTexts A8 c8 w8 HR8.out).mono ?_
  rintro e w9 ⟨rfl, hb9⟩
  go_wp2_with fail
  refine (s_strings w9).mono ?_
  rintro e w10 ⟨A10, c10, rfl, hr10, hb10⟩
  have HR10 := Lib.hid hr10
  clear hr10
  go_wp2_with fail
  refine (s_same4 A10 c10 w10 HR10.out).mono ?_
  rintro e w11 ⟨rfl, hb11⟩
  go_wp2_with fail
  refine (s_Int w11).mono ?_
  rintro e w12 ⟨A12, c12, rfl, hr12, hb12⟩
  have HR12 := Lib.hid hr12
  clear hr12
  go_wp2_with fail
  refine (s_same2 A12 c12 w12 HR12.out).mono ?_
  rintro e w13 ⟨rfl, hb13⟩
  have HR5' := Lib.hid (HR5.out.below (Below.next (Below.next (Below.next (Below.next (Below.next (Below.next (Below.next hb6 hb7) hb8) hb9) hb10) hb11) hb12) hb13))
  go_wp2_with fail
  refine (s_sameInts A5 c5 w13 HR5'.out).mono ?_
  rintro e w14 ⟨rfl, hb14⟩
  go_wp2_with fail
  refine (s_Bytes w14).mono ?_
  rintro e w15 ⟨A15, c15, rfl, hr15, hb15⟩
  have HR15 := Lib.hid hr15
  clear hr15
  go_wp2_with fail
  refine (s_same3 A15 c15 w15 HR15.out).mono ?_
  rintro e w16 ⟨rfl, hb16⟩
  go_wp2_with fail
  refine (s_Ints w16).mono ?_
  rintro e w17 ⟨A17, c17, rfl, hr17, hb17⟩
  have HR17 := Lib.hid hr17
  clear hr17
  go_wp2_with fail
  refine (s_same3i A17 c17 w17 HR17.out).mono ?_
  rintro e w18 ⟨rfl, hb18⟩
  have hb7_18 := Below.next (Below.next (Below.next (Below.next (Below.next (Below.next (Below.next (Below.next (Below.next (Below.next (Below.next hb7 hb8) hb9) hb10) hb11) hb12) hb13) hb14) hb15) hb16) hb17) hb18
  have HR7' := Lib.hid (HR7.out.below (Below.next (Below.next (Below.next (Below.next (Below.next (Below.next (Below.next (Below.next (Below.next (Below.next hb8 hb9) hb10) hb11) hb12) hb13) hb14) hb15) hb16) hb17) hb18))
  have HD18 := Lib.hid (range_below HD6.out hb7_18)
  have HB := Lib.hid (Below.next (Below.next (Below.next (Below.next (Below.next (Below.next hb1 hb2) hb3) hb4) hb5) hb6) hb7_18)
  clear hb1 hb2 hb3 hb4 hb5 hb6 hb7 hb8 hb9 hb10 hb11 hb12 hb13 hb14 hb15 hb16 hb17 hb18 hb7_18 HR5 HR5' HR6 HD6 HR7 HR8 HR10 HR12 HR15 HR17
  go_wp2_with (first | (refine wpList_load_digG rfl (.tmp 16) rfl w5.heap.size 0 rfl dd rfl HD18.out ?_) | (refine wpList_build_digG rfl (.tmp 150) rfl dd rfl rfl ?_) | (go_at_call 36; refine (s_sameDigs A7 c7 w18 HR7'.out).mono ?_; rintro e w19 ⟨rfl, hb19⟩))
  go_ret
  exact ⟨rfl, Below.next HB.out hb19⟩
end Go.Proofs.Ytpobblcokkgijaa
