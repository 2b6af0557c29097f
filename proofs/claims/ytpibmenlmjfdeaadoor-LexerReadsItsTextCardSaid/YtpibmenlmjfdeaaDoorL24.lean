/- The walk of LexerReadsItsText. -/
import Derived.Test.YtpibmenlmjfdeaaDoorL23
import Derived.Test.YtpibmenlmjfdeaaDoorLM5
import Derived.Deep.DeepCutAuto
namespace Go.Proofs.YtpibmenlmjfdeaaDoor
open Go.RowKit Hm Wm Lx

theorem pb_eq0 (W : World) : (binOp .eql 26 (.agg #[.int .i64 0, .int .i64 0]) (.agg #[.int .i64 0, .int .i64 0])).run Tryd.prog W = .ok (.bool true) W := by kernel_rfl
theorem pb_gd (x y : Operand) (xs ys : Array Value) (W : World) : (eqGuard .eql 26 x y (.agg xs) (.agg ys)).run Tryd.prog W = .ok () W := run_eqGuard_agg W .eql _ x y xs ys (by kernel_rfl)
theorem text_tok (T : List Tok) (X : List UInt8) (hX : textL T = X) (hn : T.length ≤ 70000) (hs : ∀ t ∈ T, t.s.length ≤ 70000 ∧ t.v < 1000000000000000) (hl : X.length ≤ 200000) (A : Option Addr) (c : Nat) (w : World) (hE : Env w) (hr : RdT w A (T.map toT)) :
    Calls Tryd.prog 14 #[.slice A T.length c] w fun e w' => e = .returned (.string (sb X)) ∧ Below w.heap.size w w' := by
  have h := text_of A c (T.map toT) w hr hE (by rw [List.length_map]; omega) (fun x hx => by
    obtain ⟨t, ht, rfl⟩ := List.mem_map.1 hx
    have := (hs t ht).1
    show (sb t.s).size ≤ _
    rw [sb_size]; omega) (fun x hx => by
    obtain ⟨t, ht, rfl⟩ := List.mem_map.1 hx
    have := (hs t ht).2
    show (-9223372036854775808 : Int) ≤ (t.v : Int) ∧ (t.v : Int) ≤ 9223372036854775807
    omega) (by rw [textI_tok, hX]; omega)
  rw [List.length_map, textI_tok, hX] at h
  exact h
theorem strip_st {T V : List Tok} (h : V.map strip = T.map strip) : (T.map toT).map stI = (V.map toT).map stI := by
  have e : ∀ L : List Tok, (L.map toT).map stI = (L.map strip).map fun p => ((p.1 : Int), sb p.2.1, (p.2.2 : Int)) := fun L => by
    rw [List.map_map, List.map_map]; rfl
  rw [e, e, h]
set_option maxRecDepth 100000 in
set_option maxHeartbeats 1000000 in
theorem reads_long (l : List UInt8) (w : World) (hE : Env w) (h : 2000 < l.length) : Calls Tryd.prog 6 #[.string (sb l)] w fun e w' => e = .returned (.bool true) ∧ Below w.heap.size w w' := by
  have hz : (sb l).size = l.length := sb_size l
  have HE := Lib.hid hE
  have HW := Lib.hid (Below.refl w.heap.size w)
  have h1 : decide ((2000 : Int) < ((sb l).size : Int)) = true := decide_eq_true (by omega)
  clear hz hE h
  go_enter Tryd.func6, Tryd.ntmps6
  go_wp2_with (first | ((with_reducible refine (sanity_any _ HE.out).mono ?_); rintro e wy ⟨rfl, hb⟩; replace HE := Lib.hid (HE.out.next hb); replace HW := Lib.hid (HW.out.trans (hb.mono HW.out.size)); clear hb))
  go_ret
  exact ⟨rfl, HW.out⟩
set_option maxRecDepth 100000 in
set_option maxHeartbeats 1000000 in
theorem reads_bad (l : List UInt8) (w : World) (hE : Env w) (hl : l.length ≤ 2000) (x k : Nat) (hk : k ≠ 0) (h : lex l 0 = .bad x k) : Calls Tryd.prog 6 #[.string (sb l)] w fun e w' => e = .returned (.bool true) ∧ Below w.heap.size w w' := by
  have hz : (sb l).size = l.length := sb_size l
  have HE := Lib.hid hE
  have HW := Lib.hid (Below.refl w.heap.size w)
  have h1 : decide ((2000 : Int) < ((sb l).size : Int)) = false := decide_eq_false (by omega)
  have Hh := Lib.hid h
  have HhL := Lib.hid (show l.length ≤ 65536 by omega)
  have he : ((k : Int) == 0) = false := by rw [beq_eq_false_iff_ne]; omega
  clear hz hE h hl hk
  go_enter Tryd.func6, Tryd.ntmps6
  go_upto_region 4 with (first | ((with_reducible refine (tok_no l x k (HhL.out) Hh.out _ HE.out).mono ?_); rintro e a1 ⟨rfl, hb⟩; replace HE := Lib.hid (HE.out.next hb); replace HW := Lib.hid (HW.out.trans (hb.mono HW.out.size)); clear hb) | (refine wpList_new rfl 26 rfl [.int .i64 0, .int .i64 0] pb_zero ?_; intro d1 HP1 HB1) | (refine wpList_store_all rfl 26 (.tmp 4) (.tmp 16) rfl a1.heap.size 26 [.int .i64 0, .int .i64 0] [.int .i64 x, .int .i64 k] rfl rfl HP1.out rfl pb_size (List.forall_mem_cons.2 ⟨rfl, (List.forall_mem_cons.2 ⟨rfl, fun _ h => nomatch h⟩)⟩) ?_; intro f1 HQ1 ho; have hb := HB1.out.trans (ho.below (Nat.le_refl _)); replace HE := Lib.hid (HE.out.next hb); replace HW := Lib.hid (HW.out.trans (hb.mono HW.out.size)); clear hb ho HP1 HB1))
  go_wp2_with (first | (refine wpList_dst 17 rfl ?_; refine wpList_run 17 rfl rfl _ (exec_fieldAddr 26 (.tmp 4) 1 rfl _ _ rfl (pb_f _ 1 (by decide) _)) ?_; go_frame) | (refine wpList_dst 18 rfl ?_; refine wpList_run 18 rfl rfl _ (exec_load 24 (.tmp 17) rfl _ (.int .i64 k) rfl (run_load_cell er_flat (HQ1.out.cell 1))) ?_; go_frame) | ((with_reducible refine (sanity_any _ HE.out).mono ?_); rintro e wy ⟨rfl, hb⟩; replace HE := Lib.hid (HE.out.next hb); replace HW := Lib.hid (HW.out.trans (hb.mono HW.out.size)); replace HQ1 := Lib.hid (HQ1.out.next hb); clear hb))
  go_ret
  exact ⟨rfl, HW.out⟩
set_option maxRecDepth 100000 in
set_option maxHeartbeats 1000000 in
theorem reads_ok (l : List UInt8) (w : World) (hE : Env w) (hl : l.length ≤ 2000) (X : List UInt8) (hX : X.length ≤ 65536) (T V : List Tok) (h : lex l 0 = .ok T) (hq : lex X 0 = .ok V) (hT : (∀ (A : Option Addr) (c : Nat) (W : World), Env W → RdT W A (T.map toT) → Calls Tryd.prog 14 #[.slice A T.length c] W fun e w' => e = .returned (.string (sb X)) ∧ Below W.heap.size W w')) (hV : (∀ (A : Option Addr) (c : Nat) (W : World), Env W → RdT W A (V.map toT) → Calls Tryd.prog 14 #[.slice A V.length c] W fun e w' => e = .returned (.string (sb X)) ∧ Below W.heap.size W w')) (hS : (∀ (A B : Option Addr) (c d : Nat) (W : World), RdT W A (T.map toT) → RdT W B (V.map toT) → Calls Tryd.prog 18 #[.slice A T.length c, .slice B V.length d] W fun e w' => e = .returned (.bool true) ∧ Below W.heap.size W w')) : Calls Tryd.prog 6 #[.string (sb l)] w fun e w' => e = .returned (.bool true) ∧ Below w.heap.size w w' := by
  have hz : (sb l).size = l.length := sb_size l
  have HE := Lib.hid hE
  have HW := Lib.hid (Below.refl w.heap.size w)
  have h1 : decide ((2000 : Int) < ((sb l).size : Int)) = false := decide_eq_false (by omega)
  have Hh := Lib.hid h
  have HhL := Lib.hid (show l.length ≤ 65536 by omega)
  have Hq := Lib.hid hq
  have HqL := Lib.hid hX
  have HT := Lib.hid hT
  have HV := Lib.hid hV
  have HS := Lib.hid hS
  clear hz hE h hl hq hX hT hV hS
  go_enter Tryd.func6, Tryd.ntmps6
  go_upto_region 4 with (first | ((with_reducible refine (tok_ok l _ (HhL.out) _ HE.out Hh.out).mono ?_); rintro e a1 ⟨⟨A1, c1, rfl, hrd⟩, hb⟩; replace HE := Lib.hid (HE.out.next hb); replace HW := Lib.hid (HW.out.trans (hb.mono HW.out.size)); have HR1 := Lib.hid hrd; clear hrd hb) | (refine wpList_new rfl 26 rfl [.int .i64 0, .int .i64 0] pb_zero ?_; intro d1 HP1 HB1) | (refine wpList_store_all rfl 26 (.tmp 4) (.tmp 16) rfl a1.heap.size 26 [.int .i64 0, .int .i64 0] [.int .i64 0, .int .i64 0] rfl rfl HP1.out rfl pb_size (List.forall_mem_cons.2 ⟨rfl, (List.forall_mem_cons.2 ⟨rfl, fun _ h => nomatch h⟩)⟩) ?_; intro f1 HQ1 ho; have hb := HB1.out.trans (ho.below (Nat.le_refl _)); replace HE := Lib.hid (HE.out.next hb); replace HW := Lib.hid (HW.out.trans (hb.mono HW.out.size)); replace HR1 := Lib.hid (HR1.out.below hb); clear hb ho HP1 HB1))
  go_upto_region 7 with (first | (refine wpList_dst 17 rfl ?_; refine wpList_run 17 rfl rfl _ (exec_fieldAddr 26 (.tmp 4) 1 rfl _ _ rfl (pb_f _ 1 (by decide) _)) ?_; go_frame) | (refine wpList_dst 18 rfl ?_; refine wpList_run 18 rfl rfl _ (exec_load 24 (.tmp 17) rfl _ (.int .i64 0) rfl (run_load_cell er_flat (HQ1.out.cell 1))) ?_; go_frame) | ((with_reducible refine (HT.out _ _ _ HE.out HR1.out).mono ?_); rintro e wt ⟨rfl, hb⟩; replace HE := Lib.hid (HE.out.next hb); replace HW := Lib.hid (HW.out.trans (hb.mono HW.out.size)); replace HR1 := Lib.hid (HR1.out.below hb); replace HQ1 := Lib.hid (HQ1.out.next hb); clear hb))
  go_upto_region 8 with (first | ((with_reducible refine (tok_ok X _ (HqL.out) _ HE.out Hq.out).mono ?_); rintro e a2 ⟨⟨A2, c2, rfl, hrd⟩, hb⟩; replace HE := Lib.hid (HE.out.next hb); replace HW := Lib.hid (HW.out.trans (hb.mono HW.out.size)); replace HR1 := Lib.hid (HR1.out.below hb); replace HQ1 := Lib.hid (HQ1.out.next hb); have HR2 := Lib.hid hrd; clear hrd hb) | (refine wpList_new rfl 26 rfl [.int .i64 0, .int .i64 0] pb_zero ?_; intro d2 HP2 HB2) | (refine wpList_store_all rfl 26 (.tmp 7) (.tmp 32) rfl a2.heap.size 26 [.int .i64 0, .int .i64 0] [.int .i64 0, .int .i64 0] rfl rfl HP2.out rfl pb_size (List.forall_mem_cons.2 ⟨rfl, (List.forall_mem_cons.2 ⟨rfl, fun _ h => nomatch h⟩)⟩) ?_; intro f2 HQ2 ho; have hb := HB2.out.trans (ho.below (Nat.le_refl _)); replace HE := Lib.hid (HE.out.next hb); replace HW := Lib.hid (HW.out.trans (hb.mono HW.out.size)); replace HR1 := Lib.hid (HR1.out.below hb); replace HQ1 := Lib.hid (HQ1.out.next hb); replace HR2 := Lib.hid (HR2.out.below hb); clear hb ho HP2 HB2))
  go_wp2_with (first | ((with_reducible refine (sanity_any _ HE.out).mono ?_); rintro e wy ⟨rfl, hb⟩; replace HE := Lib.hid (HE.out.next hb); replace HW := Lib.hid (HW.out.trans (hb.mono HW.out.size)); replace HR1 := Lib.hid (HR1.out.below hb); replace HQ1 := Lib.hid (HQ1.out.next hb); replace HR2 := Lib.hid (HR2.out.below hb); replace HQ2 := Lib.hid (HQ2.out.next hb); clear hb) | (refine wpList_dst 35 rfl ?_; refine wpList_runG 35 rfl rfl _ (exec_load 26 (.tmp 7) rfl _ (.agg #[.int .i64 0, .int .i64 0]) rfl (run_load_part _ 26 _ 0 2 _ [.int .i64 0, .int .i64 0] _ HQ2.out (by simp) Tryd.underlying26 rfl pb_size)) ?_; go_frame) | (refine wpList_dst 36 rfl ?_; refine wpList_runG 36 rfl rfl _ (exec_buildF 26 #[] rfl #[] rfl _ (build_pb0 _)) ?_; go_frame) | (refine wpList_dst 37 rfl ?_; refine wpList_runG 37 rfl rfl _ (exec_bin .eql 26 _ (.tmp 35) (.tmp 36) rfl (.agg #[.int .i64 0, .int .i64 0]) (.agg #[.int .i64 0, .int .i64 0]) _ rfl rfl (pb_gd _ _ _ _ _) (pb_eq0 _)) ?_; go_frame) | ((with_reducible refine (HS.out _ _ _ _ _ HR1.out HR2.out).mono ?_); rintro e ws ⟨rfl, hb⟩; replace HE := Lib.hid (HE.out.next hb); replace HW := Lib.hid (HW.out.trans (hb.mono HW.out.size)); replace HR1 := Lib.hid (HR1.out.below hb); replace HQ1 := Lib.hid (HQ1.out.next hb); replace HR2 := Lib.hid (HR2.out.below hb); replace HQ2 := Lib.hid (HQ2.out.next hb); clear hb) | ((with_reducible refine (HV.out _ _ _ HE.out HR2.out).mono ?_); rintro e wv ⟨rfl, hb⟩; replace HE := Lib.hid (HE.out.next hb); replace HW := Lib.hid (HW.out.trans (hb.mono HW.out.size)); replace HR1 := Lib.hid (HR1.out.below hb); replace HQ1 := Lib.hid (HQ1.out.next hb); replace HR2 := Lib.hid (HR2.out.below hb); replace HQ2 := Lib.hid (HQ2.out.next hb); clear hb) | (refine wpList_dst 48 rfl ?_; refine wpList_runG 48 rfl rfl _ (exec_bin .eql 9 _ (.tmp 46) (.tmp 47) rfl (.string (sb X)) (.string (sb X)) _ rfl rfl rfl (str_same _ _)) ?_; go_frame))
  go_ret
  exact ⟨rfl, HW.out⟩
theorem walk_reads (s : ByteArray) (w : World) (hE : Env w) (hs : s.size ≤ 9223372036854775807) : Calls Tryd.prog 6 #[.string s] w fun e w' => e = .returned (.bool true) ∧ Below w.heap.size w w' := by
  have e : s = sb s.data.toList := (sb_of s).symm
  have hz : s.data.toList.length = s.size := Array.length_toList
  rw [e]
  generalize s.data.toList = l at hz
  rcases Nat.lt_or_ge 2000 l.length with h | h
  · exact reads_long l w hE h
  · cases hx : lex l 0 with
    | bad x k => exact reads_bad l w hE h x k (lex_codes hx) hx
    | ok T =>
      obtain ⟨V, h1, h2, h3, h4⟩ := lex_text hx 0
      obtain ⟨a1, a2⟩ := lex_small l 0 T hx
      obtain ⟨b1, b2⟩ := lex_small _ 0 V h1
      have hm := strip_st h2
      exact reads_ok l w hE h (textL T) (by omega) T V hx h1
        (fun A c W hW hr => text_tok T _ rfl (by omega) (fun t ht => ⟨by have := (a2 t ht).1; omega, (a2 t ht).2⟩) (by omega) A c W hW hr)
        (fun A c W hW hr => text_tok V _ h3 (by omega) (fun t ht => ⟨by have := (b2 t ht).1; omega, (b2 t ht).2⟩) (by omega) A c W hW hr)
        (fun A B c d W ha hb => by
          have := same_any (T.map toT) (V.map toT) A B c d W ha hb hm (by rw [List.length_map]; omega)
          rw [List.length_map, List.length_map] at this
          exact this)
end Go.Proofs.YtpibmenlmjfdeaaDoor
