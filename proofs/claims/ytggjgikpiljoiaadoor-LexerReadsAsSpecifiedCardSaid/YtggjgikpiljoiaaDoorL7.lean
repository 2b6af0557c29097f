/- The method that reads signs. -/
import Derived.Test.YtggjgikpiljoiaaDoorL6
namespace Go.Proofs.YtggjgikpiljoiaaDoor
open Go.RowKit Hm Wm Lx

section
variable {P : Program} {md : Region.Mode} {ops : Array Oper} {late : List Nat} {S : Array Bool → World → Prop} {Q : Exit → Act → World → Prop} {fuel i : Nat} {oi : Oper} {listed : Array Bool} {a : Act} {w : World}
theorem late_skip (late : List Nat) (d : Option Tmp) (hi : ops[i]? = some oi) (hd : oi.dst = d) (hw : Region.wanted oi (yielded ops a.tmps) = false) (hs : Region.noSelect ops = true) (hf : Region.free md ops listed i = true) (hr : (Region.ready md ops listed).contains i = true)
    (hwt : waitsFor md ops late i = true) (hlf : lateFreeB late listed = true) (hSi : ∀ L W, S (L.setIfInBounds i true) W → S L W) (hQ : ∀ c a w, Q (.panic c) (a.put d undef) w → Q (.panic c) a w) (hS : S listed w) (hS' : S (listed.setIfInBounds i true) w)
    (h : wpAnyT P md ops Q S fuel (listed.setIfInBounds i true) (a.put d undef) w) : wpAnyT P md ops Q S (fuel + 1) listed a w := by
  subst hd
  exact wpAnyT_first hi (Region.noSelect_spec hs) hQ (waitsFor_spec hwt) hSi fuel listed a w (Region.free_spec hi hf) (by simpa using hr) (.inr ⟨hw, rfl⟩) (lateFreeB_spec hlf) hS hS' h
end
theorem exec_buildF {P : Program} {oi : Oper} {a : Act} {w : World} (ty : TypeId) (xs : Array (Nat × Operand)) (ho : oi.op = .build ty xs) (vs : Array (Nat × Value)) (hx : xs.toList.map (fun p => (p.1, a.eval p.2)) = vs.toList) (v : Value) (hl : (Instr.build ty vs).run P w = .ok v w) : (execOp a.eval oi).run P w = .ok (.value v) w := by
  obtain rfl : xs.map (fun p => (p.1, a.eval p.2)) = vs := by apply Array.toList_inj.1; simpa using hx
  simp [execOp, ho, hl]
theorem build_s (k : Int) (s : ByteArray) (W : World) : (Instr.build 33 #[(0, .int .i64 k), (2, .string s)]).run Tryd.prog W = .ok (.agg #[.int .i64 k, .int .i64 0, .string s, .int .i64 0]) W := by kernel_rfl
theorem build_n (k n : Int) (W : World) : (Instr.build 33 #[(0, .int .i64 k), (3, .int .i64 n)]).run Tryd.prog W = .ok (.agg #[.int .i64 k, .int .i64 0, .string ByteArray.empty, .int .i64 n]) W := by kernel_rfl
/-- What a method of the reader leaves. -/
def MetP (g base : Nat) (l : List UInt8) (p : Nat) (T : List TI) (w : World) (c : Int) (e : Ending) (w' : World) : Prop := e = .returned (.int .i64 c) ∧ Rst g base l p T w w'
theorem Rst.pre {g base p : Nat} {l : List UInt8} {T : List TI} {w w1 w2 : World} (h : Rst g base l p T w1 w2) (hb : Below w.heap.size w w1) (hg : base ≤ w.heap.size) : Rst g base l p T w w2 :=
  ⟨h.1, ((Keeps.below hb).x g).trans h.2.1, (hb.mono hg).trans h.2.2⟩
theorem Rst.same {g base p : Nat} {l : List UInt8} {T : List TI} {v : Value} {w w1 : World} (hR : Blk w1 g 46 [.string (sb l), .int .i64 p, v]) (hT : Row w1 base v T) (hb : Below w.heap.size w w1) (hg : base ≤ w.heap.size) : Rst g base l p T w w1 :=
  ⟨⟨v, hR, hT⟩, (Keeps.below hb).x g, hb.mono hg⟩
theorem sgn_cases (c : UInt8) (r : List UInt8) : sgn c r = .bad 26 ∨ ∃ n, sgn c r = .tok 4 ((c :: r).take n) 0 n ∧ 0 < n ∧ n ≤ 2 ∧ n ≤ (c :: r).length := by
  cases r with
  | nil =>
    simp only [sgn]
    cases one c
    · exact .inl rfl
    · exact .inr ⟨1, rfl, by omega, by omega, by simp⟩
  | cons d r =>
    simp only [sgn]
    cases two c d
    · cases one c
      · exact .inl rfl
      · exact .inr ⟨1, rfl, by omega, by omega, by simp⟩
    · exact .inr ⟨2, rfl, by omega, by omega, by simp⟩
set_option maxRecDepth 100000 in
set_option maxHeartbeats 800000 in
theorem sign_any (g base p : Nat) (l r : List UInt8) (c : UInt8) (v : Value) (T : List TI) (w : World) (hR : Blk w g 46 [.string (sb l), .int .i64 p, v]) (hT : Row w base v T) (hg : base ≤ g) (hp : p < l.length) (hl : l.length ≤ 65536) (hn : T.length ≤ 100000) (hd : l.drop p = c :: r) :
    Calls Tryd.prog 30 #[.pointer (some ⟨g, 0, none⟩)] w (match sgn c r with
      | .tok k s z n => MetP g base l (p + n) (T ++ [⟨k, p, sb s, z⟩]) w 0
      | _ => MetP g base l p T w 8) := by
  have hgl : g < w.heap.size := hR.lt
  have hbw : base ≤ w.heap.size := by omega
  have HR := Lib.hid hR
  have HT := Lib.hid hT
  have HW := Lib.hid (Below.refl w.heap.size w)
  have HD := Lib.hid hd
  have hr : r.length ≤ 2 ^ 48 := by have := congrArg List.length hd; rw [List.length_drop, List.length_cons] at this; omega
  clear hR hT hd
  rcases sgn_cases c r with h | ⟨n, h, h0, h2, hln⟩
  · rw [h]
    simp only
    have HG := Lib.hid h
    clear h
    go_enter Tryd.func30, Tryd.ntmps30
    go_wp2_with fail
    refine late_begin (S := fun _ W => Blk W g 46 [.string (sb l), .int .i64 p, v]) (by kernel_rfl) ?_
    have hR0 := HR.out.drew
    have hT0 := HT.out.below (Below.refl _ _).drew
    have hW0 := HW.out.drew
    generalize w.drew = u0 at hR0 hT0 hW0 ⊢
    clear HR HT HW
    refine late_take [] (i := 0) (some 5) rfl rfl (by first | rfl | kernel_rfl) (by kernel_rfl) (by kernel_rfl) (by kernel_rfl) (by kernel_rfl) (by kernel_rfl) (fun Ls W h => h) (.pointer (some ⟨g, 0, none⟩)) (fun _ _ _ h => h) (fun Ls W hl0 hW => exec_move (.tmp 0) rfl _ rfl) hR0 hR0 ?_
    go_frame
    refine late_take [] (i := 1) (some 6) rfl rfl (by first | rfl | kernel_rfl) (by kernel_rfl) (by kernel_rfl) (by kernel_rfl) (by kernel_rfl) (by kernel_rfl) (fun Ls W h => h) (.pointer (some ⟨g, 0, none⟩)) (fun _ _ _ h => h) (fun Ls W hl0 hW => exec_nilCheck _ rfl  (some ⟨g, 0, none⟩) rfl) hR0 hR0 ?_
    go_frame
    refine late_take [] (i := 2) (some 7) rfl rfl (by first | rfl | kernel_rfl) (by kernel_rfl) (by kernel_rfl) (by kernel_rfl) (by kernel_rfl) (by kernel_rfl) (fun Ls W h => h) (.pointer (some ⟨g, 0, none⟩)) (fun _ _ _ h => h) (fun Ls W hl0 hW => exec_fieldAddr 46 (.tmp 6) 0 rfl _ _ rfl (fa_lexer_reader_0_0 _ _)) hR0 hR0 ?_
    go_frame
    refine late_take [] (i := 3) (some 8) rfl rfl (by first | rfl | kernel_rfl) (by kernel_rfl) (by kernel_rfl) (by kernel_rfl) (by kernel_rfl) (by kernel_rfl) (fun Ls W h => h) (.string (sb l)) (fun _ _ _ h => h) (fun Ls W hl0 hW => exec_load 9 (.tmp 7) rfl _ _ rfl (run_load_cell flat_string (hW.cell 0))) hR0 hR0 ?_
    go_frame
    refine late_take [] (i := 4) (some 9) rfl rfl (by first | rfl | kernel_rfl) (by kernel_rfl) (by kernel_rfl) (by kernel_rfl) (by kernel_rfl) (by kernel_rfl) (fun Ls W h => h) (.pointer (some ⟨g, 0, none⟩)) (fun _ _ _ h => h) (fun Ls W hl0 hW => exec_move (.tmp 0) rfl _ rfl) hR0 hR0 ?_
    go_frame
    refine late_take [] (i := 5) (some 10) rfl rfl (by first | rfl | kernel_rfl) (by kernel_rfl) (by kernel_rfl) (by kernel_rfl) (by kernel_rfl) (by kernel_rfl) (fun Ls W h => h) (.pointer (some ⟨g, 0, none⟩)) (fun _ _ _ h => h) (fun Ls W hl0 hW => exec_nilCheck _ rfl  (some ⟨g, 0, none⟩) rfl) hR0 hR0 ?_
    go_frame
    refine late_take [] (i := 6) (some 11) rfl rfl (by first | rfl | kernel_rfl) (by kernel_rfl) (by kernel_rfl) (by kernel_rfl) (by kernel_rfl) (by kernel_rfl) (fun Ls W h => h) (.pointer (some ⟨g, 1, none⟩)) (fun _ _ _ h => h) (fun Ls W hl0 hW => exec_fieldAddr 46 (.tmp 10) 1 rfl _ _ rfl (fa_lexer_reader_1_0 _ _)) hR0 hR0 ?_
    go_frame
    refine late_take [] (i := 7) (some 12) rfl rfl (by first | rfl | kernel_rfl) (by kernel_rfl) (by kernel_rfl) (by kernel_rfl) (by kernel_rfl) (by kernel_rfl) (fun Ls W h => h) (.int .i64 p) (fun _ _ _ h => h) (fun Ls W hl0 hW => exec_load 3 (.tmp 11) rfl _ _ rfl (run_load_cell flat_int (hW.cell 1))) hR0 hR0 ?_
    go_frame
    refine late_take [] (i := 8) (some 13) rfl rfl (by first | rfl | kernel_rfl) (by kernel_rfl) (by kernel_rfl) (by kernel_rfl) (by kernel_rfl) (by kernel_rfl) (fun Ls W h => h) (.string (sb (c :: r))) (fun _ _ _ h => h) (fun Ls W hl0 hW => exec_slice_lo 9 (.tmp 8) (.tmp 12) rfl _ _ _ rfl rfl (by rw [← HD.out]; exact run_str_lo W l p (by omega))) hR0 hR0 ?_
    go_frame
    refine late_take [] (i := 9) (some 3) rfl rfl (by first | rfl | kernel_rfl) (by kernel_rfl) (by kernel_rfl) (by kernel_rfl) (by kernel_rfl) (by kernel_rfl) (fun Ls W h => h) (.string (sb (c :: r))) (fun _ _ _ h => h) (fun Ls W hl0 hW => exec_assign (.tmp 13) rfl _ rfl) hR0 hR0 ?_
    refine late_done (by kernel_rfl) ?_ _
    go_frame
    have HR := Lib.hid hR0
    have HT := Lib.hid hT0
    have HW := Lib.hid hW0
    clear hR0 hT0 hW0
    have hsg := fun W => sgl_any c r W hr
    simp only [HG.out, St.len] at hsg
    have HSG := Lib.hid hsg
    clear hsg
    go_wp2_with (first | (refine (HSG.out _).mono ?_; rintro e w1 ⟨rfl, rfl⟩))
    go_ret
    exact ⟨rfl, Rst.same HR.out HT.out HW.out hbw⟩
  · rw [h]
    simp only
    have HG := Lib.hid h
    clear h
    go_enter Tryd.func30, Tryd.ntmps30
    go_wp2_with fail
    refine late_begin (S := fun _ W => Blk W g 46 [.string (sb l), .int .i64 p, v]) (by kernel_rfl) ?_
    have hR0 := HR.out.drew
    have hT0 := HT.out.below (Below.refl _ _).drew
    have hW0 := HW.out.drew
    generalize w.drew = u0 at hR0 hT0 hW0 ⊢
    clear HR HT HW
    refine late_take [] (i := 0) (some 5) rfl rfl (by first | rfl | kernel_rfl) (by kernel_rfl) (by kernel_rfl) (by kernel_rfl) (by kernel_rfl) (by kernel_rfl) (fun Ls W h => h) (.pointer (some ⟨g, 0, none⟩)) (fun _ _ _ h => h) (fun Ls W hl0 hW => exec_move (.tmp 0) rfl _ rfl) hR0 hR0 ?_
    go_frame
    refine late_take [] (i := 1) (some 6) rfl rfl (by first | rfl | kernel_rfl) (by kernel_rfl) (by kernel_rfl) (by kernel_rfl) (by kernel_rfl) (by kernel_rfl) (fun Ls W h => h) (.pointer (some ⟨g, 0, none⟩)) (fun _ _ _ h => h) (fun Ls W hl0 hW => exec_nilCheck _ rfl  (some ⟨g, 0, none⟩) rfl) hR0 hR0 ?_
    go_frame
    refine late_take [] (i := 2) (some 7) rfl rfl (by first | rfl | kernel_rfl) (by kernel_rfl) (by kernel_rfl) (by kernel_rfl) (by kernel_rfl) (by kernel_rfl) (fun Ls W h => h) (.pointer (some ⟨g, 0, none⟩)) (fun _ _ _ h => h) (fun Ls W hl0 hW => exec_fieldAddr 46 (.tmp 6) 0 rfl _ _ rfl (fa_lexer_reader_0_0 _ _)) hR0 hR0 ?_
    go_frame
    refine late_take [] (i := 3) (some 8) rfl rfl (by first | rfl | kernel_rfl) (by kernel_rfl) (by kernel_rfl) (by kernel_rfl) (by kernel_rfl) (by kernel_rfl) (fun Ls W h => h) (.string (sb l)) (fun _ _ _ h => h) (fun Ls W hl0 hW => exec_load 9 (.tmp 7) rfl _ _ rfl (run_load_cell flat_string (hW.cell 0))) hR0 hR0 ?_
    go_frame
    refine late_take [] (i := 4) (some 9) rfl rfl (by first | rfl | kernel_rfl) (by kernel_rfl) (by kernel_rfl) (by kernel_rfl) (by kernel_rfl) (by kernel_rfl) (fun Ls W h => h) (.pointer (some ⟨g, 0, none⟩)) (fun _ _ _ h => h) (fun Ls W hl0 hW => exec_move (.tmp 0) rfl _ rfl) hR0 hR0 ?_
    go_frame
    refine late_take [] (i := 5) (some 10) rfl rfl (by first | rfl | kernel_rfl) (by kernel_rfl) (by kernel_rfl) (by kernel_rfl) (by kernel_rfl) (by kernel_rfl) (fun Ls W h => h) (.pointer (some ⟨g, 0, none⟩)) (fun _ _ _ h => h) (fun Ls W hl0 hW => exec_nilCheck _ rfl  (some ⟨g, 0, none⟩) rfl) hR0 hR0 ?_
    go_frame
    refine late_take [] (i := 6) (some 11) rfl rfl (by first | rfl | kernel_rfl) (by kernel_rfl) (by kernel_rfl) (by kernel_rfl) (by kernel_rfl) (by kernel_rfl) (fun Ls W h => h) (.pointer (some ⟨g, 1, none⟩)) (fun _ _ _ h => h) (fun Ls W hl0 hW => exec_fieldAddr 46 (.tmp 10) 1 rfl _ _ rfl (fa_lexer_reader_1_0 _ _)) hR0 hR0 ?_
    go_frame
    refine late_take [] (i := 7) (some 12) rfl rfl (by first | rfl | kernel_rfl) (by kernel_rfl) (by kernel_rfl) (by kernel_rfl) (by kernel_rfl) (by kernel_rfl) (fun Ls W h => h) (.int .i64 p) (fun _ _ _ h => h) (fun Ls W hl0 hW => exec_load 3 (.tmp 11) rfl _ _ rfl (run_load_cell flat_int (hW.cell 1))) hR0 hR0 ?_
    go_frame
    refine late_take [] (i := 8) (some 13) rfl rfl (by first | rfl | kernel_rfl) (by kernel_rfl) (by kernel_rfl) (by kernel_rfl) (by kernel_rfl) (by kernel_rfl) (fun Ls W h => h) (.string (sb (c :: r))) (fun _ _ _ h => h) (fun Ls W hl0 hW => exec_slice_lo 9 (.tmp 8) (.tmp 12) rfl _ _ _ rfl rfl (by rw [← HD.out]; exact run_str_lo W l p (by omega))) hR0 hR0 ?_
    go_frame
    refine late_take [] (i := 9) (some 3) rfl rfl (by first | rfl | kernel_rfl) (by kernel_rfl) (by kernel_rfl) (by kernel_rfl) (by kernel_rfl) (by kernel_rfl) (fun Ls W h => h) (.string (sb (c :: r))) (fun _ _ _ h => h) (fun Ls W hl0 hW => exec_assign (.tmp 13) rfl _ rfl) hR0 hR0 ?_
    refine late_done (by kernel_rfl) ?_ _
    go_frame
    have HR := Lib.hid hR0
    have HT := Lib.hid hT0
    have HW := Lib.hid hW0
    clear hR0 hT0 hW0
    have hsg := fun W => sgl_any c r W hr
    simp only [HG.out, St.len] at hsg
    have HSG := Lib.hid hsg
    clear hsg HG
    have hn0 : ((n : Int) == 0) = false := by rw [beq_eq_false_iff_ne]; omega
    go_wp2_with (first | (refine (HSG.out _).mono ?_; rintro e w1 ⟨rfl, rfl⟩) | (refine wpList_dst 21 rfl ?_; refine wpList_run 21 rfl rfl _ (exec_slice_hi 9 (.tmp 19) (.tmp 20) rfl (.string (sb (c :: r))) (.int .i64 n) (.string (sb ((c :: r).take n))) rfl rfl (run_str_hi _ _ n hln)) ?_; go_frame) | (refine wpList_dst 22 rfl ?_; refine wpList_run 22 rfl rfl _ (exec_buildF 33 #[(0, .const (.int .i64 4)), (2, .tmp 21)] rfl #[(0, .int .i64 4), (2, .string (sb ((c :: r).take n)))] rfl _ (build_s 4 (sb ((c :: r).take n)) _)) ?_; go_frame) | (refine (add_any g base p n l v T ⟨4, 0, sb ((c :: r).take n), 0⟩ _ HR.out HT.out hg (by omega) (by omega) (by omega)).mono ?_; rintro e w9 ⟨rfl, hq⟩; have HQ := Lib.hid hq; clear hq))
    go_ret
    exact ⟨rfl, HQ.out.pre HW.out hbw⟩
end Go.Proofs.YtggjgikpiljoiaaDoor
