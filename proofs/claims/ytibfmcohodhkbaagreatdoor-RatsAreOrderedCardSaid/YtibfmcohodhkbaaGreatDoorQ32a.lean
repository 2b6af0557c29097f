/- The walk of RatsAreOrdered. -/
import Derived.Test.YtibfmcohodhkbaaGreatDoorQ31
import Derived.Deep.DeepCutAuto
namespace Go.Proofs.YtibfmcohodhkbaaGreatDoor
open Go.RowKit Hm Wm Wn

theorem wpList_skipD {P : Program} {ops : Array Oper} {Q : Exit → Act → World → Prop} {a : Act} {w : World} {rest : List Oper} {o : Oper} (d : Tmp) (hd : o.dst = some d)
    (hw : Region.wanted o (yielded ops a.tmps) = false) (h : wpList P ops Q rest (a.put (some d) undef) w) : wpList P ops Q (o :: rest) a w := by
  rw [← hd] at h
  exact wpList_skip hw h
def skipOk (ops : Array Oper) : List Oper → List Tmp → Act → Bool
  | [], [], _ => true
  | u :: us, d :: ds, a => (u.dst == some d) && (Region.wanted u (yielded ops a.tmps) == false) && skipOk ops us ds (a.put (some d) undef)
  | _, _, _ => false
theorem wpList_skips {P : Program} {ops : Array Oper} {Q : Exit → Act → World → Prop} {w : World} : ∀ (us : List Oper) (ds : List Tmp) (rest : List Oper) (a : Act), skipOk ops us ds a = true → wpList P ops Q rest (ds.foldl (fun a d => a.put (some d) undef) a) w → wpList P ops Q (us ++ rest) a w
  | [], [], rest, a, _, h => h
  | [], _ :: _, _, _, hk, _ => by simp [skipOk] at hk
  | _ :: _, [], _, _, hk, _ => by simp [skipOk] at hk
  | u :: us, d :: ds, rest, a, hk, h => by
    simp only [skipOk, Bool.and_eq_true, beq_iff_eq] at hk
    refine wpList_skip hk.1.2 ?_
    rw [hk.1.1]
    exact wpList_skips us ds rest _ hk.2 h
/-- An operation is done, and those behind it that are not wanted are passed over, in one step. -/
theorem wpList_runSkip {w : World} {ops : Array Oper} {tail : List Oper} {o : Oper} {a : Act} {Q : Exit → Act → World → Prop} (d : Tmp) (hd : o.dst = some d) (hw : Region.wanted o (yielded ops a.tmps) = true) (v : Value) (hrun : (execOp a.eval o).run Tryz.prog w = .ok (.value v) w)
    (n : Nat) (ds : List Tmp) (hk : skipOk ops (tail.take n) ds (a.put (some d) v) = true) (h : wpList Tryz.prog ops Q (tail.drop n) (ds.foldl (fun a d => a.put (some d) undef) (a.put (some d) v)) w) : wpList Tryz.prog ops Q (o :: tail) a w := by
  refine wpList_runG d hd hw v hrun ?_
  have := wpList_skips (P := Tryz.prog) (Q := Q) (w := w) (tail.take n) ds (tail.drop n) _ hk h
  rwa [List.take_append_drop] at this

/-- The law's own operations, and what is left of them. -/
noncomputable def law5 : Code := Tryz.f5.body.getD .skip
def dropS : Nat → Code → Code
  | n + 1, .seq _ b => dropS n b
  | _, c => c
def headS : Code → Code
  | .seq a _ => a
  | c => c
set_option maxRecDepth 1000000 in
set_option maxHeartbeats 6000000 in
theorem ord_c (x y z fi sb o : Rv) (c1 c2 c3 c10 f k c kc c174 c182 : Int) (w wc : World) (h160 : (∀ W, Calls Tryz.prog 12 #[rv x] W fun e w' => e = .returned (.tuple #[.int .i64 f, .int .i64 k]) ∧ Below W.heap.size W w')) (h165 : (∀ W, Calls Tryz.prog 14 #[rv x] W fun e w' => e = .returned (.tuple #[.int .i64 c, .int .i64 kc]) ∧ Below W.heap.size W w')) (hh : k = 3 ∨ (k = 0 ∧ (∀ W, Calls Tryz.prog 18 #[.int .i64 f] W fun e w' => e = .returned (rv fi) ∧ Below W.heap.size W w') ∧ (∀ W, Calls Tryz.prog 28 #[rv fi, rv x] W fun e w' => e = .returned (.int .i64 c174) ∧ Below W.heap.size W w') ∧ (∀ W, Calls Tryz.prog 24 #[rv x, rv fi] W fun e w' => e = .returned (rv sb) ∧ Below W.heap.size W w') ∧ (∀ W, Calls Tryz.prog 18 #[.int .i64 1] W fun e w' => e = .returned (rv o) ∧ Below W.heap.size W w') ∧ (∀ W, Calls Tryz.prog 28 #[rv sb, rv o] W fun e w' => e = .returned (.int .i64 c182) ∧ Below W.heap.size W w') ∧ decide (0 < c174) = false ∧ decide (0 ≤ c182) = false ∧ (kc = 3 ∨ (kc = 0 ∧ (∀ W, (binOp .sub 3 (.int .i64 c) (.int .i64 f)).run Tryz.prog W = .ok (.int .i64 0) W) ∧ (∀ W, (binOp .eql 23 (rv fi) (rv x)).run Tryz.prog W = .ok (.bool true) W)) ∨ (kc = 0 ∧ (∀ W, (binOp .sub 3 (.int .i64 c) (.int .i64 f)).run Tryz.prog W = .ok (.int .i64 1) W) ∧ (∀ W, (binOp .neq 23 (rv fi) (rv x)).run Tryz.prog W = .ok (.bool true) W))))) (g11 g12 : Nat) (K : Act → World → Prop) (hK : ∀ (av : Act) (wv : World), Code.wp Tryz.prog (dropS 9 law5) (bodyPost Tryz.prog Tryz.f5 (fun e w' => e = .returned (.bool true) ∧ Below w.heap.size w w')) av wv → K av wv) (kX : Blk wc w.heap.size 23 [.bool x.neg, .string x.n, .string x.d]) (kW : Below w.heap.size w wc) (kE : Env wc) (u17 u18 u19 u20 u21 u22 u23 u24 u25 u26 u27 u28 u29 u30 u31 u32 u33 u34 u35 u36 u37 u38 u39 u40 u41 u42 u43 u44 u45 u46 u47 u48 u49 u50 u51 u52 u53 u54 u55 u56 u57 u58 u59 u60 u61 u62 u63 u64 u65 u66 u67 u68 u69 u70 u71 u72 u73 u74 u75 u76 u77 u78 u79 u80 u81 u82 u83 u84 u85 u86 u87 u88 u89 u90 u91 u92 u93 u94 u95 u96 u97 u98 u99 u100 u101 u102 u103 u104 u105 u106 u107 u108 u109 u110 u111 u112 u113 u114 u115 u116 u117 u118 u119 u120 u121 u122 u123 u124 u125 u126 u127 u128 u129 u130 u131 u132 u133 u134 u135 u136 u137 u138 u139 u140 u141 u142 u143 u144 u145 u146 u147 u148 u149 u150 u151 u152 u153 u154 u155 u156 u157 u158 u159 u160 u161 u162 u163 u164 u165 u166 u167 u168 u169 u170 u171 u172 u173 u174 u175 u176 u177 u178 u179 u180 u181 u182 u183 u184 u185 u186 u187 u188 u189 u190 u191 u192 u193 u194 u195 u196 u197 u198 u199 u200 u201 u202 u203 u204 u205 u206 u207 u208 u209 u210 u211 u212 u213 u214 u215 u216 u217 u218 : Value) :
    Code.wp Tryz.prog (headS (dropS 8 law5)) (Exit.then K (bodyPost Tryz.prog Tryz.f5 (fun e w' => e = .returned (.bool true) ∧ Below w.heap.size w w'))) { tmps := #[.agg #[.bool x.neg, .string x.n, .string x.d], .agg #[.bool y.neg, .string y.n, .string y.d], .agg #[.bool z.neg, .string z.n, .string z.d], .pointer (some ⟨w.heap.size, 0, none⟩), .pointer (some ⟨(w.heap.size + 1), 0, none⟩), .pointer (some ⟨(w.heap.size + 1 + 1), 0, none⟩), .bool false, .int .i64 c1, .int .i64 c2, .int .i64 c3, .int .i64 c10, .pointer (some ⟨g11, 0, none⟩), .pointer (some ⟨g12, 0, none⟩), undef, undef, undef, undef, u17, u18, u19, u20, u21, u22, u23, u24, u25, u26, u27, u28, u29, u30, u31, u32, u33, u34, u35, u36, u37, u38, u39, u40, u41, u42, u43, u44, u45, u46, u47, u48, u49, u50, u51, u52, u53, u54, u55, u56, u57, u58, u59, u60, u61, u62, u63, u64, u65, u66, u67, u68, u69, u70, u71, u72, u73, u74, u75, u76, u77, u78, u79, u80, u81, u82, u83, u84, u85, u86, u87, u88, u89, u90, u91, u92, u93, u94, u95, u96, u97, u98, u99, u100, u101, u102, u103, u104, u105, u106, u107, u108, u109, u110, u111, u112, u113, u114, u115, u116, u117, u118, u119, u120, u121, u122, u123, u124, u125, u126, u127, u128, u129, u130, u131, u132, u133, u134, u135, u136, u137, u138, u139, u140, u141, u142, u143, u144, u145, u146, u147, u148, u149, u150, u151, u152, u153, u154, u155, u156, u157, u158, u159, u160, u161, u162, u163, u164, u165, u166, u167, u168, u169, u170, u171, u172, u173, u174, u175, u176, u177, u178, u179, u180, u181, u182, u183, u184, u185, u186, u187, u188, u189, u190, u191, u192, u193, u194, u195, u196, u197, u198, u199, u200, u201, u202, u203, u204, u205, u206, u207, u208, u209, u210, u211, u212, u213, u214, u215, u216, u217, u218], defers := [] } wc := by
  have HX := Lib.hid kX
  have HW := Lib.hid kW
  have HE := Lib.hid kE
  have F160 := Lib.hid h160
  have F165 := Lib.hid h165
  have NH := Lib.hid hh
  clear h160 h165 hh kX kW kE
  conv at hK in (dropS _ _) => whnf
  conv in (headS _) => whnf
  go_wp2_with (first | (refine wpList_dst 159 rfl ?_; refine wpList_run 159 rfl rfl _ (exec_load 23 (.tmp 3) rfl _ (.agg #[.bool x.neg, .string x.n, .string x.d]) rfl (run_load_part _ 23 _ 0 3 _ [.bool x.neg, .string x.n, .string x.d] _ HX.out (by simp) Tryz.underlying23 rfl size_api_Rat)) ?_; go_frame))
  refine (F160.out _).mono ?_
  rintro e w31 ⟨rfl, hb⟩
  replace HX := Lib.hid (HX.out.next hb)
  replace HW := Lib.hid (HW.out.trans (hb.mono HW.out.size))
  replace HE := Lib.hid (HE.out.next hb)
  clear hb
  go_wp2_with (first | (refine wpList_dst 164 rfl ?_; refine wpList_run 164 rfl rfl _ (exec_load 23 (.tmp 3) rfl _ (.agg #[.bool x.neg, .string x.n, .string x.d]) rfl (run_load_part _ 23 _ 0 3 _ [.bool x.neg, .string x.n, .string x.d] _ HX.out (by simp) Tryz.underlying23 rfl size_api_Rat)) ?_; go_frame))
  refine (F165.out _).mono ?_
  rintro e w32 ⟨rfl, hb⟩
  replace HX := Lib.hid (HX.out.next hb)
  replace HW := Lib.hid (HW.out.trans (hb.mono HW.out.size))
  replace HE := Lib.hid (HE.out.next hb)
  clear hb
  go_wp2_with fail
  rcases NH.out with rfl | ⟨rfl, k172, k174, k180, k181, k182, j1, j2, hk⟩
  · refine late_begin (S := fun _ W => Blk W w.heap.size 23 [.bool x.neg, .string x.n, .string x.d]) (by kernel_rfl) ?_
    have hX0 := HX.out.drew
    have hW0 := HW.out.drew
    have hE0 := HE.out.next (Below.refl _ _).drew
    generalize w32.drew = u0 at hX0 hW0 hE0 ⊢
    clear HX HW HE
    refine late_take [] (i := 0) (some 168) rfl rfl (by first | rfl | kernel_rfl) (by kernel_rfl) (by kernel_rfl) (by kernel_rfl) (by kernel_rfl) (by kernel_rfl) (fun Ls W h => h) (.int .i64 3) (fun _ _ _ h => h) (fun Ls W hl0 hW => exec_move (.tmp 14) rfl _ rfl) hX0 hX0 ?_
    go_frame
    refine late_take [] (i := 1) (some 169) rfl rfl (by first | rfl | kernel_rfl) (by kernel_rfl) (by kernel_rfl) (by kernel_rfl) (by kernel_rfl) (by kernel_rfl) (fun Ls W h => h) (.bool false) (fun _ _ _ h => h) (fun Ls W hl0 hW => exec_bin .eql 27 _ (.tmp 168) _ rfl (.int .i64 3) (.int .i64 0) _ rfl rfl rfl rfl) hX0 hX0 ?_
    go_frame
    refine late_take [] (i := 2) (some 170) rfl rfl (by first | rfl | kernel_rfl) (by kernel_rfl) (by kernel_rfl) (by kernel_rfl) (by kernel_rfl) (by kernel_rfl) (fun Ls W h => h) (.bool false) (fun _ _ _ h => h) (fun Ls W hl0 hW => exec_move (.tmp 169) rfl _ rfl) hX0 hX0 ?_
    go_frame
    refine late_skip [] (i := 3) (some 171) rfl rfl (by first | rfl | kernel_rfl) (by kernel_rfl) (by kernel_rfl) (by kernel_rfl) (by kernel_rfl) (by kernel_rfl) (fun Ls W h => h) (fun _ _ _ h => h) hX0 hX0 ?_
    go_frame
    refine late_skip [] (i := 5) (some 173) rfl rfl (by first | rfl | kernel_rfl) (by kernel_rfl) (by kernel_rfl) (by kernel_rfl) (by kernel_rfl) (by kernel_rfl) (fun Ls W h => h) (fun _ _ _ h => h) hX0 hX0 ?_
    go_frame
    refine late_skip [] (i := 4) (some 172) rfl rfl (by first | rfl | kernel_rfl) (by kernel_rfl) (by kernel_rfl) (by kernel_rfl) (by kernel_rfl) (by kernel_rfl) (fun Ls W h => h) (fun _ _ _ h => h) hX0 hX0 ?_
    go_frame
    refine late_skip [] (i := 6) (some 174) rfl rfl (by first | rfl | kernel_rfl) (by kernel_rfl) (by kernel_rfl) (by kernel_rfl) (by kernel_rfl) (by kernel_rfl) (fun Ls W h => h) (fun _ _ _ h => h) hX0 hX0 ?_
    go_frame
    refine late_skip [] (i := 7) (some 175) rfl rfl (by first | rfl | kernel_rfl) (by kernel_rfl) (by kernel_rfl) (by kernel_rfl) (by kernel_rfl) (by kernel_rfl) (fun Ls W h => h) (fun _ _ _ h => h) hX0 hX0 ?_
    go_frame
    refine late_skip [] (i := 8) (some 176) rfl rfl (by first | rfl | kernel_rfl) (by kernel_rfl) (by kernel_rfl) (by kernel_rfl) (by kernel_rfl) (by kernel_rfl) (fun Ls W h => h) (fun _ _ _ h => h) hX0 hX0 ?_
    go_frame
    refine late_skip [] (i := 9) (some 177) rfl rfl (by first | rfl | kernel_rfl) (by kernel_rfl) (by kernel_rfl) (by kernel_rfl) (by kernel_rfl) (by kernel_rfl) (fun Ls W h => h) (fun _ _ _ h => h) hX0 hX0 ?_
    go_frame
    refine late_skip [] (i := 10) (some 178) rfl rfl (by first | rfl | kernel_rfl) (by kernel_rfl) (by kernel_rfl) (by kernel_rfl) (by kernel_rfl) (by kernel_rfl) (fun Ls W h => h) (fun _ _ _ h => h) hX0 hX0 ?_
    go_frame
    refine late_skip [] (i := 11) (some 179) rfl rfl (by first | rfl | kernel_rfl) (by kernel_rfl) (by kernel_rfl) (by kernel_rfl) (by kernel_rfl) (by kernel_rfl) (fun Ls W h => h) (fun _ _ _ h => h) hX0 hX0 ?_
    go_frame
    refine late_skip [] (i := 12) (some 180) rfl rfl (by first | rfl | kernel_rfl) (by kernel_rfl) (by kernel_rfl) (by kernel_rfl) (by kernel_rfl) (by kernel_rfl) (fun Ls W h => h) (fun _ _ _ h => h) hX0 hX0 ?_
    go_frame
    refine late_skip [] (i := 13) (some 181) rfl rfl (by first | rfl | kernel_rfl) (by kernel_rfl) (by kernel_rfl) (by kernel_rfl) (by kernel_rfl) (by kernel_rfl) (fun Ls W h => h) (fun _ _ _ h => h) hX0 hX0 ?_
    go_frame
    refine late_skip [] (i := 14) (some 182) rfl rfl (by first | rfl | kernel_rfl) (by kernel_rfl) (by kernel_rfl) (by kernel_rfl) (by kernel_rfl) (by kernel_rfl) (fun Ls W h => h) (fun _ _ _ h => h) hX0 hX0 ?_
    go_frame
    refine late_skip [] (i := 15) (some 183) rfl rfl (by first | rfl | kernel_rfl) (by kernel_rfl) (by kernel_rfl) (by kernel_rfl) (by kernel_rfl) (by kernel_rfl) (fun Ls W h => h) (fun _ _ _ h => h) hX0 hX0 ?_
    go_frame
    refine late_skip [] (i := 16) (some 184) rfl rfl (by first | rfl | kernel_rfl) (by kernel_rfl) (by kernel_rfl) (by kernel_rfl) (by kernel_rfl) (by kernel_rfl) (fun Ls W h => h) (fun _ _ _ h => h) hX0 hX0 ?_
    go_frame
    refine late_take [] (i := 17) (some 185) rfl rfl (by first | rfl | kernel_rfl) (by kernel_rfl) (by kernel_rfl) (by kernel_rfl) (by kernel_rfl) (by kernel_rfl) (fun Ls W h => h) (.bool false) (fun _ _ _ h => h) (fun Ls W hl0 hW => exec_pickF _ _ _ rfl (.bool false) rfl rfl) hX0 hX0 ?_
    refine late_done (by kernel_rfl) ?_ _
    go_frame
    have HX := Lib.hid hX0
    have HW := Lib.hid hW0
    have HE := Lib.hid hE0
    clear hX0 hW0 hE0
    go_wp2_with fail
    refine late_begin (S := fun _ W => Blk W w.heap.size 23 [.bool x.neg, .string x.n, .string x.d]) (by kernel_rfl) ?_
    have hX0 := HX.out.drew
    have hW0 := HW.out.drew
    have hE0 := HE.out.next (Below.refl _ _).drew
    generalize u0.drew = u0 at hX0 hW0 hE0 ⊢
    clear HX HW HE
    refine late_one (i := 0) (by kernel_rfl) (op_callG (some 186) rfl rfl (by first | rfl | kernel_rfl) rfl Tryz.func7 (by kernel_rfl) (by kernel_rfl) #[] rfl (qsanity_any _ hE0) ?_)
    rintro e u1 ⟨rfl, hb⟩
    have hX1 := hX0.next hb
    have hW1 := hW0.trans (hb.mono hW0.size)
    have hE1 := hE0.next hb
    refine ⟨_, rfl, hX1, ?_⟩
    go_frame
    clear hX0 hW0 hE0 hb
    refine late_take [] (i := 1) (some 187) rfl rfl (by first | rfl | kernel_rfl) (by kernel_rfl) (by kernel_rfl) (by kernel_rfl) (by kernel_rfl) (by kernel_rfl) (fun Ls W h => h) (.bool true) (fun _ _ _ h => h) (fun Ls W hl0 hW => exec_move (.tmp 186) rfl _ rfl) hX1 hX1 ?_
    go_frame
    refine late_take [] (i := 2) (some 188) rfl rfl (by first | rfl | kernel_rfl) (by kernel_rfl) (by kernel_rfl) (by kernel_rfl) (by kernel_rfl) (by kernel_rfl) (fun Ls W h => h) (.int .i64 3) (fun _ _ _ h => h) (fun Ls W hl0 hW => exec_move (.tmp 14) rfl _ rfl) hX1 hX1 ?_
    go_frame
    refine late_take [] (i := 3) (some 189) rfl rfl (by first | rfl | kernel_rfl) (by kernel_rfl) (by kernel_rfl) (by kernel_rfl) (by kernel_rfl) (by kernel_rfl) (fun Ls W h => h) (.bool true) (fun _ _ _ h => h) (fun Ls W hl0 hW => exec_bin .neq 27 _ (.tmp 188) _ rfl (.int .i64 3) (.int .i64 0) _ rfl rfl rfl rfl) hX1 hX1 ?_
    go_frame
    refine late_take [] (i := 4) (some 190) rfl rfl (by first | rfl | kernel_rfl) (by kernel_rfl) (by kernel_rfl) (by kernel_rfl) (by kernel_rfl) (by kernel_rfl) (fun Ls W h => h) (.bool true) (fun _ _ _ h => h) (fun Ls W hl0 hW => exec_move (.tmp 189) rfl _ rfl) hX1 hX1 ?_
    go_frame
    refine late_skip [] (i := 5) (some 191) rfl rfl (by first | rfl | kernel_rfl) (by kernel_rfl) (by kernel_rfl) (by kernel_rfl) (by kernel_rfl) (by kernel_rfl) (fun Ls W h => h) (fun _ _ _ h => h) hX1 hX1 ?_
    go_frame
    refine late_skip [] (i := 6) (some 192) rfl rfl (by first | rfl | kernel_rfl) (by kernel_rfl) (by kernel_rfl) (by kernel_rfl) (by kernel_rfl) (by kernel_rfl) (fun Ls W h => h) (fun _ _ _ h => h) hX1 hX1 ?_
    go_frame
    refine late_take [] (i := 7) (some 193) rfl rfl (by first | rfl | kernel_rfl) (by kernel_rfl) (by kernel_rfl) (by kernel_rfl) (by kernel_rfl) (by kernel_rfl) (fun Ls W h => h) (.bool true) (fun _ _ _ h => h) (fun Ls W hl0 hW => exec_pickT _ _ _ rfl (.bool true) rfl rfl) hX1 hX1 ?_
    go_frame
    refine late_take [] (i := 8) (some 194) rfl rfl (by first | rfl | kernel_rfl) (by kernel_rfl) (by kernel_rfl) (by kernel_rfl) (by kernel_rfl) (by kernel_rfl) (fun Ls W h => h) (.bool true) (fun _ _ _ h => h) (fun Ls W hl0 hW => exec_move (.tmp 193) rfl _ rfl) hX1 hX1 ?_
    go_frame
    refine late_skip [] (i := 9) (some 195) rfl rfl (by first | rfl | kernel_rfl) (by kernel_rfl) (by kernel_rfl) (by kernel_rfl) (by kernel_rfl) (by kernel_rfl) (fun Ls W h => h) (fun _ _ _ h => h) hX1 hX1 ?_
    go_frame
    refine late_skip [] (i := 10) (some 196) rfl rfl (by first | rfl | kernel_rfl) (by kernel_rfl) (by kernel_rfl) (by kernel_rfl) (by kernel_rfl) (by kernel_rfl) (fun Ls W h => h) (fun _ _ _ h => h) hX1 hX1 ?_
    go_frame
    refine late_skip [] (i := 11) (some 197) rfl rfl (by first | rfl | kernel_rfl) (by kernel_rfl) (by kernel_rfl) (by kernel_rfl) (by kernel_rfl) (by kernel_rfl) (fun Ls W h => h) (fun _ _ _ h => h) hX1 hX1 ?_
    go_frame
    refine late_skip [] (i := 12) (some 198) rfl rfl (by first | rfl | kernel_rfl) (by kernel_rfl) (by kernel_rfl) (by kernel_rfl) (by kernel_rfl) (by kernel_rfl) (fun Ls W h => h) (fun _ _ _ h => h) hX1 hX1 ?_
    go_frame
    refine late_skip [] (i := 13) (some 199) rfl rfl (by first | rfl | kernel_rfl) (by kernel_rfl) (by kernel_rfl) (by kernel_rfl) (by kernel_rfl) (by kernel_rfl) (fun Ls W h => h) (fun _ _ _ h => h) hX1 hX1 ?_
    go_frame
    refine late_skip [] (i := 14) (some 200) rfl rfl (by first | rfl | kernel_rfl) (by kernel_rfl) (by kernel_rfl) (by kernel_rfl) (by kernel_rfl) (by kernel_rfl) (fun Ls W h => h) (fun _ _ _ h => h) hX1 hX1 ?_
    go_frame
    refine late_skip [] (i := 16) (some 202) rfl rfl (by first | rfl | kernel_rfl) (by kernel_rfl) (by kernel_rfl) (by kernel_rfl) (by kernel_rfl) (by kernel_rfl) (fun Ls W h => h) (fun _ _ _ h => h) hX1 hX1 ?_
    go_frame
    refine late_skip [] (i := 15) (some 201) rfl rfl (by first | rfl | kernel_rfl) (by kernel_rfl) (by kernel_rfl) (by kernel_rfl) (by kernel_rfl) (by kernel_rfl) (fun Ls W h => h) (fun _ _ _ h => h) hX1 hX1 ?_
    go_frame
    refine late_skip [] (i := 17) (some 203) rfl rfl (by first | rfl | kernel_rfl) (by kernel_rfl) (by kernel_rfl) (by kernel_rfl) (by kernel_rfl) (by kernel_rfl) (fun Ls W h => h) (fun _ _ _ h => h) hX1 hX1 ?_
    go_frame
    refine late_skip [] (i := 18) (some 204) rfl rfl (by first | rfl | kernel_rfl) (by kernel_rfl) (by kernel_rfl) (by kernel_rfl) (by kernel_rfl) (by kernel_rfl) (fun Ls W h => h) (fun _ _ _ h => h) hX1 hX1 ?_
    go_frame
    refine late_take [] (i := 19) (some 205) rfl rfl (by first | rfl | kernel_rfl) (by kernel_rfl) (by kernel_rfl) (by kernel_rfl) (by kernel_rfl) (by kernel_rfl) (fun Ls W h => h) (.bool true) (fun _ _ _ h => h) (fun Ls W hl0 hW => exec_pickT _ _ _ rfl (.bool true) rfl rfl) hX1 hX1 ?_
    go_frame
    refine late_take [] (i := 20) (some 206) rfl rfl (by first | rfl | kernel_rfl) (by kernel_rfl) (by kernel_rfl) (by kernel_rfl) (by kernel_rfl) (by kernel_rfl) (fun Ls W h => h) (.bool true) (fun _ _ _ h => h) (fun Ls W hl0 hW => exec_move (.tmp 205) rfl _ rfl) hX1 hX1 ?_
    go_frame
    refine late_skip [] (i := 21) (some 207) rfl rfl (by first | rfl | kernel_rfl) (by kernel_rfl) (by kernel_rfl) (by kernel_rfl) (by kernel_rfl) (by kernel_rfl) (fun Ls W h => h) (fun _ _ _ h => h) hX1 hX1 ?_
    go_frame
    refine late_skip [] (i := 22) (some 208) rfl rfl (by first | rfl | kernel_rfl) (by kernel_rfl) (by kernel_rfl) (by kernel_rfl) (by kernel_rfl) (by kernel_rfl) (fun Ls W h => h) (fun _ _ _ h => h) hX1 hX1 ?_
    go_frame
    refine late_skip [] (i := 23) (some 209) rfl rfl (by first | rfl | kernel_rfl) (by kernel_rfl) (by kernel_rfl) (by kernel_rfl) (by kernel_rfl) (by kernel_rfl) (fun Ls W h => h) (fun _ _ _ h => h) hX1 hX1 ?_
    go_frame
    refine late_skip [] (i := 24) (some 210) rfl rfl (by first | rfl | kernel_rfl) (by kernel_rfl) (by kernel_rfl) (by kernel_rfl) (by kernel_rfl) (by kernel_rfl) (fun Ls W h => h) (fun _ _ _ h => h) hX1 hX1 ?_
    go_frame
    refine late_skip [] (i := 25) (some 211) rfl rfl (by first | rfl | kernel_rfl) (by kernel_rfl) (by kernel_rfl) (by kernel_rfl) (by kernel_rfl) (by kernel_rfl) (fun Ls W h => h) (fun _ _ _ h => h) hX1 hX1 ?_
    go_frame
    refine late_skip [] (i := 26) (some 212) rfl rfl (by first | rfl | kernel_rfl) (by kernel_rfl) (by kernel_rfl) (by kernel_rfl) (by kernel_rfl) (by kernel_rfl) (fun Ls W h => h) (fun _ _ _ h => h) hX1 hX1 ?_
    go_frame
    refine late_skip [] (i := 28) (some 214) rfl rfl (by first | rfl | kernel_rfl) (by kernel_rfl) (by kernel_rfl) (by kernel_rfl) (by kernel_rfl) (by kernel_rfl) (fun Ls W h => h) (fun _ _ _ h => h) hX1 hX1 ?_
    go_frame
    refine late_skip [] (i := 27) (some 213) rfl rfl (by first | rfl | kernel_rfl) (by kernel_rfl) (by kernel_rfl) (by kernel_rfl) (by kernel_rfl) (by kernel_rfl) (fun Ls W h => h) (fun _ _ _ h => h) hX1 hX1 ?_
    go_frame
    refine late_skip [] (i := 29) (some 215) rfl rfl (by first | rfl | kernel_rfl) (by kernel_rfl) (by kernel_rfl) (by kernel_rfl) (by kernel_rfl) (by kernel_rfl) (fun Ls W h => h) (fun _ _ _ h => h) hX1 hX1 ?_
    go_frame
    refine late_skip [] (i := 30) (some 216) rfl rfl (by first | rfl | kernel_rfl) (by kernel_rfl) (by kernel_rfl) (by kernel_rfl) (by kernel_rfl) (by kernel_rfl) (fun Ls W h => h) (fun _ _ _ h => h) hX1 hX1 ?_
    go_frame
    refine late_take [] (i := 31) (some 217) rfl rfl (by first | rfl | kernel_rfl) (by kernel_rfl) (by kernel_rfl) (by kernel_rfl) (by kernel_rfl) (by kernel_rfl) (fun Ls W h => h) (.bool true) (fun _ _ _ h => h) (fun Ls W hl0 hW => exec_pickT _ _ _ rfl (.bool true) rfl rfl) hX1 hX1 ?_
    go_frame
    refine late_take [] (i := 32) (some 218) rfl rfl (by first | rfl | kernel_rfl) (by kernel_rfl) (by kernel_rfl) (by kernel_rfl) (by kernel_rfl) (by kernel_rfl) (fun Ls W h => h) (.bool true) (fun _ _ _ h => h) (fun Ls W hl0 hW => exec_pickT _ _ _ rfl (.bool true) rfl rfl) hX1 hX1 ?_
    go_frame
    refine late_take [] (i := 33) (some 6) rfl rfl (by first | rfl | kernel_rfl) (by kernel_rfl) (by kernel_rfl) (by kernel_rfl) (by kernel_rfl) (by kernel_rfl) (fun Ls W h => h) (.bool true) (fun _ _ _ h => h) (fun Ls W hl0 hW => exec_assign (.tmp 218) rfl _ rfl) hX1 hX1 ?_
    refine late_done (by kernel_rfl) ?_ _
    go_frame
    have HX := Lib.hid hX1
    have HW := Lib.hid hW1
    have HE := Lib.hid hE1
    clear hX1 hW1 hE1
    go_wp2
    go_ret
    exact ⟨rfl, HW.out⟩
  · have F172 := Lib.hid k172
    have F174 := Lib.hid k174
    have F180 := Lib.hid k180
    have F181 := Lib.hid k181
    have F182 := Lib.hid k182
    have N175 := Lib.hid j1
    have N183 := Lib.hid j2
    have NK := Lib.hid hk
    clear NH hk j1 j2 k172 k174 k180 k181 k182
    refine late_begin (S := fun _ W => Blk W w.heap.size 23 [.bool x.neg, .string x.n, .string x.d]) (by kernel_rfl) ?_
    have hX0 := HX.out.drew
    have hW0 := HW.out.drew
    have hE0 := HE.out.next (Below.refl _ _).drew
    generalize w32.drew = u0 at hX0 hW0 hE0 ⊢
    clear HX HW HE
    refine late_take [] (i := 0) (some 168) rfl rfl (by first | rfl | kernel_rfl) (by kernel_rfl) (by kernel_rfl) (by kernel_rfl) (by kernel_rfl) (by kernel_rfl) (fun Ls W h => h) (.int .i64 0) (fun _ _ _ h => h) (fun Ls W hl0 hW => exec_move (.tmp 14) rfl _ rfl) hX0 hX0 ?_
    go_frame
    refine late_take [] (i := 1) (some 169) rfl rfl (by first | rfl | kernel_rfl) (by kernel_rfl) (by kernel_rfl) (by kernel_rfl) (by kernel_rfl) (by kernel_rfl) (fun Ls W h => h) (.bool true) (fun _ _ _ h => h) (fun Ls W hl0 hW => exec_eqT _ _ _ _ rfl .i64 (0) rfl rfl) hX0 hX0 ?_
    go_frame
    refine late_take [] (i := 2) (some 170) rfl rfl (by first | rfl | kernel_rfl) (by kernel_rfl) (by kernel_rfl) (by kernel_rfl) (by kernel_rfl) (by kernel_rfl) (fun Ls W h => h) (.bool true) (fun _ _ _ h => h) (fun Ls W hl0 hW => exec_move (.tmp 169) rfl _ rfl) hX0 hX0 ?_
    go_frame
    refine late_take [] (i := 3) (some 171) rfl rfl (by first | rfl | kernel_rfl) (by kernel_rfl) (by kernel_rfl) (by kernel_rfl) (by kernel_rfl) (by kernel_rfl) (fun Ls W h => h) (.int .i64 f) (fun _ _ _ h => h) (fun Ls W hl0 hW => exec_move (.tmp 13) rfl _ rfl) hX0 hX0 ?_
    go_frame
    refine late_take [] (i := 5) (some 173) rfl rfl (by first | rfl | kernel_rfl) (by kernel_rfl) (by kernel_rfl) (by kernel_rfl) (by kernel_rfl) (by kernel_rfl) (fun Ls W h => h) (rv x) (fun _ _ _ h => h) (fun Ls W hl0 hW => exec_load 23 (.tmp 3) rfl _ (rv x) rfl (run_load_part W 23 _ 0 3 _ [.bool x.neg, .string x.n, .string x.d] _ hW (by simp) Tryz.underlying23 rfl size_api_Rat)) hX0 hX0 ?_
    go_frame
    refine late_one (i := 4) (by kernel_rfl) (op_callG (some 172) rfl rfl (by first | rfl | kernel_rfl) rfl Tryz.func18 (by kernel_rfl) (by kernel_rfl) #[.int .i64 f] rfl (F172.out u0) ?_)
    rintro e u1 ⟨rfl, hb⟩
    have hX1 := hX0.next hb
    have hW1 := hW0.trans (hb.mono hW0.size)
    have hE1 := hE0.next hb
    refine ⟨_, rfl, hX1, ?_⟩
    go_frame
    clear hX0 hW0 hE0 hb
    refine late_one (i := 6) (by kernel_rfl) (op_callG (some 174) rfl rfl (by first | rfl | kernel_rfl) rfl Tryz.func28 (by kernel_rfl) (by kernel_rfl) #[rv fi, rv x] rfl (F174.out u1) ?_)
    rintro e u2 ⟨rfl, hb⟩
    have hX2 := hX1.next hb
    have hW2 := hW1.trans (hb.mono hW1.size)
    have hE2 := hE1.next hb
    refine ⟨_, rfl, hX2, ?_⟩
    go_frame
    clear hX1 hW1 hE1 hb
    refine late_take [] (i := 7) (some 175) rfl rfl (by first | rfl | kernel_rfl) (by kernel_rfl) (by kernel_rfl) (by kernel_rfl) (by kernel_rfl) (by kernel_rfl) (fun Ls W h => h) (.bool false) (fun _ _ _ h => h) (fun Ls W hl0 hW => exec_gtrI _ _ _ _ rfl .i64 c174 0 false N175.out rfl rfl) hX2 hX2 ?_
    go_frame
    refine late_take [] (i := 8) (some 176) rfl rfl (by first | rfl | kernel_rfl) (by kernel_rfl) (by kernel_rfl) (by kernel_rfl) (by kernel_rfl) (by kernel_rfl) (fun Ls W h => h) (.bool false) (fun _ _ _ h => h) (fun Ls W hl0 hW => exec_move (.tmp 175) rfl _ rfl) hX2 hX2 ?_
    go_frame
    refine late_take [] (i := 9) (some 177) rfl rfl (by first | rfl | kernel_rfl) (by kernel_rfl) (by kernel_rfl) (by kernel_rfl) (by kernel_rfl) (by kernel_rfl) (fun Ls W h => h) (rv x) (fun _ _ _ h => h) (fun Ls W hl0 hW => exec_load 23 (.tmp 3) rfl _ (rv x) rfl (run_load_part W 23 _ 0 3 _ [.bool x.neg, .string x.n, .string x.d] _ hW (by simp) Tryz.underlying23 rfl size_api_Rat)) hX2 hX2 ?_
    go_frame
    refine late_take [] (i := 10) (some 178) rfl rfl (by first | rfl | kernel_rfl) (by kernel_rfl) (by kernel_rfl) (by kernel_rfl) (by kernel_rfl) (by kernel_rfl) (fun Ls W h => h) (.int .i64 f) (fun _ _ _ h => h) (fun Ls W hl0 hW => exec_move (.tmp 13) rfl _ rfl) hX2 hX2 ?_
    go_frame
    refine late_one (i := 11) (by kernel_rfl) (op_callG (some 179) rfl rfl (by first | rfl | kernel_rfl) rfl Tryz.func18 (by kernel_rfl) (by kernel_rfl) #[.int .i64 f] rfl (F172.out u2) ?_)
    rintro e u3 ⟨rfl, hb⟩
    have hX3 := hX2.next hb
    have hW3 := hW2.trans (hb.mono hW2.size)
    have hE3 := hE2.next hb
    refine ⟨_, rfl, hX3, ?_⟩
    go_frame
    clear hX2 hW2 hE2 hb
    refine late_one (i := 12) (by kernel_rfl) (op_callG (some 180) rfl rfl (by first | rfl | kernel_rfl) rfl Tryz.func24 (by kernel_rfl) (by kernel_rfl) #[rv x, rv fi] rfl (F180.out u3) ?_)
    rintro e u4 ⟨rfl, hb⟩
    have hX4 := hX3.next hb
    have hW4 := hW3.trans (hb.mono hW3.size)
    have hE4 := hE3.next hb
    refine ⟨_, rfl, hX4, ?_⟩
    go_frame
    clear hX3 hW3 hE3 hb
    refine late_one (i := 13) (by kernel_rfl) (op_callG (some 181) rfl rfl (by first | rfl | kernel_rfl) rfl Tryz.func18 (by kernel_rfl) (by kernel_rfl) #[.int .i64 1] rfl (F181.out u4) ?_)
    rintro e u5 ⟨rfl, hb⟩
    have hX5 := hX4.next hb
    have hW5 := hW4.trans (hb.mono hW4.size)
    have hE5 := hE4.next hb
    refine ⟨_, rfl, hX5, ?_⟩
    go_frame
    clear hX4 hW4 hE4 hb
    refine late_one (i := 14) (by kernel_rfl) (op_callG (some 182) rfl rfl (by first | rfl | kernel_rfl) rfl Tryz.func28 (by kernel_rfl) (by kernel_rfl) #[rv sb, rv o] rfl (F182.out u5) ?_)
    rintro e u6 ⟨rfl, hb⟩
    have hX6 := hX5.next hb
    have hW6 := hW5.trans (hb.mono hW5.size)
    have hE6 := hE5.next hb
    refine ⟨_, rfl, hX6, ?_⟩
    go_frame
    clear hX5 hW5 hE5 hb
    refine late_take [] (i := 15) (some 183) rfl rfl (by first | rfl | kernel_rfl) (by kernel_rfl) (by kernel_rfl) (by kernel_rfl) (by kernel_rfl) (by kernel_rfl) (fun Ls W h => h) (.bool false) (fun _ _ _ h => h) (fun Ls W hl0 hW => exec_geqI _ _ _ _ rfl .i64 c182 0 false N183.out rfl rfl) hX6 hX6 ?_
    go_frame
    refine late_take [] (i := 16) (some 184) rfl rfl (by first | rfl | kernel_rfl) (by kernel_rfl) (by kernel_rfl) (by kernel_rfl) (by kernel_rfl) (by kernel_rfl) (fun Ls W h => h) (.bool false) (fun _ _ _ h => h) (fun Ls W hl0 hW => exec_pickF _ _ _ rfl (.bool false) rfl rfl) hX6 hX6 ?_
    go_frame
    refine late_take [] (i := 17) (some 185) rfl rfl (by first | rfl | kernel_rfl) (by kernel_rfl) (by kernel_rfl) (by kernel_rfl) (by kernel_rfl) (by kernel_rfl) (fun Ls W h => h) (.bool false) (fun _ _ _ h => h) (fun Ls W hl0 hW => exec_pickT _ _ _ rfl (.bool false) rfl rfl) hX6 hX6 ?_
    refine late_done (by kernel_rfl) ?_ _
    go_frame
    have HX := Lib.hid hX6
    have HW := Lib.hid hW6
    have HE := Lib.hid hE6
    clear hX6 hW6 hE6
    go_wp2_with fail
    rcases NK.out with rfl | ⟨rfl, j3, j4⟩ | ⟨rfl, j3, j4⟩
    · refine late_begin (S := fun _ W => Blk W w.heap.size 23 [.bool x.neg, .string x.n, .string x.d]) (by kernel_rfl) ?_
      have hX0 := HX.out.drew
      have hW0 := HW.out.drew
      have hE0 := HE.out.next (Below.refl _ _).drew
      generalize u6.drew = u0 at hX0 hW0 hE0 ⊢
      clear HX HW HE
      refine late_one (i := 0) (by kernel_rfl) (op_callG (some 186) rfl rfl (by first | rfl | kernel_rfl) rfl Tryz.func7 (by kernel_rfl) (by kernel_rfl) #[] rfl (qsanity_any _ hE0) ?_)
      rintro e u1 ⟨rfl, hb⟩
      have hX1 := hX0.next hb
      have hW1 := hW0.trans (hb.mono hW0.size)
      have hE1 := hE0.next hb
      refine ⟨_, rfl, hX1, ?_⟩
      go_frame
      clear hX0 hW0 hE0 hb
      refine late_take [] (i := 1) (some 187) rfl rfl (by first | rfl | kernel_rfl) (by kernel_rfl) (by kernel_rfl) (by kernel_rfl) (by kernel_rfl) (by kernel_rfl) (fun Ls W h => h) (.bool true) (fun _ _ _ h => h) (fun Ls W hl0 hW => exec_move (.tmp 186) rfl _ rfl) hX1 hX1 ?_
      go_frame
      refine late_take [] (i := 2) (some 188) rfl rfl (by first | rfl | kernel_rfl) (by kernel_rfl) (by kernel_rfl) (by kernel_rfl) (by kernel_rfl) (by kernel_rfl) (fun Ls W h => h) (.int .i64 0) (fun _ _ _ h => h) (fun Ls W hl0 hW => exec_move (.tmp 14) rfl _ rfl) hX1 hX1 ?_
      go_frame
      refine late_take [] (i := 3) (some 189) rfl rfl (by first | rfl | kernel_rfl) (by kernel_rfl) (by kernel_rfl) (by kernel_rfl) (by kernel_rfl) (by kernel_rfl) (fun Ls W h => h) (.bool false) (fun _ _ _ h => h) (fun Ls W hl0 hW => exec_neqT _ _ _ _ rfl .i64 (0) rfl rfl) hX1 hX1 ?_
      go_frame
      refine late_take [] (i := 4) (some 190) rfl rfl (by first | rfl | kernel_rfl) (by kernel_rfl) (by kernel_rfl) (by kernel_rfl) (by kernel_rfl) (by kernel_rfl) (fun Ls W h => h) (.bool false) (fun _ _ _ h => h) (fun Ls W hl0 hW => exec_move (.tmp 189) rfl _ rfl) hX1 hX1 ?_
      go_frame
      refine late_take [] (i := 5) (some 191) rfl rfl (by first | rfl | kernel_rfl) (by kernel_rfl) (by kernel_rfl) (by kernel_rfl) (by kernel_rfl) (by kernel_rfl) (fun Ls W h => h) (.int .i64 3) (fun _ _ _ h => h) (fun Ls W hl0 hW => exec_move (.tmp 16) rfl _ rfl) hX1 hX1 ?_
      go_frame
      refine late_take [] (i := 6) (some 192) rfl rfl (by first | rfl | kernel_rfl) (by kernel_rfl) (by kernel_rfl) (by kernel_rfl) (by kernel_rfl) (by kernel_rfl) (fun Ls W h => h) (.bool true) (fun _ _ _ h => h) (fun Ls W hl0 hW => exec_bin .neq 27 _ (.tmp 191) _ rfl (.int .i64 3) (.int .i64 0) _ rfl rfl rfl rfl) hX1 hX1 ?_
      go_frame
      refine late_take [] (i := 7) (some 193) rfl rfl (by first | rfl | kernel_rfl) (by kernel_rfl) (by kernel_rfl) (by kernel_rfl) (by kernel_rfl) (by kernel_rfl) (fun Ls W h => h) (.bool true) (fun _ _ _ h => h) (fun Ls W hl0 hW => exec_pickF _ _ _ rfl (.bool true) rfl rfl) hX1 hX1 ?_
      go_frame
      refine late_take [] (i := 8) (some 194) rfl rfl (by first | rfl | kernel_rfl) (by kernel_rfl) (by kernel_rfl) (by kernel_rfl) (by kernel_rfl) (by kernel_rfl) (fun Ls W h => h) (.bool true) (fun _ _ _ h => h) (fun Ls W hl0 hW => exec_move (.tmp 193) rfl _ rfl) hX1 hX1 ?_
      go_frame
      refine late_skip [] (i := 9) (some 195) rfl rfl (by first | rfl | kernel_rfl) (by kernel_rfl) (by kernel_rfl) (by kernel_rfl) (by kernel_rfl) (by kernel_rfl) (fun Ls W h => h) (fun _ _ _ h => h) hX1 hX1 ?_
      go_frame
      refine late_skip [] (i := 10) (some 196) rfl rfl (by first | rfl | kernel_rfl) (by kernel_rfl) (by kernel_rfl) (by kernel_rfl) (by kernel_rfl) (by kernel_rfl) (fun Ls W h => h) (fun _ _ _ h => h) hX1 hX1 ?_
      go_frame
      refine late_skip [] (i := 11) (some 197) rfl rfl (by first | rfl | kernel_rfl) (by kernel_rfl) (by kernel_rfl) (by kernel_rfl) (by kernel_rfl) (by kernel_rfl) (fun Ls W h => h) (fun _ _ _ h => h) hX1 hX1 ?_
      go_frame
      refine late_skip [] (i := 12) (some 198) rfl rfl (by first | rfl | kernel_rfl) (by kernel_rfl) (by kernel_rfl) (by kernel_rfl) (by kernel_rfl) (by kernel_rfl) (fun Ls W h => h) (fun _ _ _ h => h) hX1 hX1 ?_
      go_frame
      refine late_skip [] (i := 13) (some 199) rfl rfl (by first | rfl | kernel_rfl) (by kernel_rfl) (by kernel_rfl) (by kernel_rfl) (by kernel_rfl) (by kernel_rfl) (fun Ls W h => h) (fun _ _ _ h => h) hX1 hX1 ?_
      go_frame
      refine late_skip [] (i := 14) (some 200) rfl rfl (by first | rfl | kernel_rfl) (by kernel_rfl) (by kernel_rfl) (by kernel_rfl) (by kernel_rfl) (by kernel_rfl) (fun Ls W h => h) (fun _ _ _ h => h) hX1 hX1 ?_
      go_frame
      refine late_skip [] (i := 16) (some 202) rfl rfl (by first | rfl | kernel_rfl) (by kernel_rfl) (by kernel_rfl) (by kernel_rfl) (by kernel_rfl) (by kernel_rfl) (fun Ls W h => h) (fun _ _ _ h => h) hX1 hX1 ?_
      go_frame
      refine late_skip [] (i := 15) (some 201) rfl rfl (by first | rfl | kernel_rfl) (by kernel_rfl) (by kernel_rfl) (by kernel_rfl) (by kernel_rfl) (by kernel_rfl) (fun Ls W h => h) (fun _ _ _ h => h) hX1 hX1 ?_
      go_frame
      refine late_skip [] (i := 17) (some 203) rfl rfl (by first | rfl | kernel_rfl) (by kernel_rfl) (by kernel_rfl) (by kernel_rfl) (by kernel_rfl) (by kernel_rfl) (fun Ls W h => h) (fun _ _ _ h => h) hX1 hX1 ?_
      go_frame
      refine late_skip [] (i := 18) (some 204) rfl rfl (by first | rfl | kernel_rfl) (by kernel_rfl) (by kernel_rfl) (by kernel_rfl) (by kernel_rfl) (by kernel_rfl) (fun Ls W h => h) (fun _ _ _ h => h) hX1 hX1 ?_
      go_frame
      refine late_take [] (i := 19) (some 205) rfl rfl (by first | rfl | kernel_rfl) (by kernel_rfl) (by kernel_rfl) (by kernel_rfl) (by kernel_rfl) (by kernel_rfl) (fun Ls W h => h) (.bool true) (fun _ _ _ h => h) (fun Ls W hl0 hW => exec_pickT _ _ _ rfl (.bool true) rfl rfl) hX1 hX1 ?_
      go_frame
      refine late_take [] (i := 20) (some 206) rfl rfl (by first | rfl | kernel_rfl) (by kernel_rfl) (by kernel_rfl) (by kernel_rfl) (by kernel_rfl) (by kernel_rfl) (fun Ls W h => h) (.bool true) (fun _ _ _ h => h) (fun Ls W hl0 hW => exec_move (.tmp 205) rfl _ rfl) hX1 hX1 ?_
      go_frame
      refine late_skip [] (i := 21) (some 207) rfl rfl (by first | rfl | kernel_rfl) (by kernel_rfl) (by kernel_rfl) (by kernel_rfl) (by kernel_rfl) (by kernel_rfl) (fun Ls W h => h) (fun _ _ _ h => h) hX1 hX1 ?_
      go_frame
      refine late_skip [] (i := 22) (some 208) rfl rfl (by first | rfl | kernel_rfl) (by kernel_rfl) (by kernel_rfl) (by kernel_rfl) (by kernel_rfl) (by kernel_rfl) (fun Ls W h => h) (fun _ _ _ h => h) hX1 hX1 ?_
      go_frame
      refine late_skip [] (i := 23) (some 209) rfl rfl (by first | rfl | kernel_rfl) (by kernel_rfl) (by kernel_rfl) (by kernel_rfl) (by kernel_rfl) (by kernel_rfl) (fun Ls W h => h) (fun _ _ _ h => h) hX1 hX1 ?_
      go_frame
      refine late_skip [] (i := 24) (some 210) rfl rfl (by first | rfl | kernel_rfl) (by kernel_rfl) (by kernel_rfl) (by kernel_rfl) (by kernel_rfl) (by kernel_rfl) (fun Ls W h => h) (fun _ _ _ h => h) hX1 hX1 ?_
      go_frame
      refine late_skip [] (i := 25) (some 211) rfl rfl (by first | rfl | kernel_rfl) (by kernel_rfl) (by kernel_rfl) (by kernel_rfl) (by kernel_rfl) (by kernel_rfl) (fun Ls W h => h) (fun _ _ _ h => h) hX1 hX1 ?_
      go_frame
      refine late_skip [] (i := 26) (some 212) rfl rfl (by first | rfl | kernel_rfl) (by kernel_rfl) (by kernel_rfl) (by kernel_rfl) (by kernel_rfl) (by kernel_rfl) (fun Ls W h => h) (fun _ _ _ h => h) hX1 hX1 ?_
      go_frame
      refine late_skip [] (i := 28) (some 214) rfl rfl (by first | rfl | kernel_rfl) (by kernel_rfl) (by kernel_rfl) (by kernel_rfl) (by kernel_rfl) (by kernel_rfl) (fun Ls W h => h) (fun _ _ _ h => h) hX1 hX1 ?_
      go_frame
      refine late_skip [] (i := 27) (some 213) rfl rfl (by first | rfl | kernel_rfl) (by kernel_rfl) (by kernel_rfl) (by kernel_rfl) (by kernel_rfl) (by kernel_rfl) (fun Ls W h => h) (fun _ _ _ h => h) hX1 hX1 ?_
      go_frame
      refine late_skip [] (i := 29) (some 215) rfl rfl (by first | rfl | kernel_rfl) (by kernel_rfl) (by kernel_rfl) (by kernel_rfl) (by kernel_rfl) (by kernel_rfl) (fun Ls W h => h) (fun _ _ _ h => h) hX1 hX1 ?_
      go_frame
      refine late_skip [] (i := 30) (some 216) rfl rfl (by first | rfl | kernel_rfl) (by kernel_rfl) (by kernel_rfl) (by kernel_rfl) (by kernel_rfl) (by kernel_rfl) (fun Ls W h => h) (fun _ _ _ h => h) hX1 hX1 ?_
      go_frame
      refine late_take [] (i := 31) (some 217) rfl rfl (by first | rfl | kernel_rfl) (by kernel_rfl) (by kernel_rfl) (by kernel_rfl) (by kernel_rfl) (by kernel_rfl) (fun Ls W h => h) (.bool true) (fun _ _ _ h => h) (fun Ls W hl0 hW => exec_pickT _ _ _ rfl (.bool true) rfl rfl) hX1 hX1 ?_
      go_frame
      refine late_take [] (i := 32) (some 218) rfl rfl (by first | rfl | kernel_rfl) (by kernel_rfl) (by kernel_rfl) (by kernel_rfl) (by kernel_rfl) (by kernel_rfl) (fun Ls W h => h) (.bool true) (fun _ _ _ h => h) (fun Ls W hl0 hW => exec_pickT _ _ _ rfl (.bool true) rfl rfl) hX1 hX1 ?_
      go_frame
      refine late_take [] (i := 33) (some 6) rfl rfl (by first | rfl | kernel_rfl) (by kernel_rfl) (by kernel_rfl) (by kernel_rfl) (by kernel_rfl) (by kernel_rfl) (fun Ls W h => h) (.bool true) (fun _ _ _ h => h) (fun Ls W hl0 hW => exec_assign (.tmp 218) rfl _ rfl) hX1 hX1 ?_
      refine late_done (by kernel_rfl) ?_ _
      go_frame
      have HX := Lib.hid hX1
      have HW := Lib.hid hW1
      have HE := Lib.hid hE1
      clear hX1 hW1 hE1
      go_wp2
      go_ret
      exact ⟨rfl, HW.out⟩
    · have N197 := Lib.hid j3
      have N203 := Lib.hid j4
      clear NK j3 j4
      refine late_begin (S := fun _ W => Blk W w.heap.size 23 [.bool x.neg, .string x.n, .string x.d]) (by kernel_rfl) ?_
      have hX0 := HX.out.drew
      have hW0 := HW.out.drew
      have hE0 := HE.out.next (Below.refl _ _).drew
      generalize u6.drew = u0 at hX0 hW0 hE0 ⊢
      clear HX HW HE
      refine late_one (i := 0) (by kernel_rfl) (op_callG (some 186) rfl rfl (by first | rfl | kernel_rfl) rfl Tryz.func7 (by kernel_rfl) (by kernel_rfl) #[] rfl (qsanity_any _ hE0) ?_)
      rintro e u1 ⟨rfl, hb⟩
      have hX1 := hX0.next hb
      have hW1 := hW0.trans (hb.mono hW0.size)
      have hE1 := hE0.next hb
      refine ⟨_, rfl, hX1, ?_⟩
      go_frame
      clear hX0 hW0 hE0 hb
      refine late_take [] (i := 1) (some 187) rfl rfl (by first | rfl | kernel_rfl) (by kernel_rfl) (by kernel_rfl) (by kernel_rfl) (by kernel_rfl) (by kernel_rfl) (fun Ls W h => h) (.bool true) (fun _ _ _ h => h) (fun Ls W hl0 hW => exec_move (.tmp 186) rfl _ rfl) hX1 hX1 ?_
      go_frame
      refine late_take [] (i := 2) (some 188) rfl rfl (by first | rfl | kernel_rfl) (by kernel_rfl) (by kernel_rfl) (by kernel_rfl) (by kernel_rfl) (by kernel_rfl) (fun Ls W h => h) (.int .i64 0) (fun _ _ _ h => h) (fun Ls W hl0 hW => exec_move (.tmp 14) rfl _ rfl) hX1 hX1 ?_
      go_frame
      refine late_take [] (i := 3) (some 189) rfl rfl (by first | rfl | kernel_rfl) (by kernel_rfl) (by kernel_rfl) (by kernel_rfl) (by kernel_rfl) (by kernel_rfl) (fun Ls W h => h) (.bool false) (fun _ _ _ h => h) (fun Ls W hl0 hW => exec_neqT _ _ _ _ rfl .i64 (0) rfl rfl) hX1 hX1 ?_
      go_frame
      refine late_take [] (i := 4) (some 190) rfl rfl (by first | rfl | kernel_rfl) (by kernel_rfl) (by kernel_rfl) (by kernel_rfl) (by kernel_rfl) (by kernel_rfl) (fun Ls W h => h) (.bool false) (fun _ _ _ h => h) (fun Ls W hl0 hW => exec_move (.tmp 189) rfl _ rfl) hX1 hX1 ?_
      go_frame
      refine late_take [] (i := 5) (some 191) rfl rfl (by first | rfl | kernel_rfl) (by kernel_rfl) (by kernel_rfl) (by kernel_rfl) (by kernel_rfl) (by kernel_rfl) (fun Ls W h => h) (.int .i64 0) (fun _ _ _ h => h) (fun Ls W hl0 hW => exec_move (.tmp 16) rfl _ rfl) hX1 hX1 ?_
      go_frame
      refine late_take [] (i := 6) (some 192) rfl rfl (by first | rfl | kernel_rfl) (by kernel_rfl) (by kernel_rfl) (by kernel_rfl) (by kernel_rfl) (by kernel_rfl) (fun Ls W h => h) (.bool false) (fun _ _ _ h => h) (fun Ls W hl0 hW => exec_neqT _ _ _ _ rfl .i64 (0) rfl rfl) hX1 hX1 ?_
      go_frame
      refine late_take [] (i := 7) (some 193) rfl rfl (by first | rfl | kernel_rfl) (by kernel_rfl) (by kernel_rfl) (by kernel_rfl) (by kernel_rfl) (by kernel_rfl) (fun Ls W h => h) (.bool false) (fun _ _ _ h => h) (fun Ls W hl0 hW => exec_pickF _ _ _ rfl (.bool false) rfl rfl) hX1 hX1 ?_
      go_frame
      refine late_take [] (i := 8) (some 194) rfl rfl (by first | rfl | kernel_rfl) (by kernel_rfl) (by kernel_rfl) (by kernel_rfl) (by kernel_rfl) (by kernel_rfl) (fun Ls W h => h) (.bool false) (fun _ _ _ h => h) (fun Ls W hl0 hW => exec_move (.tmp 193) rfl _ rfl) hX1 hX1 ?_
      go_frame
      refine late_take [] (i := 9) (some 195) rfl rfl (by first | rfl | kernel_rfl) (by kernel_rfl) (by kernel_rfl) (by kernel_rfl) (by kernel_rfl) (by kernel_rfl) (fun Ls W h => h) (.int .i64 c) (fun _ _ _ h => h) (fun Ls W hl0 hW => exec_move (.tmp 15) rfl _ rfl) hX1 hX1 ?_
      go_frame
      refine late_take [] (i := 10) (some 196) rfl rfl (by first | rfl | kernel_rfl) (by kernel_rfl) (by kernel_rfl) (by kernel_rfl) (by kernel_rfl) (by kernel_rfl) (fun Ls W h => h) (.int .i64 f) (fun _ _ _ h => h) (fun Ls W hl0 hW => exec_move (.tmp 13) rfl _ rfl) hX1 hX1 ?_
      go_frame
      refine late_take [] (i := 11) (some 197) rfl rfl (by first | rfl | kernel_rfl) (by kernel_rfl) (by kernel_rfl) (by kernel_rfl) (by kernel_rfl) (by kernel_rfl) (fun Ls W h => h) (.int .i64 (0)) (fun _ _ _ h => h) (fun Ls W hl0 hW => exec_bin .sub 3 _ (.tmp 195) (.tmp 196) rfl (.int .i64 c) (.int .i64 f) _ rfl rfl rfl (N197.out _)) hX1 hX1 ?_
      go_frame
      refine late_take [] (i := 12) (some 198) rfl rfl (by first | rfl | kernel_rfl) (by kernel_rfl) (by kernel_rfl) (by kernel_rfl) (by kernel_rfl) (by kernel_rfl) (fun Ls W h => h) (.bool true) (fun _ _ _ h => h) (fun Ls W hl0 hW => exec_eqT _ _ _ _ rfl .i64 (0) rfl rfl) hX1 hX1 ?_
      go_frame
      refine late_take [] (i := 13) (some 199) rfl rfl (by first | rfl | kernel_rfl) (by kernel_rfl) (by kernel_rfl) (by kernel_rfl) (by kernel_rfl) (by kernel_rfl) (fun Ls W h => h) (.bool true) (fun _ _ _ h => h) (fun Ls W hl0 hW => exec_move (.tmp 198) rfl _ rfl) hX1 hX1 ?_
      go_frame
      refine late_take [] (i := 14) (some 200) rfl rfl (by first | rfl | kernel_rfl) (by kernel_rfl) (by kernel_rfl) (by kernel_rfl) (by kernel_rfl) (by kernel_rfl) (fun Ls W h => h) (.int .i64 f) (fun _ _ _ h => h) (fun Ls W hl0 hW => exec_move (.tmp 13) rfl _ rfl) hX1 hX1 ?_
      go_frame
      refine late_take [] (i := 16) (some 202) rfl rfl (by first | rfl | kernel_rfl) (by kernel_rfl) (by kernel_rfl) (by kernel_rfl) (by kernel_rfl) (by kernel_rfl) (fun Ls W h => h) (rv x) (fun _ _ _ h => h) (fun Ls W hl0 hW => exec_load 23 (.tmp 3) rfl _ (rv x) rfl (run_load_part W 23 _ 0 3 _ [.bool x.neg, .string x.n, .string x.d] _ hW (by simp) Tryz.underlying23 rfl size_api_Rat)) hX1 hX1 ?_
      go_frame
      refine late_one (i := 15) (by kernel_rfl) (op_callG (some 201) rfl rfl (by first | rfl | kernel_rfl) rfl Tryz.func18 (by kernel_rfl) (by kernel_rfl) #[.int .i64 f] rfl (F172.out u1) ?_)
      rintro e u2 ⟨rfl, hb⟩
      have hX2 := hX1.next hb
      have hW2 := hW1.trans (hb.mono hW1.size)
      have hE2 := hE1.next hb
      refine ⟨_, rfl, hX2, ?_⟩
      go_frame
      clear hX1 hW1 hE1 hb
      refine late_take [] (i := 17) (some 203) rfl rfl (by first | rfl | kernel_rfl) (by kernel_rfl) (by kernel_rfl) (by kernel_rfl) (by kernel_rfl) (by kernel_rfl) (fun Ls W h => h) (.bool true) (fun _ _ _ h => h) (fun Ls W hl0 hW => exec_bin .eql 23 _ _ _ rfl (rv fi) (rv x) _ rfl rfl (rat_guard _ _ _ _ _) (N203.out _)) hX2 hX2 ?_
      go_frame
      refine late_take [] (i := 18) (some 204) rfl rfl (by first | rfl | kernel_rfl) (by kernel_rfl) (by kernel_rfl) (by kernel_rfl) (by kernel_rfl) (by kernel_rfl) (fun Ls W h => h) (.bool true) (fun _ _ _ h => h) (fun Ls W hl0 hW => exec_pickT _ _ _ rfl (.bool true) rfl rfl) hX2 hX2 ?_
      go_frame
      refine late_take [] (i := 19) (some 205) rfl rfl (by first | rfl | kernel_rfl) (by kernel_rfl) (by kernel_rfl) (by kernel_rfl) (by kernel_rfl) (by kernel_rfl) (fun Ls W h => h) (.bool true) (fun _ _ _ h => h) (fun Ls W hl0 hW => exec_pickF _ _ _ rfl (.bool true) rfl rfl) hX2 hX2 ?_
      go_frame
      refine late_take [] (i := 20) (some 206) rfl rfl (by first | rfl | kernel_rfl) (by kernel_rfl) (by kernel_rfl) (by kernel_rfl) (by kernel_rfl) (by kernel_rfl) (fun Ls W h => h) (.bool true) (fun _ _ _ h => h) (fun Ls W hl0 hW => exec_move (.tmp 205) rfl _ rfl) hX2 hX2 ?_
      go_frame
      refine late_skip [] (i := 21) (some 207) rfl rfl (by first | rfl | kernel_rfl) (by kernel_rfl) (by kernel_rfl) (by kernel_rfl) (by kernel_rfl) (by kernel_rfl) (fun Ls W h => h) (fun _ _ _ h => h) hX2 hX2 ?_
      go_frame
      refine late_skip [] (i := 22) (some 208) rfl rfl (by first | rfl | kernel_rfl) (by kernel_rfl) (by kernel_rfl) (by kernel_rfl) (by kernel_rfl) (by kernel_rfl) (fun Ls W h => h) (fun _ _ _ h => h) hX2 hX2 ?_
      go_frame
      refine late_skip [] (i := 23) (some 209) rfl rfl (by first | rfl | kernel_rfl) (by kernel_rfl) (by kernel_rfl) (by kernel_rfl) (by kernel_rfl) (by kernel_rfl) (fun Ls W h => h) (fun _ _ _ h => h) hX2 hX2 ?_
      go_frame
      refine late_skip [] (i := 24) (some 210) rfl rfl (by first | rfl | kernel_rfl) (by kernel_rfl) (by kernel_rfl) (by kernel_rfl) (by kernel_rfl) (by kernel_rfl) (fun Ls W h => h) (fun _ _ _ h => h) hX2 hX2 ?_
      go_frame
      refine late_skip [] (i := 25) (some 211) rfl rfl (by first | rfl | kernel_rfl) (by kernel_rfl) (by kernel_rfl) (by kernel_rfl) (by kernel_rfl) (by kernel_rfl) (fun Ls W h => h) (fun _ _ _ h => h) hX2 hX2 ?_
      go_frame
      refine late_skip [] (i := 26) (some 212) rfl rfl (by first | rfl | kernel_rfl) (by kernel_rfl) (by kernel_rfl) (by kernel_rfl) (by kernel_rfl) (by kernel_rfl) (fun Ls W h => h) (fun _ _ _ h => h) hX2 hX2 ?_
      go_frame
      refine late_skip [] (i := 28) (some 214) rfl rfl (by first | rfl | kernel_rfl) (by kernel_rfl) (by kernel_rfl) (by kernel_rfl) (by kernel_rfl) (by kernel_rfl) (fun Ls W h => h) (fun _ _ _ h => h) hX2 hX2 ?_
      go_frame
      refine late_skip [] (i := 27) (some 213) rfl rfl (by first | rfl | kernel_rfl) (by kernel_rfl) (by kernel_rfl) (by kernel_rfl) (by kernel_rfl) (by kernel_rfl) (fun Ls W h => h) (fun _ _ _ h => h) hX2 hX2 ?_
      go_frame
      refine late_skip [] (i := 29) (some 215) rfl rfl (by first | rfl | kernel_rfl) (by kernel_rfl) (by kernel_rfl) (by kernel_rfl) (by kernel_rfl) (by kernel_rfl) (fun Ls W h => h) (fun _ _ _ h => h) hX2 hX2 ?_
      go_frame
      refine late_skip [] (i := 30) (some 216) rfl rfl (by first | rfl | kernel_rfl) (by kernel_rfl) (by kernel_rfl) (by kernel_rfl) (by kernel_rfl) (by kernel_rfl) (fun Ls W h => h) (fun _ _ _ h => h) hX2 hX2 ?_
      go_frame
      refine late_take [] (i := 31) (some 217) rfl rfl (by first | rfl | kernel_rfl) (by kernel_rfl) (by kernel_rfl) (by kernel_rfl) (by kernel_rfl) (by kernel_rfl) (fun Ls W h => h) (.bool true) (fun _ _ _ h => h) (fun Ls W hl0 hW => exec_pickT _ _ _ rfl (.bool true) rfl rfl) hX2 hX2 ?_
      go_frame
      refine late_take [] (i := 32) (some 218) rfl rfl (by first | rfl | kernel_rfl) (by kernel_rfl) (by kernel_rfl) (by kernel_rfl) (by kernel_rfl) (by kernel_rfl) (fun Ls W h => h) (.bool true) (fun _ _ _ h => h) (fun Ls W hl0 hW => exec_pickT _ _ _ rfl (.bool true) rfl rfl) hX2 hX2 ?_
      go_frame
      refine late_take [] (i := 33) (some 6) rfl rfl (by first | rfl | kernel_rfl) (by kernel_rfl) (by kernel_rfl) (by kernel_rfl) (by kernel_rfl) (by kernel_rfl) (fun Ls W h => h) (.bool true) (fun _ _ _ h => h) (fun Ls W hl0 hW => exec_assign (.tmp 218) rfl _ rfl) hX2 hX2 ?_
      refine late_done (by kernel_rfl) ?_ _
      go_frame
      have HX := Lib.hid hX2
      have HW := Lib.hid hW2
      have HE := Lib.hid hE2
      clear hX2 hW2 hE2
      go_wp2
      go_ret
      exact ⟨rfl, HW.out⟩
    · have N197 := Lib.hid j3
      have N215 := Lib.hid j4
      clear NK j3 j4
      refine late_begin (S := fun _ W => Blk W w.heap.size 23 [.bool x.neg, .string x.n, .string x.d]) (by kernel_rfl) ?_
      have hX0 := HX.out.drew
      have hW0 := HW.out.drew
      have hE0 := HE.out.next (Below.refl _ _).drew
      generalize u6.drew = u0 at hX0 hW0 hE0 ⊢
      clear HX HW HE
      refine late_one (i := 0) (by kernel_rfl) (op_callG (some 186) rfl rfl (by first | rfl | kernel_rfl) rfl Tryz.func7 (by kernel_rfl) (by kernel_rfl) #[] rfl (qsanity_any _ hE0) ?_)
      rintro e u1 ⟨rfl, hb⟩
      have hX1 := hX0.next hb
      have hW1 := hW0.trans (hb.mono hW0.size)
      have hE1 := hE0.next hb
      refine ⟨_, rfl, hX1, ?_⟩
      go_frame
      clear hX0 hW0 hE0 hb
      refine late_take [] (i := 1) (some 187) rfl rfl (by first | rfl | kernel_rfl) (by kernel_rfl) (by kernel_rfl) (by kernel_rfl) (by kernel_rfl) (by kernel_rfl) (fun Ls W h => h) (.bool true) (fun _ _ _ h => h) (fun Ls W hl0 hW => exec_move (.tmp 186) rfl _ rfl) hX1 hX1 ?_
      go_frame
      refine late_take [] (i := 2) (some 188) rfl rfl (by first | rfl | kernel_rfl) (by kernel_rfl) (by kernel_rfl) (by kernel_rfl) (by kernel_rfl) (by kernel_rfl) (fun Ls W h => h) (.int .i64 0) (fun _ _ _ h => h) (fun Ls W hl0 hW => exec_move (.tmp 14) rfl _ rfl) hX1 hX1 ?_
      go_frame
      refine late_take [] (i := 3) (some 189) rfl rfl (by first | rfl | kernel_rfl) (by kernel_rfl) (by kernel_rfl) (by kernel_rfl) (by kernel_rfl) (by kernel_rfl) (fun Ls W h => h) (.bool false) (fun _ _ _ h => h) (fun Ls W hl0 hW => exec_neqT _ _ _ _ rfl .i64 (0) rfl rfl) hX1 hX1 ?_
      go_frame
      refine late_take [] (i := 4) (some 190) rfl rfl (by first | rfl | kernel_rfl) (by kernel_rfl) (by kernel_rfl) (by kernel_rfl) (by kernel_rfl) (by kernel_rfl) (fun Ls W h => h) (.bool false) (fun _ _ _ h => h) (fun Ls W hl0 hW => exec_move (.tmp 189) rfl _ rfl) hX1 hX1 ?_
      go_frame
      refine late_take [] (i := 5) (some 191) rfl rfl (by first | rfl | kernel_rfl) (by kernel_rfl) (by kernel_rfl) (by kernel_rfl) (by kernel_rfl) (by kernel_rfl) (fun Ls W h => h) (.int .i64 0) (fun _ _ _ h => h) (fun Ls W hl0 hW => exec_move (.tmp 16) rfl _ rfl) hX1 hX1 ?_
      go_frame
      refine late_take [] (i := 6) (some 192) rfl rfl (by first | rfl | kernel_rfl) (by kernel_rfl) (by kernel_rfl) (by kernel_rfl) (by kernel_rfl) (by kernel_rfl) (fun Ls W h => h) (.bool false) (fun _ _ _ h => h) (fun Ls W hl0 hW => exec_neqT _ _ _ _ rfl .i64 (0) rfl rfl) hX1 hX1 ?_
      go_frame
      refine late_take [] (i := 7) (some 193) rfl rfl (by first | rfl | kernel_rfl) (by kernel_rfl) (by kernel_rfl) (by kernel_rfl) (by kernel_rfl) (by kernel_rfl) (fun Ls W h => h) (.bool false) (fun _ _ _ h => h) (fun Ls W hl0 hW => exec_pickF _ _ _ rfl (.bool false) rfl rfl) hX1 hX1 ?_
      go_frame
      refine late_take [] (i := 8) (some 194) rfl rfl (by first | rfl | kernel_rfl) (by kernel_rfl) (by kernel_rfl) (by kernel_rfl) (by kernel_rfl) (by kernel_rfl) (fun Ls W h => h) (.bool false) (fun _ _ _ h => h) (fun Ls W hl0 hW => exec_move (.tmp 193) rfl _ rfl) hX1 hX1 ?_
      go_frame
      refine late_take [] (i := 9) (some 195) rfl rfl (by first | rfl | kernel_rfl) (by kernel_rfl) (by kernel_rfl) (by kernel_rfl) (by kernel_rfl) (by kernel_rfl) (fun Ls W h => h) (.int .i64 c) (fun _ _ _ h => h) (fun Ls W hl0 hW => exec_move (.tmp 15) rfl _ rfl) hX1 hX1 ?_
      go_frame
      refine late_take [] (i := 10) (some 196) rfl rfl (by first | rfl | kernel_rfl) (by kernel_rfl) (by kernel_rfl) (by kernel_rfl) (by kernel_rfl) (by kernel_rfl) (fun Ls W h => h) (.int .i64 f) (fun _ _ _ h => h) (fun Ls W hl0 hW => exec_move (.tmp 13) rfl _ rfl) hX1 hX1 ?_
      go_frame
      refine late_take [] (i := 11) (some 197) rfl rfl (by first | rfl | kernel_rfl) (by kernel_rfl) (by kernel_rfl) (by kernel_rfl) (by kernel_rfl) (by kernel_rfl) (fun Ls W h => h) (.int .i64 (1)) (fun _ _ _ h => h) (fun Ls W hl0 hW => exec_bin .sub 3 _ (.tmp 195) (.tmp 196) rfl (.int .i64 c) (.int .i64 f) _ rfl rfl rfl (N197.out _)) hX1 hX1 ?_
      go_frame
      refine late_take [] (i := 12) (some 198) rfl rfl (by first | rfl | kernel_rfl) (by kernel_rfl) (by kernel_rfl) (by kernel_rfl) (by kernel_rfl) (by kernel_rfl) (fun Ls W h => h) (.bool false) (fun _ _ _ h => h) (fun Ls W hl0 hW => exec_bin .eql 3 _ (.tmp 197) _ rfl (.int .i64 1) (.int .i64 0) _ rfl rfl rfl rfl) hX1 hX1 ?_
      go_frame
      refine late_take [] (i := 13) (some 199) rfl rfl (by first | rfl | kernel_rfl) (by kernel_rfl) (by kernel_rfl) (by kernel_rfl) (by kernel_rfl) (by kernel_rfl) (fun Ls W h => h) (.bool false) (fun _ _ _ h => h) (fun Ls W hl0 hW => exec_move (.tmp 198) rfl _ rfl) hX1 hX1 ?_
      go_frame
      refine late_skip [] (i := 14) (some 200) rfl rfl (by first | rfl | kernel_rfl) (by kernel_rfl) (by kernel_rfl) (by kernel_rfl) (by kernel_rfl) (by kernel_rfl) (fun Ls W h => h) (fun _ _ _ h => h) hX1 hX1 ?_
      go_frame
      refine late_skip [] (i := 16) (some 202) rfl rfl (by first | rfl | kernel_rfl) (by kernel_rfl) (by kernel_rfl) (by kernel_rfl) (by kernel_rfl) (by kernel_rfl) (fun Ls W h => h) (fun _ _ _ h => h) hX1 hX1 ?_
      go_frame
      refine late_skip [] (i := 15) (some 201) rfl rfl (by first | rfl | kernel_rfl) (by kernel_rfl) (by kernel_rfl) (by kernel_rfl) (by kernel_rfl) (by kernel_rfl) (fun Ls W h => h) (fun _ _ _ h => h) hX1 hX1 ?_
      go_frame
      refine late_skip [] (i := 17) (some 203) rfl rfl (by first | rfl | kernel_rfl) (by kernel_rfl) (by kernel_rfl) (by kernel_rfl) (by kernel_rfl) (by kernel_rfl) (fun Ls W h => h) (fun _ _ _ h => h) hX1 hX1 ?_
      go_frame
      refine late_take [] (i := 18) (some 204) rfl rfl (by first | rfl | kernel_rfl) (by kernel_rfl) (by kernel_rfl) (by kernel_rfl) (by kernel_rfl) (by kernel_rfl) (fun Ls W h => h) (.bool false) (fun _ _ _ h => h) (fun Ls W hl0 hW => exec_pickF _ _ _ rfl (.bool false) rfl rfl) hX1 hX1 ?_
      go_frame
      refine late_take [] (i := 19) (some 205) rfl rfl (by first | rfl | kernel_rfl) (by kernel_rfl) (by kernel_rfl) (by kernel_rfl) (by kernel_rfl) (by kernel_rfl) (fun Ls W h => h) (.bool false) (fun _ _ _ h => h) (fun Ls W hl0 hW => exec_pickF _ _ _ rfl (.bool false) rfl rfl) hX1 hX1 ?_
      go_frame
      refine late_take [] (i := 20) (some 206) rfl rfl (by first | rfl | kernel_rfl) (by kernel_rfl) (by kernel_rfl) (by kernel_rfl) (by kernel_rfl) (by kernel_rfl) (fun Ls W h => h) (.bool false) (fun _ _ _ h => h) (fun Ls W hl0 hW => exec_move (.tmp 205) rfl _ rfl) hX1 hX1 ?_
      go_frame
      refine late_take [] (i := 21) (some 207) rfl rfl (by first | rfl | kernel_rfl) (by kernel_rfl) (by kernel_rfl) (by kernel_rfl) (by kernel_rfl) (by kernel_rfl) (fun Ls W h => h) (.int .i64 c) (fun _ _ _ h => h) (fun Ls W hl0 hW => exec_move (.tmp 15) rfl _ rfl) hX1 hX1 ?_
      go_frame
      refine late_take [] (i := 22) (some 208) rfl rfl (by first | rfl | kernel_rfl) (by kernel_rfl) (by kernel_rfl) (by kernel_rfl) (by kernel_rfl) (by kernel_rfl) (fun Ls W h => h) (.int .i64 f) (fun _ _ _ h => h) (fun Ls W hl0 hW => exec_move (.tmp 13) rfl _ rfl) hX1 hX1 ?_
      go_frame
      refine late_take [] (i := 23) (some 209) rfl rfl (by first | rfl | kernel_rfl) (by kernel_rfl) (by kernel_rfl) (by kernel_rfl) (by kernel_rfl) (by kernel_rfl) (fun Ls W h => h) (.int .i64 (1)) (fun _ _ _ h => h) (fun Ls W hl0 hW => exec_bin .sub 3 _ (.tmp 207) (.tmp 208) rfl (.int .i64 c) (.int .i64 f) _ rfl rfl rfl (N197.out _)) hX1 hX1 ?_
      go_frame
      refine late_take [] (i := 24) (some 210) rfl rfl (by first | rfl | kernel_rfl) (by kernel_rfl) (by kernel_rfl) (by kernel_rfl) (by kernel_rfl) (by kernel_rfl) (fun Ls W h => h) (.bool true) (fun _ _ _ h => h) (fun Ls W hl0 hW => exec_eqT _ _ _ _ rfl .i64 (1) rfl rfl) hX1 hX1 ?_
      go_frame
      refine late_take [] (i := 25) (some 211) rfl rfl (by first | rfl | kernel_rfl) (by kernel_rfl) (by kernel_rfl) (by kernel_rfl) (by kernel_rfl) (by kernel_rfl) (fun Ls W h => h) (.bool true) (fun _ _ _ h => h) (fun Ls W hl0 hW => exec_move (.tmp 210) rfl _ rfl) hX1 hX1 ?_
      go_frame
      refine late_take [] (i := 26) (some 212) rfl rfl (by first | rfl | kernel_rfl) (by kernel_rfl) (by kernel_rfl) (by kernel_rfl) (by kernel_rfl) (by kernel_rfl) (fun Ls W h => h) (.int .i64 f) (fun _ _ _ h => h) (fun Ls W hl0 hW => exec_move (.tmp 13) rfl _ rfl) hX1 hX1 ?_
      go_frame
      refine late_take [] (i := 28) (some 214) rfl rfl (by first | rfl | kernel_rfl) (by kernel_rfl) (by kernel_rfl) (by kernel_rfl) (by kernel_rfl) (by kernel_rfl) (fun Ls W h => h) (rv x) (fun _ _ _ h => h) (fun Ls W hl0 hW => exec_load 23 (.tmp 3) rfl _ (rv x) rfl (run_load_part W 23 _ 0 3 _ [.bool x.neg, .string x.n, .string x.d] _ hW (by simp) Tryz.underlying23 rfl size_api_Rat)) hX1 hX1 ?_
      go_frame
      refine late_one (i := 27) (by kernel_rfl) (op_callG (some 213) rfl rfl (by first | rfl | kernel_rfl) rfl Tryz.func18 (by kernel_rfl) (by kernel_rfl) #[.int .i64 f] rfl (F172.out u1) ?_)
      rintro e u2 ⟨rfl, hb⟩
      have hX2 := hX1.next hb
      have hW2 := hW1.trans (hb.mono hW1.size)
      have hE2 := hE1.next hb
      refine ⟨_, rfl, hX2, ?_⟩
      go_frame
      clear hX1 hW1 hE1 hb
      refine late_take [] (i := 29) (some 215) rfl rfl (by first | rfl | kernel_rfl) (by kernel_rfl) (by kernel_rfl) (by kernel_rfl) (by kernel_rfl) (by kernel_rfl) (fun Ls W h => h) (.bool true) (fun _ _ _ h => h) (fun Ls W hl0 hW => exec_bin .neq 23 _ _ _ rfl (rv fi) (rv x) _ rfl rfl (rat_guardN _ _ _ _ _) (N215.out _)) hX2 hX2 ?_
      go_frame
      refine late_take [] (i := 30) (some 216) rfl rfl (by first | rfl | kernel_rfl) (by kernel_rfl) (by kernel_rfl) (by kernel_rfl) (by kernel_rfl) (by kernel_rfl) (fun Ls W h => h) (.bool true) (fun _ _ _ h => h) (fun Ls W hl0 hW => exec_pickT _ _ _ rfl (.bool true) rfl rfl) hX2 hX2 ?_
      go_frame
      refine late_take [] (i := 31) (some 217) rfl rfl (by first | rfl | kernel_rfl) (by kernel_rfl) (by kernel_rfl) (by kernel_rfl) (by kernel_rfl) (by kernel_rfl) (fun Ls W h => h) (.bool true) (fun _ _ _ h => h) (fun Ls W hl0 hW => exec_pickF _ _ _ rfl (.bool true) rfl rfl) hX2 hX2 ?_
      go_frame
      refine late_take [] (i := 32) (some 218) rfl rfl (by first | rfl | kernel_rfl) (by kernel_rfl) (by kernel_rfl) (by kernel_rfl) (by kernel_rfl) (by kernel_rfl) (fun Ls W h => h) (.bool true) (fun _ _ _ h => h) (fun Ls W hl0 hW => exec_pickT _ _ _ rfl (.bool true) rfl rfl) hX2 hX2 ?_
      go_frame
      refine late_take [] (i := 33) (some 6) rfl rfl (by first | rfl | kernel_rfl) (by kernel_rfl) (by kernel_rfl) (by kernel_rfl) (by kernel_rfl) (by kernel_rfl) (fun Ls W h => h) (.bool true) (fun _ _ _ h => h) (fun Ls W hl0 hW => exec_assign (.tmp 218) rfl _ rfl) hX2 hX2 ?_
      refine late_done (by kernel_rfl) ?_ _
      go_frame
      have HX := Lib.hid hX2
      have HW := Lib.hid hW2
      have HE := Lib.hid hE2
      clear hX2 hW2 hE2
      go_wp2
      go_ret
      exact ⟨rfl, HW.out⟩
end Go.Proofs.YtibfmcohodhkbaaGreatDoor
