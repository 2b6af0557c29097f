/- The method that reads blanks. -/
import Derived.Test.YtggjgikpiljoiaaDoorL7
namespace Go.Proofs.YtggjgikpiljoiaaDoor
open Go.RowKit Hm Wm Lx

open Go.Sort Go.Lib in
/-- What the walks need of the listed and named variables. -/
structure Env (w : World) : Prop where
  pow : TabIs Tryd.prog w "internal/strconv.uint64pow10" .u64 pow10Tab
  mx : ∃ m : Int, w.cell? ⟨0, 0, none⟩ = some (.int .i64 m)
  es : ∃ t q, w.var? Tryd.prog "strconv.ErrSyntax" = some #[.iface t q]
  er : ∃ t q, w.var? Tryd.prog "strconv.ErrRange" = some #[.iface t q]
  sz : 6 ≤ w.heap.size
theorem gn1 : Tryd.prog.globalNamed "internal/strconv.uint64pow10" = some 1 := by kernel_rfl
theorem gn2 : Tryd.prog.globalNamed "strconv.ErrSyntax" = some 2 := by kernel_rfl
theorem gn3 : Tryd.prog.globalNamed "strconv.ErrRange" = some 3 := by kernel_rfl
theorem var_low {w w' : World} {name : String} {x : Array Value} {g B : Nat} (hn : Tryd.prog.globalNamed name = some g) (h : w.var? Tryd.prog name = some x) (hb : Below B w w') (hg : g < B) : w'.var? Tryd.prog name = some x := by
  unfold World.var? at h ⊢
  rw [hn] at h ⊢
  simp only [Option.bind_some] at h ⊢
  rw [hb.block g hg]
  exact h
theorem Env.low {w w' : World} {B : Nat} (h : Env w) (hb : Below B w w') (hB : 6 ≤ B) : Env w' := by
  refine ⟨var_low gn1 h.pow hb (by omega), ?_, ?_, ?_, Nat.le_trans h.sz hb.size⟩
  · obtain ⟨m, hm⟩ := h.mx
    exact ⟨m, (hb.cell (p := ⟨_, 0, none⟩) (by show 0 < B; omega)).trans hm⟩
  · obtain ⟨t, q, hv⟩ := h.es
    exact ⟨t, q, var_low gn2 hv hb (by omega)⟩
  · obtain ⟨t, q, hv⟩ := h.er
    exact ⟨t, q, var_low gn3 hv hb (by omega)⟩
theorem Env.next {w w' : World} (h : Env w) (hb : Below w.heap.size w w') : Env w' := h.low hb h.sz
theorem drewN_b (w : World) (n : Nat) : Below w.heap.size w (w.drewN n) := ⟨rfl, rfl, rfl, Nat.le_refl _, fun _ _ => rfl⟩
theorem index_lf (s : List UInt8) : (Lib.cut s [10]).1 = cmt s := by
  have h : ∀ s : List UInt8, (Lib.index s [10] = -1 ∧ cmt s = s) ∨ (Lib.index s [10] = ((cmt s).length : Nat)) := by
    intro s
    induction s with
    | nil => exact .inl ⟨rfl, rfl⟩
    | cons b s ih =>
      by_cases hb : b = 10
      · subst hb
        refine .inr ?_
        have e : List.isPrefixOf [10] ((10 : UInt8) :: s) = true := rfl
        rw [Lib.index, e]
        rfl
      · have e : List.isPrefixOf [10] (b :: s) = false := by
          show ((10 : UInt8) == b && _) = false
          rw [beq_eq_false_iff_ne.2 (fun e => hb e.symm)]; rfl
        have hn : nlf b = true := by
          simp only [nlf, decide_eq_true_eq]
          intro h; exact hb (UInt8.toNat_inj.1 h)
        have hc : cmt (b :: s) = b :: cmt s := by unfold cmt; rw [List.takeWhile_cons, if_pos hn]
        rcases ih with ⟨i1, i2⟩ | i1
        · exact .inl ⟨by rw [Lib.index, e, i1]; rfl, by rw [hc, i2]⟩
        · refine .inr ?_
          have h2 : ((((cmt s).length : Nat) : Int) == -1) = false := by rw [beq_eq_false_iff_ne]; omega
          rw [Lib.index, e, i1, hc, List.length_cons]
          simp [h2]
  unfold Lib.cut
  rcases h s with ⟨h1, h2⟩ | h1
  · rw [h1, h2]; rfl
  · rw [h1]
    have h2 : ((((cmt s).length : Nat) : Int) == -1) = false := by rw [beq_eq_false_iff_ne]; omega
    simp
    exact tw_take nlf s
theorem cut_any (s : List UInt8) (hs : s.length ≤ 65536) (w : World) (hE : Env w) : Calls Tryd.prog 45 #[.string (sb s), .string ⟨#[10]⟩] w fun e w' => e = .returned (.tuple #[.string (sb (cmt s)), .string (sb (Lib.cut s [10]).2.1), .bool (Lib.cut s [10]).2.2]) ∧ Below w.heap.size w w' := by
  obtain ⟨m, hm⟩ := hE.mx
  refine (Tryd.strings_Cut (sb s) ⟨#[10]⟩ m w (by rw [sb_size]; omega) hm).mono fun e w' ⟨h1, n, h2⟩ => ⟨?_, by rw [h2]; exact drewN_b w n⟩
  rw [h1, sb_list]
  have : (Lib.cut s (⟨#[10]⟩ : ByteArray).data.toList).1 = cmt s := index_lf s
  rw [this]
  rfl
set_option maxRecDepth 100000 in
set_option maxHeartbeats 800000 in
theorem blank_32 (g base p : Nat) (l r : List UInt8) (c : UInt8) (v : Value) (T : List TI) (w : World) (hE : Env w) (hR : Blk w g 46 [.string (sb l), .int .i64 p, v]) (hT : Row w base v T) (_hb6 : 6 ≤ base) (hg : base ≤ g) (hp : p < l.length) (_hl : l.length ≤ 65536) (_hn : T.length ≤ 100000) (hd : l.drop p = c :: r) (hc : c.toNat = 32) :
    Calls Tryd.prog 26 #[.pointer (some ⟨g, 0, none⟩)] w (MetP g base l (p + 1) T w 0) := by
  have hgl : g < w.heap.size := hR.lt
  have hbw : base ≤ w.heap.size := by omega
  have HR := Lib.hid hR
  have HT := Lib.hid hT
  have HE := Lib.hid hE
  have HW := Lib.hid (Below.refl w.heap.size w)
  have HD := Lib.hid hd
  have HC := Lib.hid (show l[p]? = some c by have := congrArg (·[0]?) hd; simpa using this)
  have hrl : r.length + 1 + p = l.length := by have := congrArg List.length hd; rw [List.length_drop, List.length_cons] at this; omega
  clear hR hT hd hE
  have m32 : ((c.toNat : Int) == 32) = true := by rw [hc]; rfl
  clear hc
  go_enter Tryd.func26, Tryd.ntmps26
  go_wp2_with fail
  refine late_begin (S := fun _ W => Blk W g 46 [.string (sb l), .int .i64 p, v] ∧ Env W) (by kernel_rfl) ?_
  have hR0 := HR.out.drew
  have hT0 := HT.out.below (Below.refl _ _).drew
  have hE0 := HE.out.next (Below.refl _ _).drew
  have hW0 := HW.out.drew
  generalize w.drew = u0 at hR0 hT0 hE0 hW0 ⊢
  clear HR HT HE HW
  refine late_take [] (i := 0) (some 6) rfl rfl (by first | rfl | kernel_rfl) (by kernel_rfl) (by kernel_rfl) (by kernel_rfl) (by kernel_rfl) (by kernel_rfl) (fun Ls W h => h) (.pointer (some ⟨g, 0, none⟩)) (fun _ _ _ h => h) (fun Ls W hl0 hW => exec_move (.tmp 0) rfl _ rfl) ⟨hR0, hE0⟩ ⟨hR0, hE0⟩ ?_
  go_frame
  refine late_take [] (i := 1) (some 7) rfl rfl (by first | rfl | kernel_rfl) (by kernel_rfl) (by kernel_rfl) (by kernel_rfl) (by kernel_rfl) (by kernel_rfl) (fun Ls W h => h) (.pointer (some ⟨g, 0, none⟩)) (fun _ _ _ h => h) (fun Ls W hl0 hW => exec_nilCheck _ rfl  (some ⟨g, 0, none⟩) rfl) ⟨hR0, hE0⟩ ⟨hR0, hE0⟩ ?_
  go_frame
  refine late_take [] (i := 2) (some 8) rfl rfl (by first | rfl | kernel_rfl) (by kernel_rfl) (by kernel_rfl) (by kernel_rfl) (by kernel_rfl) (by kernel_rfl) (fun Ls W h => h) (.pointer (some ⟨g, 0, none⟩)) (fun _ _ _ h => h) (fun Ls W hl0 hW => exec_fieldAddr 46 (.tmp 7) 0 rfl _ _ rfl (fa_lexer_reader_0_0 _ _)) ⟨hR0, hE0⟩ ⟨hR0, hE0⟩ ?_
  go_frame
  refine late_take [] (i := 3) (some 9) rfl rfl (by first | rfl | kernel_rfl) (by kernel_rfl) (by kernel_rfl) (by kernel_rfl) (by kernel_rfl) (by kernel_rfl) (fun Ls W h => h) (.string (sb l)) (fun _ _ _ h => h) (fun Ls W hl0 hW => exec_load 9 (.tmp 8) rfl _ _ rfl (run_load_cell flat_string (hW.1.cell 0))) ⟨hR0, hE0⟩ ⟨hR0, hE0⟩ ?_
  go_frame
  refine late_take [] (i := 4) (some 10) rfl rfl (by first | rfl | kernel_rfl) (by kernel_rfl) (by kernel_rfl) (by kernel_rfl) (by kernel_rfl) (by kernel_rfl) (fun Ls W h => h) (.pointer (some ⟨g, 0, none⟩)) (fun _ _ _ h => h) (fun Ls W hl0 hW => exec_move (.tmp 0) rfl _ rfl) ⟨hR0, hE0⟩ ⟨hR0, hE0⟩ ?_
  go_frame
  refine late_take [] (i := 5) (some 11) rfl rfl (by first | rfl | kernel_rfl) (by kernel_rfl) (by kernel_rfl) (by kernel_rfl) (by kernel_rfl) (by kernel_rfl) (fun Ls W h => h) (.pointer (some ⟨g, 0, none⟩)) (fun _ _ _ h => h) (fun Ls W hl0 hW => exec_nilCheck _ rfl  (some ⟨g, 0, none⟩) rfl) ⟨hR0, hE0⟩ ⟨hR0, hE0⟩ ?_
  go_frame
  refine late_take [] (i := 6) (some 12) rfl rfl (by first | rfl | kernel_rfl) (by kernel_rfl) (by kernel_rfl) (by kernel_rfl) (by kernel_rfl) (by kernel_rfl) (fun Ls W h => h) (.pointer (some ⟨g, 1, none⟩)) (fun _ _ _ h => h) (fun Ls W hl0 hW => exec_fieldAddr 46 (.tmp 11) 1 rfl _ _ rfl (fa_lexer_reader_1_0 _ _)) ⟨hR0, hE0⟩ ⟨hR0, hE0⟩ ?_
  go_frame
  refine late_take [] (i := 7) (some 13) rfl rfl (by first | rfl | kernel_rfl) (by kernel_rfl) (by kernel_rfl) (by kernel_rfl) (by kernel_rfl) (by kernel_rfl) (fun Ls W h => h) (.int .i64 p) (fun _ _ _ h => h) (fun Ls W hl0 hW => exec_load 3 (.tmp 12) rfl _ _ rfl (run_load_cell flat_int (hW.1.cell 1))) ⟨hR0, hE0⟩ ⟨hR0, hE0⟩ ?_
  go_frame
  refine late_take [] (i := 8) (some 14) rfl rfl (by first | rfl | kernel_rfl) (by kernel_rfl) (by kernel_rfl) (by kernel_rfl) (by kernel_rfl) (by kernel_rfl) (fun Ls W h => h) (.int .u8 c.toNat) (fun _ _ _ h => h) (fun Ls W hl0 hW => exec_index 9 (.tmp 9) (.tmp 13) rfl _ _ (.int .u8 c.toNat) rfl rfl (sb_at (sb l) (k := p) (by rw [sb_list]; exact HC.out) W)) ⟨hR0, hE0⟩ ⟨hR0, hE0⟩ ?_
  refine late_done (by kernel_rfl) ?_ _
  go_frame
  have HR := Lib.hid hR0
  have HT := Lib.hid hT0
  have HE := Lib.hid hE0
  have HW := Lib.hid hW0
  clear hR0 hT0 hE0 hW0
  go_wp2_with (first | (refine wpList_dst 22 rfl ?_; refine wpList_run 22 rfl rfl _ (exec_fieldAddr 46 (.tmp 21) 1 rfl _ _ rfl (fa_lexer_reader_1_0 _ _)) ?_; go_frame) | (refine wpList_dst 23 rfl ?_; refine wpList_run 23 rfl rfl _ (exec_load 3 (.tmp 22) rfl _ (.int .i64 p) rfl (run_load_cell int_flat (HR.out.cell 1))) ?_; go_frame) | (refine wpList_dst 26 rfl ?_; refine wpList_run 26 rfl rfl _ (exec_fieldAddr 46 (.tmp 25) 1 rfl _ _ rfl (fa_lexer_reader_1_0 _ _)) ?_; go_frame) | (refine wpList_store_at rfl 3 (.tmp 26) (.tmp 24) rfl g 1 46 [.string (sb l), .int .i64 p, v] (.int .i64 ((p : Int) + 1)) rfl rfl HR.out (by simp) int_size rfl rfl ?_; intro w7 HR7 ho7; have HT7 := Lib.hid (HT.out.only ho7 HR.out rd_ne); have HK7 := Lib.hid (((Keeps.below HW.out).x g).trans (KeepsX.only ho7)); have HB7 := Lib.hid ((HW.out.mono hbw).trans (ho7.below hg)); clear ho7 HR HT HW HE))
  go_ret
  exact ⟨rfl, ⟨v, HR7.out, HT7.out⟩, HK7.out, HB7.out⟩
set_option maxRecDepth 100000 in
set_option maxHeartbeats 800000 in
theorem blank_9 (g base p : Nat) (l r : List UInt8) (c : UInt8) (v : Value) (T : List TI) (w : World) (hE : Env w) (hR : Blk w g 46 [.string (sb l), .int .i64 p, v]) (hT : Row w base v T) (_hb6 : 6 ≤ base) (hg : base ≤ g) (hp : p < l.length) (_hl : l.length ≤ 65536) (_hn : T.length ≤ 100000) (hd : l.drop p = c :: r) (hc : c.toNat = 9) :
    Calls Tryd.prog 26 #[.pointer (some ⟨g, 0, none⟩)] w (MetP g base l (p + 1) T w 0) := by
  have hgl : g < w.heap.size := hR.lt
  have hbw : base ≤ w.heap.size := by omega
  have HR := Lib.hid hR
  have HT := Lib.hid hT
  have HE := Lib.hid hE
  have HW := Lib.hid (Below.refl w.heap.size w)
  have HD := Lib.hid hd
  have HC := Lib.hid (show l[p]? = some c by have := congrArg (·[0]?) hd; simpa using this)
  have hrl : r.length + 1 + p = l.length := by have := congrArg List.length hd; rw [List.length_drop, List.length_cons] at this; omega
  clear hR hT hd hE
  have m32 : ((c.toNat : Int) == 32) = false := by rw [beq_eq_false_iff_ne]; omega
  have m9 : ((c.toNat : Int) == 9) = true := by rw [hc]; rfl
  clear hc
  go_enter Tryd.func26, Tryd.ntmps26
  go_wp2_with fail
  refine late_begin (S := fun _ W => Blk W g 46 [.string (sb l), .int .i64 p, v] ∧ Env W) (by kernel_rfl) ?_
  have hR0 := HR.out.drew
  have hT0 := HT.out.below (Below.refl _ _).drew
  have hE0 := HE.out.next (Below.refl _ _).drew
  have hW0 := HW.out.drew
  generalize w.drew = u0 at hR0 hT0 hE0 hW0 ⊢
  clear HR HT HE HW
  refine late_take [] (i := 0) (some 6) rfl rfl (by first | rfl | kernel_rfl) (by kernel_rfl) (by kernel_rfl) (by kernel_rfl) (by kernel_rfl) (by kernel_rfl) (fun Ls W h => h) (.pointer (some ⟨g, 0, none⟩)) (fun _ _ _ h => h) (fun Ls W hl0 hW => exec_move (.tmp 0) rfl _ rfl) ⟨hR0, hE0⟩ ⟨hR0, hE0⟩ ?_
  go_frame
  refine late_take [] (i := 1) (some 7) rfl rfl (by first | rfl | kernel_rfl) (by kernel_rfl) (by kernel_rfl) (by kernel_rfl) (by kernel_rfl) (by kernel_rfl) (fun Ls W h => h) (.pointer (some ⟨g, 0, none⟩)) (fun _ _ _ h => h) (fun Ls W hl0 hW => exec_nilCheck _ rfl  (some ⟨g, 0, none⟩) rfl) ⟨hR0, hE0⟩ ⟨hR0, hE0⟩ ?_
  go_frame
  refine late_take [] (i := 2) (some 8) rfl rfl (by first | rfl | kernel_rfl) (by kernel_rfl) (by kernel_rfl) (by kernel_rfl) (by kernel_rfl) (by kernel_rfl) (fun Ls W h => h) (.pointer (some ⟨g, 0, none⟩)) (fun _ _ _ h => h) (fun Ls W hl0 hW => exec_fieldAddr 46 (.tmp 7) 0 rfl _ _ rfl (fa_lexer_reader_0_0 _ _)) ⟨hR0, hE0⟩ ⟨hR0, hE0⟩ ?_
  go_frame
  refine late_take [] (i := 3) (some 9) rfl rfl (by first | rfl | kernel_rfl) (by kernel_rfl) (by kernel_rfl) (by kernel_rfl) (by kernel_rfl) (by kernel_rfl) (fun Ls W h => h) (.string (sb l)) (fun _ _ _ h => h) (fun Ls W hl0 hW => exec_load 9 (.tmp 8) rfl _ _ rfl (run_load_cell flat_string (hW.1.cell 0))) ⟨hR0, hE0⟩ ⟨hR0, hE0⟩ ?_
  go_frame
  refine late_take [] (i := 4) (some 10) rfl rfl (by first | rfl | kernel_rfl) (by kernel_rfl) (by kernel_rfl) (by kernel_rfl) (by kernel_rfl) (by kernel_rfl) (fun Ls W h => h) (.pointer (some ⟨g, 0, none⟩)) (fun _ _ _ h => h) (fun Ls W hl0 hW => exec_move (.tmp 0) rfl _ rfl) ⟨hR0, hE0⟩ ⟨hR0, hE0⟩ ?_
  go_frame
  refine late_take [] (i := 5) (some 11) rfl rfl (by first | rfl | kernel_rfl) (by kernel_rfl) (by kernel_rfl) (by kernel_rfl) (by kernel_rfl) (by kernel_rfl) (fun Ls W h => h) (.pointer (some ⟨g, 0, none⟩)) (fun _ _ _ h => h) (fun Ls W hl0 hW => exec_nilCheck _ rfl  (some ⟨g, 0, none⟩) rfl) ⟨hR0, hE0⟩ ⟨hR0, hE0⟩ ?_
  go_frame
  refine late_take [] (i := 6) (some 12) rfl rfl (by first | rfl | kernel_rfl) (by kernel_rfl) (by kernel_rfl) (by kernel_rfl) (by kernel_rfl) (by kernel_rfl) (fun Ls W h => h) (.pointer (some ⟨g, 1, none⟩)) (fun _ _ _ h => h) (fun Ls W hl0 hW => exec_fieldAddr 46 (.tmp 11) 1 rfl _ _ rfl (fa_lexer_reader_1_0 _ _)) ⟨hR0, hE0⟩ ⟨hR0, hE0⟩ ?_
  go_frame
  refine late_take [] (i := 7) (some 13) rfl rfl (by first | rfl | kernel_rfl) (by kernel_rfl) (by kernel_rfl) (by kernel_rfl) (by kernel_rfl) (by kernel_rfl) (fun Ls W h => h) (.int .i64 p) (fun _ _ _ h => h) (fun Ls W hl0 hW => exec_load 3 (.tmp 12) rfl _ _ rfl (run_load_cell flat_int (hW.1.cell 1))) ⟨hR0, hE0⟩ ⟨hR0, hE0⟩ ?_
  go_frame
  refine late_take [] (i := 8) (some 14) rfl rfl (by first | rfl | kernel_rfl) (by kernel_rfl) (by kernel_rfl) (by kernel_rfl) (by kernel_rfl) (by kernel_rfl) (fun Ls W h => h) (.int .u8 c.toNat) (fun _ _ _ h => h) (fun Ls W hl0 hW => exec_index 9 (.tmp 9) (.tmp 13) rfl _ _ (.int .u8 c.toNat) rfl rfl (sb_at (sb l) (k := p) (by rw [sb_list]; exact HC.out) W)) ⟨hR0, hE0⟩ ⟨hR0, hE0⟩ ?_
  refine late_done (by kernel_rfl) ?_ _
  go_frame
  have HR := Lib.hid hR0
  have HT := Lib.hid hT0
  have HE := Lib.hid hE0
  have HW := Lib.hid hW0
  clear hR0 hT0 hE0 hW0
  go_wp2_with (first | (refine wpList_dst 22 rfl ?_; refine wpList_run 22 rfl rfl _ (exec_fieldAddr 46 (.tmp 21) 1 rfl _ _ rfl (fa_lexer_reader_1_0 _ _)) ?_; go_frame) | (refine wpList_dst 23 rfl ?_; refine wpList_run 23 rfl rfl _ (exec_load 3 (.tmp 22) rfl _ (.int .i64 p) rfl (run_load_cell int_flat (HR.out.cell 1))) ?_; go_frame) | (refine wpList_dst 26 rfl ?_; refine wpList_run 26 rfl rfl _ (exec_fieldAddr 46 (.tmp 25) 1 rfl _ _ rfl (fa_lexer_reader_1_0 _ _)) ?_; go_frame) | (refine wpList_store_at rfl 3 (.tmp 26) (.tmp 24) rfl g 1 46 [.string (sb l), .int .i64 p, v] (.int .i64 ((p : Int) + 1)) rfl rfl HR.out (by simp) int_size rfl rfl ?_; intro w7 HR7 ho7; have HT7 := Lib.hid (HT.out.only ho7 HR.out rd_ne); have HK7 := Lib.hid (((Keeps.below HW.out).x g).trans (KeepsX.only ho7)); have HB7 := Lib.hid ((HW.out.mono hbw).trans (ho7.below hg)); clear ho7 HR HT HW HE))
  go_ret
  exact ⟨rfl, ⟨v, HR7.out, HT7.out⟩, HK7.out, HB7.out⟩
set_option maxRecDepth 100000 in
set_option maxHeartbeats 800000 in
theorem blank_10 (g base p : Nat) (l r : List UInt8) (c : UInt8) (v : Value) (T : List TI) (w : World) (hE : Env w) (hR : Blk w g 46 [.string (sb l), .int .i64 p, v]) (hT : Row w base v T) (_hb6 : 6 ≤ base) (hg : base ≤ g) (hp : p < l.length) (_hl : l.length ≤ 65536) (_hn : T.length ≤ 100000) (hd : l.drop p = c :: r) (hc : c.toNat = 10) :
    Calls Tryd.prog 26 #[.pointer (some ⟨g, 0, none⟩)] w (MetP g base l (p + 1) T w 0) := by
  have hgl : g < w.heap.size := hR.lt
  have hbw : base ≤ w.heap.size := by omega
  have HR := Lib.hid hR
  have HT := Lib.hid hT
  have HE := Lib.hid hE
  have HW := Lib.hid (Below.refl w.heap.size w)
  have HD := Lib.hid hd
  have HC := Lib.hid (show l[p]? = some c by have := congrArg (·[0]?) hd; simpa using this)
  have hrl : r.length + 1 + p = l.length := by have := congrArg List.length hd; rw [List.length_drop, List.length_cons] at this; omega
  clear hR hT hd hE
  have m32 : ((c.toNat : Int) == 32) = false := by rw [beq_eq_false_iff_ne]; omega
  have m9 : ((c.toNat : Int) == 9) = false := by rw [beq_eq_false_iff_ne]; omega
  have m10 : ((c.toNat : Int) == 10) = true := by rw [hc]; rfl
  clear hc
  go_enter Tryd.func26, Tryd.ntmps26
  go_wp2_with fail
  refine late_begin (S := fun _ W => Blk W g 46 [.string (sb l), .int .i64 p, v] ∧ Env W) (by kernel_rfl) ?_
  have hR0 := HR.out.drew
  have hT0 := HT.out.below (Below.refl _ _).drew
  have hE0 := HE.out.next (Below.refl _ _).drew
  have hW0 := HW.out.drew
  generalize w.drew = u0 at hR0 hT0 hE0 hW0 ⊢
  clear HR HT HE HW
  refine late_take [] (i := 0) (some 6) rfl rfl (by first | rfl | kernel_rfl) (by kernel_rfl) (by kernel_rfl) (by kernel_rfl) (by kernel_rfl) (by kernel_rfl) (fun Ls W h => h) (.pointer (some ⟨g, 0, none⟩)) (fun _ _ _ h => h) (fun Ls W hl0 hW => exec_move (.tmp 0) rfl _ rfl) ⟨hR0, hE0⟩ ⟨hR0, hE0⟩ ?_
  go_frame
  refine late_take [] (i := 1) (some 7) rfl rfl (by first | rfl | kernel_rfl) (by kernel_rfl) (by kernel_rfl) (by kernel_rfl) (by kernel_rfl) (by kernel_rfl) (fun Ls W h => h) (.pointer (some ⟨g, 0, none⟩)) (fun _ _ _ h => h) (fun Ls W hl0 hW => exec_nilCheck _ rfl  (some ⟨g, 0, none⟩) rfl) ⟨hR0, hE0⟩ ⟨hR0, hE0⟩ ?_
  go_frame
  refine late_take [] (i := 2) (some 8) rfl rfl (by first | rfl | kernel_rfl) (by kernel_rfl) (by kernel_rfl) (by kernel_rfl) (by kernel_rfl) (by kernel_rfl) (fun Ls W h => h) (.pointer (some ⟨g, 0, none⟩)) (fun _ _ _ h => h) (fun Ls W hl0 hW => exec_fieldAddr 46 (.tmp 7) 0 rfl _ _ rfl (fa_lexer_reader_0_0 _ _)) ⟨hR0, hE0⟩ ⟨hR0, hE0⟩ ?_
  go_frame
  refine late_take [] (i := 3) (some 9) rfl rfl (by first | rfl | kernel_rfl) (by kernel_rfl) (by kernel_rfl) (by kernel_rfl) (by kernel_rfl) (by kernel_rfl) (fun Ls W h => h) (.string (sb l)) (fun _ _ _ h => h) (fun Ls W hl0 hW => exec_load 9 (.tmp 8) rfl _ _ rfl (run_load_cell flat_string (hW.1.cell 0))) ⟨hR0, hE0⟩ ⟨hR0, hE0⟩ ?_
  go_frame
  refine late_take [] (i := 4) (some 10) rfl rfl (by first | rfl | kernel_rfl) (by kernel_rfl) (by kernel_rfl) (by kernel_rfl) (by kernel_rfl) (by kernel_rfl) (fun Ls W h => h) (.pointer (some ⟨g, 0, none⟩)) (fun _ _ _ h => h) (fun Ls W hl0 hW => exec_move (.tmp 0) rfl _ rfl) ⟨hR0, hE0⟩ ⟨hR0, hE0⟩ ?_
  go_frame
  refine late_take [] (i := 5) (some 11) rfl rfl (by first | rfl | kernel_rfl) (by kernel_rfl) (by kernel_rfl) (by kernel_rfl) (by kernel_rfl) (by kernel_rfl) (fun Ls W h => h) (.pointer (some ⟨g, 0, none⟩)) (fun _ _ _ h => h) (fun Ls W hl0 hW => exec_nilCheck _ rfl  (some ⟨g, 0, none⟩) rfl) ⟨hR0, hE0⟩ ⟨hR0, hE0⟩ ?_
  go_frame
  refine late_take [] (i := 6) (some 12) rfl rfl (by first | rfl | kernel_rfl) (by kernel_rfl) (by kernel_rfl) (by kernel_rfl) (by kernel_rfl) (by kernel_rfl) (fun Ls W h => h) (.pointer (some ⟨g, 1, none⟩)) (fun _ _ _ h => h) (fun Ls W hl0 hW => exec_fieldAddr 46 (.tmp 11) 1 rfl _ _ rfl (fa_lexer_reader_1_0 _ _)) ⟨hR0, hE0⟩ ⟨hR0, hE0⟩ ?_
  go_frame
  refine late_take [] (i := 7) (some 13) rfl rfl (by first | rfl | kernel_rfl) (by kernel_rfl) (by kernel_rfl) (by kernel_rfl) (by kernel_rfl) (by kernel_rfl) (fun Ls W h => h) (.int .i64 p) (fun _ _ _ h => h) (fun Ls W hl0 hW => exec_load 3 (.tmp 12) rfl _ _ rfl (run_load_cell flat_int (hW.1.cell 1))) ⟨hR0, hE0⟩ ⟨hR0, hE0⟩ ?_
  go_frame
  refine late_take [] (i := 8) (some 14) rfl rfl (by first | rfl | kernel_rfl) (by kernel_rfl) (by kernel_rfl) (by kernel_rfl) (by kernel_rfl) (by kernel_rfl) (fun Ls W h => h) (.int .u8 c.toNat) (fun _ _ _ h => h) (fun Ls W hl0 hW => exec_index 9 (.tmp 9) (.tmp 13) rfl _ _ (.int .u8 c.toNat) rfl rfl (sb_at (sb l) (k := p) (by rw [sb_list]; exact HC.out) W)) ⟨hR0, hE0⟩ ⟨hR0, hE0⟩ ?_
  refine late_done (by kernel_rfl) ?_ _
  go_frame
  have HR := Lib.hid hR0
  have HT := Lib.hid hT0
  have HE := Lib.hid hE0
  have HW := Lib.hid hW0
  clear hR0 hT0 hE0 hW0
  go_wp2_with (first | (refine wpList_dst 22 rfl ?_; refine wpList_run 22 rfl rfl _ (exec_fieldAddr 46 (.tmp 21) 1 rfl _ _ rfl (fa_lexer_reader_1_0 _ _)) ?_; go_frame) | (refine wpList_dst 23 rfl ?_; refine wpList_run 23 rfl rfl _ (exec_load 3 (.tmp 22) rfl _ (.int .i64 p) rfl (run_load_cell int_flat (HR.out.cell 1))) ?_; go_frame) | (refine wpList_dst 26 rfl ?_; refine wpList_run 26 rfl rfl _ (exec_fieldAddr 46 (.tmp 25) 1 rfl _ _ rfl (fa_lexer_reader_1_0 _ _)) ?_; go_frame) | (refine wpList_store_at rfl 3 (.tmp 26) (.tmp 24) rfl g 1 46 [.string (sb l), .int .i64 p, v] (.int .i64 ((p : Int) + 1)) rfl rfl HR.out (by simp) int_size rfl rfl ?_; intro w7 HR7 ho7; have HT7 := Lib.hid (HT.out.only ho7 HR.out rd_ne); have HK7 := Lib.hid (((Keeps.below HW.out).x g).trans (KeepsX.only ho7)); have HB7 := Lib.hid ((HW.out.mono hbw).trans (ho7.below hg)); clear ho7 HR HT HW HE))
  go_ret
  exact ⟨rfl, ⟨v, HR7.out, HT7.out⟩, HK7.out, HB7.out⟩
set_option maxRecDepth 100000 in
set_option maxHeartbeats 800000 in
theorem blank_13 (g base p : Nat) (l r : List UInt8) (c : UInt8) (v : Value) (T : List TI) (w : World) (hE : Env w) (hR : Blk w g 46 [.string (sb l), .int .i64 p, v]) (hT : Row w base v T) (_hb6 : 6 ≤ base) (hg : base ≤ g) (hp : p < l.length) (_hl : l.length ≤ 65536) (_hn : T.length ≤ 100000) (hd : l.drop p = c :: r) (hc : c.toNat = 13) :
    Calls Tryd.prog 26 #[.pointer (some ⟨g, 0, none⟩)] w (MetP g base l (p + 1) T w 0) := by
  have hgl : g < w.heap.size := hR.lt
  have hbw : base ≤ w.heap.size := by omega
  have HR := Lib.hid hR
  have HT := Lib.hid hT
  have HE := Lib.hid hE
  have HW := Lib.hid (Below.refl w.heap.size w)
  have HD := Lib.hid hd
  have HC := Lib.hid (show l[p]? = some c by have := congrArg (·[0]?) hd; simpa using this)
  have hrl : r.length + 1 + p = l.length := by have := congrArg List.length hd; rw [List.length_drop, List.length_cons] at this; omega
  clear hR hT hd hE
  have m32 : ((c.toNat : Int) == 32) = false := by rw [beq_eq_false_iff_ne]; omega
  have m9 : ((c.toNat : Int) == 9) = false := by rw [beq_eq_false_iff_ne]; omega
  have m10 : ((c.toNat : Int) == 10) = false := by rw [beq_eq_false_iff_ne]; omega
  have m13 : ((c.toNat : Int) == 13) = true := by rw [hc]; rfl
  clear hc
  go_enter Tryd.func26, Tryd.ntmps26
  go_wp2_with fail
  refine late_begin (S := fun _ W => Blk W g 46 [.string (sb l), .int .i64 p, v] ∧ Env W) (by kernel_rfl) ?_
  have hR0 := HR.out.drew
  have hT0 := HT.out.below (Below.refl _ _).drew
  have hE0 := HE.out.next (Below.refl _ _).drew
  have hW0 := HW.out.drew
  generalize w.drew = u0 at hR0 hT0 hE0 hW0 ⊢
  clear HR HT HE HW
  refine late_take [] (i := 0) (some 6) rfl rfl (by first | rfl | kernel_rfl) (by kernel_rfl) (by kernel_rfl) (by kernel_rfl) (by kernel_rfl) (by kernel_rfl) (fun Ls W h => h) (.pointer (some ⟨g, 0, none⟩)) (fun _ _ _ h => h) (fun Ls W hl0 hW => exec_move (.tmp 0) rfl _ rfl) ⟨hR0, hE0⟩ ⟨hR0, hE0⟩ ?_
  go_frame
  refine late_take [] (i := 1) (some 7) rfl rfl (by first | rfl | kernel_rfl) (by kernel_rfl) (by kernel_rfl) (by kernel_rfl) (by kernel_rfl) (by kernel_rfl) (fun Ls W h => h) (.pointer (some ⟨g, 0, none⟩)) (fun _ _ _ h => h) (fun Ls W hl0 hW => exec_nilCheck _ rfl  (some ⟨g, 0, none⟩) rfl) ⟨hR0, hE0⟩ ⟨hR0, hE0⟩ ?_
  go_frame
  refine late_take [] (i := 2) (some 8) rfl rfl (by first | rfl | kernel_rfl) (by kernel_rfl) (by kernel_rfl) (by kernel_rfl) (by kernel_rfl) (by kernel_rfl) (fun Ls W h => h) (.pointer (some ⟨g, 0, none⟩)) (fun _ _ _ h => h) (fun Ls W hl0 hW => exec_fieldAddr 46 (.tmp 7) 0 rfl _ _ rfl (fa_lexer_reader_0_0 _ _)) ⟨hR0, hE0⟩ ⟨hR0, hE0⟩ ?_
  go_frame
  refine late_take [] (i := 3) (some 9) rfl rfl (by first | rfl | kernel_rfl) (by kernel_rfl) (by kernel_rfl) (by kernel_rfl) (by kernel_rfl) (by kernel_rfl) (fun Ls W h => h) (.string (sb l)) (fun _ _ _ h => h) (fun Ls W hl0 hW => exec_load 9 (.tmp 8) rfl _ _ rfl (run_load_cell flat_string (hW.1.cell 0))) ⟨hR0, hE0⟩ ⟨hR0, hE0⟩ ?_
  go_frame
  refine late_take [] (i := 4) (some 10) rfl rfl (by first | rfl | kernel_rfl) (by kernel_rfl) (by kernel_rfl) (by kernel_rfl) (by kernel_rfl) (by kernel_rfl) (fun Ls W h => h) (.pointer (some ⟨g, 0, none⟩)) (fun _ _ _ h => h) (fun Ls W hl0 hW => exec_move (.tmp 0) rfl _ rfl) ⟨hR0, hE0⟩ ⟨hR0, hE0⟩ ?_
  go_frame
  refine late_take [] (i := 5) (some 11) rfl rfl (by first | rfl | kernel_rfl) (by kernel_rfl) (by kernel_rfl) (by kernel_rfl) (by kernel_rfl) (by kernel_rfl) (fun Ls W h => h) (.pointer (some ⟨g, 0, none⟩)) (fun _ _ _ h => h) (fun Ls W hl0 hW => exec_nilCheck _ rfl  (some ⟨g, 0, none⟩) rfl) ⟨hR0, hE0⟩ ⟨hR0, hE0⟩ ?_
  go_frame
  refine late_take [] (i := 6) (some 12) rfl rfl (by first | rfl | kernel_rfl) (by kernel_rfl) (by kernel_rfl) (by kernel_rfl) (by kernel_rfl) (by kernel_rfl) (fun Ls W h => h) (.pointer (some ⟨g, 1, none⟩)) (fun _ _ _ h => h) (fun Ls W hl0 hW => exec_fieldAddr 46 (.tmp 11) 1 rfl _ _ rfl (fa_lexer_reader_1_0 _ _)) ⟨hR0, hE0⟩ ⟨hR0, hE0⟩ ?_
  go_frame
  refine late_take [] (i := 7) (some 13) rfl rfl (by first | rfl | kernel_rfl) (by kernel_rfl) (by kernel_rfl) (by kernel_rfl) (by kernel_rfl) (by kernel_rfl) (fun Ls W h => h) (.int .i64 p) (fun _ _ _ h => h) (fun Ls W hl0 hW => exec_load 3 (.tmp 12) rfl _ _ rfl (run_load_cell flat_int (hW.1.cell 1))) ⟨hR0, hE0⟩ ⟨hR0, hE0⟩ ?_
  go_frame
  refine late_take [] (i := 8) (some 14) rfl rfl (by first | rfl | kernel_rfl) (by kernel_rfl) (by kernel_rfl) (by kernel_rfl) (by kernel_rfl) (by kernel_rfl) (fun Ls W h => h) (.int .u8 c.toNat) (fun _ _ _ h => h) (fun Ls W hl0 hW => exec_index 9 (.tmp 9) (.tmp 13) rfl _ _ (.int .u8 c.toNat) rfl rfl (sb_at (sb l) (k := p) (by rw [sb_list]; exact HC.out) W)) ⟨hR0, hE0⟩ ⟨hR0, hE0⟩ ?_
  refine late_done (by kernel_rfl) ?_ _
  go_frame
  have HR := Lib.hid hR0
  have HT := Lib.hid hT0
  have HE := Lib.hid hE0
  have HW := Lib.hid hW0
  clear hR0 hT0 hE0 hW0
  go_wp2_with (first | (refine wpList_dst 22 rfl ?_; refine wpList_run 22 rfl rfl _ (exec_fieldAddr 46 (.tmp 21) 1 rfl _ _ rfl (fa_lexer_reader_1_0 _ _)) ?_; go_frame) | (refine wpList_dst 23 rfl ?_; refine wpList_run 23 rfl rfl _ (exec_load 3 (.tmp 22) rfl _ (.int .i64 p) rfl (run_load_cell int_flat (HR.out.cell 1))) ?_; go_frame) | (refine wpList_dst 26 rfl ?_; refine wpList_run 26 rfl rfl _ (exec_fieldAddr 46 (.tmp 25) 1 rfl _ _ rfl (fa_lexer_reader_1_0 _ _)) ?_; go_frame) | (refine wpList_store_at rfl 3 (.tmp 26) (.tmp 24) rfl g 1 46 [.string (sb l), .int .i64 p, v] (.int .i64 ((p : Int) + 1)) rfl rfl HR.out (by simp) int_size rfl rfl ?_; intro w7 HR7 ho7; have HT7 := Lib.hid (HT.out.only ho7 HR.out rd_ne); have HK7 := Lib.hid (((Keeps.below HW.out).x g).trans (KeepsX.only ho7)); have HB7 := Lib.hid ((HW.out.mono hbw).trans (ho7.below hg)); clear ho7 HR HT HW HE))
  go_ret
  exact ⟨rfl, ⟨v, HR7.out, HT7.out⟩, HK7.out, HB7.out⟩
set_option maxRecDepth 100000 in
set_option maxHeartbeats 800000 in
theorem blank_no (g base p : Nat) (l r : List UInt8) (c : UInt8) (v : Value) (T : List TI) (w : World) (hE : Env w) (hR : Blk w g 46 [.string (sb l), .int .i64 p, v]) (hT : Row w base v T) (_hb6 : 6 ≤ base) (hg : base ≤ g) (hp : p < l.length) (_hl : l.length ≤ 65536) (_hn : T.length ≤ 100000) (hd : l.drop p = c :: r) (hc : c.toNat ≠ 32 ∧ c.toNat ≠ 9 ∧ c.toNat ≠ 10 ∧ c.toNat ≠ 13 ∧ c.toNat ≠ 35) :
    Calls Tryd.prog 26 #[.pointer (some ⟨g, 0, none⟩)] w (MetP g base l p T w 8) := by
  have hgl : g < w.heap.size := hR.lt
  have hbw : base ≤ w.heap.size := by omega
  have HR := Lib.hid hR
  have HT := Lib.hid hT
  have HE := Lib.hid hE
  have HW := Lib.hid (Below.refl w.heap.size w)
  have HD := Lib.hid hd
  have HC := Lib.hid (show l[p]? = some c by have := congrArg (·[0]?) hd; simpa using this)
  have hrl : r.length + 1 + p = l.length := by have := congrArg List.length hd; rw [List.length_drop, List.length_cons] at this; omega
  clear hR hT hd hE
  have m32 : ((c.toNat : Int) == 32) = false := by rw [beq_eq_false_iff_ne]; omega
  have m9 : ((c.toNat : Int) == 9) = false := by rw [beq_eq_false_iff_ne]; omega
  have m10 : ((c.toNat : Int) == 10) = false := by rw [beq_eq_false_iff_ne]; omega
  have m13 : ((c.toNat : Int) == 13) = false := by rw [beq_eq_false_iff_ne]; omega
  have m35 : ((c.toNat : Int) == 35) = false := by rw [beq_eq_false_iff_ne]; omega
  clear hc
  go_enter Tryd.func26, Tryd.ntmps26
  go_wp2_with fail
  refine late_begin (S := fun _ W => Blk W g 46 [.string (sb l), .int .i64 p, v] ∧ Env W) (by kernel_rfl) ?_
  have hR0 := HR.out.drew
  have hT0 := HT.out.below (Below.refl _ _).drew
  have hE0 := HE.out.next (Below.refl _ _).drew
  have hW0 := HW.out.drew
  generalize w.drew = u0 at hR0 hT0 hE0 hW0 ⊢
  clear HR HT HE HW
  refine late_take [] (i := 0) (some 6) rfl rfl (by first | rfl | kernel_rfl) (by kernel_rfl) (by kernel_rfl) (by kernel_rfl) (by kernel_rfl) (by kernel_rfl) (fun Ls W h => h) (.pointer (some ⟨g, 0, none⟩)) (fun _ _ _ h => h) (fun Ls W hl0 hW => exec_move (.tmp 0) rfl _ rfl) ⟨hR0, hE0⟩ ⟨hR0, hE0⟩ ?_
  go_frame
  refine late_take [] (i := 1) (some 7) rfl rfl (by first | rfl | kernel_rfl) (by kernel_rfl) (by kernel_rfl) (by kernel_rfl) (by kernel_rfl) (by kernel_rfl) (fun Ls W h => h) (.pointer (some ⟨g, 0, none⟩)) (fun _ _ _ h => h) (fun Ls W hl0 hW => exec_nilCheck _ rfl  (some ⟨g, 0, none⟩) rfl) ⟨hR0, hE0⟩ ⟨hR0, hE0⟩ ?_
  go_frame
  refine late_take [] (i := 2) (some 8) rfl rfl (by first | rfl | kernel_rfl) (by kernel_rfl) (by kernel_rfl) (by kernel_rfl) (by kernel_rfl) (by kernel_rfl) (fun Ls W h => h) (.pointer (some ⟨g, 0, none⟩)) (fun _ _ _ h => h) (fun Ls W hl0 hW => exec_fieldAddr 46 (.tmp 7) 0 rfl _ _ rfl (fa_lexer_reader_0_0 _ _)) ⟨hR0, hE0⟩ ⟨hR0, hE0⟩ ?_
  go_frame
  refine late_take [] (i := 3) (some 9) rfl rfl (by first | rfl | kernel_rfl) (by kernel_rfl) (by kernel_rfl) (by kernel_rfl) (by kernel_rfl) (by kernel_rfl) (fun Ls W h => h) (.string (sb l)) (fun _ _ _ h => h) (fun Ls W hl0 hW => exec_load 9 (.tmp 8) rfl _ _ rfl (run_load_cell flat_string (hW.1.cell 0))) ⟨hR0, hE0⟩ ⟨hR0, hE0⟩ ?_
  go_frame
  refine late_take [] (i := 4) (some 10) rfl rfl (by first | rfl | kernel_rfl) (by kernel_rfl) (by kernel_rfl) (by kernel_rfl) (by kernel_rfl) (by kernel_rfl) (fun Ls W h => h) (.pointer (some ⟨g, 0, none⟩)) (fun _ _ _ h => h) (fun Ls W hl0 hW => exec_move (.tmp 0) rfl _ rfl) ⟨hR0, hE0⟩ ⟨hR0, hE0⟩ ?_
  go_frame
  refine late_take [] (i := 5) (some 11) rfl rfl (by first | rfl | kernel_rfl) (by kernel_rfl) (by kernel_rfl) (by kernel_rfl) (by kernel_rfl) (by kernel_rfl) (fun Ls W h => h) (.pointer (some ⟨g, 0, none⟩)) (fun _ _ _ h => h) (fun Ls W hl0 hW => exec_nilCheck _ rfl  (some ⟨g, 0, none⟩) rfl) ⟨hR0, hE0⟩ ⟨hR0, hE0⟩ ?_
  go_frame
  refine late_take [] (i := 6) (some 12) rfl rfl (by first | rfl | kernel_rfl) (by kernel_rfl) (by kernel_rfl) (by kernel_rfl) (by kernel_rfl) (by kernel_rfl) (fun Ls W h => h) (.pointer (some ⟨g, 1, none⟩)) (fun _ _ _ h => h) (fun Ls W hl0 hW => exec_fieldAddr 46 (.tmp 11) 1 rfl _ _ rfl (fa_lexer_reader_1_0 _ _)) ⟨hR0, hE0⟩ ⟨hR0, hE0⟩ ?_
  go_frame
  refine late_take [] (i := 7) (some 13) rfl rfl (by first | rfl | kernel_rfl) (by kernel_rfl) (by kernel_rfl) (by kernel_rfl) (by kernel_rfl) (by kernel_rfl) (fun Ls W h => h) (.int .i64 p) (fun _ _ _ h => h) (fun Ls W hl0 hW => exec_load 3 (.tmp 12) rfl _ _ rfl (run_load_cell flat_int (hW.1.cell 1))) ⟨hR0, hE0⟩ ⟨hR0, hE0⟩ ?_
  go_frame
  refine late_take [] (i := 8) (some 14) rfl rfl (by first | rfl | kernel_rfl) (by kernel_rfl) (by kernel_rfl) (by kernel_rfl) (by kernel_rfl) (by kernel_rfl) (fun Ls W h => h) (.int .u8 c.toNat) (fun _ _ _ h => h) (fun Ls W hl0 hW => exec_index 9 (.tmp 9) (.tmp 13) rfl _ _ (.int .u8 c.toNat) rfl rfl (sb_at (sb l) (k := p) (by rw [sb_list]; exact HC.out) W)) ⟨hR0, hE0⟩ ⟨hR0, hE0⟩ ?_
  refine late_done (by kernel_rfl) ?_ _
  go_frame
  have HR := Lib.hid hR0
  have HT := Lib.hid hT0
  have HE := Lib.hid hE0
  have HW := Lib.hid hW0
  clear hR0 hT0 hE0 hW0
  go_wp2_with fail
  go_ret
  exact ⟨rfl, Rst.same HR.out HT.out HW.out hbw⟩
set_option maxRecDepth 100000 in
set_option maxHeartbeats 800000 in
theorem blank_cmt (g base p : Nat) (l r : List UInt8) (c : UInt8) (v : Value) (T : List TI) (w : World) (hE : Env w) (hR : Blk w g 46 [.string (sb l), .int .i64 p, v]) (hT : Row w base v T) (_hb6 : 6 ≤ base) (hg : base ≤ g) (hp : p < l.length) (_hl : l.length ≤ 65536) (_hn : T.length ≤ 100000) (hd : l.drop p = c :: r) (hc : c.toNat = 35) :
    Calls Tryd.prog 26 #[.pointer (some ⟨g, 0, none⟩)] w (MetP g base l (p + (cmt (c :: r)).length) T w 0) := by
  have hgl : g < w.heap.size := hR.lt
  have hbw : base ≤ w.heap.size := by omega
  have HR := Lib.hid hR
  have HT := Lib.hid hT
  have HE := Lib.hid hE
  have HW := Lib.hid (Below.refl w.heap.size w)
  have HD := Lib.hid hd
  have HC := Lib.hid (show l[p]? = some c by have := congrArg (·[0]?) hd; simpa using this)
  have hrl : r.length + 1 + p = l.length := by have := congrArg List.length hd; rw [List.length_drop, List.length_cons] at this; omega
  clear hR hT hd hE
  have m32 : ((c.toNat : Int) == 32) = false := by rw [beq_eq_false_iff_ne]; omega
  have m9 : ((c.toNat : Int) == 9) = false := by rw [beq_eq_false_iff_ne]; omega
  have m10 : ((c.toNat : Int) == 10) = false := by rw [beq_eq_false_iff_ne]; omega
  have m13 : ((c.toNat : Int) == 13) = false := by rw [beq_eq_false_iff_ne]; omega
  have m35 : ((c.toNat : Int) == 35) = true := by rw [hc]; rfl
  clear hc
  have hcl : (cmt (c :: r)).length ≤ 65536 := by have := tw_le nlf (c :: r); simp only [List.length_cons] at this; unfold cmt; omega
  have hcz : (sb (cmt (c :: r))).size = (cmt (c :: r)).length := sb_size _
  go_enter Tryd.func26, Tryd.ntmps26
  go_wp2_with fail
  refine late_begin (S := fun _ W => Blk W g 46 [.string (sb l), .int .i64 p, v] ∧ Env W) (by kernel_rfl) ?_
  have hR0 := HR.out.drew
  have hT0 := HT.out.below (Below.refl _ _).drew
  have hE0 := HE.out.next (Below.refl _ _).drew
  have hW0 := HW.out.drew
  generalize w.drew = u0 at hR0 hT0 hE0 hW0 ⊢
  clear HR HT HE HW
  refine late_take [] (i := 0) (some 6) rfl rfl (by first | rfl | kernel_rfl) (by kernel_rfl) (by kernel_rfl) (by kernel_rfl) (by kernel_rfl) (by kernel_rfl) (fun Ls W h => h) (.pointer (some ⟨g, 0, none⟩)) (fun _ _ _ h => h) (fun Ls W hl0 hW => exec_move (.tmp 0) rfl _ rfl) ⟨hR0, hE0⟩ ⟨hR0, hE0⟩ ?_
  go_frame
  refine late_take [] (i := 1) (some 7) rfl rfl (by first | rfl | kernel_rfl) (by kernel_rfl) (by kernel_rfl) (by kernel_rfl) (by kernel_rfl) (by kernel_rfl) (fun Ls W h => h) (.pointer (some ⟨g, 0, none⟩)) (fun _ _ _ h => h) (fun Ls W hl0 hW => exec_nilCheck _ rfl  (some ⟨g, 0, none⟩) rfl) ⟨hR0, hE0⟩ ⟨hR0, hE0⟩ ?_
  go_frame
  refine late_take [] (i := 2) (some 8) rfl rfl (by first | rfl | kernel_rfl) (by kernel_rfl) (by kernel_rfl) (by kernel_rfl) (by kernel_rfl) (by kernel_rfl) (fun Ls W h => h) (.pointer (some ⟨g, 0, none⟩)) (fun _ _ _ h => h) (fun Ls W hl0 hW => exec_fieldAddr 46 (.tmp 7) 0 rfl _ _ rfl (fa_lexer_reader_0_0 _ _)) ⟨hR0, hE0⟩ ⟨hR0, hE0⟩ ?_
  go_frame
  refine late_take [] (i := 3) (some 9) rfl rfl (by first | rfl | kernel_rfl) (by kernel_rfl) (by kernel_rfl) (by kernel_rfl) (by kernel_rfl) (by kernel_rfl) (fun Ls W h => h) (.string (sb l)) (fun _ _ _ h => h) (fun Ls W hl0 hW => exec_load 9 (.tmp 8) rfl _ _ rfl (run_load_cell flat_string (hW.1.cell 0))) ⟨hR0, hE0⟩ ⟨hR0, hE0⟩ ?_
  go_frame
  refine late_take [] (i := 4) (some 10) rfl rfl (by first | rfl | kernel_rfl) (by kernel_rfl) (by kernel_rfl) (by kernel_rfl) (by kernel_rfl) (by kernel_rfl) (fun Ls W h => h) (.pointer (some ⟨g, 0, none⟩)) (fun _ _ _ h => h) (fun Ls W hl0 hW => exec_move (.tmp 0) rfl _ rfl) ⟨hR0, hE0⟩ ⟨hR0, hE0⟩ ?_
  go_frame
  refine late_take [] (i := 5) (some 11) rfl rfl (by first | rfl | kernel_rfl) (by kernel_rfl) (by kernel_rfl) (by kernel_rfl) (by kernel_rfl) (by kernel_rfl) (fun Ls W h => h) (.pointer (some ⟨g, 0, none⟩)) (fun _ _ _ h => h) (fun Ls W hl0 hW => exec_nilCheck _ rfl  (some ⟨g, 0, none⟩) rfl) ⟨hR0, hE0⟩ ⟨hR0, hE0⟩ ?_
  go_frame
  refine late_take [] (i := 6) (some 12) rfl rfl (by first | rfl | kernel_rfl) (by kernel_rfl) (by kernel_rfl) (by kernel_rfl) (by kernel_rfl) (by kernel_rfl) (fun Ls W h => h) (.pointer (some ⟨g, 1, none⟩)) (fun _ _ _ h => h) (fun Ls W hl0 hW => exec_fieldAddr 46 (.tmp 11) 1 rfl _ _ rfl (fa_lexer_reader_1_0 _ _)) ⟨hR0, hE0⟩ ⟨hR0, hE0⟩ ?_
  go_frame
  refine late_take [] (i := 7) (some 13) rfl rfl (by first | rfl | kernel_rfl) (by kernel_rfl) (by kernel_rfl) (by kernel_rfl) (by kernel_rfl) (by kernel_rfl) (fun Ls W h => h) (.int .i64 p) (fun _ _ _ h => h) (fun Ls W hl0 hW => exec_load 3 (.tmp 12) rfl _ _ rfl (run_load_cell flat_int (hW.1.cell 1))) ⟨hR0, hE0⟩ ⟨hR0, hE0⟩ ?_
  go_frame
  refine late_take [] (i := 8) (some 14) rfl rfl (by first | rfl | kernel_rfl) (by kernel_rfl) (by kernel_rfl) (by kernel_rfl) (by kernel_rfl) (by kernel_rfl) (fun Ls W h => h) (.int .u8 c.toNat) (fun _ _ _ h => h) (fun Ls W hl0 hW => exec_index 9 (.tmp 9) (.tmp 13) rfl _ _ (.int .u8 c.toNat) rfl rfl (sb_at (sb l) (k := p) (by rw [sb_list]; exact HC.out) W)) ⟨hR0, hE0⟩ ⟨hR0, hE0⟩ ?_
  refine late_done (by kernel_rfl) ?_ _
  go_frame
  have HR := Lib.hid hR0
  have HT := Lib.hid hT0
  have HE := Lib.hid hE0
  have HW := Lib.hid hW0
  clear hR0 hT0 hE0 hW0
  go_wp2_with fail
  obtain ⟨x1, y1, HCU⟩ : ∃ x y : Value, Hid (∀ W, Env W → Calls Tryd.prog 45 #[.string (sb (c :: r)), .string ⟨#[10]⟩] W fun e w' => e = .returned (.tuple #[.string (sb (cmt (c :: r))), x, y]) ∧ Below W.heap.size W w') := ⟨_, _, Lib.hid fun W hE => cut_any (c :: r) (by simp only [List.length_cons]; omega) W hE⟩
  refine late_begin (S := fun _ W => Blk W g 46 [.string (sb l), .int .i64 p, v] ∧ Env W) (by kernel_rfl) ?_
  have hR0 := HR.out.drew
  have hT0 := HT.out.below (Below.refl _ _).drew
  have hE0 := HE.out.next (Below.refl _ _).drew
  have hW0 := HW.out.drew
  generalize u0.drew = u0 at hR0 hT0 hE0 hW0 ⊢
  clear HR HT HE HW
  refine late_take [] (i := 0) (some 30) rfl rfl (by first | rfl | kernel_rfl) (by kernel_rfl) (by kernel_rfl) (by kernel_rfl) (by kernel_rfl) (by kernel_rfl) (fun Ls W h => h) (.pointer (some ⟨g, 0, none⟩)) (fun _ _ _ h => h) (fun Ls W hl0 hW => exec_move (.tmp 0) rfl _ rfl) ⟨hR0, hE0⟩ ⟨hR0, hE0⟩ ?_
  go_frame
  refine late_take [] (i := 1) (some 31) rfl rfl (by first | rfl | kernel_rfl) (by kernel_rfl) (by kernel_rfl) (by kernel_rfl) (by kernel_rfl) (by kernel_rfl) (fun Ls W h => h) (.pointer (some ⟨g, 0, none⟩)) (fun _ _ _ h => h) (fun Ls W hl0 hW => exec_nilCheck _ rfl  (some ⟨g, 0, none⟩) rfl) ⟨hR0, hE0⟩ ⟨hR0, hE0⟩ ?_
  go_frame
  refine late_take [] (i := 2) (some 32) rfl rfl (by first | rfl | kernel_rfl) (by kernel_rfl) (by kernel_rfl) (by kernel_rfl) (by kernel_rfl) (by kernel_rfl) (fun Ls W h => h) (.pointer (some ⟨g, 0, none⟩)) (fun _ _ _ h => h) (fun Ls W hl0 hW => exec_fieldAddr 46 (.tmp 31) 0 rfl _ _ rfl (fa_lexer_reader_0_0 _ _)) ⟨hR0, hE0⟩ ⟨hR0, hE0⟩ ?_
  go_frame
  refine late_take [] (i := 3) (some 33) rfl rfl (by first | rfl | kernel_rfl) (by kernel_rfl) (by kernel_rfl) (by kernel_rfl) (by kernel_rfl) (by kernel_rfl) (fun Ls W h => h) (.string (sb l)) (fun _ _ _ h => h) (fun Ls W hl0 hW => exec_load 9 (.tmp 32) rfl _ _ rfl (run_load_cell flat_string (hW.1.cell 0))) ⟨hR0, hE0⟩ ⟨hR0, hE0⟩ ?_
  go_frame
  refine late_take [] (i := 4) (some 34) rfl rfl (by first | rfl | kernel_rfl) (by kernel_rfl) (by kernel_rfl) (by kernel_rfl) (by kernel_rfl) (by kernel_rfl) (fun Ls W h => h) (.pointer (some ⟨g, 0, none⟩)) (fun _ _ _ h => h) (fun Ls W hl0 hW => exec_move (.tmp 0) rfl _ rfl) ⟨hR0, hE0⟩ ⟨hR0, hE0⟩ ?_
  go_frame
  refine late_take [] (i := 5) (some 35) rfl rfl (by first | rfl | kernel_rfl) (by kernel_rfl) (by kernel_rfl) (by kernel_rfl) (by kernel_rfl) (by kernel_rfl) (fun Ls W h => h) (.pointer (some ⟨g, 0, none⟩)) (fun _ _ _ h => h) (fun Ls W hl0 hW => exec_nilCheck _ rfl  (some ⟨g, 0, none⟩) rfl) ⟨hR0, hE0⟩ ⟨hR0, hE0⟩ ?_
  go_frame
  refine late_take [] (i := 6) (some 36) rfl rfl (by first | rfl | kernel_rfl) (by kernel_rfl) (by kernel_rfl) (by kernel_rfl) (by kernel_rfl) (by kernel_rfl) (fun Ls W h => h) (.pointer (some ⟨g, 1, none⟩)) (fun _ _ _ h => h) (fun Ls W hl0 hW => exec_fieldAddr 46 (.tmp 35) 1 rfl _ _ rfl (fa_lexer_reader_1_0 _ _)) ⟨hR0, hE0⟩ ⟨hR0, hE0⟩ ?_
  go_frame
  refine late_take [] (i := 7) (some 37) rfl rfl (by first | rfl | kernel_rfl) (by kernel_rfl) (by kernel_rfl) (by kernel_rfl) (by kernel_rfl) (by kernel_rfl) (fun Ls W h => h) (.int .i64 p) (fun _ _ _ h => h) (fun Ls W hl0 hW => exec_load 3 (.tmp 36) rfl _ _ rfl (run_load_cell flat_int (hW.1.cell 1))) ⟨hR0, hE0⟩ ⟨hR0, hE0⟩ ?_
  go_frame
  refine late_take [] (i := 8) (some 38) rfl rfl (by first | rfl | kernel_rfl) (by kernel_rfl) (by kernel_rfl) (by kernel_rfl) (by kernel_rfl) (by kernel_rfl) (fun Ls W h => h) (.string (sb (c :: r))) (fun _ _ _ h => h) (fun Ls W hl0 hW => exec_slice_lo 9 (.tmp 33) (.tmp 37) rfl _ _ _ rfl rfl (by rw [← HD.out]; exact run_str_lo W l p (by omega))) ⟨hR0, hE0⟩ ⟨hR0, hE0⟩ ?_
  go_frame
  refine late_one (i := 9) (by kernel_rfl) (op_callG (some 39) rfl rfl (by first | rfl | kernel_rfl) rfl Tryd.func45 (by kernel_rfl) (by kernel_rfl) #[.string (sb (c :: r)), .string ⟨#[10]⟩] rfl (HCU.out u0 hE0) ?_)
  rintro e u1 ⟨rfl, hb⟩
  have hR1 := hR0.next hb
  have hT1 := hT0.below hb
  have hE1 := hE0.next hb
  have hW1 := hW0.trans (hb.mono hW0.size)
  refine ⟨_, rfl, ⟨hR1, hE1⟩, ?_⟩
  go_frame
  clear hR0 hT0 hE0 hW0 hb
  refine late_take [] (i := 10) (some 29) rfl rfl (by first | rfl | kernel_rfl) (by kernel_rfl) (by kernel_rfl) (by kernel_rfl) (by kernel_rfl) (by kernel_rfl) (fun Ls W h => h) (.tuple #[.string (sb (cmt (c :: r))), x1, y1]) (fun _ _ _ h => h) (fun Ls W hl0 hW => exec_move (.tmp 39) rfl _ rfl) ⟨hR1, hE1⟩ ⟨hR1, hE1⟩ ?_
  go_frame
  refine late_take [] (i := 11) (some 40) rfl rfl (by first | rfl | kernel_rfl) (by kernel_rfl) (by kernel_rfl) (by kernel_rfl) (by kernel_rfl) (by kernel_rfl) (fun Ls W h => h) (.string (sb (cmt (c :: r)))) (fun _ _ _ h => h) (fun Ls W hl0 hW => exec_extract (.tmp 29) 0 rfl #[.string (sb (cmt (c :: r))), x1, y1] _ rfl rfl) ⟨hR1, hE1⟩ ⟨hR1, hE1⟩ ?_
  go_frame
  refine late_take [] (i := 12) (some 41) rfl rfl (by first | rfl | kernel_rfl) (by kernel_rfl) (by kernel_rfl) (by kernel_rfl) (by kernel_rfl) (by kernel_rfl) (fun Ls W h => h) (x1) (fun _ _ _ h => h) (fun Ls W hl0 hW => exec_extract (.tmp 29) 1 rfl #[.string (sb (cmt (c :: r))), x1, y1] _ rfl rfl) ⟨hR1, hE1⟩ ⟨hR1, hE1⟩ ?_
  go_frame
  refine late_take [] (i := 13) (some 42) rfl rfl (by first | rfl | kernel_rfl) (by kernel_rfl) (by kernel_rfl) (by kernel_rfl) (by kernel_rfl) (by kernel_rfl) (fun Ls W h => h) (y1) (fun _ _ _ h => h) (fun Ls W hl0 hW => exec_extract (.tmp 29) 2 rfl #[.string (sb (cmt (c :: r))), x1, y1] _ rfl rfl) ⟨hR1, hE1⟩ ⟨hR1, hE1⟩ ?_
  go_frame
  refine late_take [] (i := 14) (some 3) rfl rfl (by first | rfl | kernel_rfl) (by kernel_rfl) (by kernel_rfl) (by kernel_rfl) (by kernel_rfl) (by kernel_rfl) (fun Ls W h => h) (.string (sb (cmt (c :: r)))) (fun _ _ _ h => h) (fun Ls W hl0 hW => exec_assign (.tmp 40) rfl _ rfl) ⟨hR1, hE1⟩ ⟨hR1, hE1⟩ ?_
  go_frame
  refine late_take [] (i := 15) (some 4) rfl rfl (by first | rfl | kernel_rfl) (by kernel_rfl) (by kernel_rfl) (by kernel_rfl) (by kernel_rfl) (by kernel_rfl) (fun Ls W h => h) (x1) (fun _ _ _ h => h) (fun Ls W hl0 hW => exec_assign (.tmp 41) rfl _ rfl) ⟨hR1, hE1⟩ ⟨hR1, hE1⟩ ?_
  go_frame
  refine late_take [] (i := 16) (some 5) rfl rfl (by first | rfl | kernel_rfl) (by kernel_rfl) (by kernel_rfl) (by kernel_rfl) (by kernel_rfl) (by kernel_rfl) (fun Ls W h => h) (y1) (fun _ _ _ h => h) (fun Ls W hl0 hW => exec_assign (.tmp 42) rfl _ rfl) ⟨hR1, hE1⟩ ⟨hR1, hE1⟩ ?_
  refine late_done (by kernel_rfl) ?_ _
  go_frame
  have HR := Lib.hid hR1
  have HT := Lib.hid hT1
  have HE := Lib.hid hE1
  have HW := Lib.hid hW1
  clear hR1 hT1 hE1 hW1
  go_wp2_with (first | (refine wpList_dst 45 rfl ?_; refine wpList_run 45 rfl rfl _ (exec_fieldAddr 46 (.tmp 44) 1 rfl _ _ rfl (fa_lexer_reader_1_0 _ _)) ?_; go_frame) | (refine wpList_dst 46 rfl ?_; refine wpList_run 46 rfl rfl _ (exec_load 3 (.tmp 45) rfl _ (.int .i64 p) rfl (run_load_cell int_flat (HR.out.cell 1))) ?_; go_frame) | (refine wpList_dst 51 rfl ?_; refine wpList_run 51 rfl rfl _ (exec_fieldAddr 46 (.tmp 50) 1 rfl _ _ rfl (fa_lexer_reader_1_0 _ _)) ?_; go_frame) | (refine wpList_store_at rfl 3 (.tmp 51) (.tmp 49) rfl g 1 46 [.string (sb l), .int .i64 p, v] (.int .i64 ((p : Int) + (cmt (c :: r)).length)) rfl rfl HR.out (by simp) int_size rfl rfl ?_; intro w7 HR7 ho7; have HT7 := Lib.hid (HT.out.only ho7 HR.out rd_ne); have HK7 := Lib.hid (((Keeps.below HW.out).x g).trans (KeepsX.only ho7)); have HB7 := Lib.hid ((HW.out.mono hbw).trans (ho7.below hg)); clear ho7 HR HT HW HE))
  go_ret
  exact ⟨rfl, ⟨v, HR7.out, HT7.out⟩, HK7.out, HB7.out⟩
end Go.Proofs.YtggjgikpiljoiaaDoor
