/- Tokens of a source. -/
import Derived.Test.YtggjgikpiljoiaaDoorL13
namespace Go.Proofs.YtggjgikpiljoiaaDoor
open Go.RowKit Hm Wm Lx

set_option maxRecDepth 100000 in
set_option maxHeartbeats 2000000 in
theorem tokens_ok (l : List UInt8) (w : World) (hl : l.length ≤ 65536) (hE : Env w) : Calls Tryd.prog 9 #[.string (sb l)] w (TokP w (lex l 0)) := by
  have hz : (sb l).size = l.length := sb_size l
  have h1 : decide ((65536 : Int) < ((sb l).size : Int)) = false := decide_eq_false (by rw [hz]; omega)
  have hsz := hE.sz
  have HE := Lib.hid hE
  have HZ := Lib.hid hz
  clear hz hE
  go_enter Tryd.func9, Tryd.ntmps9
  go_wp2_with (first | (refine wpList_new rfl 26 rfl [.int .i64 0, .int .i64 0] pb_zero ?_; intro w1 HP HW; have HWs := Lib.hid HP.out.lt) | (refine wpList_dst 12 rfl ?_; refine wpList_run 12 rfl rfl _ (exec_buildF 46 #[(0, .tmp 11)] rfl #[(0, .string (sb l))] rfl _ (build_rd _ _)) ?_; go_frame) | (refine wpList_var rfl rfl 46 4 rfl rfl rfl (.tmp 12) rfl [.string ByteArray.empty, .int .i64 0, .slice none 0 0] [.string (sb l), .int .i64 0, .slice none 0 0] rd_zero rfl rfl rfl rd_size (List.forall_mem_cons.2 ⟨rfl, (List.forall_mem_cons.2 ⟨rfl, (List.forall_mem_cons.2 ⟨rfl, fun _ h => nomatch h⟩)⟩)⟩) ?_; intro w2 HR HBw; replace HP := Lib.hid (HP.out.next HBw.out); replace HW := Lib.hid (HW.out.trans (HBw.out.mono HW.out.size))))
  have hPl := HP.out.lt
  have hgl := HR.out.lt
  obtain ⟨g, hg⟩ : ∃ g, g = w1.heap.size := ⟨_, rfl⟩
  obtain ⟨K, hK⟩ : ∃ K, K = w2.heap.size := ⟨_, rfl⟩
  have hBg : w.heap.size < g := by rw [hg]; exact HWs.out
  have hgK : g < K := by rw [hg, hK]; exact hgl
  have hit0 := World.iter_heap w2 (sb l) 0
  have hbi : Below w2.heap.size w2 (w2.iter (sb l) 0) := (Below.refl _ _).alloc (Nat.le_refl _) _
  rw [← hg] at HR
  have HP0 := Lib.hid (HP.out.next hbi)
  have HR0 := Lib.hid (HR.out.next hbi)
  have HW0 := Lib.hid (HW.out.trans (hbi.mono HW.out.size))
  rw [← hK] at hit0
  simp only [← hg, ← hK]
  have HIT := Lib.hid hit0
  clear hPl hgl hg hbi hit0 HP HR HW HWs HBw h1
  go_loopw [5] (fun _ wr => ∃ (pos p : Nat) (T : List Tok) (v : Value), Hid (wr.heap[K]? = some (.stringIter (sb l) pos)) ∧ Hid (Blk wr w.heap.size 26 [.int .i64 0, .int .i64 0]) ∧ Hid (Blk wr g 46 [.string (sb l), .int .i64 p, v]) ∧ Hid (Row wr w.heap.size v (T.map toT)) ∧ Hid (Below w.heap.size w wr) ∧ pos ≤ p ∧ p ≤ l.length ∧ T.length ≤ p ∧ Hid (p = 0 ∨ Bnd l p) ∧ Hid (lex l 0 = (lex (l.drop p) p).app T)) (fun _ wr => l.length - wr.iterPos K)
  case atStart => exact ⟨0, 0, [], .slice none 0 0, HIT, HP0, HR0, Lib.hid (Row.nil _ _), HW0, Nat.le_refl _, Nat.zero_le _, Nat.le_refl _, Lib.hid (.inl rfl), Lib.hid (by rw [app_nil]; rfl)⟩
  case round =>
    obtain ⟨pos, p, T, v, HI, HP, HR, HT, HW, hpp, hpl, hTp, HBN, HLX⟩ := hrel
    clear HIT HP0 HR0 HW0 hK
    by_cases hpos : pos < l.length
    · have hnx : ∀ ty, (Instr.next (.pointer (some ⟨K, 0, none⟩)) true ty).run Tryd.prog wr = _ := fun ty => Lib.run_next_any_at wr K (sb l) pos ty HI.out (by rw [HZ.out]; exact hpos)
      obtain ⟨ho1, hit1⟩ := iter_only (pos + (Utf8.decode (sb l) pos).2) HI.out
      have HR1 := Lib.hid (ho1.blk HR.out (show g ≠ K by omega))
      have HP1 := Lib.hid (ho1.blk HP.out (show w.heap.size ≠ K by omega))
      have HT1 := Lib.hid (HT.out.iter ho1 HI.out)
      have HW1 := Lib.hid (HW.out.trans (ho1.below (by omega)))
      have HI1 := Lib.hid hit1
      have hip := iterPos_of' HI.out
      clear ho1 hit1
      generalize hWW : wr.iterAt K (sb l) (pos + (Utf8.decode (sb l) pos).2) = W1 at hnx HR1 HP1 HT1 HW1 HI1
      generalize (Utf8.decode (sb l) pos).1 = rn at hnx
      have hrin : ∀ b, b ≤ l.length → pos < b → Bnd l b → 1 ≤ (Utf8.decode (sb l) pos).2 ∧ pos + (Utf8.decode (sb l) pos).2 ≤ b := fun b h1 h2 h3 => rune_in h1 h2 h3
      generalize (Utf8.decode (sb l) pos).2 = wd at HI1 hrin
      clear hWW HI HP HR HT HW
      by_cases hlt : pos < p
      · have hr := hrin p hpl hlt (HBN.out.resolve_left (by omega))
        have h1 : decide ((pos : Int) < (p : Int)) = true := decide_eq_true (by omega)
        have h1n : decide (pos < p) = true := decide_eq_true hlt
        have HIP := Lib.hid hip
        clear hrin hip
        go_wp2_with (first | (refine wpList_dst 19 rfl ?_; refine wpList_run 19 rfl rfl _ (exec_fieldAddr 46 (.tmp 4) 1 rfl _ _ rfl (fa_lexer_reader_1_0 _ _)) ?_; go_frame) | (refine wpList_dst 20 rfl ?_; refine wpList_run 20 rfl rfl _ (exec_load 3 (.tmp 19) rfl _ (.int .i64 p) rfl (run_load_cell int_flat (HR1.out.cell 1))) ?_; go_frame))
        go_roundw
        case rel => exact ⟨pos + wd, p, T, v, HI1, HP1, HR1, HT1, HW1, hr.2, hpl, hTp, HBN, HLX⟩
        case measure => rw [iterPos_of' HI1.out, HIP.out]; omega
      · obtain rfl : pos = p := by omega
        have h1 : decide ((pos : Int) < (pos : Int)) = false := decide_eq_false (by omega)
        obtain ⟨c, r, hd⟩ := lex_go hpos
        have hE1 := HE.out.low HW1.out hsz
        have hnext := next_any g w.heap.size pos l r c v (T.map toT) W1 hE1 HR1.out HT1.out hsz (by omega) hpos hl (by rw [List.length_map]; omega) hd
        have hfl : (Lx.step (c :: r)).fine = true → 0 < (Lx.step (c :: r)).len ∧ pos + (Lx.step (c :: r)).len ≤ l.length ∧ Bnd l (pos + (Lx.step (c :: r)).len) := fun hf => by
          have e1 := step_len (c :: r) hf
          have e2 := congrArg List.length hd
          rw [List.length_drop] at e2
          exact ⟨e1.1, by omega, bnd_add (by rw [hd]; exact step_bnd hf) hpl⟩
        have HD := Lib.hid hd
        have HIP := Lib.hid hip
        clear hd hE1 hip
        cases hq : Lx.step (c :: r) with
        | skip n =>
          rw [hq] at hnext hfl
          obtain ⟨f1, f2, f3⟩ := hfl rfl
          simp only [St.len] at f1 f2 f3
          have hr := hrin (pos + n) f2 (by omega) f3
          have HNX := Lib.hid hnext
          have HQ := Lib.hid hq
          have HF3 := Lib.hid (show pos + n = 0 ∨ Bnd l (pos + n) from .inr f3)
          clear hnext hq hrin hfl f3
          go_wp2_with (first | (refine wpList_dst 19 rfl ?_; refine wpList_run 19 rfl rfl _ (exec_fieldAddr 46 (.tmp 4) 1 rfl _ _ rfl (fa_lexer_reader_1_0 _ _)) ?_; go_frame) | (refine wpList_dst 20 rfl ?_; refine wpList_run 20 rfl rfl _ (exec_load 3 (.tmp 19) rfl _ (.int .i64 pos) rfl (run_load_cell int_flat (HR1.out.cell 1))) ?_; go_frame) | (refine HNX.out.mono ?_; rintro e w5 ⟨rfl, hst⟩; have HST := Lib.hid hst; clear hst))
          go_roundw
          case rel =>
            obtain ⟨⟨v', hR', hT'⟩, hK', hB'⟩ := HST.out
            exact ⟨pos + wd, pos + n, T, v', Lib.hid (hK'.iter HI1.out (by omega)), Lib.hid (hK'.blk HP1.out (.inl pb_ne) (by omega)), Lib.hid hR', Lib.hid hT', Lib.hid (HW1.out.trans hB'), hr.2, f2, by omega, HF3, Lib.hid (by rw [HLX.out, HD.out, lex_skip pos HQ.out, ← HD.out, List.drop_drop])⟩
          case measure =>
            obtain ⟨_, hK', _⟩ := HST.out
            rw [iterPos_of' (hK'.iter HI1.out (by omega)), HIP.out]; omega
        | tok k s z n =>
          rw [hq] at hnext hfl
          obtain ⟨f1, f2, f3⟩ := hfl rfl
          simp only [St.len] at f1 f2 f3
          have hr := hrin (pos + n) f2 (by omega) f3
          have HNX := Lib.hid hnext
          have HQ := Lib.hid hq
          have HF3 := Lib.hid (show pos + n = 0 ∨ Bnd l (pos + n) from .inr f3)
          clear hnext hq hrin hfl f3
          go_wp2_with (first | (refine wpList_dst 19 rfl ?_; refine wpList_run 19 rfl rfl _ (exec_fieldAddr 46 (.tmp 4) 1 rfl _ _ rfl (fa_lexer_reader_1_0 _ _)) ?_; go_frame) | (refine wpList_dst 20 rfl ?_; refine wpList_run 20 rfl rfl _ (exec_load 3 (.tmp 19) rfl _ (.int .i64 pos) rfl (run_load_cell int_flat (HR1.out.cell 1))) ?_; go_frame) | (refine HNX.out.mono ?_; rintro e w5 ⟨rfl, hst⟩; have HST := Lib.hid hst; clear hst))
          go_roundw
          case rel =>
            obtain ⟨⟨v', hR', hT'⟩, hK', hB'⟩ := HST.out
            exact ⟨pos + wd, pos + n, T ++ [⟨k, pos, s, z⟩], v', Lib.hid (hK'.iter HI1.out (by omega)), Lib.hid (hK'.blk HP1.out (.inl pb_ne) (by omega)), Lib.hid hR', Lib.hid (by rw [List.map_append]; exact hT'), Lib.hid (HW1.out.trans hB'), hr.2, f2, by rw [List.length_append]; simp; omega, HF3, Lib.hid (by rw [HLX.out, HD.out, lex_tok pos HQ.out, app_app, ← HD.out, List.drop_drop])⟩
          case measure =>
            obtain ⟨_, hK', _⟩ := HST.out
            rw [iterPos_of' (hK'.iter HI1.out (by omega)), HIP.out]; omega
        | bad e =>
          rw [hq] at hnext
          have hc := (step_codes hq).2
          have he : ((e : Int) != 0) = true := by rw [bne_iff_ne]; omega
          have HNX := Lib.hid hnext
          have HQ := Lib.hid hq
          clear hnext hq hrin hfl hc
          go_wp2_with (first | (refine wpList_dst 19 rfl ?_; refine wpList_run 19 rfl rfl _ (exec_fieldAddr 46 (.tmp 4) 1 rfl _ _ rfl (fa_lexer_reader_1_0 _ _)) ?_; go_frame) | (refine wpList_dst 20 rfl ?_; refine wpList_run 20 rfl rfl _ (exec_load 3 (.tmp 19) rfl _ (.int .i64 pos) rfl (run_load_cell int_flat (HR1.out.cell 1))) ?_; go_frame) | (refine HNX.out.mono ?_; rintro e w5 ⟨rfl, hst⟩; have HST := Lib.hid hst; have HP5 := Lib.hid (hst.2.1.blk HP1.out (.inl pb_ne) (show w.heap.size ≠ g by omega)); clear hst) | (refine wpList_dst 27 rfl ?_; refine wpList_run 27 rfl rfl _ (exec_buildF 26 #[(0, .tmp 25), (1, .tmp 26)] rfl #[(0, .int .i64 pos), (1, .int .i64 e)] rfl _ (build_pb pos e _)) ?_; go_frame) | (refine wpList_store_all rfl 26 (.tmp 3) (.tmp 27) rfl w.heap.size 26 [.int .i64 0, .int .i64 0] [.int .i64 pos, .int .i64 e] rfl rfl HP5.out rfl pb_size (List.forall_mem_cons.2 ⟨rfl, (List.forall_mem_cons.2 ⟨rfl, fun _ h => nomatch h⟩)⟩) ?_; intro w8 HP8 ho8; have HO8 := Lib.hid ho8; clear ho8))
          rw [HLX.out, HD.out, lex_bad pos HQ.out]
          exact bodyPost_ret (results_tc rfl _ _ w.heap.size _ [.int .i64 pos, .int .i64 e] (.slice none 0 0) _ rfl rfl HP8.out Tryd.underlying26 rfl pb_size) rfl ⟨rfl, (HW1.out.trans HST.out.2.2).trans (HO8.out.below (Nat.le_refl _))⟩
    · obtain rfl : p = l.length := by omega
      have hnx : ∀ ty, (Instr.next (.pointer (some ⟨K, 0, none⟩)) true ty).run Tryd.prog wr = _ := fun ty => Lib.run_next_end_at wr K (sb l) pos ty HI.out (by rw [HZ.out]; exact hpos)
      go_wp2_with (first | (refine wpList_dst 28 rfl ?_; refine wpList_run 28 rfl rfl _ (exec_buildF 33 #[(0, .const (.int .i64 5))] rfl #[(0, .int .i64 5)] rfl _ (build_te 5 _)) ?_; go_frame) | (refine (add_any g w.heap.size l.length 0 l v (T.map toT) ⟨5, 0, ByteArray.empty, 0⟩ _ HR.out HT.out (by omega) (by omega) (by omega) (by rw [List.length_map]; omega)).mono ?_; rintro e w5 ⟨rfl, hst⟩; obtain ⟨⟨v5, hR5, hT5⟩, hK5, hB5⟩ := hst; have HR5 := Lib.hid hR5; have HT5 := Lib.hid hT5; have HP5 := Lib.hid (hK5.blk HP.out (.inl pb_ne) (show w.heap.size ≠ g by omega)); have HB5 := Lib.hid (HW.out.trans hB5); clear hR5 hT5 hK5 hB5) | (refine wpList_dst 30 rfl ?_; refine wpList_run 30 rfl rfl _ (exec_fieldAddr 46 (.tmp 4) 2 rfl _ _ rfl (fa_lexer_reader_2_0 _ _)) ?_; go_frame) | (refine wpList_dst 31 rfl ?_; refine wpList_run 31 rfl rfl _ (exec_load 23 (.tmp 30) rfl _ (v5) rfl (run_load_cell flat___api_Token (HR5.out.cell 2))) ?_; go_frame) | (refine wpList_dst 32 rfl ?_; refine wpList_run 32 rfl rfl _ (exec_buildF 26 #[] rfl #[] rfl _ (build_pb0 _)) ?_; go_frame) | (refine wpList_store_all rfl 26 (.tmp 3) (.tmp 32) rfl w.heap.size 26 [.int .i64 0, .int .i64 0] [.int .i64 0, .int .i64 0] rfl rfl HP5.out rfl pb_size (List.forall_mem_cons.2 ⟨rfl, (List.forall_mem_cons.2 ⟨rfl, fun _ h => nomatch h⟩)⟩) ?_; intro w8 HP8 ho8; have HO8 := Lib.hid ho8; clear ho8))
      rw [HLX.out, List.drop_length, lex_nil]
      refine bodyPost_ret (results_tc rfl _ _ w.heap.size _ [.int .i64 0, .int .i64 0] v5 _ rfl rfl HP8.out Tryd.underlying26 rfl pb_size) rfl ⟨v5, rfl, ?_, HB5.out.trans (HO8.out.below (Nat.le_refl _))⟩
      have := HT5.out.only HO8.out HP5.out pb_ne
      rw [List.map_append]
      exact this
end Go.Proofs.YtggjgikpiljoiaaDoor
