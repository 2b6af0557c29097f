/- Contracts of digest, addParts and Of. -/
import Derived.Test.YtoendbdpkkjjkaaDoorHSum
namespace Go.Proofs.YtoendbdpkkjjkaaDoor
open Go.RowKit Hm

theorem run_slice_to (t : TypeId) (n : Nat) (hu : Tryd.prog.underlying t = some (.array n 5)) (W : World) (g : Nat) (k : Nat) (hk : k ≤ n) :
    (Instr.sliceAt t (.pointer (some ⟨g, 0, none⟩)) none (some (.int .i64 k)) none).run Tryd.prog W = .ok (.slice (some ⟨g, 0, none⟩) k n) W := by
  simp [Instr.sliceAt, Instr.sureAddr, run_underlying hu, Instr.sliceBounds, run_sliceBound, (by omega : (k : Int) ≤ n), Addr.add]

set_option maxRecDepth 100000 in
set_option maxHeartbeats 400000 in
theorem digest_any (l : List UInt8) (w : World) (hl : l.length = 32) :
    Calls Tryd.prog 42 #[.agg (bc l).toArray] w fun e w' => e = .returned (.agg (bc (l.take 16)).toArray) ∧ Below w.heap.size w w' := by
  have HB0 := Lib.hid ((Blk.new w 24 (bc l)).alloc (.cells (zb 16).toArray 43))
  have hb1 := Blk.new (w.alloc (.cells (bc l).toArray 24)) 43 (zb 16)
  rw [size_alloc] at hb1
  have HB1 := Lib.hid hb1
  have HBW := Lib.hid (((Below.refl w.heap.size w).alloc (Nat.le_refl _) (.cells (bc l).toArray 24)).alloc (by simp) (.cells (zb 16).toArray 43))
  have hd : (l.take 16).length = 16 := by rw [List.length_take]; omega
  have HD := Lib.hid hd
  have HT : Hid (((bc l).drop 0).take (bc (l.take 16)).length = bc (l.take 16)) := by show _ = _; rw [bc_len, hd, List.drop_zero, ← bc_take]
  have hsl := fun (W : World) => run_slice_to 24 32 a32_under W w.heap.size 16 (by omega)
  have harr := fun (W : World) => run_arrayAt 43 16 5 dg_under W (some ⟨w.heap.size, 0, none⟩) 16 32 (by omega)
  clear hl hd hb1
  go_enter Tryd.func42, Tryd.ntmps42
  go_wp2_with (first | (refine wpList_alloc_zero rfl 43 rfl (zb 16) dg_zero ?_) | (refine wpList_load_part rfl _ (.tmp 4) rfl w.heap.size 0 _ (bc l) (bc (l.take 16)) _ rfl HB0.out HT.out dg_under rfl (by rw [dg_size, bc_len, HD.out]) ?_) | (refine wpList_store_all rfl _ (.tmp 2) (.tmp 5) rfl (w.heap.size + 1) _ (zb 16) (bc (l.take 16)) rfl rfl HB1.out (by rw [bc_len, zb_len, HD.out]) (by rw [dg_size, bc_len, HD.out]) (bc_one _) ?_; intro w3 HB3 ho3))
  exact bodyPost_ret (results_blk rfl _ _ (w.heap.size + 1) _ (bc (l.take 16)) _ rfl HB3.out dg_under rfl (by rw [dg_size, bc_len, HD.out])) rfl ⟨rfl, HBW.out.trans (ho3.below (by omega))⟩

/-- The encodings of parts, one after the other. -/
def encP (ss : List ByteArray) : List UInt8 := ss.flatMap fun s => encB s.data.toList
theorem encP_take (ss : List ByteArray) (k : Nat) (z : ByteArray) (h : ss[k]? = some z) : encP (ss.take k) ++ encB z.data.toList = encP (ss.take (k + 1)) := by
  obtain ⟨h1, h2⟩ := List.getElem?_eq_some_iff.1 h
  unfold encP
  rw [List.take_succ_eq_append_getElem h1, List.flatMap_append, h2]; simp
theorem encP_part (ss : List ByteArray) (k : Nat) : (encP (ss.take k)).length ≤ (encP ss).length := by
  have : encP ss = encP (ss.take k) ++ encP (ss.drop k) := by unfold encP; rw [← List.flatMap_append, List.take_append_drop]
  rw [this, List.length_append]; omega

set_option maxRecDepth 100000 in
set_option maxHeartbeats 2000000 in
theorem addParts_any (cs : List Value) (m : List UInt8) (A : Option Addr) (c : Nat) (ss : List ByteArray) (w : World) (h : Sm cs m) (hg : Glob w) (hr : Rd w A (ss.map Value.string)) (hz : ∀ s ∈ ss, s.size ≤ 1000000) (hl : ss.length ≤ 1000000) (hlen : m.length + (encP ss).length ≤ 1000000000) :
    Calls Tryd.prog 43 #[.agg cs.toArray, .slice A ss.length c] w fun e w' => ∃ cs', Sm cs' (m ++ encP ss) ∧ e = .returned (.agg cs'.toArray) ∧ Below w.heap.size w w' := by
  have hg2 := hg.two
  have HB0 := Lib.hid ((Blk.new w 36 cs).alloc (.cells zs.toArray 36))
  have hb1 := Blk.new (w.alloc (.cells cs.toArray 36)) 36 zs
  rw [size_alloc] at hb1
  have HB1 := Lib.hid hb1
  have HBW := Lib.hid (((Below.refl w.heap.size w).alloc (Nat.le_refl _) (.cells cs.toArray 36)).alloc (by simp) (.cells zs.toArray 36))
  have HS := Lib.hid h
  have HG := Lib.hid hg
  have HR := Lib.hid hr
  have HZ := Lib.hid hz
  have HLEN := Lib.hid hlen
  clear h hg hr hz hlen hb1
  go_enter Tryd.func43, Tryd.ntmps43
  go_wp2_with (first | (refine wpList_alloc_zero rfl 36 rfl zs sm_zero ?_))
  go_loopw [9] (fun i wr => ∃ (k : Nat) (cs1 : List Value), i = .int .i64 k ∧ k ≤ ss.length ∧ Hid (Sm cs1 (m ++ encP (ss.take k))) ∧ Hid (Blk wr w.heap.size 36 cs1) ∧ Hid (Blk wr (w.heap.size + 1) 36 zs) ∧ Hid (Below w.heap.size w wr))
    (fun i _ => ss.length - (intOf i).toNat)
  case atStart => exact ⟨0, cs, rfl, Nat.zero_le _, (by show Sm _ _; rw [show encP (ss.take 0) = [] from rfl, List.append_nil]; exact HS.out), HB0.out, HB1.out, HBW.out⟩
  case round =>
    clear HB0 HB1 HBW HS
    obtain ⟨k, cs1, rfl, hk, HS, H0, H1, HB⟩ := hrel
    by_cases hlt : k < ss.length
    · have bk : (k : Int) < (ss.length : Int) := by omega
      obtain ⟨z, hz⟩ : ∃ z, ss[k]? = some z := ⟨ss[k], List.getElem?_eq_getElem hlt⟩
      obtain ⟨bb, off, hA, hcell⟩ := (HR.out.below HB.out).at_ (k := k) (u := .string z) (by simp [hz])
      subst hA
      have hzs : z.size ≤ 1000000 := HZ.out z (List.mem_of_getElem? hz)
      have HZ1 := Lib.hid hz
      have HZS := Lib.hid hzs
      clear hz hzs
      go_wp2_with fail
      refine wp_region_any (by kernel_rfl) ?_
      have h0 := H0.out.drew
      have h1 := H1.out.drew
      have hB := HB.out.drew
      have hG := (HG.out.next HB.out).drew
      change wpAny _ _ _ _ _ _ _ wr.drew
      generalize wr.drew = w2 at h0 h1 hB hG ⊢
      have hl : ∀ W : World, Blk W w.heap.size 36 cs1 → (Instr.loadAt 36 (.pointer (some ⟨w.heap.size, 0, none⟩))).run Tryd.prog W = .ok (.agg cs1.toArray) W := fun W hW => run_loadAt_mid W w.heap.size 0 _ cs1 _ (by have := hW.range 0 cs1.length; simpa using this) Tryd.underlying36 rfl HS.out.size_
      refine any_take (i := 1) (some 14) rfl rfl rfl (by kernel_rfl) (by kernel_rfl) (by kernel_rfl) (.string z) (fun _ _ _ h => h) (fun W => exec_move (.tmp 6) rfl _ rfl) ?_
      go_frame
      have hml : (m ++ encP (ss.take k)).length + (encB z.data.toList).length ≤ 1099511627776 := by
        have h2 := HLEN.out
        have h3 := encP_part ss (k + 1)
        rw [← encP_take ss k z HZ1.out, List.length_append] at h3
        rw [List.length_append]; omega
      have tail : ∀ (w3 : World) (A3 : Option Addr) (c3 : Nat), Below w2.heap.size w2 w3 → Rd w3 A3 (bc (encB z.data.toList)) → (encB z.data.toList).length ≤ c3 →
          Calls Tryd.prog 35 #[.agg cs1.toArray, .slice A3 (encB z.data.toList).length c3] w3 fun e w' => ∃ cs', Sm cs' (m ++ encP (ss.take (k + 1))) ∧ e = .returned (.agg cs'.toArray) ∧ Below w3.heap.size w3 w' := by
        intro w3 A3 c3 hb3 hr3 hc3
        have := addB cs1 (m ++ encP (ss.take k)) A3 c3 (encB z.data.toList) w3 HS.out (hG.next hb3) hr3 hc3 hml
        rwa [List.append_assoc, encP_take ss k z HZ1.out] at this
      have HTAIL := Lib.hid tail
      clear tail
      refine any_two (i := 0) (k := 2) (by kernel_rfl) ?_ ?_
      · refine op_value (some 13) rfl rfl rfl (.agg cs1.toArray) (exec_load 36 (.tmp 2) rfl _ _ rfl (hl w2 h0)) ?_
        go_frame
        refine any_one (i := 2) (by kernel_rfl) (op_call (some 15) rfl rfl rfl rfl Tryd.func57 (by kernel_rfl) (by kernel_rfl) #[.string z] rfl (bytes_any z w2 (by have := HZS.out; omega)) ?_)
        rintro e w3 ⟨v3, rfl, ho3, hb3⟩
        obtain ⟨A3, c3, rfl, hr3, hc3⟩ := own_out ho3
        refine ⟨_, rfl, ?_⟩
        go_frame
        refine any_one (i := 3) (by kernel_rfl) (op_call (some 16) rfl rfl rfl rfl Tryd.func35 (by kernel_rfl) (by kernel_rfl) #[.agg cs1.toArray, .slice A3 (encB z.data.toList).length c3] rfl (HTAIL.out w3 A3 c3 hb3 hr3 hc3) ?_)
        rintro e w4 ⟨cs4, hs4, rfl, hb4⟩
        refine ⟨_, rfl, ?_⟩
        go_frame
        have g0 := (h0.next hb3).next hb4
        have g1 := (h1.next hb3).next hb4
        have gB := (hB.trans (hb3.mono hB.size)).trans (hb4.mono (Nat.le_trans hB.size hb3.size))
        refine any_one (i := 4) (by kernel_rfl) (op_store_all rfl rfl rfl 36 (.tmp 2) (.tmp 16) rfl w.heap.size _ cs1 cs4 rfl rfl g0 (by rw [hs4.len, HS.out.len]) hs4.size_ hs4.one ?_)
        intro w5 hb5 ho5
        refine wpAny_done (by kernel_rfl) ?_ _
        go_frame
        have F0 := Lib.hid hb5
        have F1 := Lib.hid (ho5.blk g1 (by omega))
        have FB := Lib.hid (gB.trans (ho5.below (Nat.le_refl _)))
        have FS := Lib.hid hs4
        clear g0 g1 gB hb5 ho5 hs4 hb3 hb4 h0 h1 hB hG hl HTAIL hr3 hcell
        go_wp2
        go_roundw
        case rel => exact ⟨k + 1, cs4, by go_num, by omega, FS.out, F0.out, F1.out, FB.out⟩
        case measure => simp [intOf]; omega
      · refine op_call (some 15) rfl rfl rfl rfl Tryd.func57 (by kernel_rfl) (by kernel_rfl) #[.string z] rfl (bytes_any z w2 (by have := HZS.out; omega)) ?_
        rintro e w3 ⟨v3, rfl, ho3, hb3⟩
        obtain ⟨A3, c3, rfl, hr3, hc3⟩ := own_out ho3
        refine ⟨_, rfl, ?_⟩
        go_frame
        refine any_one (i := 0) (by kernel_rfl) (op_value (some 13) rfl rfl rfl (.agg cs1.toArray) (exec_load 36 (.tmp 2) rfl _ _ rfl (hl w3 (h0.next hb3))) ?_)
        go_frame
        refine any_one (i := 3) (by kernel_rfl) (op_call (some 16) rfl rfl rfl rfl Tryd.func35 (by kernel_rfl) (by kernel_rfl) #[.agg cs1.toArray, .slice A3 (encB z.data.toList).length c3] rfl (HTAIL.out w3 A3 c3 hb3 hr3 hc3) ?_)
        rintro e w4 ⟨cs4, hs4, rfl, hb4⟩
        refine ⟨_, rfl, ?_⟩
        go_frame
        have g0 := (h0.next hb3).next hb4
        have g1 := (h1.next hb3).next hb4
        have gB := (hB.trans (hb3.mono hB.size)).trans (hb4.mono (Nat.le_trans hB.size hb3.size))
        refine any_one (i := 4) (by kernel_rfl) (op_store_all rfl rfl rfl 36 (.tmp 2) (.tmp 16) rfl w.heap.size _ cs1 cs4 rfl rfl g0 (by rw [hs4.len, HS.out.len]) hs4.size_ hs4.one ?_)
        intro w5 hb5 ho5
        refine wpAny_done (by kernel_rfl) ?_ _
        go_frame
        have F0 := Lib.hid hb5
        have F1 := Lib.hid (ho5.blk g1 (by omega))
        have FB := Lib.hid (gB.trans (ho5.below (Nat.le_refl _)))
        have FS := Lib.hid hs4
        clear g0 g1 gB hb5 ho5 hs4 hb3 hb4 h0 h1 hB hG hl HTAIL hr3 hcell
        go_wp2
        go_roundw
        case rel => exact ⟨k + 1, cs4, by go_num, by omega, FS.out, F0.out, F1.out, FB.out⟩
        case measure => simp [intOf]; omega
    · obtain rfl : k = ss.length := by omega
      have hs := HS.out
      rw [List.take_length] at hs
      have HS' := Lib.hid hs
      clear hs HS
      go_wp2_with (first | (refine wpList_load_all rfl _ (.tmp 2) rfl w.heap.size _ cs1 _ rfl H0.out Tryd.underlying36 rfl HS'.out.size_ ?_) | (refine wpList_store_all rfl _ (.tmp 4) (.tmp 18) rfl (w.heap.size + 1) _ zs cs1 rfl rfl H1.out (by rw [zs_len, HS'.out.len]) HS'.out.size_ HS'.out.one ?_; intro w3 HB3 ho3))
      exact bodyPost_ret (results_blk rfl _ _ (w.heap.size + 1) _ cs1 _ rfl HB3.out Tryd.underlying36 rfl HS'.out.size_) rfl ⟨cs1, HS'.out, rfl, HB.out.trans (ho3.below (by omega))⟩

/-- A tag as a byte. -/
def tagB (t : Int) : UInt8 := UInt8.ofNat (t % 256).toNat
theorem tagB_cells (t : Int) : #[Value.int .u8 (t % 256)] = (bc [tagB t]).toArray := by
  have h : ((tagB t).toNat : Int) = t % 256 := by unfold tagB; rw [UInt8.toNat_ofNat']; omega
  simp [bc, h]

set_option maxRecDepth 100000 in
set_option maxHeartbeats 400000 in
theorem of_any (tag : Int) (A : Option Addr) (c : Nat) (ss : List ByteArray) (w : World) (hg : Glob w) (hr : Rd w A (ss.map Value.string)) (hz : ∀ s ∈ ss, s.size ≤ 1000000) (hl : ss.length ≤ 1000000) (hlen : (encP ss).length ≤ 100000000) :
    Calls Tryd.prog 20 #[.int .i64 tag, .slice A ss.length c] w fun e w' => e = .returned (.agg (bc ((Hm.sum (tagB tag :: encP ss)).take 16)).toArray) ∧ Below w.heap.size w w' := by
  have hb := (Below.refl w.heap.size w).alloc (Nat.le_refl _) (.cells (zb 16).toArray 43)
  have HB := Lib.hid (Blk.new w 43 (zb 16))
  have HG := Lib.hid (hg.next hb)
  have HR := Lib.hid (hr.below hb)
  have HBW := Lib.hid hb
  have HZ := Lib.hid hz
  have HL := Lib.hid hl
  have HLEN := Lib.hid hlen
  clear hb hg hr hz hl hlen
  go_enter Tryd.func20, Tryd.ntmps20
  go_wp2_with (first | (refine wpList_alloc_zero rfl 43 rfl (zb 16) dg_zero ?_))
  refine (begin_any _ HG.out).mono ?_
  rintro e w2 ⟨cs2, hs2, rfl, hb2⟩
  have HS2 := Lib.hid hs2
  have G2 := Lib.hid (HG.out.next hb2)
  have R2 := Lib.hid (HR.out.below hb2)
  have K2 := Lib.hid (HB.out.next hb2)
  have B2 := Lib.hid (HBW.out.trans (hb2.mono HBW.out.size))
  clear hs2 hb2
  go_wp2_with fail
  rw [tagB_cells tag]
  have hba := (Below.refl w2.heap.size w2).alloc (Nat.le_refl _) (.cells (bc [tagB tag]).toArray 5)
  refine (addB cs2 [] (some ⟨w2.heap.size, 0, none⟩) 1 [tagB tag] _ HS2.out (G2.out.next hba) (Rd.of_new w2 (bc [tagB tag]) 5) (Nat.le_refl _) (by simp)).mono ?_
  rintro e w3 ⟨cs3, hs3, rfl, hb3⟩
  have hb23 := hba.trans (hb3.mono hba.size)
  have HS3 := Lib.hid hs3
  have G3 := Lib.hid (G2.out.next hb23)
  have R3 := Lib.hid (R2.out.below hb23)
  have K3 := Lib.hid (K2.out.next hb23)
  have B3 := Lib.hid (B2.out.trans (hb23.mono B2.out.size))
  clear hs3 hb3 hba hb23
  go_wp2_with fail
  refine (addParts_any cs3 ([] ++ [tagB tag]) A c ss w3 HS3.out G3.out R3.out HZ.out HL.out (by have := HLEN.out; simp; omega)).mono ?_
  rintro e w4 ⟨cs4, hs4, rfl, hb4⟩
  have HS4 := Lib.hid hs4
  have G4 := Lib.hid (G3.out.next hb4)
  have K4 := Lib.hid (K3.out.next hb4)
  have B4 := Lib.hid (B3.out.trans (hb4.mono B3.out.size))
  clear hs4 hb4
  go_wp2_with fail
  refine (streamSum_any cs4 _ w4 HS4.out G4.out (by have := HLEN.out; simp; omega)).mono ?_
  rintro e w5 ⟨rfl, hb5⟩
  rw [List.nil_append, List.singleton_append]
  have K5 := Lib.hid (K4.out.next hb5)
  have B5 := Lib.hid (B4.out.trans (hb5.mono B4.out.size))
  clear hb5
  go_wp2_with fail
  refine (digest_any _ w5 (sum_len _)).mono ?_
  rintro e w6 ⟨rfl, hb6⟩
  have K6 := Lib.hid (K5.out.next hb6)
  have B6 := Lib.hid (B5.out.trans (hb6.mono B5.out.size))
  clear hb6
  obtain ⟨d, hd⟩ : ∃ d, (Hm.sum (tagB tag :: encP ss)).take 16 = d := ⟨_, rfl⟩
  have hdl : d.length = 16 := by rw [← hd, List.length_take, sum_len]; rfl
  have HDD := Lib.hid hd
  rw [hd]
  have HD := Lib.hid hdl
  clear hd hdl
  go_wp2_with (refine wpList_store_all rfl _ (.tmp 4) (.tmp 13) rfl w.heap.size _ (zb 16) (bc d) rfl rfl K6.out (by rw [bc_len, zb_len, HD.out]) (by rw [dg_size, bc_len, HD.out]) (bc_one _) ?_; intro w7 HB7 ho7)
  exact bodyPost_ret (results_blk rfl _ _ w.heap.size _ (bc d) _ rfl HB7.out dg_under rfl (by rw [dg_size, bc_len, HD.out])) rfl ⟨by rw [HDD.out], B6.out.trans (ho7.below (Nat.le_refl _))⟩
end Go.Proofs.YtoendbdpkkjjkaaDoor
