/- The reference's hash. -/
import Derived.Test.YtoendbdpkkjjkaaDoorHRW2
namespace Go.Proofs.YtoendbdpkkjjkaaDoor
open Go.RowKit Hm Wm

theorem a8_size : (Tryd.prog.info? 30).map (·.size) = some 8 := by kernel_rfl
theorem a8_under : Tryd.prog.underlying 30 = some (.array 8 29) := by kernel_rfl
theorem a8_zero : (Tryd.prog.info? 30).map (·.zero) = some (some (.agg (zw 8).toArray)) := by kernel_rfl
theorem run_build_ini (w : World) : (Instr.build 30 #[(0, .int .u32 1779033703), (1, .int .u32 3144134277), (2, .int .u32 1013904242), (3, .int .u32 2773480762), (4, .int .u32 1359893119), (5, .int .u32 2600822924), (6, .int .u32 528734635), (7, .int .u32 1541459225)]).run Tryd.prog w = .ok (.agg (wc ini.toL).toArray) w := by kernel_rfl
theorem run_build_8 (v : H8) (w : World) : (Instr.build 30 #[(0, .int .u32 v.a.toNat), (1, .int .u32 v.b.toNat), (2, .int .u32 v.c.toNat), (3, .int .u32 v.d.toNat), (4, .int .u32 v.e.toNat), (5, .int .u32 v.f.toNat), (6, .int .u32 v.g.toNat), (7, .int .u32 v.h.toNat)]).run Tryd.prog w = .ok (.agg (wc v.toL).toArray) w := by
  kernel_rfl
theorem flip_u32 (x : UInt32) : bits .xor .u32 (x.toNat : Int) 4294967295 = ((~~~x).toNat : Int) := by
  have h := xor_u32 x 0xffffffff
  rw [show ((0xffffffff : UInt32).toNat : Int) = 4294967295 from rfl] at h
  rw [h]
  congr 2
  exact UInt32.xor_neg_one
theorem range_only {w w' : World} {g b o : Nat} {xs : List Value} (h : w.rangeAt b o xs) (ho : Only g w w') (hb : b ≠ g) : w'.rangeAt b o xs := fun j v hv => by
  rw [World.cell?_of_block (w := w) (ho.block b hb)]; exact h j v hv

/-- A hash value is put together and stored at once. -/
theorem wpList_rebuild {w : World} {ops : Array Oper} {rest : List Oper} {o1 o2 : Oper} {a : Act} {Q : Exit → Act → World → Prop} (V' : H8) (h1 : o1.guard = none) (h2 : o2.guard = none) (d p : Tmp) (hd : o1.dst = some d) (hn : o2.dst = none)
    (x0 x1 x2 x3 x4 x5 x6 x7 : Operand) (ho1 : o1.op = .build 30 #[(0, x0), (1, x1), (2, x2), (3, x3), (4, x4), (5, x5), (6, x6), (7, x7)]) (ho2 : o2.op = .store 30 (.tmp p) (.tmp d))
    (e0 : a.eval x0 = .int .u32 V'.a.toNat) (e1 : a.eval x1 = .int .u32 V'.b.toNat) (e2 : a.eval x2 = .int .u32 V'.c.toNat) (e3 : a.eval x3 = .int .u32 V'.d.toNat) (e4 : a.eval x4 = .int .u32 V'.e.toNat) (e5 : a.eval x5 = .int .u32 V'.f.toNat) (e6 : a.eval x6 = .int .u32 V'.g.toNat) (e7 : a.eval x7 = .int .u32 V'.h.toNat)
    (g : Nat) (l : List UInt32) (hl : l.length = 8) (hp : (a.put (some d) (.agg (wc V'.toL).toArray)).eval (.tmp p) = .pointer (some ⟨g, 0, none⟩)) (hv : (a.put (some d) (.agg (wc V'.toL).toArray)).eval (.tmp d) = .agg (wc V'.toL).toArray) (hb : Blk w g 30 (wc l))
    (h : ∀ w', Hid (Blk w' g 30 (wc V'.toL)) → Only g w w' → wpList Tryd.prog ops Q rest ((a.put (some d) (.agg (wc V'.toL).toArray)).put none undef) w') : wpList Tryd.prog ops Q (o1 :: o2 :: rest) a w := by
  refine wpList_plain h1 fun K hK => ?_
  unfold Oper.wp execOp
  simp only [ho1, Sem.run_bind, List.map_toArray, List.map_cons, List.map_nil, e0, e1, e2, e3, e4, e5, e6, e7, run_build_8, Result.andThen_ok]
  refine hK _ _ ?_
  rw [hd]
  refine wpList_store_all h2 30 (.tmp p) (.tmp d) ho2 g _ (wc l) (wc V'.toL) hp hv hb (by rw [wc_len, wc_len, hl, H8.toL_len]) (by rw [a8_size, wc_len, H8.toL_len]) (wc_one _) ?_
  intro w' hb' ho
  rw [hn]
  exact h w' hb' ho

theorem w4_at (x : UInt32) (r : Nat) (h : r < 4) : (w4 x)[r]? = some (UInt8.ofNat (x.toNat / 2 ^ (24 - 8 * r))) := by
  match r, h with
  | 0, _ => simp [w4]
  | 1, _ => simp [w4]
  | 2, _ => simp [w4]
  | 3, _ => simp [w4]
theorem flat_at : ∀ (l : List UInt32) (q r : Nat), r < 4 → (l.flatMap w4)[4 * q + r]? = (l[q]?).bind fun x => (w4 x)[r]?
  | [], q, r, _ => by simp
  | x :: l, 0, r, h => by
    have hl : (w4 x).length = 4 := rfl
    rw [List.flatMap_cons, Nat.mul_zero, Nat.zero_add, List.getElem?_append_left (by omega)]
    rfl
  | x :: l, q + 1, r, h => by
    have hl : (w4 x).length = 4 := rfl
    rw [List.flatMap_cons, List.getElem?_append_right (by omega), hl, show 4 * (q + 1) + r - 4 = 4 * q + r from by omega, flat_at l q r h]
    rfl
theorem bytes_at (S : H8) (k : Nat) (h : k < 32) : S.bytes[k]? = some (UInt8.ofNat ((S.toL.getD (k / 4) 0).toNat / 2 ^ (24 - 8 * (k % 4)))) := by
  have e := flat_at S.toL (k / 4) (k % 4) (by omega)
  rw [show 4 * (k / 4) + k % 4 = k from by omega] at e
  unfold H8.bytes
  rw [e, List.getElem?_eq_getElem (by rw [H8.toL_len]; omega)]
  show (w4 _)[k % 4]? = _
  rw [w4_at _ _ (by omega), List.getD_eq_getElem?_getD, List.getElem?_eq_getElem (by rw [H8.toL_len]; omega)]
  rfl
theorem bytes_fill (S : H8) (k : Nat) (b : UInt8) (h : k < 32) (hb : S.bytes[k]? = some b) : (bc (S.bytes.take k) ++ zb (32 - k)).set k (.int .u8 b.toNat) = bc (S.bytes.take (k + 1)) ++ zb (32 - (k + 1)) := by
  obtain ⟨h1, h2⟩ := List.getElem?_eq_some_iff.1 hb
  have hl : (bc (S.bytes.take k)).length = k := by rw [bc_len, List.length_take]; omega
  obtain ⟨e, he⟩ : ∃ e, 32 - k = e + 1 := ⟨31 - k, by omega⟩
  rw [List.set_append_right _ _ (by omega), hl, Nat.sub_self, he, show 32 - (k + 1) = e from by omega, List.take_succ_eq_append_getElem h1, bc_app, h2, List.append_assoc]
  rfl

set_option maxRecDepth 100000 in
set_option maxHeartbeats 4000000 in
theorem rsum_any (A : Option Addr) (c : Nat) (m : List UInt8) (w : World) (hr : Rd w A (bc m)) (hl : m.length ≤ 100000) (ht : w.rangeAt 0 0 (wc K)) :
    Calls Tryd.prog 14 #[.slice A m.length c] w fun e w' => e = .returned (.agg (bc (Hm.sum m)).toArray) ∧ Below w.heap.size w w' := by
  have HTAB := Lib.hid ht
  have hw0 : 0 < w.heap.size := World.block_lt_of_cell? w _ (ht 0 _ rfl)
  have hb0 := (Below.refl w.heap.size w).alloc (Nat.le_refl _) (.cells (zb 32).toArray 24)
  have HB0 := Lib.hid (Blk.new w 24 (zb 32))
  have HW0 := Lib.hid hb0
  have HR := Lib.hid hr
  have HL := Lib.hid hl
  clear hr ht hb0
  go_enter Tryd.func14, Tryd.ntmps14
  go_wp2_with (first | (refine wpList_alloc_zero rfl 24 rfl (zb 32) a32_zero ?_) | (refine wpList_var rfl rfl 30 3 rfl rfl rfl (.tmp 14) rfl (zw 8) (wc ini.toL) a8_zero rfl rfl (by rw [wc_len, zw_len, H8.toL_len]) (by rw [a8_size, wc_len, H8.toL_len]) (wc_one _) ?_; intro w1 K1 D1))
  have hsz : (w.alloc (.cells (zb 32).toArray 24)).heap.size = w.heap.size + 1 := by simp
  rw [hsz] at K1
  have B1 := Lib.hid (HW0.out.trans (D1.out.mono HW0.out.size))
  have Z1 := Lib.hid (HB0.out.next D1.out)
  have R1 := Lib.hid (HR.out.below B1.out)
  have hs1 : w.heap.size + 1 < w1.heap.size := K1.out.lt
  clear HB0 HW0 HR D1 hsz
  refine (padded_any A c m w1 R1.out (by have := HL.out; omega)).mono ?_
  rintro e w2 ⟨v2, rfl, ho2, hb2⟩
  obtain ⟨M, hM⟩ : ∃ M, full m = M := ⟨_, rfl⟩
  have hM64 : M.length % 64 = 0 := by rw [← hM]; exact full_mod m
  have hMge := full_ge m
  rw [hM] at ho2 hMge
  obtain ⟨bm, cm, rfl, hbm, hcm, hrm⟩ := ho2.at_ (by intro e; rw [e] at hMge; simp at hMge)
  obtain ⟨n, hn⟩ : ∃ n, M.length / 64 = n := ⟨_, rfl⟩
  obtain ⟨L, hL⟩ : ∃ L, M.length = L := ⟨_, rfl⟩
  have hMn : L = 64 * n := by omega
  rw [hL] at hcm ⊢
  have HMM := Lib.hid hM
  have HMN := Lib.hid hMn
  have HML := Lib.hid hL
  have bL : (L : Int) ≤ 200000 := by omega
  have HCM := Lib.hid hcm
  have HNB := Lib.hid (show n ≤ 2000 by have := HL.out; omega)
  have B2 := Lib.hid (B1.out.trans (hb2.mono B1.out.size))
  have Z2 := Lib.hid (Z1.out.next hb2)
  have K2 := Lib.hid (K1.out.next hb2)
  have RM2 := Lib.hid hrm
  have hbm2 : w.heap.size + 1 < bm := by omega
  have HSZ2 := Lib.hid hb2.size
  have bn : (n : Int) ≤ 2000 := by have := HNB.out; omega
  clear ho2 hb2 hrm hM hM64 hMge hMn hcm hL hn B1 Z1 K1 R1 hbm
  go_wp2_with fail
  go_loopw [5] (fun i wr => ∃ (j : Nat) (S : H8), i = .int .i64 ((64 * j : Nat) : Int) ∧ j ≤ n ∧ Hid (run ini M j = S) ∧ Hid (Blk wr w.heap.size 24 (zb 32)) ∧ Hid (Blk wr (w.heap.size + 1) 30 (wc S.toL)) ∧ Hid (Below w.heap.size w wr) ∧ Hid (wr.rangeAt bm 0 (bc M)))
    (fun i _ => L - (intOf i).toNat)
  case atStart => exact ⟨0, ini, rfl, Nat.zero_le _, rfl, Z2.out, K2.out, B2.out, RM2.out⟩
  case round =>
    clear Z2 K2 B2 RM2 hs1
    obtain ⟨j, S, rfl, hj, HS, H0, H1, HB, HRM⟩ := hrel
    by_cases hlt : j < n
    · obtain ⟨at0, hat⟩ : ∃ at0, 64 * j = at0 := ⟨_, rfl⟩
      rw [hat]
      have ba : (at0 : Int) < (L : Int) := by have h := HMN.out; omega
      have ba2 : (at0 : Int) + 64 ≤ (cm : Int) := by have h := HCM.out; have h2 := HMN.out; omega
      have ba4 : at0 + 64 ≤ L := by have h2 := HMN.out; omega
      have ba3 : (at0 : Int) ≤ 200000 := by omega
      have HAT := Lib.hid hat
      clear hat
      go_wp2_with fail
      obtain ⟨BL, hBL⟩ : ∃ BL, (M.drop at0).take 64 = BL := ⟨_, rfl⟩
      have hBLl : BL.length = 64 := by rw [← hBL, List.length_take, List.length_drop, HML.out]; omega
      have hrd : Rd wr (some ⟨bm, at0, none⟩) (bc BL) := fun _ => by
        refine ⟨bm, at0, rfl, fun k u hu => ?_⟩
        have h := HRM.out (at0 + k) u (by
          rw [← hBL, bc_take, bc_drop, List.getElem?_take] at hu
          split at hu
          · rwa [List.getElem?_drop] at hu
          · cases hu)
        rwa [Nat.zero_add] at h
      have HBL := Lib.hid hBL
      refine (words_any _ _ BL wr hBLl hrd).mono ?_
      rintro e w3 ⟨rfl, hb3⟩
      obtain ⟨ws, hws⟩ : ∃ ws, sch BL 64 = ws := ⟨_, rfl⟩
      have hwl : ws.length = 64 := by rw [← hws, sch_len]
      rw [hws]
      have HWS := Lib.hid hws
      have HWL := Lib.hid hwl
      have H03 := Lib.hid (H0.out.next hb3)
      have H13 := Lib.hid (H1.out.next hb3)
      have HB3 := Lib.hid (HB.out.trans (hb3.mono HB.out.size))
      have HRM3 := Lib.hid (range_below' HRM.out hb3)
      have hbm3 : bm < w3.heap.size := World.block_lt_of_cell? w3 _ (HRM3.out 0 _ (bc_at (by rw [HML.out]; omega)))
      have h13 : w.heap.size + 1 < w3.heap.size := H13.out.lt
      clear hBL hBLl hrd hb3 hws hwl H0 H1 HB HRM
      go_wp2_with (first | (refine wpList_var rfl rfl 66 6 rfl rfl rfl (.tmp 28) rfl (zw 64) (wc ws) w64_zero rfl rfl (by rw [wc_len, zw_len, HWL.out]) (by rw [w64_size, wc_len, HWL.out]) (wc_one _) ?_; intro w4 J4 D4; have H04 := Lib.hid (H03.out.next D4.out); have H14 := Lib.hid (H13.out.next D4.out); have HB4 := Lib.hid (HB3.out.trans (D4.out.mono HB3.out.size)); have HRM4 := Lib.hid (range_below' HRM3.out D4.out); have hs4 := J4.out.lt; clear H03 H13 HB3 HRM3 D4) | (refine wpList_load_all rfl _ (.tmp 3) rfl (w.heap.size + 1) _ (wc S.toL) _ rfl H14.out a8_under rfl (by rw [a8_size, wc_len, H8.toL_len]) ?_) | (refine wpList_var rfl rfl 30 7 rfl rfl rfl (.tmp 29) rfl (zw 8) (wc S.toL) a8_zero rfl rfl (by rw [wc_len, zw_len, H8.toL_len]) (by rw [a8_size, wc_len, H8.toL_len]) (wc_one _) ?_; intro w5 V5 D5; have H05 := Lib.hid (H04.out.next D5.out); have H15 := Lib.hid (H14.out.next D5.out); have HB5 := Lib.hid (HB4.out.trans (D5.out.mono HB4.out.size)); have HRM5 := Lib.hid (range_below' HRM4.out D5.out); have J5 := Lib.hid (J4.out.next D5.out); clear H04 H14 HB4 HRM4 D5 J4))
      obtain ⟨gw, hgw⟩ : ∃ gw, w3.heap.size = gw := ⟨_, rfl⟩
      obtain ⟨gv, hgv⟩ : ∃ gv, w4.heap.size = gv := ⟨_, rfl⟩
      rw [hgw] at J5 hs4 hbm3 h13 ⊢
      rw [hgv] at V5 hs4 ⊢
      clear hgw hgv
      go_loopw [8] (fun i wv => ∃ (t : Nat) (V : H8), i = .int .i64 t ∧ t ≤ 64 ∧ Hid (rounds ws S t = V) ∧ Hid (Blk wv gv 30 (wc V.toL)) ∧ Hid (Blk wv gw 66 (wc ws)) ∧ Hid (Blk wv w.heap.size 24 (zb 32)) ∧ Hid (Blk wv (w.heap.size + 1) 30 (wc S.toL)) ∧ Hid (Below w.heap.size w wv) ∧ Hid (wv.rangeAt bm 0 (bc M)))
        (fun i _ => 64 - (intOf i).toNat)
      case atStart => exact ⟨0, S, rfl, by omega, rfl, V5.out, J5.out, H05.out, H15.out, HB5.out, HRM5.out⟩
      case round =>
        clear V5 J5 H05 H15 HB5 HRM5
        obtain ⟨t, V, rfl, ht2, HV, HVB, HWB, H0, H1, HB, HRM⟩ := hrel
        by_cases htl : t < 64
        · have bt : (t : Int) < 64 := by omega
          obtain ⟨wt, hwt⟩ : ∃ wt, ws.getD t 0 = wt := ⟨_, rfl⟩
          obtain ⟨kt, hkt⟩ : ∃ kt, K.getD t 0 = kt := ⟨_, rfl⟩
          have ck : wr.cell? ⟨0, t, none⟩ = some (.int .u32 kt.toNat) := by
            rw [HB.out.cell (p := ⟨0, t, none⟩) hw0, ← hkt]
            exact rangeAt_at HTAB.out t htl
          have cw : wr.cell? ⟨gw, t, none⟩ = some (.int .u32 wt.toNat) := by
            rw [HWB.out.cell t, wc_at (by rw [HWL.out]; exact htl), ← hwt]
            simp [HWL.out, htl]
          have c0 : wr.cell? ⟨gv, 0, none⟩ = some (.int .u32 V.a.toNat) := HVB.out.cell 0
          have c1 : wr.cell? ⟨gv, 1, none⟩ = some (.int .u32 V.b.toNat) := HVB.out.cell 1
          have c2 : wr.cell? ⟨gv, 2, none⟩ = some (.int .u32 V.c.toNat) := HVB.out.cell 2
          have c3 : wr.cell? ⟨gv, 3, none⟩ = some (.int .u32 V.d.toNat) := HVB.out.cell 3
          have c4 : wr.cell? ⟨gv, 4, none⟩ = some (.int .u32 V.e.toNat) := HVB.out.cell 4
          have c5 : wr.cell? ⟨gv, 5, none⟩ = some (.int .u32 V.f.toNat) := HVB.out.cell 5
          have c6 : wr.cell? ⟨gv, 6, none⟩ = some (.int .u32 V.g.toNat) := HVB.out.cell 6
          have c7 : wr.cell? ⟨gv, 7, none⟩ = some (.int .u32 V.h.toNat) := HVB.out.cell 7
          have HR := Lib.hid (show rounds ws S (t + 1) = rnd V kt wt by rw [rounds_next, HV.out, hkt, hwt])
          clear hwt hkt
          go_wp2_with fail
          go_quiet ((go_at_call 38; exact Calls.quiet_of (rrot_z _ _ _ (by omega) (by omega))))
          simp only [xor_u32, and_u32, flip_u32, xsum_u32]
          generalize hX : V.h + (rotr V.e 6 ^^^ rotr V.e 11 ^^^ rotr V.e 25) + (V.e &&& V.f ^^^ ~~~V.e &&& V.g) + kt + wt = X
          have HX := Lib.hid hX
          clear hX ck cw c0 c1 c2 c3 c4 c5 c6 c7
          go_wp2_with fail
          refine wp_forget1 _ ?_
          intro w9 hw9
          have HVB9 := Lib.hid (show Blk w9 gv 30 (wc V.toL) by rw [hw9]; exact HVB.out)
          have HWB9 := Lib.hid (show Blk w9 gw 66 (wc ws) by rw [hw9]; exact HWB.out)
          have H09 := Lib.hid (show Blk w9 w.heap.size 24 (zb 32) by rw [hw9]; exact H0.out)
          have H19 := Lib.hid (show Blk w9 (w.heap.size + 1) 30 (wc S.toL) by rw [hw9]; exact H1.out)
          have HB9 := Lib.hid (show Below w.heap.size w w9 by rw [hw9]; exact drewN_below HB.out _)
          have HRM9 := Lib.hid (show w9.rangeAt bm 0 (bc M) by rw [hw9]; exact HRM.out)
          clear hw9 HVB HWB H0 H1 HB HRM
          have k0 : w9.cell? ⟨gv, 0, none⟩ = some (.int .u32 V.a.toNat) := HVB9.out.cell 0
          have k1 : w9.cell? ⟨gv, 1, none⟩ = some (.int .u32 V.b.toNat) := HVB9.out.cell 1
          have k2 : w9.cell? ⟨gv, 2, none⟩ = some (.int .u32 V.c.toNat) := HVB9.out.cell 2
          have k3 : w9.cell? ⟨gv, 3, none⟩ = some (.int .u32 V.d.toNat) := HVB9.out.cell 3
          have k4 : w9.cell? ⟨gv, 4, none⟩ = some (.int .u32 V.e.toNat) := HVB9.out.cell 4
          have k5 : w9.cell? ⟨gv, 5, none⟩ = some (.int .u32 V.f.toNat) := HVB9.out.cell 5
          have k6 : w9.cell? ⟨gv, 6, none⟩ = some (.int .u32 V.g.toNat) := HVB9.out.cell 6
          have k7 : w9.cell? ⟨gv, 7, none⟩ = some (.int .u32 V.h.toNat) := HVB9.out.cell 7
          go_quiet ((go_at_call 38; exact Calls.quiet_of (rrot_z _ _ _ (by omega) (by omega))))
          simp only [xor_u32, and_u32, add2m_u32]
          generalize hY : (rotr V.a 2 ^^^ rotr V.a 13 ^^^ rotr V.a 22) + (V.a &&& V.b ^^^ V.a &&& V.c ^^^ V.b &&& V.c) = Y
          have HY := Lib.hid hY
          clear hY k0 k1 k2 k3 k4 k5 k6 k7
          have HVBx := Lib.hid (HVB9.out.drewN nq)
          have HWBx := Lib.hid (HWB9.out.drewN nq)
          have H0x := Lib.hid (H09.out.drewN nq)
          have H1x := Lib.hid (H19.out.drewN nq)
          have HBx := Lib.hid (drewN_below HB9.out nq)
          have HRMx := Lib.hid (show (w9.drewN nq).rangeAt bm 0 (bc M) from HRM9.out)
          generalize w9.drewN nq = wx at HVBx HWBx H0x H1x HBx HRMx ⊢
          clear HVB9 HWB9 H09 H19 HB9 HRM9
          have k0 : wx.cell? ⟨gv, 0, none⟩ = some (.int .u32 V.a.toNat) := HVBx.out.cell 0
          have k1 : wx.cell? ⟨gv, 1, none⟩ = some (.int .u32 V.b.toNat) := HVBx.out.cell 1
          have k2 : wx.cell? ⟨gv, 2, none⟩ = some (.int .u32 V.c.toNat) := HVBx.out.cell 2
          have k3 : wx.cell? ⟨gv, 3, none⟩ = some (.int .u32 V.d.toNat) := HVBx.out.cell 3
          have k4 : wx.cell? ⟨gv, 4, none⟩ = some (.int .u32 V.e.toNat) := HVBx.out.cell 4
          have k5 : wx.cell? ⟨gv, 5, none⟩ = some (.int .u32 V.f.toNat) := HVBx.out.cell 5
          have k6 : wx.cell? ⟨gv, 6, none⟩ = some (.int .u32 V.g.toNat) := HVBx.out.cell 6
          have k7 : wx.cell? ⟨gv, 7, none⟩ = some (.int .u32 V.h.toNat) := HVBx.out.cell 7
          go_wp2_with (refine wpList_rebuild ⟨X + Y, V.a, V.b, V.c, V.d + X, V.e, V.f, V.g⟩ rfl rfl 117 7 rfl rfl (.tmp 100) (.tmp 102) (.tmp 104) (.tmp 106) (.tmp 110) (.tmp 112) (.tmp 114) (.tmp 116) rfl rfl ?q1 rfl rfl rfl ?q2 rfl rfl rfl gv V.toL (H8.toL_len V) rfl rfl HVBx.out ?_; rotate_left 2; intro wy HVBy hoy)
          have hv : (⟨X + Y, V.a, V.b, V.c, V.d + X, V.e, V.f, V.g⟩ : H8) = rnd V kt wt := by rw [← HX.out, ← HY.out]; rfl
          rw [hv] at HVBy
          clear hv k0 k1 k2 k3 k4 k5 k6 k7
          go_roundw
          case rel => exact ⟨t + 1, rnd V kt wt, by go_num, by omega, HR.out, HVBy.out, hoy.blk HWBx.out (by omega), hoy.blk H0x.out (by omega), hoy.blk H1x.out (by omega), HBx.out.trans (hoy.below (by omega)), range_only HRMx.out hoy (by omega)⟩
          case measure => simp [intOf]; omega
          all_goals (first | (simp only [add2m_u32]; done) | skip)
        · obtain rfl : t = 64 := by omega
          go_wp2_with fail
          rw [show ((64 : Nat) : Int) = 64 from rfl]
          go_loopw [11] (fun i wv => ∃ k : Nat, i = .int .i64 k ∧ k ≤ 8 ∧ Hid (Blk wv (w.heap.size + 1) 30 (wc (mix S V k))) ∧ Hid (Blk wv gv 30 (wc V.toL)) ∧ Hid (Blk wv w.heap.size 24 (zb 32)) ∧ Hid (Below w.heap.size w wv) ∧ Hid (wv.rangeAt bm 0 (bc M)))
            (fun i _ => 8 - (intOf i).toNat)
          case atStart => exact ⟨0, rfl, by omega, H1.out, HVB.out, H0.out, HB.out, HRM.out⟩
          case round =>
            clear HVB HWB H0 H1 HB HRM
            obtain ⟨k, rfl, hk, H1, HVB, H0, HB, HRM⟩ := hrel
            by_cases hkl : k < 8
            · have bk : (k : Int) < 8 := by omega
              go_wp2_with fail
              refine wp_still_tail 9 (by kernel_rfl) (by kernel_rfl) ?_
              have P1 := Lib.hid H1.out.drew
              have PV := Lib.hid HVB.out.drew
              have P0 := Lib.hid H0.out.drew
              have PB := Lib.hid HB.out.drew
              have PR := Lib.hid (show wr.drew.rangeAt bm 0 (bc M) from HRM.out)
              clear H1 HVB H0 HB HRM
              generalize wr.drew = w8 at P1 PV P0 PB PR ⊢
              have d0 := (P1.out.cell k).trans (mix_at S V k hkl)
              have d5 := (PV.out.cell k).trans (toL_at V k hkl)
              obtain ⟨x, hx⟩ : ∃ x, S.toL.getD k 0 = x := ⟨_, rfl⟩
              obtain ⟨y, hy⟩ : ∃ y, V.toL.getD k 0 = y := ⟨_, rfl⟩
              rw [hx] at d0
              rw [hy] at d5
              have e0 : w8.frozen? ⟨w.heap.size + 1, k, none⟩ = false := P1.out.frozen k
              have hs8 : w.heap.size + 1 < w8.heap.size := P1.out.lt
              have HX := Lib.hid hx
              have HY := Lib.hid hy
              clear hx hy
              simp only [List.take_succ_cons, List.take_zero, List.drop_succ_cons, List.drop_zero]
              repeat still_step
              refine wpStill_nil ?_
              go_wp2
              go_roundw
              case rel =>
                have hv := P1.out.set_ k (.int .u32 (S.toL.getD k 0 + V.toL.getD k 0).toNat)
                rw [mix_step S V k hkl, HX.out, HY.out, ← add2m_u32] at hv
                exact ⟨k + 1, by go_num, by omega, hv, PV.out.far (p := ⟨w.heap.size + 1, k, none⟩) (by show gv ≠ w.heap.size + 1; omega) _,
                  P0.out.far (p := ⟨w.heap.size + 1, k, none⟩) (by show w.heap.size ≠ w.heap.size + 1; omega) _, PB.out.setCell (p := ⟨w.heap.size + 1, k, none⟩) (by show w.heap.size ≤ w.heap.size + 1; omega) _,
                  fun j v hv => by
                    rw [World.cell?_setCell_other _ _ _ _ (by intro e; injection e with e1; omega)]
                    exact PR.out j v hv⟩
              case measure => simp [intOf]; omega
            · obtain rfl : k = 8 := by omega
              have hm : mix S V 8 = (run ini M (j + 1)).toL := by
                show (addH S V).toL = _
                rw [run, HS.out, HAT.out, HBL.out]
                unfold compress
                rw [HWS.out, HV.out]
              have h1 := H1.out
              rw [hm] at h1
              have H1' := Lib.hid h1
              clear h1 hm H1
              go_wp2
              go_roundw
              case rel => exact ⟨j + 1, run ini M (j + 1), by have h := HAT.out; go_num, by omega, rfl, H0.out, H1'.out, HB.out, HRM.out⟩
              case measure => have h := HMN.out; simp [intOf]; omega
    · obtain rfl : j = n := by omega
      have hfin : (Hm.sum m) = S.bytes := by
        unfold Hm.sum
        rw [HMM.out, HML.out, show L / 64 = j from by have := HMN.out; omega, HS.out]
      have HF := Lib.hid hfin
      have hn1 : (64 * j : Nat) = L := HMN.out.symm
      rw [hn1]
      clear hn1 hfin
      go_wp2_with (refine wpList_alloc_zero rfl 24 rfl (zb 32) a32_zero ?_)
      have O0 := Lib.hid (Blk.new wr 24 (zb 32))
      have Z0 := Lib.hid (H0.out.alloc (.cells (zb 32).toArray 24))
      have S0 := Lib.hid (H1.out.alloc (.cells (zb 32).toArray 24))
      have B0 := Lib.hid (HB.out.alloc HB.out.size (.cells (zb 32).toArray 24))
      have hsr : w.heap.size + 1 < wr.heap.size := H1.out.lt
      obtain ⟨go, hgo⟩ : ∃ go, wr.heap.size = go := ⟨_, rfl⟩
      rw [hgo] at O0 hsr ⊢
      clear HS H0 H1 HB HRM hgo
      go_loopw [13] (fun i wv => ∃ k : Nat, i = .int .i64 k ∧ k ≤ 32 ∧ Hid (Blk wv go 24 (bc (S.bytes.take k) ++ zb (32 - k))) ∧ Hid (Blk wv w.heap.size 24 (zb 32)) ∧ Hid (Blk wv (w.heap.size + 1) 30 (wc S.toL)) ∧ Hid (Below w.heap.size w wv))
        (fun i _ => 32 - (intOf i).toNat)
      case atStart => exact ⟨0, rfl, by omega, O0.out, Z0.out, S0.out, B0.out⟩
      case round =>
        clear O0 Z0 S0 B0
        obtain ⟨k, rfl, hk, HO, H0, H1, HB⟩ := hrel
        by_cases hkl : k < 32
        · obtain ⟨q, hq⟩ : ∃ q, k / 4 = q := ⟨_, rfl⟩
          obtain ⟨r, hr⟩ : ∃ r, k % 4 = r := ⟨_, rfl⟩
          obtain ⟨sh, hsh⟩ : ∃ sh, 24 - 8 * r = sh := ⟨_, rfl⟩
          have eq1 : (k : Int) / 4 = (q : Int) := by omega
          have eq2 : (k : Int) % 4 = (r : Int) := by omega
          have eq3 : (24 : Int) - 8 * (r : Int) = (sh : Int) := by omega
          have bq : (q : Int) < 8 := by omega
          have br : (r : Int) ≤ 3 := by omega
          have bs : (sh : Int) ≤ 24 := by omega
          have bk : (k : Int) < 32 := by omega
          obtain ⟨x, hx⟩ : ∃ x, S.toL.getD q 0 = x := ⟨_, rfl⟩
          have cx : wr.cell? ⟨w.heap.size + 1, q, none⟩ = some (.int .u32 x.toNat) := by
            rw [H1.out.cell q, ← hx]
            exact toL_at S q (by omega)
          have hb := bytes_at S k hkl
          rw [hq, hr, hsh, hx] at hb
          have hfill := bytes_fill S k _ hkl hb
          have HFILL := Lib.hid hfill
          have hc : wr.cell? ⟨go, k, none⟩ = some (.int .u8 0) := by
            have hl : (bc (S.bytes.take k)).length = k := by rw [bc_len, List.length_take]; have := S.bytes_len; omega
            rw [HO.out.cell k, List.getElem?_append_right (by omega), hl, Nat.sub_self]
            obtain ⟨e, he⟩ : ∃ e, 32 - k = e + 1 := ⟨31 - k, by omega⟩
            rw [he]; rfl
          have hf : wr.frozen? ⟨go, k, none⟩ = false := HO.out.frozen k
          have hsz : go < wr.heap.size := HO.out.lt
          clear hq hr hsh hx hb hfill
          go_wp2
          have eb : ((x.toNat : Int) / 2 ^ sh % 256) = ((UInt8.ofNat (x.toNat / 2 ^ sh)).toNat : Int) := by
            rw [UInt8.toNat_ofNat']; simp
          rw [eb]
          go_roundw
          case rel =>
            have hv := HO.out.set_ k (.int .u8 (UInt8.ofNat (x.toNat / 2 ^ sh)).toNat)
            rw [HFILL.out] at hv
            exact ⟨k + 1, by go_num, by omega, hv, H0.out.far (p := ⟨go, k, none⟩) (by show w.heap.size ≠ go; omega) _, H1.out.far (p := ⟨go, k, none⟩) (by show w.heap.size + 1 ≠ go; omega) _, HB.out.setCell (p := ⟨go, k, none⟩) (by show w.heap.size ≤ go; omega) _⟩
          case measure => simp [intOf]; omega
        · obtain rfl : k = 32 := by omega
          have ho := HO.out
          rw [List.take_of_length_le (by have := S.bytes_len; omega), show zb (32 - 32) = [] from rfl, List.append_nil, ← HF.out] at ho
          have HOF := Lib.hid ho
          clear ho HO
          go_wp2_with (first | (refine wpList_load_all rfl _ (.tmp 12) rfl go _ (bc (Hm.sum m)) _ rfl HOF.out a32_under rfl (by rw [a32_size, bc_len, sum_len]) ?_) | (refine wpList_store_all rfl _ (.tmp 2) (.tmp 147) rfl w.heap.size _ (zb 32) (bc (Hm.sum m)) rfl rfl H0.out (by rw [bc_len, zb_len, sum_len]) (by rw [a32_size, bc_len, sum_len]) (bc_one _) ?_; intro w3 HB3 ho3))
          exact bodyPost_ret (results_blk rfl _ _ w.heap.size _ (bc (Hm.sum m)) _ rfl HB3.out a32_under rfl (by rw [a32_size, bc_len, sum_len])) rfl ⟨rfl, HB.out.trans (ho3.below (Nat.le_refl _))⟩
end Go.Proofs.YtoendbdpkkjjkaaDoor
