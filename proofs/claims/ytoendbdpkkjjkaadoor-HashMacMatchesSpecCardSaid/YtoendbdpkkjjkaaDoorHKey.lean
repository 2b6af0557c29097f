/- Contracts of keyBlock and beginWith. -/
import Derived.Test.YtoendbdpkkjjkaaDoorHOf
namespace Go.Proofs.YtoendbdpkkjjkaaDoor
open Go.RowKit Hm

theorem wp_copy_bytes {w : World} {o : Oper} {a : Act} {K : Act → World → Prop} {Q : Exit → Act → World → Prop} (d s : Operand) (ho : o.op = .call { callee := .builtin .copy, args := #[d, s], argTypes := #[22, 22] })
    (g off dLen dCap : Nat) (A : Option Addr) (sLen sCap : Nat) (hd : a.eval d = .slice (some ⟨g, off, none⟩) dLen dCap) (hs : a.eval s = .slice A sLen sCap)
    (t : TypeId) (cur : List Value) (x : List UInt8) (hb : Blk w g t cur) (hn : x.length = Nat.min sLen dLen) (hx : x ≠ []) (hr : Rd w A (bc x)) (hfit : off + x.length ≤ cur.length)
    (h : ∀ w', Blk w' g t (splice cur off (bc x)) → Only g w w' → K (a.put o.dst (goInt x.length)) w') : o.wp Tryd.prog a w K Q := by
  have hrun := run_copy_bytes w o.type g off dLen dCap A sLen sCap t cur x hb hn hx hr hfit
  unfold Oper.wp execOp
  simp only [ho, resolve, invoke, builtin, Sem.run_bind, Sem.run_pure, Result.andThen_ok, List.map_toArray, List.map_cons, List.map_nil, hd, hs, hrun]
  exact h _ (setRow_heap w g _ _ t _ hb) (Only.setRow w g _)
theorem op_copy_bytes {i : Nat} {oi : Oper} {ops : Array Oper} {w : World} {a : Act} {K : Act → World → Prop} {Q : Exit → Act → World → Prop} (dd : Option Tmp) (hi : ops[i]? = some oi) (hdd : oi.dst = dd) (hgd : oi.guard = none) (d s : Operand) (ho : oi.op = .call { callee := .builtin .copy, args := #[d, s], argTypes := #[22, 22] })
    (g off dLen dCap : Nat) (A : Option Addr) (sLen sCap : Nat) (hd : a.eval d = .slice (some ⟨g, off, none⟩) dLen dCap) (hs : a.eval s = .slice A sLen sCap)
    (t : TypeId) (cur : List Value) (x : List UInt8) (hb : Blk w g t cur) (hn : x.length = Nat.min sLen dLen) (hx : x ≠ []) (hr : Rd w A (bc x)) (hfit : off + x.length ≤ cur.length)
    (h : ∀ w', Blk w' g t (splice cur off (bc x)) → Only g w w' → K (a.put dd (goInt x.length)) w') : wpOp Tryd.prog ops Q i K a w := by
  subst hdd
  exact op_wp hi hgd (wp_copy_bytes d s ho g off dLen dCap A sLen sCap hd hs t cur x hb hn hx hr hfit h)
theorem run_slice_all (t : TypeId) (n : Nat) (hu : Tryd.prog.underlying t = some (.array n 5)) (W : World) (g : Nat) :
    (Instr.sliceAt t (.pointer (some ⟨g, 0, none⟩)) none none none).run Tryd.prog W = .ok (.slice (some ⟨g, 0, none⟩) n n) W := by
  simp [Instr.sliceAt, Instr.sureAddr, run_underlying hu, Instr.sliceBounds, Addr.add]
theorem exec_slice_all {oi : Oper} {a : Act} {w : World} (ty : TypeId) (x : Operand) (ho : oi.op = .slice ty x none none none) (p v : Value) (hx : a.eval x = p) (hl : (Instr.sliceAt ty p none none none).run Tryd.prog w = .ok v w) : (execOp a.eval oi).run Tryd.prog w = .ok (.value v) w := by
  subst hx
  simp [execOp, ho, hl]

theorem blk_rd {w : World} {g : Nat} {t : TypeId} {l : List UInt8} (h : Blk w g t (bc l)) : Rd w (some ⟨g, 0, none⟩) (bc l) := fun _ => ⟨g, 0, rfl, fun k u hu => by rw [Nat.zero_add, h.cell k]; exact hu⟩
theorem zb_splice (x : List UInt8) (_h : x.length ≤ 64) : splice (zb 64) 0 (bc x) = bc (x ++ List.replicate (64 - x.length) 0) := by
  unfold zb
  rw [bc_splice]
  congr 1
  unfold splice
  rw [List.take_zero, List.nil_append, Nat.zero_add, List.drop_replicate]
theorem keyBlock_short (s : List UInt8) (h : s.length ≤ 64) : s ++ List.replicate (64 - s.length) 0 = keyBlock s := by unfold keyBlock; rw [if_pos h]
theorem keyBlock_long (s : List UInt8) (h : ¬ s.length ≤ 64) : Hm.sum s ++ List.replicate (64 - (Hm.sum s).length) 0 = keyBlock s := by unfold keyBlock; rw [if_neg h]; rfl

set_option maxRecDepth 100000 in
set_option maxHeartbeats 1000000 in
theorem keyBlock_any (s : ByteArray) (w : World) (hg : Glob w) (hs : s.size ≤ 1000000) :
    Calls Tryd.prog 58 #[.string s] w fun e w' => e = .returned (.agg (bc (keyBlock s.data.toList)).toArray) ∧ Below w.heap.size w w' := by
  have hsz : s.data.toList.length = s.size := Array.length_toList
  have HB0 := Lib.hid ((Blk.new w 33 (zb 64)).alloc (.cells (zb 64).toArray 33))
  have hb1 := Blk.new (w.alloc (.cells (zb 64).toArray 33)) 33 (zb 64)
  rw [size_alloc] at hb1
  have HB1 := Lib.hid hb1
  have hb := ((Below.refl w.heap.size w).alloc (Nat.le_refl _) (.cells (zb 64).toArray 33)).alloc (by simp) (.cells (zb 64).toArray 33)
  have HBW := Lib.hid hb
  have HG := Lib.hid (hg.next hb)
  have hg2 := hg.two
  have hsl := fun (W : World) => run_slice_all 33 64 blk_under W (w.heap.size + 1)
  have HK : Hid ((bc (keyBlock s.data.toList)).length = 64) := by show _ = _; rw [bc_len, keyBlock_len]
  clear hb hg hb1
  by_cases h64 : s.size ≤ 64
  · have h64i : (s.size : Int) ≤ 64 := by omega
    have HT : Hid (splice (zb 64) 0 (bc s.data.toList) = bc (keyBlock s.data.toList)) := by show _ = _; rw [zb_splice _ (by omega), keyBlock_short _ (by omega)]
    have HL := Lib.hid hsz
    clear hsz
    go_enter Tryd.func58, Tryd.ntmps58
    go_wp2_with (first | (refine wpList_alloc_zero rfl 33 rfl (zb 64) blk_zero ?_) | (refine wpList_copy_text rfl (.tmp 8) (.tmp 9) rfl (w.heap.size + 1) 0 64 64 s rfl rfl _ (zb 64) s.data.toList HB1.out (by rw [HL.out]; exact (Nat.min_eq_left h64).symm) (by rw [List.take_length]) (by rw [HL.out, zb_len]; omega) ?_; intro w2 HB2 ho2; rw [HT.out] at HB2; have HK0 := Lib.hid (ho2.blk HB0.out (by omega)); have HKB := Lib.hid (HBW.out.trans (ho2.below (by omega)))) | (refine wpList_load_all rfl _ (.tmp 3) rfl (w.heap.size + 1) _ (bc (keyBlock s.data.toList)) _ rfl HB2.out blk_under rfl (by rw [blk_size, HK.out]) ?_) | (refine wpList_store_all rfl _ (.tmp 2) (.tmp 11) rfl w.heap.size _ (zb 64) (bc (keyBlock s.data.toList)) rfl rfl HK0.out (by rw [HK.out, zb_len]) (by rw [blk_size, HK.out]) (bc_one _) ?_; intro w3 HB3 ho3))
    exact bodyPost_ret (results_blk rfl _ _ w.heap.size _ (bc (keyBlock s.data.toList)) _ rfl HB3.out blk_under rfl (by rw [blk_size, HK.out])) rfl ⟨rfl, HKB.out.trans (ho3.below (Nat.le_refl _))⟩
  · have h64i : ¬ (s.size : Int) ≤ 64 := by omega
    have h64d : decide ((s.size : Int) ≤ 64) = false := by simpa using h64i
    have HT : Hid (splice (zb 64) 0 (bc (Hm.sum s.data.toList)) = bc (keyBlock s.data.toList)) := by show _ = _; rw [zb_splice _ (by rw [sum_len]; omega), keyBlock_long _ (by omega)]
    clear hsz
    go_enter Tryd.func58, Tryd.ntmps58
    go_wp2_with (first | (refine wpList_alloc_zero rfl 33 rfl (zb 64) blk_zero ?_))
    refine (begin_any _ HG.out).mono ?_
    rintro e w2 ⟨cs2, hs2, rfl, hb2⟩
    have HS2 := Lib.hid hs2
    have G2 := Lib.hid (HG.out.next hb2)
    have K0 := Lib.hid (HB0.out.next hb2)
    have K1 := Lib.hid (HB1.out.next hb2)
    have B2 := Lib.hid (HBW.out.trans (hb2.mono HBW.out.size))
    clear hs2 hb2 HB0 HB1 HBW HG
    go_wp2_with fail
    refine (streamAdd_any cs2 [] s w2 HS2.out G2.out (by simp; omega)).mono ?_
    rintro e w3 ⟨cs3, hs3, rfl, hb3⟩
    have HS3 := Lib.hid hs3
    have G3 := Lib.hid (G2.out.next hb3)
    have L0 := Lib.hid (K0.out.next hb3)
    have L1 := Lib.hid (K1.out.next hb3)
    have B3 := Lib.hid (B2.out.trans (hb3.mono B2.out.size))
    clear hs3 hb3 K0 K1 B2 G2
    go_wp2_with fail
    refine (streamSum_any cs3 _ w3 HS3.out G3.out (by have : s.data.toList.length = s.size := Array.length_toList; simp; omega)).mono ?_
    rintro e w4 ⟨rfl, hb4⟩
    rw [List.nil_append]
    have M0 := Lib.hid ((L0.out.next hb4).alloc (.cells (zb 32).toArray 24))
    have M1 := Lib.hid ((L1.out.next hb4).alloc (.cells (zb 32).toArray 24))
    have M2 := Lib.hid (Blk.new w4 24 (zb 32))
    have B4 := Lib.hid ((B3.out.trans (hb4.mono B3.out.size)).alloc (by have := B3.out.size; have := hb4.size; omega) (.cells (zb 32).toArray 24))
    have hs4 : w.heap.size + 1 < w4.heap.size := (L1.out.next hb4).lt
    clear hb4 L0 L1 B3 G3
    go_wp2_with (first | (refine wpList_alloc_zero rfl 24 rfl (zb 32) a32_zero ?_) | (refine wpList_store_all rfl _ (.tmp 4) (.tmp 15) rfl w4.heap.size _ (zb 32) (bc (Hm.sum s.data.toList)) rfl rfl M2.out (by rw [bc_len, zb_len, sum_len]) (by rw [a32_size, bc_len, sum_len]) (bc_one _) ?_; intro w5 HB5 ho5))
    refine wp_region_any (by kernel_rfl) ?_
    have N0 := (ho5.blk M0.out (by omega)).drew
    have N1 := (ho5.blk M1.out (by omega)).drew
    have N2 := HB5.out.drew
    have NB := (B4.out.trans (ho5.below (by omega))).drew
    change wpAny _ _ _ _ _ _ _ w5.drew
    generalize w5.drew = w6 at N0 N1 N2 NB ⊢
    refine any_take (i := 0) (some 16) rfl rfl rfl (by kernel_rfl) (by kernel_rfl) (by kernel_rfl) (.slice (some ⟨w.heap.size + 1, 0, none⟩) 64 64) (fun _ _ _ h => h) (fun W => exec_slice_all 33 (.tmp 3) rfl _ _ rfl (hsl W)) ?_
    go_frame
    refine any_take (i := 1) (some 17) rfl rfl rfl (by kernel_rfl) (by kernel_rfl) (by kernel_rfl) (.slice (some ⟨w4.heap.size, 0, none⟩) 32 32) (fun _ _ _ h => h) (fun W => exec_slice_all 24 (.tmp 4) rfl _ _ rfl (run_slice_all 24 32 a32_under W w4.heap.size)) ?_
    go_frame
    refine any_one (i := 2) (by kernel_rfl) (op_copy_bytes (some 18) rfl rfl rfl (.tmp 16) (.tmp 17) rfl (w.heap.size + 1) 0 64 64 (some ⟨w4.heap.size, 0, none⟩) 32 32 rfl rfl _ (zb 64) (Hm.sum s.data.toList) N1 rfl (by intro e; have := sum_len s.data.toList; rw [e] at this; cases this) (blk_rd N2) (by rw [sum_len, zb_len]; omega) ?_)
    intro w7 hb7 ho7
    rw [HT.out] at hb7
    refine wpAny_done (by kernel_rfl) ?_ _
    have F0 := Lib.hid (ho7.blk N0 (by omega))
    have F1 := Lib.hid hb7
    have FB := Lib.hid (NB.trans (ho7.below (by omega)))
    clear N0 N1 N2 NB hb7 ho7 ho5 HB5 M0 M1 M2 B4
    go_frame
    go_wp2_with (first | (refine wpList_load_all rfl _ (.tmp 3) rfl (w.heap.size + 1) _ (bc (keyBlock s.data.toList)) _ rfl F1.out blk_under rfl (by rw [blk_size, HK.out]) ?_) | (refine wpList_store_all rfl _ (.tmp 2) (.tmp 19) rfl w.heap.size _ (zb 64) (bc (keyBlock s.data.toList)) rfl rfl F0.out (by rw [HK.out, zb_len]) (by rw [blk_size, HK.out]) (bc_one _) ?_; intro w8 HB8 ho8))
    exact bodyPost_ret (results_blk rfl _ _ w.heap.size _ (bc (keyBlock s.data.toList)) _ rfl HB8.out blk_under rfl (by rw [blk_size, HK.out])) rfl ⟨rfl, FB.out.trans (ho8.below (Nat.le_refl _))⟩

theorem xor_u8 (x y : UInt8) : bits .xor .u8 (x.toNat : Int) (y.toNat : Int) = ((x ^^^ y).toNat : Int) := by
  have ha := x.toNat_lt
  have hb := y.toNat_lt
  have h : x.toNat ^^^ y.toNat < 2 ^ 8 := Nat.xor_lt_two_pow (by omega) (by omega)
  have e : ∀ z : UInt8, (BitVec.ofInt 8 (z.toNat : Int)).toNat = z.toNat := fun z => by
    rw [BitVec.ofInt_natCast, BitVec.toNat_ofNat]; exact Nat.mod_eq_of_lt z.toNat_lt
  have hw : ∀ n : Int, IntKind.u8.wrap n = n % 256 := fun n => by simp [IntKind.wrap, IntKind.bits, IntKind.signed]
  show IntKind.u8.wrap ((BitVec.ofInt 8 (x.toNat : Int) ^^^ BitVec.ofInt 8 (y.toNat : Int)).toNat : Int) = _
  rw [BitVec.toNat_xor, e, e, hw, UInt8.toNat_xor]; omega
/-- The first k bytes combined with x. -/
def mixB (b : List UInt8) (x : UInt8) (k : Nat) : List UInt8 := xored (b.take k) x ++ b.drop k
theorem mixB_len (b : List UInt8) (x : UInt8) (k : Nat) : (mixB b x k).length = b.length := by simp [mixB, xored]; omega
theorem mixB_step (b : List UInt8) (x : UInt8) (k : Nat) (h : k < b.length) : (bc (mixB b x k)).set k (.int .u8 (b[k] ^^^ x).toNat) = bc (mixB b x (k + 1)) := by
  have hl : (xored (b.take k) x).length = k := by rw [xored_len, List.length_take]; omega
  have e1 : mixB b x k = xored (b.take k) x ++ b[k] :: b.drop (k + 1) := by unfold mixB; rw [List.drop_eq_getElem_cons h]
  have e2 : mixB b x (k + 1) = xored (b.take k) x ++ (b[k] ^^^ x) :: b.drop (k + 1) := by
    unfold mixB xored; rw [List.take_succ_eq_append_getElem h, List.map_append, List.append_assoc]; rfl
  rw [e1, e2, bc_app, bc_app, List.set_append_right _ _ (by rw [bc_len, hl]; exact Nat.le_refl _), bc_len, hl, Nat.sub_self]
  rfl
theorem mixB_at (b : List UInt8) (x : UInt8) (k : Nat) (h : k < b.length) : (bc (mixB b x k))[k]? = some (.int .u8 b[k].toNat) := by
  have hl : (xored (b.take k) x).length = k := by rw [xored_len, List.length_take]; omega
  have e1 : mixB b x k = xored (b.take k) x ++ b[k] :: b.drop (k + 1) := by unfold mixB; rw [List.drop_eq_getElem_cons h]
  rw [e1, bc_app, List.getElem?_append_right (by rw [bc_len, hl]; exact Nat.le_refl _), bc_len, hl, Nat.sub_self]
  rfl

set_option maxRecDepth 100000 in
set_option maxHeartbeats 1000000 in
theorem beginWith_any (b : List UInt8) (x : UInt8) (w : World) (hl : b.length = 64) (hg : Glob w) :
    Calls Tryd.prog 59 #[.agg (bc b).toArray, .int .u8 x.toNat] w fun e w' => ∃ cs, Sm cs (xored b x) ∧ e = .returned (.agg cs.toArray) ∧ Below w.heap.size w w' := by
  have HB0 := Lib.hid ((Blk.new w 33 (bc b)).alloc (.cells zs.toArray 36))
  have hb1 := Blk.new (w.alloc (.cells (bc b).toArray 33)) 36 zs
  rw [size_alloc] at hb1
  have HB1 := Lib.hid hb1
  have HBW := Lib.hid (((Below.refl w.heap.size w).alloc (Nat.le_refl _) (.cells (bc b).toArray 33)).alloc (by simp) (.cells zs.toArray 36))
  have HG := Lib.hid hg
  have HL := Lib.hid hl
  have hxl := x.toNat_lt
  clear hg hb1 hl
  go_enter Tryd.func59, Tryd.ntmps59
  go_wp2_with (first | (refine wpList_alloc_zero rfl 36 rfl zs sm_zero ?_))
  go_loopw [6] (fun i wr => ∃ k : Nat, i = .int .i64 k ∧ k ≤ 64 ∧ Hid (Blk wr w.heap.size 33 (bc (mixB b x k))) ∧ Hid (Blk wr (w.heap.size + 1) 36 zs) ∧ Hid (Below w.heap.size w wr))
    (fun i _ => 64 - (intOf i).toNat)
  case atStart => exact ⟨0, rfl, by omega, HB0.out, HB1.out, HBW.out⟩
  case round =>
    clear HB0 HB1 HBW
    obtain ⟨k, rfl, hk, H0, H1, HB⟩ := hrel
    by_cases hlt : k < 64
    · have bk : (k : Int) < 64 := by omega
      have hkl : k < b.length := by rw [HL.out]; exact hlt
      obtain ⟨y, hy⟩ : ∃ y, b[k] = y := ⟨_, rfl⟩
      have hc : wr.cell? ⟨w.heap.size, k, none⟩ = some (.int .u8 y.toNat) := by rw [← hy]; exact (H0.out.cell k).trans (mixB_at b x k hkl)
      have hf : wr.frozen? ⟨w.heap.size, k, none⟩ = false := H0.out.frozen k
      have hs0 : w.heap.size < wr.heap.size := H0.out.lt
      have HV : Hid ((bc (mixB b x k)).set k (.int .u8 (bits .xor .u8 (y.toNat : Int) (x.toNat : Int))) = bc (mixB b x (k + 1))) := by show _ = _; rw [xor_u8, ← hy]; exact mixB_step b x k hkl
      clear hy
      go_wp2
      go_roundw
      case rel =>
        have hv := H0.out.set_ k (.int .u8 (bits .xor .u8 (y.toNat : Int) (x.toNat : Int)))
        rw [HV.out] at hv
        exact ⟨k + 1, by go_num, by omega, hv, H1.out.far (p := ⟨w.heap.size, k, none⟩) (by show w.heap.size + 1 ≠ w.heap.size; omega) _, HB.out.setCell (p := ⟨w.heap.size, k, none⟩) (by show w.heap.size ≤ w.heap.size; omega) _⟩
      case measure => simp [intOf]; omega
    · obtain rfl : k = 64 := by omega
      have hx : mixB b x 64 = xored b x := by unfold mixB; rw [List.take_of_length_le (by rw [HL.out]; omega), List.drop_eq_nil_of_le (by rw [HL.out]; omega), List.append_nil]
      rw [hx] at H0
      clear hx
      go_wp2
      refine wp_region_any (by kernel_rfl) ?_
      have N0 := H0.out.drew
      have N1 := H1.out.drew
      have NB := HB.out.drew
      have NG := (HG.out.next HB.out).drew
      change wpAny _ _ _ _ _ _ _ wr.drew
      generalize wr.drew = w6 at N0 N1 NB NG ⊢
      have hx64 : (xored b x).length = 64 := by rw [xored_len, HL.out]
      refine any_take (i := 1) (some 17) rfl rfl rfl (by kernel_rfl) (by kernel_rfl) (by kernel_rfl) (.slice (some ⟨w.heap.size, 0, none⟩) 64 64) (fun _ _ _ h => h) (fun W => exec_slice_all 33 (.tmp 2) rfl _ _ rfl (run_slice_all 33 64 blk_under W w.heap.size)) ?_
      go_frame
      refine any_one (i := 0) (by kernel_rfl) (op_call (some 16) rfl rfl rfl rfl Tryd.func16 (by kernel_rfl) (by kernel_rfl) #[] rfl (begin_any w6 NG) ?_)
      rintro e w7 ⟨cs7, hs7, rfl, hb7⟩
      refine ⟨_, rfl, ?_⟩
      go_frame
      have hadd := addB cs7 [] (some ⟨w.heap.size, 0, none⟩) 64 (xored b x) w7 hs7 (NG.next hb7) (blk_rd (N0.next hb7)) (by rw [hx64]; exact Nat.le_refl _) (by rw [hx64]; simp)
      rw [hx64, List.nil_append] at hadd
      refine any_one (i := 2) (by kernel_rfl) (op_call (some 18) rfl rfl rfl rfl Tryd.func35 (by kernel_rfl) (by kernel_rfl) #[.agg cs7.toArray, .slice (some ⟨w.heap.size, 0, none⟩) 64 64] rfl hadd ?_)
      rintro e w8 ⟨cs8, hs8, rfl, hb8⟩
      refine ⟨_, rfl, ?_⟩
      go_frame
      have M1 := (N1.next hb7).next hb8
      have MB := (NB.trans (hb7.mono NB.size)).trans (hb8.mono (Nat.le_trans NB.size hb7.size))
      refine any_one (i := 3) (by kernel_rfl) (op_store_all rfl rfl rfl 36 (.tmp 4) (.tmp 18) rfl (w.heap.size + 1) _ zs cs8 rfl rfl M1 (by rw [zs_len, hs8.len]) hs8.size_ hs8.one ?_)
      intro w9 hb9 ho9
      refine wpAny_done (by kernel_rfl) ?_ _
      have F1 := Lib.hid hb9
      have FB := Lib.hid (MB.trans (ho9.below (by omega)))
      have FS := Lib.hid hs8
      clear N0 N1 NB NG hadd hs7 hb7 hs8 hb8 M1 MB hb9 ho9
      go_frame
      go_wp2
      exact bodyPost_ret (results_blk rfl _ _ (w.heap.size + 1) _ cs8 _ rfl F1.out Tryd.underlying36 rfl FS.out.size_) rfl ⟨cs8, FS.out, rfl, FB.out⟩
end Go.Proofs.YtoendbdpkkjjkaaDoor
