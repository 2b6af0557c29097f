/- Laws: copy into a block that is known whole, from a slice and from a string; cells of a stream. -/
import Derived.Test.YtfbemmeonkceiaaDoorMB
import Derived.Deep.RegionHeld
namespace Go.Proofs.YtfbemmeonkceiaaDoor
open Go.RowKit Hm

section
variable {w : World} {ops : Array Oper} {rest : List Oper} {o : Oper} {a : Act} {Q : Exit → Act → World → Prop}
theorem u8_one : (Tryd.prog.info? 5).map (·.size) = some 1 := by kernel_rfl
set_option maxRecDepth 100000 in
theorem run_copy_bytes (w : World) (ty : TypeId) (g off dLen dCap : Nat) (A : Option Addr) (sLen sCap : Nat) (t : TypeId) (cur : List Value) (x : List UInt8) (hb : Blk w g t cur) (hn : x.length = Nat.min sLen dLen) (hx : x ≠ []) (hr : Rd w A (bc x)) (hfit : off + x.length ≤ cur.length) :
    (Builtin.copy_ #[75, 75] ty #[.slice (some ⟨g, off, none⟩) dLen dCap, .slice A sLen sCap]).run Tryd.prog w = .ok (goInt x.length) (w.setRow g (splice cur off (bc x)).toArray) := by
  have hne : bc x ≠ [] := by intro e; apply hx; have := bc_len x; rw [e] at this; exact List.eq_nil_of_length_eq_zero this.symm
  obtain ⟨ad, rfl, hc⟩ := hr.news hne
  have h := run_copy_row (P := Tryd.prog) w 75 75 ty 5 g off dLen dCap ad sLen sCap cur.toArray t (bc x) Tryd.underlying75 u8_one hb (by rw [bc_len]; exact hn) (fun j v hv => hc j v hv) (by rw [bc_len]; simpa using hfit) (bc_one x)
  rw [bc_len] at h
  rw [h]
  congr 2
  simp [splice, bc_len]
theorem run_copy_text (w : World) (ty : TypeId) (g off dLen dCap : Nat) (s : ByteArray) (t : TypeId) (cur : List Value) (x : List UInt8) (hb : Blk w g t cur) (hn : x.length = Nat.min s.size dLen) (hx : x = s.data.toList.take x.length) (hfit : off + x.length ≤ cur.length) :
    (Builtin.copy_ #[75, 9] ty #[.slice (some ⟨g, off, none⟩) dLen dCap, .string s]).run Tryd.prog w = .ok (goInt x.length) (w.setRow g (splice cur off (bc x)).toArray) := by
  have hst := run_storeCells_at Tryd.prog g off t (bc x) 0 cur.toArray w hb (by rw [bc_len]; simpa using hfit) (bc_one x)
  have e : (cur.toArray.toList.take (off + 0) ++ bc x ++ cur.toArray.toList.drop (off + 0 + (bc x).length)).toArray = (splice cur off (bc x)).toArray := by simp [splice]
  rw [e] at hst
  have he : List.take x.length (List.map (fun b : UInt8 => Value.int .u8 b.toNat) s.data.toList) = bc x := by
    rw [← List.map_take, ← hx]; rfl
  generalize splice cur off (bc x) = R at hst ⊢
  generalize hX : bc x = X at hst he
  generalize hN : x.length = N at hn he ⊢
  cases hq : Tryd.prog.info? 5 with
  | none => have := u8_one; simp [hq] at this
  | some i =>
    simp [Builtin.copy_, run_underlying Tryd.underlying75, Builtin.lenOf, Builtin.firstCells, sizeOf, typeInfo, hq, ← hn, he, hst]

theorem wpList_copy_bytes (hgd : o.guard = none) (d s : Operand) (ho : o.op = .call { callee := .builtin .copy, args := #[d, s], argTypes := #[75, 75] })
    (g off dLen dCap : Nat) (A : Option Addr) (sLen sCap : Nat) (hd : a.eval d = .slice (some ⟨g, off, none⟩) dLen dCap) (hs : a.eval s = .slice A sLen sCap)
    (t : TypeId) (cur : List Value) (x : List UInt8) (hb : Blk w g t cur) (hn : x.length = Nat.min sLen dLen) (hx : x ≠ []) (hr : Rd w A (bc x)) (hfit : off + x.length ≤ cur.length)
    (h : ∀ w', Hid (Blk w' g t (splice cur off (bc x))) → Only g w w' → wpList Tryd.prog ops Q rest (a.put o.dst (goInt x.length)) w') : wpList Tryd.prog ops Q (o :: rest) a w := by
  refine wpList_plain hgd fun K hK => ?_
  have hrun := run_copy_bytes w o.type g off dLen dCap A sLen sCap t cur x hb hn hx hr hfit
  unfold Oper.wp execOp
  simp only [ho, resolve, invoke, builtin, Sem.run_bind, Sem.run_pure, Result.andThen_ok, List.map_toArray, List.map_cons, List.map_nil, hd, hs, hrun]
  exact hK _ _ (h _ (setRow_heap w g _ _ t _ hb) (Only.setRow w g _))
theorem wpList_copy_text (hgd : o.guard = none) (d s : Operand) (ho : o.op = .call { callee := .builtin .copy, args := #[d, s], argTypes := #[75, 9] })
    (g off dLen dCap : Nat) (st : ByteArray) (hd : a.eval d = .slice (some ⟨g, off, none⟩) dLen dCap) (hs : a.eval s = .string st)
    (t : TypeId) (cur : List Value) (x : List UInt8) (hb : Blk w g t cur) (hn : x.length = Nat.min st.size dLen) (hx : x = st.data.toList.take x.length) (hfit : off + x.length ≤ cur.length)
    (h : ∀ w', Hid (Blk w' g t (splice cur off (bc x))) → Only g w w' → wpList Tryd.prog ops Q rest (a.put o.dst (goInt x.length)) w') : wpList Tryd.prog ops Q (o :: rest) a w := by
  refine wpList_plain hgd fun K hK => ?_
  have hrun := run_copy_text w o.type g off dLen dCap st t cur x hb hn hx hfit
  unfold Oper.wp execOp
  simp only [ho, resolve, invoke, builtin, Sem.run_bind, Sem.run_pure, Result.andThen_ok, List.map_toArray, List.map_cons, List.map_nil, hd, hs, hrun]
  exact hK _ _ (h _ (setRow_heap w g _ _ t _ hb) (Only.setRow w g _))
end

/-- The cells of a stream. -/
def smc (v : H8) (r : List UInt8) (n : Nat) : List Value := wc v.toL ++ (bc r ++ [.int .u64 n])
theorem smc_len (v : H8) (r : List UInt8) (n : Nat) (h : r.length = 64) : (smc v r n).length = 73 := by simp [smc, wc_len, bc_len, H8.toL_len, h]
theorem bc_splice (r c : List UInt8) (k : Nat) : splice (bc r) k (bc c) = bc (splice r k c) := by simp [splice, bc, List.map_take, List.map_drop]
theorem smc_copy (v : H8) (r c : List UInt8) (n k : Nat) (hr : r.length = 64) (hk : k + c.length ≤ 64) : splice (smc v r n) (8 + k) (bc c) = smc v (splice r k c) n := by
  unfold smc
  rw [← bc_splice]
  have hw : (wc v.toL).length = 8 := by rw [wc_len, H8.toL_len]
  have hb : (bc r).length = 64 := by rw [bc_len, hr]
  have e1 : (wc v.toL ++ (bc r ++ [Value.int .u64 n])).take (8 + k) = wc v.toL ++ (bc r).take k := by
    rw [List.take_append, hw, List.take_of_length_le (by omega), show 8 + k - 8 = k from by omega, List.take_append_of_le_length (by omega)]
  have e2 : (wc v.toL ++ (bc r ++ [Value.int .u64 n])).drop (8 + k + (bc c).length) = (bc r).drop (k + (bc c).length) ++ [Value.int .u64 n] := by
    rw [List.drop_append, hw, List.drop_eq_nil_of_le (by omega), List.nil_append, show 8 + k + (bc c).length - 8 = k + (bc c).length from by omega, List.drop_append_of_le_length (by rw [bc_len]; omega)]
  show _ ++ (_ ++ _) = _
  rw [e1, e2]
  simp [splice]
theorem smc_size (v : H8) (r : List UInt8) (n n' : Nat) (hr : r.length = 64) : (smc v r n).set 72 (.int .u64 n') = smc v r n' := by
  unfold smc
  rw [List.set_append_right _ _ (by rw [wc_len, H8.toL_len]; omega), wc_len, H8.toL_len, List.set_append_right _ _ (by rw [bc_len]; omega), bc_len, hr]
  rfl
theorem smc_value (v v' : H8) (r : List UInt8) (n : Nat) : splice (smc v r n) 0 (wc v'.toL) = smc v' r n := by
  unfold smc splice
  simp only [List.take_zero, List.nil_append, Nat.zero_add]
  rw [wc_len, H8.toL_len, List.drop_append, wc_len, H8.toL_len, List.drop_eq_nil_of_le (by rw [wc_len, H8.toL_len]; omega)]
  rfl
theorem smc_take (v : H8) (r : List UInt8) (n : Nat) : ((smc v r n).drop 0).take (wc v.toL).length = wc v.toL := by
  unfold smc
  rw [List.drop_zero, List.take_append_of_le_length (Nat.le_refl _), List.take_of_length_le (Nat.le_refl _)]
theorem smc_rest (v : H8) (r : List UInt8) (n : Nat) : ((smc v r n).drop 8).take (bc r).length = bc r := by
  unfold smc
  rw [List.drop_append, wc_len, H8.toL_len, List.drop_eq_nil_of_le (by rw [wc_len, H8.toL_len]; omega), List.nil_append, Nat.sub_self, List.drop_zero, List.take_append_of_le_length (Nat.le_refl _), List.take_of_length_le (Nat.le_refl _)]
theorem smc_at (v : H8) (r : List UInt8) (n : Nat) (hr : r.length = 64) : (smc v r n)[72]? = some (.int .u64 n) := by
  unfold smc
  rw [List.getElem?_append_right (by rw [wc_len, H8.toL_len]; omega), wc_len, H8.toL_len, List.getElem?_append_right (by rw [bc_len, hr]; omega), bc_len, hr]
  rfl
theorem smc_one (v : H8) (r : List UInt8) (n : Nat) : ∀ u ∈ smc v r n, u.oneCell' = true := by
  intro u hu
  unfold smc at hu
  simp only [List.mem_append, List.mem_singleton] at hu
  rcases hu with hu | hu | rfl
  · exact wc_one _ u hu
  · exact bc_one _ u hu
  · rfl
end Go.Proofs.YtfbemmeonkceiaaDoor

/- Contract of add at a slice of bytes. -/
namespace Go.Proofs.YtfbemmeonkceiaaDoor
open Go.RowKit Hm

theorem add_u64w (N j : Nat) (h : N + j < 18446744073709551616) : IntKind.u64.wrap ((N : Int) + (j : Int)) = ((N + j : Nat) : Int) := by rw [IntKind.wrap_u64]; omega

/-- What the parts of a stream are after more bytes. -/
def stepV (v : H8) (r c : List UInt8) (n : Nat) : H8 := if (n + c.length) % 64 = 0 then compress v (splice r (n % 64) c) else v
theorem st_step {v : H8} {r m : List UInt8} (h : StOf v r m) (c : List UInt8) (hc : m.length % 64 + c.length ≤ 64) (h0 : 0 < c.length) : StOf (stepV v r c m.length) (splice r (m.length % 64) c) (m ++ c) := by
  unfold stepV
  by_cases he : m.length % 64 + c.length = 64
  · rw [if_pos (by omega)]; exact h.fill c he
  · rw [if_neg (by omega)]; exact h.more c (by omega)

/-- How long a slice or a text is. -/
def sliceLen : Value → Nat
  | .slice _ n _ => n
  | .string s => s.size
  | _ => 0
theorem blk_count {w : World} {g : Nat} {t : TypeId} {v : H8} {r : List UInt8} {n : Nat} (h : Blk w g t (smc v r n)) (hr : r.length = 64) (k : Nat) :
    Blk (w.setCell ⟨g, 72, none⟩ (.int .u64 ((n : Int) + (k : Int)))) g t (smc v r (n + k)) := by
  have := h.set_ 72 (.int .u64 ((n + k : Nat) : Int))
  rw [smc_size v r n (n + k) hr] at this
  rw [show (n : Int) + (k : Int) = ((n + k : Nat) : Int) from by omega]
  exact this
theorem run_slice_bytes (A : Option Addr) (n c k : Nat) (hk : k ≤ n) (_hn : n ≤ c) (W : World) :
    (Instr.sliceAt 75 (.slice A n c) (some (.int .i64 k)) none none).run Tryd.prog W = .ok (.slice (if c = k then A else A.map (·.add k)) (n - k) (c - k)) W := by
  have hu : Tryd.prog.underlying 75 = some (.slice 5) := Tryd.underlying75
  simp [Instr.sliceAt, Instr.slice, run_underlying hu, Instr.sliceBounds, run_sliceBound, (by omega : (k : Int) ≤ n)]

set_option maxRecDepth 100000 in
set_option maxHeartbeats 4000000 in
theorem addB_any (v : H8) (r m : List UInt8) (A : Option Addr) (c : Nat) (t : List UInt8) (w : World) (hst : StOf v r m) (hg : Glob w) (hr : Rd w A (bc t)) (hc : t.length ≤ c) (hlen : m.length + t.length ≤ 1099511627776) :
    Calls Tryd.prog 65 #[.agg (smc v r m.length).toArray, .slice A t.length c] w fun e w' => ∃ v' r', StOf v' r' (m ++ t) ∧ e = .returned (.agg (smc v' r' (m ++ t).length).toArray) ∧ Below w.heap.size w w' := by
  have hg2 := hg.two
  have HB0 := Lib.hid ((Blk.new w 107 (smc v r m.length)).alloc (.cells zs.toArray 107))
  have HB1 := Lib.hid (Blk.new (w.alloc (.cells (smc v r m.length).toArray 107)) 107 zs)
  have hb2 : Below w.heap.size w ((w.alloc (.cells (smc v r m.length).toArray 107)).alloc (.cells zs.toArray 107)) := ((Below.refl _ _).alloc (Nat.le_refl _) _).alloc (by simp) _
  have HB2 := Lib.hid hb2
  have HG := Lib.hid hg
  have HS := Lib.hid hst
  have HR := Lib.hid hr
  have HC := Lib.hid hc
  have HLEN := Lib.hid hlen
  clear hst hg hr hc hlen hb2
  go_enter Tryd.func65, Tryd.ntmps65
  go_wp2_with (first | (refine wpList_alloc_zero rfl 107 rfl zs sm_zero ?_))
  go_frame
  rw [size_alloc]
  go_loopw [1] (fun x wr => ∃ (p q : List UInt8) (A1 : Option Addr) (c1 : Nat) (v1 : H8) (r1 : List UInt8), x = .slice A1 q.length c1 ∧ Hid (p ++ q = t) ∧ Hid (q.length ≤ c1) ∧ Hid (StOf v1 r1 (m ++ p)) ∧ Hid (Rd w A1 (bc q)) ∧
      Hid (Blk wr w.heap.size 107 (smc v1 r1 (m ++ p).length)) ∧ Hid (Blk wr (w.heap.size + 1) 107 zs) ∧ Hid (Below w.heap.size w wr))
    (fun x _ => sliceLen x)
  case atStart =>
    exact ⟨[], t, A, c, v, r, rfl, rfl, HC.out, (by show StOf _ _ _; rw [List.append_nil]; exact HS.out), HR.out, (by show Blk _ _ _ _; rw [List.append_nil]; exact HB0.out), (by have h := HB1.out; rw [size_alloc] at h; exact h : Blk _ _ _ _), HB2.out⟩
  case round =>
    clear HB0 HB1 HB2 HS HR HC
    obtain ⟨p, q, A1, c1, v1, r1, rfl, HPQ, HC, HS, HR, H0, H1, HB⟩ := hrel
    rcases q with _ | ⟨b0, q0⟩
    · have hpt := HPQ.out
      rw [List.append_nil] at hpt
      subst hpt
      go_wp2_with (first | (refine wpList_load_all rfl _ (.tmp 2) rfl w.heap.size _ (smc v1 r1 (m ++ p).length) _ rfl H0.out Tryd.underlying107 rfl (by rw [sm_size, smc_len _ _ _ HS.out.len]) ?_) | (refine wpList_store_all rfl _ (.tmp 4) (.tmp 35) rfl (w.heap.size + 1) _ zs (smc v1 r1 (m ++ p).length) rfl rfl H1.out (by rw [zs_len, smc_len _ _ _ HS.out.len]) (by rw [sm_size, smc_len _ _ _ HS.out.len]) (smc_one _ _ _) ?_; intro w3 HB3 ho3))
      exact bodyPost_ret (results_blk rfl _ _ (w.heap.size + 1) _ (smc v1 r1 (m ++ p).length) _ rfl HB3.out Tryd.underlying107 rfl (by rw [sm_size, smc_len _ _ _ HS.out.len])) rfl ⟨v1, r1, HS.out, rfl, HB.out.trans (ho3.below (by omega))⟩
    · obtain ⟨q, hq⟩ : ∃ q, b0 :: q0 = q := ⟨_, rfl⟩
      rw [hq] at HPQ HC HR ⊢
      have hq0 : 0 < q.length := by rw [← hq]; simp
      obtain ⟨M, hM⟩ : ∃ M, m ++ p = M := ⟨_, rfl⟩
      have hML : M.length + q.length ≤ 1099511627776 := by
        have h1 := HLEN.out
        have h2 := congrArg List.length HPQ.out
        have h3 := congrArg List.length hM
        simp at h2 h3; omega
      rw [hM] at HS H0
      have HM := Lib.hid hM
      have HQ := Lib.hid hq
      obtain ⟨k, hk⟩ : ∃ k, M.length % 64 = k := ⟨_, rfl⟩
      have hk64 : k < 64 := by omega
      obtain ⟨j, hj⟩ : ∃ j, min q.length (64 - k) = j := ⟨_, rfl⟩
      obtain ⟨x, hx⟩ : ∃ x, q.take j = x := ⟨_, rfl⟩
      have hxl : x.length = j := by rw [← hx, List.length_take]; omega
      have hj0 : 0 < j := by omega
      have hjq : j ≤ q.length := by omega
      have hjk : k + j ≤ 64 := by omega
      subst hxl
      have hcc := HC.out
      obtain ⟨A2, hA2⟩ : ∃ A2, (if c1 = x.length then A1 else A1.map (·.add x.length)) = A2 := ⟨_, rfl⟩
      have hR2 : Rd w A2 (bc (q.drop x.length)) := by
        rw [bc_drop, ← hA2]
        exact HR.out.cut (by rw [bc_len]; exact hcc)
      have hsl := fun (W : World) => run_slice_from 105 64 blk_under W w.heap.size 8 .u64 (k : Int) k rfl hk64
      have hsl2 := fun (W : World) => run_slice_bytes A1 q.length c1 x.length hjq hcc W
      rw [hA2] at hsl2
      have hrem : (M.length : Int) % 64 = (k : Int) := by omega
      have hn72 : wr.cell? ⟨w.heap.size, 72, none⟩ = some (.int .u64 M.length) := (H0.out.cell 72).trans (smc_at v1 r1 M.length HS.out.len)
      have hqi : (0 : Int) < (q.length : Int) := by omega
      have HR1 : Hid (Rd wr A1 (bc x)) := by rw [← hx, bc_take]; exact (HR.out.take _).below HB.out
      have HR2 := Lib.hid hR2
      obtain ⟨r2, hr2⟩ : ∃ r2, splice r1 k x = r2 := ⟨_, rfl⟩
      have hstep := st_step HS.out x (by omega) hj0
      rw [hk, hr2] at hstep
      have HST := Lib.hid hstep
      have HCP : Hid (splice (smc v1 r1 M.length) (8 + k) (bc x) = smc v1 r2 M.length) := by show _ = _; rw [← hr2]; exact smc_copy v1 r1 x M.length k HS.out.len hjk
      have HX := Lib.hid hx
      have HJ := Lib.hid hj
      have HJ0 := Lib.hid hj0
      have HK := Lib.hid hk
      have HJK := Lib.hid hjk
      have HA2 := Lib.hid hA2
      have HSTV : Hid (stepV v1 r1 x M.length = if (M.length + x.length) % 64 = 0 then compress v1 r2 else v1) := by show stepV _ _ _ _ = _; unfold stepV; rw [hk, hr2]
      have HXN : Hid (x ≠ []) := by intro e; rw [e] at hj0; simp at hj0
      have HMIN : Hid (x.length = Nat.min q.length (64 - k)) := by show _ = min _ _; omega
      clear hx hj hk hM hq hstep hr2 hA2 hR2 hj0 HR
      by_cases hz : (M.length + x.length) % 64 = 0
      · have hz1 : (((M.length : Int) + (x.length : Int)) % 64 == 0) = true := by rw [beq_iff_eq]; omega
        have hz2 : ((M.length : Int) + (x.length : Int)) % 64 = 0 := by omega
        have HV : Hid (stepV v1 r1 x M.length = compress v1 r2) := by rw [HSTV.out, if_pos hz]; rfl
        clear hz HSTV
        go_wp2_with (first | (refine wpList_copy_bytes rfl (.tmp 13) (.tmp 14) rfl w.heap.size (8 + k) (64 - k) (64 - k) A1 q.length c1 rfl rfl _ (smc v1 r1 M.length) x H0.out HMIN.out HXN.out HR1.out (by rw [smc_len _ _ _ HS.out.len]; omega) ?_; intro w2 HB2 ho2; rw [HCP.out] at HB2; have hn2 : w2.cell? ⟨w.heap.size, 72, none⟩ = some (.int .u64 M.length) := (HB2.out.cell 72).trans (smc_at v1 r2 M.length HST.out.len); have hf2 : w2.frozen? ⟨w.heap.size, 72, none⟩ = false := HB2.out.frozen 72; have hs2 : w.heap.size < w2.heap.size := HB2.out.lt; have HB4 := Lib.hid (blk_count HB2.out HST.out.len x.length); have HBB := Lib.hid ((HB.out.trans (ho2.below (Nat.le_refl _))).setCell (p := ⟨w.heap.size, 72, none⟩) (Nat.le_refl w.heap.size) (.int .u64 ((M.length : Int) + (x.length : Int))))) | (refine wpList_load_part rfl _ (.tmp 29) rfl w.heap.size 0 _ (smc v1 r2 (M.length + x.length)) (wc v1.toL) _ rfl HB4.out (smc_take _ _ _) st_under rfl (by rw [st_size, wc_len, H8.toL_len]) ?_) | (refine wpList_load_part rfl _ (.tmp 31) rfl w.heap.size 8 _ (smc v1 r2 (M.length + x.length)) (bc r2) _ rfl HB4.out (smc_rest _ _ _) blk_under rfl (by rw [blk_size, bc_len, HST.out.len]) ?_))
        refine (compress_any v1 r2 _ HST.out.len (HG.out.next HBB.out)).mono ?_
        rintro e w5 ⟨rfl, hb5⟩
        have HB5 := Lib.hid (HB4.out.next hb5)
        have K1 := Lib.hid ((ho2.blk H1.out (by omega)).far (p := ⟨w.heap.size, 72, none⟩) (by show w.heap.size + 1 ≠ w.heap.size; omega) (.int .u64 ((M.length : Int) + (x.length : Int))))
        have K1' := Lib.hid (K1.out.next hb5)
        have KB := Lib.hid (HBB.out.trans (hb5.mono HBB.out.size))
        clear HB2 HB4 ho2 hn2 hf2 hs2 hb5 K1 HBB hsl hsl2
        go_wp2_with (first | (refine wpList_store_part rfl _ (.tmp 34) (.tmp 33) rfl w.heap.size 0 _ (smc v1 r2 (M.length + x.length)) (wc (compress v1 r2).toL) rfl rfl HB5.out (by rw [wc_len, H8.toL_len, smc_len _ _ _ HST.out.len]; omega) (by rw [st_size, wc_len, H8.toL_len]) (wc_one _) ?_; intro w6 HB6 ho6; rw [smc_value] at HB6))
        go_frame
        go_roundw
        case rel =>
          have e := List.take_append_drop x.length q
          rw [HX.out] at e
          have hst := HST.out
          rw [HV.out, ← HM.out, List.append_assoc] at hst
          have hb6 := HB6.out
          rw [show M.length + x.length = (m ++ (p ++ x)).length from by rw [← List.append_assoc, HM.out, List.length_append]] at hb6
          exact ⟨p ++ x, q.drop x.length, A2, c1 - x.length, compress v1 r2, r2, by rw [List.length_drop], (by show _ = _; rw [List.append_assoc, e]; exact HPQ.out), (by show _ ≤ _; rw [List.length_drop]; have := HC.out; omega), hst,
            HR2.out, hb6, ho6.blk K1'.out (by omega), KB.out.trans (ho6.below (Nat.le_refl _))⟩
        case measure => have := HJ0.out; simp only [sliceLen]; omega
      · have hz1 : (((M.length : Int) + (x.length : Int)) % 64 == 0) = false := by rw [beq_eq_false_iff_ne]; omega
        have hz2 : ¬ ((M.length : Int) + (x.length : Int)) % 64 = 0 := by omega
        have HV : Hid (stepV v1 r1 x M.length = v1) := by rw [HSTV.out, if_neg hz]; rfl
        clear hz HSTV
        go_wp2_with (first | (refine wpList_copy_bytes rfl (.tmp 13) (.tmp 14) rfl w.heap.size (8 + k) (64 - k) (64 - k) A1 q.length c1 rfl rfl _ (smc v1 r1 M.length) x H0.out HMIN.out HXN.out HR1.out (by rw [smc_len _ _ _ HS.out.len]; omega) ?_; intro w2 HB2 ho2; rw [HCP.out] at HB2; have hn2 : w2.cell? ⟨w.heap.size, 72, none⟩ = some (.int .u64 M.length) := (HB2.out.cell 72).trans (smc_at v1 r2 M.length HST.out.len); have hf2 : w2.frozen? ⟨w.heap.size, 72, none⟩ = false := HB2.out.frozen 72; have hs2 : w.heap.size < w2.heap.size := HB2.out.lt; have HB4 := Lib.hid (blk_count HB2.out HST.out.len x.length); have HBB := Lib.hid ((HB.out.trans (ho2.below (Nat.le_refl _))).setCell (p := ⟨w.heap.size, 72, none⟩) (Nat.le_refl w.heap.size) (.int .u64 ((M.length : Int) + (x.length : Int))))))
        go_roundw
        case rel =>
          have e := List.take_append_drop x.length q
          rw [HX.out] at e
          have hst := HST.out
          rw [HV.out, ← HM.out, List.append_assoc] at hst
          have hb4 := HB4.out
          rw [show M.length + x.length = (m ++ (p ++ x)).length from by rw [← List.append_assoc, HM.out, List.length_append]] at hb4
          exact ⟨p ++ x, q.drop x.length, A2, c1 - x.length, v1, r2, by rw [List.length_drop], (by show _ = _; rw [List.append_assoc, e]; exact HPQ.out), (by show _ ≤ _; rw [List.length_drop]; have := HC.out; omega), hst,
            HR2.out, hb4, (ho2.blk H1.out (by omega)).far (p := ⟨w.heap.size, 72, none⟩) (by show w.heap.size + 1 ≠ w.heap.size; omega) _, HBB.out⟩
        case measure => have := HJ0.out; simp only [sliceLen]; omega
end Go.Proofs.YtfbemmeonkceiaaDoor

/- Contract of add at a string. -/
namespace Go.Proofs.YtfbemmeonkceiaaDoor
open Go.RowKit Hm

theorem extract_list (s : ByteArray) (k : Nat) : (s.extract k s.size).data.toList = s.data.toList.drop k := by
  rw [ByteArray.data_extract, Array.toList_extract]
  show List.extract _ k _ = _
  rw [List.extract_eq_take_drop, List.take_of_length_le]
  rw [List.length_drop, show s.data.toList.length = s.size from Array.length_toList]
  exact Nat.le_refl _
theorem run_slice_text (s : ByteArray) (k : Nat) (hk : k ≤ s.size) (W : World) :
    (Instr.sliceAt 9 (.string s) (some (.int .i64 k)) none none).run Tryd.prog W = .ok (.string (s.extract k s.size)) W := by
  have hu : Tryd.prog.underlying 9 = some .string := Tryd.underlying9
  simp [Instr.sliceAt, Instr.slice, run_underlying hu, Instr.sliceBounds, run_sliceBound, (by omega : (k : Int) ≤ s.size)]

end Go.Proofs.YtfbemmeonkceiaaDoor

/- Streams: Begin, Add. -/
namespace Go.Proofs.YtfbemmeonkceiaaDoor
open Go.RowKit Hm

/-- The cells of a stream whose message is m. -/
def Sm (cs : List Value) (m : List UInt8) : Prop := ∃ v r, StOf v r m ∧ cs = smc v r m.length
theorem Sm.len {cs : List Value} {m : List UInt8} (h : Sm cs m) : cs.length = 73 := by
  obtain ⟨v, r, hs, rfl⟩ := h
  exact smc_len _ _ _ hs.len
theorem Sm.one {cs : List Value} {m : List UInt8} (h : Sm cs m) : ∀ u ∈ cs, u.oneCell' = true := by
  obtain ⟨v, r, hs, rfl⟩ := h
  exact smc_one _ _ _
theorem Sm.size_ {cs : List Value} {m : List UInt8} (h : Sm cs m) : (Tryd.prog.info? 107).map (·.size) = some cs.length := by rw [sm_size, h.len]
theorem Sm.at_ {cs : List Value} {m : List UInt8} (h : Sm cs m) : cs[72]? = some (.int .u64 m.length) := by
  obtain ⟨v, r, hs, rfl⟩ := h
  exact smc_at _ _ _ hs.len

theorem addB (cs : List Value) (m : List UInt8) (A : Option Addr) (c : Nat) (t : List UInt8) (w : World) (h : Sm cs m) (hg : Glob w) (hr : Rd w A (bc t)) (hc : t.length ≤ c) (hlen : m.length + t.length ≤ 1099511627776) :
    Calls Tryd.prog 65 #[.agg cs.toArray, .slice A t.length c] w fun e w' => ∃ cs', Sm cs' (m ++ t) ∧ e = .returned (.agg cs'.toArray) ∧ Below w.heap.size w w' := by
  obtain ⟨v, r, hs, rfl⟩ := h
  exact (addB_any v r m A c t w hs hg hr hc hlen).mono fun _ _ ⟨v', r', h1, h2, h3⟩ => ⟨_, ⟨v', r', h1, rfl⟩, h2, h3⟩
def sm0 : List Value := smc ini (List.replicate 64 0) 0
theorem sm0_is : Sm sm0 [] := ⟨ini, List.replicate 64 0, StOf.begin_ _ rfl, rfl⟩
theorem run_build_sm (w : World) : (Instr.build 107 #[(0, .agg (wc ini.toL).toArray)]).run Tryd.prog w = .ok (.agg sm0.toArray) w := by kernel_rfl

set_option maxRecDepth 100000 in
set_option maxHeartbeats 400000 in
theorem begin_any (w : World) (hg : Glob w) : Calls Tryd.prog 66 #[] w fun e w' => ∃ cs, Sm cs [] ∧ e = .returned (.agg cs.toArray) ∧ Below w.heap.size w w' := by
  have HB := Lib.hid (Blk.new w 107 zs)
  have hb := (Below.refl w.heap.size w).alloc (Nat.le_refl _) (.cells zs.toArray 107)
  have HG := Lib.hid (range_below' hg.ini hb)
  have HBW := Lib.hid hb
  clear hg hb
  go_enter Tryd.func66, Tryd.ntmps66
  go_wp2_with (first | (refine wpList_alloc_zero rfl 107 rfl zs sm_zero ?_) | (refine wpList_load_mid rfl _ (.global 0) rfl 0 0 rfl (wc ini.toL) _ HG.out st_under rfl (by rw [st_size, wc_len, H8.toL_len]) ?_) | (refine wpList_build rfl 107 #[(0, .tmp 1)] rfl #[(0, .agg (wc ini.toL).toArray)] rfl _ (run_build_sm _) ?_) | (refine wpList_store_all rfl _ (.tmp 0) (.tmp 2) rfl w.heap.size _ zs sm0 rfl rfl HB.out (by rw [zs_len, sm0_is.len]) sm0_is.size_ sm0_is.one ?_; intro w3 HB3 ho3))
  exact bodyPost_ret (results_blk rfl _ _ w.heap.size _ sm0 _ rfl HB3.out Tryd.underlying107 rfl sm0_is.size_) rfl ⟨sm0, sm0_is, rfl, HBW.out.trans (ho3.below (Nat.le_refl _))⟩

end Go.Proofs.YtfbemmeonkceiaaDoor

/- Laws: a region that draws its order, taken by hand: what only reads first, then the calls and the store that are forced. -/
namespace Go.Proofs.YtfbemmeonkceiaaDoor
open Go.RowKit Hm

theorem Glob.only {g : Nat} {w w' : World} (h : Glob w) (ho : Only g w w') (hg : 3 < g) : Glob w' := by
  have hk : ∀ (b o : Nat) (xs : List Value), b ≠ g → w.rangeAt b o xs → w'.rangeAt b o xs := fun b o xs hb hr j v hv => by
    have h1 := hr j v hv
    rw [World.cell?_of_block (w := w) (ho.block b hb)]; exact h1
  exact ⟨hk 0 0 _ (by omega) h.ini, hk 3 0 _ (by omega) h.tab⟩

section
variable {P : Program} {md : Region.Mode} {ops : Array Oper} {Q : Exit → Act → World → Prop} {S : World → Prop} {i fuel : Nat} {oi : Oper} {listed : Array Bool} {a : Act} {w : World}
/-- An operation that yields its value in every world that meets S is taken first. -/
theorem reg_take (d : Option Tmp) (hi : ops[i]? = some oi) (hd : oi.dst = d) (hgd : oi.guard = none) (hs : Region.noSelect ops = true) (hf : Region.free md ops listed i = true) (hr : (Region.ready md ops listed).contains i = true)
    (v : Value) (hQ : ∀ c a w, Q (.panic c) (a.put d v) w → Q (.panic c) a w) (hy : ∀ W, S W → (execOp a.eval oi).run P W = .ok (.value v) W) (hS : S w)
    (h : wpAnyH P md ops Q S fuel (listed.setIfInBounds i true) (a.put d v) w) : wpAnyH P md ops Q S (fuel + 1) listed a w := by
  subst hd
  exact wpAnyH_take hi hs hf hr hQ (.inl ⟨by simp [Region.wanted, hgd], hy⟩) hS h
/-- The one operation that may come up. -/
theorem reg_one (hi : ops[i]? = some oi) (hgd : oi.guard = none) (hr : Region.ready md ops listed = [i])
    (h : oi.wp P a w (fun a' w' => S w' ∧ wpAnyH P md ops Q S fuel (listed.setIfInBounds i true) a' w') Q) : wpAnyH P md ops Q S (fuel + 1) listed a w :=
  wpAnyH_all hr (by simp) fun j hj => by
    obtain rfl : j = i := by simpa using hj
    unfold wpOp
    rw [hi]
    simp only
    rw [if_pos (by simp [Region.wanted, hgd])]
    exact .inl h
theorem callFunc_enter {F : FuncId} {fn : Func} (hf : P.funcs[F]? = some fn) (hn : (fn.name == "runtime.NumGoroutine") = false) (hb : fn.body.isNone = false) (vs : Array Value) : (callFunc F vs).run P w = .ok (.enter F vs) w := by
  have h1 : ¬ fn.name = "runtime.NumGoroutine" := by simpa using hn
  have h2 : ¬ fn.body = none := by intro e; rw [e] at hb; cases hb
  simp [callFunc, hf, h1, h2]
theorem wp_call_fn {K : Act → World → Prop} {F : FuncId} {xs : Array Operand} {ts : Array TypeId} (ho : oi.op = .call { callee := .value (.func F), args := xs, argTypes := ts }) {fn : Func} (hf : P.funcs[F]? = some fn) (hn : (fn.name == "runtime.NumGoroutine") = false) (hb : fn.body.isNone = false) (vs : Array Value) (hvs : xs.toList.map a.eval = vs.toList)
    {R : Ending → World → Prop} (hc : Calls P F vs w R) (h : ∀ e w', R e w' → ∃ v, e = .returned v ∧ K (a.put oi.dst v) w') : oi.wp P a w K Q := by
  obtain rfl : xs.map a.eval = vs := by apply Array.toList_inj.1; simpa using hvs
  have hrun : (execOp a.eval oi).run P w = .ok (.enter F (xs.map a.eval)) w := by
    simp [execOp, ho, resolve, invoke, Deferred.ofValue, Act.eval, callFunc_enter hf hn hb]
  unfold Oper.wp
  rw [hrun]
  refine Calls.mono hc fun e w' hR => ?_
  obtain ⟨v, rfl, hk⟩ := h e w' hR
  exact hk
theorem reg_call (d : Option Tmp) {F : FuncId} {xs : Array Operand} {ts : Array TypeId} (hi : ops[i]? = some oi) (hd : oi.dst = d) (hgd : oi.guard = none) (hr : Region.ready md ops listed = [i]) (ho : oi.op = .call { callee := .value (.func F), args := xs, argTypes := ts })
    {fn : Func} (hf : P.funcs[F]? = some fn) (hn : (fn.name == "runtime.NumGoroutine") = false) (hb : fn.body.isNone = false) (vs : Array Value) (hvs : xs.toList.map a.eval = vs.toList) {R : Ending → World → Prop} (hc : Calls P F vs w R)
    (h : ∀ e w', R e w' → ∃ v, e = .returned v ∧ S w' ∧ wpAnyH P md ops Q S fuel (listed.setIfInBounds i true) (a.put d v) w') : wpAnyH P md ops Q S (fuel + 1) listed a w := by
  subst hd
  exact reg_one hi hgd hr (wp_call_fn ho hf hn hb vs hvs hc h)
theorem reg_value (d : Option Tmp) (hi : ops[i]? = some oi) (hd : oi.dst = d) (hgd : oi.guard = none) (hr : Region.ready md ops listed = [i]) (v : Value) (hrun : (execOp a.eval oi).run P w = .ok (.value v) w) (hS : S w)
    (h : wpAnyH P md ops Q S fuel (listed.setIfInBounds i true) (a.put d v) w) : wpAnyH P md ops Q S (fuel + 1) listed a w := by
  subst hd
  exact reg_one hi hgd hr (by unfold Oper.wp; rw [hrun]; exact ⟨hS, h⟩)
theorem reg_store_all (hi : ops[i]? = some oi) (hd : oi.dst = none) (hgd : oi.guard = none) (hr : Region.ready md ops listed = [i]) (ty : TypeId) (x y : Operand) (ho : oi.op = .store ty x y)
    (g : Nat) (t : TypeId) (cur cells : List Value) (hx : a.eval x = .pointer (some ⟨g, 0, none⟩)) (hy : a.eval y = .agg cells.toArray) (hb : Blk w g t cur) (hfit : cells.length = cur.length)
    (hsz : (P.info? ty).map (·.size) = some cells.length) (h1 : ∀ v ∈ cells, v.oneCell' = true)
    (h : ∀ w', Blk w' g t cells → Only g w w' → S w' ∧ wpAnyH P md ops Q S fuel (listed.setIfInBounds i true) (a.put none undef) w') : wpAnyH P md ops Q S (fuel + 1) listed a w := by
  refine reg_one hi hgd hr (wp_store_part ty x y ho g 0 t cur cells hx hy hb (by omega) hsz h1 fun w' e1 e2 => ?_)
  rw [splice_all _ _ hfit] at e1
  rw [hd]
  exact h w' e1 e2
theorem exec_load (ty : TypeId) (x : Operand) (ho : oi.op = .load ty x) (p v : Value) (hx : a.eval x = p) (hl : (Instr.loadAt ty p).run P w = .ok v w) : (execOp a.eval oi).run P w = .ok (.value v) w := by
  subst hx
  simp [execOp, ho, hl]
theorem exec_field (ty : TypeId) (x : Operand) (n : Nat) (ho : oi.op = .field ty x n) (p v : Value) (hx : a.eval x = p) (hl : (Instr.field ty p n).run P w = .ok v w) : (execOp a.eval oi).run P w = .ok (.value v) w := by
  subst hx
  simp [execOp, ho, hl]
theorem exec_fieldAddr (ty : TypeId) (x : Operand) (n : Nat) (ho : oi.op = .fieldAddr ty x n) (p v : Value) (hx : a.eval x = p) (hl : (Instr.fieldAt ty p n).run P w = .ok v w) : (execOp a.eval oi).run P w = .ok (.value v) w := by
  subst hx
  simp [execOp, ho, hl]
theorem exec_move (x : Operand) (ho : oi.op = .move x) (v : Value) (hx : a.eval x = v) : (execOp a.eval oi).run P w = .ok (.value v) w := by
  subst hx
  simp [execOp, ho]
/-! The same without a held S: 'wpAny'. -/
theorem any_take (d : Option Tmp) (hi : ops[i]? = some oi) (hd : oi.dst = d) (hgd : oi.guard = none) (hs : Region.noSelect ops = true) (hf : Region.free md ops listed i = true) (hr : (Region.ready md ops listed).contains i = true)
    (v : Value) (hQ : ∀ c a w, Q (.panic c) (a.put d v) w → Q (.panic c) a w) (hy : ∀ W, (execOp a.eval oi).run P W = .ok (.value v) W)
    (h : wpAny P md ops Q fuel (listed.setIfInBounds i true) (a.put d v) w) : wpAny P md ops Q (fuel + 1) listed a w := by
  subst hd
  exact wpAny_take hi hs hf hr hQ (.inl ⟨by simp [Region.wanted, hgd], hy⟩) h
theorem op_wp {K : Act → World → Prop} (hi : ops[i]? = some oi) (hgd : oi.guard = none) (h : oi.wp P a w K Q) : wpOp P ops Q i K a w := by
  unfold wpOp
  rw [hi]
  simp only
  rw [if_pos (by simp [Region.wanted, hgd])]
  exact .inl h
theorem op_value {K : Act → World → Prop} (d : Option Tmp) (hi : ops[i]? = some oi) (hd : oi.dst = d) (hgd : oi.guard = none) (v : Value) (hrun : (execOp a.eval oi).run P w = .ok (.value v) w) (h : K (a.put d v) w) : wpOp P ops Q i K a w := by
  subst hd
  exact op_wp hi hgd (by unfold Oper.wp; rw [hrun]; exact h)
theorem op_call {K : Act → World → Prop} (d : Option Tmp) {F : FuncId} {xs : Array Operand} {ts : Array TypeId} (hi : ops[i]? = some oi) (hd : oi.dst = d) (hgd : oi.guard = none) (ho : oi.op = .call { callee := .value (.func F), args := xs, argTypes := ts })
    {fn : Func} (hf : P.funcs[F]? = some fn) (hn : (fn.name == "runtime.NumGoroutine") = false) (hb : fn.body.isNone = false) (vs : Array Value) (hvs : xs.toList.map a.eval = vs.toList) {R : Ending → World → Prop} (hc : Calls P F vs w R)
    (h : ∀ e w', R e w' → ∃ v, e = .returned v ∧ K (a.put d v) w') : wpOp P ops Q i K a w := by
  subst hd
  exact op_wp hi hgd (wp_call_fn ho hf hn hb vs hvs hc h)
theorem op_store_all {K : Act → World → Prop} (hi : ops[i]? = some oi) (hd : oi.dst = none) (hgd : oi.guard = none) (ty : TypeId) (x y : Operand) (ho : oi.op = .store ty x y)
    (g : Nat) (t : TypeId) (cur cells : List Value) (hx : a.eval x = .pointer (some ⟨g, 0, none⟩)) (hy : a.eval y = .agg cells.toArray) (hb : Blk w g t cur) (hfit : cells.length = cur.length)
    (hsz : (P.info? ty).map (·.size) = some cells.length) (h1 : ∀ v ∈ cells, v.oneCell' = true)
    (h : ∀ w', Blk w' g t cells → Only g w w' → K (a.put none undef) w') : wpOp P ops Q i K a w := by
  refine op_wp hi hgd (wp_store_part ty x y ho g 0 t cur cells hx hy hb (by omega) hsz h1 fun w' e1 e2 => ?_)
  rw [splice_all _ _ hfit] at e1
  rw [hd]
  exact h w' e1 e2
theorem any_one (hr : Region.ready md ops listed = [i]) (h : wpOp P ops Q i (wpAny P md ops Q fuel (listed.setIfInBounds i true)) a w) : wpAny P md ops Q (fuel + 1) listed a w :=
  wpAny_all hr (by simp) fun j hj => by
    obtain rfl : j = i := by simpa using hj
    exact h
theorem any_two {k : Nat} (hr : Region.ready md ops listed = [i, k]) (h : wpOp P ops Q i (wpAny P md ops Q fuel (listed.setIfInBounds i true)) a w) (h' : wpOp P ops Q k (wpAny P md ops Q fuel (listed.setIfInBounds k true)) a w) : wpAny P md ops Q (fuel + 1) listed a w :=
  wpAny_all hr (by simp) fun j hj => by
    simp only [List.mem_cons, List.not_mem_nil, or_false] at hj
    rcases hj with rfl | rfl
    · exact h
    · exact h'
theorem regH_one (hr : Region.ready md ops listed = [i]) (h : wpOp P ops Q i (fun a' w' => S w' ∧ wpAnyH P md ops Q S fuel (listed.setIfInBounds i true) a' w') a w) : wpAnyH P md ops Q S (fuel + 1) listed a w :=
  wpAnyH_all hr (by simp) fun j hj => by
    obtain rfl : j = i := by simpa using hj
    exact h
theorem reg_two {k : Nat} (hr : Region.ready md ops listed = [i, k]) (h : wpOp P ops Q i (fun a' w' => S w' ∧ wpAnyH P md ops Q S fuel (listed.setIfInBounds i true) a' w') a w)
    (h' : wpOp P ops Q k (fun a' w' => S w' ∧ wpAnyH P md ops Q S fuel (listed.setIfInBounds k true) a' w') a w) : wpAnyH P md ops Q S (fuel + 1) listed a w :=
  wpAnyH_all hr (by simp) fun j hj => by
    simp only [List.mem_cons, List.not_mem_nil, or_false] at hj
    rcases hj with rfl | rfl
    · exact h
    · exact h'
theorem op_alloc {K : Act → World → Prop} (d : Option Tmp) (hi : ops[i]? = some oi) (hd : oi.dst = d) (hgd : oi.guard = none) (t : TypeId) (ho : oi.op = .alloc t) (Z : List Value) (hz : (P.info? t).map (·.zero) = some (some (.agg Z.toArray)))
    (h : K (a.put d (.pointer (some ⟨w.heap.size, 0, none⟩))) (w.alloc (.cells Z.toArray t))) : wpOp P ops Q i K a w := by
  subst hd
  have hrun := run_alloc_zero (P := P) w t Z hz
  refine op_wp hi hgd ?_
  unfold Oper.wp execOp
  simp only [ho, Sem.run_bind, hrun, Result.andThen_ok]
  exact h
end
end Go.Proofs.YtfbemmeonkceiaaDoor

/- Contracts of a stream's Sum and of Sum. -/
namespace Go.Proofs.YtfbemmeonkceiaaDoor
open Go.RowKit Hm

theorem Sm.sum_ {cs : List Value} {m : List UInt8} (h : Sm cs (m ++ pad m.length)) : ∃ v : H8, cs.toArray.extract 0 8 = (wc v.toL).toArray ∧ v.bytes = Hm.sum m ∧ ∃ r n, cs = smc v r n := by
  obtain ⟨v, r, hs, rfl⟩ := h
  refine ⟨v, ?_, hs.sum, r, _, rfl⟩
  simp [smc, wc_len, H8.toL_len]

theorem run_field_v (v : H8) (r : List UInt8) (n : Nat) (W : World) : (Instr.field 107 (.agg (smc v r n).toArray) 0).run Tryd.prog W = .ok (.agg (wc v.toL).toArray) W := by
  have hu := Tryd.underlying107
  have hag : ∀ W, (isAgg 103).run Tryd.prog W = .ok true W := fun W => by kernel_rfl
  have hsz : ∀ W, (sizeOf 103).run Tryd.prog W = .ok 8 W := fun W => by kernel_rfl
  have e : (smc v r n).toArray.extract 0 8 = (wc v.toL).toArray := by simp [smc, wc_len, H8.toL_len]
  generalize (smc v r n).toArray = X at e ⊢
  simp only [Instr.field, Sem.run_bind, run_underlying hu, Result.andThen_ok, asAgg]
  simp [part, hag, hsz, e]
theorem run_fieldAt_sm (W : World) (b : Nat) : (Instr.fieldAt 107 (.pointer (some ⟨b, 0, none⟩)) 2).run Tryd.prog W = .ok (.pointer (some ⟨b, 72, none⟩)) W := by kernel_rfl
theorem run_load_u64 (W : World) (p : Addr) (v : Value) (h : W.cell? p = some v) : (Instr.loadAt 55 (.pointer (some p))).run Tryd.prog W = .ok v W := by
  have hag : ∀ W, (isAgg 55).run Tryd.prog W = .ok false W := fun W => by kernel_rfl
  simp [Instr.loadAt, Instr.sureAddr, loadVar, hag, run_load, h]
theorem own_out {w : World} {base : Nat} {v : Value} {l : List UInt8} (h : OwnB w base v l) : ∃ A c, v = .slice A l.length c ∧ Rd w A (bc l) ∧ l.length ≤ c := by
  obtain ⟨A, c, rfl, _, hc⟩ := h.form
  exact ⟨A, c, rfl, h.rd, hc⟩
/-- What stays while the Sum of a stream is taken: its cells. -/
def SumS (w : World) (cs : List Value) (W : World) : Prop := Blk W w.heap.size 107 cs ∧ Below w.heap.size w W ∧ Glob W
theorem SumS.next {w W W' : World} {cs : List Value} (h : SumS w cs W) (hb : Below W.heap.size W W') : SumS w cs W' :=
  ⟨h.1.next hb, h.2.1.trans (hb.mono h.2.1.size), h.2.2.next hb⟩
theorem Glob.drew {W : World} (h : Glob W) : Glob W.drew := ⟨h.ini, h.tab⟩
theorem SumS.drew {w W : World} {cs : List Value} (h : SumS w cs W) : SumS w cs W.drew := ⟨h.1, h.2.1.drew, h.2.2.drew⟩
theorem SumS.only {w W W' : World} {cs : List Value} {g : Nat} (h : SumS w cs W) (ho : Only g W W') (h2 : 3 < w.heap.size) (hg : w.heap.size < g) : SumS w cs W' :=
  ⟨ho.blk h.1 (by omega), h.2.1.trans (ho.below (by omega)), h.2.2.only ho (by omega)⟩

set_option maxRecDepth 100000 in
set_option maxHeartbeats 2000000 in
theorem streamSum_any (cs : List Value) (m : List UInt8) (w : World) (h : Sm cs m) (hg : Glob w) (hlen : m.length ≤ 1000000000000) :
    Calls Tryd.prog 67 #[.agg cs.toArray] w fun e w' => e = .returned (.agg (bc (Hm.sum m)).toArray) ∧ Below w.heap.size w w' := by
  have hg2 := hg.two
  have HS := Lib.hid h
  have hb0 := (Blk.new w 107 cs).alloc (.cells (zb 32).toArray 100)
  have hb1 := Blk.new (w.alloc (.cells cs.toArray 107)) 100 (zb 32)
  rw [size_alloc] at hb1
  have hb := ((Below.refl w.heap.size w).alloc (Nat.le_refl _) (.cells cs.toArray 107)).alloc (by simp) (.cells (zb 32).toArray 100)
  have HB0 := Lib.hid hb0
  have HB1 := Lib.hid hb1
  have HG := Lib.hid (hg.next hb)
  have HBW := Lib.hid hb
  have HL := Lib.hid hlen
  clear h hg hb hlen hb0 hb1
  go_enter Tryd.func67, Tryd.ntmps67
  go_wp2_with (first | (refine wpList_alloc_zero rfl 100 rfl (zb 32) a32_zero ?_))
  go_frame
  generalize (w.alloc (.cells cs.toArray 107)).alloc (.cells (zb 32).toArray 100) = w1 at HB0 HB1 HG HBW ⊢
  have hl : ∀ W : World, SumS w cs W → (Instr.loadAt 107 (.pointer (some ⟨w.heap.size, 0, none⟩))).run Tryd.prog W = .ok (.agg cs.toArray) W := fun W hW => run_loadAt_mid W w.heap.size 0 _ cs _ (by have := hW.1.range 0 cs.length; simpa using this) Tryd.underlying107 rfl HS.out.size_
  have hl2 : ∀ W : World, SumS w cs W → W.cell? ⟨w.heap.size, 72, none⟩ = some (.int .u64 m.length) := fun W hW => (hW.1.cell 72).trans HS.out.at_
  have hS : SumS w cs w1 := ⟨HB0.out, HBW.out, HG.out⟩
  have hK := HB1.out.drew
  rw [size_alloc]
  clear HB0 HB1 HG HBW
  refine wp_region_held_drew (S := SumS w cs) (by kernel_rfl) hS.drew (fun hS => ?_)
  generalize w1.drew = w2 at hS hK ⊢
  refine reg_take (i := 0) (some 3) rfl rfl rfl (by kernel_rfl) (by kernel_rfl) (by kernel_rfl) (.agg cs.toArray) (fun _ _ _ h => h) (fun W hW => exec_load 107 (.tmp 1) rfl _ _ rfl (hl W hW)) hS ?_
  go_frame
  refine reg_take (i := 1) (some 4) rfl rfl rfl (by kernel_rfl) (by kernel_rfl) (by kernel_rfl) (.pointer (some ⟨w.heap.size, 72, none⟩)) (fun _ _ _ h => h) (fun W _ => exec_fieldAddr 107 (.tmp 1) 2 rfl _ _ rfl (run_fieldAt_sm W w.heap.size)) hS ?_
  go_frame
  refine reg_take (i := 2) (some 5) rfl rfl rfl (by kernel_rfl) (by kernel_rfl) (by kernel_rfl) (.int .u64 m.length) (fun _ _ _ h => h) (fun W hW => exec_load 55 (.tmp 4) rfl _ _ rfl (run_load_u64 W _ _ (hl2 W hW))) hS ?_
  go_frame
  refine reg_call (i := 3) (some 6) rfl rfl rfl (by kernel_rfl) rfl Tryd.func82 (by kernel_rfl) (by kernel_rfl) #[.int .u64 m.length] rfl (padding_any m.length w2 (by have := HL.out; omega)) ?_
  rintro e w3 ⟨v3, rfl, ho3, hb3⟩
  have hS3 := hS.next hb3
  obtain ⟨A3, c3, rfl, hr3, hc3⟩ := own_out ho3
  refine ⟨_, rfl, hS3, ?_⟩
  go_frame
  refine reg_call (i := 4) (some 7) rfl rfl rfl (by kernel_rfl) rfl Tryd.func65 (by kernel_rfl) (by kernel_rfl) #[.agg cs.toArray, .slice A3 (pad m.length).length c3] rfl (addB cs m A3 c3 (pad m.length) w3 HS.out hS3.2.2 hr3 hc3 (by have := HL.out; rw [pad_len]; omega)) ?_
  rintro e w4 ⟨cs4, hs4, rfl, hb4⟩
  have hS4 := hS3.next hb4
  obtain ⟨v4, r4, hst4, rfl⟩ := hs4
  refine ⟨_, rfl, hS4, ?_⟩
  go_frame
  refine reg_value (i := 5) (some 8) rfl rfl rfl (by kernel_rfl) (.agg (wc v4.toL).toArray) (exec_field 107 (.tmp 7) 0 rfl _ _ rfl (run_field_v v4 r4 _ w4)) hS4 ?_
  go_frame
  refine reg_call (i := 6) (some 9) rfl rfl rfl (by kernel_rfl) rfl Tryd.func83 (by kernel_rfl) (by kernel_rfl) #[.agg (wc v4.toL).toArray] rfl (bytes_any_st v4 w4) ?_
  rintro e w5 ⟨rfl, hb5⟩
  have hS5 := hS4.next hb5
  refine ⟨_, rfl, hS5, ?_⟩
  go_frame
  rw [hst4.sum]
  have hK5 := ((hK.next hb3).next hb4).next hb5
  refine reg_store_all (i := 7) rfl rfl rfl (by kernel_rfl) 100 (.tmp 2) (.tmp 9) rfl (w.heap.size + 1) _ (zb 32) (bc (Hm.sum m)) rfl rfl hK5 (by rw [bc_len, zb_len, sum_len]) (by rw [a32_size, bc_len, sum_len]) (bc_one _) ?_
  intro w6 hb6 ho6
  have hS6 := hS5.only ho6 hg2 (by omega)
  refine ⟨hS6, wpAnyH_done (by kernel_rfl) ?_ _⟩
  have HB6 := Lib.hid hb6
  have HS6 := Lib.hid hS6
  clear hS hS3 hS4 hS5 hS6 hK hK5 hb3 hb4 hb5 hb6 ho6 ho3 hr3 hl hl2 hst4
  go_frame
  go_wp2
  exact bodyPost_ret (results_blk rfl _ _ (w.heap.size + 1) _ (bc (Hm.sum m)) _ rfl HB6.out a32_under rfl (by rw [a32_size, bc_len, sum_len])) rfl ⟨rfl, HS6.out.2.1⟩

end Go.Proofs.YtfbemmeonkceiaaDoor

/- Contracts of digest, addParts and Of. -/
namespace Go.Proofs.YtfbemmeonkceiaaDoor
open Go.RowKit Hm

theorem run_slice_to (t : TypeId) (n : Nat) (hu : Tryd.prog.underlying t = some (.array n 5)) (W : World) (g : Nat) (k : Nat) (hk : k ≤ n) :
    (Instr.sliceAt t (.pointer (some ⟨g, 0, none⟩)) none (some (.int .i64 k)) none).run Tryd.prog W = .ok (.slice (some ⟨g, 0, none⟩) k n) W := by
  simp [Instr.sliceAt, Instr.sureAddr, run_underlying hu, Instr.sliceBounds, run_sliceBound, (by omega : (k : Int) ≤ n), Addr.add]

set_option maxRecDepth 100000 in
set_option maxHeartbeats 400000 in
theorem digest_any (l : List UInt8) (w : World) (hl : l.length = 32) :
    Calls Tryd.prog 63 #[.agg (bc l).toArray] w fun e w' => e = .returned (.agg (bc (l.take 16)).toArray) ∧ Below w.heap.size w w' := by
  have HB0 := Lib.hid ((Blk.new w 100 (bc l)).alloc (.cells (zb 16).toArray 31))
  have hb1 := Blk.new (w.alloc (.cells (bc l).toArray 100)) 31 (zb 16)
  rw [size_alloc] at hb1
  have HB1 := Lib.hid hb1
  have HBW := Lib.hid (((Below.refl w.heap.size w).alloc (Nat.le_refl _) (.cells (bc l).toArray 100)).alloc (by simp) (.cells (zb 16).toArray 31))
  have hd : (l.take 16).length = 16 := by rw [List.length_take]; omega
  have HD := Lib.hid hd
  have HT : Hid (((bc l).drop 0).take (bc (l.take 16)).length = bc (l.take 16)) := by show _ = _; rw [bc_len, hd, List.drop_zero, ← bc_take]
  have hsl := fun (W : World) => run_slice_to 100 32 a32_under W w.heap.size 16 (by omega)
  have harr := fun (W : World) => run_arrayAt 31 16 5 dg_under W (some ⟨w.heap.size, 0, none⟩) 16 32 (by omega)
  clear hl hd hb1
  go_enter Tryd.func63, Tryd.ntmps63
  go_wp2_with (first | (refine wpList_alloc_zero rfl 31 rfl (zb 16) dg_zero ?_) | (refine wpList_load_part rfl _ (.tmp 4) rfl w.heap.size 0 _ (bc l) (bc (l.take 16)) _ rfl HB0.out HT.out dg_under rfl (by rw [dg_size, bc_len, HD.out]) ?_) | (refine wpList_store_all rfl _ (.tmp 2) (.tmp 5) rfl (w.heap.size + 1) _ (zb 16) (bc (l.take 16)) rfl rfl HB1.out (by rw [bc_len, zb_len, HD.out]) (by rw [dg_size, bc_len, HD.out]) (bc_one _) ?_; intro w3 HB3 ho3))
  exact bodyPost_ret (results_blk rfl _ _ (w.heap.size + 1) _ (bc (l.take 16)) _ rfl HB3.out dg_under rfl (by rw [dg_size, bc_len, HD.out])) rfl ⟨rfl, HBW.out.trans (ho3.below (by omega))⟩

/-- The encodings of parts, one after the other. -/
def encP (ss : List ByteArray) : List UInt8 := ss.flatMap fun s => encB s.data.toList
theorem encP_take (ss : List ByteArray) (k : Nat) (z : ByteArray) (h : ss[k]? = some z) : encP (ss.take k) ++ encB z.data.toList = encP (ss.take (k + 1)) := by
  obtain ⟨h1, h2⟩ := List.getElem?_eq_some_iff.1 h
  unfold encP
  rw [List.take_succ_eq_append_getElem h1, List.flatMap_append, h2]; simp
theorem encP_part (ss : List ByteArray) (k : Nat) : (encP (ss.take k)).length ≤ (encP ss).length := by
  have : encP ss = encP (ss.take k) ++ encP (ss.drop k) := by unfold encP; rw [← List.flatMap_append, List.take_append_drop]
  rw [this, List.length_append]; omega

set_option maxRecDepth 100000 in
set_option maxHeartbeats 2000000 in
theorem addParts_any (cs : List Value) (m : List UInt8) (A : Option Addr) (c : Nat) (ss : List ByteArray) (w : World) (h : Sm cs m) (hg : Glob w) (hr : Rd w A (ss.map Value.string)) (hz : ∀ s ∈ ss, s.size ≤ 1000000) (hl : ss.length ≤ 1000000) (hlen : m.length + (encP ss).length ≤ 1000000000) :
    Calls Tryd.prog 64 #[.agg cs.toArray, .slice A ss.length c] w fun e w' => ∃ cs', Sm cs' (m ++ encP ss) ∧ e = .returned (.agg cs'.toArray) ∧ Below w.heap.size w w' := by
  have hg2 := hg.two
  have HB0 := Lib.hid ((Blk.new w 107 cs).alloc (.cells zs.toArray 107))
  have hb1 := Blk.new (w.alloc (.cells cs.toArray 107)) 107 zs
  rw [size_alloc] at hb1
  have HB1 := Lib.hid hb1
  have HBW := Lib.hid (((Below.refl w.heap.size w).alloc (Nat.le_refl _) (.cells cs.toArray 107)).alloc (by simp) (.cells zs.toArray 107))
  have HS := Lib.hid h
  have HG := Lib.hid hg
  have HR := Lib.hid hr
  have HZ := Lib.hid hz
  have HLEN := Lib.hid hlen
  clear h hg hr hz hlen hb1
  go_enter Tryd.func64, Tryd.ntmps64
  go_wp2_with (first | (refine wpList_alloc_zero rfl 107 rfl zs sm_zero ?_))
  go_loopw [9] (fun i wr => ∃ (k : Nat) (cs1 : List Value), i = .int .i64 k ∧ k ≤ ss.length ∧ Hid (Sm cs1 (m ++ encP (ss.take k))) ∧ Hid (Blk wr w.heap.size 107 cs1) ∧ Hid (Blk wr (w.heap.size + 1) 107 zs) ∧ Hid (Below w.heap.size w wr))
    (fun i _ => ss.length - (intOf i).toNat)
  case atStart => exact ⟨0, cs, rfl, Nat.zero_le _, (by show Sm _ _; rw [show encP (ss.take 0) = [] from rfl, List.append_nil]; exact HS.out), HB0.out, HB1.out, HBW.out⟩
  case round =>
    clear HB0 HB1 HBW HS
    obtain ⟨k, cs1, rfl, hk, HS, H0, H1, HB⟩ := hrel
    by_cases hlt : k < ss.length
    · have bk : (k : Int) < (ss.length : Int) := by omega
      obtain ⟨z, hz⟩ : ∃ z, ss[k]? = some z := ⟨ss[k], List.getElem?_eq_getElem hlt⟩
      obtain ⟨bb, off, hA, hcell⟩ := (HR.out.below HB.out).at_ (k := k) (u := .string z) (by simp [hz])
      subst hA
      have hzs : z.size ≤ 1000000 := HZ.out z (List.mem_of_getElem? hz)
      have HZ1 := Lib.hid hz
      have HZS := Lib.hid hzs
      clear hz hzs
      go_wp2_with fail
      refine wp_region_any (by kernel_rfl) ?_
      have h0 := H0.out.drew
      have h1 := H1.out.drew
      have hB := HB.out.drew
      have hG := (HG.out.next HB.out).drew
      change wpAny _ _ _ _ _ _ _ wr.drew
      generalize wr.drew = w2 at h0 h1 hB hG ⊢
      have hl : ∀ W : World, Blk W w.heap.size 107 cs1 → (Instr.loadAt 107 (.pointer (some ⟨w.heap.size, 0, none⟩))).run Tryd.prog W = .ok (.agg cs1.toArray) W := fun W hW => run_loadAt_mid W w.heap.size 0 _ cs1 _ (by have := hW.range 0 cs1.length; simpa using this) Tryd.underlying107 rfl HS.out.size_
      refine any_take (i := 1) (some 14) rfl rfl rfl (by kernel_rfl) (by kernel_rfl) (by kernel_rfl) (.string z) (fun _ _ _ h => h) (fun W => exec_move (.tmp 6) rfl _ rfl) ?_
      go_frame
      have hml : (m ++ encP (ss.take k)).length + (encB z.data.toList).length ≤ 1099511627776 := by
        have h2 := HLEN.out
        have h3 := encP_part ss (k + 1)
        rw [← encP_take ss k z HZ1.out, List.length_append] at h3
        rw [List.length_append]; omega
      have tail : ∀ (w3 : World) (A3 : Option Addr) (c3 : Nat), Below w2.heap.size w2 w3 → Rd w3 A3 (bc (encB z.data.toList)) → (encB z.data.toList).length ≤ c3 →
          Calls Tryd.prog 65 #[.agg cs1.toArray, .slice A3 (encB z.data.toList).length c3] w3 fun e w' => ∃ cs', Sm cs' (m ++ encP (ss.take (k + 1))) ∧ e = .returned (.agg cs'.toArray) ∧ Below w3.heap.size w3 w' := by
        intro w3 A3 c3 hb3 hr3 hc3
        have := addB cs1 (m ++ encP (ss.take k)) A3 c3 (encB z.data.toList) w3 HS.out (hG.next hb3) hr3 hc3 hml
        rwa [List.append_assoc, encP_take ss k z HZ1.out] at this
      have HTAIL := Lib.hid tail
      clear tail
      refine any_two (i := 0) (k := 2) (by kernel_rfl) ?_ ?_
      · refine op_value (some 13) rfl rfl rfl (.agg cs1.toArray) (exec_load 107 (.tmp 2) rfl _ _ rfl (hl w2 h0)) ?_
        go_frame
        refine any_one (i := 2) (by kernel_rfl) (op_call (some 15) rfl rfl rfl rfl Tryd.func80 (by kernel_rfl) (by kernel_rfl) #[.string z] rfl (bytes_any z w2 (by have := HZS.out; omega)) ?_)
        rintro e w3 ⟨v3, rfl, ho3, hb3⟩
        obtain ⟨A3, c3, rfl, hr3, hc3⟩ := own_out ho3
        refine ⟨_, rfl, ?_⟩
        go_frame
        refine any_one (i := 3) (by kernel_rfl) (op_call (some 16) rfl rfl rfl rfl Tryd.func65 (by kernel_rfl) (by kernel_rfl) #[.agg cs1.toArray, .slice A3 (encB z.data.toList).length c3] rfl (HTAIL.out w3 A3 c3 hb3 hr3 hc3) ?_)
        rintro e w4 ⟨cs4, hs4, rfl, hb4⟩
        refine ⟨_, rfl, ?_⟩
        go_frame
        have g0 := (h0.next hb3).next hb4
        have g1 := (h1.next hb3).next hb4
        have gB := (hB.trans (hb3.mono hB.size)).trans (hb4.mono (Nat.le_trans hB.size hb3.size))
        refine any_one (i := 4) (by kernel_rfl) (op_store_all rfl rfl rfl 107 (.tmp 2) (.tmp 16) rfl w.heap.size _ cs1 cs4 rfl rfl g0 (by rw [hs4.len, HS.out.len]) hs4.size_ hs4.one ?_)
        intro w5 hb5 ho5
        refine wpAny_done (by kernel_rfl) ?_ _
        go_frame
        have F0 := Lib.hid hb5
        have F1 := Lib.hid (ho5.blk g1 (by omega))
        have FB := Lib.hid (gB.trans (ho5.below (Nat.le_refl _)))
        have FS := Lib.hid hs4
        clear g0 g1 gB hb5 ho5 hs4 hb3 hb4 h0 h1 hB hG hl HTAIL hr3 hcell
        go_wp2
        go_roundw
        case rel => exact ⟨k + 1, cs4, by go_num, by omega, FS.out, F0.out, F1.out, FB.out⟩
        case measure => simp [intOf]; omega
      · refine op_call (some 15) rfl rfl rfl rfl Tryd.func80 (by kernel_rfl) (by kernel_rfl) #[.string z] rfl (bytes_any z w2 (by have := HZS.out; omega)) ?_
        rintro e w3 ⟨v3, rfl, ho3, hb3⟩
        obtain ⟨A3, c3, rfl, hr3, hc3⟩ := own_out ho3
        refine ⟨_, rfl, ?_⟩
        go_frame
        refine any_one (i := 0) (by kernel_rfl) (op_value (some 13) rfl rfl rfl (.agg cs1.toArray) (exec_load 107 (.tmp 2) rfl _ _ rfl (hl w3 (h0.next hb3))) ?_)
        go_frame
        refine any_one (i := 3) (by kernel_rfl) (op_call (some 16) rfl rfl rfl rfl Tryd.func65 (by kernel_rfl) (by kernel_rfl) #[.agg cs1.toArray, .slice A3 (encB z.data.toList).length c3] rfl (HTAIL.out w3 A3 c3 hb3 hr3 hc3) ?_)
        rintro e w4 ⟨cs4, hs4, rfl, hb4⟩
        refine ⟨_, rfl, ?_⟩
        go_frame
        have g0 := (h0.next hb3).next hb4
        have g1 := (h1.next hb3).next hb4
        have gB := (hB.trans (hb3.mono hB.size)).trans (hb4.mono (Nat.le_trans hB.size hb3.size))
        refine any_one (i := 4) (by kernel_rfl) (op_store_all rfl rfl rfl 107 (.tmp 2) (.tmp 16) rfl w.heap.size _ cs1 cs4 rfl rfl g0 (by rw [hs4.len, HS.out.len]) hs4.size_ hs4.one ?_)
        intro w5 hb5 ho5
        refine wpAny_done (by kernel_rfl) ?_ _
        go_frame
        have F0 := Lib.hid hb5
        have F1 := Lib.hid (ho5.blk g1 (by omega))
        have FB := Lib.hid (gB.trans (ho5.below (Nat.le_refl _)))
        have FS := Lib.hid hs4
        clear g0 g1 gB hb5 ho5 hs4 hb3 hb4 h0 h1 hB hG hl HTAIL hr3 hcell
        go_wp2
        go_roundw
        case rel => exact ⟨k + 1, cs4, by go_num, by omega, FS.out, F0.out, F1.out, FB.out⟩
        case measure => simp [intOf]; omega
    · obtain rfl : k = ss.length := by omega
      have hs := HS.out
      rw [List.take_length] at hs
      have HS' := Lib.hid hs
      clear hs HS
      go_wp2_with (first | (refine wpList_load_all rfl _ (.tmp 2) rfl w.heap.size _ cs1 _ rfl H0.out Tryd.underlying107 rfl HS'.out.size_ ?_) | (refine wpList_store_all rfl _ (.tmp 4) (.tmp 18) rfl (w.heap.size + 1) _ zs cs1 rfl rfl H1.out (by rw [zs_len, HS'.out.len]) HS'.out.size_ HS'.out.one ?_; intro w3 HB3 ho3))
      exact bodyPost_ret (results_blk rfl _ _ (w.heap.size + 1) _ cs1 _ rfl HB3.out Tryd.underlying107 rfl HS'.out.size_) rfl ⟨cs1, HS'.out, rfl, HB.out.trans (ho3.below (by omega))⟩

/-- A tag as a byte. -/
def tagB (t : Int) : UInt8 := UInt8.ofNat (t % 256).toNat
theorem tagB_cells (t : Int) : #[Value.int .u8 (t % 256)] = (bc [tagB t]).toArray := by
  have h : ((tagB t).toNat : Int) = t % 256 := by unfold tagB; rw [UInt8.toNat_ofNat']; omega
  simp [bc, h]

set_option maxRecDepth 100000 in
set_option maxHeartbeats 400000 in
theorem of_any (tag : Int) (A : Option Addr) (c : Nat) (ss : List ByteArray) (w : World) (hg : Glob w) (hr : Rd w A (ss.map Value.string)) (hz : ∀ s ∈ ss, s.size ≤ 1000000) (hl : ss.length ≤ 1000000) (hlen : (encP ss).length ≤ 100000000) :
    Calls Tryd.prog 37 #[.int .i64 tag, .slice A ss.length c] w fun e w' => e = .returned (.agg (bc ((Hm.sum (tagB tag :: encP ss)).take 16)).toArray) ∧ Below w.heap.size w w' := by
  have hb := (Below.refl w.heap.size w).alloc (Nat.le_refl _) (.cells (zb 16).toArray 31)
  have HB := Lib.hid (Blk.new w 31 (zb 16))
  have HG := Lib.hid (hg.next hb)
  have HR := Lib.hid (hr.below hb)
  have HBW := Lib.hid hb
  have HZ := Lib.hid hz
  have HL := Lib.hid hl
  have HLEN := Lib.hid hlen
  clear hb hg hr hz hl hlen
  go_enter Tryd.func37, Tryd.ntmps37
  go_wp2_with (first | (refine wpList_alloc_zero rfl 31 rfl (zb 16) dg_zero ?_))
  refine (begin_any _ HG.out).mono ?_
  rintro e w2 ⟨cs2, hs2, rfl, hb2⟩
  have HS2 := Lib.hid hs2
  have G2 := Lib.hid (HG.out.next hb2)
  have R2 := Lib.hid (HR.out.below hb2)
  have K2 := Lib.hid (HB.out.next hb2)
  have B2 := Lib.hid (HBW.out.trans (hb2.mono HBW.out.size))
  clear hs2 hb2
  go_wp2_with fail
  rw [tagB_cells tag]
  have hba := (Below.refl w2.heap.size w2).alloc (Nat.le_refl _) (.cells (bc [tagB tag]).toArray 5)
  refine (addB cs2 [] (some ⟨w2.heap.size, 0, none⟩) 1 [tagB tag] _ HS2.out (G2.out.next hba) (Rd.of_new w2 (bc [tagB tag]) 5) (Nat.le_refl _) (by simp)).mono ?_
  rintro e w3 ⟨cs3, hs3, rfl, hb3⟩
  have hb23 := hba.trans (hb3.mono hba.size)
  have HS3 := Lib.hid hs3
  have G3 := Lib.hid (G2.out.next hb23)
  have R3 := Lib.hid (R2.out.below hb23)
  have K3 := Lib.hid (K2.out.next hb23)
  have B3 := Lib.hid (B2.out.trans (hb23.mono B2.out.size))
  clear hs3 hb3 hba hb23
  go_wp2_with fail
  refine (addParts_any cs3 ([] ++ [tagB tag]) A c ss w3 HS3.out G3.out R3.out HZ.out HL.out (by have := HLEN.out; simp; omega)).mono ?_
  rintro e w4 ⟨cs4, hs4, rfl, hb4⟩
  have HS4 := Lib.hid hs4
  have G4 := Lib.hid (G3.out.next hb4)
  have K4 := Lib.hid (K3.out.next hb4)
  have B4 := Lib.hid (B3.out.trans (hb4.mono B3.out.size))
  clear hs4 hb4
  go_wp2_with fail
  refine (streamSum_any cs4 _ w4 HS4.out G4.out (by have := HLEN.out; simp; omega)).mono ?_
  rintro e w5 ⟨rfl, hb5⟩
  rw [List.nil_append, List.singleton_append]
  have K5 := Lib.hid (K4.out.next hb5)
  have B5 := Lib.hid (B4.out.trans (hb5.mono B4.out.size))
  clear hb5
  go_wp2_with fail
  refine (digest_any _ w5 (sum_len _)).mono ?_
  rintro e w6 ⟨rfl, hb6⟩
  have K6 := Lib.hid (K5.out.next hb6)
  have B6 := Lib.hid (B5.out.trans (hb6.mono B5.out.size))
  clear hb6
  obtain ⟨d, hd⟩ : ∃ d, (Hm.sum (tagB tag :: encP ss)).take 16 = d := ⟨_, rfl⟩
  have hdl : d.length = 16 := by rw [← hd, List.length_take, sum_len]; rfl
  have HDD := Lib.hid hd
  rw [hd]
  have HD := Lib.hid hdl
  clear hd hdl
  go_wp2_with (refine wpList_store_all rfl _ (.tmp 4) (.tmp 13) rfl w.heap.size _ (zb 16) (bc d) rfl rfl K6.out (by rw [bc_len, zb_len, HD.out]) (by rw [dg_size, bc_len, HD.out]) (bc_one _) ?_; intro w7 HB7 ho7)
  exact bodyPost_ret (results_blk rfl _ _ w.heap.size _ (bc d) _ rfl HB7.out dg_under rfl (by rw [dg_size, bc_len, HD.out])) rfl ⟨by rw [HDD.out], B6.out.trans (ho7.below (Nat.le_refl _))⟩
end Go.Proofs.YtfbemmeonkceiaaDoor
