/- Contracts of wire's appendDigest, getDigest and Digests; words for digests in memory. -/
import Derived.Test.YtpobblcokkgijaaWListS
import Derived.Deep.MidRow
import Derived.Deep.WholeRow
namespace Go.Proofs.Ytpobblcokkgijaa
open Go.RowKit Wm

theorem dig_info : (Try.prog.info? 57).map (fun i => (i.zero, i.size, i.bytes)) = some (some (.agg #[.int .u8 0, .int .u8 0, .int .u8 0, .int .u8 0, .int .u8 0, .int .u8 0, .int .u8 0, .int .u8 0, .int .u8 0, .int .u8 0, .int .u8 0, .int .u8 0, .int .u8 0, .int .u8 0, .int .u8 0, .int .u8 0]), 16, 16) := by kernel_rfl
theorem dig_size : (Try.prog.info? 57).map (·.size) = some 16 := by kernel_rfl
theorem dig_under : Try.prog.underlying 57 = some (.array 16 5) := by kernel_rfl

/-- 16 zero bytes. -/
def z16 : Array Value := #[.int .u8 0, .int .u8 0, .int .u8 0, .int .u8 0, .int .u8 0, .int .u8 0, .int .u8 0, .int .u8 0, .int .u8 0, .int .u8 0, .int .u8 0, .int .u8 0, .int .u8 0, .int .u8 0, .int .u8 0, .int .u8 0]

/-- A digest is read whole. -/
theorem wpList_load_dig {w : World} {ops : Array Oper} {rest : List Oper} {op : Oper} {a : Act} {Q : Exit → Act → World → Prop} (hgd : op.guard = none) (x : Operand) (ho : op.op = .load 57 x)
    (b o : Nat) (hx : a.eval x = .pointer (some ⟨b, o, none⟩)) (d : List UInt8) (hd : d.length = 16) (hc : w.rangeAt b o (bc d))
    (h : wpList Try.prog ops Q rest (a.put op.dst (.agg (bc d).toArray)) w) : wpList Try.prog ops Q (op :: rest) a w :=
  wpList_load_mid hgd 57 x ho b o hx (bc d) _ hc dig_under rfl (by rw [dig_size, bc_len, hd]) h

/-- A digest is stored into the block that was made last. -/
theorem wpList_store_dig {w : World} {ops : Array Oper} {rest : List Oper} {op : Oper} {a : Act} {Q : Exit → Act → World → Prop} (hgd : op.guard = none) (x y : Operand) (ho : op.op = .store 57 x y)
    (d : List UInt8) (hd : d.length = 16) (hx : a.eval x = .pointer (some ⟨w.heap.size, 0, none⟩)) (hy : a.eval y = .agg (bc d).toArray)
    (h : wpList Try.prog ops Q rest (a.put op.dst undef) (w.alloc (.cells (bc d).toArray 57))) : wpList Try.prog ops Q (op :: rest) a (w.alloc (.cells z16 57)) := by
  refine wpList_plain hgd fun K hK => ?_
  have hs : (bc d).toArray.size = 16 := by rw [List.size_toArray, bc_len, hd]
  have hrun := run_storeAt_new (P := Try.prog) w 57 z16 (bc d).toArray (by rw [dig_size, hs]) (by rw [hs]; rfl) (all_oneCell_toArray (bc_one d))
  unfold Oper.wp execOp
  simp only [ho, hx, hy, Sem.run_bind, hrun, Result.andThen_ok]
  exact hK _ _ h

theorem run_arrayAt_dig (w : World) (A : Option Addr) (c : Nat) : (Instr.arrayAt 57 (.slice A 16 c)).run Try.prog w = .ok (.pointer A) w := by
  simp [Instr.arrayAt, run_underlying dig_under]

theorem rangeAt_of {w : World} {b off : Nat} {xs : List Value} (h : ∀ (k : Nat) u, xs[k]? = some u → w.cell? ⟨b, off + k, none⟩ = some u) : w.rangeAt b off xs := h
theorem rangeAt_new (w : World) (cs : List Value) (t : TypeId) : (w.alloc (.cells cs.toArray t)).rangeAt w.heap.size 0 cs := fun k u hu => by
  rw [cell_of_row (w.alloc (.cells cs.toArray t)) w.heap.size (0 + k) cs.toArray t (0, 0) (heap_alloc_new w _)]
  simpa using hu

/-- The cells of a list of digests. -/
def dcs (ds : List (List UInt8)) : List Value := ds.flatMap bc
theorem dcs_len {ds : List (List UInt8)} (h : ∀ d ∈ ds, d.length = 16) : (dcs ds).length = ds.length * 16 := by
  induction ds with
  | nil => rfl
  | cons d r ih =>
    have h1 := ih fun x hx => h x (List.mem_cons_of_mem _ hx)
    have h2 := h d (List.mem_cons_self)
    show (bc d ++ dcs r).length = _
    rw [List.length_append, h1, bc_len, h2, List.length_cons, Nat.add_mul]; omega
theorem dcs_at {ds : List (List UInt8)} (h : ∀ d ∈ ds, d.length = 16) {k : Nat} (hk : k < ds.length) (j : Nat) (u : Value) (hj : (bc ds[k])[j]? = some u) : (dcs ds)[k * 16 + j]? = some u := by
  have e : dcs ds = dcs (ds.take k) ++ (bc ds[k] ++ dcs (ds.drop (k + 1))) := by
    conv => lhs; rw [← List.take_append_drop k ds, List.drop_eq_getElem_cons hk]
    unfold dcs
    rw [List.flatMap_append]; rfl
  have hl : (dcs (ds.take k)).length = k * 16 := by
    rw [dcs_len fun x hx => h x (List.mem_of_mem_take hx), List.length_take, Nat.min_eq_left (by omega)]
  rw [e, List.getElem?_append_right (by omega), hl, show k * 16 + j - k * 16 = j from by omega]
  have hjl : j < (bc ds[k]).length := by
    rcases Nat.lt_or_ge j (bc ds[k]).length with h1 | h1
    · exact h1
    · rw [List.getElem?_eq_none h1] at hj; cases hj
  rw [List.getElem?_append_left hjl]; exact hj
theorem dcs_rd {w : World} {A : Option Addr} {ds : List (List UInt8)} (hr : Rd w A (dcs ds)) (h : ∀ d ∈ ds, d.length = 16) {k : Nat} (hk : k < ds.length) :
    ∃ b off, A = some ⟨b, off, none⟩ ∧ w.rangeAt b (off + k * 16) (bc ds[k]) := by
  have hd := h _ (List.getElem_mem hk)
  have hne : dcs ds ≠ [] := by
    intro e
    have := dcs_len h
    rw [e] at this; simp at this
    have h0 : ds.length = 0 := by omega
    omega
  obtain ⟨b, off, hA, hc⟩ := hr hne
  refine ⟨b, off, hA, fun j u hu => ?_⟩
  have := hc (k * 16 + j) u (dcs_at h hk j u hu)
  rw [← Nat.add_assoc] at this; exact this

set_option maxRecDepth 100000 in
set_option maxHeartbeats 400000 in
theorem appendDigest_any (base : Nat) (v : Value) (l d : List UInt8) (w : World) (hd : d.length = 16)
    (hown : OwnB w base v l) (hb : base ≤ w.heap.size) (hl : l.length ≤ 1099511627776) :
    Calls Try.prog 43 #[v, .agg (bc d).toArray] w fun e w' => ∃ v', e = .returned v' ∧ OwnB w' base v' (l ++ d) ∧ Below base w w' := by
  obtain ⟨cs, hcs⟩ : ∃ cs : Array Value, (bc d).toArray = cs := ⟨_, rfl⟩
  rw [hcs]
  have HC := Lib.hid hcs
  have hrd : ∀ j u, (bc d)[j]? = some u → (w.alloc (.cells cs 57)).cell? ((⟨w.heap.size, 0, none⟩ : Addr).add j) = some u := by
    intro j u hu
    rw [← hcs, Addr.add_mid]
    exact rangeAt_new w (bc d) 57 j u hu
  have HR := Lib.hid hrd
  have HD := Lib.hid hd
  obtain ⟨i0, hi, hz0, hz1, hz2⟩ := info_parts u8_info
  have HI := Lib.hid hi
  clear hcs hrd hd hi
  go_enter Try.func43, Try.ntmps43
  go_wp2_with (at_builtin; refine wpList_append_own _ rfl (.tmp 5) (.tmp 6) 28 rfl base 5 i0 (.int .u8 0) 1 1 Try.underlying28 HI.out hz0 hz1 hz2 rfl (by decide) v l.length (bc l) rfl (World.ownsRow.alloc hown _) ⟨w.heap.size, 0, none⟩ 16 16 (bc d) rfl ?c1 HR.out (bc_one d) ?c2 ?c3 ?c4 ?_; rotate_left 4; intro v1 w1 ho1 hg1 hn1)
  case c1 => rw [bc_len, HD.out]
  case c2 => unfold maxLen; omega
  case c3 => omega
  case c4 => simp; omega
  clear hn1
  go_ret
  refine ⟨v1, rfl, ?_, ((Below.refl base w).alloc hb _).grown hg1 (by simp; omega) (fun k hk => (World.ownsRow.lt hown k hk).1)⟩
  unfold OwnB
  rw [List.length_append, bc_app, HD.out]
  exact ho1

theorem results_dig {fn : Func} {p t u : Tmp} (h : fn.results = #[.cell p 57, .tmp t, .tmp u]) (tmps : Array Value) (w : World) (cs : Array Value) (hs : cs.size = 16) (hp : tmps.getD p undef = .pointer (some ⟨w.heap.size, 0, none⟩)) :
    (results fn tmps).run Try.prog (w.alloc (.cells cs 57)) = .ok (.tuple #[.agg cs, tmps.getD t undef, tmps.getD u undef]) (w.alloc (.cells cs 57)) := by
  have hp' : tmps[p]?.getD undef = .pointer (some ⟨w.heap.size, 0, none⟩) := by simpa using hp
  have hl := run_loadVar_new (P := Try.prog) w 57 cs 16 5 dig_under (by rw [dig_size, hs])
  simp [results, h, hp', asAddr, hl]

set_option maxRecDepth 100000 in
set_option maxHeartbeats 400000 in
theorem getDigest_any (A : Option Addr) (c : Nat) (l : List UInt8) (w : World) (hn : 16 ≤ l.length) (hc : l.length ≤ c) (hr : Rd w A (bc l)) :
    Calls Try.prog 50 #[.slice A l.length c] w fun e w' => e = .returned (.tuple #[.agg (bc (l.take 16)).toArray, .int .i64 16, .int .i64 0]) ∧ Below w.heap.size w w' := by
  obtain ⟨b, off, hA, hcell⟩ := hr (by intro e; have := bc_len l; rw [e] at this; simp at this; omega)
  subst hA
  have hd : (l.take 16).length = 16 := by rw [List.length_take]; omega
  have hrg : (w.alloc (.cells z16 57)).rangeAt b off (bc (l.take 16)) := by
    apply World.rangeAt_alloc
    intro k u hu
    rw [bc_take, List.getElem?_take] at hu
    split at hu
    · exact hcell k u hu
    · cases hu
  have HD := Lib.hid hd
  have HR := Lib.hid hrg
  have hc16 : 16 ≤ c := by omega
  clear hd hrg hr hcell
  generalize l.take 16 = d at HD HR
  generalize l.length = n at *
  have harr := fun (W : World) => run_arrayAt_dig W (some ⟨b, off, none⟩) c
  go_enter Try.func50, Try.ntmps50
  go_wp2_with (first | (refine wpList_load_dig rfl (.tmp 7) rfl b off rfl d HD.out HR.out ?_) | (refine wpList_store_dig rfl (.tmp 2) (.tmp 8) rfl d HD.out rfl rfl ?_))
  exact bodyPost_ret (results_dig rfl _ w (bc d).toArray (by rw [List.size_toArray, bc_len, HD.out]) rfl) rfl ⟨rfl, (Below.refl _ _).alloc (Nat.le_refl _) _⟩

def encD (ds : List (List UInt8)) : List UInt8 := encL (fun d => d) ds

set_option maxRecDepth 100000 in
set_option maxHeartbeats 400000 in
theorem putDigs_any (A : Option Addr) (c : Nat) (ds : List (List UInt8)) (w : World) (hr : Rd w A (dcs ds)) (hz : ∀ d ∈ ds, d.length = 16) (hl : ds.length ≤ 1099511627776) (ht : (encD ds).length ≤ 1099511627776) :
    Calls Try.prog 42 #[.slice A ds.length c, .func (.func 43) #[] #[]] w fun e w' => ∃ v, e = .returned v ∧ OwnB w' w.heap.size v (encD ds) ∧ Below w.heap.size w w' := by
  have HZ := Lib.hid hz
  have HR := Lib.hid hr
  have HT := Lib.hid ht
  clear hz hr ht
  go_enter Try.func42, Try.ntmps42
  go_wp2_with fail
  refine (appendInt_any w.heap.size _ [] _ _ (by omega) (by omega) (OwnB.nil _ _) (Nat.le_refl _) (by simp)).mono ?_
  rintro e w1 ⟨v1, rfl, ho1, hb1⟩
  go_wp2
  go_loopw [5, 13] (fun b i wr => ∃ k : Nat, i = .int .i64 k ∧ k ≤ ds.length ∧ OwnB wr w.heap.size b (enc ds.length ++ (ds.take k).flatMap (fun d => d)) ∧ w.heap.size ≤ wr.heap.size ∧ Below w.heap.size w wr)
    (fun _ i _ => ds.length - (intOf i).toNat)
  case atStart => exact ⟨0, rfl, by omega, by simpa using ho1, hb1.size, hb1⟩
  case round =>
    obtain ⟨k, rfl, hk, ho, hbs, hb⟩ := hrel
    clear ho1 hb1
    by_cases hlt : k < ds.length
    · have hR1 := HR.out.below hb
      obtain ⟨bb, off, hA, hrg⟩ := dcs_rd hR1 HZ.out hlt
      clear hR1
      subst hA
      have hzk := HZ.out ds[k] (List.getElem_mem hlt)
      have HP := Lib.hid (Nat.le_trans (encL_part (fun d : List UInt8 => d) ds k) HT.out)
      have HS := Lib.hid (encL_step (fun d : List UInt8 => d) ds k hlt)
      obtain ⟨z, hze⟩ : ∃ z, ds[k] = z := ⟨_, rfl⟩
      rw [hze] at hrg hzk HS
      have HG := Lib.hid hrg
      have HL := Lib.hid hzk
      clear hze hrg hzk
      go_wp2_with (first | (go_at_call 43; refine (appendDigest_any w.heap.size _ _ z _ HL.out ?s1 ?s2 HP.out).mono ?_; rotate_left 2; rintro e w2 ⟨v2, rfl, ho2, hb2⟩) | (refine wpList_load_dig rfl (.tmp 15) rfl bb (off + k * 16) rfl z HL.out HG.out ?_) | (refine wpList_store_dig rfl (.tmp 7) (.tmp 16) rfl z HL.out rfl rfl ?_) | (refine wpList_load_dig rfl (.tmp 7) rfl wr.heap.size 0 rfl z HL.out (rangeAt_new _ _ _) ?_))
      go_roundw
      case rel =>
        have hb3 := ((Below.refl w.heap.size wr).alloc hbs (.cells (bc z).toArray 57)).trans hb2
        exact ⟨k + 1, by go_num, by omega, by rw [← HS.out]; exact ho2, Nat.le_trans hbs hb3.size, hb.trans hb3⟩
      case measure => simp [intOf]; omega
      case s1 => exact World.ownsRow.alloc ho _
      case s2 => simp; omega
    · have HE := Lib.hid (encL_end (fun d : List UInt8 => d) ds k hlt)
      go_wp2
      go_ret
      exact ⟨_, rfl, by unfold encD; rw [← HE.out]; exact ho, hb⟩

set_option maxHeartbeats 400000 in
theorem digs_any (A : Option Addr) (c : Nat) (ds : List (List UInt8)) (w : World) (hr : Rd w A (dcs ds)) (hz : ∀ d ∈ ds, d.length = 16) (hl : ds.length ≤ 1099511627776) (ht : (encD ds).length ≤ 1099511627776) :
    Calls Try.prog 22 #[.slice A ds.length c] w fun e w' => ∃ v, e = .returned v ∧ OwnB w' w.heap.size v (encD ds) ∧ Below w.heap.size w w' := by
  have HC := Lib.hid (putDigs_any A c ds w hr hz hl ht)
  clear hr hz ht
  go_enter Try.func22, Try.ntmps22
  go_wp2_with (go_at_call 42; refine HC.out.mono ?_; rintro e w' ⟨v, rfl, ho, hb⟩)
  go_ret
  exact ⟨v, rfl, ho, hb⟩
theorem run_buildSlice_16 (w : World) (v0 v1 v2 v3 v4 v5 v6 v7 v8 v9 v10 v11 v12 v13 v14 v15 : Value) : (Instr.buildSlice 24 1 #[(0, .agg #[v0, v1, v2, v3, v4, v5, v6, v7, v8, v9, v10, v11, v12, v13, v14, v15])]).run Try.prog w = .ok (.slice (some ⟨w.heap.size, 0, none⟩) 1 1) (w.alloc (.cells #[v0, v1, v2, v3, v4, v5, v6, v7, v8, v9, v10, v11, v12, v13, v14, v15] 57)) := by kernel_rfl
theorem run_buildSlice_dig (w : World) (d : List UInt8) (hd : d.length = 16) : (Instr.buildSlice 24 1 #[(0, .agg (bc d).toArray)]).run Try.prog w = .ok (.slice (some ⟨w.heap.size, 0, none⟩) 1 1) (w.alloc (.cells (bc d).toArray 57)) :=
  match d, hd with
  | [v0, v1, v2, v3, v4, v5, v6, v7, v8, v9, v10, v11, v12, v13, v14, v15], _ => run_buildSlice_16 w (.int .u8 v0.toNat) (.int .u8 v1.toNat) (.int .u8 v2.toNat) (.int .u8 v3.toNat) (.int .u8 v4.toNat) (.int .u8 v5.toNat) (.int .u8 v6.toNat) (.int .u8 v7.toNat) (.int .u8 v8.toNat) (.int .u8 v9.toNat) (.int .u8 v10.toNat) (.int .u8 v11.toNat) (.int .u8 v12.toNat) (.int .u8 v13.toNat) (.int .u8 v14.toNat) (.int .u8 v15.toNat)
/-- '[]Digest{d}'. -/
theorem wpList_build_dig {w : World} {ops : Array Oper} {rest : List Oper} {op : Oper} {a : Act} {Q : Exit → Act → World → Prop} (hgd : op.guard = none) (x : Operand) (ho : op.op = .buildSlice 24 1 #[(0, x)])
    (d : List UInt8) (hd : d.length = 16) (hx : a.eval x = .agg (bc d).toArray)
    (h : wpList Try.prog ops Q rest (a.put op.dst (.slice (some ⟨w.heap.size, 0, none⟩) 1 1)) (w.alloc (.cells (bc d).toArray 57))) : wpList Try.prog ops Q (op :: rest) a w := by
  refine wpList_plain hgd fun K hK => ?_
  have hrun := run_buildSlice_dig w d hd
  unfold Oper.wp execOp
  simp only [ho, List.map_toArray, List.map_cons, List.map_nil, hx, Sem.run_bind, hrun, Result.andThen_ok]
  exact hK _ _ h
end Go.Proofs.Ytpobblcokkgijaa
