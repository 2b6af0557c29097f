/- Contracts of merkle's Append and Top. -/
import Derived.Test.YtfbemmeonkceiaaDoorKPk
namespace Go.Proofs.YtfbemmeonkceiaaDoor
open Go.RowKit Hm Wm

theorem pk_size : (Tryd.prog.info? 43).map (·.size) = some 2 := by kernel_rfl
def pkc (s : Int) (v : Value) : List Value := [.int .i64 s, v]
theorem pk_zero : (Tryd.prog.info? 43).map (·.zero) = some (some (.agg (pkc 0 (.slice none 0 0)).toArray)) := by kernel_rfl
theorem results_ct {P : Program} {fn : Func} {p q : Tmp} {ty : TypeId} (h : fn.results = #[.cell p ty, .tmp q]) (tmps : Array Value) (w : World) (g : Nat) (t : TypeId) (cs : List Value) (d : TypeDesc) (v : Value)
    (hp : tmps.getD p undef = .pointer (some ⟨g, 0, none⟩)) (hq : tmps.getD q undef = v) (hg : Blk w g t cs) (hu : P.underlying ty = some d) (hd : d.isRow = true) (hi : (P.info? ty).map (·.size) = some cs.length) :
    (results fn tmps).run P w = .ok (.tuple #[.agg cs.toArray, v]) w := by
  have hp' : tmps[p]?.getD undef = .pointer (some ⟨g, 0, none⟩) := by simpa using hp
  have hq' : tmps[q]?.getD undef = v := by simpa using hq
  have r1 := run_loadVar_row (P := P) w g t ty cs.toArray (0, 0) d hg hu (by cases d <;> first | rfl | cases hd) (by simpa using hi)
  simp [results, h, hp', hq', asAddr, r1]
theorem pkc_one (s : Int) (A : Option Addr) (n c : Nat) : ∀ v ∈ pkc s (.slice A n c), v.oneCell' = true := by
  intro v hv
  unfold pkc at hv
  simp at hv
  rcases hv with rfl | rfl <;> rfl
theorem own_slice {w : World} {base : Nat} {e : TypeId} {size : Nat} {v : Value} {n : Nat} {xs : List Value} (h : w.ownsRow base e size v n xs) : ∃ A n c, v = .slice A n c := by
  rcases h.2 with ⟨rfl, _⟩ | ⟨g, cap, cur, rfl, _⟩ <;> exact ⟨_, _, _, rfl⟩
/-- The frame of Append: the peaks, the leaf and the result lie behind w. -/
def FrA (w : World) (s : Int) (v : Value) (leaf : Dg) (s' : Int) (v' : Value) (W : World) : Prop :=
  Below w.heap.size w W ∧ Blk W w.heap.size 43 (pkc s v) ∧ Blk W (w.heap.size + 1) 31 (dc leaf) ∧ Blk W (w.heap.size + 1 + 1) 43 (pkc s' v')
theorem FrA.next {w W W' : World} {s s' : Int} {v v' : Value} {leaf : Dg} (h : FrA w s v leaf s' v' W) (hb : Below W.heap.size W W') : FrA w s v leaf s' v' W' :=
  ⟨h.1.trans (hb.mono h.1.size), h.2.1.next hb, h.2.2.1.next hb, h.2.2.2.next hb⟩
theorem FrA.begin (w : World) (s : Int) (v : Value) (leaf : Dg) : FrA w s v leaf 0 (.slice none 0 0) (((w.alloc (.cells #[.int .i64 s, v] 43)).alloc (.cells (dc leaf).toArray 31)).alloc (.cells (pkc 0 (.slice none 0 0)).toArray 43)) := by
  have hb := (((Below.refl w.heap.size w).alloc (Nat.le_refl _) (.cells #[.int .i64 s, v] 43)).alloc (by simp) (.cells (dc leaf).toArray 31)).alloc (by simp; omega) (.cells (pkc 0 (.slice none 0 0)).toArray 43)
  have k1 := ((Blk.new w 43 [.int .i64 s, v]).alloc (.cells (dc leaf).toArray 31)).alloc (.cells (pkc 0 (.slice none 0 0)).toArray 43)
  have k2 := (Blk.new (w.alloc (.cells #[.int .i64 s, v] 43)) 31 (dc leaf)).alloc (.cells (pkc 0 (.slice none 0 0)).toArray 43)
  have k3 := Blk.new ((w.alloc (.cells #[.int .i64 s, v] 43)).alloc (.cells (dc leaf).toArray 31)) 43 (pkc 0 (.slice none 0 0))
  rw [size_alloc] at k2
  rw [size_alloc, size_alloc] at k3
  exact ⟨hb, k1, k2, k3⟩

set_option maxRecDepth 100000 in
set_option maxHeartbeats 1000000 in
theorem append_bad (s : Int) (A : Option Addr) (n c : Nat) (leaf : Dg) (w : World) (h : wfB s n = false) :
    Calls Tryd.prog 25 #[pkV s (.slice A n c), dv leaf] w fun e w' => e = .returned (.tuple #[pkV 0 (.slice none 0 0), .int .i64 1]) ∧ Below w.heap.size w w' := by
  have HF := Lib.hid (FrA.begin w s (.slice A n c) leaf)
  have HW := Lib.hid (fun w' => wf_any s A n c w')
  rw [h] at HW
  clear h
  unfold dv pkV
  go_enter Tryd.func25, Tryd.ntmps25
  go_wp2_with (first | (refine wpList_alloc_zero rfl 43 rfl (pkc 0 (.slice none 0 0)) pk_zero ?_; try rw [size_alloc, size_alloc]; generalize (((w.alloc (.cells #[.int .i64 s, .slice A n c] 43)).alloc (.cells (dc leaf).toArray 31)).alloc (.cells (pkc 0 (.slice none 0 0)).toArray 43)) = w1 at HF ⊢) | (refine wpList_load_all rfl _ (.tmp 2) rfl w.heap.size _ (pkc s (.slice A n c)) _ rfl HF.out.2.1 Tryd.underlying43 rfl pk_size ?_))
  refine (HW.out _).mono ?_
  rintro e w2 ⟨rfl, hb2⟩
  have F2 := Lib.hid (HF.out.next hb2)
  clear hb2
  go_wp2_with (refine wpList_store_all rfl _ (.tmp 4) (.tmp 14) rfl (w.heap.size + 1 + 1) _ (pkc 0 (.slice none 0 0)) (pkc 0 (.slice none 0 0)) rfl rfl F2.out.2.2.2 rfl pk_size (pkc_one _ _ _ _) ?_; intro w3 HB3 ho3)
  exact bodyPost_ret (results_ct rfl _ _ (w.heap.size + 1 + 1) _ (pkc 0 (.slice none 0 0)) _ (.int .i64 1) rfl rfl HB3.out Tryd.underlying43 rfl pk_size) rfl ⟨rfl, F2.out.1.trans (ho3.below (by omega))⟩

set_option maxRecDepth 100000 in
set_option maxHeartbeats 1000000 in
theorem append_full (A : Option Addr) (n c : Nat) (leaf : Dg) (w : World) (h : wfB 1099511627776 n = true) :
    Calls Tryd.prog 25 #[pkV 1099511627776 (.slice A n c), dv leaf] w fun e w' => e = .returned (.tuple #[pkV 0 (.slice none 0 0), .int .i64 2]) ∧ Below w.heap.size w w' := by
  have HF := Lib.hid (FrA.begin w 1099511627776 (.slice A n c) leaf)
  have HW := Lib.hid (fun w' => wf_any 1099511627776 A n c w')
  rw [h] at HW
  clear h
  unfold dv pkV
  go_enter Tryd.func25, Tryd.ntmps25
  go_wp2_with (first | (refine wpList_alloc_zero rfl 43 rfl (pkc 0 (.slice none 0 0)) pk_zero ?_; try rw [size_alloc, size_alloc]; generalize (((w.alloc (.cells #[.int .i64 1099511627776, .slice A n c] 43)).alloc (.cells (dc leaf).toArray 31)).alloc (.cells (pkc 0 (.slice none 0 0)).toArray 43)) = w1 at HF ⊢) | (refine wpList_load_all rfl _ (.tmp 2) rfl w.heap.size _ (pkc 1099511627776 (.slice A n c)) _ rfl HF.out.2.1 Tryd.underlying43 rfl pk_size ?_))
  refine (HW.out _).mono ?_
  rintro e w2 ⟨rfl, hb2⟩
  have F2 := Lib.hid (HF.out.next hb2)
  clear hb2
  have hc0 : w2.cell? ⟨w.heap.size, 0, none⟩ = some (.int .i64 1099511627776) := F2.out.2.1.cell 0
  go_wp2_with (refine wpList_store_all rfl _ (.tmp 4) (.tmp 19) rfl (w.heap.size + 1 + 1) _ (pkc 0 (.slice none 0 0)) (pkc 0 (.slice none 0 0)) rfl rfl F2.out.2.2.2 rfl pk_size (pkc_one _ _ _ _) ?_; intro w3 HB3 ho3)
  exact bodyPost_ret (results_ct rfl _ _ (w.heap.size + 1 + 1) _ (pkc 0 (.slice none 0 0)) _ (.int .i64 2) rfl rfl HB3.out Tryd.underlying43 rfl pk_size) rfl ⟨rfl, F2.out.1.trans (ho3.below (by omega))⟩

theorem wfB_in (s n : Nat) (h : s ≤ 1099511627776) (hn : n = Go.Lib.popAux 64 s) : wfB (s : Int) n = true := by
  unfold wfB
  obtain ⟨p, hp⟩ : ∃ p, Go.Lib.popAux 64 = p := ⟨_, rfl⟩
  rw [hp] at hn ⊢
  rw [Int.toNat_natCast, decide_eq_true_iff]
  exact ⟨by omega, by omega, hn⟩
theorem wfB_iff (s : Int) (n : Nat) : wfB s n = true ↔ 0 ≤ s ∧ s ≤ 1099511627776 ∧ n = Go.Lib.popAux 64 s.toNat := by
  unfold wfB
  obtain ⟨p, hp⟩ : ∃ p, Go.Lib.popAux 64 = p := ⟨_, rfl⟩
  rw [hp, decide_eq_true_iff]

theorem xor_max (s : Nat) (h : s < 18446744073709551616) : bits BinOp.xor IntKind.u64 IntKind.u64.max (s : Int) = ((18446744073709551615 - s : Nat) : Int) := by
  have e1 : (BitVec.ofInt 64 IntKind.u64.max ^^^ BitVec.ofInt 64 (s : Int)).toNat = 18446744073709551615 - s := by
    have e : BitVec.ofInt 64 IntKind.u64.max = BitVec.allOnes 64 := by decide
    rw [e, BitVec.allOnes_xor, BitVec.toNat_not, BitVec.toNat_ofInt]
    omega
  show IntKind.u64.wrap ((BitVec.ofInt 64 IntKind.u64.max ^^^ BitVec.ofInt 64 (s : Int)).toNat : Int) = _
  rw [e1, IntKind.wrap_u64]; omega

theorem pop_le : ∀ (f s : Nat), Go.Lib.popAux f s ≤ f
  | 0, _ => Nat.le_refl _
  | f + 1, s => by
    have := pop_le f (s / 2)
    rw [show Go.Lib.popAux (f + 1) s = s % 2 + Go.Lib.popAux f (s / 2) from rfl]; omega
/-- 'append(l, d)' onto an own row of digests, d's row made just now. -/
theorem run_pushD {oi : Oper} {a : Act} {w : World} (s x : Operand) (ho : oi.op = .call { callee := .builtin .append, args := #[s, x], argTypes := #[22, 22] })
    (base : Nat) (v : Value) (l : List Dg) (hs : a.eval s = v) (hown : w.ownsRow base 31 16 v l.length (dl l)) (e : Dg) (hb : base ≤ w.heap.size) (hl : l.length ≤ 1099511627776)
    (hx : a.eval x = .slice (some ⟨w.heap.size, 0, none⟩) 1 1) :
    ∃ v' w', (execOp a.eval oi).run Tryd.prog (w.alloc (.cells (dc e).toArray 31)) = .ok (.value v') w' ∧ w'.ownsRow base 31 16 v' (l ++ [e]).length (dl (l ++ [e])) ∧ Below base w w' := by
  obtain ⟨i0, hi0, hz0, hz1, hz2⟩ := info_parts dg_info
  have hnews : ∀ j u, (dc e)[j]? = some u → (w.alloc (.cells (dc e).toArray 31)).cell? ((⟨w.heap.size, 0, none⟩ : Addr).add j) = some u := by
    intro j u hu
    rw [Addr.add_mid, Nat.zero_add, (Blk.new w 31 (dc e)).cell j]
    exact hu
  obtain ⟨v', w', hrun, h2, h3, _⟩ := run_append_own_at (P := Tryd.prog) (w.alloc (.cells (dc e).toArray 31)) base 22 oi.type 31 i0 _ 16 16 ds_under hi0 hz0 hz1 hz2 rfl (by decide) v l.length (dl l) (World.ownsRow.alloc hown _)
    ⟨w.heap.size, 0, none⟩ 1 1 (dc e) (by rw [dc_len]) hnews (dc_one _) (by unfold maxLen; omega) (by omega) (by simp; omega)
  refine ⟨v', w', ?_, ?_, ?_⟩
  · unfold execOp
    simp only [ho, resolve, invoke, builtin, Sem.run_bind, Sem.run_pure, Result.andThen_ok, List.map_toArray, List.map_cons, List.map_nil, hs, hx, hrun]
  · rw [List.length_append, dl_app, dl_one]
    exact h2
  · exact (((Below.refl base w).alloc hb _).grown h3 (by simp; omega) (fun k hk => (World.ownsRow.lt hown k hk).1))

theorem reg_pushG {md : Region.Mode} {ops : Array Oper} {Q : Exit → Act → World → Prop} {S : World → Prop} {i fuel : Nat} {oi : Oper} {listed : Array Bool} {a : Act} {w : World} (d : Option Tmp) (hi : ops[i]? = some oi) (hd : oi.dst = d) (hw : Region.wanted oi (yielded ops a.tmps) = true) (hr : Region.ready md ops listed = [i])
    (s x : Operand) (ho : oi.op = .call { callee := .builtin .append, args := #[s, x], argTypes := #[22, 22] })
    (base : Nat) (v : Value) (l : List Dg) (hs : a.eval s = v) (hown : w.ownsRow base 31 16 v l.length (dl l)) (e : Dg) (hb : base ≤ w.heap.size) (hl : l.length ≤ 1099511627776)
    (hx : a.eval x = .slice (some ⟨w.heap.size, 0, none⟩) 1 1)
    (h : ∀ v' w', w'.ownsRow base 31 16 v' (l ++ [e]).length (dl (l ++ [e])) → Below base w w' → S w' ∧ wpAnyH Tryd.prog md ops Q S fuel (listed.setIfInBounds i true) (a.put d v') w') :
    wpAnyH Tryd.prog md ops Q S (fuel + 1) listed a (w.alloc (.cells (dc e).toArray 31)) := by
  obtain ⟨v', w', hrun, h1, h2⟩ := run_pushD s x ho base v l hs hown e hb hl hx
  obtain ⟨h3, h4⟩ := h v' w' h1 h2
  exact reg_makeG d hi hd hw hr v' w' hrun h3 h4

set_option maxRecDepth 100000 in
set_option maxHeartbeats 1000000 in
theorem append_any (s : Nat) (A : Option Addr) (c : Nat) (tops : List Dg) (leaf : Dg) (w : World) (hg : Glob w) (hT : Tab64 w) (hr : RdD w A tops) (hs : s < 1099511627776) (hn : tops.length = Go.Lib.popAux 64 s) (hc : tops.length ≤ c) :
    Calls Tryd.prog 25 #[pkV s (.slice A tops.length c), dv leaf] w fun e w' => ∃ v, e = .returned (.tuple #[pkV ((s : Int) + 1) v, .int .i64 0]) ∧ NewD w' (appD tops s leaf) v ∧ Below w.heap.size w w' := by
  have HF := Lib.hid (FrA.begin w s (.slice A tops.length c) leaf)
  have HW := Lib.hid (fun w' => wf_any s A tops.length c w')
  rw [wfB_in s tops.length (by omega) hn] at HW
  have d0 : ((s : Int) == 1099511627776) = false := by rw [beq_eq_false_iff_ne]; omega
  have d2 : IntKind.u64.wrap (s : Int) = (s : Int) := by rw [IntKind.wrap_u64]; omega
  have HT := Lib.hid (fun w (h : Tab64 w) => tz_any (18446744073709551615 - s) (by omega) (by omega) w h)
  rw [ctz64_ones s (by omega)] at HT
  have HTW := Lib.hid hT
  have HG := Lib.hid hg
  have HR := Lib.hid hr
  have htO : tO 64 s ≤ tops.length := by rw [hn]; exact tO_le 64 s
  have hlen : tops.length ≤ 64 := by rw [hn]; exact pop_le 64 s
  clear hT hg hr hn
  obtain ⟨t, ht⟩ : ∃ t, tO 64 s = t := ⟨_, rfl⟩
  have happ : appD tops s leaf = tops.take (tops.length - t) ++ [joinD (tops.drop (tops.length - t)) leaf] := by rw [← ht]; rfl
  rw [happ]
  rw [ht] at HT htO
  obtain ⟨k, hk⟩ : ∃ k, tops.length - t = k := ⟨_, rfl⟩
  have hkl : k ≤ tops.length := by omega
  rw [hk]
  have d3 : IntKind.i64.wrap ((tops.length : Int) - (t : Int)) = (k : Int) := by rw [IntWalk.i64_in _ (by omega)]; omega
  clear ht happ hk
  have hxor := xor_max s (by omega)
  obtain ⟨x, hx⟩ : ∃ x : Nat, 18446744073709551615 - s = x := ⟨_, rfl⟩
  rw [hx] at hxor HT
  clear hx
  unfold dv pkV
  go_enter Tryd.func25, Tryd.ntmps25
  go_wp2_with (first | (refine wpList_alloc_zero rfl 43 rfl (pkc 0 (.slice none 0 0)) pk_zero ?_; try rw [size_alloc, size_alloc]; generalize (((w.alloc (.cells #[.int .i64 s, .slice A tops.length c] 43)).alloc (.cells (dc leaf).toArray 31)).alloc (.cells (pkc 0 (.slice none 0 0)).toArray 43)) = w1 at HF ⊢) | (refine wpList_load_all rfl _ (.tmp 2) rfl w.heap.size _ (pkc s (.slice A tops.length c)) _ rfl HF.out.2.1 Tryd.underlying43 rfl pk_size ?_))
  refine (HW.out _).mono ?_
  rintro e w2 ⟨rfl, hb2⟩
  have F2 := Lib.hid (HF.out.next hb2)
  clear hb2
  have hc0 : w2.cell? ⟨w.heap.size, 0, none⟩ = some (.int .i64 s) := F2.out.2.1.cell 0
  have hc1 : w2.cell? ⟨w.heap.size, 1, none⟩ = some (.slice A tops.length c) := F2.out.2.1.cell 1
  go_wp2_with fail
  refine (HT.out _ (HTW.out.next F2.out.1)).mono ?_
  rintro e w' ⟨rfl, rfl⟩
  go_wp2_with fail
  refine (cut_any A tops.length c k _ hkl hc).mono ?_
  rintro e w3 ⟨rfl, q, hq⟩
  have F3 := Lib.hid (F2.out.next (show Below w'.heap.size w' w3 from by rw [hq]; exact drewN_below (Below.refl _ _) q))
  clear hq hc0 hc1
  go_wp2_with fail
  have e1 : (tops.take k).length = k := by rw [List.length_take]; omega
  have e2 : (tops.drop k).length = tops.length - k := List.length_drop
  have HE1 := Lib.hid e1
  have HRT := Lib.hid (HR.out.take k)
  have HRD := Lib.hid (HR.out.drop k)
  have HL := Lib.hid hlen
  have HCL := Lib.hid (fun w (h : RdD w A (tops.take k)) => clone_any A k (tops.take k) w (by omega) h)
  have HJ := Lib.hid (fun w (h : Glob w) (h2 : RdD w (dA A tops.length k) (tops.drop k)) => join_any (dA A tops.length k) (tops.length - k) (tops.drop k) leaf w h h2 (by omega))
  rw [e1] at HCL
  rw [e2] at HJ
  have d4 : IntKind.i64.wrap ((s : Int) + 1) = ((s + 1 : Nat) : Int) := by rw [IntWalk.i64_in _ (by omega)]; omega
  clear hkl e1 e2 hlen htO d0 d2 d3 hxor
  refine wp_region_held_drew (S := fun W => Below w3.heap.size w3 W) (by kernel_rfl) (Below.refl _ _).drew (fun hS => ?_)
  generalize w3.drew = w4 at hS ⊢
  refine reg_takeG (i := 0) (some 36) rfl rfl rfl (by kernel_rfl) (by kernel_rfl) (by kernel_rfl) (.slice A k k) (fun _ _ _ h => h) (fun W hW => exec_move (.tmp 7) rfl _ rfl) hS ?_
  go_frame
  refine reg_takeG (i := 2) (some 38) rfl rfl rfl (by kernel_rfl) (by kernel_rfl) (by kernel_rfl) (.slice (dA A tops.length k) (tops.length - k : Nat) (tops.length - k : Nat)) (fun _ _ _ h => h) (fun W hW => exec_move (.tmp 8) rfl _ rfl) hS ?_
  go_frame
  refine reg_takeG (i := 3) (some 39) rfl rfl rfl (by kernel_rfl) (by kernel_rfl) (by kernel_rfl) (dv leaf) (fun _ _ _ h => h) (fun W hW => exec_loadB (.tmp 3) rfl rfl ((F3.out.next hW).2.2.1)) hS ?_
  go_frame
  refine reg_callG (i := 1) (some 37) rfl rfl rfl (by kernel_rfl) rfl Tryd.func54 (by kernel_rfl) (by kernel_rfl) #[.slice A k k] rfl (HCL.out w4 (HRT.out.below (F3.out.next hS).1)) ?_
  rintro e w5 ⟨v5, rfl, ho5, hb5⟩
  have hS5 := hS.trans (hb5.mono hS.size)
  refine ⟨_, rfl, hS5, ?_⟩
  go_frame
  refine reg_callG (i := 4) (some 40) rfl rfl rfl (by kernel_rfl) rfl Tryd.func55 (by kernel_rfl) (by kernel_rfl) #[.slice (dA A tops.length k) (tops.length - k : Nat) (tops.length - k : Nat), dv leaf] rfl (HJ.out w5 (HG.out.next (F3.out.next hS5).1) (HRD.out.below (F3.out.next hS5).1)) ?_
  rintro e w6 ⟨rfl, hb6⟩
  have hS6 := hS5.trans (hb6.mono hS5.size)
  refine ⟨_, rfl, hS6, ?_⟩
  go_frame
  obtain ⟨d, hd⟩ : ∃ d, joinD (tops.drop k) leaf = d := ⟨_, rfl⟩
  simp only [hd]
  have HD := Lib.hid hd
  clear hd
  have ho6 : w6.ownsRow w4.heap.size 31 16 v5 (tops.take k).length (dl (tops.take k)) := own_below (by rw [HE1.out]; exact ho5) hb6
  have hz6 : w4.heap.size ≤ w6.heap.size := by have h1 := hb5.size; have h2 := hb6.size; omega
  refine reg_makeG (i := 5) (some 41) rfl rfl rfl (by kernel_rfl) (.slice (some ⟨w6.heap.size, 0, none⟩) 1 1) _ (exec_buildD1 (.tmp 40) rfl d rfl) (hS6.alloc hS6.size _) ?_
  go_frame
  refine reg_pushG (i := 6) (some 42) rfl rfl rfl (by kernel_rfl) (.tmp 37) (.tmp 41) rfl w4.heap.size v5 (tops.take k) rfl ho6 d hz6 (by rw [List.length_take]; have := HL.out; omega) rfl ?_
  intro v7 w7 ho7 hb7
  have hS7 := hS6.trans (hb7.mono hS.size)
  refine ⟨hS7, ?_⟩
  go_frame
  refine reg_valueG (i := 7) (some 9) rfl rfl rfl (by kernel_rfl) v7 (exec_assign (.tmp 42) rfl _ rfl) hS7 ?_
  go_frame
  refine wpAnyH_done (by kernel_rfl) ?_ _
  have F7 := Lib.hid (F3.out.next hS7)
  have HO7 := Lib.hid ho7
  have HZ4 := Lib.hid hS.size
  obtain ⟨A7, n7, c7, rfl⟩ := own_slice ho7
  have hc0 : w7.cell? ⟨w.heap.size, 0, none⟩ = some (.int .i64 s) := F7.out.2.1.cell 0
  clear hS hS5 hS6 hS7 hb5 ho5 hb6 ho6 hz6 hb7 ho7
  go_wp2_with (refine wpList_store_all rfl _ (.tmp 4) (.tmp 47) rfl (w.heap.size + 1 + 1) _ (pkc 0 (.slice none 0 0)) (pkc ((s : Int) + 1) (.slice A7 n7 c7)) rfl rfl F7.out.2.2.2 rfl pk_size (pkc_one _ _ _ _) ?_; intro w8 HB8 ho8)
  exact bodyPost_ret (results_ct rfl _ _ (w.heap.size + 1 + 1) _ (pkc ((s : Int) + 1) (.slice A7 n7 c7)) _ (.int .i64 0) rfl rfl HB8.out Tryd.underlying43 rfl pk_size) rfl ⟨_, rfl, newD_of_row (by rw [HD.out]; exact own_only HO7.out ho8 (by have := F3.out.2.2.2.lt; have := HZ4.out; omega)), F7.out.1.trans (ho8.below (by omega))⟩

/-- The frame of Top: the peaks and the result lie behind w. -/
def FrT (w : World) (s : Int) (v : Value) (z : List Value) (W : World) : Prop :=
  Below w.heap.size w W ∧ Blk W w.heap.size 43 (pkc s v) ∧ Blk W (w.heap.size + 1) 31 z
theorem FrT.next {w W W' : World} {s : Int} {v : Value} {z : List Value} (h : FrT w s v z W) (hb : Below W.heap.size W W') : FrT w s v z W' :=
  ⟨h.1.trans (hb.mono h.1.size), h.2.1.next hb, h.2.2.next hb⟩
theorem FrT.begin (w : World) (s : Int) (v : Value) : FrT w s v (zb 16) ((w.alloc (.cells #[.int .i64 s, v] 43)).alloc (.cells (zb 16).toArray 31)) := by
  have hb := ((Below.refl w.heap.size w).alloc (Nat.le_refl _) (.cells #[.int .i64 s, v] 43)).alloc (by simp) (.cells (zb 16).toArray 31)
  have k1 := (Blk.new w 43 [.int .i64 s, v]).alloc (.cells (zb 16).toArray 31)
  have k2 := Blk.new (w.alloc (.cells #[.int .i64 s, v] 43)) 31 (zb 16)
  rw [size_alloc] at k2
  exact ⟨hb, k1, k2⟩

set_option maxRecDepth 100000 in
set_option maxHeartbeats 1000000 in
theorem top_bad (s : Int) (A : Option Addr) (n c : Nat) (w : World) (h : wfB s n = false) :
    Calls Tryd.prog 26 #[pkV s (.slice A n c)] w fun e w' => e = .returned (.tuple #[dv dz, .int .i64 1]) ∧ Below w.heap.size w w' := by
  have HF := Lib.hid (FrT.begin w s (.slice A n c))
  have HW := Lib.hid (fun w' => wf_any s A n c w')
  rw [h] at HW
  clear h
  have hdz : dv dz = .agg (zb 16).toArray := rfl
  rw [hdz]
  clear hdz
  unfold pkV
  go_enter Tryd.func26, Tryd.ntmps26
  go_wp2_with (first | (refine wpList_alloc_zero rfl 31 rfl (zb 16) dg_zero ?_; try rw [size_alloc]; generalize ((w.alloc (.cells #[.int .i64 s, .slice A n c] 43)).alloc (.cells (zb 16).toArray 31)) = w1 at HF ⊢) | (refine wpList_load_all rfl _ (.tmp 1) rfl w.heap.size _ (pkc s (.slice A n c)) _ rfl HF.out.2.1 Tryd.underlying43 rfl pk_size ?_))
  refine (HW.out _).mono ?_
  rintro e w2 ⟨rfl, hb2⟩
  have F2 := Lib.hid (HF.out.next hb2)
  clear hb2
  go_wp2_with (first | (refine wpList_store_all rfl _ (.tmp 2) (.tmp 9) rfl (w.heap.size + 1) _ (zb 16) (zb 16) rfl rfl F2.out.2.2 rfl dg_size (dc_one dz) ?_; intro w3 HB3 ho3))
  exact bodyPost_ret (results_ct rfl _ _ (w.heap.size + 1) _ (zb 16) _ (.int .i64 1) rfl rfl HB3.out dg_under rfl dg_size) rfl ⟨rfl, F2.out.1.trans (ho3.below (by omega))⟩

set_option maxRecDepth 100000 in
set_option maxHeartbeats 1000000 in
theorem top_zero (A : Option Addr) (n c : Nat) (w : World) (hg : Glob w) (h : wfB 0 n = true) :
    Calls Tryd.prog 26 #[pkV 0 (.slice A n c)] w fun e w' => e = .returned (.tuple #[dv emptyD, .int .i64 0]) ∧ Below w.heap.size w w' := by
  have HF := Lib.hid (FrT.begin w 0 (.slice A n c))
  have HW := Lib.hid (fun w' => wf_any 0 A n c w')
  rw [h] at HW
  have HG := Lib.hid hg
  have HRT := Lib.hid (fun w h => root_none none 0 w h)
  rw [rootD_nil] at HRT
  clear h hg
  unfold pkV
  go_enter Tryd.func26, Tryd.ntmps26
  go_wp2_with (first | (refine wpList_alloc_zero rfl 31 rfl (zb 16) dg_zero ?_; try rw [size_alloc]; generalize ((w.alloc (.cells #[.int .i64 0, .slice A n c] 43)).alloc (.cells (zb 16).toArray 31)) = w1 at HF ⊢) | (refine wpList_load_all rfl _ (.tmp 1) rfl w.heap.size _ (pkc 0 (.slice A n c)) _ rfl HF.out.2.1 Tryd.underlying43 rfl pk_size ?_))
  refine (HW.out _).mono ?_
  rintro e w2 ⟨rfl, hb2⟩
  have F2 := Lib.hid (HF.out.next hb2)
  clear hb2
  have hc0 : w2.cell? ⟨w.heap.size, 0, none⟩ = some (.int .i64 0) := F2.out.2.1.cell 0
  go_wp2_with fail
  refine (HRT.out _ (HG.out.next F2.out.1)).mono ?_
  rintro e w3 ⟨rfl, hb3⟩
  have F3 := Lib.hid (F2.out.next hb3)
  clear hb3 hc0
  go_wp2_with (refine wpList_store_all rfl _ (.tmp 2) (.tmp 13) rfl (w.heap.size + 1) _ (zb 16) (dc emptyD) rfl rfl F3.out.2.2 (dd_len _) (dd_size _) (dc_one _) ?_; intro w4 HB4 ho4)
  exact bodyPost_ret (results_ct rfl _ _ (w.heap.size + 1) _ (dc emptyD) _ (.int .i64 0) rfl rfl HB4.out dg_under rfl (dd_size _)) rfl ⟨rfl, F3.out.1.trans (ho4.below (by omega))⟩

set_option maxRecDepth 100000 in
set_option maxHeartbeats 1000000 in
theorem top_any (s : Nat) (A : Option Addr) (c : Nat) (t : List Dg) (x : Dg) (w : World) (hg : Glob w) (hr : RdD w A (t ++ [x])) (hs0 : s ≠ 0) (hs : s ≤ 1099511627776) (hn : (t ++ [x]).length = Go.Lib.popAux 64 s) (hc : (t ++ [x]).length ≤ c) :
    Calls Tryd.prog 26 #[pkV s (.slice A (t ++ [x]).length c)] w fun e w' => e = .returned (.tuple #[dv (joinD t x), .int .i64 0]) ∧ Below w.heap.size w w' := by
  have hlen : (t ++ [x]).length ≤ 64 := by rw [hn]; exact pop_le 64 s
  have HW := Lib.hid (fun w' => wf_any s A (t ++ [x]).length c w')
  rw [wfB_in s _ hs hn] at HW
  obtain ⟨n, hnn⟩ : ∃ n, (t ++ [x]).length = n := ⟨_, rfl⟩
  have htl : t.length = n - 1 ∧ 1 ≤ n := by rw [← hnn]; simp
  have r1 := hr.take (n - 1)
  rw [List.take_append_of_le_length (by omega), List.take_of_length_le (by omega)] at r1
  have r2 := hr.drop (n - 1)
  rw [List.drop_append_of_le_length (by omega), List.drop_of_length_le (by omega), List.nil_append, hnn] at r2
  rw [hnn] at HW hlen hc ⊢
  have HF := Lib.hid (FrT.begin w s (.slice A n c))
  have HG := Lib.hid hg
  have HR1 := Lib.hid r1
  have HR2 := Lib.hid r2
  have HJ := Lib.hid (fun w (h : Glob w) (h2 : RdD w A t) => join_any A (n - 1) t x w h h2 (by omega))
  rw [htl.1] at HJ
  have d0 : ((s : Int) == 0) = false := by rw [beq_eq_false_iff_ne]; omega
  have d3 : IntKind.i64.wrap ((n : Int) - 1) = ((n - 1 : Nat) : Int) := by rw [IntWalk.i64_in _ (by omega)]; omega
  have hn1 : 1 ≤ n := htl.2
  have HL := Lib.hid htl
  clear hr hg hn hnn r1 r2 htl
  unfold pkV
  go_enter Tryd.func26, Tryd.ntmps26
  go_wp2_with (first | (refine wpList_alloc_zero rfl 31 rfl (zb 16) dg_zero ?_; try rw [size_alloc]; generalize ((w.alloc (.cells #[.int .i64 s, .slice A n c] 43)).alloc (.cells (zb 16).toArray 31)) = w1 at HF ⊢) | (refine wpList_load_all rfl _ (.tmp 1) rfl w.heap.size _ (pkc s (.slice A n c)) _ rfl HF.out.2.1 Tryd.underlying43 rfl pk_size ?_))
  refine (HW.out _).mono ?_
  rintro e w2 ⟨rfl, hb2⟩
  have F2 := Lib.hid (HF.out.next hb2)
  clear hb2
  have hc0 : w2.cell? ⟨w.heap.size, 0, none⟩ = some (.int .i64 s) := F2.out.2.1.cell 0
  have hc1 : w2.cell? ⟨w.heap.size, 1, none⟩ = some (.slice A n c) := F2.out.2.1.cell 1
  go_wp2_with fail
  have hcut := cut_any A n c (n - 1) w2 (by omega) hc
  rw [show n - (n - 1) = 1 by omega] at hcut
  obtain ⟨b, off, hA, hcx⟩ := HR2.out.range (k := 0) (by simp)
  rw [hA] at hcut
  refine hcut.mono ?_
  rintro e w3 ⟨rfl, q, hq⟩
  have F3 := Lib.hid (F2.out.next (show Below w2.heap.size w2 w3 from by rw [hq]; exact drewN_below (Below.refl _ _) q))
  have HX : Hid (w3.rangeAt b off (dc x)) := by
    have := range_below' hcx F3.out.1
    rw [Nat.zero_mul, Nat.add_zero] at this
    exact this
  clear hq hc0 hc1 hcut hA hcx
  go_wp2_with (refine wpList_loadD rfl (.tmp 26) rfl b off rfl x HX.out ?_)
  refine (HJ.out _ (HG.out.next F3.out.1) (HR1.out.below F3.out.1)).mono ?_
  rintro e w4 ⟨rfl, hb4⟩
  have F4 := Lib.hid (F3.out.next hb4)
  obtain ⟨d, hd⟩ : ∃ d, joinD t x = d := ⟨_, rfl⟩
  rw [hd]
  have HD := Lib.hid hd
  clear hb4 hd
  go_wp2_with (refine wpList_store_all rfl _ (.tmp 2) (.tmp 28) rfl (w.heap.size + 1) _ (zb 16) (dc d) rfl rfl F4.out.2.2 (dd_len _) (dd_size _) (dc_one _) ?_; intro w5 HB5 ho5)
  exact bodyPost_ret (results_ct rfl _ _ (w.heap.size + 1) _ (dc d) _ (.int .i64 0) rfl rfl HB5.out dg_under rfl (dd_size _)) rfl ⟨by rw [HD.out]; rfl, F4.out.1.trans (ho5.below (by omega))⟩
end Go.Proofs.YtfbemmeonkceiaaDoor
