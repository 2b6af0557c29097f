/- A range over the calendar blocks of a level: its contract. -/
import Derived.Test.YtmifpaafpmibmaaDoorCA
import Derived.RangeFuncNested
import Derived.RangeFuncBound
import Derived.RangeFuncCalls
import Derived.RangeFuncLeaves
import Derived.Shelf.Abstract
import Derived.Shelf.RegionOpen
import Derived.OwnWalkIn
import Derived.TacticsInMore
import Derived.LoopNIn
import Derived.LoopIn
namespace Go.Proofs.YtmifpaafpmibmaaDoor
open Go.RowKit Hm Wm Cm
attribute [local go_sem] Oper.semAt_some

theorem ws_fuel (n b : Nat) (hM : b ≤ M) : ∀ (f h s : Nat), b - s ≤ f → b - s ≤ h → ws n b f s = ws n b h s := by
  intro f
  induction f with
  | zero =>
    intro h s h1 h2
    cases h with
    | zero => rfl
    | succ h => rw [ws, ws, if_neg (by omega)]
  | succ f ih =>
    intro h s h1 h2
    cases h with
    | zero => rw [ws, ws, if_neg (by omega)]
    | succ h =>
      rw [ws, ws]
      by_cases hc : s < b ∧ nx n s ≤ b
      · have := blk_in (L := n) (t := s) (by omega)
        rw [if_pos hc, if_pos hc, ih h (nx n s) (by omega) (by omega)]
      · rw [if_neg hc, if_neg hc]
theorem wi_none {n s b : Nat} (h : b ≤ s) : wi n s b = [] := by rw [wi, if_neg (by omega)]
theorem wi_stop {n s b : Nat} (h : s < b) (hx : b < nx n s) : wi n s b = [] := by
  rw [wi, if_pos h]
  obtain ⟨f, hf⟩ : ∃ f, b - s = f + 1 := ⟨b - s - 1, by omega⟩
  rw [hf, ws]
  refine if_neg fun hc => ?_
  unfold fst' at hc
  split at hc <;> omega
theorem wi_step {n s b : Nat} (hM : b ≤ M) (h : s < b) (hf : fl n s = s) (hx : nx n s ≤ b) : wi n s b = (n, s, nx n s) :: wi n (nx n s) b := by
  have hin := blk_in (L := n) (t := s) (by omega)
  have e : fst' n s = s := by unfold fst'; rw [if_pos hf]
  rw [wi, if_pos h, e]
  obtain ⟨f, hf'⟩ : ∃ f, b - s = f + 1 := ⟨b - s - 1, by omega⟩
  rw [hf', ws, if_pos ⟨h, hx⟩]
  congr 1
  by_cases h2 : nx n s < b
  · have e2 : fst' n (nx n s) = nx n s := by unfold fst'; rw [if_pos (fl_of (by omega) (nx_bd (by omega)))]
    rw [wi, if_pos h2, e2]
    exact ws_fuel n b hM _ _ _ (by omega) (by omega)
  · rw [wi_none (by omega)]
    cases f with
    | zero => rfl
    | succ f => rw [ws, if_neg (by omega)]
theorem wi_skip {n s b : Nat} (hM : b ≤ M) (h : s < b) (hf : fl n s ≠ s) : wi n s b = wi n (nx n s) b := by
  have hin := blk_in (L := n) (t := s) (by omega)
  have e : fst' n s = nx n s := by unfold fst'; rw [if_neg hf]
  rw [wi, if_pos h, e]
  by_cases h2 : nx n s < b
  · have e2 : fst' n (nx n s) = nx n s := by unfold fst'; rw [if_pos (fl_of (by omega) (nx_bd (by omega)))]
    rw [wi, if_pos h2, e2]
    exact ws_fuel n b hM _ _ _ (by omega) (by omega)
  · rw [wi_none (by omega)]
    obtain ⟨f, hf'⟩ : ∃ f, b - s = f + 1 := ⟨b - s - 1, by omega⟩
    rw [hf', ws, if_neg (by omega)]

theorem ws_len (n b : Nat) (hM : b ≤ M) : ∀ (f s : Nat), s ≤ b → (ws n b f s).length ≤ b - s := by
  intro f
  induction f with
  | zero => intro s _; exact Nat.zero_le _
  | succ f ih =>
    intro s hs
    rw [ws]
    by_cases hc : s < b ∧ nx n s ≤ b
    · have := blk_in (L := n) (t := s) (by omega)
      have := ih (nx n s) hc.2
      rw [if_pos hc, List.length_cons]
      omega
    · rw [if_neg hc]; exact Nat.zero_le _
theorem wi_len (n a b : Nat) (hM : b ≤ M) : (wi n a b).length ≤ b := by
  rw [wi]
  by_cases h : a < b
  · rw [if_pos h]
    by_cases h2 : fst' n a ≤ b
    · have := ws_len n b hM (b - a) (fst' n a) h2
      omega
    · obtain ⟨f, hf⟩ : ∃ f, b - a = f + 1 := ⟨b - a - 1, by omega⟩
      rw [hf, ws, if_neg (by omega)]
      exact Nat.zero_le _
  · rw [if_neg h]; exact Nat.zero_le _
/-- An int, or one block, in memory. -/
def Sm (o : Obj) : Prop := ∃ cs T, o = .cells cs T (0, 0) ∧ (T = 3 ∨ (T = 23 ∧ cs.size = 3))
/-- What a round keeps: what lies below, and each int and each single block, but for its own ones. -/
def Kp (B : Nat) (gs : Nat → Prop) (W W' : World) : Prop := Below B W W' ∧ ∀ k o, W.heap[k]? = some o → Sm o → ¬ gs k → W'.heap[k]? = some o
theorem Kp.refl (B : Nat) (gs : Nat → Prop) (W : World) : Kp B gs W W := ⟨Below.refl _ _, fun _ _ h _ _ => h⟩
theorem Kp.trans {B : Nat} {gs : Nat → Prop} {X Y Z : World} (h : Kp B gs X Y) (k : Kp B gs Y Z) : Kp B gs X Z := ⟨h.1.trans k.1, fun i o h1 h2 h3 => k.2 i o (h.2 i o h1 h2 h3) h2 h3⟩
theorem Kp.below {B : Nat} {gs : Nat → Prop} {W W' : World} (h : Below W.heap.size W W') (hB : B ≤ W.heap.size) : Kp B gs W W' := ⟨h.mono hB, fun k _ h1 _ _ => (h.block k (Array.getElem?_eq_some_iff.1 h1).1).trans h1⟩
theorem Kp.put {B : Nat} {gs : Nat → Prop} {w : World} (hB : B ≤ w.heap.size) (W : World) (l : Nat) (o o' : Obj) (hl : w.heap.size ≤ l) (h : W.heap[l]? = some o) (hc : o.isCells = false) (hk : o.isWalk = false) : Kp B gs W (W.putObj l o') :=
  ⟨belowK_b hB W l o o' hl h hc hk, fun k p h1 ⟨cs, T, h2, _⟩ _ => by
    have hne : k ≠ l := by
      rintro rfl
      rw [h] at h1; cases h1; subst h2; cases hc
    rw [World.putObj_heap_other hne]; exact h1⟩
theorem Kp.blk {B : Nat} {gs : Nat → Prop} {W W' : World} {g : Nat} {T : TypeId} {cs : List Value} (h : Kp B gs W W') (hb : Blk W g T cs) (hs : T = 3 ∨ (T = 23 ∧ cs.length = 3)) (hg : ¬ gs g) : Blk W' g T cs :=
  h.2 g _ hb ⟨cs.toArray, T, rfl, by simpa using hs⟩ hg
theorem grown_none {W W' : World} (h : Below W.heap.size W W') : W.grownBy W' none := ⟨h.os, h.tape, h.output, h.size, fun k hk _ => h.block k hk⟩

section
variable {F : Fence} {n : Nat} {w : World} {ops : Array Oper} {rest : List Oper} {o : Oper} {a : Act} {Q : Exit → Act → World → Prop}
theorem wpListIn_alloc_zero (hg : o.guard = none) (t : TypeId) (hop : o.op = .alloc t) (Z : List Value) (hz : (Tryd.prog.info? t).map (·.zero) = some (some (.agg Z.toArray)))
    (hK : wpListIn F n Tryd.prog ops Q rest (a.put o.dst (.pointer (some ⟨w.heap.size, 0, none⟩))) (w.alloc (.cells Z.toArray t))) : wpListIn F n Tryd.prog ops Q (o :: rest) a w := by
  have hrun := run_alloc_zero (P := Tryd.prog) w t Z hz
  refine wpListIn_plain hg fun K' hK' => ?_
  unfold Oper.wpIn
  refine ⟨by simp [Oper.about, hop], ?_⟩
  rw [Oper.semAt_plain F _ _ (by rw [hop]; intro c hc'; cases hc')]
  simp only [execOp, hop, Sem.run_bind, hrun, Result.andThen_ok]
  exact hK' _ _ hK
theorem wpListIn_store_all (hg : o.guard = none) (ty : TypeId) (x y : Operand) (hop : o.op = .store ty x y)
    (g : Nat) (t : TypeId) (cur cells : List Value) (hx : a.eval x = .pointer (some ⟨g, 0, none⟩)) (hy : a.eval y = .agg cells.toArray) (hb : Blk w g t cur) (hfit : cells.length = cur.length)
    (hi : (Tryd.prog.info? ty).map (·.size) = some cells.length) (h1 : ∀ v ∈ cells, v.oneCell' = true)
    (hK : ∀ w', Hid (Blk w' g t cells) → Only g w w' → wpListIn F n Tryd.prog ops Q rest (a.put o.dst undef) w') : wpListIn F n Tryd.prog ops Q (o :: rest) a w := by
  have hrun := run_store_part (P := Tryd.prog) w ty g 0 t cur cells hb (by omega) hi h1
  have hk := setRow_heap w g _ (splice cur 0 cells).toArray t _ hb
  have ho := Only.setRow w g (splice cur 0 cells).toArray
  rw [splice_all _ _ hfit] at hrun hk ho
  refine wpListIn_plain hg fun K' hK' => ?_
  unfold Oper.wpIn
  refine ⟨by simp [Oper.about, hop], ?_⟩
  rw [Oper.semAt_plain F _ _ (by rw [hop]; intro c hc'; cases hc')]
  simp only [execOp, hop, hx, hy, Sem.run_bind, hrun, Result.andThen_ok]
  exact hK' _ _ (hK _ (Lib.hid hk) ho)
theorem wpListIn_loadBin (hw : Region.wanted o (yielded ops a.tmps) = true) (x : Operand) (hop : o.op = .load 23 x) (g : Nat) (l f t : Int) (hx : a.eval x = .pointer (some ⟨g, 0, none⟩)) (hb : Blk w g 23 (b3 l f t))
    (hK : wpListIn F n Tryd.prog ops Q rest (a.put o.dst (bV l f t)) w) : wpListIn F n Tryd.prog ops Q (o :: rest) a w := by
  have hrun := run_load_part (P := Tryd.prog) w 23 g 0 3 23 (b3 l f t) _ hb (by simp) Tryd.underlying23 rfl bn_size
  refine BigFrame.wpListIn_want hw fun K' hK' => ?_
  unfold Oper.wpIn
  refine ⟨by simp [Oper.about, hop], ?_⟩
  rw [Oper.semAt_plain F _ _ (by rw [hop]; intro c hc'; cases hc')]
  simp only [execOp, hop, hx, Sem.run_bind, hrun, Result.andThen_ok]
  exact hK' _ _ hK
end
set_option maxRecDepth 100000 in
set_option maxHeartbeats 1000000 in
theorem within_any (n a b : Int) (w : World) : Calls Tryd.prog 25 #[.int .i64 n, .int .i64 a, .int .i64 b] w fun e w' => e = .returned (.func (.func 39) #[] #[.pointer (some ⟨w.heap.size + 1, 0, none⟩), .pointer (some ⟨w.heap.size + 2, 0, none⟩), .pointer (some ⟨w.heap.size, 0, none⟩)]) ∧ w' = ((w.alloc (.cells #[.int .i64 n] 3)).alloc (.cells #[.int .i64 a] 3)).alloc (.cells #[.int .i64 b] 3) := by
  have hmf : ∀ (fn : Fn) (first cap : Array Value) (w : World), (Instr.makeFunc fn first cap).run Tryd.prog w = .ok (.func fn first cap) w := fun _ _ _ _ => rfl
  go_enter Tryd.func25, Tryd.ntmps25
  go_wp2
  go_ret
  exact ⟨rfl, rfl⟩
set_option maxRecDepth 100000 in
set_option maxHeartbeats 1000000 in
theorem wi_in (m : Nat) (hm : 1 ≤ m) (lp BF BT BL : Nat) (gs : Nat → Prop) (w0 : World) (n a b : Nat) (hn : n ≤ 4) (hbM : b ≤ M) (hL : Lens w0) (g1 : ¬ gs BF) (g2 : ¬ gs BT) (g3 : ¬ gs BL) (J Jx : List Bk → World → Prop) (W : World) (hgs : ∀ k, gs k → k < W.heap.size)
    (hJ : AbidesFrom W.heap.size J) (hY : ∀ pre x W, J pre W → pre ++ [x] <+: wi n a b → YieldAt Fence.wide (m - 1) Tryd.prog lp #[bV (x.1 : Nat) (x.2.1 : Nat) (x.2.2 : Nat)] W fun e W' =>
      (e = .returned (.bool true) ∧ J (pre ++ [x]) W' ∧ Kp w0.heap.size gs W W') ∨ (e = .returned (.bool false) ∧ Jx (pre ++ [x]) W'))
    (kF : Blk W BF 3 [.int .i64 a]) (kT : Blk W BT 3 [.int .i64 b]) (kL : Blk W BL 3 [.int .i64 n]) (hb : Below w0.heap.size w0 W) (h0 : J [] W) :
    CallsIn Fence.wide m Tryd.prog 39 #[.func (.yield lp) #[] #[], .pointer (some ⟨BF, 0, none⟩), .pointer (some ⟨BT, 0, none⟩), .pointer (some ⟨BL, 0, none⟩)] W fun e W' => (∃ v, e = .returned v) ∧
      ((∃ ys, ys = wi n a b ∧ J ys W') ∨ (∃ pre, pre <+: wi n a b ∧ Jx pre W')) := by
  have cF : W.cell? ⟨BF, 0, none⟩ = some (.int .i64 a) := kF.cell 0
  refine callsIn_of_wp Tryd.func39 rfl trivial ?_ rfl
  simp only [Tryd.ntmps39, List.size_toArray, List.length_cons, List.length_nil, Nat.reduceAdd, Nat.reduceSub, Array.replicate_succ, Array.replicate_zero, List.push_toArray, List.append_toArray, List.nil_append, List.cons_append]
  gi_wp2
  gi_loopw [5] (fun v wr => ∃ (s : Nat) (pre : List Bk), v = .int .i64 s ∧ a ≤ s ∧ (s = a ∨ Bd n s) ∧ Hid (pre ++ wi n s b = wi n a b) ∧ J pre wr ∧ Blk wr BF 3 [.int .i64 a] ∧ Blk wr BT 3 [.int .i64 b] ∧ Blk wr BL 3 [.int .i64 n] ∧ Below w0.heap.size w0 wr ∧ W.heap.size ≤ wr.heap.size)
    (fun v _ => b - (intOf v).toNat)
  case atStart => exact ⟨a, [], rfl, Nat.le_refl _, .inl rfl, Lib.hid rfl, h0, kF, kT, kL, hb, Nat.le_refl _⟩
  case round =>
    obtain ⟨s, pre, rfl, has, hbd, hpre, hJs, rF, rT, rL, hbel, hsz⟩ := hrel
    have cF : wr.cell? ⟨BF, 0, none⟩ = some (.int .i64 a) := rF.cell 0
    have cT : wr.cell? ⟨BT, 0, none⟩ = some (.int .i64 b) := rT.cell 0
    have cL : wr.cell? ⟨BL, 0, none⟩ = some (.int .i64 n) := rL.cell 0
    have hM : M = 1402560 := rfl
    by_cases hlt : s < b
    · have hsM : s < M := by omega
      have hin := blk_in (L := n) hsM
      have hfd := Lib.hid (find_any n s wr (hL.next hbel) hn hsM)
      obtain ⟨f, hf⟩ : ∃ f, fl n s = f := ⟨_, rfl⟩
      obtain ⟨x, hx⟩ : ∃ x, nx n s = x := ⟨_, rfl⟩
      have hfV : Hid (fV n s = .agg #[.int .i64 n, .int .i64 (f : Nat), .int .i64 (x : Nat)]) := Lib.hid (by unfold fV bV; rw [hf, hx])
      rw [hf, hx] at hin
      have tlt : (s : Int) < (b : Int) := by omega
      by_cases hxb : b < x
      · have hdone := Lib.hid (show pre = wi n a b from by have := hpre.out; rwa [wi_stop hlt (by rw [hx]; exact hxb), List.append_nil] at this)
        have txb : (b : Int) < (x : Int) := by omega
        --P
        clear hpre hbd
        gi_wp2_with (first | (refine ⟨trivial, ?_⟩; gi_at_call 22; refine (callsIn_wide.2 hfd.out).mono ?_; rintro e w1 ⟨he, hb1⟩; rw [hfV.out] at he; subst he; have hw3 := Lib.hid (hb1.trans (((Below.refl _ _).alloc (Nat.le_refl _) (.cells #[.int .i64 (n : Nat), .int .i64 (f : Nat), .int .i64 (x : Nat)] 23)).mono hb1.size)); have hk3 := Lib.hid (Blk.new w1 23 (b3 (n : Nat) (f : Nat) (x : Nat))); have dF : (w1.alloc (.cells #[.int .i64 (n : Nat), .int .i64 (f : Nat), .int .i64 (x : Nat)] 23)).cell? ⟨BF, 0, none⟩ = some (.int .i64 a) := (rF.next hw3.out).cell 0; have dT : (w1.alloc (.cells #[.int .i64 (n : Nat), .int .i64 (f : Nat), .int .i64 (x : Nat)] 23)).cell? ⟨BT, 0, none⟩ = some (.int .i64 b) := (rT.next hw3.out).cell 0; clear cF cT cL))
        refine bodyPost_ret (results_none rfl _ _ _) rfl ?_
        exact ⟨⟨_, rfl⟩, .inl ⟨_, hdone.out, hJ _ _ _ none hJs (grown_none hw3.out) (fun r e => by cases e)⟩⟩
      · have hxb' : x ≤ b := by omega
        have txb : ¬ (b : Int) < (x : Int) := by omega
        by_cases hfs : f = s
        · have taf : (a : Int) ≤ (f : Int) := by omega
          have hnext : Hid ((pre ++ [(n, f, x)]) ++ wi n x b = wi n a b) := Lib.hid (by
            have h1 := hpre.out
            rw [wi_step hbM hlt (by rw [hf]; exact hfs) (by rw [hx]; exact hxb'), hx] at h1
            rw [List.append_assoc, hfs]
            exact h1)
          have hxd : Bd n x := by rw [← hx]; exact nx_bd hsM
          have hfs' := hfs.symm
          subst hfs'
          clear hpre hbd hf hx hfs
          gi_wp2_with (first | (refine wpListIn_loadBin (by rfl) (.tmp 6) rfl w1.heap.size (n : Nat) (s : Nat) (x : Nat) rfl hk3.out ?_) | (first | (refine ⟨trivial, ?_⟩; gi_at_call 22; refine (callsIn_wide.2 hfd.out).mono ?_; rintro e w1 ⟨he, hb1⟩; rw [hfV.out] at he; subst he; have hw3 := Lib.hid (hb1.trans (((Below.refl _ _).alloc (Nat.le_refl _) (.cells #[.int .i64 (n : Nat), .int .i64 (s : Nat), .int .i64 (x : Nat)] 23)).mono hb1.size)); have hk3 := Lib.hid (Blk.new w1 23 (b3 (n : Nat) (s : Nat) (x : Nat))); have dF : (w1.alloc (.cells #[.int .i64 (n : Nat), .int .i64 (s : Nat), .int .i64 (x : Nat)] 23)).cell? ⟨BF, 0, none⟩ = some (.int .i64 a) := (rF.next hw3.out).cell 0; have dT : (w1.alloc (.cells #[.int .i64 (n : Nat), .int .i64 (s : Nat), .int .i64 (x : Nat)] 23)).cell? ⟨BT, 0, none⟩ = some (.int .i64 b) := (rT.next hw3.out).cell 0; clear cF cT cL; obtain ⟨fn, tmps, assign, body, hy, hR⟩ := hY pre (n, s, x) (w1.alloc (.cells #[.int .i64 (n : Nat), .int .i64 (s : Nat), .int .i64 (x : Nat)] 23)) (hJ _ _ _ none hJs (grown_none hw3.out) (fun r e => by cases e)) ⟨_, hnext.out⟩; dsimp only at hy)))
          refine hR.mono ?_
          clear hY hR hy dF dT
          have hwn := hw3.out
          have hsn : W.heap.size ≤ w1.heap.size := Nat.le_trans hsz hb1.size
          rintro e W3 (⟨rfl, hJ3, hkp⟩ | ⟨rfl, hJx3⟩)
          · have q0 := hkp.blk hk3.out (.inr ⟨rfl, rfl⟩) (fun h => by have := hgs _ h; omega)
            have q2 : W3.cell? ⟨w1.heap.size, 2, none⟩ = some (.int .i64 (x : Nat)) := q0.cell 2
            have qF := hkp.blk (rF.next hwn) (.inl rfl) g1
            have qT := hkp.blk (rT.next hwn) (.inl rfl) g2
            have qL := hkp.blk (rL.next hwn) (.inl rfl) g3
            have qB := (hbel.trans (hwn.mono hbel.size)).trans hkp.1
            have qs : W.heap.size ≤ W3.heap.size := Nat.le_trans hsz (Nat.le_trans hwn.size hkp.1.size)
            have QB := Lib.hid qB
            clear rF rT rL hk3 hw3 hwn hb1 hfd hfV hkp q0 hJs qB hbel
            gi_wp2
            go_roundw
            case rel => exact ⟨x, pre ++ [(n, s, x)], rfl, by omega, .inr hxd, hnext, hJ3, qF, qT, qL, QB.out, qs⟩
            case measure => simp [intOf]; omega
          · gi_wp2
            refine bodyPost_ret (results_none rfl _ _ _) rfl ?_
            exact ⟨⟨_, rfl⟩, .inr ⟨_, ⟨_, hnext.out⟩, hJx3⟩⟩
        · have hsa : s = a := by
            rcases hbd with h | h
            · exact h
            · have := fl_of hsM h
              omega
          have taf : ¬ (a : Int) ≤ (f : Int) := by omega
          have hnext : Hid (pre ++ wi n x b = wi n a b) := Lib.hid (by
            have h1 := hpre.out
            rw [wi_skip hbM hlt (by rw [hf]; exact hfs), hx] at h1
            exact h1)
          have hxd : Bd n x := by rw [← hx]; exact nx_bd hsM
          clear hpre hbd hf hx hsa hfs
          gi_wp2_with (first | (refine ⟨trivial, ?_⟩; gi_at_call 22; refine (callsIn_wide.2 hfd.out).mono ?_; rintro e w1 ⟨he, hb1⟩; rw [hfV.out] at he; subst he; have hw3 := Lib.hid (hb1.trans (((Below.refl _ _).alloc (Nat.le_refl _) (.cells #[.int .i64 (n : Nat), .int .i64 (f : Nat), .int .i64 (x : Nat)] 23)).mono hb1.size)); have hk3 := Lib.hid (Blk.new w1 23 (b3 (n : Nat) (f : Nat) (x : Nat))); have dF : (w1.alloc (.cells #[.int .i64 (n : Nat), .int .i64 (f : Nat), .int .i64 (x : Nat)] 23)).cell? ⟨BF, 0, none⟩ = some (.int .i64 a) := (rF.next hw3.out).cell 0; have dT : (w1.alloc (.cells #[.int .i64 (n : Nat), .int .i64 (f : Nat), .int .i64 (x : Nat)] 23)).cell? ⟨BT, 0, none⟩ = some (.int .i64 b) := (rT.next hw3.out).cell 0; clear cF cT cL))
          have hwn := hw3.out
          have qF := rF.next hwn
          have qT := rT.next hwn
          have qL := rL.next hwn
          have QB := Lib.hid (hbel.trans (hwn.mono hbel.size))
          have qs := Nat.le_trans hsz hwn.size
          have qJ := hJ _ _ _ none hJs (grown_none hwn) (fun r e => by cases e)
          clear rF rT rL hw3 hwn hb1 hfd hfV hJs hbel hY
          refine ⟨fun _ h => (by cases h), ?_⟩
          gi_wp2
          go_roundw
          case rel => exact ⟨x, pre, rfl, by omega, .inr hxd, hnext, qJ, qF, qT, qL, QB.out, qs⟩
          case measure => simp [intOf]; omega
    · have hdone := Lib.hid (show pre = wi n a b from by have := hpre.out; rwa [wi_none (by omega), List.append_nil] at this)
      have tlt : ¬ (s : Int) < (b : Int) := by omega
      clear hpre hbd
      gi_wp2
      go_end0
      exact ⟨⟨_, rfl⟩, .inl (by first | exact ⟨_, hdone.out, hJs⟩ | (rw [← hdone.out]; exact hJs))⟩
/-- within hands back a value that goes through the blocks of a level that lie in an interval. -/
theorem wi_stops (m : Nat) (hm : 1 ≤ m) (BF BT BL : Nat) (gs : Nat → Prop) (w0 : World) (n a b : Nat) (hn : n ≤ 4) (hbM : b ≤ M) (hL : Lens w0) (g1 : ¬ gs BF) (g2 : ¬ gs BT) (g3 : ¬ gs BL) (w : World) (hgs : ∀ k, gs k → k < w.heap.size) (hb : Below w0.heap.size w0 w)
    (kF : Blk w BF 3 [.int .i64 a]) (kT : Blk w BT 3 [.int .i64 b]) (kL : Blk w BL 3 [.int .i64 n]) :
    SeqStopsK Fence.wide m Tryd.prog 39 #[.pointer (some ⟨BF, 0, none⟩), .pointer (some ⟨BT, 0, none⟩), .pointer (some ⟨BL, 0, none⟩)] (fun x : Bk => #[bV (x.1 : Nat) (x.2.1 : Nat) (x.2.2 : Nat)]) (Kp w0.heap.size gs) (fun ys => ys = wi n a b) (fun pre => pre <+: wi n a b) 1402561 w :=
  fun lp J Jx W hW hJ _ hY h0 => wi_in m hm lp BF BT BL gs w0 n a b hn hbM hL g1 g2 g3 J Jx W (fun k h => Nat.lt_of_lt_of_le (hgs k h) hW.size) hJ (fun pre x W1 h1 h2 => hY pre x W1 h1 (by have h3 := h2.length_le; rw [List.length_append] at h3; have := wi_len n a b hbM; have hM : M = 1402560 := rfl; simp at h3; omega)) (kF.next hW) (kT.next hW) (kL.next hW) (hb.trans (hW.mono hb.size)) h0
end Go.Proofs.YtmifpaafpmibmaaDoor
