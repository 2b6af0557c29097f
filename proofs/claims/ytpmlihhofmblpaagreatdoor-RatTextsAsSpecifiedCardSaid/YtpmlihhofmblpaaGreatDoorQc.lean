/- Lists of numbers in memory. -/
import Derived.Test.YtpmlihhofmblpaaGreatDoorQb
namespace Go.Proofs.YtpmlihhofmblpaaGreatDoor
open Go.RowKit Hm Wm Wn

def cQ (x : Rv) : List Value := q3 x.neg x.n x.d
theorem cQ_len (x : Rv) : (cQ x).length = 3 := rfl
def qL (l : List Rv) : List Value := l.flatMap cQ
theorem qL_app (l m : List Rv) : qL (l ++ m) = qL l ++ qL m := by simp [qL]
theorem qL_len (l : List Rv) : (qL l).length = l.length * 3 := by
  induction l with
  | nil => rfl
  | cons x l ih =>
    rw [show x :: l = [x] ++ l from rfl, qL_app, List.length_append, ih, List.length_append, show (qL [x]).length = 3 from rfl]
    simp [Nat.add_mul]
def RdQ (w : World) (A : Option Addr) (l : List Rv) : Prop := Rd w A (qL l)
theorem qL_take (l : List Rv) (k : Nat) : qL (l.take k) = (qL l).take (k * 3) := by
  rcases Nat.le_total k l.length with h | h
  · have e : qL l = qL (l.take k) ++ qL (l.drop k) := by rw [← qL_app, List.take_append_drop]
    have h2 : (qL (l.take k)).length = k * 3 := by rw [qL_len, List.length_take]; omega
    rw [e, List.take_append_of_le_length (by omega), List.take_of_length_le (l := qL (l.take k)) (by omega)]
  · rw [List.take_of_length_le h, List.take_of_length_le (by rw [qL_len]; omega)]
theorem qL_drop (l : List Rv) (k : Nat) : qL (l.drop k) = (qL l).drop (k * 3) := by
  rcases Nat.le_total k l.length with h | h
  · have e : qL l = qL (l.take k) ++ qL (l.drop k) := by rw [← qL_app, List.take_append_drop]
    have h2 : (qL (l.take k)).length = k * 3 := by rw [qL_len, List.length_take]; omega
    rw [e, List.drop_append_of_le_length (by omega), List.drop_of_length_le (l := qL (l.take k)) (by omega), List.nil_append]
  · rw [List.drop_of_length_le h, List.drop_of_length_le (l := qL l) (by rw [qL_len]; omega)]; rfl
theorem qL_at (l : List Rv) {k : Nat} (hk : k < l.length) (j : Nat) (u : Value) (hj : (cQ l[k])[j]? = some u) : (qL l)[k * 3 + j]? = some u := by
  have hjl : j < (cQ l[k]).length := by
    rcases Nat.lt_or_ge j (cQ l[k]).length with h1 | h1
    · exact h1
    · rw [List.getElem?_eq_none h1] at hj; cases hj
  have e : l = l.take k ++ (l[k] :: l.drop (k + 1)) := by rw [← List.drop_eq_getElem_cons hk, List.take_append_drop]
  have e2 : qL l = qL (l.take k) ++ (cQ l[k] ++ qL (l.drop (k + 1))) := by
    conv => lhs; rw [e, qL_app]
    rfl
  have hl : (qL (l.take k)).length = k * 3 := by rw [qL_len, List.length_take]; omega
  rw [e2, List.getElem?_append_right (by omega), hl, show k * 3 + j - k * 3 = j from by omega, List.getElem?_append_left hjl]; exact hj
/-- A slice of digests reads as a list. -/
theorem RdQ.nil (w : World) (A : Option Addr) : RdQ w A [] := Rd.nil w A
theorem RdQ.below {w w' : World} {A : Option Addr} {l : List Rv} (h : RdQ w A l) (hb : Below w.heap.size w w') : RdQ w' A l := Rd.below h hb
theorem RdQ.take {w : World} {A : Option Addr} {l : List Rv} (h : RdQ w A l) (k : Nat) : RdQ w A (l.take k) := by
  unfold RdQ; rw [qL_take]; exact Rd.take h _
/-- Where the part from k on begins. -/
def qA (A : Option Addr) (n k : Nat) : Option Addr := if n = k then A else A.map (·.add (k * 3))
theorem RdQ.drop {w : World} {A : Option Addr} {l : List Rv} (h : RdQ w A l) (k : Nat) : RdQ w (qA A l.length k) (l.drop k) := by
  unfold RdQ qA
  rw [qL_drop]
  rcases Nat.lt_trichotomy l.length k with hk | hk | hk
  · rw [List.drop_of_length_le (by rw [qL_len]; omega)]; exact Rd.nil _ _
  · rw [List.drop_of_length_le (by rw [qL_len]; omega)]; exact Rd.nil _ _
  · have := Rd.cut (k := k * 3) (cap := l.length * 3) h (by rw [qL_len]; exact Nat.le_refl _)
    rw [if_neg (by omega)] at this ⊢
    exact this
theorem RdQ.range {w : World} {A : Option Addr} {l : List Rv} (h : RdQ w A l) {k : Nat} (hk : k < l.length) : ∃ b off, A = some ⟨b, off, none⟩ ∧ w.rangeAt b (off + k * 3) (cQ l[k]) := by
  have hne : qL l ≠ [] := by intro e; have := qL_len l; rw [e] at this; simp at this; omega
  obtain ⟨b, off, hA, hc⟩ := h hne
  refine ⟨b, off, hA, fun j u hu => ?_⟩
  have := hc (k * 3 + j) u (qL_at l hk j u hu)
  rw [← Nat.add_assoc] at this; exact this
theorem run_loQ (A : Option Addr) (n c k : Nat) (hk : k < n) (hn : n ≤ c) (W : World) :
    (Instr.sliceAt 74 (.slice A n c) (some (.int .i64 k)) none none).run Tryz.prog W = .ok (.slice (qA A n k) (n - k : Nat) (c - k : Nat)) W := by
  have hu : Tryz.prog.underlying 74 = some (.slice 47) := Tryz.underlying74
  have hne : n ≠ k := by omega
  have hne2 : c ≠ k := by omega
  unfold qA
  rw [if_neg hne]
  simp [Instr.sliceAt, Instr.slice, run_underlying hu, Instr.sliceBounds, run_sliceBound, (by omega : (k : Int) ≤ n), hne2]
theorem exec_loQ {oi : Oper} {a : Act} {w : World} (x y : Operand) (ho : oi.op = .slice 74 x (some y) none none) (A : Option Addr) (n c k : Nat) (hk : k < n) (hn : n ≤ c) (hx : a.eval x = .slice A n c) (hy : a.eval y = .int .i64 k) : (execOp a.eval oi).run Tryz.prog w = .ok (.value (.slice (qA A n k) (n - k : Nat) (c - k : Nat))) w := by
  have hl := run_loQ A n c k hk hn w
  rw [← hx, ← hy] at hl
  simp [execOp, ho, hl]
theorem run_hiQ (A : Option Addr) (n c k : Nat) (hk : k ≤ n) (hn : n ≤ c) (W : World) :
    (Instr.sliceAt 74 (.slice A n c) none (some (.int .i64 k)) none).run Tryz.prog W = .ok (.slice A k c) W := by
  have hu : Tryz.prog.underlying 74 = some (.slice 47) := Tryz.underlying74
  simp [Instr.sliceAt, Instr.slice, run_underlying hu, Instr.sliceBounds, run_sliceBound, (by omega : (k : Int) ≤ c)]
  intro _
  rcases A with _ | ⟨b, o, i⟩
  · rfl
  · cases i <;> simp [Addr.add]
theorem exec_hiQ {oi : Oper} {a : Act} {w : World} (x y : Operand) (ho : oi.op = .slice 74 x none (some y) none) (A : Option Addr) (n c k : Nat) (hk : k ≤ n) (hn : n ≤ c) (hx : a.eval x = .slice A n c) (hy : a.eval y = .int .i64 k) : (execOp a.eval oi).run Tryz.prog w = .ok (.value (.slice A k c)) w :=
  exec_slice_hi _ x y ho _ _ _ hx hy (run_hiQ A n c k hk hn w)
end Go.Proofs.YtpmlihhofmblpaaGreatDoor

/- Laws for drawn regions; small comparisons. -/
namespace Go.Proofs.YtpmlihhofmblpaaGreatDoor
open Go.RowKit Hm Wm Wn

theorem range_below' {w w' : World} {b o : Nat} {xs : List Value} (h : w.rangeAt b o xs) (hb : Below w.heap.size w w') : w'.rangeAt b o xs := fun j v hv => by
  have h1 := h j v hv
  rw [hb.cell (p := ⟨b, o + j, none⟩) (World.block_lt_of_cell? w _ h1)]; exact h1
theorem op_callG {P : Program} {ops : Array Oper} {i : Nat} {oi : Oper} {a : Act} {w : World} {Q : Exit → Act → World → Prop} {K : Act → World → Prop} (d : Option Tmp) {F : FuncId} {xs : Array Operand} {ts : Array TypeId} (hi : ops[i]? = some oi) (hd : oi.dst = d) (hw : Region.wanted oi (yielded ops a.tmps) = true) (ho : oi.op = .call { callee := .value (.func F), args := xs, argTypes := ts })
    {fn : Func} (hf : P.funcs[F]? = some fn) (hn : (fn.name == "runtime.NumGoroutine") = false) (hb : fn.body.isNone = false) (vs : Array Value) (hvs : xs.toList.map a.eval = vs.toList) {R : Ending → World → Prop} (hc : Calls P F vs w R)
    (h : ∀ e w', R e w' → ∃ v, e = .returned v ∧ K (a.put d v) w') : wpOp P ops Q i K a w := by
  subst hd
  unfold wpOp
  rw [hi]
  dsimp only
  rw [if_pos hw]
  exact .inl (wp_call_fn ho hf hn hb vs hvs hc h)
theorem op_valueG {P : Program} {ops : Array Oper} {i : Nat} {oi : Oper} {a : Act} {w : World} {Q : Exit → Act → World → Prop} {K : Act → World → Prop} (d : Option Tmp) (hi : ops[i]? = some oi) (hd : oi.dst = d) (hw : Region.wanted oi (yielded ops a.tmps) = true) (v : Value) (hrun : (execOp a.eval oi).run P w = .ok (.value v) w)
    (h : K (a.put d v) w) : wpOp P ops Q i K a w := by
  subst hd
  unfold wpOp
  rw [hi]
  dsimp only
  rw [if_pos hw]
  refine .inl ?_
  unfold Oper.wp
  rw [hrun]
  exact h
theorem op_runG {P : Program} {ops : Array Oper} {i : Nat} {oi : Oper} {a : Act} {w : World} {Q : Exit → Act → World → Prop} {K : Act → World → Prop} (d : Option Tmp) (hi : ops[i]? = some oi) (hd : oi.dst = d) (hw : Region.wanted oi (yielded ops a.tmps) = true) (v : Value) (w' : World) (hrun : (execOp a.eval oi).run P w = .ok (.value v) w')
    (h : K (a.put d v) w') : wpOp P ops Q i K a w := by
  subst hd
  unfold wpOp
  rw [hi]
  dsimp only
  rw [if_pos hw]
  refine .inl ?_
  unfold Oper.wp
  rw [hrun]
  exact h
theorem wpList_runW {w : World} {ops : Array Oper} {rest : List Oper} {o : Oper} {a : Act} {Q : Exit → Act → World → Prop} (d : Tmp) (hd : o.dst = some d) (hw : Region.wanted o (yielded ops a.tmps) = true) (v : Value) (w' : World) (hrun : (execOp a.eval o).run Tryz.prog w = .ok (.value v) w') (h : wpList Tryz.prog ops Q rest (a.put (some d) v) w') : wpList Tryz.prog ops Q (o :: rest) a w := by
  refine wpList_want hw fun K hK => ?_
  unfold Oper.wp
  rw [hrun]
  have := hK _ _ h
  rw [← hd] at this
  exact this
theorem exec_pickT {P : Program} {oi : Oper} {a : Act} {w : World} (x y z : Operand) (ho : oi.op = .pick x y z) (v : Value) (hx : a.eval x = .bool true) (hy : a.eval y = v) : (execOp a.eval oi).run P w = .ok (.value v) w := by
  subst hy
  simp [execOp, ho, hx, asBool]
theorem exec_eqT {P : Program} {oi : Oper} {a : Act} {w : World} (t : TypeId) (x y : Operand) (rt : TypeId) (ho : oi.op = .binOp .eql t x y rt) (k : IntKind) (m : Int) (hx : a.eval x = .int k m) (hy : a.eval y = .int k m) : (execOp a.eval oi).run P w = .ok (.value (.bool true)) w := by
  have := exec_eqI (P := P) (w := w) t x y rt ho k m m hx hy
  rwa [beq_self_eq_true] at this
theorem results_bt {P : Program} {fn : Func} {p q : Tmp} {ty : TypeId} (h : fn.results = #[.cell p ty, .tmp q]) (tmps : Array Value) (w : World) (g : Nat) (t : TypeId) (cs : List Value) (v : Value) (d : TypeDesc)
    (hp : tmps.getD p undef = .pointer (some ⟨g, 0, none⟩)) (hq : tmps.getD q undef = v) (hg : Blk w g t cs) (hu : P.underlying ty = some d) (hd : d.isRow = true) (hi : (P.info? ty).map (·.size) = some cs.length) :
    (results fn tmps).run P w = .ok (.tuple #[.agg cs.toArray, v]) w := by
  have hp' : tmps[p]?.getD undef = .pointer (some ⟨g, 0, none⟩) := by simpa using hp
  have hq' : tmps[q]?.getD undef = v := by simpa using hq
  simp [results, h, hp', hq', asAddr, run_loadVar_row w g t ty cs.toArray (0, 0) d hg hu (by cases d <;> first | rfl | cases hd) (by simpa using hi)]
theorem exec_neqT {P : Program} {oi : Oper} {a : Act} {w : World} (t : TypeId) (x y : Operand) (rt : TypeId) (ho : oi.op = .binOp .neq t x y rt) (k : IntKind) (m : Int) (hx : a.eval x = .int k m) (hy : a.eval y = .int k m) : (execOp a.eval oi).run P w = .ok (.value (.bool false)) w := by
  have := exec_neqI (P := P) (w := w) t x y rt ho k m m hx hy
  simpa using this
theorem exec_buildS {P : Program} {oi : Oper} {a : Act} {w w' : World} (ty : TypeId) (n : Nat) (xs : Array (Nat × Operand)) (ho : oi.op = .buildSlice ty n xs) (vs : Array (Nat × Value)) (hx : xs.toList.map (fun p => (p.1, a.eval p.2)) = vs.toList) (v : Value) (hl : (Instr.buildSlice ty n vs).run P w = .ok v w') : (execOp a.eval oi).run P w = .ok (.value v) w' := by
  obtain rfl : xs.map (fun p => (p.1, a.eval p.2)) = vs := by apply Array.toList_inj.1; simpa using hx
  simp [execOp, ho, hl]
end Go.Proofs.YtpmlihhofmblpaaGreatDoor

/- The sum of fractions. -/
namespace Go.Proofs.YtpmlihhofmblpaaGreatDoor
open Go.RowKit Hm Wm Wn

theorem Sz_mono {j k : Nat} {q : Rat} (h : Sz j q) (hk : j ≤ k) : Sz k q := ⟨Nat.le_trans h.1 hk, Nat.le_trans h.2 hk⟩
theorem Sz_zero (k : Nat) (hk : 1 ≤ k) : Sz k 0 := by
  unfold Sz
  rw [show (0 : Rat).num.natAbs = 0 from rfl, show (0 : Rat).den = 1 from rfl, c0, c1]
  exact ⟨Nat.zero_le _, hk⟩
theorem mk_le (n : Int) (d : Nat) (hd : d ≠ 0) : (mkRat n d).num.natAbs ≤ n.natAbs ∧ (mkRat n d).den ≤ d := by
  have hg : 0 < Nat.gcd n.natAbs d := Nat.gcd_pos_of_pos_right _ (Nat.pos_of_ne_zero hd)
  rw [Rat.num_mkRat, Rat.den_mkRat, if_neg hd, if_neg hd]
  have hdv : ((Nat.gcd n.natAbs d : Nat) : Int) ∣ n := Int.ofNat_dvd_left.2 (Nat.gcd_dvd_left _ _)
  constructor
  · rw [Nat.gcd_comm d n.natAbs, Int.natAbs_ediv_of_dvd hdv]
    exact Nat.div_le_self _ _
  · exact Nat.div_le_self _ _
theorem Sz_add {j k : Nat} {a b : Rat} (ha : Sz j a) (hb : Sz k b) : Sz (j + k + 1) (a + b) := by
  have h := mk_le (a.num * (b.den : Int) + b.num * (a.den : Int)) (a.den * b.den) (Nat.mul_ne_zero a.den_nz b.den_nz)
  rw [← Rat.add_def'] at h
  have h1 := cS_mulS ha.1 hb.2
  have h2 := cS_mulS hb.1 ha.2
  rw [Nat.add_comm k j] at h2
  refine ⟨cS_le (Nat.le_trans h.1 ?_) (cS_addS h1 h2), cS_le h.2 (Nat.le_trans (cS_mulS ha.2 hb.2) (Nat.le_succ _))⟩
  refine Nat.le_trans (Int.natAbs_add_le _ _) ?_
  rw [Int.natAbs_mul, Int.natAbs_mul, Int.natAbs_natCast, Int.natAbs_natCast]
  exact Nat.le_refl _
theorem Sz_mul {j k : Nat} {a b : Rat} (ha : Sz j a) (hb : Sz k b) : Sz (j + k) (a * b) := by
  obtain ⟨h1, _, h3⟩ := mul_parts a b (f := Nat.gcd a.num.natAbs b.den) (s := Nat.gcd b.num.natAbs a.den) rfl rfl
  refine ⟨cS_le ?_ (cS_mulS ha.1 hb.1), cS_le ?_ (cS_mulS ha.2 hb.2)⟩
  · rw [h1]; exact Nat.mul_le_mul (Nat.div_le_self _ _) (Nat.div_le_self _ _)
  · rw [h3]; exact Nat.mul_le_mul (Nat.div_le_self _ _) (Nat.div_le_self _ _)
/-- The sum of a list. -/
def sumQ (l : List Rat) : Rat := l.foldr (· + ·) 0
theorem sumQ_app (l m : List Rat) : sumQ (l ++ m) = sumQ l + sumQ m := by
  induction l with
  | nil => show sumQ m = 0 + sumQ m; rw [Rat.zero_add]
  | cons x l ih => show x + sumQ (l ++ m) = (x + sumQ l) + sumQ m; rw [ih, Rat.add_assoc]
theorem Sz_sum {k : Nat} (hk : 1 ≤ k) : ∀ l : List Rat, (∀ x ∈ l, Sz k x) → Sz (l.length * (k + 1) + k) (sumQ l)
  | [], _ => Sz_mono (Sz_zero k hk) (by simp)
  | x :: l, h => by
    have h1 := Sz_add (h x (by simp)) (Sz_sum hk l (fun y hy => h y (by simp [hy])))
    refine Sz_mono h1 ?_
    rw [List.length_cons, Nat.succ_mul]
    omega
set_option maxRecDepth 100000 in
set_option maxHeartbeats 800000 in
theorem sum_none (A : Option Addr) (c : Nat) (w : World) : Calls Tryz.prog 41 #[.slice A 0 c] w fun e w' => e = .returned (rv (fr 0)) ∧ Below w.heap.size w w' := by
  have HK := Lib.hid (Blk.new w 47 [.bool false, .string ⟨#[]⟩, .string ⟨#[1]⟩])
  have HB := Lib.hid ((Below.refl w.heap.size w).alloc (Nat.le_refl _) (.cells ([.bool false, .string ⟨#[]⟩, .string ⟨#[1]⟩] : List Value).toArray 47))
  rw [fr_zero']
  go_enter Tryz.func41, Tryz.ntmps41
  go_wp2
  exact bodyPost_ret (results_blk rfl _ _ (w.heap.size) _ [.bool false, .string ⟨#[]⟩, .string ⟨#[1]⟩] _ rfl HK.out Tryz.underlying47 rfl qf_size) rfl ⟨rfl, HB.out⟩
theorem qf_elem : Tryz.prog.elem 74 = 47 := by kernel_rfl
theorem qf_under : Tryz.prog.underlying 47 = some (.struct (Tryz.prog.fieldsOf 47)) := by kernel_rfl
theorem qfs_under : Tryz.prog.underlying 74 = some (.slice 47) := Tryz.underlying74
theorem qf_sizeOf (W : World) : (sizeOf 47).run Tryz.prog W = .ok 3 W := by
  cases hq : Tryz.prog.info? 47 with
  | none => have h := qf_size; rw [hq] at h; cases h
  | some i =>
    have h := qf_size
    rw [hq] at h
    have h2 : i.size = 3 := by simpa using h
    simp [sizeOf, typeInfo, hq, h2]
theorem run_atQ (b off n c k : Nat) (hk : k < n) (W : World) : (Instr.indexAt 74 (.slice (some ⟨b, off, none⟩) n c) (.int .i64 k)).run Tryz.prog W = .ok (.pointer (some ⟨b, off + k * 3, none⟩)) W := by
  refine (run_indexAt_slice W 74 ⟨b, off, none⟩ n c .i64 k (by rw [qf_elem]; exact qfs_under)).trans ?_
  rw [if_pos ⟨by omega, by omega⟩, qf_elem, qf_sizeOf, Result.andThen_ok, Int.toNat_natCast, Addr.add_mid]
theorem wpList_new {w : World} {ops : Array Oper} {rest : List Oper} {o : Oper} {a : Act} {Q : Exit → Act → World → Prop} (hgd : o.guard = none) (t : TypeId) (ho : o.op = .alloc t) (Z : List Value) (hz : (Tryz.prog.info? t).map (·.zero) = some (some (.agg Z.toArray)))
    (h : ∀ w', Hid (Blk w' w.heap.size t Z) → Hid (Below w.heap.size w w') → wpList Tryz.prog ops Q rest (a.put o.dst (.pointer (some ⟨w.heap.size, 0, none⟩))) w') : wpList Tryz.prog ops Q (o :: rest) a w :=
  wpList_alloc_zero hgd t ho Z hz (h _ (Lib.hid (Blk.new w t Z)) (Lib.hid ((Below.refl _ _).alloc (Nat.le_refl _) _)))
set_option maxRecDepth 100000 in
set_option maxHeartbeats 800000 in
theorem sum_one (A : Option Addr) (c : Nat) (r : Rv) (w : World) (hr : RdQ w A [r]) : Calls Tryz.prog 41 #[.slice A 1 c] w fun e w' => e = .returned (rv r) ∧ Below w.heap.size w w' := by
  obtain ⟨b, off, rfl, hrg⟩ := hr.range (k := 0) (by simp)
  have hrg1 : w.rangeAt b off [.bool r.neg, .string r.n, .string r.d] := by rw [Nat.zero_mul, Nat.add_zero] at hrg; exact hrg
  have HRG0 := Lib.hid hrg1
  clear hr hrg hrg1
  go_enter Tryz.func41, Tryz.ntmps41
  go_wp2_with (first | (refine wpList_new rfl 47 rfl [.bool false, .string ⟨#[]⟩, .string ⟨#[]⟩] qf_zero ?_; intro W1 HZ HW; have HRG := Lib.hid (range_below' HRG0.out HW.out)) | (refine wpList_dst 12 rfl ?_; refine wpList_run 12 rfl rfl _ (exec_indexAddr 74 (.tmp 11) (.const (.int .i64 0)) rfl _ _ _ rfl rfl (run_atQ b off 1 c 0 (by decide) _)) ?_; go_frame) | (refine wpList_dst 13 rfl ?_; refine wpList_run 13 rfl rfl _ (exec_load 47 (.tmp 12) rfl _ (rv r) rfl (run_loadAt_mid _ b off _ [.bool r.neg, .string r.n, .string r.d] _ HRG.out qf_under rfl qf_size)) ?_; go_frame) | (refine wpList_store_all rfl 47 (.tmp 2) (.tmp 13) rfl (w.heap.size) _ [.bool false, .string ⟨#[]⟩, .string ⟨#[]⟩] [.bool r.neg, .string r.n, .string r.d] rfl rfl HZ.out rfl qf_size (List.forall_mem_cons.2 ⟨rfl, (List.forall_mem_cons.2 ⟨rfl, (List.forall_mem_cons.2 ⟨rfl, fun _ h => nomatch h⟩)⟩)⟩) ?_; intro w9 HK9 ho9; have HO9 := Lib.hid ho9; clear ho9))
  exact bodyPost_ret (results_blk rfl _ _ (w.heap.size) _ [.bool r.neg, .string r.n, .string r.d] _ rfl HK9.out Tryz.underlying47 rfl qf_size) rfl ⟨rfl, HW.out.trans (HO9.out.below (by omega))⟩
set_option maxRecDepth 100000 in
set_option maxHeartbeats 800000 in
theorem sum_two (A : Option Addr) (n c h : Nat) (l : List Rv) (p q r : Rv) (w : World) (hr : RdQ w A l) (hc : n ≤ c) (h2 : 2 ≤ n) (hh : n / 2 = h) (hn : n ≤ 1000000)
    (h20 : ∀ W, RdQ W A l → Calls Tryz.prog 41 #[.slice A h c] W fun e w' => e = .returned (rv p) ∧ Below W.heap.size W w')
    (h24 : ∀ W, RdQ W A l → Calls Tryz.prog 41 #[.slice (qA A n h) (n - h) (c - h)] W fun e w' => e = .returned (rv q) ∧ Below W.heap.size W w')
    (h25 : ∀ W, Calls Tryz.prog 73 #[rv p, rv q] W fun e w' => e = .returned (rv r) ∧ Below W.heap.size W w') : Calls Tryz.prog 41 #[.slice A n c] w fun e w' => e = .returned (rv r) ∧ Below w.heap.size w w' := by
  have F20 := Lib.hid h20
  have F24 := Lib.hid h24
  have F25 := Lib.hid h25
  have HH1 : Hid (h ≤ n) := Lib.hid (by omega)
  have HH2 : Hid (h < n) := Lib.hid (by omega)
  have HH3 : Hid (n ≤ c) := Lib.hid hc
  obtain ⟨W1, hW1⟩ : ∃ W, W = w.alloc (.cells #[.bool false, .string ⟨#[]⟩, .string ⟨#[]⟩] 47) := ⟨_, rfl⟩
  have hb1 := (Below.refl w.heap.size w).alloc (Nat.le_refl _) (.cells #[.bool false, .string ⟨#[]⟩, .string ⟨#[]⟩] 47)
  have hz1 := Blk.new w 47 [.bool false, .string ⟨#[]⟩, .string ⟨#[]⟩]
  have HZ : Hid (Blk W1 w.heap.size 47 [.bool false, .string ⟨#[]⟩, .string ⟨#[]⟩]) := Lib.hid (by rw [hW1]; exact hz1)
  have HW : Hid (Below w.heap.size w W1) := Lib.hid (by rw [hW1]; exact hb1)
  have HL : Hid (RdQ W1 A l) := Lib.hid (by rw [hW1]; exact hr.below ((Below.refl w.heap.size w).alloc (Nat.le_refl _) _))
  have c0 : ((n : Int) == 0) = false := by rw [beq_eq_false_iff_ne]; omega
  have c1 : ((n : Int) == 1) = false := by rw [beq_eq_false_iff_ne]; omega
  have c2 : (n : Int) / 2 = (h : Int) := by omega
  clear h20 h24 h25 hb1 hz1 hr hc hh h2
  go_enter Tryz.func41, Tryz.ntmps41
  go_wp2_with fail
  try rw [← hW1]
  clear hW1 c0 c1 c2
  refine late_begin (S := fun _ W => True) (by kernel_rfl) ?_
  have hZ0 := HZ.out.drew
  have hW0 := HW.out.drew
  have hL0 := HL.out.below (Below.refl _ _).drew
  generalize W1.drew = u0 at hZ0 hW0 hL0 ⊢
  clear HZ HW HL
  refine late_take [] (i := 0) (some 17) rfl rfl (by first | rfl | kernel_rfl) (by kernel_rfl) (by kernel_rfl) (by kernel_rfl) (by kernel_rfl) (by kernel_rfl) (fun Ls W h => h) (.slice A n c) (fun _ _ _ h => h) (fun Ls W hl0 hW => exec_move (.tmp 0) rfl _ rfl) trivial trivial ?_
  go_frame
  refine late_take [] (i := 1) (some 18) rfl rfl (by first | rfl | kernel_rfl) (by kernel_rfl) (by kernel_rfl) (by kernel_rfl) (by kernel_rfl) (by kernel_rfl) (fun Ls W h => h) (.int .i64 h) (fun _ _ _ h => h) (fun Ls W hl0 hW => exec_move (.tmp 3) rfl _ rfl) trivial trivial ?_
  go_frame
  refine late_take [] (i := 2) (some 19) rfl rfl (by first | rfl | kernel_rfl) (by kernel_rfl) (by kernel_rfl) (by kernel_rfl) (by kernel_rfl) (by kernel_rfl) (fun Ls W h => h) (.slice A h c) (fun _ _ _ h => h) (fun Ls W hl0 hW => exec_hiQ (.tmp 17) (.tmp 18) rfl A n c h HH1.out HH3.out rfl rfl) trivial trivial ?_
  go_frame
  refine late_take [] (i := 4) (some 21) rfl rfl (by first | rfl | kernel_rfl) (by kernel_rfl) (by kernel_rfl) (by kernel_rfl) (by kernel_rfl) (by kernel_rfl) (fun Ls W h => h) (.slice A n c) (fun _ _ _ h => h) (fun Ls W hl0 hW => exec_move (.tmp 0) rfl _ rfl) trivial trivial ?_
  go_frame
  refine late_take [] (i := 5) (some 22) rfl rfl (by first | rfl | kernel_rfl) (by kernel_rfl) (by kernel_rfl) (by kernel_rfl) (by kernel_rfl) (by kernel_rfl) (fun Ls W h => h) (.int .i64 h) (fun _ _ _ h => h) (fun Ls W hl0 hW => exec_move (.tmp 3) rfl _ rfl) trivial trivial ?_
  go_frame
  refine late_take [] (i := 6) (some 23) rfl rfl (by first | rfl | kernel_rfl) (by kernel_rfl) (by kernel_rfl) (by kernel_rfl) (by kernel_rfl) (by kernel_rfl) (fun Ls W h => h) (.slice (qA A n h) (n - h) (c - h)) (fun _ _ _ h => h) (fun Ls W hl0 hW => exec_loQ (.tmp 21) (.tmp 22) rfl A n c h HH2.out HH3.out rfl rfl) trivial trivial ?_
  go_frame
  refine late_one (i := 3) (by kernel_rfl) (op_callG (some 20) rfl rfl (by first | rfl | kernel_rfl) rfl Tryz.func41 (by kernel_rfl) (by kernel_rfl) #[.slice A h c] rfl (F20.out u0 hL0) ?_)
  rintro e u1 ⟨rfl, hb⟩
  have hZ1 := hZ0.next hb
  have hW1 := hW0.trans (hb.mono hW0.size)
  have hL1 := hL0.below hb
  refine ⟨_, rfl, trivial, ?_⟩
  go_frame
  clear hZ0 hW0 hL0 hb
  refine late_one (i := 7) (by kernel_rfl) (op_callG (some 24) rfl rfl (by first | rfl | kernel_rfl) rfl Tryz.func41 (by kernel_rfl) (by kernel_rfl) #[.slice (qA A n h) (n - h) (c - h)] rfl (F24.out u1 hL1) ?_)
  rintro e u2 ⟨rfl, hb⟩
  have hZ2 := hZ1.next hb
  have hW2 := hW1.trans (hb.mono hW1.size)
  have hL2 := hL1.below hb
  refine ⟨_, rfl, trivial, ?_⟩
  go_frame
  clear hZ1 hW1 hL1 hb
  refine late_one (i := 8) (by kernel_rfl) (op_callG (some 25) rfl rfl (by first | rfl | kernel_rfl) rfl Tryz.func73 (by kernel_rfl) (by kernel_rfl) #[rv p, rv q] rfl (F25.out u2) ?_)
  rintro e u3 ⟨rfl, hb⟩
  have hZ3 := hZ2.next hb
  have hW3 := hW2.trans (hb.mono hW2.size)
  have hL3 := hL2.below hb
  refine ⟨_, rfl, trivial, ?_⟩
  go_frame
  clear hZ2 hW2 hL2 hb
  refine late_one (i := 9) (by kernel_rfl) (op_store_all rfl rfl rfl 47 (.tmp 2) (.tmp 25) rfl (w.heap.size) _ [.bool false, .string ⟨#[]⟩, .string ⟨#[]⟩] [.bool r.neg, .string r.n, .string r.d] rfl rfl hZ3 rfl qf_size (List.forall_mem_cons.2 ⟨rfl, (List.forall_mem_cons.2 ⟨rfl, (List.forall_mem_cons.2 ⟨rfl, fun _ h => nomatch h⟩)⟩)⟩) ?_)
  intro w9 hk9 ho9
  refine ⟨trivial, late_done (by kernel_rfl) ?_ _⟩
  go_frame
  have HK9 := Lib.hid hk9
  have HO9 := Lib.hid ho9
  have HW := Lib.hid hW3
  clear hZ3 hW3 hL3 hk9 ho9
  go_wp2_with fail
  exact bodyPost_ret (results_blk rfl _ _ (w.heap.size) _ [.bool r.neg, .string r.n, .string r.d] _ rfl HK9.out Tryz.underlying47 rfl qf_size) rfl ⟨rfl, HW.out.trans (HO9.out.below (by omega))⟩
theorem qsumv_any (K : Nat) (hK : 1 ≤ K) : ∀ (n : Nat), n * (K + 1) ≤ 9000 → ∀ (l : List Rat) (A : Option Addr) (c : Nat) (w : World), l.length = n → n ≤ c → (∀ x ∈ l, Sz K x) → K ≤ 1000 → RdQ w A (l.map fr) →
    Calls Tryz.prog 41 #[.slice A n c] w fun e w' => e = .returned (rv (fr (sumQ l))) ∧ Below w.heap.size w w' := by
  intro n
  induction n using Nat.strongRecOn with
  | _ n ih =>
    intro hb l A c w hl hc hx hK2 hr
    match n, hl, hb, hc, ih with
    | 0, hl, _, _, _ =>
      obtain rfl : l = [] := List.eq_nil_of_length_eq_zero hl
      exact sum_none A c w
    | 1, hl, _, _, _ =>
      obtain ⟨x, rfl⟩ : ∃ x, l = [x] := by
        match l, hl with
        | [x], _ => exact ⟨x, rfl⟩
      rw [show sumQ [x] = x from Rat.add_zero x]
      exact sum_one A c (fr x) w hr
    | n + 2, hl, hb, hc, ih =>
      have hn : n + 2 ≤ 9000 := Nat.le_trans (Nat.le_mul_of_pos_right _ (by omega)) hb
      have hh : (n + 2) / 2 < n + 2 := by omega
      have hlt : (l.take ((n + 2) / 2)).length = (n + 2) / 2 := by rw [List.length_take]; omega
      have hld : (l.drop ((n + 2) / 2)).length = n + 2 - (n + 2) / 2 := by rw [List.length_drop]; omega
      have b1 : (n + 2) / 2 * (K + 1) ≤ 9000 := Nat.le_trans (Nat.mul_le_mul_right _ (by omega)) hb
      have b2 : (n + 2 - (n + 2) / 2) * (K + 1) ≤ 9000 := Nat.le_trans (Nat.mul_le_mul_right _ (by omega)) hb
      have s1 := Sz_sum hK (l.take ((n + 2) / 2)) (fun x h => hx x (List.mem_of_mem_take h))
      have s2 := Sz_sum hK (l.drop ((n + 2) / 2)) (fun x h => hx x (List.mem_of_mem_drop h))
      rw [hlt] at s1
      rw [hld] at s2
      refine sum_two A (n + 2) c ((n + 2) / 2) (l.map fr) (fr (sumQ (l.take ((n + 2) / 2)))) (fr (sumQ (l.drop ((n + 2) / 2)))) (fr (sumQ l)) w hr hc (by omega) rfl (by omega) ?_ ?_ ?_
      · intro W hW
        refine ih _ hh b1 _ A c W hlt (by omega) (fun x h => hx x (List.mem_of_mem_take h)) hK2 ?_
        have := hW.take ((n + 2) / 2)
        rwa [← List.map_take] at this
      · intro W hW
        refine ih _ (by omega) b2 _ _ _ W hld (by omega) (fun x h => hx x (List.mem_of_mem_drop h)) hK2 ?_
        have := hW.drop ((n + 2) / 2)
        rwa [← List.map_drop, List.length_map, hl] at this
      · intro W
        have := qplus_any (sumQ (l.take ((n + 2) / 2))) (sumQ (l.drop ((n + 2) / 2))) W (Sz_mono s1 (by omega)) (Sz_mono s2 (by omega))
        rwa [← sumQ_app, List.take_append_drop] at this
end Go.Proofs.YtpmlihhofmblpaaGreatDoor

/- Add, Sub. -/
namespace Go.Proofs.YtpmlihhofmblpaaGreatDoor
open Go.RowKit Hm Wm Wn

theorem size_api_Rat : (Tryz.prog.info? 26).map (·.size) = some 3 := by kernel_rfl
theorem run_bq2 (f g : Rv) (w : World) : (Instr.buildSlice 74 2 #[(0, rv f), (1, rv g)]).run Tryz.prog w = .ok (.slice (some ⟨w.heap.size, 0, none⟩) 2 2) (w.alloc (.cells (qL [f, g]).toArray 47)) := by
  obtain ⟨b, x, y⟩ := f
  obtain ⟨c, z, v⟩ := g
  kernel_rfl
theorem rdq_new (w : World) (l : List Rv) : RdQ (w.alloc (.cells (qL l).toArray 47)) (some ⟨w.heap.size, 0, none⟩) l := Rd.of_new w _ _
set_option maxRecDepth 100000 in
set_option maxHeartbeats 800000 in
theorem Add_raw (x y f g s r : Rv) (w : World) (h6 : (∀ W, Calls Tryz.prog 26 #[rv x] W fun e w' => e = .returned (rv f) ∧ Below W.heap.size W w')) (h8 : (∀ W, Calls Tryz.prog 26 #[rv y] W fun e w' => e = .returned (rv g) ∧ Below W.heap.size W w')) (h10 : (∀ A W, RdQ W A [f, g] → Calls Tryz.prog 41 #[.slice A 2 2] W fun e w' => e = .returned (rv s) ∧ Below W.heap.size W w')) (h11 : (∀ W, Calls Tryz.prog 37 #[rv s] W fun e w' => e = .returned (rv r) ∧ Below W.heap.size W w')) :
    Calls Tryz.prog 17 #[.agg #[.bool x.neg, .string x.n, .string x.d], .agg #[.bool y.neg, .string y.n, .string y.d]] w fun e w' => e = .returned (rv r) ∧ Below w.heap.size w w' := by
  obtain ⟨W0, hW0, kx, ky, kz, kw⟩ := three_vars w 26 26 26 [.bool x.neg, .string x.n, .string x.d] [.bool y.neg, .string y.n, .string y.d] [.bool false, .string ⟨#[]⟩, .string ⟨#[]⟩]
  have HX := Lib.hid kx
  have HY := Lib.hid ky
  have HZ := Lib.hid kz
  have HW := Lib.hid kw
  have F6 := Lib.hid h6
  have F8 := Lib.hid h8
  have F10 := Lib.hid h10
  have F11 := Lib.hid h11
  clear kx ky kz kw h6 h8 h10 h11
  go_enter Tryz.func17, Tryz.ntmps17
  go_wp2_with fail
  rw [← hW0]
  clear hW0
  refine late_begin (S := fun _ W => Blk W w.heap.size 26 [.bool x.neg, .string x.n, .string x.d] ∧ Blk W (w.heap.size + 1) 26 [.bool y.neg, .string y.n, .string y.d]) (by kernel_rfl) ?_
  have hX0 := HX.out.drew
  have hY0 := HY.out.drew
  have hZ0 := HZ.out.drew
  have hW0 := HW.out.drew
  generalize W0.drew = u0 at hX0 hY0 hZ0 hW0 ⊢
  clear HX HY HZ HW
  refine late_take [] (i := 0) (some 5) rfl rfl (by first | rfl | kernel_rfl) (by kernel_rfl) (by kernel_rfl) (by kernel_rfl) (by kernel_rfl) (by kernel_rfl) (fun Ls W h => h) (rv x) (fun _ _ _ h => h) (fun Ls W hl0 hW => exec_load 26 (.tmp 2) rfl _ (rv x) rfl (run_load_part W 26 _ 0 3 _ [.bool x.neg, .string x.n, .string x.d] _ hW.1 (by simp) Tryz.underlying26 rfl size_api_Rat)) ⟨hX0, hY0⟩ ⟨hX0, hY0⟩ ?_
  go_frame
  refine late_take [] (i := 2) (some 7) rfl rfl (by first | rfl | kernel_rfl) (by kernel_rfl) (by kernel_rfl) (by kernel_rfl) (by kernel_rfl) (by kernel_rfl) (fun Ls W h => h) (rv y) (fun _ _ _ h => h) (fun Ls W hl0 hW => exec_load 26 (.tmp 3) rfl _ (rv y) rfl (run_load_part W 26 _ 0 3 _ [.bool y.neg, .string y.n, .string y.d] _ hW.2 (by simp) Tryz.underlying26 rfl size_api_Rat)) ⟨hX0, hY0⟩ ⟨hX0, hY0⟩ ?_
  go_frame
  refine late_one (i := 1) (by kernel_rfl) (op_callG (some 6) rfl rfl (by first | rfl | kernel_rfl) rfl Tryz.func26 (by kernel_rfl) (by kernel_rfl) #[rv x] rfl (F6.out u0) ?_)
  rintro e u1 ⟨rfl, hb⟩
  have hX1 := hX0.next hb
  have hY1 := hY0.next hb
  have hZ1 := hZ0.next hb
  have hW1 := hW0.trans (hb.mono hW0.size)
  refine ⟨_, rfl, ⟨hX1, hY1⟩, ?_⟩
  go_frame
  clear hX0 hY0 hZ0 hW0 hb
  refine late_one (i := 3) (by kernel_rfl) (op_callG (some 8) rfl rfl (by first | rfl | kernel_rfl) rfl Tryz.func26 (by kernel_rfl) (by kernel_rfl) #[rv y] rfl (F8.out u1) ?_)
  rintro e u2 ⟨rfl, hb⟩
  have hX2 := hX1.next hb
  have hY2 := hY1.next hb
  have hZ2 := hZ1.next hb
  have hW2 := hW1.trans (hb.mono hW1.size)
  refine ⟨_, rfl, ⟨hX2, hY2⟩, ?_⟩
  go_frame
  clear hX1 hY1 hZ1 hW1 hb
  refine late_one (i := 4) (by kernel_rfl) (op_runG (some 9) rfl rfl (by first | rfl | kernel_rfl) (.slice (some ⟨u2.heap.size, 0, none⟩) 2 2) (u2.alloc (.cells (qL [f, g]).toArray 47)) (exec_buildS 74 2 _ rfl #[(0, rv f), (1, rv g)] rfl _ (run_bq2 f g _)) ?_)
  have hb : Below u2.heap.size u2 (u2.alloc (.cells (qL [f, g]).toArray 47)) := (Below.refl _ _).alloc (Nat.le_refl _) _
  have hX3 := hX2.next hb
  have hY3 := hY2.next hb
  have hZ3 := hZ2.next hb
  have hW3 := hW2.trans (hb.mono hW2.size)
  have hL3 := rdq_new u2 [f, g]
  refine ⟨⟨hX3, hY3⟩, ?_⟩
  go_frame
  clear hX2 hY2 hZ2 hW2 hb
  refine late_one (i := 5) (by kernel_rfl) (op_callG (some 10) rfl rfl (by first | rfl | kernel_rfl) rfl Tryz.func41 (by kernel_rfl) (by kernel_rfl) #[.slice (some ⟨u2.heap.size, 0, none⟩) 2 2] rfl (F10.out _ _ hL3) ?_)
  rintro e u4 ⟨rfl, hb⟩
  have hX4 := hX3.next hb
  have hY4 := hY3.next hb
  have hZ4 := hZ3.next hb
  have hW4 := hW3.trans (hb.mono hW3.size)
  have hL4 := hL3.below hb
  refine ⟨_, rfl, ⟨hX4, hY4⟩, ?_⟩
  go_frame
  clear hX3 hY3 hZ3 hW3 hL3 hb
  refine late_one (i := 6) (by kernel_rfl) (op_callG (some 11) rfl rfl (by first | rfl | kernel_rfl) rfl Tryz.func37 (by kernel_rfl) (by kernel_rfl) #[rv s] rfl (F11.out u4) ?_)
  rintro e u5 ⟨rfl, hb⟩
  have hX5 := hX4.next hb
  have hY5 := hY4.next hb
  have hZ5 := hZ4.next hb
  have hW5 := hW4.trans (hb.mono hW4.size)
  have hL5 := hL4.below hb
  refine ⟨_, rfl, ⟨hX5, hY5⟩, ?_⟩
  go_frame
  clear hX4 hY4 hZ4 hW4 hL4 hb
  refine late_one (i := 7) (by kernel_rfl) (op_store_all rfl rfl rfl 26 (.tmp 4) (.tmp 11) rfl (w.heap.size + 1 + 1) _ [.bool false, .string ⟨#[]⟩, .string ⟨#[]⟩] [.bool r.neg, .string r.n, .string r.d] rfl rfl hZ5 rfl qr_size (List.forall_mem_cons.2 ⟨rfl, (List.forall_mem_cons.2 ⟨rfl, (List.forall_mem_cons.2 ⟨rfl, fun _ h => nomatch h⟩)⟩)⟩) ?_)
  intro w9 hk9 ho9
  refine ⟨⟨ho9.blk hX5 (by omega), ho9.blk hY5 (by omega)⟩, late_done (by kernel_rfl) ?_ _⟩
  go_frame
  have HK9 := Lib.hid hk9
  have HO9 := Lib.hid ho9
  have HW := Lib.hid hW5
  clear hX5 hY5 hZ5 hW5 hL5 hk9 ho9
  go_wp2_with fail
  exact bodyPost_ret (results_blk rfl _ _ (w.heap.size + 1 + 1) _ [.bool r.neg, .string r.n, .string r.d] _ rfl HK9.out Tryz.underlying26 rfl qr_size) rfl ⟨rfl, HW.out.trans (HO9.out.below (by omega))⟩
set_option maxRecDepth 100000 in
set_option maxHeartbeats 800000 in
theorem Sub_raw (x y f g0 g s r : Rv) (w : World) (h6 : (∀ W, Calls Tryz.prog 26 #[rv x] W fun e w' => e = .returned (rv f) ∧ Below W.heap.size W w')) (h8 : (∀ W, Calls Tryz.prog 26 #[rv y] W fun e w' => e = .returned (rv g0) ∧ Below W.heap.size W w')) (h9 : (∀ W, Calls Tryz.prog 48 #[rv g0] W fun e w' => e = .returned (rv g) ∧ Below W.heap.size W w')) (h10 : (∀ A W, RdQ W A [f, g] → Calls Tryz.prog 41 #[.slice A 2 2] W fun e w' => e = .returned (rv s) ∧ Below W.heap.size W w')) (h11 : (∀ W, Calls Tryz.prog 37 #[rv s] W fun e w' => e = .returned (rv r) ∧ Below W.heap.size W w')) :
    Calls Tryz.prog 18 #[.agg #[.bool x.neg, .string x.n, .string x.d], .agg #[.bool y.neg, .string y.n, .string y.d]] w fun e w' => e = .returned (rv r) ∧ Below w.heap.size w w' := by
  obtain ⟨W0, hW0, kx, ky, kz, kw⟩ := three_vars w 26 26 26 [.bool x.neg, .string x.n, .string x.d] [.bool y.neg, .string y.n, .string y.d] [.bool false, .string ⟨#[]⟩, .string ⟨#[]⟩]
  have HX := Lib.hid kx
  have HY := Lib.hid ky
  have HZ := Lib.hid kz
  have HW := Lib.hid kw
  have F6 := Lib.hid h6
  have F8 := Lib.hid h8
  have F9 := Lib.hid h9
  have F10 := Lib.hid h10
  have F11 := Lib.hid h11
  clear kx ky kz kw h6 h8 h9 h10 h11
  go_enter Tryz.func18, Tryz.ntmps18
  go_wp2_with fail
  rw [← hW0]
  clear hW0
  refine late_begin (S := fun _ W => Blk W w.heap.size 26 [.bool x.neg, .string x.n, .string x.d] ∧ Blk W (w.heap.size + 1) 26 [.bool y.neg, .string y.n, .string y.d]) (by kernel_rfl) ?_
  have hX0 := HX.out.drew
  have hY0 := HY.out.drew
  have hZ0 := HZ.out.drew
  have hW0 := HW.out.drew
  generalize W0.drew = u0 at hX0 hY0 hZ0 hW0 ⊢
  clear HX HY HZ HW
  refine late_take [] (i := 0) (some 5) rfl rfl (by first | rfl | kernel_rfl) (by kernel_rfl) (by kernel_rfl) (by kernel_rfl) (by kernel_rfl) (by kernel_rfl) (fun Ls W h => h) (rv x) (fun _ _ _ h => h) (fun Ls W hl0 hW => exec_load 26 (.tmp 2) rfl _ (rv x) rfl (run_load_part W 26 _ 0 3 _ [.bool x.neg, .string x.n, .string x.d] _ hW.1 (by simp) Tryz.underlying26 rfl size_api_Rat)) ⟨hX0, hY0⟩ ⟨hX0, hY0⟩ ?_
  go_frame
  refine late_take [] (i := 2) (some 7) rfl rfl (by first | rfl | kernel_rfl) (by kernel_rfl) (by kernel_rfl) (by kernel_rfl) (by kernel_rfl) (by kernel_rfl) (fun Ls W h => h) (rv y) (fun _ _ _ h => h) (fun Ls W hl0 hW => exec_load 26 (.tmp 3) rfl _ (rv y) rfl (run_load_part W 26 _ 0 3 _ [.bool y.neg, .string y.n, .string y.d] _ hW.2 (by simp) Tryz.underlying26 rfl size_api_Rat)) ⟨hX0, hY0⟩ ⟨hX0, hY0⟩ ?_
  go_frame
  refine late_one (i := 1) (by kernel_rfl) (op_callG (some 6) rfl rfl (by first | rfl | kernel_rfl) rfl Tryz.func26 (by kernel_rfl) (by kernel_rfl) #[rv x] rfl (F6.out u0) ?_)
  rintro e u1 ⟨rfl, hb⟩
  have hX1 := hX0.next hb
  have hY1 := hY0.next hb
  have hZ1 := hZ0.next hb
  have hW1 := hW0.trans (hb.mono hW0.size)
  refine ⟨_, rfl, ⟨hX1, hY1⟩, ?_⟩
  go_frame
  clear hX0 hY0 hZ0 hW0 hb
  refine late_one (i := 3) (by kernel_rfl) (op_callG (some 8) rfl rfl (by first | rfl | kernel_rfl) rfl Tryz.func26 (by kernel_rfl) (by kernel_rfl) #[rv y] rfl (F8.out u1) ?_)
  rintro e u2 ⟨rfl, hb⟩
  have hX2 := hX1.next hb
  have hY2 := hY1.next hb
  have hZ2 := hZ1.next hb
  have hW2 := hW1.trans (hb.mono hW1.size)
  refine ⟨_, rfl, ⟨hX2, hY2⟩, ?_⟩
  go_frame
  clear hX1 hY1 hZ1 hW1 hb
  refine late_one (i := 4) (by kernel_rfl) (op_callG (some 9) rfl rfl (by first | rfl | kernel_rfl) rfl Tryz.func48 (by kernel_rfl) (by kernel_rfl) #[rv g0] rfl (F9.out u2) ?_)
  rintro e u3 ⟨rfl, hb⟩
  have hX3 := hX2.next hb
  have hY3 := hY2.next hb
  have hZ3 := hZ2.next hb
  have hW3 := hW2.trans (hb.mono hW2.size)
  refine ⟨_, rfl, ⟨hX3, hY3⟩, ?_⟩
  go_frame
  clear hX2 hY2 hZ2 hW2 hb
  refine late_one (i := 5) (by kernel_rfl) (op_runG (some 10) rfl rfl (by first | rfl | kernel_rfl) (.slice (some ⟨u3.heap.size, 0, none⟩) 2 2) (u3.alloc (.cells (qL [f, g]).toArray 47)) (exec_buildS 74 2 _ rfl #[(0, rv f), (1, rv g)] rfl _ (run_bq2 f g _)) ?_)
  have hb : Below u3.heap.size u3 (u3.alloc (.cells (qL [f, g]).toArray 47)) := (Below.refl _ _).alloc (Nat.le_refl _) _
  have hX4 := hX3.next hb
  have hY4 := hY3.next hb
  have hZ4 := hZ3.next hb
  have hW4 := hW3.trans (hb.mono hW3.size)
  have hL4 := rdq_new u3 [f, g]
  refine ⟨⟨hX4, hY4⟩, ?_⟩
  go_frame
  clear hX3 hY3 hZ3 hW3 hb
  refine late_one (i := 6) (by kernel_rfl) (op_callG (some 11) rfl rfl (by first | rfl | kernel_rfl) rfl Tryz.func41 (by kernel_rfl) (by kernel_rfl) #[.slice (some ⟨u3.heap.size, 0, none⟩) 2 2] rfl (F10.out _ _ hL4) ?_)
  rintro e u5 ⟨rfl, hb⟩
  have hX5 := hX4.next hb
  have hY5 := hY4.next hb
  have hZ5 := hZ4.next hb
  have hW5 := hW4.trans (hb.mono hW4.size)
  have hL5 := hL4.below hb
  refine ⟨_, rfl, ⟨hX5, hY5⟩, ?_⟩
  go_frame
  clear hX4 hY4 hZ4 hW4 hL4 hb
  refine late_one (i := 7) (by kernel_rfl) (op_callG (some 12) rfl rfl (by first | rfl | kernel_rfl) rfl Tryz.func37 (by kernel_rfl) (by kernel_rfl) #[rv s] rfl (F11.out u5) ?_)
  rintro e u6 ⟨rfl, hb⟩
  have hX6 := hX5.next hb
  have hY6 := hY5.next hb
  have hZ6 := hZ5.next hb
  have hW6 := hW5.trans (hb.mono hW5.size)
  have hL6 := hL5.below hb
  refine ⟨_, rfl, ⟨hX6, hY6⟩, ?_⟩
  go_frame
  clear hX5 hY5 hZ5 hW5 hL5 hb
  refine late_one (i := 8) (by kernel_rfl) (op_store_all rfl rfl rfl 26 (.tmp 4) (.tmp 12) rfl (w.heap.size + 1 + 1) _ [.bool false, .string ⟨#[]⟩, .string ⟨#[]⟩] [.bool r.neg, .string r.n, .string r.d] rfl rfl hZ6 rfl qr_size (List.forall_mem_cons.2 ⟨rfl, (List.forall_mem_cons.2 ⟨rfl, (List.forall_mem_cons.2 ⟨rfl, fun _ h => nomatch h⟩)⟩)⟩) ?_)
  intro w9 hk9 ho9
  refine ⟨⟨ho9.blk hX6 (by omega), ho9.blk hY6 (by omega)⟩, late_done (by kernel_rfl) ?_ _⟩
  go_frame
  have HK9 := Lib.hid hk9
  have HO9 := Lib.hid ho9
  have HW := Lib.hid hW6
  clear hX6 hY6 hZ6 hW6 hL6 hk9 ho9
  go_wp2_with fail
  exact bodyPost_ret (results_blk rfl _ _ (w.heap.size + 1 + 1) _ [.bool r.neg, .string r.n, .string r.d] _ rfl HK9.out Tryz.underlying26 rfl qr_size) rfl ⟨rfl, HW.out.trans (HO9.out.below (by omega))⟩
def szR (k : Nat) (x : Rv) : Prop := x.n.size ≤ k ∧ x.d.size ≤ k
theorem Add_any (x y : Rv) (w : World) (hx : szR 1000 x) (hy : szR 1000 y) : Calls Tryz.prog 17 #[rv x, rv y] w fun e w' => e = .returned (rv (rt (valR x + valR y))) ∧ Below w.heap.size w w' := by
  have sx := Sz_val x 1000 (by decide) hx.1 hx.2
  have sy := Sz_val y 1000 (by decide) hy.1 hy.2
  refine Add_raw x y (fr (valR x)) (fr (valR y)) (fr (valR x + valR y)) _ w (fun W => read_q x W (Nat.le_trans hx.1 (by decide)) (Nat.le_trans hx.2 (by decide))) (fun W => read_q y W (Nat.le_trans hy.1 (by decide)) (Nat.le_trans hy.2 (by decide))) (fun A W hW => ?_) (fun W => qratv_any _ W)
  have h := qsumv_any 1000 (by decide) 2 (by decide) [valR x, valR y] A 2 W rfl (Nat.le_refl _) (by intro q hq; simp only [List.mem_cons, List.not_mem_nil, or_false] at hq; rcases hq with rfl | rfl; exact sx; exact sy) (by decide) hW
  rwa [show sumQ [valR x, valR y] = valR x + valR y from by show valR x + (valR y + 0) = _; rw [Rat.add_zero]] at h
theorem Sub_any (x y : Rv) (w : World) (hx : szR 1000 x) (hy : szR 1000 y) : Calls Tryz.prog 18 #[rv x, rv y] w fun e w' => e = .returned (rv (rt (valR x - valR y))) ∧ Below w.heap.size w w' := by
  have sx := Sz_val x 1000 (by decide) hx.1 hx.2
  have sy := Sz_neg (Sz_val y 1000 (by decide) hy.1 hy.2)
  refine Sub_raw x y (fr (valR x)) (fr (valR y)) (fr (-valR y)) (fr (valR x - valR y)) _ w (fun W => read_q x W (Nat.le_trans hx.1 (by decide)) (Nat.le_trans hx.2 (by decide))) (fun W => read_q y W (Nat.le_trans hy.1 (by decide)) (Nat.le_trans hy.2 (by decide))) (fun W => qneg_any _ W) (fun A W hW => ?_) (fun W => qratv_any _ W)
  have h := qsumv_any 1000 (by decide) 2 (by decide) [valR x, -valR y] A 2 W rfl (Nat.le_refl _) (by intro q hq; simp only [List.mem_cons, List.not_mem_nil, or_false] at hq; rcases hq with rfl | rfl; exact sx; exact sy) (by decide) hW
  rwa [show sumQ [valR x, -valR y] = valR x - valR y from by show valR x + (-valR y + 0) = _; rw [Rat.add_zero, Rat.sub_eq_add_neg]] at h
end Go.Proofs.YtpmlihhofmblpaaGreatDoor

/- Div, Make. -/
namespace Go.Proofs.YtpmlihhofmblpaaGreatDoor
open Go.RowKit Hm Wm Wn

theorem zero_rat_fraction : (Tryz.prog.info? 47).map (·.zero) = some (some (.agg #[.bool false, .string ByteArray.empty, .string ByteArray.empty])) := by kernel_rfl
theorem size_rat_fraction : (Tryz.prog.info? 47).map (·.size) = some 3 := by kernel_rfl
theorem fa_rat_fraction_1_0 (g : Nat) (W : World) : (Instr.fieldAt 47 (.pointer (some ⟨g, 0, none⟩)) 1).run Tryz.prog W = .ok (.pointer (some ⟨g, 1, none⟩)) W := by kernel_rfl
theorem flat_string (W : World) : (isAgg 9).run Tryz.prog W = .ok false W := by kernel_rfl
set_option maxRecDepth 100000 in
set_option maxHeartbeats 800000 in
theorem Div_zero (x y g : Rv) (w : World) (hz : decide (g.n = ⟨#[]⟩) = true) (h8 : (∀ W, Calls Tryz.prog 26 #[rv y] W fun e w' => e = .returned (rv g) ∧ Below W.heap.size W w')) : Calls Tryz.prog 14 #[.agg #[.bool x.neg, .string x.n, .string x.d], .agg #[.bool y.neg, .string y.n, .string y.d]] w fun e w' => e = .returned (.tuple #[rv zR, .int .i64 1]) ∧ Below w.heap.size w w' := by
  obtain ⟨W0, hW0, kx, ky, kz, kw⟩ := three_vars w 26 26 26 [.bool x.neg, .string x.n, .string x.d] [.bool y.neg, .string y.n, .string y.d] [.bool false, .string ⟨#[]⟩, .string ⟨#[]⟩]
  have HX := Lib.hid kx
  have HY := Lib.hid ky
  have HZ := Lib.hid kz
  have HW := Lib.hid kw
  have F8 := Lib.hid h8
  have H11 := Lib.hid (fun W => run_eqS g.n ⟨#[]⟩ true hz W)
  clear kx ky kz kw h8 hz
  go_enter Tryz.func14, Tryz.ntmps14
  go_wp2_with fail
  rw [← hW0]
  clear hW0
  go_wp2_with (first | (refine wpList_dst 7 rfl ?_; refine wpList_run 7 rfl rfl _ (exec_load 26 (.tmp 3) rfl _ (.agg #[.bool y.neg, .string y.n, .string y.d]) rfl (run_load_part _ 26 _ 0 3 _ [.bool y.neg, .string y.n, .string y.d] _ HY.out (by simp) Tryz.underlying26 rfl size_api_Rat)) ?_; go_frame))
  refine (F8.out _).mono ?_
  rintro e w1 ⟨rfl, hb⟩
  replace HX := Lib.hid (HX.out.next hb)
  replace HY := Lib.hid (HY.out.next hb)
  replace HZ := Lib.hid (HZ.out.next hb)
  replace HW := Lib.hid (HW.out.trans (hb.mono HW.out.size))
  clear hb
  have hg6 : w.heap.size + 1 + 1 < w1.heap.size := HZ.out.lt
  have HG6 := Lib.hid hg6
  clear hg6
  go_wp2_with (first | (refine wpList_var rfl rfl 47 6 rfl rfl rfl (.tmp 8) rfl [.bool false, .string ByteArray.empty, .string ByteArray.empty] [.bool g.neg, .string g.n, .string g.d] zero_rat_fraction rfl rfl rfl size_rat_fraction (List.forall_mem_cons.2 ⟨rfl, (List.forall_mem_cons.2 ⟨rfl, (List.forall_mem_cons.2 ⟨rfl, fun _ h => nomatch h⟩)⟩)⟩) ?_; intro w2 HD HBw; replace HX := Lib.hid (HX.out.next HBw.out); replace HY := Lib.hid (HY.out.next HBw.out); replace HZ := Lib.hid (HZ.out.next HBw.out); replace HW := Lib.hid (HW.out.trans (HBw.out.mono HW.out.size)); clear HBw) | (refine wpList_dst 11 rfl ?_; refine wpList_run 11 rfl rfl _ (exec_bin .eql 9 _ (.tmp 10) (.const (.string ⟨#[]⟩)) rfl _ _ _ rfl rfl rfl (H11.out _)) ?_; go_frame) | (refine wpList_dst 12 rfl ?_; refine wpList_run 12 rfl rfl _ (exec_build0 26 rfl _ (qr_nil _)) ?_; go_frame) | (refine wpList_store_all rfl 26 (.tmp 4) (.tmp 12) rfl (w.heap.size + 1 + 1) _ [.bool false, .string ⟨#[]⟩, .string ⟨#[]⟩] [.bool false, .string ⟨#[]⟩, .string ⟨#[]⟩] rfl rfl HZ.out rfl qr_size (List.forall_mem_cons.2 ⟨rfl, (List.forall_mem_cons.2 ⟨rfl, (List.forall_mem_cons.2 ⟨rfl, fun _ h => nomatch h⟩)⟩)⟩) ?_; intro w9 HK9 ho9; have HO9 := Lib.hid ho9; clear ho9) | (refine wpList_dst 9 rfl ?_; refine wpList_run 9 rfl rfl _ (exec_fieldAddr 47 (.tmp 6) 1 rfl _ _ rfl (fa_rat_fraction_1_0 _ _)) ?_; go_frame) | (refine wpList_dst 10 rfl ?_; refine wpList_run 10 rfl rfl _ (exec_load 9 (.tmp 9) rfl _ (.string g.n) rfl (run_load_cell flat_string (HD.out.cell 1))) ?_; go_frame))
  exact bodyPost_ret (results_bt rfl _ _ (w.heap.size + 1 + 1) _ [.bool false, .string ⟨#[]⟩, .string ⟨#[]⟩] (.int .i64 1) _ rfl rfl HK9.out Tryz.underlying26 rfl qr_size) rfl ⟨rfl, HW.out.trans (HO9.out.below (by omega))⟩
set_option maxRecDepth 100000 in
set_option maxHeartbeats 800000 in
theorem Div_raw (x y f g i r : Rv) (w : World) (hz : decide (g.n = ⟨#[]⟩) = false) (h8 : (∀ W, Calls Tryz.prog 26 #[rv y] W fun e w' => e = .returned (rv g) ∧ Below W.heap.size W w')) (h14 : (∀ W, Calls Tryz.prog 26 #[rv x] W fun e w' => e = .returned (rv f) ∧ Below W.heap.size W w')) (h17 : (∀ W, Calls Tryz.prog 46 #[rv g] W fun e w' => e = .returned (rv i) ∧ Below W.heap.size W w')) (h18 : (∀ W, Calls Tryz.prog 44 #[.func (.func 45) #[rv f] #[], rv i] W fun e w' => e = .returned (rv r) ∧ Below W.heap.size W w')) : Calls Tryz.prog 14 #[.agg #[.bool x.neg, .string x.n, .string x.d], .agg #[.bool y.neg, .string y.n, .string y.d]] w fun e w' => e = .returned (.tuple #[rv r, .int .i64 0]) ∧ Below w.heap.size w w' := by
  obtain ⟨W0, hW0, kx, ky, kz, kw⟩ := three_vars w 26 26 26 [.bool x.neg, .string x.n, .string x.d] [.bool y.neg, .string y.n, .string y.d] [.bool false, .string ⟨#[]⟩, .string ⟨#[]⟩]
  have HX := Lib.hid kx
  have HY := Lib.hid ky
  have HZ := Lib.hid kz
  have HW := Lib.hid kw
  have F8 := Lib.hid h8
  have F14 := Lib.hid h14
  have F17 := Lib.hid h17
  have F18 := Lib.hid h18
  have H11 := Lib.hid (fun W => run_eqS g.n ⟨#[]⟩ false hz W)
  clear kx ky kz kw h8 h14 h17 h18 hz
  go_enter Tryz.func14, Tryz.ntmps14
  go_wp2_with fail
  rw [← hW0]
  clear hW0
  go_wp2_with (first | (refine wpList_dst 7 rfl ?_; refine wpList_run 7 rfl rfl _ (exec_load 26 (.tmp 3) rfl _ (.agg #[.bool y.neg, .string y.n, .string y.d]) rfl (run_load_part _ 26 _ 0 3 _ [.bool y.neg, .string y.n, .string y.d] _ HY.out (by simp) Tryz.underlying26 rfl size_api_Rat)) ?_; go_frame))
  refine (F8.out _).mono ?_
  rintro e w1 ⟨rfl, hb⟩
  replace HX := Lib.hid (HX.out.next hb)
  replace HY := Lib.hid (HY.out.next hb)
  replace HZ := Lib.hid (HZ.out.next hb)
  replace HW := Lib.hid (HW.out.trans (hb.mono HW.out.size))
  clear hb
  have hg6 : w.heap.size + 1 + 1 < w1.heap.size := HZ.out.lt
  have HG6 := Lib.hid hg6
  clear hg6
  go_wp2_with (first | (refine wpList_var rfl rfl 47 6 rfl rfl rfl (.tmp 8) rfl [.bool false, .string ByteArray.empty, .string ByteArray.empty] [.bool g.neg, .string g.n, .string g.d] zero_rat_fraction rfl rfl rfl size_rat_fraction (List.forall_mem_cons.2 ⟨rfl, (List.forall_mem_cons.2 ⟨rfl, (List.forall_mem_cons.2 ⟨rfl, fun _ h => nomatch h⟩)⟩)⟩) ?_; intro w2 HD HBw; replace HX := Lib.hid (HX.out.next HBw.out); replace HY := Lib.hid (HY.out.next HBw.out); replace HZ := Lib.hid (HZ.out.next HBw.out); replace HW := Lib.hid (HW.out.trans (HBw.out.mono HW.out.size)); clear HBw) | (refine wpList_dst 11 rfl ?_; refine wpList_run 11 rfl rfl _ (exec_bin .eql 9 _ (.tmp 10) (.const (.string ⟨#[]⟩)) rfl _ _ _ rfl rfl rfl (H11.out _)) ?_; go_frame) | (refine wpList_dst 9 rfl ?_; refine wpList_run 9 rfl rfl _ (exec_fieldAddr 47 (.tmp 6) 1 rfl _ _ rfl (fa_rat_fraction_1_0 _ _)) ?_; go_frame) | (refine wpList_dst 10 rfl ?_; refine wpList_run 10 rfl rfl _ (exec_load 9 (.tmp 9) rfl _ (.string g.n) rfl (run_load_cell flat_string (HD.out.cell 1))) ?_; go_frame))
  obtain ⟨g6, hg6⟩ : ∃ q, q = w1.heap.size := ⟨_, rfl⟩
  rw [← hg6] at HD HG6 ⊢
  clear hg6
  refine late_begin (S := fun _ W => Blk W w.heap.size 26 [.bool x.neg, .string x.n, .string x.d] ∧ Blk W g6 47 [.bool g.neg, .string g.n, .string g.d]) (by kernel_rfl) ?_
  have hX0 := HX.out.drew
  have hY0 := HY.out.drew
  have hZ0 := HZ.out.drew
  have hW0 := HW.out.drew
  have hD0 := HD.out.drew
  generalize w2.drew = u0 at hX0 hY0 hZ0 hW0 hD0 ⊢
  clear HX HY HZ HW HD
  refine late_take [] (i := 0) (some 13) rfl rfl (by first | rfl | kernel_rfl) (by kernel_rfl) (by kernel_rfl) (by kernel_rfl) (by kernel_rfl) (by kernel_rfl) (fun Ls W h => h) (rv x) (fun _ _ _ h => h) (fun Ls W hl0 hW => exec_load 26 (.tmp 2) rfl _ (rv x) rfl (run_load_part W 26 _ 0 3 _ [.bool x.neg, .string x.n, .string x.d] _ hW.1 (by simp) Tryz.underlying26 rfl size_api_Rat)) ⟨hX0, hD0⟩ ⟨hX0, hD0⟩ ?_
  go_frame
  refine late_take [] (i := 3) (some 16) rfl rfl (by first | rfl | kernel_rfl) (by kernel_rfl) (by kernel_rfl) (by kernel_rfl) (by kernel_rfl) (by kernel_rfl) (fun Ls W h => h) (rv g) (fun _ _ _ h => h) (fun Ls W hl0 hW => exec_load 47 (.tmp 6) rfl _ (rv g) rfl (run_load_part W 47 _ 0 3 _ [.bool g.neg, .string g.n, .string g.d] _ hW.2 (by simp) Tryz.underlying47 rfl size_rat_fraction)) ⟨hX0, hD0⟩ ⟨hX0, hD0⟩ ?_
  go_frame
  refine late_one (i := 1) (by kernel_rfl) (op_callG (some 14) rfl rfl (by first | rfl | kernel_rfl) rfl Tryz.func26 (by kernel_rfl) (by kernel_rfl) #[rv x] rfl (F14.out u0) ?_)
  rintro e u1 ⟨rfl, hb⟩
  have hX1 := hX0.next hb
  have hY1 := hY0.next hb
  have hZ1 := hZ0.next hb
  have hW1 := hW0.trans (hb.mono hW0.size)
  have hD1 := hD0.next hb
  refine ⟨_, rfl, ⟨hX1, hD1⟩, ?_⟩
  go_frame
  clear hX0 hY0 hZ0 hW0 hD0 hb
  refine late_take [] (i := 2) (some 15) rfl rfl (by first | rfl | kernel_rfl) (by kernel_rfl) (by kernel_rfl) (by kernel_rfl) (by kernel_rfl) (by kernel_rfl) (fun Ls W h => h) (.func (.func 45) #[rv f] #[]) (fun _ _ _ h => h) (fun Ls W hl0 hW => exec_makeF (.tmp 14) rfl _ rfl) ⟨hX1, hD1⟩ ⟨hX1, hD1⟩ ?_
  go_frame
  refine late_one (i := 4) (by kernel_rfl) (op_callG (some 17) rfl rfl (by first | rfl | kernel_rfl) rfl Tryz.func46 (by kernel_rfl) (by kernel_rfl) #[rv g] rfl (F17.out u1) ?_)
  rintro e u2 ⟨rfl, hb⟩
  have hX2 := hX1.next hb
  have hY2 := hY1.next hb
  have hZ2 := hZ1.next hb
  have hW2 := hW1.trans (hb.mono hW1.size)
  have hD2 := hD1.next hb
  refine ⟨_, rfl, ⟨hX2, hD2⟩, ?_⟩
  go_frame
  clear hX1 hY1 hZ1 hW1 hD1 hb
  refine late_one (i := 5) (by kernel_rfl) (op_callG (some 18) rfl rfl (by first | rfl | kernel_rfl) rfl Tryz.func44 (by kernel_rfl) (by kernel_rfl) #[.func (.func 45) #[rv f] #[], rv i] rfl (F18.out u2) ?_)
  rintro e u3 ⟨rfl, hb⟩
  have hX3 := hX2.next hb
  have hY3 := hY2.next hb
  have hZ3 := hZ2.next hb
  have hW3 := hW2.trans (hb.mono hW2.size)
  have hD3 := hD2.next hb
  refine ⟨_, rfl, ⟨hX3, hD3⟩, ?_⟩
  go_frame
  clear hX2 hY2 hZ2 hW2 hD2 hb
  refine late_one (i := 6) (by kernel_rfl) (op_store_all rfl rfl rfl 26 (.tmp 4) (.tmp 18) rfl (w.heap.size + 1 + 1) _ [.bool false, .string ⟨#[]⟩, .string ⟨#[]⟩] [.bool r.neg, .string r.n, .string r.d] rfl rfl hZ3 rfl qr_size (List.forall_mem_cons.2 ⟨rfl, (List.forall_mem_cons.2 ⟨rfl, (List.forall_mem_cons.2 ⟨rfl, fun _ h => nomatch h⟩)⟩)⟩) ?_)
  intro w9 hk9 ho9
  have hX4 := ho9.blk hX3 (by omega)
  have hY4 := ho9.blk hY3 (by omega)
  have hZ4 := hk9
  have hW4 := hW3.trans (ho9.below (by omega))
  have hD4 := ho9.blk hD3 (by have := HG6.out; omega)
  refine ⟨⟨hX4, hD4⟩, ?_⟩
  go_frame
  clear hX3 hY3 hZ3 hW3 hD3 hk9 ho9
  refine late_take [] (i := 7) (some 5) rfl rfl (by first | rfl | kernel_rfl) (by kernel_rfl) (by kernel_rfl) (by kernel_rfl) (by kernel_rfl) (by kernel_rfl) (fun Ls W h => h) (.int .i64 0) (fun _ _ _ h => h) (fun Ls W hl0 hW => exec_assign _ rfl _ rfl) ⟨hX4, hD4⟩ ⟨hX4, hD4⟩ ?_
  refine late_done (by kernel_rfl) ?_ _
  go_frame
  have HX := Lib.hid hX4
  have HY := Lib.hid hY4
  have HZ := Lib.hid hZ4
  have HW := Lib.hid hW4
  have HD := Lib.hid hD4
  clear hX4 hY4 hZ4 hW4 hD4
  go_wp2_with fail
  exact bodyPost_ret (results_bt rfl _ _ (w.heap.size + 1 + 1) _ [.bool r.neg, .string r.n, .string r.d] (.int .i64 0) _ rfl rfl HZ.out Tryz.underlying26 rfl qr_size) rfl ⟨rfl, HW.out⟩
theorem Sz_inv {k : Nat} {q : Rat} (h : Sz k q) (h0 : q ≠ 0) : Sz k q⁻¹ := by
  have hq : q.num ≠ 0 := fun e => h0 (Rat.num_eq_zero.1 e)
  have h1 : q⁻¹.num.natAbs = q.den ∧ q⁻¹.den = q.num.natAbs := ⟨by rw [Rat.num_inv, Int.natAbs_mul, Int.natAbs_sign_of_ne_zero hq, Nat.one_mul, Int.natAbs_natCast], by rw [Rat.den_inv, if_neg hq]⟩
  unfold Sz
  rw [h1.1, h1.2]
  exact ⟨h.2, h.1⟩
theorem Div_any (x y : Rv) (w : World) (hx : szR 1000 x) (hy : szR 1000 y) (h0 : valR y ≠ 0) : Calls Tryz.prog 14 #[rv x, rv y] w fun e w' => e = .returned (.tuple #[rv (rt (valR x / valR y)), .int .i64 0]) ∧ Below w.heap.size w w' := by
  have sx := Sz_val x 1000 (by decide) hx.1 hx.2
  have sy := Sz_val y 1000 (by decide) hy.1 hy.2
  rw [Rat.div_def]
  refine Div_raw x y (fr (valR x)) (fr (valR y)) (fr (valR y)⁻¹) _ w (decide_eq_false (num_nil h0)) (fun W => read_q y W (Nat.le_trans hy.1 (by decide)) (Nat.le_trans hy.2 (by decide))) (fun W => read_q x W (Nat.le_trans hx.1 (by decide)) (Nat.le_trans hx.2 (by decide))) (fun W => qinv_any _ W h0) (fun W => qapply_any _ _ W (Sz_mono sx (by decide)) (Sz_mono (Sz_inv sy h0) (by decide)))
theorem Div_none (x y : Rv) (w : World) (hy : szR 1000 y) (h0 : valR y = 0) : Calls Tryz.prog 14 #[rv x, rv y] w fun e w' => e = .returned (.tuple #[rv (rt 0), .int .i64 1]) ∧ Below w.heap.size w w' := by
  rw [rt_zero]
  refine Div_zero x y (fr (valR y)) w (decide_eq_true ?_) (fun W => read_q y W (Nat.le_trans hy.1 (by decide)) (Nat.le_trans hy.2 (by decide)))
  rw [h0, fr_zero]
set_option maxRecDepth 100000 in
set_option maxHeartbeats 800000 in
theorem Make_far1 (m n : Int) (w : World) (h7 : (∀ W, Calls Tryz.prog 43 #[.int .i64 m] W fun e w' => e = .returned (.bool false) ∧ Below W.heap.size W w')) : Calls Tryz.prog 12 #[.int .i64 m, .int .i64 n] w fun e w' => e = .returned (.tuple #[rv zR, .int .i64 3]) ∧ Below w.heap.size w w' := by
  have F7 := Lib.hid h7
  clear h7
  obtain ⟨W1, hW1⟩ : ∃ W, W = w.alloc (.cells #[.bool false, .string ⟨#[]⟩, .string ⟨#[]⟩] 26) := ⟨_, rfl⟩
  have hb1 := (Below.refl w.heap.size w).alloc (Nat.le_refl _) (.cells #[.bool false, .string ⟨#[]⟩, .string ⟨#[]⟩] 26)
  have hz1 := Blk.new w 26 [.bool false, .string ⟨#[]⟩, .string ⟨#[]⟩]
  have HZ : Hid (Blk W1 w.heap.size 26 [.bool false, .string ⟨#[]⟩, .string ⟨#[]⟩]) := Lib.hid (by rw [hW1]; exact hz1)
  have HW : Hid (Below w.heap.size w W1) := Lib.hid (by rw [hW1]; exact hb1)
  clear hb1 hz1
  go_enter Tryz.func12, Tryz.ntmps12
  go_wp2_with fail
  rw [← hW1]
  clear hW1
  refine (F7.out _).mono ?_
  rintro e w1 ⟨rfl, hb⟩
  replace HZ := Lib.hid (HZ.out.next hb)
  replace HW := Lib.hid (HW.out.trans (hb.mono HW.out.size))
  clear hb
  go_wp2_with (first | (refine wpList_dst 14 rfl ?_; refine wpList_run 14 rfl rfl _ (exec_build0 26 rfl _ (qr_nil _)) ?_; go_frame) | (refine wpList_store_all rfl 26 (.tmp 4) (.tmp 14) rfl (w.heap.size) _ [.bool false, .string ⟨#[]⟩, .string ⟨#[]⟩] [.bool false, .string ⟨#[]⟩, .string ⟨#[]⟩] rfl rfl HZ.out rfl qr_size (List.forall_mem_cons.2 ⟨rfl, (List.forall_mem_cons.2 ⟨rfl, (List.forall_mem_cons.2 ⟨rfl, fun _ h => nomatch h⟩)⟩)⟩) ?_; intro w9 HK9 ho9; have HO9 := Lib.hid ho9; clear ho9))
  exact bodyPost_ret (results_bt rfl _ _ (w.heap.size) _ [.bool false, .string ⟨#[]⟩, .string ⟨#[]⟩] (.int .i64 3) _ rfl rfl HK9.out Tryz.underlying26 rfl qr_size) rfl ⟨rfl, HW.out.trans (HO9.out.below (by omega))⟩
set_option maxRecDepth 100000 in
set_option maxHeartbeats 800000 in
theorem Make_far2 (m n : Int) (w : World) (h7 : (∀ W, Calls Tryz.prog 43 #[.int .i64 m] W fun e w' => e = .returned (.bool true) ∧ Below W.heap.size W w')) (h11 : (∀ W, Calls Tryz.prog 43 #[.int .i64 n] W fun e w' => e = .returned (.bool false) ∧ Below W.heap.size W w')) : Calls Tryz.prog 12 #[.int .i64 m, .int .i64 n] w fun e w' => e = .returned (.tuple #[rv zR, .int .i64 3]) ∧ Below w.heap.size w w' := by
  have F7 := Lib.hid h7
  have F11 := Lib.hid h11
  clear h7 h11
  obtain ⟨W1, hW1⟩ : ∃ W, W = w.alloc (.cells #[.bool false, .string ⟨#[]⟩, .string ⟨#[]⟩] 26) := ⟨_, rfl⟩
  have hb1 := (Below.refl w.heap.size w).alloc (Nat.le_refl _) (.cells #[.bool false, .string ⟨#[]⟩, .string ⟨#[]⟩] 26)
  have hz1 := Blk.new w 26 [.bool false, .string ⟨#[]⟩, .string ⟨#[]⟩]
  have HZ : Hid (Blk W1 w.heap.size 26 [.bool false, .string ⟨#[]⟩, .string ⟨#[]⟩]) := Lib.hid (by rw [hW1]; exact hz1)
  have HW : Hid (Below w.heap.size w W1) := Lib.hid (by rw [hW1]; exact hb1)
  clear hb1 hz1
  go_enter Tryz.func12, Tryz.ntmps12
  go_wp2_with fail
  rw [← hW1]
  clear hW1
  refine (F7.out _).mono ?_
  rintro e w1 ⟨rfl, hb⟩
  replace HZ := Lib.hid (HZ.out.next hb)
  replace HW := Lib.hid (HW.out.trans (hb.mono HW.out.size))
  clear hb
  go_wp2_with fail
  refine (F11.out _).mono ?_
  rintro e w2 ⟨rfl, hb⟩
  replace HZ := Lib.hid (HZ.out.next hb)
  replace HW := Lib.hid (HW.out.trans (hb.mono HW.out.size))
  clear hb
  go_wp2_with (first | (refine wpList_dst 14 rfl ?_; refine wpList_run 14 rfl rfl _ (exec_build0 26 rfl _ (qr_nil _)) ?_; go_frame) | (refine wpList_store_all rfl 26 (.tmp 4) (.tmp 14) rfl (w.heap.size) _ [.bool false, .string ⟨#[]⟩, .string ⟨#[]⟩] [.bool false, .string ⟨#[]⟩, .string ⟨#[]⟩] rfl rfl HZ.out rfl qr_size (List.forall_mem_cons.2 ⟨rfl, (List.forall_mem_cons.2 ⟨rfl, (List.forall_mem_cons.2 ⟨rfl, fun _ h => nomatch h⟩)⟩)⟩) ?_; intro w9 HK9 ho9; have HO9 := Lib.hid ho9; clear ho9))
  exact bodyPost_ret (results_bt rfl _ _ (w.heap.size) _ [.bool false, .string ⟨#[]⟩, .string ⟨#[]⟩] (.int .i64 3) _ rfl rfl HK9.out Tryz.underlying26 rfl qr_size) rfl ⟨rfl, HW.out.trans (HO9.out.below (by omega))⟩
set_option maxRecDepth 100000 in
set_option maxHeartbeats 800000 in
theorem Make_raw (m n er : Int) (x y r : Rv) (w : World) (h7 : (∀ W, Calls Tryz.prog 43 #[.int .i64 m] W fun e w' => e = .returned (.bool true) ∧ Below W.heap.size W w')) (h11 : (∀ W, Calls Tryz.prog 43 #[.int .i64 n] W fun e w' => e = .returned (.bool true) ∧ Below W.heap.size W w')) (h16 : (∀ W, Calls Tryz.prog 25 #[.int .i64 m] W fun e w' => e = .returned (rv x) ∧ Below W.heap.size W w')) (h18 : (∀ W, Calls Tryz.prog 25 #[.int .i64 n] W fun e w' => e = .returned (rv y) ∧ Below W.heap.size W w')) (h19 : (∀ W, Calls Tryz.prog 14 #[rv x, rv y] W fun e w' => e = .returned (.tuple #[rv r, .int .i64 er]) ∧ Below W.heap.size W w')) : Calls Tryz.prog 12 #[.int .i64 m, .int .i64 n] w fun e w' => e = .returned (.tuple #[rv r, .int .i64 er]) ∧ Below w.heap.size w w' := by
  have F7 := Lib.hid h7
  have F11 := Lib.hid h11
  have F16 := Lib.hid h16
  have F18 := Lib.hid h18
  have F19 := Lib.hid h19
  clear h7 h11 h16 h18 h19
  obtain ⟨W1, hW1⟩ : ∃ W, W = w.alloc (.cells #[.bool false, .string ⟨#[]⟩, .string ⟨#[]⟩] 26) := ⟨_, rfl⟩
  have hb1 := (Below.refl w.heap.size w).alloc (Nat.le_refl _) (.cells #[.bool false, .string ⟨#[]⟩, .string ⟨#[]⟩] 26)
  have hz1 := Blk.new w 26 [.bool false, .string ⟨#[]⟩, .string ⟨#[]⟩]
  have HZ : Hid (Blk W1 w.heap.size 26 [.bool false, .string ⟨#[]⟩, .string ⟨#[]⟩]) := Lib.hid (by rw [hW1]; exact hz1)
  have HW : Hid (Below w.heap.size w W1) := Lib.hid (by rw [hW1]; exact hb1)
  clear hb1 hz1
  go_enter Tryz.func12, Tryz.ntmps12
  go_wp2_with fail
  rw [← hW1]
  clear hW1
  refine (F7.out _).mono ?_
  rintro e w1 ⟨rfl, hb⟩
  replace HZ := Lib.hid (HZ.out.next hb)
  replace HW := Lib.hid (HW.out.trans (hb.mono HW.out.size))
  clear hb
  go_wp2_with fail
  refine (F11.out _).mono ?_
  rintro e w2 ⟨rfl, hb⟩
  replace HZ := Lib.hid (HZ.out.next hb)
  replace HW := Lib.hid (HW.out.trans (hb.mono HW.out.size))
  clear hb
  go_wp2_with fail
  refine (F16.out _).mono ?_
  rintro e w3 ⟨rfl, hb⟩
  replace HZ := Lib.hid (HZ.out.next hb)
  replace HW := Lib.hid (HW.out.trans (hb.mono HW.out.size))
  clear hb
  go_wp2_with fail
  refine (F18.out _).mono ?_
  rintro e w4 ⟨rfl, hb⟩
  replace HZ := Lib.hid (HZ.out.next hb)
  replace HW := Lib.hid (HW.out.trans (hb.mono HW.out.size))
  clear hb
  go_wp2_with fail
  refine (F19.out _).mono ?_
  rintro e w5 ⟨rfl, hb⟩
  replace HZ := Lib.hid (HZ.out.next hb)
  replace HW := Lib.hid (HW.out.trans (hb.mono HW.out.size))
  clear hb
  go_wp2_with (first | (refine wpList_store_all rfl 26 (.tmp 4) (.tmp 20) rfl (w.heap.size) _ [.bool false, .string ⟨#[]⟩, .string ⟨#[]⟩] [.bool r.neg, .string r.n, .string r.d] rfl rfl HZ.out rfl qr_size (List.forall_mem_cons.2 ⟨rfl, (List.forall_mem_cons.2 ⟨rfl, (List.forall_mem_cons.2 ⟨rfl, fun _ h => nomatch h⟩)⟩)⟩) ?_; intro w9 HK9 ho9; have HO9 := Lib.hid ho9; clear ho9))
  exact bodyPost_ret (results_bt rfl _ _ (w.heap.size) _ [.bool r.neg, .string r.n, .string r.d] (.int .i64 er) _ rfl rfl HK9.out Tryz.underlying26 rfl qr_size) rfl ⟨rfl, HW.out.trans (HO9.out.below (by omega))⟩
def inB (n : Int) : Bool := decide (-999999999999999 ≤ n ∧ n ≤ 999999999999999)
theorem sz_int (n : Int) (h : inB n = true) : szR 1000 (rt (n : Rat)) := by
  have hn : -999999999999999 ≤ n ∧ n ≤ 999999999999999 := of_decide_eq_true h
  unfold rt
  split
  · exact ⟨Nat.zero_le _, Nat.zero_le _⟩
  · rw [fr_int]
    refine ⟨Nat.le_trans (cS_len (n := n.natAbs) (k := 8) (by omega)) (by decide), show (1 : Nat) ≤ 1000 by decide⟩
theorem Make_any (m n : Int) (w : World) (h1 : inB m = true) (h2 : inB n = true) (h0 : n ≠ 0) : Calls Tryz.prog 12 #[.int .i64 m, .int .i64 n] w fun e w' => e = .returned (.tuple #[rv (rt ((m : Rat) / (n : Rat))), .int .i64 0]) ∧ Below w.heap.size w w' := by
  have hm : -999999999999999 ≤ m ∧ m ≤ 999999999999999 := of_decide_eq_true h1
  have hn : -999999999999999 ≤ n ∧ n ≤ 999999999999999 := of_decide_eq_true h2
  refine Make_raw m n 0 (rt (m : Rat)) (rt (n : Rat)) _ w (fun W => ?_) (fun W => ?_) (fun W => Int_any m W hm) (fun W => Int_any n W hn) (fun W => ?_)
  · have := inRange_any m W
    rwa [decide_eq_true hm] at this
  · have := inRange_any n W
    rwa [decide_eq_true hn] at this
  · have hn0 : valR (rt (n : Rat)) ≠ 0 := by rw [val_rt]; exact fun e => h0 (by exact_mod_cast e)
    have := Div_any (rt (m : Rat)) (rt (n : Rat)) W (sz_int m h1) (sz_int n h2) hn0
    rwa [val_rt, val_rt] at this
theorem Make_zero (m : Int) (w : World) (h1 : inB m = true) : Calls Tryz.prog 12 #[.int .i64 m, .int .i64 0] w fun e w' => e = .returned (.tuple #[rv (rt 0), .int .i64 1]) ∧ Below w.heap.size w w' := by
  have hm : -999999999999999 ≤ m ∧ m ≤ 999999999999999 := of_decide_eq_true h1
  refine Make_raw m 0 1 (rt (m : Rat)) (rt ((0 : Int) : Rat)) _ w (fun W => ?_) (fun W => ?_) (fun W => Int_any m W hm) (fun W => Int_any 0 W (by decide)) (fun W => ?_)
  · have := inRange_any m W
    rwa [decide_eq_true hm] at this
  · exact inRange_any 0 W
  · exact Div_none (rt (m : Rat)) (rt ((0 : Int) : Rat)) W (sz_int 0 rfl) (by rw [val_rt]; rfl)
theorem Make_far (m n : Int) (w : World) (h : (inB m && inB n) = false) : Calls Tryz.prog 12 #[.int .i64 m, .int .i64 n] w fun e w' => e = .returned (.tuple #[rv (rt 0), .int .i64 3]) ∧ Below w.heap.size w w' := by
  rw [rt_zero]
  by_cases h1 : inB m = true
  · refine Make_far2 m n w (fun W => ?_) (fun W => ?_)
    · have := inRange_any m W
      rwa [show decide (-999999999999999 ≤ m ∧ m ≤ 999999999999999) = true from h1] at this
    · have := inRange_any n W
      rwa [show decide (-999999999999999 ≤ n ∧ n ≤ 999999999999999) = false from by rw [h1, Bool.true_and] at h; exact h] at this
  · rw [Bool.not_eq_true] at h1
    refine Make_far1 m n w (fun W => ?_)
    have := inRange_any m W
    rwa [show decide (-999999999999999 ≤ m ∧ m ≤ 999999999999999) = false from h1] at this
end Go.Proofs.YtpmlihhofmblpaaGreatDoor

/- Sum. -/
namespace Go.Proofs.YtpmlihhofmblpaaGreatDoor
open Go.RowKit Hm Wm Wn

theorem qf_info : (Tryz.prog.info? 47).map (fun i => (i.zero, i.size, i.bytes)) = some (some (.agg #[.bool false, .string ⟨#[]⟩, .string ⟨#[]⟩]), 3, 40) := by kernel_rfl
theorem madeCells_q (n : Nat) : madeCells #[.bool false, .string ⟨#[]⟩, .string ⟨#[]⟩] (n * 3) = (qL (List.replicate n zR)).toArray := by
  apply Array.ext
  · rw [size_madeCells, List.size_toArray, qL_len, List.length_replicate]
  · intro i h1 h2
    have h1' := h1
    rw [size_madeCells] at h1'
    have hk : i / 3 < (List.replicate n zR).length := by rw [List.length_replicate]; omega
    have hm := Nat.mod_lt i (show 0 < 3 by omega)
    have key : ∀ j, j < 3 → i = i / 3 * 3 + j → (madeCells #[.bool false, .string ⟨#[]⟩, .string ⟨#[]⟩] (n * 3))[i]? = (qL (List.replicate n zR))[i]? := by
      intro j hj e
      have e1 := qL_at (List.replicate n zR) hk j ((cQ zR)[j]'hj) (by rw [List.getElem_replicate]; exact List.getElem?_eq_getElem hj)
      rw [← e] at e1
      rw [e1]
      have hij : i % 3 = j := by omega
      simp [madeCells, h1', hij]
      match j, hj with
      | 0, _ => rfl
      | 1, _ => rfl
      | 2, _ => rfl
    have e := key (i % 3) hm (by omega)
    rw [Array.getElem?_eq_getElem h1, ← List.getElem?_toArray, Array.getElem?_eq_getElem h2] at e
    exact Option.some.inj e
theorem run_zerosQ (w : World) (n : Nat) (h : n ≤ 100000) : (Instr.makeSlice 74 (.int .i64 n) (.int .i64 n)).run Tryz.prog w = .ok (.slice (some ⟨w.heap.size, 0, none⟩) n n) (w.alloc (.cells (qL (List.replicate n zR)).toArray 47)) := by
  obtain ⟨i0, hi, hz0, hz1, hz2⟩ := info_parts qf_info
  have := run_make (P := Tryz.prog) w 74 47 i0 _ qfs_under hi hz0 .i64 .i64 n n (by omega) (by omega) (by rw [hz2]; omega) (by omega)
  rw [hz1, Int.toNat_natCast, show (Value.agg #[.bool false, .string ⟨#[]⟩, .string ⟨#[]⟩]).cells = #[.bool false, .string ⟨#[]⟩, .string ⟨#[]⟩] from rfl, madeCells_q] at this
  exact this
theorem wpList_makeQ {w : World} {ops : Array Oper} {rest : List Oper} {o : Oper} {a : Act} {Q : Exit → Act → World → Prop} (hgd : o.guard = none) (x y : Operand) (ho : o.op = .makeSlice 74 x y) (n : Nat) (hx : a.eval x = .int .i64 n) (hy : a.eval y = .int .i64 n) (hn : n ≤ 100000)
    (h : ∀ w', Hid (Blk w' w.heap.size 47 (qL (List.replicate n zR))) → Hid (Below w.heap.size w w') → wpList Tryz.prog ops Q rest (a.put o.dst (.slice (some ⟨w.heap.size, 0, none⟩) n n)) w') : wpList Tryz.prog ops Q (o :: rest) a w := by
  refine wpList_plain hgd fun K hK => ?_
  unfold Oper.wp
  rw [exec_makeSlice 74 x y ho _ _ _ hx hy (run_zerosQ w n hn)]
  exact hK _ _ (h _ (Lib.hid (Blk.new w 47 (qL (List.replicate n zR)))) (Lib.hid ((Below.refl _ _).alloc (Nat.le_refl _) _)))
theorem wpList_newR {w : World} {ops : Array Oper} {rest : List Oper} {o : Oper} {a : Act} {Q : Exit → Act → World → Prop} (hgd : o.guard = none) (ho : o.op = .alloc 26)
    (h : ∀ w', Hid (Blk w' w.heap.size 26 [.bool false, .string ⟨#[]⟩, .string ⟨#[]⟩]) → Hid (Below w.heap.size w w') → wpList Tryz.prog ops Q rest (a.put o.dst (.pointer (some ⟨w.heap.size, 0, none⟩))) w') : wpList Tryz.prog ops Q (o :: rest) a w :=
  wpList_alloc_zero hgd 26 ho [.bool false, .string ⟨#[]⟩, .string ⟨#[]⟩] qr_zero (h _ (Lib.hid (Blk.new w 26 [.bool false, .string ⟨#[]⟩, .string ⟨#[]⟩])) (Lib.hid ((Below.refl _ _).alloc (Nat.le_refl _) _)))
theorem qr_elem : Tryz.prog.elem 22 = 26 := by kernel_rfl
theorem qrs_under : Tryz.prog.underlying 22 = some (.slice 26) := Tryz.underlying22
theorem qr_under : Tryz.prog.underlying 26 = some (.struct (Tryz.prog.fieldsOf 26)) := by kernel_rfl
theorem qr_sizeOf (W : World) : (sizeOf 26).run Tryz.prog W = .ok 3 W := by
  cases hq : Tryz.prog.info? 26 with
  | none => have h := qr_size; rw [hq] at h; cases h
  | some i =>
    have h := qr_size
    rw [hq] at h
    have h2 : i.size = 3 := by simpa using h
    simp [sizeOf, typeInfo, hq, h2]
theorem run_atR (b off n c k : Nat) (hk : k < n) (W : World) : (Instr.indexAt 22 (.slice (some ⟨b, off, none⟩) n c) (.int .i64 k)).run Tryz.prog W = .ok (.pointer (some ⟨b, off + k * 3, none⟩)) W := by
  refine (run_indexAt_slice W 22 ⟨b, off, none⟩ n c .i64 k (by rw [qr_elem]; exact qrs_under)).trans ?_
  rw [if_pos ⟨by omega, by omega⟩, qr_elem, qr_sizeOf, Result.andThen_ok, Int.toNat_natCast, Addr.add_mid]
noncomputable def fv (x : Rv) : Rv := fr (valR x)
/-- The terms, some of them read. -/
noncomputable def half (l : List Rv) (k : Nat) : List Rv := (l.take k).map fv ++ List.replicate (l.length - k) zR
theorem half_len (l : List Rv) (k : Nat) (h : k ≤ l.length) : (half l k).length = l.length := by
  unfold half
  rw [List.length_append, List.length_map, List.length_take, List.length_replicate]
  omega
theorem half_zero (l : List Rv) : half l 0 = List.replicate l.length zR := by simp [half]
theorem half_full (l : List Rv) : half l l.length = l.map fv := by simp [half]
theorem half_set (l : List Rv) (k : Nat) (x : Rv) (h : l[k]? = some x) : splice (qL (half l k)) (0 + k * 3) (cQ (fv x)) = qL (half l (k + 1)) := by
  have hk : k < l.length := by
    rcases Nat.lt_or_ge k l.length with h1 | h1
    · exact h1
    · rw [List.getElem?_eq_none h1] at h; cases h
  have e1 : List.replicate (l.length - k) zR = [zR] ++ List.replicate (l.length - (k + 1)) zR := by
    rw [show l.length - k = (l.length - (k + 1)) + 1 from by omega, List.replicate_succ]; rfl
  have e2 : l.take (k + 1) = l.take k ++ [x] := by
    rw [List.take_add_one, h]; rfl
  have hl : (qL ((l.take k).map fv)).length = k * 3 := by rw [qL_len, List.length_map, List.length_take]; omega
  unfold half splice
  rw [e1, e2, List.map_append, qL_app, qL_app, qL_app, qL_app, Nat.zero_add]
  have h3 : (cQ (fv x)).length = 3 := rfl
  have h4 : (qL [zR]).length = 3 := rfl
  rw [List.take_append_of_le_length (by omega), List.take_of_length_le (by omega), h3]
  rw [show k * 3 + 3 = (qL ((l.take k).map fv)).length + 3 from by omega, List.drop_append, List.drop_of_length_le (by omega)]
  rw [show (qL ((l.take k).map fv)).length + 3 - (qL ((l.take k).map fv)).length = (qL [zR]).length from by omega, List.drop_left]
  rw [List.nil_append, List.append_assoc]
  rfl
theorem RdQ.only9 {W W' : World} {A : Option Addr} {l : List Rv} {g : Nat} (h : RdQ W A l) (ho : Only g W W') (hg : ∀ b off, A = some ⟨b, off, none⟩ → l ≠ [] → b < g) : RdQ W' A l := by
  intro hne
  obtain ⟨b, off, hA, hc⟩ := h hne
  refine ⟨b, off, hA, fun j u hu => ?_⟩
  have hl : l ≠ [] := fun e => hne (by rw [e]; rfl)
  rw [(ho.below (Nat.le_refl g)).cell (p := ⟨b, off + j, none⟩) (hg b off hA hl)]
  exact hc j u hu
set_option maxRecDepth 100000 in
set_option maxHeartbeats 1500000 in
theorem Sum_raw (A : Option Addr) (n c : Nat) (l : List Rv) (s r : Rv) (w : World) (hn : n ≤ 100000) (hc : n ≤ c) (hln : l.length = n) (hr : RdQ w A l)
    (h19 : ∀ x ∈ l, ∀ W, Calls Tryz.prog 26 #[rv x] W fun e w' => e = .returned (rv (fv x)) ∧ Below W.heap.size W w')
    (h23 : ∀ B W, RdQ W B (l.map fv) → Calls Tryz.prog 41 #[.slice B n n] W fun e w' => e = .returned (rv s) ∧ Below W.heap.size W w')
    (h24 : (∀ W, Calls Tryz.prog 37 #[rv s] W fun e w' => e = .returned (rv r) ∧ Below W.heap.size W w')) : Calls Tryz.prog 10 #[.slice A n c] w fun e w' => e = .returned (rv r) ∧ Below w.heap.size w w' := by
  have F19 := Lib.hid h19
  have F23 := Lib.hid h23
  have F24 := Lib.hid h24
  have HN := Lib.hid hn
  have HLN := Lib.hid hln
  have hAb : ∀ b off, A = some ⟨b, off, none⟩ → l ≠ [] → b < w.heap.size := fun b off hA hl => by
    have hp := List.length_pos_iff.2 hl
    obtain ⟨b', off', e, h2⟩ := hr.range (k := 0) hp
    rw [hA] at e
    injection e with e
    injection e with e1 e2
    subst e1
    exact World.block_lt_of_cell? w _ (h2 0 _ (show (cQ l[0])[0]? = some (.bool l[0].neg) from rfl))
  have HAB := Lib.hid hAb
  clear h19 h23 h24 hln hAb
  have HR0 := Lib.hid hr
  clear hr
  go_enter Tryz.func10, Tryz.ntmps10
  go_wp2_with (first | (refine wpList_new rfl 26 rfl [.bool false, .string ⟨#[]⟩, .string ⟨#[]⟩] qr_zero ?_; intro W1 HZ HW; have HL := Lib.hid (RdQ.below HR0.out HW.out)) | (refine wpList_makeQ rfl (.tmp 7) (.tmp 7) rfl n rfl rfl HN.out ?_; intro w2 HT HB; have hgt := HZ.out.lt; have HGT := Lib.hid hgt; clear hgt; replace HZ := Lib.hid (HZ.out.next HB.out); replace HW := Lib.hid (HW.out.trans (HB.out.mono HW.out.size)); replace HL := Lib.hid (HL.out.below HB.out); clear HB))
  clear HR0
  obtain ⟨gT, hgT⟩ : ∃ g, g = W1.heap.size := ⟨_, rfl⟩
  rw [← hgT] at HT HGT ⊢
  clear hgT
  rw [← HLN.out, ← half_zero] at HT
  go_loopw [11] (fun iv wr => ∃ k : Nat, iv = .int .i64 k ∧ k ≤ n ∧ Hid (Blk wr gT 47 (qL (half l k))) ∧ Hid (Blk wr w.heap.size 26 [.bool false, .string ⟨#[]⟩, .string ⟨#[]⟩]) ∧ Hid (RdQ wr A l) ∧ Hid (Below w.heap.size w wr)) (fun iv _ => n - (intOf iv).toNat)
  case atStart => exact ⟨0, rfl, Nat.zero_le _, HT, HZ, HL, HW⟩
  case round =>
    clear HT HZ HL HW
    obtain ⟨k, rfl, hk, HT, HZ, HL, HW⟩ := hrel
    by_cases hlt : k < n
    · have hlt2 : k < l.length := by rw [HLN.out]; exact hlt
      obtain ⟨x, hx⟩ : ∃ x, l[k]? = some x := ⟨l[k], List.getElem?_eq_getElem hlt2⟩
      obtain ⟨b, off, rfl, hrg⟩ := HL.out.range hlt2
      have hxe : l[k] = x := by
        have := hx
        rw [List.getElem?_eq_getElem hlt2] at this
        exact Option.some.inj this
      rw [hxe] at hrg
      have HX : Hid (wr.rangeAt b (off + k * 3) [.bool x.neg, .string x.n, .string x.d]) := Lib.hid hrg
      have F := Lib.hid (F19.out x (by rw [← hxe]; exact List.getElem_mem hlt2))
      have HXK := Lib.hid hx
      have HW0 : Hid (w.heap.size ≤ wr.heap.size) := Lib.hid HW.out.size
      have hbw := HAB.out b off rfl (List.length_pos_iff.1 (Nat.lt_of_le_of_lt (Nat.zero_le _) hlt2))
      have HG0 : Hid (∀ b' off', (some (⟨b, off, none⟩ : Addr)) = some ⟨b', off', none⟩ → l ≠ [] → b' < wr.heap.size) := Lib.hid (fun b' off' e _ => by injection e with e; injection e with e1 e2; have := HW0.out; omega)
      have HTN : Hid (∀ b' off', (some (⟨b, off, none⟩ : Addr)) = some ⟨b', off', none⟩ → l ≠ [] → b' < gT) := Lib.hid (fun b' off' e _ => by injection e with e; injection e with e1 e2; have := HGT.out; omega)
      have HFIT : Hid (0 + k * 3 + (cQ (fv x)).length ≤ (qL (half l k)).length) := Lib.hid (by rw [qL_len, half_len l k (by omega), HLN.out, show (cQ (fv x)).length = 3 from rfl]; omega)
      clear hx hxe hrg hlt2 hbw
      go_wp2_with (first | (refine wpList_dst 14 rfl ?_; refine wpList_run 14 rfl rfl _ (exec_indexAddr 22 (.tmp 9) (.tmp 11) rfl _ _ _ rfl rfl (run_atR b off n c k hlt _)) ?_; go_frame) | (refine wpList_dst 15 rfl ?_; refine wpList_run 15 rfl rfl _ (exec_load 26 (.tmp 14) rfl _ (rv x) rfl (run_loadAt_mid _ b (off + k * 3) _ [.bool x.neg, .string x.n, .string x.d] _ HX.out qr_under rfl qr_size)) ?_; go_frame) | (refine wpList_newR rfl rfl ?_; intro w3 H5 HB; have hg5 := HT.out.lt; have hg6 := HZ.out.lt; have HG5 := Lib.hid hg5; have HG6 := Lib.hid hg6; clear hg5 hg6; replace HZ := Lib.hid (HZ.out.next HB.out); replace HW := Lib.hid (HW.out.trans (HB.out.mono HW.out.size)); replace HL := Lib.hid (HL.out.below HB.out); replace HT := Lib.hid (HT.out.next HB.out); clear HB) | (refine wpList_store_all rfl 26 (.tmp 5) (.tmp 15) rfl (wr.heap.size) _ [.bool false, .string ⟨#[]⟩, .string ⟨#[]⟩] [.bool x.neg, .string x.n, .string x.d] rfl rfl H5.out rfl qr_size (List.forall_mem_cons.2 ⟨rfl, (List.forall_mem_cons.2 ⟨rfl, (List.forall_mem_cons.2 ⟨rfl, fun _ h => nomatch h⟩)⟩)⟩) ?_; intro w4 HK5 ho; replace HZ := Lib.hid (ho.blk HZ.out (by have := HG6.out; omega)); replace HT := Lib.hid (ho.blk HT.out (by have := HG5.out; omega)); replace HW := Lib.hid (HW.out.trans (ho.below HW0.out)); replace HL := Lib.hid (HL.out.only9 ho HG0.out); replace H5 := HK5; clear HK5 ho) | (refine wpList_dst 18 rfl ?_; refine wpList_run 18 rfl rfl _ (exec_load 26 (.tmp 5) rfl _ (rv x) rfl (run_load_part _ 26 _ 0 3 _ [.bool x.neg, .string x.n, .string x.d] _ H5.out (by simp) Tryz.underlying26 rfl qr_size)) ?_; go_frame))
      refine (F.out _).mono ?_
      rintro e w5 ⟨rfl, hb⟩
      replace HZ := Lib.hid (HZ.out.next hb)
      replace HW := Lib.hid (HW.out.trans (hb.mono HW.out.size))
      replace HL := Lib.hid (HL.out.below hb)
      replace HT := Lib.hid (HT.out.next hb)
      clear hb H5
      go_wp2_with (first | (refine wpList_dst 20 rfl ?_; refine wpList_run 20 rfl rfl _ (exec_indexAddr 74 (.tmp 16) (.tmp 17) rfl _ _ _ rfl rfl (run_atQ gT 0 n n k hlt _)) ?_; go_frame) | (refine wpList_store_part rfl 47 (.tmp 20) (.tmp 19) rfl gT (0 + k * 3) _ (qL (half l k)) (cQ (fv x)) rfl rfl HT.out HFIT.out qf_size (List.forall_mem_cons.2 ⟨rfl, (List.forall_mem_cons.2 ⟨rfl, (List.forall_mem_cons.2 ⟨rfl, fun _ h => nomatch h⟩)⟩)⟩) ?_; intro w6 HK6 ho; rw [half_set l k x HXK.out] at HK6; replace HZ := Lib.hid (ho.blk HZ.out (by have := HGT.out; omega)); replace HW := Lib.hid (HW.out.trans (ho.below (by have := HGT.out; omega))); replace HL := Lib.hid (HL.out.only9 ho HTN.out); replace HT := HK6; clear HK6 ho))
      go_roundw
      case rel => exact ⟨k + 1, by go_num, by omega, HT, HZ, HL, HW⟩
      case measure => simp [intOf]; omega
    · obtain rfl : k = n := by omega
      have hfull : half l k = l.map fv := by rw [← HLN.out]; exact half_full l
      rw [hfull] at HT
      have HR : Hid (RdQ wr (some ⟨gT, 0, none⟩) (l.map fv)) := Lib.hid (fun _ => ⟨gT, 0, rfl, fun j u hu => by rw [Nat.zero_add, HT.out.cell j]; exact hu⟩)
      clear hfull
      go_wp2_with fail
      refine (F23.out _ _ HR.out).mono ?_
      rintro e w7 ⟨rfl, hb⟩
      replace HZ := Lib.hid (HZ.out.next hb)
      replace HW := Lib.hid (HW.out.trans (hb.mono HW.out.size))
      clear hb
      go_wp2_with fail
      refine (F24.out _).mono ?_
      rintro e w8 ⟨rfl, hb⟩
      replace HZ := Lib.hid (HZ.out.next hb)
      replace HW := Lib.hid (HW.out.trans (hb.mono HW.out.size))
      clear hb
      go_wp2_with (first | (refine wpList_store_all rfl 26 (.tmp 2) (.tmp 24) rfl (w.heap.size) _ [.bool false, .string ⟨#[]⟩, .string ⟨#[]⟩] [.bool r.neg, .string r.n, .string r.d] rfl rfl HZ.out rfl qr_size (List.forall_mem_cons.2 ⟨rfl, (List.forall_mem_cons.2 ⟨rfl, (List.forall_mem_cons.2 ⟨rfl, fun _ h => nomatch h⟩)⟩)⟩) ?_; intro w9 HK9 ho9; have HO9 := Lib.hid ho9; clear ho9))
      exact bodyPost_ret (results_blk rfl _ _ (w.heap.size) _ [.bool r.neg, .string r.n, .string r.d] _ rfl HK9.out Tryz.underlying26 rfl qr_size) rfl ⟨rfl, HW.out.trans (HO9.out.below (by omega))⟩
theorem Sum_any (K : Nat) (l : List Rv) (A : Option Addr) (c : Nat) (w : World) (hK : 1 ≤ K) (hK2 : K ≤ 1000) (hb : l.length * (K + 1) ≤ 9000) (hc : l.length ≤ c) (hs : ∀ x ∈ l, szR K x) (hr : RdQ w A l) :
    Calls Tryz.prog 10 #[.slice A l.length c] w fun e w' => e = .returned (rv (rt (sumQ (l.map valR)))) ∧ Below w.heap.size w w' := by
  have hn : l.length ≤ 9000 := Nat.le_trans (Nat.le_mul_of_pos_right _ (by omega)) hb
  refine Sum_raw A l.length c l (fr (sumQ (l.map valR))) _ w (by omega) hc rfl hr (fun x hx W => read_q x W (by have := (hs x hx).1; omega) (by have := (hs x hx).2; omega)) (fun B W hB => ?_) (fun W => qratv_any _ W)
  refine qsumv_any K hK l.length hb (l.map valR) B l.length W (by rw [List.length_map]) (Nat.le_refl _) ?_ hK2 ?_
  · intro q hq
    obtain ⟨x, hx, rfl⟩ := List.mem_map.1 hq
    exact Sz_val x K hK (hs x hx).1 (hs x hx).2
  · rw [List.map_map]; exact hB
end Go.Proofs.YtpmlihhofmblpaaGreatDoor
