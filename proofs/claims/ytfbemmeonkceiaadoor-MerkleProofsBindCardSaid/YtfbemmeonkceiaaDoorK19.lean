/- slices.Backward at digests: its contract. -/
import Derived.Test.YtfbemmeonkceiaaDoorK18
import Derived.RangeFuncNested
import Derived.RangeFuncBound
import Derived.RangeFuncCalls
import Derived.RangeFuncLeaves
import Derived.Shelf.Abstract
import Derived.Shelf.RegionOpen
import Derived.OwnWalkIn
import Derived.TacticsInMore
import Derived.LoopNIn
import Derived.LoopIn
namespace Go.Proofs.YtfbemmeonkceiaaDoor
open Go.RowKit Hm Wm
attribute [local go_sem] Oper.semAt_some

/-- What has come when the positions from r on are over, the last first. -/
def bk (l : List Dg) (r : Nat) : List (Nat × Dg) := ((l.zipIdx).drop r).reverse.map fun p => (p.2, p.1)
theorem bk_step (l : List Dg) {r : Nat} (h : r < l.length) : bk l r = bk l (r + 1) ++ [(r, l[r])] := by
  unfold bk
  rw [List.drop_eq_getElem_cons (by simpa using h), List.reverse_cons, List.map_append]
  simp
theorem bk_end (l : List Dg) : bk l l.length = [] := by
  unfold bk
  rw [List.drop_of_length_le (by simp)]; rfl
theorem bk_len (l : List Dg) (r : Nat) : (bk l r).length = l.length - r := by simp [bk]
noncomputable def joinD (l : List Dg) (last : Dg) : Dg := l.foldr nodeD last
theorem bk_join (l : List Dg) (last : Dg) : (bk l 0).foldl (fun acc x => nodeD x.2 acc) last = joinD l last := by
  unfold bk joinD
  rw [List.drop_zero, List.foldl_map, List.foldl_reverse]
  have : l = (l.zipIdx).map (·.1) := by simp
  conv => rhs; rw [this, List.foldr_map]

theorem wpListIn_loadD {F : Fence} {n : Nat} {w : World} {ops : Array Oper} {rest : List Oper} {o : Oper} {a : Act} {Q : Exit → Act → World → Prop} (hg : o.guard = none) (x : Operand) (hop : o.op = .load 31 x)
    (b off : Nat) (hx : a.eval x = .pointer (some ⟨b, off, none⟩)) (d : Dg) (hc : w.rangeAt b off (dc d))
    (hK : wpListIn F n Tryd.prog ops Q rest (a.put o.dst (dv d)) w) : wpListIn F n Tryd.prog ops Q (o :: rest) a w := by
  have hrun := run_loadAt_mid (P := Tryd.prog) w b off 31 (dc d) _ hc dg_under rfl (dd_size d)
  refine wpListIn_plain hg fun K' hK' => ?_
  unfold Oper.wpIn
  refine ⟨by simp [Oper.about, hop], ?_⟩
  rw [Oper.semAt_plain F _ _ (by rw [hop]; intro c hc'; cases hc')]
  simp [execOp, hop, hx, hrun, Result.andThen]
  exact hK' _ _ hK

theorem RdD.same {w w' : World} {A : Option Addr} {l : List Dg} (h : RdD w A l) (hb : ∀ k, k < w.heap.size → w'.heap[k]? = w.heap[k]?) : RdD w' A l := fun hne => by
  obtain ⟨b, off, hA, hc⟩ := h hne
  refine ⟨b, off, hA, fun k u hu => ?_⟩
  have h1 := hc k u hu
  rw [World.cell?_of_block (w := w) (hb b (World.block_lt_of_cell? w _ h1))]; exact h1

set_option maxRecDepth 100000 in
set_option maxHeartbeats 2000000 in
theorem back_in (F : Fence) (n : Nat) (hF : F.fn 90) (hro : F.round = none) (hn : 1 ≤ n) (lp Bs N ga : Nat) (w0 : World) (A : Option Addr) (c : Nat) (l : List Dg) (hl : l.length ≤ 2 ^ 41) (hr : RdD w0 A l) (hN : w0.heap.size ≤ N) (hga : w0.heap.size ≤ ga) (hBN : Bs < N) (hBg : Bs ≠ ga) (J Jx : List (Nat × Dg) → World → Prop)
    (hY : ∀ pre x W, J pre W → pre.length < l.length → YieldAt F (n - 1) Tryd.prog lp #[.int .i64 (x.1 : Int), dv x.2] W fun e W' =>
      (e = .returned (.bool true) ∧ J (pre ++ [x]) W' ∧ Turn N ga W W') ∨ (e = .returned (.bool false) ∧ Jx (pre ++ [x]) W'))
    (W : World) (hBs : Blk W Bs 22 [.slice A l.length c]) (hb : Below w0.heap.size w0 W) (h0 : J [] W) :
    CallsIn F n Tryd.prog 90 #[.func (.yield lp) #[] #[], .pointer (some ⟨Bs, 0, none⟩)] W fun e W' => (∃ v, e = .returned v) ∧
      ((∃ ys, ys = bk l 0 ∧ J ys W') ∨ (∃ pre, True ∧ Jx pre W')) := by
  have hBc : W.cell? ⟨Bs, 0, none⟩ = some (.slice A l.length c) := hBs.cell 0
  refine callsIn_of_wp Tryd.func90 rfl hF ?_ hro
  simp only [Tryd.ntmps90, List.size_toArray, List.length_cons, List.length_nil, Nat.reduceAdd, Nat.reduceSub, Array.replicate_succ, Array.replicate_zero, List.push_toArray, List.append_toArray, List.nil_append, List.cons_append]
  gi_wp2
  gi_loopw [3] (fun i wr => ∃ r : Nat, r ≤ l.length ∧ i = .int .i64 ((r : Int) - 1) ∧ J (bk l r) wr ∧ Turn N ga W wr)
    (fun i _ => (intOf i + 1).toNat)
  case atStart => exact ⟨l.length, Nat.le_refl _, rfl, by rw [bk_end]; exact h0, Turn.refl _ _ _⟩
  case round =>
    obtain ⟨r, hk, rfl, hJs, hnx⟩ := hrel
    have hcs : wr.cell? ⟨Bs, 0, none⟩ = some (.slice A l.length c) := (hnx.blk hBs hBN hBg).cell 0
    by_cases hlt : 1 ≤ r
    · obtain ⟨k, rfl⟩ : ∃ k, r = k + 1 := ⟨r - 1, by omega⟩
      have hkl : k < l.length := by omega
      have hrr : RdD wr A l := hr.same fun k hk => (hnx.2 k (by omega) (by omega)).trans (hb.block k hk)
      obtain ⟨b, off, rfl, hcell⟩ := hrr.range hkl
      obtain ⟨fn, tmps, assign, body, hy, hR⟩ := hY _ (k, l[k]) wr hJs (by rw [bk_len]; omega)
      dsimp only at hy
      have hst := bk_step l hkl
      generalize l[k] = d at hy hR hst hcell
      have hz1 : (((k + 1 : Nat) : Int) - 1) = (k : Int) := by omega
      rw [hz1]
      have hge : decide ((0 : Int) ≤ (k : Int)) = true := decide_eq_true (by omega)
      have hlen : l.length ≤ 2 ^ 41 := hl
      clear hBs hBc hrr hr
      gi_wp2_with (refine wpListIn_loadD rfl (.tmp 15) rfl b (off + k * 16) rfl d hcell ?_)
      refine hR.mono ?_
      rintro e W3 (⟨rfl, hJ3, hk3⟩ | ⟨rfl, hJx3⟩)
      · gi_wp2
        go_roundw
        case rel => exact ⟨k, by omega, by simp, by rw [hst]; exact hJ3, hnx.trans hk3⟩
        case measure => simp [intOf]
      · gi_wp2
        refine bodyPost_ret (results_none rfl _ _ _) rfl ?_
        exact ⟨⟨_, rfl⟩, .inr ⟨_, trivial, hJx3⟩⟩
    · obtain rfl : r = 0 := by omega
      gi_wp2
      go_end0
      exact ⟨⟨_, rfl⟩, .inl ⟨_, rfl, hJs⟩⟩
/-- slices.Backward(s) hands back a value that goes through s, the last first. -/
theorem back_stops (F : Fence) (n : Nat) (hF : F.fn 90) (hro : F.round = none) (hn : 1 ≤ n) (Bs N ga : Nat) (w0 : World) (A : Option Addr) (c : Nat) (l : List Dg) (hl : l.length ≤ 2 ^ 41) (hr : RdD w0 A l) (hN : w0.heap.size ≤ N) (hga : w0.heap.size ≤ ga) (hBN : Bs < N) (hBg : Bs ≠ ga) (w : World) (hb : Below w0.heap.size w0 w) (hBs : Blk w Bs 22 [.slice A l.length c]) :
    SeqStopsK F n Tryd.prog 90 #[.pointer (some ⟨Bs, 0, none⟩)] (fun x : Nat × Dg => #[Value.int .i64 (x.1 : Int), dv x.2]) (Turn N ga) (fun ys => ys = bk l 0) (fun _ => True) l.length w :=
  fun lp J Jx W hW _ _ hY h0 => back_in F n hF hro hn lp Bs N ga w0 A c l hl hr hN hga hBN hBg J Jx hY W (hBs.next hW) (hb.trans (hW.mono hb.size)) h0
end Go.Proofs.YtfbemmeonkceiaaDoor
