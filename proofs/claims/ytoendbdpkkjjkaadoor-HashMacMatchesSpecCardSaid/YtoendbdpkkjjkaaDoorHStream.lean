/- Streams: Begin, Add. -/
import Derived.Test.YtoendbdpkkjjkaaDoorHAddS
namespace Go.Proofs.YtoendbdpkkjjkaaDoor
open Go.RowKit Hm

/-- The cells of a stream whose message is m. -/
def Sm (cs : List Value) (m : List UInt8) : Prop := ∃ v r, StOf v r m ∧ cs = smc v r m.length
theorem Sm.len {cs : List Value} {m : List UInt8} (h : Sm cs m) : cs.length = 73 := by
  obtain ⟨v, r, hs, rfl⟩ := h
  exact smc_len _ _ _ hs.len
theorem Sm.one {cs : List Value} {m : List UInt8} (h : Sm cs m) : ∀ u ∈ cs, u.oneCell' = true := by
  obtain ⟨v, r, hs, rfl⟩ := h
  exact smc_one _ _ _
theorem Sm.size_ {cs : List Value} {m : List UInt8} (h : Sm cs m) : (Tryd.prog.info? 36).map (·.size) = some cs.length := by rw [sm_size, h.len]
theorem Sm.at_ {cs : List Value} {m : List UInt8} (h : Sm cs m) : cs[72]? = some (.int .u64 m.length) := by
  obtain ⟨v, r, hs, rfl⟩ := h
  exact smc_at _ _ _ hs.len

theorem addB (cs : List Value) (m : List UInt8) (A : Option Addr) (c : Nat) (t : List UInt8) (w : World) (h : Sm cs m) (hg : Glob w) (hr : Rd w A (bc t)) (hc : t.length ≤ c) (hlen : m.length + t.length ≤ 1099511627776) :
    Calls Tryd.prog 35 #[.agg cs.toArray, .slice A t.length c] w fun e w' => ∃ cs', Sm cs' (m ++ t) ∧ e = .returned (.agg cs'.toArray) ∧ Below w.heap.size w w' := by
  obtain ⟨v, r, hs, rfl⟩ := h
  exact (addB_any v r m A c t w hs hg hr hc hlen).mono fun _ _ ⟨v', r', h1, h2, h3⟩ => ⟨_, ⟨v', r', h1, rfl⟩, h2, h3⟩
theorem addS (cs : List Value) (m : List UInt8) (s : ByteArray) (w : World) (h : Sm cs m) (hg : Glob w) (hlen : m.length + s.size ≤ 1099511627776) :
    Calls Tryd.prog 39 #[.agg cs.toArray, .string s] w fun e w' => ∃ cs', Sm cs' (m ++ s.data.toList) ∧ e = .returned (.agg cs'.toArray) ∧ Below w.heap.size w w' := by
  obtain ⟨v, r, hs, rfl⟩ := h
  exact (addS_any v r m s w hs hg hlen).mono fun _ _ ⟨v', r', h1, h2, h3⟩ => ⟨_, ⟨v', r', h1, rfl⟩, h2, h3⟩

def sm0 : List Value := smc ini (List.replicate 64 0) 0
theorem sm0_is : Sm sm0 [] := ⟨ini, List.replicate 64 0, StOf.begin_ _ rfl, rfl⟩
theorem run_build_sm (w : World) : (Instr.build 36 #[(0, .agg (wc ini.toL).toArray)]).run Tryd.prog w = .ok (.agg sm0.toArray) w := by kernel_rfl

set_option maxRecDepth 100000 in
set_option maxHeartbeats 400000 in
theorem begin_any (w : World) (hg : Glob w) : Calls Tryd.prog 16 #[] w fun e w' => ∃ cs, Sm cs [] ∧ e = .returned (.agg cs.toArray) ∧ Below w.heap.size w w' := by
  have HB := Lib.hid (Blk.new w 36 zs)
  have hb := (Below.refl w.heap.size w).alloc (Nat.le_refl _) (.cells zs.toArray 36)
  have HG := Lib.hid (range_below' hg.ini hb)
  have HBW := Lib.hid hb
  clear hg hb
  go_enter Tryd.func16, Tryd.ntmps16
  go_wp2_with (first | (refine wpList_alloc_zero rfl 36 rfl zs sm_zero ?_) | (refine wpList_load_mid rfl _ (.global 1) rfl 1 0 rfl (wc ini.toL) _ HG.out st_under rfl (by rw [st_size, wc_len, H8.toL_len]) ?_) | (refine wpList_build rfl 36 #[(0, .tmp 1)] rfl #[(0, .agg (wc ini.toL).toArray)] rfl _ (run_build_sm _) ?_) | (refine wpList_store_all rfl _ (.tmp 0) (.tmp 2) rfl w.heap.size _ zs sm0 rfl rfl HB.out (by rw [zs_len, sm0_is.len]) sm0_is.size_ sm0_is.one ?_; intro w3 HB3 ho3))
  exact bodyPost_ret (results_blk rfl _ _ w.heap.size _ sm0 _ rfl HB3.out Tryd.underlying36 rfl sm0_is.size_) rfl ⟨sm0, sm0_is, rfl, HBW.out.trans (ho3.below (Nat.le_refl _))⟩

set_option maxRecDepth 100000 in
set_option maxHeartbeats 400000 in
theorem streamAdd_any (cs : List Value) (m : List UInt8) (s : ByteArray) (w : World) (h : Sm cs m) (hg : Glob w) (hlen : m.length + s.size ≤ 1099511627776) :
    Calls Tryd.prog 17 #[.agg cs.toArray, .string s] w fun e w' => ∃ cs', Sm cs' (m ++ s.data.toList) ∧ e = .returned (.agg cs'.toArray) ∧ Below w.heap.size w w' := by
  have HS := Lib.hid h
  have HB0 := Lib.hid ((Blk.new w 36 cs).alloc (.cells zs.toArray 36))
  have HB1 := Lib.hid (Blk.new (w.alloc (.cells cs.toArray 36)) 36 zs)
  have hb := ((Below.refl w.heap.size w).alloc (Nat.le_refl _) (.cells cs.toArray 36)).alloc (by simp) (.cells zs.toArray 36)
  have HG := Lib.hid (hg.next hb)
  have HBW := Lib.hid hb
  have HL := Lib.hid hlen
  clear h hg hb hlen
  go_enter Tryd.func17, Tryd.ntmps17
  go_wp2_with (first | (refine wpList_alloc_zero rfl 36 rfl zs sm_zero ?_) | (refine wpList_load_all rfl _ (.tmp 2) rfl w.heap.size _ cs _ rfl HB0.out Tryd.underlying36 rfl HS.out.size_ ?_))
  refine (addS cs m s _ HS.out HG.out HL.out).mono ?_
  rintro e w2 ⟨cs', hs', rfl, hb2⟩
  have HS' := Lib.hid hs'
  have K1 := Lib.hid (HB1.out.next hb2)
  have KB := Lib.hid (HBW.out.trans (hb2.mono HBW.out.size))
  clear hs' hb2
  go_wp2_with (refine wpList_store_all rfl _ (.tmp 4) (.tmp 7) rfl (w.heap.size + 1) _ zs cs' rfl rfl (by have h := K1.out; rw [size_alloc] at h; exact h) (by rw [zs_len, HS'.out.len]) HS'.out.size_ HS'.out.one ?_; intro w3 HB3 ho3)
  exact bodyPost_ret (results_blk rfl _ _ (w.heap.size + 1) _ cs' _ rfl HB3.out Tryd.underlying36 rfl HS'.out.size_) rfl ⟨cs', HS'.out, rfl, KB.out.trans (ho3.below (by omega))⟩
end Go.Proofs.YtoendbdpkkjjkaaDoor
