/- What the laws need besides: variables that hold arrays; sanity's contract. -/
import Derived.Test.YtoendbdpkkjjkaaDoorHEq
import Derived.Test.YtoendbdpkkjjkaaDoorHExpN
import Derived.Lib.SlBytesConst
namespace Go.Proofs.YtoendbdpkkjjkaaDoor
open Go.RowKit Hm Wm

section
variable {P : Program}
/-- A variable is made and filled at once. -/
theorem wpList_var {w : World} {ops : Array Oper} {rest : List Oper} {o1 o2 : Oper} {a : Act} {Q : Exit → Act → World → Prop} (h1 : o1.guard = none) (h2 : o2.guard = none) (t : TypeId) (d : Tmp) (hd : o1.dst = some d) (hn : o2.dst = none) (ho1 : o1.op = .alloc t)
    (y : Operand) (ho2 : o2.op = .store t (.tmp d) y) (Z cells : List Value) (hz : (P.info? t).map (·.zero) = some (some (.agg Z.toArray))) (hx : (a.put (some d) (.pointer (some ⟨w.heap.size, 0, none⟩))).eval (.tmp d) = .pointer (some ⟨w.heap.size, 0, none⟩))
    (hy : (a.put (some d) (.pointer (some ⟨w.heap.size, 0, none⟩))).eval y = .agg cells.toArray) (hl : cells.length = Z.length) (hs : (P.info? t).map (·.size) = some cells.length) (hone : ∀ v ∈ cells, v.oneCell' = true)
    (h : ∀ w', Hid (Blk w' w.heap.size t cells) → Hid (Below w.heap.size w w') → wpList P ops Q rest ((a.put (some d) (.pointer (some ⟨w.heap.size, 0, none⟩))).put none undef) w') : wpList P ops Q (o1 :: o2 :: rest) a w := by
  refine wpList_alloc_zero h1 t ho1 Z hz ?_
  rw [hd]
  refine wpList_store_all h2 t (.tmp d) y ho2 w.heap.size t Z cells hx hy (Blk.new w t Z) hl hs hone ?_
  intro w' hb ho
  rw [hn]
  exact h w' hb (Lib.hid (((Below.refl w.heap.size w).alloc (Nat.le_refl _) _).trans (ho.below (Nat.le_refl _))))
/-- A whole variable is loaded where a guard says yes. -/
theorem wpList_want {ops : Array Oper} {rest : List Oper} {o : Oper} {a : Act} {w : World} {Q : Exit → Act → World → Prop} (hw : Region.wanted o (yielded ops a.tmps) = true)
    (h : ∀ K : Act → World → Prop, (∀ a w, wpList P ops Q rest a w → K a w) → o.wp P a w K Q) : wpList P ops Q (o :: rest) a w :=
  wpList_step fun K hK => by simp only [hw, if_true]; exact h K hK
theorem wpList_loadG {w : World} {ops : Array Oper} {rest : List Oper} {op : Oper} {a : Act} {Q : Exit → Act → World → Prop} (hw : Region.wanted op (yielded ops a.tmps) = true) (ty : TypeId) (x : Operand) (ho : op.op = .load ty x)
    (g : Nat) (t : TypeId) (cs : List Value) (d : TypeDesc) (hx : a.eval x = .pointer (some ⟨g, 0, none⟩)) (hb : Blk w g t cs) (hu : P.underlying ty = some d) (hd : d.isRow = true)
    (hi : (P.info? ty).map (·.size) = some cs.length)
    (h : wpList P ops Q rest (a.put op.dst (.agg cs.toArray)) w) : wpList P ops Q (op :: rest) a w :=
  wpList_want hw fun _ hK => wp_load_mid ty x ho g 0 hx cs d (by have := hb.range 0 cs.length; simpa using this) hu hd hi (hK _ _ h)
end
theorem glob_new {w : World} (h : Glob w) (o : Obj) : Glob (w.alloc o) := h.next ((Below.refl _ _).alloc (Nat.le_refl _) o)

theorem rd_fr (w : World) (C : Array Value) (cs : List Value) (t : TypeId) (fr : Nat × Nat) (h : C = cs.toArray) : Rd (w.alloc (.cells C t fr)) (some ⟨w.heap.size, 0, none⟩) cs := fun _ => by
  subst h
  refine ⟨w.heap.size, 0, rfl, fun k u hu => ?_⟩
  rw [cell_of_row _ w.heap.size (0 + k) _ t fr (heap_alloc_new w _)]
  simpa using hu

set_option maxRecDepth 1000000 in
set_option maxHeartbeats 4000000 in
theorem hsanity_any (w : World) (hg : Glob w) : Calls Tryd.prog 12 #[] w fun e w' => e = .returned (.bool true) ∧ Below w.heap.size w w' := by
  have HG := Lib.hid hg
  clear hg
  have hcv := fun (w : World) (C : Array Value) (n c : Nat) => Lib.run_convert_bytes_const (P := Tryd.prog) w 22 5 C n c Tryd.underlying22 Tryd.underlying5
  go_enter Tryd.func12, Tryd.ntmps12
  go_wp2_with fail
  refine (sum_any (some ⟨w.heap.size, 0, none⟩) 3 [97, 98, 99] _ (glob_new HG.out _) (rd_fr _ _ _ _ _ rfl) (by simp) (by simp)).mono ?_
  rintro e w1 ⟨rfl, hb1⟩
  have G1 := Lib.hid ((glob_new HG.out _).next hb1)
  have B1 := Lib.hid (((Below.refl w.heap.size w).alloc (Nat.le_refl _) (.cells #[.int .u8 97, .int .u8 98, .int .u8 99] 5 (3, 4))).trans (hb1.mono (by simp)))
  clear hb1 HG
  obtain ⟨s1, hs1⟩ : ∃ s1, Hm.sum [97, 98, 99] = s1 := ⟨_, rfl⟩
  have hl1 : s1.length = 32 := by rw [← hs1, sum_len]
  have H1 := Lib.hid hs1
  have L1 := Lib.hid hl1
  rw [hs1]
  clear hs1 hl1
  go_wp2_with (refine wpList_var rfl rfl 24 1 rfl rfl rfl (.tmp 7) rfl (zb 32) (bc s1) a32_zero rfl rfl (by rw [bc_len, zb_len, L1.out]) (by rw [a32_size, bc_len, L1.out]) (bc_one _) ?_; intro w2 K2 D2)
  clear hcv
  have G2 := Lib.hid (G1.out.next D2.out)
  have B2 := Lib.hid (B1.out.trans (D2.out.mono B1.out.size))
  clear G1 B1
  refine (begin_any _ G2.out).mono ?_
  rintro e w3 ⟨cs3, hs3, rfl, hb3⟩
  have G3 := Lib.hid (G2.out.next hb3)
  have K3 := Lib.hid (K2.out.next hb3)
  have B3 := Lib.hid (B2.out.trans (hb3.mono B2.out.size))
  have S3 := Lib.hid hs3
  clear hb3 hs3 G2 B2 K2 D2
  go_wp2_with fail
  refine (streamAdd_any cs3 [] { data := #[97] } w3 S3.out G3.out (by decide)).mono ?_
  rintro e w4 ⟨cs4, hs4, rfl, hb4⟩
  have G4 := Lib.hid (G3.out.next hb4)
  have K4 := Lib.hid (K3.out.next hb4)
  have B4 := Lib.hid (B3.out.trans (hb4.mono B3.out.size))
  have S4 : Hid (Sm cs4 [97]) := hs4
  clear hb4 hs4 G3 B3 K3 S3
  go_wp2_with fail
  refine (streamAdd_any cs4 [97] { data := #[98, 99] } w4 S4.out G4.out (by decide)).mono ?_
  rintro e w5 ⟨cs5, hs5, rfl, hb5⟩
  have G5 := Lib.hid (G4.out.next hb5)
  have K5 := Lib.hid (K4.out.next hb5)
  have B5 := Lib.hid (B4.out.trans (hb5.mono B4.out.size))
  have S5 : Hid (Sm cs5 [97, 98, 99]) := hs5
  clear hb5 hs5 G4 B4 K4 S4
  go_wp2_with fail
  refine (streamSum_any cs5 [97, 98, 99] w5 S5.out G5.out (by decide)).mono ?_
  rintro e w6 ⟨rfl, hb6⟩
  rw [H1.out]
  have G6 := Lib.hid (G5.out.next hb6)
  have K6 := Lib.hid (K5.out.next hb6)
  have B6 := Lib.hid (B5.out.trans (hb6.mono B5.out.size))
  clear hb6 G5 B5 K5 S5
  go_wp2_with (refine wpList_var rfl rfl 24 2 rfl rfl rfl (.tmp 11) rfl (zb 32) (bc s1) a32_zero rfl rfl (by rw [bc_len, zb_len, L1.out]) (by rw [a32_size, bc_len, L1.out]) (bc_one _) ?_; intro w7 KB7 D7)
  have G7 := Lib.hid (G6.out.next D7.out)
  have K7 := Lib.hid (K6.out.next D7.out)
  have B7 := Lib.hid (B6.out.trans (D7.out.mono B6.out.size))
  clear G6 B6 K6 D7
  refine (of_any 1 none 0 [] w7 G7.out (Rd.nil _ _) (by simp) (by simp) (by decide)).mono ?_
  rintro e w8 ⟨rfl, hb8⟩
  obtain ⟨d1, hd1⟩ : ∃ d1, (Hm.sum (tagB 1 :: encP [])).take 16 = d1 := ⟨_, rfl⟩
  have hd2 : d1 = [75, 245, 18, 47, 52, 69, 84, 197, 59, 222, 46, 187, 140, 210, 183, 227] := hd1.symm.trans ex_one
  have hl1 : d1.length = 16 := by rw [hd2]; rfl
  have HD1 := Lib.hid hd2
  have LD := Lib.hid hl1
  rw [hd1]
  have G8 := Lib.hid (G7.out.next hb8)
  have K8 := Lib.hid (K7.out.next hb8)
  have KB8 := Lib.hid (KB7.out.next hb8)
  have B8 := Lib.hid (B7.out.trans (hb8.mono B7.out.size))
  clear hb8 G7 B7 K7 KB7 hd1 hd2 hl1
  go_wp2_with (refine wpList_var rfl rfl 43 3 rfl rfl rfl (.tmp 12) rfl (zb 16) (bc d1) dg_zero rfl rfl (by rw [bc_len, zb_len, LD.out]) (by rw [dg_size, bc_len, LD.out]) (bc_one _) ?_; intro w9 KC9 D9)
  have G9 := Lib.hid (G8.out.next D9.out)
  have K9 := Lib.hid (K8.out.next D9.out)
  have KB9 := Lib.hid (KB8.out.next D9.out)
  have B9 := Lib.hid (B8.out.trans (D9.out.mono B8.out.size))
  clear G8 B8 K8 KB8 D9
  refine (hmac_any { data := #[74, 101, 102, 101] } { data := #[119, 104, 97, 116, 32, 100, 111, 32, 121, 97, 32, 119, 97, 110, 116, 32, 102, 111, 114, 32, 110, 111, 116, 104, 105, 110, 103, 63] } w9 G9.out (by decide) (by decide)).mono ?_
  rintro e w10 ⟨rfl, hb10⟩
  obtain ⟨m1, hm1⟩ : ∃ m1, Hm.hmac ({ data := #[74, 101, 102, 101] } : ByteArray).data.toList ({ data := #[119, 104, 97, 116, 32, 100, 111, 32, 121, 97, 32, 119, 97, 110, 116, 32, 102, 111, 114, 32, 110, 111, 116, 104, 105, 110, 103, 63] } : ByteArray).data.toList = m1 := ⟨_, rfl⟩
  have hm2 : m1 = [91, 220, 193, 70, 191, 96, 117, 78, 106, 4, 36, 38, 8, 149, 117, 199, 90, 0, 63, 8, 157, 39, 57, 131, 157, 236, 88, 185, 100, 236, 56, 67] := hm1.symm.trans ex_mac
  have hl1 : m1.length = 32 := by rw [hm2]; rfl
  have HM1 := Lib.hid hm2
  have LM := Lib.hid hl1
  rw [hm1]
  have G10 := Lib.hid (G9.out.next hb10)
  have K10 := Lib.hid (K9.out.next hb10)
  have KB10 := Lib.hid (KB9.out.next hb10)
  have KC10 := Lib.hid (KC9.out.next hb10)
  have B10 := Lib.hid (B9.out.trans (hb10.mono B9.out.size))
  clear hb10 G9 B9 K9 KB9 KC9 hm1 hm2 hl1
  go_wp2_with (first | (refine wpList_var rfl rfl 24 4 rfl rfl rfl (.tmp 13) rfl (zb 32) (bc m1) a32_zero rfl rfl (by rw [bc_len, zb_len, LM.out]) (by rw [a32_size, bc_len, LM.out]) (bc_one _) ?_; intro w11 KD11 D11; have G11 := Lib.hid (G10.out.next D11.out); have K11 := Lib.hid (K10.out.next D11.out); have KB11 := Lib.hid (KB10.out.next D11.out); have KC11 := Lib.hid (KC10.out.next D11.out); have B11 := Lib.hid (B10.out.trans (D11.out.mono B10.out.size)); clear G10 B10 K10 KB10 KC10 D11) | (refine wpList_load_all rfl _ (.tmp 1) rfl w1.heap.size _ (bc s1) _ rfl K11.out a32_under rfl (by rw [a32_size, bc_len, L1.out]) ?_))
  refine (bytes32_any s1 w11 L1.out).mono ?_
  rintro e w12 ⟨rfl, hb12⟩
  have G12 := Lib.hid (G11.out.next hb12)
  have K12 := Lib.hid (K11.out.next hb12)
  have KB12 := Lib.hid (KB11.out.next hb12)
  have KC12 := Lib.hid (KC11.out.next hb12)
  have KD12 := Lib.hid (KD11.out.next hb12)
  have B12 := Lib.hid (B11.out.trans (hb12.mono B11.out.size))
  clear hb12 G11 B11 K11 KB11 KC11 KD11
  go_wp2_with fail
  refine (hex_any s1 w12 (by rw [L1.out]; omega)).mono ?_
  rintro e w13 ⟨rfl, hb13⟩
  have e1 : sb (hexB s1) = { data := #[98, 97, 55, 56, 49, 54, 98, 102, 56, 102, 48, 49, 99, 102, 101, 97, 52, 49, 52, 49, 52, 48, 100, 101, 53, 100, 97, 101, 50, 50, 50, 51, 98, 48, 48, 51, 54, 49, 97, 51, 57, 54, 49, 55, 55, 97, 57, 99, 98, 52, 49, 48, 102, 102, 54, 49, 102, 50, 48, 48, 49, 53, 97, 100] } := by rw [← H1.out, ex_abc]; rfl
  rw [e1]
  clear e1
  have G13 := Lib.hid (G12.out.next hb13)
  have K13 := Lib.hid (K12.out.next hb13)
  have KB13 := Lib.hid (KB12.out.next hb13)
  have KC13 := Lib.hid (KC12.out.next hb13)
  have KD13 := Lib.hid (KD12.out.next hb13)
  have B13 := Lib.hid (B12.out.trans (hb13.mono B12.out.size))
  clear hb13 G12 B12 K12 KB12 KC12 KD12
  have heq := fun W => run_equalIn_arr 24 32 a32_under W 9998 s1 s1 L1.out L1.out
  simp only [decide_true] at heq
  go_wp2_with (first | (refine wpList_loadG rfl _ (.tmp 1) rfl w1.heap.size _ (bc s1) _ rfl K13.out a32_under rfl (by rw [a32_size, bc_len, L1.out]) ?_) | (refine wpList_loadG rfl _ (.tmp 2) rfl w6.heap.size _ (bc s1) _ rfl KB13.out a32_under rfl (by rw [a32_size, bc_len, L1.out]) ?_) | (refine wpList_loadG rfl _ (.tmp 3) rfl w8.heap.size _ (bc d1) _ rfl KC13.out dg_under rfl (by rw [dg_size, bc_len, LD.out]) ?_))
  clear heq K13 KB13
  refine (text_any d1 w13 LD.out).mono ?_
  rintro e w14 ⟨rfl, hb14⟩
  have G14 := Lib.hid (G13.out.next hb14)
  have KD14 := Lib.hid (KD13.out.next hb14)
  have B14 := Lib.hid (B13.out.trans (hb14.mono B13.out.size))
  clear hb14 G13 B13 KD13
  clear KC13
  go_wp2_with fail
  refine (hex_any d1 w14 (by rw [LD.out]; omega)).mono ?_
  rintro e w15 ⟨rfl, hb15⟩
  have e1 : sb (hexB d1) = { data := #[52, 98, 102, 53, 49, 50, 50, 102, 51, 52, 52, 53, 53, 52, 99, 53, 51, 98, 100, 101, 50, 101, 98, 98, 56, 99, 100, 50, 98, 55, 101, 51] } := by rw [HD1.out]; rfl
  rw [e1]
  clear e1
  have G15 := Lib.hid (G14.out.next hb15)
  have KD15 := Lib.hid (KD14.out.next hb15)
  have B15 := Lib.hid (B14.out.trans (hb15.mono B14.out.size))
  clear hb15 G14 B14 KD14
  go_wp2_with (refine wpList_loadG rfl _ (.tmp 4) rfl w10.heap.size _ (bc m1) _ rfl KD15.out a32_under rfl (by rw [a32_size, bc_len, LM.out]) ?_)
  refine (bytes32_any m1 w15 LM.out).mono ?_
  rintro e w16 ⟨rfl, hb16⟩
  have G16 := Lib.hid (G15.out.next hb16)
  have KD16 := Lib.hid (KD15.out.next hb16)
  have B16 := Lib.hid (B15.out.trans (hb16.mono B15.out.size))
  clear hb16 G15 B15 KD15
  go_wp2_with fail
  refine (hex_any m1 w16 (by rw [LM.out]; omega)).mono ?_
  rintro e w17 ⟨rfl, hb17⟩
  have e1 : sb (hexB m1) = { data := #[53, 98, 100, 99, 99, 49, 52, 54, 98, 102, 54, 48, 55, 53, 52, 101, 54, 97, 48, 52, 50, 52, 50, 54, 48, 56, 57, 53, 55, 53, 99, 55, 53, 97, 48, 48, 51, 102, 48, 56, 57, 100, 50, 55, 51, 57, 56, 51, 57, 100, 101, 99, 53, 56, 98, 57, 54, 52, 101, 99, 51, 56, 52, 51] } := by rw [HM1.out]; rfl
  rw [e1]
  clear e1
  have G17 := Lib.hid (G16.out.next hb17)
  have KD17 := Lib.hid (KD16.out.next hb17)
  have B17 := Lib.hid (B16.out.trans (hb17.mono B16.out.size))
  clear hb17 G16 B16 KD16
  go_wp2_with fail
  refine (expand_any { data := #[97] } 33 w17 G17.out (by decide) (by omega) (by omega)).mono ?_
  rintro e w18 ⟨rfl, hb18⟩
  have G18 := Lib.hid (G17.out.next hb18)
  have KD18 := Lib.hid (KD17.out.next hb18)
  have B18 := Lib.hid (B17.out.trans (hb18.mono B17.out.size))
  clear hb18 G17 B17 KD17
  obtain ⟨X, hX⟩ : ∃ X : ByteArray, (⟨(expand ({ data := #[97] } : ByteArray).data.toList 33).toArray⟩ : ByteArray) = X := ⟨_, rfl⟩
  have hXs : X.size = 33 := by rw [← hX]; simp [ByteArray.size, expand_len]
  rw [hX]
  clear hX
  go_wp2_with fail
  refine (expand_low { data := #[97] } 0 w18 (by omega)).mono ?_
  rintro e w' ⟨rfl, rfl⟩
  clear hXs
  go_wp2
  go_ret
  exact ⟨rfl, B18.out⟩
end Go.Proofs.YtoendbdpkkjjkaaDoor
