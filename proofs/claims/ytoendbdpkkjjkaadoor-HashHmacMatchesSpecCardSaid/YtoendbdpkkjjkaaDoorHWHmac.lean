/- The walk of HashHmacMatchesSpec. -/
import Derived.Test.YtoendbdpkkjjkaaDoorHRef3
import Derived.Test.YtoendbdpkkjjkaaDoorHWKeys
namespace Go.Proofs.YtoendbdpkkjjkaaDoor
open Go.RowKit Hm Wm

set_option maxRecDepth 100000 in
set_option maxHeartbeats 1000000 in
theorem walkHmac_key (key msg : ByteArray) (w : World) (hg : Glob w) (h : 400 < key.size) :
    Calls Tryd.prog 7 #[.string key, .string msg] w fun e w' => e = .returned (.bool true) ∧ Below w.heap.size w w' := by
  have HG := Lib.hid hg
  have d1 : decide ((400 : Int) < (key.size : Int)) = true := by simp; omega
  clear h
  clear hg
  go_enter Tryd.func7, Tryd.ntmps7
  go_wp2_with fail
  refine (hsanity_any _ HG.out).mono ?_
  rintro e w1 ⟨rfl, hb1⟩
  have HB := Lib.hid hb1
  clear hb1
  go_wp2
  go_ret
  exact ⟨rfl, HB.out⟩

set_option maxRecDepth 100000 in
set_option maxHeartbeats 1000000 in
theorem walkHmac_msg (key msg : ByteArray) (w : World) (hg : Glob w) (hk : key.size ≤ 400) (h : 400 < msg.size) :
    Calls Tryd.prog 7 #[.string key, .string msg] w fun e w' => e = .returned (.bool true) ∧ Below w.heap.size w w' := by
  have HG := Lib.hid hg
  have d1 : decide ((400 : Int) < (key.size : Int)) = false := by simp; omega
  have d2 : decide ((400 : Int) < (msg.size : Int)) = true := by simp; omega
  clear h hk
  clear hg
  go_enter Tryd.func7, Tryd.ntmps7
  go_wp2_with fail
  refine (hsanity_any _ HG.out).mono ?_
  rintro e w1 ⟨rfl, hb1⟩
  have HB := Lib.hid hb1
  clear hb1
  go_wp2
  go_ret
  exact ⟨rfl, HB.out⟩

set_option maxRecDepth 100000 in
set_option maxHeartbeats 1000000 in
theorem walkHmac_in (key msg : ByteArray) (w : World) (hg : Glob w) (ht : w.rangeAt 0 0 (wc K)) (hk : key.size ≤ 400) (hm : msg.size ≤ 400) :
    Calls Tryd.prog 7 #[.string key, .string msg] w fun e w' => e = .returned (.bool true) ∧ Below w.heap.size w w' := by
  have HG := Lib.hid hg
  have HT := Lib.hid ht
  have HK := Lib.hid hk
  have HM := Lib.hid hm
  have d1 : decide ((400 : Int) < (key.size : Int)) = false := by simp; omega
  have d2 : decide ((400 : Int) < (msg.size : Int)) = false := by simp; omega
  clear hg ht hk hm
  go_enter Tryd.func7, Tryd.ntmps7
  go_wp2_with fail
  refine (hsanity_any _ HG.out).mono ?_
  rintro e w1 ⟨rfl, hb1⟩
  have G1 := Lib.hid (HG.out.next hb1)
  have B1 := Lib.hid hb1
  clear hb1 HG
  go_wp2_with fail
  refine (hmac_any key msg w1 G1.out (by have := HK.out; omega) (by have := HM.out; omega)).mono ?_
  rintro e w2 ⟨rfl, hb2⟩
  have B2 := Lib.hid (B1.out.trans (hb2.mono B1.out.size))
  clear hb2 G1 B1
  go_wp2_with fail
  refine (rhmac_any key msg w2 (range_below' HT.out B2.out) (by have := HK.out; omega) (by have := HM.out; omega)).mono ?_
  rintro e w3 ⟨rfl, hb3⟩
  have B3 := Lib.hid (B2.out.trans (hb3.mono B2.out.size))
  clear hb3 B2
  obtain ⟨h, hh⟩ : ∃ h, Hm.hmac key.data.toList msg.data.toList = h := ⟨_, rfl⟩
  have hl : h.length = 32 := by rw [← hh, hmac_len]
  rw [hh]
  have heq := fun W => run_equalIn_arr 24 32 a32_under W 9998 h h hl hl
  simp only [decide_true] at heq
  clear hl hh
  go_wp2
  go_ret
  exact ⟨rfl, B3.out⟩

theorem walkHmac (key msg : ByteArray) (w : World) (hg : Glob w) (ht : w.rangeAt 0 0 (wc K)) :
    Calls Tryd.prog 7 #[.string key, .string msg] w fun e w' => e = .returned (.bool true) ∧ Below w.heap.size w w' := by
  by_cases hk : 400 < key.size
  · exact walkHmac_key key msg w hg hk
  · by_cases hm : 400 < msg.size
    · exact walkHmac_msg key msg w hg (by omega) hm
    · exact walkHmac_in key msg w hg ht (by omega) (by omega)
end Go.Proofs.YtoendbdpkkjjkaaDoor
