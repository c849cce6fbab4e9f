import Derived.Test.YthhblccahafklaaDoorLits
namespace Go.Proofs.YthhblccahafklaaDoor
open Go.RowKit

set_option maxRecDepth 20000 in
set_option maxHeartbeats 1000000 in
theorem awake_any (w : World) : Calls Tryd.prog 11 #[] w fun e w' => e = .returned (.bool true) ∧ Below w.heap.size w w' := by
  go_enter Tryd.func11, Tryd.ntmps11
  go_wp2_with fail
  refine (add_ord ((lit_at w _ [TOP] 1 rfl rfl nf_top.dig (by omega)).alloc _) (lit_at1 w _ _ [1] 1 rfl rfl (dig1 (by decide)) (by omega)) nf_top (nf_one (by decide) (by decide)) (by omega) (by omega)).mono ?_
  rintro e w1 ⟨ha, hb1⟩
  obtain ⟨p1, m1, zs, rfl, ho1, hn1, hm1⟩ := ha.ok (nf_B64.lim.1 (by decide))
  have hzs : zs = [0, 1] := hn1.inj B64_one nf_B64
  subst hzs
  have hb : Below w.heap.size w w1 := Below.on (below2 w _ _) hb1
  have A1 := ho1.at_ hm1
  clear ha hn1 hb1 ho1
  go_wp2_with fail
  refine (same_t (A1.alloc _) (lit_at w1 _ [0, 1] 2 rfl rfl nf_B64.dig (by omega))).mono ?_
  rintro e w2 ⟨rfl, hb2⟩
  have hb' : Below w1.heap.size w1 w2 := Below.on (below1 w1 _) hb2
  have A2 := A1.below hb'
  have hbw : Below w.heap.size w w2 := Below.on hb hb'
  clear hb hb' hb2 A1
  go_wp2_with fail
  refine (sub_nf (A2.alloc _) (lit_at w2 _ [1] 1 rfl rfl (dig1 (by decide)) (by omega)) nf_B64 (nf_one (by decide) (by decide)) (by omega) (by omega)).mono ?_
  rintro e w3 ⟨hs, hb3⟩
  rcases hs with ⟨_, p3, m3, us, rfl, ho3, hn3, hm3⟩ | ⟨hlt, _⟩
  · have hus : us = [TOP] := hn3.inj B64_one (by rw [Nat.add_sub_cancel]; exact nf_top)
    subst hus
    have hb' : Below w2.heap.size w2 w3 := Below.on (below1 w2 _) hb3
    have hbw3 : Below w.heap.size w w3 := Below.on hbw hb'
    have A3 := ho3.at_ hm3
    clear hn3 hb3 hb' hbw ho3 A2
    go_wp2_with fail
    refine (same_t (A3.alloc _) (lit_at w3 _ [TOP] 1 rfl rfl nf_top.dig (by omega))).mono ?_
    rintro e w4 ⟨rfl, hb4⟩
    have hbw4 : Below w.heap.size w w4 := Below.on hbw3 (Below.on (below1 w3 _) hb4)
    clear hbw3 hb4 A3
    go_wp2_with fail
    refine (bits_any (lit_at w4 _ [0, 1] 2 rfl rfl nf_B64.dig (by omega)) (by omega)).mono ?_
    rintro e w5 ⟨rfl, hw⟩
    have e65 : bitsN (valB B64 [0, 1]) = 65 := by decide +kernel
    rw [e65]
    clear e65
    obtain ⟨hb5⟩ : Nonempty (Below w.heap.size w w5) := ⟨by rw [hw]; exact Below.on hbw4 (below1 w4 _)⟩
    clear hw hbw4
    go_wp2_with fail
    refine (cmp_w ((lit_at w5 _ [2] 1 rfl rfl (dig1 (by decide)) (by omega)).alloc _) (lit_at1 w5 _ _ [1] 1 rfl rfl (dig1 (by decide)) (by omega))).mono ?_
    rintro e w6 ⟨rfl, hb6⟩
    have e1 : cmpN (valB B64 [2]) (valB B64 [1]) = 1 := by decide +kernel
    rw [e1]
    have hbw6 : Below w.heap.size w w6 := Below.on hb5 (Below.on (below2 w5 _ _) hb6)
    clear e1 hb5 hb6
    go_wp2_with fail
    go_ret
    exact ⟨rfl, hbw6⟩
  · exact absurd hlt (by decide)
end Go.Proofs.YthhblccahafklaaDoor
