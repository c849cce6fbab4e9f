import Derived.Test.YtdkbfffpnpjpiaaMul
import Derived.Test.YtdkbfffpnpjpiaaLits
namespace Go.Proofs.Ytdkbfffpnpjpiaa
open Go.RowKit

set_option maxRecDepth 20000 in
set_option maxHeartbeats 400000 in
theorem sqr_any {p : Option Addr} {n c : Nat} {xs : List Nat} {a : Nat} {w : World} (h : At w p n c xs) (hx : Nf B64 xs a) (hlx : n ≤ 8192) :
    Calls Try.prog 24 #[.slice p n c] w fun e w' => Ans w.heap.size w' e (a * a) ∧ Below w.heap.size w w' := by
  have HX : Hid (Nf B64 xs a) := hx
  clear hx
  go_enter Try.func24, Try.ntmps24
  go_wp2_with fail
  refine (mul_any h h HX.out HX.out hlx hlx).mono ?_
  rintro e w1 ⟨ha, hb⟩
  rcases ha with ⟨hl, p1, m1, zs, rfl, ho, hn1, hm1⟩ | ⟨hl, rfl⟩
  · have HL : Hid (a * a < LIM) := hl
    clear hl
    go_wp2_with fail
    go_ret2
    exact ⟨.inl ⟨HL.out, p1, m1, zs, rfl, ho, hn1, hm1⟩, hb⟩
  · have HL : Hid (LIM ≤ a * a) := hl
    clear hl
    go_wp2_with fail
    go_ret2
    exact ⟨.inr ⟨HL.out, rfl⟩, hb⟩

set_option maxRecDepth 20000 in
set_option maxHeartbeats 400000 in
theorem told_t {p q : Option Addr} {n m c d : Nat} {xs : List Nat} {w : World} (h : At w p n c xs) (k : At w q m d xs) :
    Calls Try.prog 8 #[.slice p n c, .int .i64 0, .slice q m d, .int .i64 0] w fun e w' => e = .returned (.bool true) ∧ Below w.heap.size w w' := by
  go_enter Try.func8, Try.ntmps8
  go_wp2_with fail
  refine (same_t h k).mono ?_
  rintro e w1 ⟨rfl, hb⟩
  go_wp2_with fail
  go_ret
  exact ⟨rfl, hb⟩

set_option maxRecDepth 20000 in
set_option maxHeartbeats 1000000 in
theorem awake_any (w : World) : Calls Try.prog 13 #[] w fun e w' => e = .returned (.bool true) ∧ Below w.heap.size w w' := by
  go_enter Try.func13, Try.ntmps13
  go_wp2_with fail
  refine (mul_any ((lit_at w _ [TOP] 1 rfl rfl nf_top.dig (by omega)).alloc _) (lit_at1 w _ _ [TOP] 1 rfl rfl nf_top.dig (by omega)) nf_top nf_top (by omega) (by omega)).mono ?_
  rintro e w1 ⟨ha, hb1⟩
  obtain ⟨p1, m1, zs, rfl, ho1, hn1, hm1⟩ := ha.ok (nf_tt.lim.1 (by decide))
  have hzs : zs = [1, TOP - 1] := hn1.inj B64_one nf_tt
  subst hzs
  have hb : Below w.heap.size w w1 := Below.on (below2 w _ _) hb1
  have A1 := ho1.at_ hm1
  clear ha hn1 hb1 ho1
  go_wp2_with fail
  refine (sqr_any (lit_at w1 _ [0, 1] 2 rfl rfl nf_B64.dig (by omega)) nf_B64 (by omega)).mono ?_
  rintro e w2 ⟨ha, hb2⟩
  obtain ⟨p2, m2, zs, rfl, ho2, hn2, hm2⟩ := ha.ok (nf_bb.lim.1 (by decide))
  have hzs : zs = [0, 0, 1] := hn2.inj B64_one nf_bb
  subst hzs
  have hb' : Below w1.heap.size w1 w2 := Below.on (below1 w1 _) hb2
  have A2 := A1.below hb'
  have B2 := ho2.at_ hm2
  have hbw : Below w.heap.size w w2 := Below.on hb hb'
  clear ha hn2 hb hb' hb2 A1 ho2
  go_wp2_with fail
  refine (told_t (A2.alloc _) (lit_at w2 _ [1, TOP - 1] 2 rfl rfl nf_tt.dig (by omega))).mono ?_
  rintro e w3 ⟨rfl, hb3⟩
  have hb' : Below w2.heap.size w2 w3 := Below.on (below1 w2 _) hb3
  have B3 := B2.below hb'
  have hbw3 : Below w.heap.size w w3 := Below.on hbw hb'
  clear hb3 hb' hbw A2 B2
  go_wp2_with fail
  refine (told_t (B3.alloc _) (lit_at w3 _ [0, 0, 1] 3 rfl rfl nf_bb.dig (by omega))).mono ?_
  rintro e w4 ⟨rfl, hb4⟩
  have hbw4 : Below w.heap.size w w4 := Below.on hbw3 (Below.on (below1 w3 _) hb4)
  clear hbw3 hb4 B3
  go_wp2_with fail
  go_ret
  exact ⟨rfl, hbw4⟩

end Go.Proofs.Ytdkbfffpnpjpiaa
