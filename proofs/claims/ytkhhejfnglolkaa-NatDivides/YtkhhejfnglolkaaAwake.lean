import Derived.Test.YtkhhejfnglolkaaBits
namespace Go.Proofs.Ytkhhejfnglolkaa
open Go.RowKit

theorem Ans.ok {B : Nat} {w' : World} {e : Ending} {n : Nat} (h : Ans B w' e n) (hn : n < LIM) : ∃ p m zs, e = .returned (.tuple #[.slice p m m, .int .i64 0]) ∧ Own B w' p m zs ∧ Nf B64 zs n ∧ m ≤ 8192 := by
  rcases h with ⟨_, h⟩ | ⟨h, _⟩
  · exact h
  · omega
theorem lit_at (w : World) (cs : Array Value) (xs : List Nat) (n : Nat) (hcs : cs = (cellsU xs).toArray) (hn : xs.length = n) (hd : Dig B64 xs) (hb : n ≤ 1000) : At (w.alloc (.cells cs 34)) (some ⟨w.heap.size, 0, none⟩) n n xs := by
  subst hcs
  have h : Blk (w.alloc (.cells (cellsU xs).toArray 34)) w.heap.size xs := heap_alloc_new w _
  exact h.at_ hd hn (by unfold maxLen; omega)
theorem lit_at1 (w : World) (o : Obj) (cs : Array Value) (xs : List Nat) (n : Nat) (hcs : cs = (cellsU xs).toArray) (hn : xs.length = n) (hd : Dig B64 xs) (hb : n ≤ 1000) : At ((w.alloc o).alloc (.cells cs 34)) (some ⟨w.heap.size + 1, 0, none⟩) n n xs := by
  have := lit_at (w.alloc o) cs xs n hcs hn hd hb
  rw [World.size_alloc] at this; exact this
theorem below1 (w : World) (o : Obj) : Below w.heap.size w (w.alloc o) := (Below.refl _ _).alloc (Nat.le_refl _) o
theorem below2 (w : World) (o o' : Obj) : Below w.heap.size w ((w.alloc o).alloc o') := (below1 w o).alloc (by simp) o'
theorem Below.on {w w1 w2 : World} (h : Below w.heap.size w w1) (k : Below w1.heap.size w1 w2) : Below w.heap.size w w2 := h.trans (k.mono h.size)
theorem nf_of_form {xs : List Nat} (hd : Dig B64 xs) (hf : formB xs = true) : Nf B64 xs (valB B64 xs) := (formB_nf hf hd).1
def TOP : Nat := 18446744073709551615
theorem dig1 {x : Nat} (h : x < B64) : Dig B64 [x] := Dig.cons h (Dig.nil _)
theorem dig2 {x y : Nat} (h : x < B64) (k : y < B64) : Dig B64 [x, y] := Dig.cons h (Dig.cons k (Dig.nil _))

theorem nf_top : Nf B64 [TOP] TOP := ⟨dig1 (by decide), by intro x hx; simp at hx; subst hx; decide, by simp [valB]⟩
theorem nf_one {x : Nat} (h : x < B64) (h0 : x ≠ 0) : Nf B64 [x] x := ⟨dig1 h, by intro y hy; simp at hy; omega, by simp [valB]⟩
theorem nf_B64 : Nf B64 [0, 1] (TOP + 1) := ⟨dig2 (by decide) (by decide), by intro x hx; simp at hx; omega, by simp [valB, B64, TOP]⟩

theorem same_t {p q : Option Addr} {n m c d : Nat} {xs : List Nat} {w : World} (h : At w p n c xs) (k : At w q m d xs) :
    Calls Try.prog 11 #[.slice p n c, .slice q m d] w fun e w' => e = .returned (.bool true) ∧ Below w.heap.size w w' := by
  refine (same_any h k).mono ?_
  rintro e w' ⟨rfl, r, rfl⟩
  exact ⟨ret_bool (by simp), bDrewN (Below.refl _ _) r⟩
theorem cmp_w {p q : Option Addr} {n m c d : Nat} {xs ys : List Nat} {w : World} (h : At w p n c xs) (k : At w q m d ys) :
    Calls Try.prog 20 #[.slice p n c, .slice q m d] w fun e w' => e = .returned (.int .i64 (cmpN (valB B64 xs) (valB B64 ys))) ∧ Below w.heap.size w w' := by
  refine (cmp_any h k).mono ?_
  rintro e w' ⟨rfl, r, rfl⟩
  exact ⟨rfl, bDrewN (Below.refl _ _) r⟩

set_option maxHeartbeats 1000000 in
theorem awake_any (w : World) : Calls Try.prog 6 #[] w fun e w' => e = .returned (.bool true) ∧ Below w.heap.size w w' := by
  go_enter Try.func6, Try.ntmps6
  go_wp2_with fail
  refine (add_ord ((lit_at w _ [TOP] 1 rfl rfl nf_top.dig (by omega)).alloc _) (lit_at1 w _ _ [1] 1 rfl rfl (dig1 (by decide)) (by omega)) nf_top (nf_one (by decide) (by decide)) (by omega) (by omega)).mono ?_
  rintro e w1 ⟨ha, hb1⟩
  obtain ⟨p1, m1, zs, rfl, ho1, hn1, hm1⟩ := ha.ok (nf_B64.lim.1 (by decide))
  have hzs : zs = [0, 1] := hn1.inj B64_one nf_B64
  subst hzs
  have hb : Below w.heap.size w w1 := Below.on (below2 w _ _) hb1
  have A1 := ho1.at_ hm1
  clear ha hn1 hb1 ho1
  go_wp2_with fail
  refine (same_t (A1.alloc _) (lit_at w1 _ [0, 1] 2 rfl rfl nf_B64.dig (by omega))).mono ?_
  rintro e w2 ⟨rfl, hb2⟩
  have hb' : Below w1.heap.size w1 w2 := Below.on (below1 w1 _) hb2
  have A2 := A1.below hb'
  have hbw : Below w.heap.size w w2 := Below.on hb hb'
  clear hb hb' hb2 A1
  go_wp2_with fail
  refine (sub_nf (A2.alloc _) (lit_at w2 _ [1] 1 rfl rfl (dig1 (by decide)) (by omega)) nf_B64 (nf_one (by decide) (by decide)) (by omega) (by omega)).mono ?_
  rintro e w3 ⟨hs, hb3⟩
  rcases hs with ⟨_, p3, m3, us, rfl, ho3, hn3, hm3⟩ | ⟨hlt, _⟩
  · have hus : us = [TOP] := hn3.inj B64_one (by rw [Nat.add_sub_cancel]; exact nf_top)
    subst hus
    have hb' : Below w2.heap.size w2 w3 := Below.on (below1 w2 _) hb3
    have hbw3 : Below w.heap.size w w3 := Below.on hbw hb'
    have A3 := ho3.at_ hm3
    clear hn3 hb3 hb' hbw ho3 A2
    go_wp2_with fail
    refine (same_t (A3.alloc _) (lit_at w3 _ [TOP] 1 rfl rfl nf_top.dig (by omega))).mono ?_
    rintro e w4 ⟨rfl, hb4⟩
    have hbw4 : Below w.heap.size w w4 := Below.on hbw3 (Below.on (below1 w3 _) hb4)
    clear hbw3 hb4 A3
    go_wp2_with fail
    refine (bits_any (lit_at w4 _ [0, 1] 2 rfl rfl nf_B64.dig (by omega)) (by omega)).mono ?_
    rintro e w5 ⟨rfl, hw⟩
    have e65 : bitsN (valB B64 [0, 1]) = 65 := by decide +kernel
    rw [e65]
    clear e65
    obtain ⟨hb5⟩ : Nonempty (Below w.heap.size w w5) := ⟨by rw [hw]; exact Below.on hbw4 (below1 w4 _)⟩
    clear hw hbw4
    go_wp2_with fail
    refine (cmp_w ((lit_at w5 _ [2] 1 rfl rfl (dig1 (by decide)) (by omega)).alloc _) (lit_at1 w5 _ _ [1] 1 rfl rfl (dig1 (by decide)) (by omega))).mono ?_
    rintro e w6 ⟨rfl, hb6⟩
    have e1 : cmpN (valB B64 [2]) (valB B64 [1]) = 1 := by decide +kernel
    rw [e1]
    have hbw6 : Below w.heap.size w w6 := Below.on hb5 (Below.on (below2 w5 _ _) hb6)
    clear e1 hb5 hb6
    go_wp2_with fail
    go_ret
    exact ⟨rfl, hbw6⟩
  · exact absurd hlt (by decide)
end Go.Proofs.Ytkhhejfnglolkaa
