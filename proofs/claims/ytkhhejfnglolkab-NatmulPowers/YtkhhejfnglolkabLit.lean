import Derived.Test.YtkhhejfnglolkabMul
namespace Go.Proofs.Ytkhhejfnglolkab
open Go.RowKit

theorem Ans.ok {B : Nat} {w' : World} {e : Ending} {n : Nat} (h : Ans B w' e n) (hn : n < LIM) : ∃ p m zs, e = .returned (.tuple #[.slice p m m, .int .i64 0]) ∧ Own B w' p m zs ∧ Nf B64 zs n ∧ m ≤ 8192 := by
  rcases h with ⟨_, h⟩ | ⟨h, _⟩
  · exact h
  · omega
theorem Ans.no {B : Nat} {w' : World} {e : Ending} {n : Nat} (h : Ans B w' e n) (hn : LIM ≤ n) : e = .returned (.tuple #[.slice none 0 0, .int .i64 5]) := by
  rcases h with ⟨h, _⟩ | ⟨_, h⟩
  · omega
  · exact h
theorem lit_at (w : World) (cs : Array Value) (xs : List Nat) (n : Nat) (hcs : cs = (cellsU xs).toArray) (hn : xs.length = n) (hd : Dig B64 xs) (hb : n ≤ 1000) : At (w.alloc (.cells cs 29)) (some ⟨w.heap.size, 0, none⟩) n n xs := by
  subst hcs
  have h : Blk (w.alloc (.cells (cellsU xs).toArray 29)) w.heap.size xs := heap_alloc_new w _
  exact h.at_ hd hn (by unfold maxLen; omega)
theorem lit_at1 (w : World) (o : Obj) (cs : Array Value) (xs : List Nat) (n : Nat) (hcs : cs = (cellsU xs).toArray) (hn : xs.length = n) (hd : Dig B64 xs) (hb : n ≤ 1000) : At ((w.alloc o).alloc (.cells cs 29)) (some ⟨w.heap.size + 1, 0, none⟩) n n xs := by
  have := lit_at (w.alloc o) cs xs n hcs hn hd hb
  rw [World.size_alloc] at this; exact this
theorem below1 (w : World) (o : Obj) : Below w.heap.size w (w.alloc o) := (Below.refl _ _).alloc (Nat.le_refl _) o
theorem below2 (w : World) (o o' : Obj) : Below w.heap.size w ((w.alloc o).alloc o') := (below1 w o).alloc (by simp) o'
theorem Below.on {w w1 w2 : World} (h : Below w.heap.size w w1) (k : Below w1.heap.size w1 w2) : Below w.heap.size w w2 := h.trans (k.mono h.size)
def TOP : Nat := 18446744073709551615
theorem dig2 {x y : Nat} (h : x < B64) (k : y < B64) : Dig B64 [x, y] := Dig.cons h (Dig.cons k (Dig.nil _))
theorem nf_top : Nf B64 [TOP] TOP := ⟨dig1 (by decide), by intro x hx; simp at hx; subst hx; decide, by simp [valB]⟩
theorem nf_one {x : Nat} (h : x < B64) (h0 : x ≠ 0) : Nf B64 [x] x := ⟨dig1 h, by intro y hy; simp at hy; omega, by simp [valB]⟩
theorem nf_B64 : Nf B64 [0, 1] (TOP + 1) := ⟨dig2 (by decide) (by decide), by intro x hx; simp at hx; omega, by simp [valB, B64, TOP]⟩
theorem nf_tt : Nf B64 [1, TOP - 1] (TOP * TOP) := ⟨dig2 (by decide) (by decide), by intro x hx; simp [TOP] at hx; omega, by simp [valB, B64, TOP]⟩
theorem nf_bb : Nf B64 [0, 0, 1] ((TOP + 1) * (TOP + 1)) := ⟨Dig.cons (by decide) (dig2 (by decide) (by decide)), by intro x hx; simp at hx; omega, by simp [valB, B64, TOP]⟩

theorem same_t {p q : Option Addr} {n m c d : Nat} {xs : List Nat} {w : World} (h : At w p n c xs) (k : At w q m d xs) :
    Calls Try.prog 9 #[.slice p n c, .slice q m d] w fun e w' => e = .returned (.bool true) ∧ Below w.heap.size w w' := by
  refine (same_any h k).mono ?_
  rintro e w' ⟨rfl, r, rfl⟩
  exact ⟨ret_bool (by simp), bDrewN (Below.refl _ _) r⟩
theorem twin_at {p : Option Addr} {n c : Nat} {xs : List Nat} {w : World} (h : At w p n c xs) (hn : n ≤ 17592186044416) :
    Calls Try.prog 20 #[.slice p n c] w fun e w' => ∃ p', e = .returned (.slice p' n n) ∧ At w' p' n n xs ∧ Below w.heap.size w w' := by
  refine (twin_any h (by omega)).mono ?_
  rintro e w' ⟨g, rfl, hg, hblk, hb⟩
  exact ⟨_, rfl, hblk.at_ h.dig h.len (by unfold maxLen; omega), hb⟩

set_option maxHeartbeats 400000 in
theorem sqr_any {p : Option Addr} {n c : Nat} {xs : List Nat} {a : Nat} {w : World} (h : At w p n c xs) (hx : Nf B64 xs a) (hlx : n ≤ 8192) :
    Calls Try.prog 21 #[.slice p n c] w fun e w' => Ans w.heap.size w' e (a * a) ∧ Below w.heap.size w w' := by
  have HX : Hid (Nf B64 xs a) := hx
  clear hx
  go_enter Try.func21, Try.ntmps21
  go_wp2_with fail
  refine (mul_any h h HX.out HX.out hlx hlx).mono ?_
  rintro e w1 ⟨ha, hb⟩
  rcases ha with ⟨hl, p1, m1, zs, rfl, ho, hn1, hm1⟩ | ⟨hl, rfl⟩
  · have HL : Hid (a * a < LIM) := hl
    clear hl
    go_wp2_with fail
    go_ret2
    exact ⟨.inl ⟨HL.out, p1, m1, zs, rfl, ho, hn1, hm1⟩, hb⟩
  · have HL : Hid (LIM ≤ a * a) := hl
    clear hl
    go_wp2_with fail
    go_ret2
    exact ⟨.inr ⟨HL.out, rfl⟩, hb⟩

set_option maxHeartbeats 400000 in
theorem told_t {p q : Option Addr} {n m c d : Nat} {xs : List Nat} {w : World} (h : At w p n c xs) (k : At w q m d xs) :
    Calls Try.prog 22 #[.slice p n c, .int .i64 0, .slice q m d, .int .i64 0] w fun e w' => e = .returned (.bool true) ∧ Below w.heap.size w w' := by
  go_enter Try.func22, Try.ntmps22
  go_wp2_with fail
  refine (same_t h k).mono ?_
  rintro e w1 ⟨rfl, hb⟩
  go_wp2_with fail
  go_ret
  exact ⟨rfl, hb⟩

set_option maxHeartbeats 1000000 in
theorem awake_any (w : World) : Calls Try.prog 7 #[] w fun e w' => e = .returned (.bool true) ∧ Below w.heap.size w w' := by
  go_enter Try.func7, Try.ntmps7
  go_wp2_with fail
  refine (mul_any ((lit_at w _ [TOP] 1 rfl rfl nf_top.dig (by omega)).alloc _) (lit_at1 w _ _ [TOP] 1 rfl rfl nf_top.dig (by omega)) nf_top nf_top (by omega) (by omega)).mono ?_
  rintro e w1 ⟨ha, hb1⟩
  obtain ⟨p1, m1, zs, rfl, ho1, hn1, hm1⟩ := ha.ok (nf_tt.lim.1 (by decide))
  have hzs : zs = [1, TOP - 1] := hn1.inj B64_one nf_tt
  subst hzs
  have hb : Below w.heap.size w w1 := Below.on (below2 w _ _) hb1
  have A1 := ho1.at_ hm1
  clear ha hn1 hb1 ho1
  go_wp2_with fail
  refine (sqr_any (lit_at w1 _ [0, 1] 2 rfl rfl nf_B64.dig (by omega)) nf_B64 (by omega)).mono ?_
  rintro e w2 ⟨ha, hb2⟩
  obtain ⟨p2, m2, zs, rfl, ho2, hn2, hm2⟩ := ha.ok (nf_bb.lim.1 (by decide))
  have hzs : zs = [0, 0, 1] := hn2.inj B64_one nf_bb
  subst hzs
  have hb' : Below w1.heap.size w1 w2 := Below.on (below1 w1 _) hb2
  have A2 := A1.below hb'
  have B2 := ho2.at_ hm2
  have hbw : Below w.heap.size w w2 := Below.on hb hb'
  clear ha hn2 hb hb' hb2 A1 ho2
  go_wp2_with fail
  refine (told_t (A2.alloc _) (lit_at w2 _ [1, TOP - 1] 2 rfl rfl nf_tt.dig (by omega))).mono ?_
  rintro e w3 ⟨rfl, hb3⟩
  have hb' : Below w2.heap.size w2 w3 := Below.on (below1 w2 _) hb3
  have B3 := B2.below hb'
  have hbw3 : Below w.heap.size w w3 := Below.on hbw hb'
  clear hb3 hb' hbw A2 B2
  go_wp2_with fail
  refine (told_t (B3.alloc _) (lit_at w3 _ [0, 0, 1] 3 rfl rfl nf_bb.dig (by omega))).mono ?_
  rintro e w4 ⟨rfl, hb4⟩
  have hbw4 : Below w.heap.size w w4 := Below.on hbw3 (Below.on (below1 w3 _) hb4)
  clear hbw3 hb4 B3
  go_wp2_with fail
  go_ret
  exact ⟨rfl, hbw4⟩

set_option maxHeartbeats 400000 in
theorem norm2_any {p : Option Addr} {n c : Nat} {xs : List Nat} {w : World} (h : At w p n c xs) (hn : n ≤ 17592186044416) :
    Calls Try.prog 6 #[.slice p n c] w fun e w' =>
      (∃ v o, e = .returned (.tuple #[v, .bool o]) ∧ Hid (o = true → ∃ p1 m1 us, v = .slice p1 m1 m1 ∧ At w' p1 m1 m1 us ∧ m1 ≤ 8192 ∧ Nf B64 us (valB B64 xs))) ∧ Below w.heap.size w w' := by
  go_enter Try.func6, Try.ntmps6
  go_wp2_with fail
  refine (twin_at h hn).mono ?_
  rintro e w1 ⟨p1, rfl, A1, hb1⟩
  go_wp2_with fail
  refine (norm_any A1).mono ?_
  rintro e w2 ⟨ha2, hb2⟩
  have hw2 : Below w.heap.size w w2 := Below.on hb1 hb2
  clear hb1 hb2 A1
  rcases ha2 with ⟨_, p2, m2, us, rfl, ho, hn2, hm2⟩ | ⟨_, rfl⟩
  · have A2 := ho.at_ hm2
    clear ho
    go_wp2_with fail
    go_ret2
    exact ⟨⟨_, _, rfl, fun _ => ⟨_, _, us, rfl, A2, hm2, hn2⟩⟩, hw2⟩
  · go_wp2_with fail
    go_ret2
    exact ⟨⟨_, false, rfl, fun h => absurd h (by decide)⟩, hw2⟩
end Go.Proofs.Ytkhhejfnglolkab
