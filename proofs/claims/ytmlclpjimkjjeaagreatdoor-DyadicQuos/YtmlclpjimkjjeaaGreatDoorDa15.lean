import Derived.Test.YtmlclpjimkjjeaaGreatDoorDa14
namespace Go.Proofs.YtmlclpjimkjjeaaGreatDoor
open Go.RowKit Go.Shelf
set_option maxRecDepth 20000
set_option maxHeartbeats 0
def qI (up : Bool) (X Y : Int) : Int := if up then ce (decide (X < 0) != decide (Y < 0)) X.natAbs Y.natAbs else fl (decide (X < 0) != decide (Y < 0)) X.natAbs Y.natAbs
theorem half_bits {w : World} {s : Bool} {p : Option Addr} {m c : Nat} {z : Int} (h : ZN w s p m c z) (hm : m ≤ 4096) : bitsN z.natAbs ≤ 262144 := by
  obtain ⟨ys, hY⟩ := h.ex
  have h1 := (hY.nf.len_le B64_one (k := 4096)).1 (by rw [hY.at_.len]; exact hm)
  obtain ⟨k, hk⟩ := exq 4096;rw [← hk, B64_pow] at h1
  by_cases h0 : z.natAbs = 0
  · rw [h0, bitsN_zero]; omega
  have h2 := bitsN_le z.natAbs h0
  have h3 := (Nat.pow_lt_pow_iff_right (by omega : 1 < 2)).1 (Nat.lt_of_le_of_lt h2 h1)
  omega
theorem shl_lim {x : Int} {N : Nat} (h : x ≠ 0 → bitsN x.natAbs + N ≤ 524288) : (x * 2 ^ N).natAbs < LIM := by
  by_cases h0 : x = 0
  · rw [h0, Int.zero_mul]
    exact lt_LIM (L := 0) (by decide) (by omega)
  · rw [Int.natAbs_mul, pow_cast, Int.natAbs_natCast, lim_bits, Nat.mul_comm, bitsN_shl _ _ (by omega)]
    have := h h0
    omega
structure WB (x y : Int) (P : Nat) (X Y L : Int) : Prop where
 l : L = P + bitsN y.natAbs - bitsN x.natAbs
 xv : X = x * 2 ^ L.toNat
 yv : Y = y * 2 ^ (-L).toNat
theorem wbits {p q : Option Addr} {m c n d : Nat} {w : World} {x y X Y L : Int} {P : Nat} {s t : Bool} (h : ZN w s p m c x) (k : ZN w t q n d y) (hP : 1 ≤ P ∧ P ≤ 70000) (hm : m ≤ 4096) (hn : n ≤ 4096) (hy : y ≠ 0) (hw : WB x y P X Y L) :
  Calls Tryz.prog 20 #[ZV s p m c, ZV t q n d, .int .i64 P] w fun en w' => ∃ s1 p1 m1 c1 s2 p2 m2 c2, en = .returned (.tuple #[ZV s1 p1 m1 c1, ZV s2 p2 m2 c2, .int .i64 L]) ∧ ZN w' s1 p1 m1 c1 X ∧ ZN w' s2 p2 m2 c2 Y ∧ Below w.heap.size w w' := by
 have b1 := half_bits h hm;have b2 := half_bits k hn
 have b3 := bitsN_pos (a := y.natAbs) (by omega)
 obtain ⟨h1, h2, h3⟩ := hw
 rcases Int.lt_or_le L 0 with h0 | h0
 ·obtain ⟨N, hN⟩ : ∃ N : Nat, N = (-L).toNat := ⟨_, rfl⟩
  rw [show L.toNat = 0 from by omega] at h2
  rw [← hN] at h3
  have h4 := wbits_y h k (N := N) hP (by omega) (by omega) (shl_lim fun _ => by omega)
  rw [show L = -(N : Int) from by omega, h2, h3]
  simpa using h4
 ·obtain ⟨N, hN⟩ : ∃ N : Nat, N = L.toNat := ⟨_, rfl⟩
  rw [show (-L).toNat = 0 from by omega] at h3
  rw [← hN] at h2
  have h4 := wbits_x h k (N := N) hP (by omega) (shl_lim fun h9 => by omega)
  rw [show L = (N : Int) from by omega, h2, h3]
  simpa using h4
theorem quo_ld {p q : Option Addr} {m c n d : Nat} {w : World} {e f : Int} {s t : Bool} {Q : Int} (hQ : Q < 1) :
  Calls Tryz.prog 10 #[WVd, DV s p m c e, DV t q n d f, .int .i64 Q] w fun en w' => en = .returned (.tuple #[DV false none 0 0 0, .int .i64 1]) ∧ Below w.heap.size w w' := by
 have g1 : Q < 1 := hQ
 go_enter Tryz.func10, Tryz.ntmps10
 go_wp2_with fail
 refine bodyPost_ret (v := .tuple #[DV false none 0 0 0, .int .i64 1]) (by rw [results_cell_tmp rfl]; go_simp) rfl ⟨rfl, ?_⟩
 exact below4 w _ _ _ _
theorem quo_gd {p q : Option Addr} {m c n d : Nat} {w : World} {e f : Int} {s t : Bool} {Q : Int} (hQ : 70000 < Q) :
  Calls Tryz.prog 10 #[WVd, DV s p m c e, DV t q n d f, .int .i64 Q] w fun en w' => en = .returned (.tuple #[DV false none 0 0 0, .int .i64 1]) ∧ Below w.heap.size w w' := by
 have g1 : ¬ Q < 1 := by omega
 go_enter Tryz.func10, Tryz.ntmps10
 go_wp2_with fail
 refine bodyPost_ret (v := .tuple #[DV false none 0 0 0, .int .i64 1]) (by rw [results_cell_tmp rfl]; go_simp) rfl ⟨rfl, ?_⟩
 exact below4 w _ _ _ _
theorem quo_ad {p q : Option Addr} {m c n d : Nat} {w : World} {e f : Int} {s t : Bool} {xs : List Nat} {Q : Int} (h : At w p m c xs) (hf : formD s xs e = false) (hQ : 1 ≤ Q ∧ Q ≤ 70000) :
  Calls Tryz.prog 10 #[WVd, DV s p m c e, DV t q n d f, .int .i64 Q] w fun en w' => en = .returned (.tuple #[DV false none 0 0 0, .int .i64 2]) ∧ Below w.heap.size w w' := by
 have g1 : ¬ Q < 1 := by omega
 have g2 : ¬ 70000 < Q := by omega
 have H : Hid (At w p m c xs ∧ formD s xs e = false) := ⟨h, hf⟩;clear h hf hQ
 go_enter Tryz.func10, Tryz.ntmps10
 go_wp2_with fail;obtain ⟨W0, hW0⟩ := exq ((((w.alloc (.cells #[.func (.func 16) #[] #[], .func (.func 17) #[] #[]] 38)).alloc (.cells #[.bool s, .slice p m c, .int .i64 e] 27)).alloc (.cells #[.bool t, .slice q n d, .int .i64 f] 27)).alloc (.cells #[.bool false, .slice none 0 0, .int .i64 0] 27))
 have Xy : Hid (Box W0 (w.heap.size) (.func (.func 16) #[] #[]) (.func (.func 17) #[] #[])) := by rw [hW0]; constructor <;> go_simp
 have Xa : Hid (B3q W0 (w.heap.size + 1) (.bool s) (.slice p m c) (.int .i64 e)) := by rw [hW0]; constructor <;> go_simp
 have Xb : Hid (B3q W0 (w.heap.size + 1 + 1) (.bool t) (.slice q n d) (.int .i64 f)) := by rw [hW0]; constructor <;> go_simp
 have Xr : Hid (B3q W0 (w.heap.size + 1 + 1 + 1) (.bool false) (.slice none 0 0) (.int .i64 0)) := by rw [hW0]; constructor <;> go_simp
 have hb0 : Below w.heap.size w W0 := by rw [hW0]; exact below4 w _ _ _ _
 rw [← hW0];clear hW0;have hbw := brf w;obtain ⟨gr, hgr⟩ := exq (w.heap.size + 1 + 1 + 1);have HGr : Hid (w.heap.size ≤ gr) := hgl hgr;rw [← hgr] at Xr
 try rw [← hgr]
 obtain ⟨gb, hgb⟩ := exq (w.heap.size + 1 + 1);have HGb : Hid (w.heap.size ≤ gb) := hgl hgb;rw [← hgb] at Xb
 try rw [← hgb]
 obtain ⟨ga, hga⟩ := exq (w.heap.size + 1);have HGa : Hid (w.heap.size ≤ ga) := hgl hga;rw [← hga] at Xa
 try rw [← hga]
 obtain ⟨gy, hgy⟩ := exq w.heap.size;have HGy : Hid (w.heap.size ≤ gy) := hgl hgy;rw [← hgy] at Xy
 try rw [← hgy]
 have HGD : Hid (gy ≠ ga ∧ gy ≠ gb ∧ gy ≠ gr ∧ ga ≠ gy ∧ ga ≠ gb ∧ ga ≠ gr ∧ gb ≠ gy ∧ gb ≠ ga ∧ gb ≠ gr ∧ gr ≠ gy ∧ gr ≠ ga ∧ gr ≠ gb) := by rw [hgy, hga, hgb, hgr]; show _ ∧ _; omega
 clear hgy hga hgb hgr;replace hbw := bon hbw hb0;clear hb0
 refine (dform_f s (H.out.1.below hbw) H.out.2).mono ?_
 rintro e v1 ⟨rfl, hb1⟩;replace Xy := Box.b Xy hb1;replace Xa := B3q.b Xa hb1;replace Xb := B3q.b Xb hb1;replace Xr := B3q.b Xr hb1;replace hbw := bon hbw hb1;clear hb1;obtain ⟨cr0, cr1, cr2, fr0, fr1, fr2⟩ := Xr.out;have hner : gr < v1.heap.size := blt cr0;go_wp2_with fail
 refine bodyPost_ret (v := .tuple #[DV false none 0 0 0, .int .i64 2]) (by rw [results_cell_tmp rfl]; go_simp) rfl ⟨rfl, ?_⟩
 first | exact hbw | exact bSet (bSet (bSet hbw _ _ _ HGr.out) _ _ _ HGr.out) _ _ _ HGr.out
theorem quo_bd {p q : Option Addr} {m c n d : Nat} {w : World} {e f : Int} {s t : Bool} {ys : List Nat} {x Q : Int} (h : DN w s p m c e x) (k : At w q n d ys) (hf : formD t ys f = false) (hQ : 1 ≤ Q ∧ Q ≤ 70000) :
  Calls Tryz.prog 10 #[WVd, DV s p m c e, DV t q n d f, .int .i64 Q] w fun en w' => en = .returned (.tuple #[DV false none 0 0 0, .int .i64 2]) ∧ Below w.heap.size w w' := by
 have g1 : ¬ Q < 1 := by omega
 have g2 : ¬ 70000 < Q := by omega
 have H := hdQ h;have K : Hid (At w q n d ys ∧ formD t ys f = false) := ⟨k, hf⟩;clear h k hf hQ
 go_enter Tryz.func10, Tryz.ntmps10
 go_wp2_with fail;obtain ⟨W0, hW0⟩ := exq ((((w.alloc (.cells #[.func (.func 16) #[] #[], .func (.func 17) #[] #[]] 38)).alloc (.cells #[.bool s, .slice p m c, .int .i64 e] 27)).alloc (.cells #[.bool t, .slice q n d, .int .i64 f] 27)).alloc (.cells #[.bool false, .slice none 0 0, .int .i64 0] 27))
 have Xy : Hid (Box W0 (w.heap.size) (.func (.func 16) #[] #[]) (.func (.func 17) #[] #[])) := by rw [hW0]; constructor <;> go_simp
 have Xa : Hid (B3q W0 (w.heap.size + 1) (.bool s) (.slice p m c) (.int .i64 e)) := by rw [hW0]; constructor <;> go_simp
 have Xb : Hid (B3q W0 (w.heap.size + 1 + 1) (.bool t) (.slice q n d) (.int .i64 f)) := by rw [hW0]; constructor <;> go_simp
 have Xr : Hid (B3q W0 (w.heap.size + 1 + 1 + 1) (.bool false) (.slice none 0 0) (.int .i64 0)) := by rw [hW0]; constructor <;> go_simp
 have hb0 : Below w.heap.size w W0 := by rw [hW0]; exact below4 w _ _ _ _
 rw [← hW0];clear hW0;have hbw := brf w;obtain ⟨gr, hgr⟩ := exq (w.heap.size + 1 + 1 + 1);have HGr : Hid (w.heap.size ≤ gr) := hgl hgr;rw [← hgr] at Xr
 try rw [← hgr]
 obtain ⟨gb, hgb⟩ := exq (w.heap.size + 1 + 1);have HGb : Hid (w.heap.size ≤ gb) := hgl hgb;rw [← hgb] at Xb
 try rw [← hgb]
 obtain ⟨ga, hga⟩ := exq (w.heap.size + 1);have HGa : Hid (w.heap.size ≤ ga) := hgl hga;rw [← hga] at Xa
 try rw [← hga]
 obtain ⟨gy, hgy⟩ := exq w.heap.size;have HGy : Hid (w.heap.size ≤ gy) := hgl hgy;rw [← hgy] at Xy
 try rw [← hgy]
 have HGD : Hid (gy ≠ ga ∧ gy ≠ gb ∧ gy ≠ gr ∧ ga ≠ gy ∧ ga ≠ gb ∧ ga ≠ gr ∧ gb ≠ gy ∧ gb ≠ ga ∧ gb ≠ gr ∧ gr ≠ gy ∧ gr ≠ ga ∧ gr ≠ gb) := by rw [hgy, hga, hgb, hgr]; show _ ∧ _; omega
 clear hgy hga hgb hgr;replace hbw := bon hbw hb0;clear hb0
 refine (dform_t (H.out.below hbw)).mono ?_
 rintro e v1 ⟨rfl, hb1⟩;replace Xy := Box.b Xy hb1;replace Xa := B3q.b Xa hb1;replace Xb := B3q.b Xb hb1;replace Xr := B3q.b Xr hb1;replace hbw := bon hbw hb1;clear hb1;obtain ⟨cb0, cb1, cb2, fb0, fb1, fb2⟩ := Xb.out;have hneb : gb < v1.heap.size := blt cb0;go_wp2_with fail;clear cb0 cb1 cb2 fb0 fb1 fb2 hneb
 refine (dform_f t (K.out.1.below hbw) K.out.2).mono ?_
 rintro e v2 ⟨rfl, hb2⟩;replace Xy := Box.b Xy hb2;replace Xa := B3q.b Xa hb2;replace Xb := B3q.b Xb hb2;replace Xr := B3q.b Xr hb2;replace hbw := bon hbw hb2;clear hb2;obtain ⟨cr0, cr1, cr2, fr0, fr1, fr2⟩ := Xr.out;have hner : gr < v2.heap.size := blt cr0;go_wp2_with fail
 refine bodyPost_ret (v := .tuple #[DV false none 0 0 0, .int .i64 2]) (by rw [results_cell_tmp rfl]; go_simp) rfl ⟨rfl, ?_⟩
 first | exact hbw | exact bSet (bSet (bSet hbw _ _ _ HGr.out) _ _ _ HGr.out) _ _ _ HGr.out
theorem quo_zd {p q : Option Addr} {m c n d : Nat} {w : World} {e f : Int} {s t : Bool} {x y Q : Int} (h : DN w s p m c e x) (k : DN w t q n d f y) (hy : y = 0) (hQ : 1 ≤ Q ∧ Q ≤ 70000) :
  Calls Tryz.prog 10 #[WVd, DV s p m c e, DV t q n d f, .int .i64 Q] w fun en w' => en = .returned (.tuple #[DV false none 0 0 0, .int .i64 4]) ∧ Below w.heap.size w w' := by
 have g1 : ¬ Q < 1 := by omega
 have g2 : ¬ 70000 < Q := by omega
 have H := hdQ h;have K := hdQ k;have HZ : Hid (y = 0) := hy;clear h k hy hQ
 go_enter Tryz.func10, Tryz.ntmps10
 go_wp2_with fail;obtain ⟨W0, hW0⟩ := exq ((((w.alloc (.cells #[.func (.func 16) #[] #[], .func (.func 17) #[] #[]] 38)).alloc (.cells #[.bool s, .slice p m c, .int .i64 e] 27)).alloc (.cells #[.bool t, .slice q n d, .int .i64 f] 27)).alloc (.cells #[.bool false, .slice none 0 0, .int .i64 0] 27))
 have Xy : Hid (Box W0 (w.heap.size) (.func (.func 16) #[] #[]) (.func (.func 17) #[] #[])) := by rw [hW0]; constructor <;> go_simp
 have Xa : Hid (B3q W0 (w.heap.size + 1) (.bool s) (.slice p m c) (.int .i64 e)) := by rw [hW0]; constructor <;> go_simp
 have Xb : Hid (B3q W0 (w.heap.size + 1 + 1) (.bool t) (.slice q n d) (.int .i64 f)) := by rw [hW0]; constructor <;> go_simp
 have Xr : Hid (B3q W0 (w.heap.size + 1 + 1 + 1) (.bool false) (.slice none 0 0) (.int .i64 0)) := by rw [hW0]; constructor <;> go_simp
 have hb0 : Below w.heap.size w W0 := by rw [hW0]; exact below4 w _ _ _ _
 rw [← hW0];clear hW0;have hbw := brf w;obtain ⟨gr, hgr⟩ := exq (w.heap.size + 1 + 1 + 1);have HGr : Hid (w.heap.size ≤ gr) := hgl hgr;rw [← hgr] at Xr
 try rw [← hgr]
 obtain ⟨gb, hgb⟩ := exq (w.heap.size + 1 + 1);have HGb : Hid (w.heap.size ≤ gb) := hgl hgb;rw [← hgb] at Xb
 try rw [← hgb]
 obtain ⟨ga, hga⟩ := exq (w.heap.size + 1);have HGa : Hid (w.heap.size ≤ ga) := hgl hga;rw [← hga] at Xa
 try rw [← hga]
 obtain ⟨gy, hgy⟩ := exq w.heap.size;have HGy : Hid (w.heap.size ≤ gy) := hgl hgy;rw [← hgy] at Xy
 try rw [← hgy]
 have HGD : Hid (gy ≠ ga ∧ gy ≠ gb ∧ gy ≠ gr ∧ ga ≠ gy ∧ ga ≠ gb ∧ ga ≠ gr ∧ gb ≠ gy ∧ gb ≠ ga ∧ gb ≠ gr ∧ gr ≠ gy ∧ gr ≠ ga ∧ gr ≠ gb) := by rw [hgy, hga, hgb, hgr]; show _ ∧ _; omega
 clear hgy hga hgb hgr;replace hbw := bon hbw hb0;clear hb0
 refine (dform_t (H.out.below hbw)).mono ?_
 rintro e v1 ⟨rfl, hb1⟩;replace Xy := Box.b Xy hb1;replace Xa := B3q.b Xa hb1;replace Xb := B3q.b Xb hb1;replace Xr := B3q.b Xr hb1;replace hbw := bon hbw hb1;clear hb1;obtain ⟨cb0, cb1, cb2, fb0, fb1, fb2⟩ := Xb.out;have hneb : gb < v1.heap.size := blt cb0;go_wp2_with fail;clear cb0 cb1 cb2 fb0 fb1 fb2 hneb
 refine (dform_t (K.out.below hbw)).mono ?_
 rintro e v2 ⟨rfl, hb2⟩;replace Xy := Box.b Xy hb2;replace Xa := B3q.b Xa hb2;replace Xb := B3q.b Xb hb2;replace Xr := B3q.b Xr hb2;replace hbw := bon hbw hb2;clear hb2;obtain ⟨cb0, cb1, cb2, fb0, fb1, fb2⟩ := Xb.out;have hneb : gb < v2.heap.size := blt cb0;go_wp2_with fail;clear cb0 cb1 cb2 fb0 fb1 fb2 hneb
 refine (zsign (K.out.zn.below hbw)).mono ?_
 rintro e v3 ⟨rfl, hb3⟩;obtain ⟨sg, hsg⟩ := exq (sgnI y);rw [← hsg]
 have hs0 : (sg == 0) = true := by rw [hsg]; have := HZ.out; unfold sgnI; split <;> (try split) <;> simp <;> omega
 clear hsg;replace Xy := Box.b Xy hb3;replace Xa := B3q.b Xa hb3;replace Xb := B3q.b Xb hb3;replace Xr := B3q.b Xr hb3;replace hbw := bon hbw hb3;clear hb3;obtain ⟨cr0, cr1, cr2, fr0, fr1, fr2⟩ := Xr.out;have hner : gr < v3.heap.size := blt cr0;go_wp2_with fail
 refine bodyPost_ret (v := .tuple #[DV false none 0 0 0, .int .i64 4]) (by rw [results_cell_tmp rfl]; go_simp) rfl ⟨rfl, ?_⟩
 first | exact hbw | exact bSet (bSet (bSet hbw _ _ _ HGr.out) _ _ _ HGr.out) _ _ _ HGr.out
theorem quo_md {p q : Option Addr} {m c n d : Nat} {w : World} {e f : Int} {s t : Bool} {x y Q : Int} (h : DN w s p m c e x) (k : DN w t q n d f y) (hy : y ≠ 0) (hm : 4096 < max m n) (hQ : 1 ≤ Q ∧ Q ≤ 70000) :
  Calls Tryz.prog 10 #[WVd, DV s p m c e, DV t q n d f, .int .i64 Q] w fun en w' => en = .returned (.tuple #[DV false none 0 0 0, .int .i64 5]) ∧ Below w.heap.size w w' := by
 have g1 : ¬ Q < 1 := by omega
 have g2 : ¬ 70000 < Q := by omega
 have H := hdQ h;have K := hdQ k;have HZ : Hid (y ≠ 0) := hy
 have g3 : (4096 : Int) < max (m : Int) n := by omega
 clear h k hy hQ hm
 go_enter Tryz.func10, Tryz.ntmps10
 go_wp2_with fail;obtain ⟨W0, hW0⟩ := exq ((((w.alloc (.cells #[.func (.func 16) #[] #[], .func (.func 17) #[] #[]] 38)).alloc (.cells #[.bool s, .slice p m c, .int .i64 e] 27)).alloc (.cells #[.bool t, .slice q n d, .int .i64 f] 27)).alloc (.cells #[.bool false, .slice none 0 0, .int .i64 0] 27))
 have Xy : Hid (Box W0 (w.heap.size) (.func (.func 16) #[] #[]) (.func (.func 17) #[] #[])) := by rw [hW0]; constructor <;> go_simp
 have Xa : Hid (B3q W0 (w.heap.size + 1) (.bool s) (.slice p m c) (.int .i64 e)) := by rw [hW0]; constructor <;> go_simp
 have Xb : Hid (B3q W0 (w.heap.size + 1 + 1) (.bool t) (.slice q n d) (.int .i64 f)) := by rw [hW0]; constructor <;> go_simp
 have Xr : Hid (B3q W0 (w.heap.size + 1 + 1 + 1) (.bool false) (.slice none 0 0) (.int .i64 0)) := by rw [hW0]; constructor <;> go_simp
 have hb0 : Below w.heap.size w W0 := by rw [hW0]; exact below4 w _ _ _ _
 rw [← hW0];clear hW0;have hbw := brf w;obtain ⟨gr, hgr⟩ := exq (w.heap.size + 1 + 1 + 1);have HGr : Hid (w.heap.size ≤ gr) := hgl hgr;rw [← hgr] at Xr
 try rw [← hgr]
 obtain ⟨gb, hgb⟩ := exq (w.heap.size + 1 + 1);have HGb : Hid (w.heap.size ≤ gb) := hgl hgb;rw [← hgb] at Xb
 try rw [← hgb]
 obtain ⟨ga, hga⟩ := exq (w.heap.size + 1);have HGa : Hid (w.heap.size ≤ ga) := hgl hga;rw [← hga] at Xa
 try rw [← hga]
 obtain ⟨gy, hgy⟩ := exq w.heap.size;have HGy : Hid (w.heap.size ≤ gy) := hgl hgy;rw [← hgy] at Xy
 try rw [← hgy]
 have HGD : Hid (gy ≠ ga ∧ gy ≠ gb ∧ gy ≠ gr ∧ ga ≠ gy ∧ ga ≠ gb ∧ ga ≠ gr ∧ gb ≠ gy ∧ gb ≠ ga ∧ gb ≠ gr ∧ gr ≠ gy ∧ gr ≠ ga ∧ gr ≠ gb) := by rw [hgy, hga, hgb, hgr]; show _ ∧ _; omega
 clear hgy hga hgb hgr;replace hbw := bon hbw hb0;clear hb0
 refine (dform_t (H.out.below hbw)).mono ?_
 rintro e v1 ⟨rfl, hb1⟩;replace Xy := Box.b Xy hb1;replace Xa := B3q.b Xa hb1;replace Xb := B3q.b Xb hb1;replace Xr := B3q.b Xr hb1;replace hbw := bon hbw hb1;clear hb1;obtain ⟨cb0, cb1, cb2, fb0, fb1, fb2⟩ := Xb.out;have hneb : gb < v1.heap.size := blt cb0;go_wp2_with fail;clear cb0 cb1 cb2 fb0 fb1 fb2 hneb
 refine (dform_t (K.out.below hbw)).mono ?_
 rintro e v2 ⟨rfl, hb2⟩;replace Xy := Box.b Xy hb2;replace Xa := B3q.b Xa hb2;replace Xb := B3q.b Xb hb2;replace Xr := B3q.b Xr hb2;replace hbw := bon hbw hb2;clear hb2;obtain ⟨cb0, cb1, cb2, fb0, fb1, fb2⟩ := Xb.out;have hneb : gb < v2.heap.size := blt cb0;go_wp2_with fail;clear cb0 cb1 cb2 fb0 fb1 fb2 hneb
 refine (zsign (K.out.zn.below hbw)).mono ?_
 rintro e v3 ⟨rfl, hb3⟩;obtain ⟨sg, hsg⟩ := exq (sgnI y);rw [← hsg]
 have hs0 : (sg == 0) = false := by rw [hsg]; have := HZ.out; unfold sgnI; split <;> (try split) <;> simp <;> omega
 clear hsg;replace Xy := Box.b Xy hb3;replace Xa := B3q.b Xa hb3;replace Xb := B3q.b Xb hb3;replace Xr := B3q.b Xr hb3;replace hbw := bon hbw hb3;clear hb3;obtain ⟨ca0, ca1, ca2, fa0, fa1, fa2⟩ := Xa.out;have hnea : ga < v3.heap.size := blt ca0;obtain ⟨cb0, cb1, cb2, fb0, fb1, fb2⟩ := Xb.out;have hneb : gb < v3.heap.size := blt cb0;obtain ⟨cr0, cr1, cr2, fr0, fr1, fr2⟩ := Xr.out;have hner : gr < v3.heap.size := blt cr0;go_wp2_with fail
 refine bodyPost_ret (v := .tuple #[DV false none 0 0 0, .int .i64 5]) (by rw [results_cell_tmp rfl]; go_simp) rfl ⟨rfl, ?_⟩
 first | exact hbw | exact bSet (bSet (bSet hbw _ _ _ HGr.out) _ _ _ HGr.out) _ _ _ HGr.out
theorem quo_od {p q : Option Addr} {m c n d : Nat} {w : World} {e f : Int} {s t : Bool} {x y X Y L Z : Int} {P K9 : Nat} (h : DN w s p m c e x) (k : DN w t q n d f y) (hy : y ≠ 0) (hm : m ≤ 4096) (hn : n ≤ 4096) (hP : 1 ≤ P ∧ P ≤ 70000) (hw : WB x y P X Y L) (hZ : Z = qI false X Y) (hK : K9 = bitsN Z.natAbs - P) (hT : Tab w) :
  Calls Tryz.prog 10 #[WVd, DV s p m c e, DV t q n d f, .int .i64 P] w fun en w' => MakeP w.heap.size w' en (rd false Z (2 ^ K9)) (e - f - L + K9) ∧ Below w.heap.size w w' := by
 have H := hdQ h;have K := hdQ k;have HZ : Hid (y ≠ 0) := hy;have HM : Hid (m ≤ 4096 ∧ n ≤ 4096) := ⟨hm, hn⟩;have HP : Hid (1 ≤ P ∧ P ≤ 70000) := hP;have HW := hdQ hw;have HK := hdQ hK;have TB : Hid (Tab w) := hT
 have HY0 : Hid (Y ≠ 0) := by
  rw [hw.yv]
  exact Int.mul_ne_zero hy (by rw [pow_cast]; exact pow_pos_int _)
 have b1 := half_bits h.zn hm;have b2 := half_bits k.zn hn;have hl := hw.l
 have he : -1048576 ≤ e ∧ e ≤ 1048576 := by rcases h.fm with ⟨_, h5⟩ | ⟨_, h5⟩ <;> omega
 have hf : -1048576 ≤ f ∧ f ≤ 1048576 := by rcases k.fm with ⟨_, h5⟩ | ⟨_, h5⟩ <;> omega
 have g1 : ¬ (P : Int) < 1 := by omega
 have g2 : ¬ (70000 : Int) < P := by omega
 have g3 : ¬ (4096 : Int) < max (m : Int) n := by omega
 have u1 : wrap64 (e - f) = e - f := by simp only [wrap64]; omega
 have u2 : wrap64 (e - f - L) = e - f - L := by simp only [wrap64]; omega
 have u3 : IntKind.i64.wrap (e - f) = e - f := by simp [IntKind.wrap, IntKind.signed, IntKind.bits]; omega
 have u4 : IntKind.i64.wrap (e - f - L) = e - f - L := by simp [IntKind.wrap, IntKind.signed, IntKind.bits]; omega
 have HU : Hid (wrap64 (e - f) = e - f ∧ wrap64 (e - f - L) = e - f - L ∧ IntKind.i64.wrap (e - f) = e - f ∧ IntKind.i64.wrap (e - f - L) = e - f - L) := ⟨u1, u2, u3, u4⟩
 have HE : Hid (-2621440 ≤ e - f - L ∧ e - f - L ≤ 2621440) := ⟨by omega, by omega⟩
 have HQ : Hid (fl (decide (X < 0) != decide (Y < 0)) X.natAbs Y.natAbs = Z) := hZ.symm;clear h k hy hm hn hP hw hZ hK hT b1 b2 hl he hf u1 u2 u3 u4
 go_enter Tryz.func10, Tryz.ntmps10
 go_wp2_with fail;obtain ⟨W0, hW0⟩ := exq ((((w.alloc (.cells #[.func (.func 16) #[] #[], .func (.func 17) #[] #[]] 38)).alloc (.cells #[.bool s, .slice p m c, .int .i64 e] 27)).alloc (.cells #[.bool t, .slice q n d, .int .i64 f] 27)).alloc (.cells #[.bool false, .slice none 0 0, .int .i64 0] 27))
 have Xy : Hid (Box W0 (w.heap.size) (.func (.func 16) #[] #[]) (.func (.func 17) #[] #[])) := by rw [hW0]; constructor <;> go_simp
 have Xa : Hid (B3q W0 (w.heap.size + 1) (.bool s) (.slice p m c) (.int .i64 e)) := by rw [hW0]; constructor <;> go_simp
 have Xb : Hid (B3q W0 (w.heap.size + 1 + 1) (.bool t) (.slice q n d) (.int .i64 f)) := by rw [hW0]; constructor <;> go_simp
 have Xr : Hid (B3q W0 (w.heap.size + 1 + 1 + 1) (.bool false) (.slice none 0 0) (.int .i64 0)) := by rw [hW0]; constructor <;> go_simp
 have hb0 : Below w.heap.size w W0 := by rw [hW0]; exact below4 w _ _ _ _
 rw [← hW0];clear hW0;have hbw := brf w;obtain ⟨gr, hgr⟩ := exq (w.heap.size + 1 + 1 + 1);have HGr : Hid (w.heap.size ≤ gr) := hgl hgr;rw [← hgr] at Xr
 try rw [← hgr]
 obtain ⟨gb, hgb⟩ := exq (w.heap.size + 1 + 1);have HGb : Hid (w.heap.size ≤ gb) := hgl hgb;rw [← hgb] at Xb
 try rw [← hgb]
 obtain ⟨ga, hga⟩ := exq (w.heap.size + 1);have HGa : Hid (w.heap.size ≤ ga) := hgl hga;rw [← hga] at Xa
 try rw [← hga]
 obtain ⟨gy, hgy⟩ := exq w.heap.size;have HGy : Hid (w.heap.size ≤ gy) := hgl hgy;rw [← hgy] at Xy
 try rw [← hgy]
 have HGD : Hid (gy ≠ ga ∧ gy ≠ gb ∧ gy ≠ gr ∧ ga ≠ gy ∧ ga ≠ gb ∧ ga ≠ gr ∧ gb ≠ gy ∧ gb ≠ ga ∧ gb ≠ gr ∧ gr ≠ gy ∧ gr ≠ ga ∧ gr ≠ gb) := by rw [hgy, hga, hgb, hgr]; show _ ∧ _; omega
 clear hgy hga hgb hgr;replace hbw := bon hbw hb0;clear hb0
 refine (dform_t (H.out.below hbw)).mono ?_
 rintro e v1 ⟨rfl, hb1⟩;replace Xy := Box.b Xy hb1;replace Xa := B3q.b Xa hb1;replace Xb := B3q.b Xb hb1;replace Xr := B3q.b Xr hb1;replace hbw := bon hbw hb1;clear hb1;obtain ⟨cb0, cb1, cb2, fb0, fb1, fb2⟩ := Xb.out;have hneb : gb < v1.heap.size := blt cb0;go_wp2_with fail;clear cb0 cb1 cb2 fb0 fb1 fb2 hneb
 refine (dform_t (K.out.below hbw)).mono ?_
 rintro e v2 ⟨rfl, hb2⟩;replace Xy := Box.b Xy hb2;replace Xa := B3q.b Xa hb2;replace Xb := B3q.b Xb hb2;replace Xr := B3q.b Xr hb2;replace hbw := bon hbw hb2;clear hb2;obtain ⟨cb0, cb1, cb2, fb0, fb1, fb2⟩ := Xb.out;have hneb : gb < v2.heap.size := blt cb0;go_wp2_with fail;clear cb0 cb1 cb2 fb0 fb1 fb2 hneb
 refine (zsign (K.out.zn.below hbw)).mono ?_
 rintro e v3 ⟨rfl, hb3⟩;obtain ⟨sg, hsg⟩ := exq (sgnI y);rw [← hsg]
 have hs0 : (sg == 0) = false := by rw [hsg]; have := HZ.out; unfold sgnI; split <;> (try split) <;> simp <;> omega
 clear hsg;replace Xy := Box.b Xy hb3;replace Xa := B3q.b Xa hb3;replace Xb := B3q.b Xb hb3;replace Xr := B3q.b Xr hb3;replace hbw := bon hbw hb3;clear hb3;obtain ⟨ca0, ca1, ca2, fa0, fa1, fa2⟩ := Xa.out;have hnea : ga < v3.heap.size := blt ca0;obtain ⟨cb0, cb1, cb2, fb0, fb1, fb2⟩ := Xb.out;have hneb : gb < v3.heap.size := blt cb0;go_wp2_with fail;clear ca0 ca1 ca2 fa0 fa1 fa2 hnea cb0 cb1 cb2 fb0 fb1 fb2 hneb hs0 g1 g2 g3
 refine (wbits (H.out.zn.below hbw) (K.out.zn.below hbw) HP.out HM.out.1 HM.out.2 HZ.out HW.out).mono ?_
 rintro e2 v5 ⟨s5, p5, m5, c5, s6, p6, m6, c6, rfl, hz5, hz6, hb5⟩;replace Xy := Box.b Xy hb5;replace Xa := B3q.b Xa hb5;replace Xb := B3q.b Xb hb5;replace Xr := B3q.b Xr hb5;replace hbw := bon hbw hb5;clear hb5;have Z5 := hdQ hz5;have Z6 := hdQ hz6;clear hz5 hz6;obtain ⟨cy0, cy1, fy0, fy1⟩ := Xy.out;have hney := Xy.out.lt;go_wp2_with fail;clear cy0 cy1 fy0 fy1 hney
 rw [show v5.heap.size + 1 = (v5.alloc (.cells #[.bool s5, .slice p5 m5 c5] 25)).heap.size from by simp]
 have XX0 : Hid (Box (v5.alloc (.cells #[.bool s5, .slice p5 m5 c5] 25)) v5.heap.size (.bool s5) (.slice p5 m5 c5)) := Box.new v5 _ _ _;have hbn : Below v5.heap.size v5 (v5.alloc (.cells #[.bool s5, .slice p5 m5 c5] 25)) := below1 v5 _;generalize v5.alloc (.cells #[.bool s5, .slice p5 m5 c5] 25) = Wx at *;have HGX : Hid (w.heap.size ≤ v5.heap.size) := hbw.size;replace Xy := Box.b Xy hbn;replace Xa := B3q.b Xa hbn;replace Xb := B3q.b Xb hbn;replace Xr := B3q.b Xr hbn;replace Z5 := ZN.b Z5 hbn;replace Z6 := ZN.b Z6 hbn;replace hbw := bon hbw hbn;clear hbn;generalize v5.heap.size = gX at *;have XX := XX0;clear XX0;have XY0 : Hid (Box (Wx.alloc (.cells #[.bool s6, .slice p6 m6 c6] 25)) Wx.heap.size (.bool s6) (.slice p6 m6 c6)) := Box.new Wx _ _ _;have hbn : Below Wx.heap.size Wx (Wx.alloc (.cells #[.bool s6, .slice p6 m6 c6] 25)) := below1 Wx _;generalize Wx.alloc (.cells #[.bool s6, .slice p6 m6 c6] 25) = Wy at *
 have HGY : Hid (w.heap.size ≤ Wx.heap.size) := hbw.size;replace Xy := Box.b Xy hbn;replace Xa := B3q.b Xa hbn;replace Xb := B3q.b Xb hbn;replace Xr := B3q.b Xr hbn;replace XX := Box.b XX hbn;replace Z5 := ZN.b Z5 hbn;replace Z6 := ZN.b Z6 hbn;replace hbw := bon hbw hbn;clear hbn;generalize Wx.heap.size = gY at *;have XY := XY0;clear XY0
 refine (zfdiv Z5.out Z6.out HY0.out).mono ?_
 rintro e v7 ⟨⟨s7, p7, m7, rfl, hz⟩, hb7⟩;replace Xy := Box.b Xy hb7;replace Xa := B3q.b Xa hb7;replace Xb := B3q.b Xb hb7;replace Xr := B3q.b Xr hb7;replace XX := Box.b XX hb7;replace XY := Box.b XY hb7;replace Z5 := ZN.b Z5 hb7;replace Z6 := ZN.b Z6 hb7;replace hbw := bon hbw hb7;clear hb7;have hz := hz.cast (z' := Z) (HQ.out);have Z7 := hdQ hz;clear hz XX XY Z5 Z6;have u1 := HU.out.1;have u2 := HU.out.2.1;have u3 := HU.out.2.2.1;have u4 := HU.out.2.2.2;obtain ⟨cy0, cy1, fy0, fy1⟩ := Xy.out;have hney := Xy.out.lt;obtain ⟨ca0, ca1, ca2, fa0, fa1, fa2⟩ := Xa.out;have hnea : ga < v7.heap.size := blt ca0;obtain ⟨cb0, cb1, cb2, fb0, fb1, fb2⟩ := Xb.out;have hneb : gb < v7.heap.size := blt cb0;go_wp2_with fail;clear cy0 cy1 fy0 fy1 hney ca0 ca1 ca2 fa0 fa1 fa2 hnea cb0 cb1 cb2 fb0 fb1 fb2 hneb u1 u2 u3 u4;have Xq0 : Hid (Box (v7.alloc (.cells #[.bool s7, .slice p7 m7 m7] 25)) v7.heap.size (.bool s7) (.slice p7 m7 m7)) := Box.new v7 _ _ _
 have hbn : Below v7.heap.size v7 (v7.alloc (.cells #[.bool s7, .slice p7 m7 m7] 25)) := below1 v7 _;generalize v7.alloc (.cells #[.bool s7, .slice p7 m7 m7] 25) = Wq at *;have HGq : Hid (w.heap.size ≤ v7.heap.size) := hbw.size;replace Xy := Box.b Xy hbn;replace Xa := B3q.b Xa hbn;replace Xb := B3q.b Xb hbn;replace Xr := B3q.b Xr hbn;replace Z7 := ZN.b Z7 hbn;replace hbw := bon hbw hbn;clear hbn;generalize v7.heap.size = gq at *;have Xq := Xq0;clear Xq0;have HRL : Hid (gr < Wq.heap.size ∧ w.heap.size ≤ Wq.heap.size) := ⟨Xr.out.lt, hbw.size⟩
 refine (cut_d Z7.out HE.out HP.out HK.out (TB.out.below hbw)).mono ?_
 rintro e2 v6 ⟨hv, hb6⟩;obtain ⟨s6, p6, m6, eo, er, rfl, hmp⟩ := hv.open;clear hv;replace Xy := Box.b Xy hb6;replace Xa := B3q.b Xa hb6;replace Xb := B3q.b Xb hb6;replace Xr := B3q.b Xr hb6;replace Xq := Box.b Xq hb6;replace Z7 := ZN.b Z7 hb6;replace hbw := bon hbw hb6;clear hb6;have M6 := hdQ hmp;clear hmp;obtain ⟨cr0, cr1, cr2, fr0, fr1, fr2⟩ := Xr.out;have hner : gr < v6.heap.size := blt cr0;go_wp2_with fail
 refine bodyPost_ret (v := .tuple #[DV s6 p6 m6 m6 eo, .int .i64 er]) (by rw [results_cell_tmp rfl]; go_simp) rfl ⟨(M6.out.set HRL.out.1 HRL.out.2 _ _ _).close, ?_⟩
 exact bSet (bSet (bSet hbw _ _ _ HGr.out) _ _ _ HGr.out) _ _ _ HGr.out
theorem qf_ld {p q : Option Addr} {m c n d : Nat} {w : World} {e f : Int} {s t : Bool} {Q : Int} (hQ : Q < 1) :
  Calls Tryz.prog 4 #[DV s p m c e, DV t q n d f, .int .i64 Q] w fun en w' => en = .returned (.tuple #[DV false none 0 0 0, .int .i64 1]) ∧ Below w.heap.size w w' := by
 have HhQ : Hid (Q < 1) := hQ;clear hQ
 go_enter Tryz.func4, Tryz.ntmps4
 go_wp2_with fail;obtain ⟨W0, hW0⟩ := exq (((w.alloc (.cells #[.bool s, .slice p m c, .int .i64 e] 27)).alloc (.cells #[.bool t, .slice q n d, .int .i64 f] 27)).alloc (.cells #[.bool false, .slice none 0 0, .int .i64 0] 27))
 have Xa : Hid (B3q W0 (w.heap.size) (.bool s) (.slice p m c) (.int .i64 e)) := by rw [hW0]; constructor <;> go_simp
 have Xb : Hid (B3q W0 (w.heap.size + 1) (.bool t) (.slice q n d) (.int .i64 f)) := by rw [hW0]; constructor <;> go_simp
 have Xr : Hid (B3q W0 (w.heap.size + 1 + 1) (.bool false) (.slice none 0 0) (.int .i64 0)) := by rw [hW0]; constructor <;> go_simp
 have hb0 := bq3 hW0;rw [← hW0];clear hW0;have hbw := brf w;obtain ⟨gr, hgr⟩ := exq (w.heap.size + 1 + 1);have HGr : Hid (w.heap.size ≤ gr) := hgl hgr;rw [← hgr] at Xr
 try rw [← hgr]
 obtain ⟨gb, hgb⟩ := exq (w.heap.size + 1);have HGb : Hid (w.heap.size ≤ gb) := hgl hgb;rw [← hgb] at Xb
 try rw [← hgb]
 obtain ⟨ga, hga⟩ := exq w.heap.size;have HGa : Hid (w.heap.size ≤ ga) := hgl hga;rw [← hga] at Xa
 try rw [← hga]
 have HGD : Hid (ga ≠ gb ∧ ga ≠ gr ∧ gb ≠ ga ∧ gb ≠ gr ∧ gr ≠ ga ∧ gr ≠ gb) := by rw [hga, hgb, hgr]; show _ ∧ _; omega
 clear hga hgb hgr;replace hbw := bon hbw hb0;clear hb0;obtain ⟨W1, hW1⟩ := exq W0.drew
 have hbd : Below W0.heap.size W0 W1 := by rw [hW1]; exact bDrew1 (Below.refl _ _)
 replace Xa := B3q.b Xa hbd;replace Xb := B3q.b Xb hbd;replace Xr := B3q.b Xr hbd;replace hbw := bon hbw hbd;clear hbd
 have HJ : Hid ((fun W' : World => W'.cell? ⟨ga, 0, none⟩ = some (.bool s) ∧ W'.cell? ⟨ga, 1, none⟩ = some (.slice p m c) ∧ W'.cell? ⟨ga, 2, none⟩ = some (.int .i64 e) ∧ W'.cell? ⟨gb, 0, none⟩ = some (.bool t) ∧ W'.cell? ⟨gb, 1, none⟩ = some (.slice q n d) ∧ W'.cell? ⟨gb, 2, none⟩ = some (.int .i64 f)) W1) := ⟨Xa.out.c0, Xa.out.c1, Xa.out.c2, Xb.out.c0, Xb.out.c1, Xb.out.c2⟩
 refine wp_region_J (fun W' => W'.cell? ⟨ga, 0, none⟩ = some (.bool s) ∧ W'.cell? ⟨ga, 1, none⟩ = some (.slice p m c) ∧ W'.cell? ⟨ga, 2, none⟩ = some (.int .i64 e) ∧ W'.cell? ⟨gb, 0, none⟩ = some (.bool t) ∧ W'.cell? ⟨gb, 1, none⟩ = some (.slice q n d) ∧ W'.cell? ⟨gb, 2, none⟩ = some (.int .i64 f)) (by kernel_rfl) ?_
 rw [← hW1];clear hW1
 refine wpJ_tq 1 rfl HJ.out ?_
 refine wpJ_tq 2 rfl HJ.out ?_
 refine wpJ_tq 3 rfl HJ.out ?_
 refine wpJ_on 0 rfl fun KJ hK => ?_
 go_simp
 refine (way_d _).mono ?_
 rintro e v1 ⟨rfl, hb1⟩;replace Xa := B3q.b Xa hb1;replace Xb := B3q.b Xb hb1;replace Xr := B3q.b Xr hb1;replace hbw := bon hbw hb1;clear hb1
 refine hK _ _ ⟨Xa.out.c0, Xa.out.c1, Xa.out.c2, Xb.out.c0, Xb.out.c1, Xb.out.c2⟩ ?_
 clear hK
 refine wpJ_on 4 rfl fun KJ hK => ?_
 go_simp
 refine (quo_ld HhQ.out).mono ?_
 rintro e v6 ⟨rfl, hb6⟩;replace Xa := B3q.b Xa hb6;replace Xb := B3q.b Xb hb6;replace Xr := B3q.b Xr hb6;replace hbw := bon hbw hb6;clear hb6 HJ
 have HJ : Hid ((fun W' : World => W'.cell? ⟨ga, 0, none⟩ = some (.bool s) ∧ W'.cell? ⟨ga, 1, none⟩ = some (.slice p m c) ∧ W'.cell? ⟨ga, 2, none⟩ = some (.int .i64 e) ∧ W'.cell? ⟨gb, 0, none⟩ = some (.bool t) ∧ W'.cell? ⟨gb, 1, none⟩ = some (.slice q n d) ∧ W'.cell? ⟨gb, 2, none⟩ = some (.int .i64 f)) v6) := ⟨Xa.out.c0, Xa.out.c1, Xa.out.c2, Xb.out.c0, Xb.out.c1, Xb.out.c2⟩
 refine hK _ _ HJ.out ?_
 clear hK
 refine wpJ_tq 5 rfl HJ.out ?_
 refine wpJ_tq 6 rfl HJ.out ?_
 obtain ⟨cr0, cr1, cr2, fr0, fr1, fr2⟩ := Xr.out;have hner : gr < v6.heap.size := blt cr0;obtain ⟨ca0, ca1, ca2, fa0, fa1, fa2⟩ := Xa.out;have hnea : ga < v6.heap.size := blt ca0;obtain ⟨cb0, cb1, cb2, fb0, fb1, fb2⟩ := Xb.out;have hneb : gb < v6.heap.size := blt cb0;obtain ⟨hgd0, hgd1, hgd2, hgd3, hgd4, hgd5⟩ := HGD.out
 refine wpJ_on 7 rfl fun KJ hK => ?_
 go_simp
 have HJ2 : Hid ((fun W' : World => W'.cell? ⟨ga, 0, none⟩ = some (.bool s) ∧ W'.cell? ⟨ga, 1, none⟩ = some (.slice p m c) ∧ W'.cell? ⟨ga, 2, none⟩ = some (.int .i64 e) ∧ W'.cell? ⟨gb, 0, none⟩ = some (.bool t) ∧ W'.cell? ⟨gb, 1, none⟩ = some (.slice q n d) ∧ W'.cell? ⟨gb, 2, none⟩ = some (.int .i64 f)) (((v6.setCell ⟨gr, 0, none⟩ (.bool false)).setCell ⟨gr, 1, none⟩ (.slice none 0 0)).setCell ⟨gr, 2, none⟩ (.int .i64 0))) := ⟨by go_simp, by go_simp, by go_simp, by go_simp, by go_simp, by go_simp⟩
 refine hK _ _ HJ2.out ?_
 clear hK HJ;have HJ := HJ2;clear HJ2
 refine wpJ_tq 8 rfl HJ.out ?_
 refine wpJ_done (by kernel_rfl) ?_ _
 clear HJ;go_wp2_with fail
 refine bodyPost_ret (v := .tuple #[DV false none 0 0 0, .int .i64 1]) (by rw [results_cell_tmp rfl]; go_simp) rfl ⟨rfl, ?_⟩
 first | exact hbw | exact bSet (bSet (bSet hbw _ _ _ HGr.out) _ _ _ HGr.out) _ _ _ HGr.out
theorem qf_gd {p q : Option Addr} {m c n d : Nat} {w : World} {e f : Int} {s t : Bool} {Q : Int} (hQ : 70000 < Q) :
  Calls Tryz.prog 4 #[DV s p m c e, DV t q n d f, .int .i64 Q] w fun en w' => en = .returned (.tuple #[DV false none 0 0 0, .int .i64 1]) ∧ Below w.heap.size w w' := by
 have HhQ : Hid (70000 < Q) := hQ;clear hQ
 go_enter Tryz.func4, Tryz.ntmps4
 go_wp2_with fail;obtain ⟨W0, hW0⟩ := exq (((w.alloc (.cells #[.bool s, .slice p m c, .int .i64 e] 27)).alloc (.cells #[.bool t, .slice q n d, .int .i64 f] 27)).alloc (.cells #[.bool false, .slice none 0 0, .int .i64 0] 27))
 have Xa : Hid (B3q W0 (w.heap.size) (.bool s) (.slice p m c) (.int .i64 e)) := by rw [hW0]; constructor <;> go_simp
 have Xb : Hid (B3q W0 (w.heap.size + 1) (.bool t) (.slice q n d) (.int .i64 f)) := by rw [hW0]; constructor <;> go_simp
 have Xr : Hid (B3q W0 (w.heap.size + 1 + 1) (.bool false) (.slice none 0 0) (.int .i64 0)) := by rw [hW0]; constructor <;> go_simp
 have hb0 := bq3 hW0;rw [← hW0];clear hW0;have hbw := brf w;obtain ⟨gr, hgr⟩ := exq (w.heap.size + 1 + 1);have HGr : Hid (w.heap.size ≤ gr) := hgl hgr;rw [← hgr] at Xr
 try rw [← hgr]
 obtain ⟨gb, hgb⟩ := exq (w.heap.size + 1);have HGb : Hid (w.heap.size ≤ gb) := hgl hgb;rw [← hgb] at Xb
 try rw [← hgb]
 obtain ⟨ga, hga⟩ := exq w.heap.size;have HGa : Hid (w.heap.size ≤ ga) := hgl hga;rw [← hga] at Xa
 try rw [← hga]
 have HGD : Hid (ga ≠ gb ∧ ga ≠ gr ∧ gb ≠ ga ∧ gb ≠ gr ∧ gr ≠ ga ∧ gr ≠ gb) := by rw [hga, hgb, hgr]; show _ ∧ _; omega
 clear hga hgb hgr;replace hbw := bon hbw hb0;clear hb0;obtain ⟨W1, hW1⟩ := exq W0.drew
 have hbd : Below W0.heap.size W0 W1 := by rw [hW1]; exact bDrew1 (Below.refl _ _)
 replace Xa := B3q.b Xa hbd;replace Xb := B3q.b Xb hbd;replace Xr := B3q.b Xr hbd;replace hbw := bon hbw hbd;clear hbd
 have HJ : Hid ((fun W' : World => W'.cell? ⟨ga, 0, none⟩ = some (.bool s) ∧ W'.cell? ⟨ga, 1, none⟩ = some (.slice p m c) ∧ W'.cell? ⟨ga, 2, none⟩ = some (.int .i64 e) ∧ W'.cell? ⟨gb, 0, none⟩ = some (.bool t) ∧ W'.cell? ⟨gb, 1, none⟩ = some (.slice q n d) ∧ W'.cell? ⟨gb, 2, none⟩ = some (.int .i64 f)) W1) := ⟨Xa.out.c0, Xa.out.c1, Xa.out.c2, Xb.out.c0, Xb.out.c1, Xb.out.c2⟩
 refine wp_region_J (fun W' => W'.cell? ⟨ga, 0, none⟩ = some (.bool s) ∧ W'.cell? ⟨ga, 1, none⟩ = some (.slice p m c) ∧ W'.cell? ⟨ga, 2, none⟩ = some (.int .i64 e) ∧ W'.cell? ⟨gb, 0, none⟩ = some (.bool t) ∧ W'.cell? ⟨gb, 1, none⟩ = some (.slice q n d) ∧ W'.cell? ⟨gb, 2, none⟩ = some (.int .i64 f)) (by kernel_rfl) ?_
 rw [← hW1];clear hW1
 refine wpJ_tq 1 rfl HJ.out ?_
 refine wpJ_tq 2 rfl HJ.out ?_
 refine wpJ_tq 3 rfl HJ.out ?_
 refine wpJ_on 0 rfl fun KJ hK => ?_
 go_simp
 refine (way_d _).mono ?_
 rintro e v1 ⟨rfl, hb1⟩;replace Xa := B3q.b Xa hb1;replace Xb := B3q.b Xb hb1;replace Xr := B3q.b Xr hb1;replace hbw := bon hbw hb1;clear hb1
 refine hK _ _ ⟨Xa.out.c0, Xa.out.c1, Xa.out.c2, Xb.out.c0, Xb.out.c1, Xb.out.c2⟩ ?_
 clear hK
 refine wpJ_on 4 rfl fun KJ hK => ?_
 go_simp
 refine (quo_gd HhQ.out).mono ?_
 rintro e v6 ⟨rfl, hb6⟩;replace Xa := B3q.b Xa hb6;replace Xb := B3q.b Xb hb6;replace Xr := B3q.b Xr hb6;replace hbw := bon hbw hb6;clear hb6 HJ
 have HJ : Hid ((fun W' : World => W'.cell? ⟨ga, 0, none⟩ = some (.bool s) ∧ W'.cell? ⟨ga, 1, none⟩ = some (.slice p m c) ∧ W'.cell? ⟨ga, 2, none⟩ = some (.int .i64 e) ∧ W'.cell? ⟨gb, 0, none⟩ = some (.bool t) ∧ W'.cell? ⟨gb, 1, none⟩ = some (.slice q n d) ∧ W'.cell? ⟨gb, 2, none⟩ = some (.int .i64 f)) v6) := ⟨Xa.out.c0, Xa.out.c1, Xa.out.c2, Xb.out.c0, Xb.out.c1, Xb.out.c2⟩
 refine hK _ _ HJ.out ?_
 clear hK
 refine wpJ_tq 5 rfl HJ.out ?_
 refine wpJ_tq 6 rfl HJ.out ?_
 obtain ⟨cr0, cr1, cr2, fr0, fr1, fr2⟩ := Xr.out;have hner : gr < v6.heap.size := blt cr0;obtain ⟨ca0, ca1, ca2, fa0, fa1, fa2⟩ := Xa.out;have hnea : ga < v6.heap.size := blt ca0;obtain ⟨cb0, cb1, cb2, fb0, fb1, fb2⟩ := Xb.out;have hneb : gb < v6.heap.size := blt cb0;obtain ⟨hgd0, hgd1, hgd2, hgd3, hgd4, hgd5⟩ := HGD.out
 refine wpJ_on 7 rfl fun KJ hK => ?_
 go_simp
 have HJ2 : Hid ((fun W' : World => W'.cell? ⟨ga, 0, none⟩ = some (.bool s) ∧ W'.cell? ⟨ga, 1, none⟩ = some (.slice p m c) ∧ W'.cell? ⟨ga, 2, none⟩ = some (.int .i64 e) ∧ W'.cell? ⟨gb, 0, none⟩ = some (.bool t) ∧ W'.cell? ⟨gb, 1, none⟩ = some (.slice q n d) ∧ W'.cell? ⟨gb, 2, none⟩ = some (.int .i64 f)) (((v6.setCell ⟨gr, 0, none⟩ (.bool false)).setCell ⟨gr, 1, none⟩ (.slice none 0 0)).setCell ⟨gr, 2, none⟩ (.int .i64 0))) := ⟨by go_simp, by go_simp, by go_simp, by go_simp, by go_simp, by go_simp⟩
 refine hK _ _ HJ2.out ?_
 clear hK HJ;have HJ := HJ2;clear HJ2
 refine wpJ_tq 8 rfl HJ.out ?_
 refine wpJ_done (by kernel_rfl) ?_ _
 clear HJ;go_wp2_with fail
 refine bodyPost_ret (v := .tuple #[DV false none 0 0 0, .int .i64 1]) (by rw [results_cell_tmp rfl]; go_simp) rfl ⟨rfl, ?_⟩
 first | exact hbw | exact bSet (bSet (bSet hbw _ _ _ HGr.out) _ _ _ HGr.out) _ _ _ HGr.out
theorem qf_ad {p q : Option Addr} {m c n d : Nat} {w : World} {e f : Int} {s t : Bool} {xs : List Nat} {Q : Int} (h : At w p m c xs) (hf : formD s xs e = false) (hQ : 1 ≤ Q ∧ Q ≤ 70000) :
  Calls Tryz.prog 4 #[DV s p m c e, DV t q n d f, .int .i64 Q] w fun en w' => en = .returned (.tuple #[DV false none 0 0 0, .int .i64 2]) ∧ Below w.heap.size w w' := by
 have Hh := hdQ h;have Hhf : Hid (formD s xs e = false) := hf;have HhQ : Hid (1 ≤ Q ∧ Q ≤ 70000) := hQ;clear h hf hQ
 go_enter Tryz.func4, Tryz.ntmps4
 go_wp2_with fail;obtain ⟨W0, hW0⟩ := exq (((w.alloc (.cells #[.bool s, .slice p m c, .int .i64 e] 27)).alloc (.cells #[.bool t, .slice q n d, .int .i64 f] 27)).alloc (.cells #[.bool false, .slice none 0 0, .int .i64 0] 27))
 have Xa : Hid (B3q W0 (w.heap.size) (.bool s) (.slice p m c) (.int .i64 e)) := by rw [hW0]; constructor <;> go_simp
 have Xb : Hid (B3q W0 (w.heap.size + 1) (.bool t) (.slice q n d) (.int .i64 f)) := by rw [hW0]; constructor <;> go_simp
 have Xr : Hid (B3q W0 (w.heap.size + 1 + 1) (.bool false) (.slice none 0 0) (.int .i64 0)) := by rw [hW0]; constructor <;> go_simp
 have hb0 := bq3 hW0;rw [← hW0];clear hW0;have hbw := brf w;obtain ⟨gr, hgr⟩ := exq (w.heap.size + 1 + 1);have HGr : Hid (w.heap.size ≤ gr) := hgl hgr;rw [← hgr] at Xr
 try rw [← hgr]
 obtain ⟨gb, hgb⟩ := exq (w.heap.size + 1);have HGb : Hid (w.heap.size ≤ gb) := hgl hgb;rw [← hgb] at Xb
 try rw [← hgb]
 obtain ⟨ga, hga⟩ := exq w.heap.size;have HGa : Hid (w.heap.size ≤ ga) := hgl hga;rw [← hga] at Xa
 try rw [← hga]
 have HGD : Hid (ga ≠ gb ∧ ga ≠ gr ∧ gb ≠ ga ∧ gb ≠ gr ∧ gr ≠ ga ∧ gr ≠ gb) := by rw [hga, hgb, hgr]; show _ ∧ _; omega
 clear hga hgb hgr;replace hbw := bon hbw hb0;clear hb0;obtain ⟨W1, hW1⟩ := exq W0.drew
 have hbd : Below W0.heap.size W0 W1 := by rw [hW1]; exact bDrew1 (Below.refl _ _)
 replace Xa := B3q.b Xa hbd;replace Xb := B3q.b Xb hbd;replace Xr := B3q.b Xr hbd;replace hbw := bon hbw hbd;clear hbd
 have HJ : Hid ((fun W' : World => W'.cell? ⟨ga, 0, none⟩ = some (.bool s) ∧ W'.cell? ⟨ga, 1, none⟩ = some (.slice p m c) ∧ W'.cell? ⟨ga, 2, none⟩ = some (.int .i64 e) ∧ W'.cell? ⟨gb, 0, none⟩ = some (.bool t) ∧ W'.cell? ⟨gb, 1, none⟩ = some (.slice q n d) ∧ W'.cell? ⟨gb, 2, none⟩ = some (.int .i64 f)) W1) := ⟨Xa.out.c0, Xa.out.c1, Xa.out.c2, Xb.out.c0, Xb.out.c1, Xb.out.c2⟩
 refine wp_region_J (fun W' => W'.cell? ⟨ga, 0, none⟩ = some (.bool s) ∧ W'.cell? ⟨ga, 1, none⟩ = some (.slice p m c) ∧ W'.cell? ⟨ga, 2, none⟩ = some (.int .i64 e) ∧ W'.cell? ⟨gb, 0, none⟩ = some (.bool t) ∧ W'.cell? ⟨gb, 1, none⟩ = some (.slice q n d) ∧ W'.cell? ⟨gb, 2, none⟩ = some (.int .i64 f)) (by kernel_rfl) ?_
 rw [← hW1];clear hW1
 refine wpJ_tq 1 rfl HJ.out ?_
 refine wpJ_tq 2 rfl HJ.out ?_
 refine wpJ_tq 3 rfl HJ.out ?_
 refine wpJ_on 0 rfl fun KJ hK => ?_
 go_simp
 refine (way_d _).mono ?_
 rintro e v1 ⟨rfl, hb1⟩;replace Xa := B3q.b Xa hb1;replace Xb := B3q.b Xb hb1;replace Xr := B3q.b Xr hb1;replace hbw := bon hbw hb1;clear hb1
 refine hK _ _ ⟨Xa.out.c0, Xa.out.c1, Xa.out.c2, Xb.out.c0, Xb.out.c1, Xb.out.c2⟩ ?_
 clear hK
 refine wpJ_on 4 rfl fun KJ hK => ?_
 go_simp
 refine (quo_ad (Hh.out.below hbw) Hhf.out HhQ.out).mono ?_
 rintro e v6 ⟨rfl, hb6⟩;replace Xa := B3q.b Xa hb6;replace Xb := B3q.b Xb hb6;replace Xr := B3q.b Xr hb6;replace hbw := bon hbw hb6;clear hb6 HJ
 have HJ : Hid ((fun W' : World => W'.cell? ⟨ga, 0, none⟩ = some (.bool s) ∧ W'.cell? ⟨ga, 1, none⟩ = some (.slice p m c) ∧ W'.cell? ⟨ga, 2, none⟩ = some (.int .i64 e) ∧ W'.cell? ⟨gb, 0, none⟩ = some (.bool t) ∧ W'.cell? ⟨gb, 1, none⟩ = some (.slice q n d) ∧ W'.cell? ⟨gb, 2, none⟩ = some (.int .i64 f)) v6) := ⟨Xa.out.c0, Xa.out.c1, Xa.out.c2, Xb.out.c0, Xb.out.c1, Xb.out.c2⟩
 refine hK _ _ HJ.out ?_
 clear hK
 refine wpJ_tq 5 rfl HJ.out ?_
 refine wpJ_tq 6 rfl HJ.out ?_
 obtain ⟨cr0, cr1, cr2, fr0, fr1, fr2⟩ := Xr.out;have hner : gr < v6.heap.size := blt cr0;obtain ⟨ca0, ca1, ca2, fa0, fa1, fa2⟩ := Xa.out;have hnea : ga < v6.heap.size := blt ca0;obtain ⟨cb0, cb1, cb2, fb0, fb1, fb2⟩ := Xb.out;have hneb : gb < v6.heap.size := blt cb0;obtain ⟨hgd0, hgd1, hgd2, hgd3, hgd4, hgd5⟩ := HGD.out
 refine wpJ_on 7 rfl fun KJ hK => ?_
 go_simp
 have HJ2 : Hid ((fun W' : World => W'.cell? ⟨ga, 0, none⟩ = some (.bool s) ∧ W'.cell? ⟨ga, 1, none⟩ = some (.slice p m c) ∧ W'.cell? ⟨ga, 2, none⟩ = some (.int .i64 e) ∧ W'.cell? ⟨gb, 0, none⟩ = some (.bool t) ∧ W'.cell? ⟨gb, 1, none⟩ = some (.slice q n d) ∧ W'.cell? ⟨gb, 2, none⟩ = some (.int .i64 f)) (((v6.setCell ⟨gr, 0, none⟩ (.bool false)).setCell ⟨gr, 1, none⟩ (.slice none 0 0)).setCell ⟨gr, 2, none⟩ (.int .i64 0))) := ⟨by go_simp, by go_simp, by go_simp, by go_simp, by go_simp, by go_simp⟩
 refine hK _ _ HJ2.out ?_
 clear hK HJ;have HJ := HJ2;clear HJ2
 refine wpJ_tq 8 rfl HJ.out ?_
 refine wpJ_done (by kernel_rfl) ?_ _
 clear HJ;go_wp2_with fail
 refine bodyPost_ret (v := .tuple #[DV false none 0 0 0, .int .i64 2]) (by rw [results_cell_tmp rfl]; go_simp) rfl ⟨rfl, ?_⟩
 first | exact hbw | exact bSet (bSet (bSet hbw _ _ _ HGr.out) _ _ _ HGr.out) _ _ _ HGr.out
theorem qf_bd {p q : Option Addr} {m c n d : Nat} {w : World} {e f : Int} {s t : Bool} {ys : List Nat} {x Q : Int} (h : DN w s p m c e x) (k : At w q n d ys) (hf : formD t ys f = false) (hQ : 1 ≤ Q ∧ Q ≤ 70000) :
  Calls Tryz.prog 4 #[DV s p m c e, DV t q n d f, .int .i64 Q] w fun en w' => en = .returned (.tuple #[DV false none 0 0 0, .int .i64 2]) ∧ Below w.heap.size w w' := by
 have Hh := hdQ h;have Hk := hdQ k;have Hhf : Hid (formD t ys f = false) := hf;have HhQ : Hid (1 ≤ Q ∧ Q ≤ 70000) := hQ;clear h k hf hQ
 go_enter Tryz.func4, Tryz.ntmps4
 go_wp2_with fail;obtain ⟨W0, hW0⟩ := exq (((w.alloc (.cells #[.bool s, .slice p m c, .int .i64 e] 27)).alloc (.cells #[.bool t, .slice q n d, .int .i64 f] 27)).alloc (.cells #[.bool false, .slice none 0 0, .int .i64 0] 27))
 have Xa : Hid (B3q W0 (w.heap.size) (.bool s) (.slice p m c) (.int .i64 e)) := by rw [hW0]; constructor <;> go_simp
 have Xb : Hid (B3q W0 (w.heap.size + 1) (.bool t) (.slice q n d) (.int .i64 f)) := by rw [hW0]; constructor <;> go_simp
 have Xr : Hid (B3q W0 (w.heap.size + 1 + 1) (.bool false) (.slice none 0 0) (.int .i64 0)) := by rw [hW0]; constructor <;> go_simp
 have hb0 := bq3 hW0;rw [← hW0];clear hW0;have hbw := brf w;obtain ⟨gr, hgr⟩ := exq (w.heap.size + 1 + 1);have HGr : Hid (w.heap.size ≤ gr) := hgl hgr;rw [← hgr] at Xr
 try rw [← hgr]
 obtain ⟨gb, hgb⟩ := exq (w.heap.size + 1);have HGb : Hid (w.heap.size ≤ gb) := hgl hgb;rw [← hgb] at Xb
 try rw [← hgb]
 obtain ⟨ga, hga⟩ := exq w.heap.size;have HGa : Hid (w.heap.size ≤ ga) := hgl hga;rw [← hga] at Xa
 try rw [← hga]
 have HGD : Hid (ga ≠ gb ∧ ga ≠ gr ∧ gb ≠ ga ∧ gb ≠ gr ∧ gr ≠ ga ∧ gr ≠ gb) := by rw [hga, hgb, hgr]; show _ ∧ _; omega
 clear hga hgb hgr;replace hbw := bon hbw hb0;clear hb0;obtain ⟨W1, hW1⟩ := exq W0.drew
 have hbd : Below W0.heap.size W0 W1 := by rw [hW1]; exact bDrew1 (Below.refl _ _)
 replace Xa := B3q.b Xa hbd;replace Xb := B3q.b Xb hbd;replace Xr := B3q.b Xr hbd;replace hbw := bon hbw hbd;clear hbd
 have HJ : Hid ((fun W' : World => W'.cell? ⟨ga, 0, none⟩ = some (.bool s) ∧ W'.cell? ⟨ga, 1, none⟩ = some (.slice p m c) ∧ W'.cell? ⟨ga, 2, none⟩ = some (.int .i64 e) ∧ W'.cell? ⟨gb, 0, none⟩ = some (.bool t) ∧ W'.cell? ⟨gb, 1, none⟩ = some (.slice q n d) ∧ W'.cell? ⟨gb, 2, none⟩ = some (.int .i64 f)) W1) := ⟨Xa.out.c0, Xa.out.c1, Xa.out.c2, Xb.out.c0, Xb.out.c1, Xb.out.c2⟩
 refine wp_region_J (fun W' => W'.cell? ⟨ga, 0, none⟩ = some (.bool s) ∧ W'.cell? ⟨ga, 1, none⟩ = some (.slice p m c) ∧ W'.cell? ⟨ga, 2, none⟩ = some (.int .i64 e) ∧ W'.cell? ⟨gb, 0, none⟩ = some (.bool t) ∧ W'.cell? ⟨gb, 1, none⟩ = some (.slice q n d) ∧ W'.cell? ⟨gb, 2, none⟩ = some (.int .i64 f)) (by kernel_rfl) ?_
 rw [← hW1];clear hW1
 refine wpJ_tq 1 rfl HJ.out ?_
 refine wpJ_tq 2 rfl HJ.out ?_
 refine wpJ_tq 3 rfl HJ.out ?_
 refine wpJ_on 0 rfl fun KJ hK => ?_
 go_simp
 refine (way_d _).mono ?_
 rintro e v1 ⟨rfl, hb1⟩;replace Xa := B3q.b Xa hb1;replace Xb := B3q.b Xb hb1;replace Xr := B3q.b Xr hb1;replace hbw := bon hbw hb1;clear hb1
 refine hK _ _ ⟨Xa.out.c0, Xa.out.c1, Xa.out.c2, Xb.out.c0, Xb.out.c1, Xb.out.c2⟩ ?_
 clear hK
 refine wpJ_on 4 rfl fun KJ hK => ?_
 go_simp
 refine (quo_bd (Hh.out.below hbw) (Hk.out.below hbw) Hhf.out HhQ.out).mono ?_
 rintro e v6 ⟨rfl, hb6⟩;replace Xa := B3q.b Xa hb6;replace Xb := B3q.b Xb hb6;replace Xr := B3q.b Xr hb6;replace hbw := bon hbw hb6;clear hb6 HJ
 have HJ : Hid ((fun W' : World => W'.cell? ⟨ga, 0, none⟩ = some (.bool s) ∧ W'.cell? ⟨ga, 1, none⟩ = some (.slice p m c) ∧ W'.cell? ⟨ga, 2, none⟩ = some (.int .i64 e) ∧ W'.cell? ⟨gb, 0, none⟩ = some (.bool t) ∧ W'.cell? ⟨gb, 1, none⟩ = some (.slice q n d) ∧ W'.cell? ⟨gb, 2, none⟩ = some (.int .i64 f)) v6) := ⟨Xa.out.c0, Xa.out.c1, Xa.out.c2, Xb.out.c0, Xb.out.c1, Xb.out.c2⟩
 refine hK _ _ HJ.out ?_
 clear hK
 refine wpJ_tq 5 rfl HJ.out ?_
 refine wpJ_tq 6 rfl HJ.out ?_
 obtain ⟨cr0, cr1, cr2, fr0, fr1, fr2⟩ := Xr.out;have hner : gr < v6.heap.size := blt cr0;obtain ⟨ca0, ca1, ca2, fa0, fa1, fa2⟩ := Xa.out;have hnea : ga < v6.heap.size := blt ca0;obtain ⟨cb0, cb1, cb2, fb0, fb1, fb2⟩ := Xb.out;have hneb : gb < v6.heap.size := blt cb0;obtain ⟨hgd0, hgd1, hgd2, hgd3, hgd4, hgd5⟩ := HGD.out
 refine wpJ_on 7 rfl fun KJ hK => ?_
 go_simp
 have HJ2 : Hid ((fun W' : World => W'.cell? ⟨ga, 0, none⟩ = some (.bool s) ∧ W'.cell? ⟨ga, 1, none⟩ = some (.slice p m c) ∧ W'.cell? ⟨ga, 2, none⟩ = some (.int .i64 e) ∧ W'.cell? ⟨gb, 0, none⟩ = some (.bool t) ∧ W'.cell? ⟨gb, 1, none⟩ = some (.slice q n d) ∧ W'.cell? ⟨gb, 2, none⟩ = some (.int .i64 f)) (((v6.setCell ⟨gr, 0, none⟩ (.bool false)).setCell ⟨gr, 1, none⟩ (.slice none 0 0)).setCell ⟨gr, 2, none⟩ (.int .i64 0))) := ⟨by go_simp, by go_simp, by go_simp, by go_simp, by go_simp, by go_simp⟩
 refine hK _ _ HJ2.out ?_
 clear hK HJ;have HJ := HJ2;clear HJ2
 refine wpJ_tq 8 rfl HJ.out ?_
 refine wpJ_done (by kernel_rfl) ?_ _
 clear HJ;go_wp2_with fail
 refine bodyPost_ret (v := .tuple #[DV false none 0 0 0, .int .i64 2]) (by rw [results_cell_tmp rfl]; go_simp) rfl ⟨rfl, ?_⟩
 first | exact hbw | exact bSet (bSet (bSet hbw _ _ _ HGr.out) _ _ _ HGr.out) _ _ _ HGr.out
theorem qf_zd {p q : Option Addr} {m c n d : Nat} {w : World} {e f : Int} {s t : Bool} {x y Q : Int} (h : DN w s p m c e x) (k : DN w t q n d f y) (hy : y = 0) (hQ : 1 ≤ Q ∧ Q ≤ 70000) :
  Calls Tryz.prog 4 #[DV s p m c e, DV t q n d f, .int .i64 Q] w fun en w' => en = .returned (.tuple #[DV false none 0 0 0, .int .i64 4]) ∧ Below w.heap.size w w' := by
 have Hh := hdQ h;have Hk := hdQ k;have Hhy : Hid (y = 0) := hy;have HhQ : Hid (1 ≤ Q ∧ Q ≤ 70000) := hQ;clear h k hy hQ
 go_enter Tryz.func4, Tryz.ntmps4
 go_wp2_with fail;obtain ⟨W0, hW0⟩ := exq (((w.alloc (.cells #[.bool s, .slice p m c, .int .i64 e] 27)).alloc (.cells #[.bool t, .slice q n d, .int .i64 f] 27)).alloc (.cells #[.bool false, .slice none 0 0, .int .i64 0] 27))
 have Xa : Hid (B3q W0 (w.heap.size) (.bool s) (.slice p m c) (.int .i64 e)) := by rw [hW0]; constructor <;> go_simp
 have Xb : Hid (B3q W0 (w.heap.size + 1) (.bool t) (.slice q n d) (.int .i64 f)) := by rw [hW0]; constructor <;> go_simp
 have Xr : Hid (B3q W0 (w.heap.size + 1 + 1) (.bool false) (.slice none 0 0) (.int .i64 0)) := by rw [hW0]; constructor <;> go_simp
 have hb0 := bq3 hW0;rw [← hW0];clear hW0;have hbw := brf w;obtain ⟨gr, hgr⟩ := exq (w.heap.size + 1 + 1);have HGr : Hid (w.heap.size ≤ gr) := hgl hgr;rw [← hgr] at Xr
 try rw [← hgr]
 obtain ⟨gb, hgb⟩ := exq (w.heap.size + 1);have HGb : Hid (w.heap.size ≤ gb) := hgl hgb;rw [← hgb] at Xb
 try rw [← hgb]
 obtain ⟨ga, hga⟩ := exq w.heap.size;have HGa : Hid (w.heap.size ≤ ga) := hgl hga;rw [← hga] at Xa
 try rw [← hga]
 have HGD : Hid (ga ≠ gb ∧ ga ≠ gr ∧ gb ≠ ga ∧ gb ≠ gr ∧ gr ≠ ga ∧ gr ≠ gb) := by rw [hga, hgb, hgr]; show _ ∧ _; omega
 clear hga hgb hgr;replace hbw := bon hbw hb0;clear hb0;obtain ⟨W1, hW1⟩ := exq W0.drew
 have hbd : Below W0.heap.size W0 W1 := by rw [hW1]; exact bDrew1 (Below.refl _ _)
 replace Xa := B3q.b Xa hbd;replace Xb := B3q.b Xb hbd;replace Xr := B3q.b Xr hbd;replace hbw := bon hbw hbd;clear hbd
 have HJ : Hid ((fun W' : World => W'.cell? ⟨ga, 0, none⟩ = some (.bool s) ∧ W'.cell? ⟨ga, 1, none⟩ = some (.slice p m c) ∧ W'.cell? ⟨ga, 2, none⟩ = some (.int .i64 e) ∧ W'.cell? ⟨gb, 0, none⟩ = some (.bool t) ∧ W'.cell? ⟨gb, 1, none⟩ = some (.slice q n d) ∧ W'.cell? ⟨gb, 2, none⟩ = some (.int .i64 f)) W1) := ⟨Xa.out.c0, Xa.out.c1, Xa.out.c2, Xb.out.c0, Xb.out.c1, Xb.out.c2⟩
 refine wp_region_J (fun W' => W'.cell? ⟨ga, 0, none⟩ = some (.bool s) ∧ W'.cell? ⟨ga, 1, none⟩ = some (.slice p m c) ∧ W'.cell? ⟨ga, 2, none⟩ = some (.int .i64 e) ∧ W'.cell? ⟨gb, 0, none⟩ = some (.bool t) ∧ W'.cell? ⟨gb, 1, none⟩ = some (.slice q n d) ∧ W'.cell? ⟨gb, 2, none⟩ = some (.int .i64 f)) (by kernel_rfl) ?_
 rw [← hW1];clear hW1
 refine wpJ_tq 1 rfl HJ.out ?_
 refine wpJ_tq 2 rfl HJ.out ?_
 refine wpJ_tq 3 rfl HJ.out ?_
 refine wpJ_on 0 rfl fun KJ hK => ?_
 go_simp
 refine (way_d _).mono ?_
 rintro e v1 ⟨rfl, hb1⟩;replace Xa := B3q.b Xa hb1;replace Xb := B3q.b Xb hb1;replace Xr := B3q.b Xr hb1;replace hbw := bon hbw hb1;clear hb1
 refine hK _ _ ⟨Xa.out.c0, Xa.out.c1, Xa.out.c2, Xb.out.c0, Xb.out.c1, Xb.out.c2⟩ ?_
 clear hK
 refine wpJ_on 4 rfl fun KJ hK => ?_
 go_simp
 refine (quo_zd (Hh.out.below hbw) (Hk.out.below hbw) Hhy.out HhQ.out).mono ?_
 rintro e v6 ⟨rfl, hb6⟩;replace Xa := B3q.b Xa hb6;replace Xb := B3q.b Xb hb6;replace Xr := B3q.b Xr hb6;replace hbw := bon hbw hb6;clear hb6 HJ
 have HJ : Hid ((fun W' : World => W'.cell? ⟨ga, 0, none⟩ = some (.bool s) ∧ W'.cell? ⟨ga, 1, none⟩ = some (.slice p m c) ∧ W'.cell? ⟨ga, 2, none⟩ = some (.int .i64 e) ∧ W'.cell? ⟨gb, 0, none⟩ = some (.bool t) ∧ W'.cell? ⟨gb, 1, none⟩ = some (.slice q n d) ∧ W'.cell? ⟨gb, 2, none⟩ = some (.int .i64 f)) v6) := ⟨Xa.out.c0, Xa.out.c1, Xa.out.c2, Xb.out.c0, Xb.out.c1, Xb.out.c2⟩
 refine hK _ _ HJ.out ?_
 clear hK
 refine wpJ_tq 5 rfl HJ.out ?_
 refine wpJ_tq 6 rfl HJ.out ?_
 obtain ⟨cr0, cr1, cr2, fr0, fr1, fr2⟩ := Xr.out;have hner : gr < v6.heap.size := blt cr0;obtain ⟨ca0, ca1, ca2, fa0, fa1, fa2⟩ := Xa.out;have hnea : ga < v6.heap.size := blt ca0;obtain ⟨cb0, cb1, cb2, fb0, fb1, fb2⟩ := Xb.out;have hneb : gb < v6.heap.size := blt cb0;obtain ⟨hgd0, hgd1, hgd2, hgd3, hgd4, hgd5⟩ := HGD.out
 refine wpJ_on 7 rfl fun KJ hK => ?_
 go_simp
 have HJ2 : Hid ((fun W' : World => W'.cell? ⟨ga, 0, none⟩ = some (.bool s) ∧ W'.cell? ⟨ga, 1, none⟩ = some (.slice p m c) ∧ W'.cell? ⟨ga, 2, none⟩ = some (.int .i64 e) ∧ W'.cell? ⟨gb, 0, none⟩ = some (.bool t) ∧ W'.cell? ⟨gb, 1, none⟩ = some (.slice q n d) ∧ W'.cell? ⟨gb, 2, none⟩ = some (.int .i64 f)) (((v6.setCell ⟨gr, 0, none⟩ (.bool false)).setCell ⟨gr, 1, none⟩ (.slice none 0 0)).setCell ⟨gr, 2, none⟩ (.int .i64 0))) := ⟨by go_simp, by go_simp, by go_simp, by go_simp, by go_simp, by go_simp⟩
 refine hK _ _ HJ2.out ?_
 clear hK HJ;have HJ := HJ2;clear HJ2
 refine wpJ_tq 8 rfl HJ.out ?_
 refine wpJ_done (by kernel_rfl) ?_ _
 clear HJ;go_wp2_with fail
 refine bodyPost_ret (v := .tuple #[DV false none 0 0 0, .int .i64 4]) (by rw [results_cell_tmp rfl]; go_simp) rfl ⟨rfl, ?_⟩
 first | exact hbw | exact bSet (bSet (bSet hbw _ _ _ HGr.out) _ _ _ HGr.out) _ _ _ HGr.out
theorem qf_md {p q : Option Addr} {m c n d : Nat} {w : World} {e f : Int} {s t : Bool} {x y Q : Int} (h : DN w s p m c e x) (k : DN w t q n d f y) (hy : y ≠ 0) (hm : 4096 < max m n) (hQ : 1 ≤ Q ∧ Q ≤ 70000) :
  Calls Tryz.prog 4 #[DV s p m c e, DV t q n d f, .int .i64 Q] w fun en w' => en = .returned (.tuple #[DV false none 0 0 0, .int .i64 5]) ∧ Below w.heap.size w w' := by
 have Hh := hdQ h;have Hk := hdQ k;have Hhy : Hid (y ≠ 0) := hy;have Hhm : Hid (4096 < max m n) := hm;have HhQ : Hid (1 ≤ Q ∧ Q ≤ 70000) := hQ;clear h k hy hm hQ
 go_enter Tryz.func4, Tryz.ntmps4
 go_wp2_with fail;obtain ⟨W0, hW0⟩ := exq (((w.alloc (.cells #[.bool s, .slice p m c, .int .i64 e] 27)).alloc (.cells #[.bool t, .slice q n d, .int .i64 f] 27)).alloc (.cells #[.bool false, .slice none 0 0, .int .i64 0] 27))
 have Xa : Hid (B3q W0 (w.heap.size) (.bool s) (.slice p m c) (.int .i64 e)) := by rw [hW0]; constructor <;> go_simp
 have Xb : Hid (B3q W0 (w.heap.size + 1) (.bool t) (.slice q n d) (.int .i64 f)) := by rw [hW0]; constructor <;> go_simp
 have Xr : Hid (B3q W0 (w.heap.size + 1 + 1) (.bool false) (.slice none 0 0) (.int .i64 0)) := by rw [hW0]; constructor <;> go_simp
 have hb0 := bq3 hW0;rw [← hW0];clear hW0;have hbw := brf w;obtain ⟨gr, hgr⟩ := exq (w.heap.size + 1 + 1);have HGr : Hid (w.heap.size ≤ gr) := hgl hgr;rw [← hgr] at Xr
 try rw [← hgr]
 obtain ⟨gb, hgb⟩ := exq (w.heap.size + 1);have HGb : Hid (w.heap.size ≤ gb) := hgl hgb;rw [← hgb] at Xb
 try rw [← hgb]
 obtain ⟨ga, hga⟩ := exq w.heap.size;have HGa : Hid (w.heap.size ≤ ga) := hgl hga;rw [← hga] at Xa
 try rw [← hga]
 have HGD : Hid (ga ≠ gb ∧ ga ≠ gr ∧ gb ≠ ga ∧ gb ≠ gr ∧ gr ≠ ga ∧ gr ≠ gb) := by rw [hga, hgb, hgr]; show _ ∧ _; omega
 clear hga hgb hgr;replace hbw := bon hbw hb0;clear hb0;obtain ⟨W1, hW1⟩ := exq W0.drew
 have hbd : Below W0.heap.size W0 W1 := by rw [hW1]; exact bDrew1 (Below.refl _ _)
 replace Xa := B3q.b Xa hbd;replace Xb := B3q.b Xb hbd;replace Xr := B3q.b Xr hbd;replace hbw := bon hbw hbd;clear hbd
 have HJ : Hid ((fun W' : World => W'.cell? ⟨ga, 0, none⟩ = some (.bool s) ∧ W'.cell? ⟨ga, 1, none⟩ = some (.slice p m c) ∧ W'.cell? ⟨ga, 2, none⟩ = some (.int .i64 e) ∧ W'.cell? ⟨gb, 0, none⟩ = some (.bool t) ∧ W'.cell? ⟨gb, 1, none⟩ = some (.slice q n d) ∧ W'.cell? ⟨gb, 2, none⟩ = some (.int .i64 f)) W1) := ⟨Xa.out.c0, Xa.out.c1, Xa.out.c2, Xb.out.c0, Xb.out.c1, Xb.out.c2⟩
 refine wp_region_J (fun W' => W'.cell? ⟨ga, 0, none⟩ = some (.bool s) ∧ W'.cell? ⟨ga, 1, none⟩ = some (.slice p m c) ∧ W'.cell? ⟨ga, 2, none⟩ = some (.int .i64 e) ∧ W'.cell? ⟨gb, 0, none⟩ = some (.bool t) ∧ W'.cell? ⟨gb, 1, none⟩ = some (.slice q n d) ∧ W'.cell? ⟨gb, 2, none⟩ = some (.int .i64 f)) (by kernel_rfl) ?_
 rw [← hW1];clear hW1
 refine wpJ_tq 1 rfl HJ.out ?_
 refine wpJ_tq 2 rfl HJ.out ?_
 refine wpJ_tq 3 rfl HJ.out ?_
 refine wpJ_on 0 rfl fun KJ hK => ?_
 go_simp
 refine (way_d _).mono ?_
 rintro e v1 ⟨rfl, hb1⟩;replace Xa := B3q.b Xa hb1;replace Xb := B3q.b Xb hb1;replace Xr := B3q.b Xr hb1;replace hbw := bon hbw hb1;clear hb1
 refine hK _ _ ⟨Xa.out.c0, Xa.out.c1, Xa.out.c2, Xb.out.c0, Xb.out.c1, Xb.out.c2⟩ ?_
 clear hK
 refine wpJ_on 4 rfl fun KJ hK => ?_
 go_simp
 refine (quo_md (Hh.out.below hbw) (Hk.out.below hbw) Hhy.out Hhm.out HhQ.out).mono ?_
 rintro e v6 ⟨rfl, hb6⟩;replace Xa := B3q.b Xa hb6;replace Xb := B3q.b Xb hb6;replace Xr := B3q.b Xr hb6;replace hbw := bon hbw hb6;clear hb6 HJ
 have HJ : Hid ((fun W' : World => W'.cell? ⟨ga, 0, none⟩ = some (.bool s) ∧ W'.cell? ⟨ga, 1, none⟩ = some (.slice p m c) ∧ W'.cell? ⟨ga, 2, none⟩ = some (.int .i64 e) ∧ W'.cell? ⟨gb, 0, none⟩ = some (.bool t) ∧ W'.cell? ⟨gb, 1, none⟩ = some (.slice q n d) ∧ W'.cell? ⟨gb, 2, none⟩ = some (.int .i64 f)) v6) := ⟨Xa.out.c0, Xa.out.c1, Xa.out.c2, Xb.out.c0, Xb.out.c1, Xb.out.c2⟩
 refine hK _ _ HJ.out ?_
 clear hK
 refine wpJ_tq 5 rfl HJ.out ?_
 refine wpJ_tq 6 rfl HJ.out ?_
 obtain ⟨cr0, cr1, cr2, fr0, fr1, fr2⟩ := Xr.out;have hner : gr < v6.heap.size := blt cr0;obtain ⟨ca0, ca1, ca2, fa0, fa1, fa2⟩ := Xa.out;have hnea : ga < v6.heap.size := blt ca0;obtain ⟨cb0, cb1, cb2, fb0, fb1, fb2⟩ := Xb.out;have hneb : gb < v6.heap.size := blt cb0;obtain ⟨hgd0, hgd1, hgd2, hgd3, hgd4, hgd5⟩ := HGD.out
 refine wpJ_on 7 rfl fun KJ hK => ?_
 go_simp
 have HJ2 : Hid ((fun W' : World => W'.cell? ⟨ga, 0, none⟩ = some (.bool s) ∧ W'.cell? ⟨ga, 1, none⟩ = some (.slice p m c) ∧ W'.cell? ⟨ga, 2, none⟩ = some (.int .i64 e) ∧ W'.cell? ⟨gb, 0, none⟩ = some (.bool t) ∧ W'.cell? ⟨gb, 1, none⟩ = some (.slice q n d) ∧ W'.cell? ⟨gb, 2, none⟩ = some (.int .i64 f)) (((v6.setCell ⟨gr, 0, none⟩ (.bool false)).setCell ⟨gr, 1, none⟩ (.slice none 0 0)).setCell ⟨gr, 2, none⟩ (.int .i64 0))) := ⟨by go_simp, by go_simp, by go_simp, by go_simp, by go_simp, by go_simp⟩
 refine hK _ _ HJ2.out ?_
 clear hK HJ;have HJ := HJ2;clear HJ2
 refine wpJ_tq 8 rfl HJ.out ?_
 refine wpJ_done (by kernel_rfl) ?_ _
 clear HJ;go_wp2_with fail
 refine bodyPost_ret (v := .tuple #[DV false none 0 0 0, .int .i64 5]) (by rw [results_cell_tmp rfl]; go_simp) rfl ⟨rfl, ?_⟩
 first | exact hbw | exact bSet (bSet (bSet hbw _ _ _ HGr.out) _ _ _ HGr.out) _ _ _ HGr.out
theorem qf_od {p q : Option Addr} {m c n d : Nat} {w : World} {e f : Int} {s t : Bool} {x y X Y L Z : Int} {P K9 : Nat} (h : DN w s p m c e x) (k : DN w t q n d f y) (hy : y ≠ 0) (hm : m ≤ 4096) (hn : n ≤ 4096) (hP : 1 ≤ P ∧ P ≤ 70000) (hw : WB x y P X Y L) (hZ : Z = qI false X Y) (hK : K9 = bitsN Z.natAbs - P) (hT : Tab w) :
  Calls Tryz.prog 4 #[DV s p m c e, DV t q n d f, .int .i64 P] w fun en w' => MakeP w.heap.size w' en (rd false Z (2 ^ K9)) (e - f - L + K9) ∧ Below w.heap.size w w' := by
 have H := hdQ h;have K := hdQ k;have HA : Hid (y ≠ 0 ∧ m ≤ 4096 ∧ n ≤ 4096 ∧ (1 ≤ P ∧ P ≤ 70000) ∧ WB x y P X Y L ∧ Z = qI false X Y ∧ K9 = bitsN Z.natAbs - P) := ⟨hy, hm, hn, hP, hw, hZ, hK⟩;have TB : Hid (Tab w) := hT;clear h k hy hm hn hP hw hZ hK hT
 go_enter Tryz.func4, Tryz.ntmps4
 go_wp2_with fail;obtain ⟨W0, hW0⟩ := exq (((w.alloc (.cells #[.bool s, .slice p m c, .int .i64 e] 27)).alloc (.cells #[.bool t, .slice q n d, .int .i64 f] 27)).alloc (.cells #[.bool false, .slice none 0 0, .int .i64 0] 27))
 have Xa : Hid (B3q W0 (w.heap.size) (.bool s) (.slice p m c) (.int .i64 e)) := by rw [hW0]; constructor <;> go_simp
 have Xb : Hid (B3q W0 (w.heap.size + 1) (.bool t) (.slice q n d) (.int .i64 f)) := by rw [hW0]; constructor <;> go_simp
 have Xr : Hid (B3q W0 (w.heap.size + 1 + 1) (.bool false) (.slice none 0 0) (.int .i64 0)) := by rw [hW0]; constructor <;> go_simp
 have hb0 := bq3 hW0;rw [← hW0];clear hW0;have hbw := brf w;obtain ⟨gr, hgr⟩ := exq (w.heap.size + 1 + 1);have HGr : Hid (w.heap.size ≤ gr) := hgl hgr;rw [← hgr] at Xr
 try rw [← hgr]
 obtain ⟨gb, hgb⟩ := exq (w.heap.size + 1);have HGb : Hid (w.heap.size ≤ gb) := hgl hgb;rw [← hgb] at Xb
 try rw [← hgb]
 obtain ⟨ga, hga⟩ := exq w.heap.size;have HGa : Hid (w.heap.size ≤ ga) := hgl hga;rw [← hga] at Xa
 try rw [← hga]
 have HGD : Hid (ga ≠ gb ∧ ga ≠ gr ∧ gb ≠ ga ∧ gb ≠ gr ∧ gr ≠ ga ∧ gr ≠ gb) := by rw [hga, hgb, hgr]; show _ ∧ _; omega
 clear hga hgb hgr;replace hbw := bon hbw hb0;clear hb0;obtain ⟨W1, hW1⟩ := exq W0.drew
 have hbd : Below W0.heap.size W0 W1 := by rw [hW1]; exact bDrew1 (Below.refl _ _)
 replace Xa := B3q.b Xa hbd;replace Xb := B3q.b Xb hbd;replace Xr := B3q.b Xr hbd;replace hbw := bon hbw hbd;clear hbd
 have HJ : Hid ((fun W' : World => W'.cell? ⟨ga, 0, none⟩ = some (.bool s) ∧ W'.cell? ⟨ga, 1, none⟩ = some (.slice p m c) ∧ W'.cell? ⟨ga, 2, none⟩ = some (.int .i64 e) ∧ W'.cell? ⟨gb, 0, none⟩ = some (.bool t) ∧ W'.cell? ⟨gb, 1, none⟩ = some (.slice q n d) ∧ W'.cell? ⟨gb, 2, none⟩ = some (.int .i64 f)) W1) := ⟨Xa.out.c0, Xa.out.c1, Xa.out.c2, Xb.out.c0, Xb.out.c1, Xb.out.c2⟩
 refine wp_region_J (fun W' => W'.cell? ⟨ga, 0, none⟩ = some (.bool s) ∧ W'.cell? ⟨ga, 1, none⟩ = some (.slice p m c) ∧ W'.cell? ⟨ga, 2, none⟩ = some (.int .i64 e) ∧ W'.cell? ⟨gb, 0, none⟩ = some (.bool t) ∧ W'.cell? ⟨gb, 1, none⟩ = some (.slice q n d) ∧ W'.cell? ⟨gb, 2, none⟩ = some (.int .i64 f)) (by kernel_rfl) ?_
 rw [← hW1];clear hW1
 refine wpJ_tq 1 rfl HJ.out ?_
 refine wpJ_tq 2 rfl HJ.out ?_
 refine wpJ_tq 3 rfl HJ.out ?_
 refine wpJ_on 0 rfl fun KJ hK => ?_
 go_simp
 refine (way_d _).mono ?_
 rintro e v1 ⟨rfl, hb1⟩;replace Xa := B3q.b Xa hb1;replace Xb := B3q.b Xb hb1;replace Xr := B3q.b Xr hb1;replace hbw := bon hbw hb1;clear hb1
 refine hK _ _ ⟨Xa.out.c0, Xa.out.c1, Xa.out.c2, Xb.out.c0, Xb.out.c1, Xb.out.c2⟩ ?_
 clear hK
 refine wpJ_on 4 rfl fun KJ hK => ?_
 go_simp;have HRL : Hid (gr < v1.heap.size ∧ w.heap.size ≤ v1.heap.size) := ⟨Xr.out.lt, hbw.size⟩
 refine (quo_od (H.out.below hbw) (K.out.below hbw) HA.out.1 HA.out.2.1 HA.out.2.2.1 HA.out.2.2.2.1 HA.out.2.2.2.2.1 HA.out.2.2.2.2.2.1 HA.out.2.2.2.2.2.2 (TB.out.below hbw)).mono ?_
 rintro e2 v6 ⟨hv, hb6⟩;obtain ⟨s6, p6, m6, eo, er, rfl, hmp⟩ := hv.open;clear hv;replace Xa := B3q.b Xa hb6;replace Xb := B3q.b Xb hb6;replace Xr := B3q.b Xr hb6;replace hbw := bon hbw hb6;clear hb6;have M6 := hdQ hmp;clear hmp HJ
 have HJ : Hid ((fun W' : World => W'.cell? ⟨ga, 0, none⟩ = some (.bool s) ∧ W'.cell? ⟨ga, 1, none⟩ = some (.slice p m c) ∧ W'.cell? ⟨ga, 2, none⟩ = some (.int .i64 e) ∧ W'.cell? ⟨gb, 0, none⟩ = some (.bool t) ∧ W'.cell? ⟨gb, 1, none⟩ = some (.slice q n d) ∧ W'.cell? ⟨gb, 2, none⟩ = some (.int .i64 f)) v6) := ⟨Xa.out.c0, Xa.out.c1, Xa.out.c2, Xb.out.c0, Xb.out.c1, Xb.out.c2⟩
 refine hK _ _ HJ.out ?_
 clear hK
 refine wpJ_tq 5 rfl HJ.out ?_
 refine wpJ_tq 6 rfl HJ.out ?_
 obtain ⟨cr0, cr1, cr2, fr0, fr1, fr2⟩ := Xr.out;have hner : gr < v6.heap.size := blt cr0;obtain ⟨ca0, ca1, ca2, fa0, fa1, fa2⟩ := Xa.out;have hnea : ga < v6.heap.size := blt ca0;obtain ⟨cb0, cb1, cb2, fb0, fb1, fb2⟩ := Xb.out;have hneb : gb < v6.heap.size := blt cb0;obtain ⟨hgd0, hgd1, hgd2, hgd3, hgd4, hgd5⟩ := HGD.out
 refine wpJ_on 7 rfl fun KJ hK => ?_
 go_simp
 have HJ2 : Hid ((fun W' : World => W'.cell? ⟨ga, 0, none⟩ = some (.bool s) ∧ W'.cell? ⟨ga, 1, none⟩ = some (.slice p m c) ∧ W'.cell? ⟨ga, 2, none⟩ = some (.int .i64 e) ∧ W'.cell? ⟨gb, 0, none⟩ = some (.bool t) ∧ W'.cell? ⟨gb, 1, none⟩ = some (.slice q n d) ∧ W'.cell? ⟨gb, 2, none⟩ = some (.int .i64 f)) (((v6.setCell ⟨gr, 0, none⟩ (.bool s6)).setCell ⟨gr, 1, none⟩ (.slice p6 m6 m6)).setCell ⟨gr, 2, none⟩ (.int .i64 eo))) := ⟨by go_simp, by go_simp, by go_simp, by go_simp, by go_simp, by go_simp⟩
 refine hK _ _ HJ2.out ?_
 clear hK HJ;have HJ := HJ2;clear HJ2
 refine wpJ_tq 8 rfl HJ.out ?_
 refine wpJ_done (by kernel_rfl) ?_ _
 clear HJ;go_wp2_with fail
 refine bodyPost_ret (v := .tuple #[DV s6 p6 m6 m6 eo, .int .i64 er]) (by rw [results_cell_tmp rfl]; go_simp) rfl ⟨(M6.out.set HRL.out.1 HRL.out.2 _ _ _).close, ?_⟩
 exact bSet (bSet (bSet hbw _ _ _ HGr.out) _ _ _ HGr.out) _ _ _ HGr.out
theorem quo_lu {p q : Option Addr} {m c n d : Nat} {w : World} {e f : Int} {s t : Bool} {Q : Int} (hQ : Q < 1) :
  Calls Tryz.prog 10 #[WVu, DV s p m c e, DV t q n d f, .int .i64 Q] w fun en w' => en = .returned (.tuple #[DV false none 0 0 0, .int .i64 1]) ∧ Below w.heap.size w w' := by
 have g1 : Q < 1 := hQ
 go_enter Tryz.func10, Tryz.ntmps10
 go_wp2_with fail
 refine bodyPost_ret (v := .tuple #[DV false none 0 0 0, .int .i64 1]) (by rw [results_cell_tmp rfl]; go_simp) rfl ⟨rfl, ?_⟩
 exact below4 w _ _ _ _
theorem quo_gu {p q : Option Addr} {m c n d : Nat} {w : World} {e f : Int} {s t : Bool} {Q : Int} (hQ : 70000 < Q) :
  Calls Tryz.prog 10 #[WVu, DV s p m c e, DV t q n d f, .int .i64 Q] w fun en w' => en = .returned (.tuple #[DV false none 0 0 0, .int .i64 1]) ∧ Below w.heap.size w w' := by
 have g1 : ¬ Q < 1 := by omega
 go_enter Tryz.func10, Tryz.ntmps10
 go_wp2_with fail
 refine bodyPost_ret (v := .tuple #[DV false none 0 0 0, .int .i64 1]) (by rw [results_cell_tmp rfl]; go_simp) rfl ⟨rfl, ?_⟩
 exact below4 w _ _ _ _
theorem quo_au {p q : Option Addr} {m c n d : Nat} {w : World} {e f : Int} {s t : Bool} {xs : List Nat} {Q : Int} (h : At w p m c xs) (hf : formD s xs e = false) (hQ : 1 ≤ Q ∧ Q ≤ 70000) :
  Calls Tryz.prog 10 #[WVu, DV s p m c e, DV t q n d f, .int .i64 Q] w fun en w' => en = .returned (.tuple #[DV false none 0 0 0, .int .i64 2]) ∧ Below w.heap.size w w' := by
 have g1 : ¬ Q < 1 := by omega
 have g2 : ¬ 70000 < Q := by omega
 have H : Hid (At w p m c xs ∧ formD s xs e = false) := ⟨h, hf⟩;clear h hf hQ
 go_enter Tryz.func10, Tryz.ntmps10
 go_wp2_with fail;obtain ⟨W0, hW0⟩ := exq ((((w.alloc (.cells #[.func (.func 27) #[] #[], .func (.func 28) #[] #[]] 38)).alloc (.cells #[.bool s, .slice p m c, .int .i64 e] 27)).alloc (.cells #[.bool t, .slice q n d, .int .i64 f] 27)).alloc (.cells #[.bool false, .slice none 0 0, .int .i64 0] 27))
 have Xy : Hid (Box W0 (w.heap.size) (.func (.func 27) #[] #[]) (.func (.func 28) #[] #[])) := by rw [hW0]; constructor <;> go_simp
 have Xa : Hid (B3q W0 (w.heap.size + 1) (.bool s) (.slice p m c) (.int .i64 e)) := by rw [hW0]; constructor <;> go_simp
 have Xb : Hid (B3q W0 (w.heap.size + 1 + 1) (.bool t) (.slice q n d) (.int .i64 f)) := by rw [hW0]; constructor <;> go_simp
 have Xr : Hid (B3q W0 (w.heap.size + 1 + 1 + 1) (.bool false) (.slice none 0 0) (.int .i64 0)) := by rw [hW0]; constructor <;> go_simp
 have hb0 : Below w.heap.size w W0 := by rw [hW0]; exact below4 w _ _ _ _
 rw [← hW0];clear hW0;have hbw := brf w;obtain ⟨gr, hgr⟩ := exq (w.heap.size + 1 + 1 + 1);have HGr : Hid (w.heap.size ≤ gr) := hgl hgr;rw [← hgr] at Xr
 try rw [← hgr]
 obtain ⟨gb, hgb⟩ := exq (w.heap.size + 1 + 1);have HGb : Hid (w.heap.size ≤ gb) := hgl hgb;rw [← hgb] at Xb
 try rw [← hgb]
 obtain ⟨ga, hga⟩ := exq (w.heap.size + 1);have HGa : Hid (w.heap.size ≤ ga) := hgl hga;rw [← hga] at Xa
 try rw [← hga]
 obtain ⟨gy, hgy⟩ := exq w.heap.size;have HGy : Hid (w.heap.size ≤ gy) := hgl hgy;rw [← hgy] at Xy
 try rw [← hgy]
 have HGD : Hid (gy ≠ ga ∧ gy ≠ gb ∧ gy ≠ gr ∧ ga ≠ gy ∧ ga ≠ gb ∧ ga ≠ gr ∧ gb ≠ gy ∧ gb ≠ ga ∧ gb ≠ gr ∧ gr ≠ gy ∧ gr ≠ ga ∧ gr ≠ gb) := by rw [hgy, hga, hgb, hgr]; show _ ∧ _; omega
 clear hgy hga hgb hgr;replace hbw := bon hbw hb0;clear hb0
 refine (dform_f s (H.out.1.below hbw) H.out.2).mono ?_
 rintro e v1 ⟨rfl, hb1⟩;replace Xy := Box.b Xy hb1;replace Xa := B3q.b Xa hb1;replace Xb := B3q.b Xb hb1;replace Xr := B3q.b Xr hb1;replace hbw := bon hbw hb1;clear hb1;obtain ⟨cr0, cr1, cr2, fr0, fr1, fr2⟩ := Xr.out;have hner : gr < v1.heap.size := blt cr0;go_wp2_with fail
 refine bodyPost_ret (v := .tuple #[DV false none 0 0 0, .int .i64 2]) (by rw [results_cell_tmp rfl]; go_simp) rfl ⟨rfl, ?_⟩
 first | exact hbw | exact bSet (bSet (bSet hbw _ _ _ HGr.out) _ _ _ HGr.out) _ _ _ HGr.out
theorem quo_bu {p q : Option Addr} {m c n d : Nat} {w : World} {e f : Int} {s t : Bool} {ys : List Nat} {x Q : Int} (h : DN w s p m c e x) (k : At w q n d ys) (hf : formD t ys f = false) (hQ : 1 ≤ Q ∧ Q ≤ 70000) :
  Calls Tryz.prog 10 #[WVu, DV s p m c e, DV t q n d f, .int .i64 Q] w fun en w' => en = .returned (.tuple #[DV false none 0 0 0, .int .i64 2]) ∧ Below w.heap.size w w' := by
 have g1 : ¬ Q < 1 := by omega
 have g2 : ¬ 70000 < Q := by omega
 have H := hdQ h;have K : Hid (At w q n d ys ∧ formD t ys f = false) := ⟨k, hf⟩;clear h k hf hQ
 go_enter Tryz.func10, Tryz.ntmps10
 go_wp2_with fail;obtain ⟨W0, hW0⟩ := exq ((((w.alloc (.cells #[.func (.func 27) #[] #[], .func (.func 28) #[] #[]] 38)).alloc (.cells #[.bool s, .slice p m c, .int .i64 e] 27)).alloc (.cells #[.bool t, .slice q n d, .int .i64 f] 27)).alloc (.cells #[.bool false, .slice none 0 0, .int .i64 0] 27))
 have Xy : Hid (Box W0 (w.heap.size) (.func (.func 27) #[] #[]) (.func (.func 28) #[] #[])) := by rw [hW0]; constructor <;> go_simp
 have Xa : Hid (B3q W0 (w.heap.size + 1) (.bool s) (.slice p m c) (.int .i64 e)) := by rw [hW0]; constructor <;> go_simp
 have Xb : Hid (B3q W0 (w.heap.size + 1 + 1) (.bool t) (.slice q n d) (.int .i64 f)) := by rw [hW0]; constructor <;> go_simp
 have Xr : Hid (B3q W0 (w.heap.size + 1 + 1 + 1) (.bool false) (.slice none 0 0) (.int .i64 0)) := by rw [hW0]; constructor <;> go_simp
 have hb0 : Below w.heap.size w W0 := by rw [hW0]; exact below4 w _ _ _ _
 rw [← hW0];clear hW0;have hbw := brf w;obtain ⟨gr, hgr⟩ := exq (w.heap.size + 1 + 1 + 1);have HGr : Hid (w.heap.size ≤ gr) := hgl hgr;rw [← hgr] at Xr
 try rw [← hgr]
 obtain ⟨gb, hgb⟩ := exq (w.heap.size + 1 + 1);have HGb : Hid (w.heap.size ≤ gb) := hgl hgb;rw [← hgb] at Xb
 try rw [← hgb]
 obtain ⟨ga, hga⟩ := exq (w.heap.size + 1);have HGa : Hid (w.heap.size ≤ ga) := hgl hga;rw [← hga] at Xa
 try rw [← hga]
 obtain ⟨gy, hgy⟩ := exq w.heap.size;have HGy : Hid (w.heap.size ≤ gy) := hgl hgy;rw [← hgy] at Xy
 try rw [← hgy]
 have HGD : Hid (gy ≠ ga ∧ gy ≠ gb ∧ gy ≠ gr ∧ ga ≠ gy ∧ ga ≠ gb ∧ ga ≠ gr ∧ gb ≠ gy ∧ gb ≠ ga ∧ gb ≠ gr ∧ gr ≠ gy ∧ gr ≠ ga ∧ gr ≠ gb) := by rw [hgy, hga, hgb, hgr]; show _ ∧ _; omega
 clear hgy hga hgb hgr;replace hbw := bon hbw hb0;clear hb0
 refine (dform_t (H.out.below hbw)).mono ?_
 rintro e v1 ⟨rfl, hb1⟩;replace Xy := Box.b Xy hb1;replace Xa := B3q.b Xa hb1;replace Xb := B3q.b Xb hb1;replace Xr := B3q.b Xr hb1;replace hbw := bon hbw hb1;clear hb1;obtain ⟨cb0, cb1, cb2, fb0, fb1, fb2⟩ := Xb.out;have hneb : gb < v1.heap.size := blt cb0;go_wp2_with fail;clear cb0 cb1 cb2 fb0 fb1 fb2 hneb
 refine (dform_f t (K.out.1.below hbw) K.out.2).mono ?_
 rintro e v2 ⟨rfl, hb2⟩;replace Xy := Box.b Xy hb2;replace Xa := B3q.b Xa hb2;replace Xb := B3q.b Xb hb2;replace Xr := B3q.b Xr hb2;replace hbw := bon hbw hb2;clear hb2;obtain ⟨cr0, cr1, cr2, fr0, fr1, fr2⟩ := Xr.out;have hner : gr < v2.heap.size := blt cr0;go_wp2_with fail
 refine bodyPost_ret (v := .tuple #[DV false none 0 0 0, .int .i64 2]) (by rw [results_cell_tmp rfl]; go_simp) rfl ⟨rfl, ?_⟩
 first | exact hbw | exact bSet (bSet (bSet hbw _ _ _ HGr.out) _ _ _ HGr.out) _ _ _ HGr.out
theorem quo_zu {p q : Option Addr} {m c n d : Nat} {w : World} {e f : Int} {s t : Bool} {x y Q : Int} (h : DN w s p m c e x) (k : DN w t q n d f y) (hy : y = 0) (hQ : 1 ≤ Q ∧ Q ≤ 70000) :
  Calls Tryz.prog 10 #[WVu, DV s p m c e, DV t q n d f, .int .i64 Q] w fun en w' => en = .returned (.tuple #[DV false none 0 0 0, .int .i64 4]) ∧ Below w.heap.size w w' := by
 have g1 : ¬ Q < 1 := by omega
 have g2 : ¬ 70000 < Q := by omega
 have H := hdQ h;have K := hdQ k;have HZ : Hid (y = 0) := hy;clear h k hy hQ
 go_enter Tryz.func10, Tryz.ntmps10
 go_wp2_with fail;obtain ⟨W0, hW0⟩ := exq ((((w.alloc (.cells #[.func (.func 27) #[] #[], .func (.func 28) #[] #[]] 38)).alloc (.cells #[.bool s, .slice p m c, .int .i64 e] 27)).alloc (.cells #[.bool t, .slice q n d, .int .i64 f] 27)).alloc (.cells #[.bool false, .slice none 0 0, .int .i64 0] 27))
 have Xy : Hid (Box W0 (w.heap.size) (.func (.func 27) #[] #[]) (.func (.func 28) #[] #[])) := by rw [hW0]; constructor <;> go_simp
 have Xa : Hid (B3q W0 (w.heap.size + 1) (.bool s) (.slice p m c) (.int .i64 e)) := by rw [hW0]; constructor <;> go_simp
 have Xb : Hid (B3q W0 (w.heap.size + 1 + 1) (.bool t) (.slice q n d) (.int .i64 f)) := by rw [hW0]; constructor <;> go_simp
 have Xr : Hid (B3q W0 (w.heap.size + 1 + 1 + 1) (.bool false) (.slice none 0 0) (.int .i64 0)) := by rw [hW0]; constructor <;> go_simp
 have hb0 : Below w.heap.size w W0 := by rw [hW0]; exact below4 w _ _ _ _
 rw [← hW0];clear hW0;have hbw := brf w;obtain ⟨gr, hgr⟩ := exq (w.heap.size + 1 + 1 + 1);have HGr : Hid (w.heap.size ≤ gr) := hgl hgr;rw [← hgr] at Xr
 try rw [← hgr]
 obtain ⟨gb, hgb⟩ := exq (w.heap.size + 1 + 1);have HGb : Hid (w.heap.size ≤ gb) := hgl hgb;rw [← hgb] at Xb
 try rw [← hgb]
 obtain ⟨ga, hga⟩ := exq (w.heap.size + 1);have HGa : Hid (w.heap.size ≤ ga) := hgl hga;rw [← hga] at Xa
 try rw [← hga]
 obtain ⟨gy, hgy⟩ := exq w.heap.size;have HGy : Hid (w.heap.size ≤ gy) := hgl hgy;rw [← hgy] at Xy
 try rw [← hgy]
 have HGD : Hid (gy ≠ ga ∧ gy ≠ gb ∧ gy ≠ gr ∧ ga ≠ gy ∧ ga ≠ gb ∧ ga ≠ gr ∧ gb ≠ gy ∧ gb ≠ ga ∧ gb ≠ gr ∧ gr ≠ gy ∧ gr ≠ ga ∧ gr ≠ gb) := by rw [hgy, hga, hgb, hgr]; show _ ∧ _; omega
 clear hgy hga hgb hgr;replace hbw := bon hbw hb0;clear hb0
 refine (dform_t (H.out.below hbw)).mono ?_
 rintro e v1 ⟨rfl, hb1⟩;replace Xy := Box.b Xy hb1;replace Xa := B3q.b Xa hb1;replace Xb := B3q.b Xb hb1;replace Xr := B3q.b Xr hb1;replace hbw := bon hbw hb1;clear hb1;obtain ⟨cb0, cb1, cb2, fb0, fb1, fb2⟩ := Xb.out;have hneb : gb < v1.heap.size := blt cb0;go_wp2_with fail;clear cb0 cb1 cb2 fb0 fb1 fb2 hneb
 refine (dform_t (K.out.below hbw)).mono ?_
 rintro e v2 ⟨rfl, hb2⟩;replace Xy := Box.b Xy hb2;replace Xa := B3q.b Xa hb2;replace Xb := B3q.b Xb hb2;replace Xr := B3q.b Xr hb2;replace hbw := bon hbw hb2;clear hb2;obtain ⟨cb0, cb1, cb2, fb0, fb1, fb2⟩ := Xb.out;have hneb : gb < v2.heap.size := blt cb0;go_wp2_with fail;clear cb0 cb1 cb2 fb0 fb1 fb2 hneb
 refine (zsign (K.out.zn.below hbw)).mono ?_
 rintro e v3 ⟨rfl, hb3⟩;obtain ⟨sg, hsg⟩ := exq (sgnI y);rw [← hsg]
 have hs0 : (sg == 0) = true := by rw [hsg]; have := HZ.out; unfold sgnI; split <;> (try split) <;> simp <;> omega
 clear hsg;replace Xy := Box.b Xy hb3;replace Xa := B3q.b Xa hb3;replace Xb := B3q.b Xb hb3;replace Xr := B3q.b Xr hb3;replace hbw := bon hbw hb3;clear hb3;obtain ⟨cr0, cr1, cr2, fr0, fr1, fr2⟩ := Xr.out;have hner : gr < v3.heap.size := blt cr0;go_wp2_with fail
 refine bodyPost_ret (v := .tuple #[DV false none 0 0 0, .int .i64 4]) (by rw [results_cell_tmp rfl]; go_simp) rfl ⟨rfl, ?_⟩
 first | exact hbw | exact bSet (bSet (bSet hbw _ _ _ HGr.out) _ _ _ HGr.out) _ _ _ HGr.out
theorem quo_mu {p q : Option Addr} {m c n d : Nat} {w : World} {e f : Int} {s t : Bool} {x y Q : Int} (h : DN w s p m c e x) (k : DN w t q n d f y) (hy : y ≠ 0) (hm : 4096 < max m n) (hQ : 1 ≤ Q ∧ Q ≤ 70000) :
  Calls Tryz.prog 10 #[WVu, DV s p m c e, DV t q n d f, .int .i64 Q] w fun en w' => en = .returned (.tuple #[DV false none 0 0 0, .int .i64 5]) ∧ Below w.heap.size w w' := by
 have g1 : ¬ Q < 1 := by omega
 have g2 : ¬ 70000 < Q := by omega
 have H := hdQ h;have K := hdQ k;have HZ : Hid (y ≠ 0) := hy
 have g3 : (4096 : Int) < max (m : Int) n := by omega
 clear h k hy hQ hm
 go_enter Tryz.func10, Tryz.ntmps10
 go_wp2_with fail;obtain ⟨W0, hW0⟩ := exq ((((w.alloc (.cells #[.func (.func 27) #[] #[], .func (.func 28) #[] #[]] 38)).alloc (.cells #[.bool s, .slice p m c, .int .i64 e] 27)).alloc (.cells #[.bool t, .slice q n d, .int .i64 f] 27)).alloc (.cells #[.bool false, .slice none 0 0, .int .i64 0] 27))
 have Xy : Hid (Box W0 (w.heap.size) (.func (.func 27) #[] #[]) (.func (.func 28) #[] #[])) := by rw [hW0]; constructor <;> go_simp
 have Xa : Hid (B3q W0 (w.heap.size + 1) (.bool s) (.slice p m c) (.int .i64 e)) := by rw [hW0]; constructor <;> go_simp
 have Xb : Hid (B3q W0 (w.heap.size + 1 + 1) (.bool t) (.slice q n d) (.int .i64 f)) := by rw [hW0]; constructor <;> go_simp
 have Xr : Hid (B3q W0 (w.heap.size + 1 + 1 + 1) (.bool false) (.slice none 0 0) (.int .i64 0)) := by rw [hW0]; constructor <;> go_simp
 have hb0 : Below w.heap.size w W0 := by rw [hW0]; exact below4 w _ _ _ _
 rw [← hW0];clear hW0;have hbw := brf w;obtain ⟨gr, hgr⟩ := exq (w.heap.size + 1 + 1 + 1);have HGr : Hid (w.heap.size ≤ gr) := hgl hgr;rw [← hgr] at Xr
 try rw [← hgr]
 obtain ⟨gb, hgb⟩ := exq (w.heap.size + 1 + 1);have HGb : Hid (w.heap.size ≤ gb) := hgl hgb;rw [← hgb] at Xb
 try rw [← hgb]
 obtain ⟨ga, hga⟩ := exq (w.heap.size + 1);have HGa : Hid (w.heap.size ≤ ga) := hgl hga;rw [← hga] at Xa
 try rw [← hga]
 obtain ⟨gy, hgy⟩ := exq w.heap.size;have HGy : Hid (w.heap.size ≤ gy) := hgl hgy;rw [← hgy] at Xy
 try rw [← hgy]
 have HGD : Hid (gy ≠ ga ∧ gy ≠ gb ∧ gy ≠ gr ∧ ga ≠ gy ∧ ga ≠ gb ∧ ga ≠ gr ∧ gb ≠ gy ∧ gb ≠ ga ∧ gb ≠ gr ∧ gr ≠ gy ∧ gr ≠ ga ∧ gr ≠ gb) := by rw [hgy, hga, hgb, hgr]; show _ ∧ _; omega
 clear hgy hga hgb hgr;replace hbw := bon hbw hb0;clear hb0
 refine (dform_t (H.out.below hbw)).mono ?_
 rintro e v1 ⟨rfl, hb1⟩;replace Xy := Box.b Xy hb1;replace Xa := B3q.b Xa hb1;replace Xb := B3q.b Xb hb1;replace Xr := B3q.b Xr hb1;replace hbw := bon hbw hb1;clear hb1;obtain ⟨cb0, cb1, cb2, fb0, fb1, fb2⟩ := Xb.out;have hneb : gb < v1.heap.size := blt cb0;go_wp2_with fail;clear cb0 cb1 cb2 fb0 fb1 fb2 hneb
 refine (dform_t (K.out.below hbw)).mono ?_
 rintro e v2 ⟨rfl, hb2⟩;replace Xy := Box.b Xy hb2;replace Xa := B3q.b Xa hb2;replace Xb := B3q.b Xb hb2;replace Xr := B3q.b Xr hb2;replace hbw := bon hbw hb2;clear hb2;obtain ⟨cb0, cb1, cb2, fb0, fb1, fb2⟩ := Xb.out;have hneb : gb < v2.heap.size := blt cb0;go_wp2_with fail;clear cb0 cb1 cb2 fb0 fb1 fb2 hneb
 refine (zsign (K.out.zn.below hbw)).mono ?_
 rintro e v3 ⟨rfl, hb3⟩;obtain ⟨sg, hsg⟩ := exq (sgnI y);rw [← hsg]
 have hs0 : (sg == 0) = false := by rw [hsg]; have := HZ.out; unfold sgnI; split <;> (try split) <;> simp <;> omega
 clear hsg;replace Xy := Box.b Xy hb3;replace Xa := B3q.b Xa hb3;replace Xb := B3q.b Xb hb3;replace Xr := B3q.b Xr hb3;replace hbw := bon hbw hb3;clear hb3;obtain ⟨ca0, ca1, ca2, fa0, fa1, fa2⟩ := Xa.out;have hnea : ga < v3.heap.size := blt ca0;obtain ⟨cb0, cb1, cb2, fb0, fb1, fb2⟩ := Xb.out;have hneb : gb < v3.heap.size := blt cb0;obtain ⟨cr0, cr1, cr2, fr0, fr1, fr2⟩ := Xr.out;have hner : gr < v3.heap.size := blt cr0;go_wp2_with fail
 refine bodyPost_ret (v := .tuple #[DV false none 0 0 0, .int .i64 5]) (by rw [results_cell_tmp rfl]; go_simp) rfl ⟨rfl, ?_⟩
 first | exact hbw | exact bSet (bSet (bSet hbw _ _ _ HGr.out) _ _ _ HGr.out) _ _ _ HGr.out
theorem quo_ou {p q : Option Addr} {m c n d : Nat} {w : World} {e f : Int} {s t : Bool} {x y X Y L Z : Int} {P K9 : Nat} (h : DN w s p m c e x) (k : DN w t q n d f y) (hy : y ≠ 0) (hm : m ≤ 4096) (hn : n ≤ 4096) (hP : 1 ≤ P ∧ P ≤ 70000) (hw : WB x y P X Y L) (hZ : Z = qI true X Y) (hK : K9 = bitsN Z.natAbs - P) (hT : Tab w) :
  Calls Tryz.prog 10 #[WVu, DV s p m c e, DV t q n d f, .int .i64 P] w fun en w' => MakeP w.heap.size w' en (rd true Z (2 ^ K9)) (e - f - L + K9) ∧ Below w.heap.size w w' := by
 have H := hdQ h;have K := hdQ k;have HZ : Hid (y ≠ 0) := hy;have HM : Hid (m ≤ 4096 ∧ n ≤ 4096) := ⟨hm, hn⟩;have HP : Hid (1 ≤ P ∧ P ≤ 70000) := hP;have HW := hdQ hw;have HK := hdQ hK;have TB : Hid (Tab w) := hT
 have HY0 : Hid (Y ≠ 0) := by
  rw [hw.yv]
  exact Int.mul_ne_zero hy (by rw [pow_cast]; exact pow_pos_int _)
 have b1 := half_bits h.zn hm;have b2 := half_bits k.zn hn;have hl := hw.l
 have he : -1048576 ≤ e ∧ e ≤ 1048576 := by rcases h.fm with ⟨_, h5⟩ | ⟨_, h5⟩ <;> omega
 have hf : -1048576 ≤ f ∧ f ≤ 1048576 := by rcases k.fm with ⟨_, h5⟩ | ⟨_, h5⟩ <;> omega
 have g1 : ¬ (P : Int) < 1 := by omega
 have g2 : ¬ (70000 : Int) < P := by omega
 have g3 : ¬ (4096 : Int) < max (m : Int) n := by omega
 have u1 : wrap64 (e - f) = e - f := by simp only [wrap64]; omega
 have u2 : wrap64 (e - f - L) = e - f - L := by simp only [wrap64]; omega
 have u3 : IntKind.i64.wrap (e - f) = e - f := by simp [IntKind.wrap, IntKind.signed, IntKind.bits]; omega
 have u4 : IntKind.i64.wrap (e - f - L) = e - f - L := by simp [IntKind.wrap, IntKind.signed, IntKind.bits]; omega
 have HU : Hid (wrap64 (e - f) = e - f ∧ wrap64 (e - f - L) = e - f - L ∧ IntKind.i64.wrap (e - f) = e - f ∧ IntKind.i64.wrap (e - f - L) = e - f - L) := ⟨u1, u2, u3, u4⟩
 have HE : Hid (-2621440 ≤ e - f - L ∧ e - f - L ≤ 2621440) := ⟨by omega, by omega⟩
 have HQ : Hid (ce (decide (X < 0) != decide (Y < 0)) X.natAbs Y.natAbs = Z) := hZ.symm;clear h k hy hm hn hP hw hZ hK hT b1 b2 hl he hf u1 u2 u3 u4
 go_enter Tryz.func10, Tryz.ntmps10
 go_wp2_with fail;obtain ⟨W0, hW0⟩ := exq ((((w.alloc (.cells #[.func (.func 27) #[] #[], .func (.func 28) #[] #[]] 38)).alloc (.cells #[.bool s, .slice p m c, .int .i64 e] 27)).alloc (.cells #[.bool t, .slice q n d, .int .i64 f] 27)).alloc (.cells #[.bool false, .slice none 0 0, .int .i64 0] 27))
 have Xy : Hid (Box W0 (w.heap.size) (.func (.func 27) #[] #[]) (.func (.func 28) #[] #[])) := by rw [hW0]; constructor <;> go_simp
 have Xa : Hid (B3q W0 (w.heap.size + 1) (.bool s) (.slice p m c) (.int .i64 e)) := by rw [hW0]; constructor <;> go_simp
 have Xb : Hid (B3q W0 (w.heap.size + 1 + 1) (.bool t) (.slice q n d) (.int .i64 f)) := by rw [hW0]; constructor <;> go_simp
 have Xr : Hid (B3q W0 (w.heap.size + 1 + 1 + 1) (.bool false) (.slice none 0 0) (.int .i64 0)) := by rw [hW0]; constructor <;> go_simp
 have hb0 : Below w.heap.size w W0 := by rw [hW0]; exact below4 w _ _ _ _
 rw [← hW0];clear hW0;have hbw := brf w;obtain ⟨gr, hgr⟩ := exq (w.heap.size + 1 + 1 + 1);have HGr : Hid (w.heap.size ≤ gr) := hgl hgr;rw [← hgr] at Xr
 try rw [← hgr]
 obtain ⟨gb, hgb⟩ := exq (w.heap.size + 1 + 1);have HGb : Hid (w.heap.size ≤ gb) := hgl hgb;rw [← hgb] at Xb
 try rw [← hgb]
 obtain ⟨ga, hga⟩ := exq (w.heap.size + 1);have HGa : Hid (w.heap.size ≤ ga) := hgl hga;rw [← hga] at Xa
 try rw [← hga]
 obtain ⟨gy, hgy⟩ := exq w.heap.size;have HGy : Hid (w.heap.size ≤ gy) := hgl hgy;rw [← hgy] at Xy
 try rw [← hgy]
 have HGD : Hid (gy ≠ ga ∧ gy ≠ gb ∧ gy ≠ gr ∧ ga ≠ gy ∧ ga ≠ gb ∧ ga ≠ gr ∧ gb ≠ gy ∧ gb ≠ ga ∧ gb ≠ gr ∧ gr ≠ gy ∧ gr ≠ ga ∧ gr ≠ gb) := by rw [hgy, hga, hgb, hgr]; show _ ∧ _; omega
 clear hgy hga hgb hgr;replace hbw := bon hbw hb0;clear hb0
 refine (dform_t (H.out.below hbw)).mono ?_
 rintro e v1 ⟨rfl, hb1⟩;replace Xy := Box.b Xy hb1;replace Xa := B3q.b Xa hb1;replace Xb := B3q.b Xb hb1;replace Xr := B3q.b Xr hb1;replace hbw := bon hbw hb1;clear hb1;obtain ⟨cb0, cb1, cb2, fb0, fb1, fb2⟩ := Xb.out;have hneb : gb < v1.heap.size := blt cb0;go_wp2_with fail;clear cb0 cb1 cb2 fb0 fb1 fb2 hneb
 refine (dform_t (K.out.below hbw)).mono ?_
 rintro e v2 ⟨rfl, hb2⟩;replace Xy := Box.b Xy hb2;replace Xa := B3q.b Xa hb2;replace Xb := B3q.b Xb hb2;replace Xr := B3q.b Xr hb2;replace hbw := bon hbw hb2;clear hb2;obtain ⟨cb0, cb1, cb2, fb0, fb1, fb2⟩ := Xb.out;have hneb : gb < v2.heap.size := blt cb0;go_wp2_with fail;clear cb0 cb1 cb2 fb0 fb1 fb2 hneb
 refine (zsign (K.out.zn.below hbw)).mono ?_
 rintro e v3 ⟨rfl, hb3⟩;obtain ⟨sg, hsg⟩ := exq (sgnI y);rw [← hsg]
 have hs0 : (sg == 0) = false := by rw [hsg]; have := HZ.out; unfold sgnI; split <;> (try split) <;> simp <;> omega
 clear hsg;replace Xy := Box.b Xy hb3;replace Xa := B3q.b Xa hb3;replace Xb := B3q.b Xb hb3;replace Xr := B3q.b Xr hb3;replace hbw := bon hbw hb3;clear hb3;obtain ⟨ca0, ca1, ca2, fa0, fa1, fa2⟩ := Xa.out;have hnea : ga < v3.heap.size := blt ca0;obtain ⟨cb0, cb1, cb2, fb0, fb1, fb2⟩ := Xb.out;have hneb : gb < v3.heap.size := blt cb0;go_wp2_with fail;clear ca0 ca1 ca2 fa0 fa1 fa2 hnea cb0 cb1 cb2 fb0 fb1 fb2 hneb hs0 g1 g2 g3
 refine (wbits (H.out.zn.below hbw) (K.out.zn.below hbw) HP.out HM.out.1 HM.out.2 HZ.out HW.out).mono ?_
 rintro e2 v5 ⟨s5, p5, m5, c5, s6, p6, m6, c6, rfl, hz5, hz6, hb5⟩;replace Xy := Box.b Xy hb5;replace Xa := B3q.b Xa hb5;replace Xb := B3q.b Xb hb5;replace Xr := B3q.b Xr hb5;replace hbw := bon hbw hb5;clear hb5;have Z5 := hdQ hz5;have Z6 := hdQ hz6;clear hz5 hz6;obtain ⟨cy0, cy1, fy0, fy1⟩ := Xy.out;have hney := Xy.out.lt;go_wp2_with fail;clear cy0 cy1 fy0 fy1 hney
 rw [show v5.heap.size + 1 = (v5.alloc (.cells #[.bool s5, .slice p5 m5 c5] 25)).heap.size from by simp]
 have XX0 : Hid (Box (v5.alloc (.cells #[.bool s5, .slice p5 m5 c5] 25)) v5.heap.size (.bool s5) (.slice p5 m5 c5)) := Box.new v5 _ _ _;have hbn : Below v5.heap.size v5 (v5.alloc (.cells #[.bool s5, .slice p5 m5 c5] 25)) := below1 v5 _;generalize v5.alloc (.cells #[.bool s5, .slice p5 m5 c5] 25) = Wx at *;have HGX : Hid (w.heap.size ≤ v5.heap.size) := hbw.size;replace Xy := Box.b Xy hbn;replace Xa := B3q.b Xa hbn;replace Xb := B3q.b Xb hbn;replace Xr := B3q.b Xr hbn;replace Z5 := ZN.b Z5 hbn;replace Z6 := ZN.b Z6 hbn;replace hbw := bon hbw hbn;clear hbn;generalize v5.heap.size = gX at *;have XX := XX0;clear XX0;have XY0 : Hid (Box (Wx.alloc (.cells #[.bool s6, .slice p6 m6 c6] 25)) Wx.heap.size (.bool s6) (.slice p6 m6 c6)) := Box.new Wx _ _ _;have hbn : Below Wx.heap.size Wx (Wx.alloc (.cells #[.bool s6, .slice p6 m6 c6] 25)) := below1 Wx _;generalize Wx.alloc (.cells #[.bool s6, .slice p6 m6 c6] 25) = Wy at *
 have HGY : Hid (w.heap.size ≤ Wx.heap.size) := hbw.size;replace Xy := Box.b Xy hbn;replace Xa := B3q.b Xa hbn;replace Xb := B3q.b Xb hbn;replace Xr := B3q.b Xr hbn;replace XX := Box.b XX hbn;replace Z5 := ZN.b Z5 hbn;replace Z6 := ZN.b Z6 hbn;replace hbw := bon hbw hbn;clear hbn;generalize Wx.heap.size = gY at *;have XY := XY0;clear XY0
 refine (zcdiv Z5.out Z6.out HY0.out).mono ?_
 rintro e v7 ⟨⟨s7, p7, m7, rfl, hz⟩, hb7⟩;replace Xy := Box.b Xy hb7;replace Xa := B3q.b Xa hb7;replace Xb := B3q.b Xb hb7;replace Xr := B3q.b Xr hb7;replace XX := Box.b XX hb7;replace XY := Box.b XY hb7;replace Z5 := ZN.b Z5 hb7;replace Z6 := ZN.b Z6 hb7;replace hbw := bon hbw hb7;clear hb7;have hz := hz.cast (z' := Z) (HQ.out);have Z7 := hdQ hz;clear hz XX XY Z5 Z6;have u1 := HU.out.1;have u2 := HU.out.2.1;have u3 := HU.out.2.2.1;have u4 := HU.out.2.2.2;obtain ⟨cy0, cy1, fy0, fy1⟩ := Xy.out;have hney := Xy.out.lt;obtain ⟨ca0, ca1, ca2, fa0, fa1, fa2⟩ := Xa.out;have hnea : ga < v7.heap.size := blt ca0;obtain ⟨cb0, cb1, cb2, fb0, fb1, fb2⟩ := Xb.out;have hneb : gb < v7.heap.size := blt cb0;go_wp2_with fail;clear cy0 cy1 fy0 fy1 hney ca0 ca1 ca2 fa0 fa1 fa2 hnea cb0 cb1 cb2 fb0 fb1 fb2 hneb u1 u2 u3 u4;have Xq0 : Hid (Box (v7.alloc (.cells #[.bool s7, .slice p7 m7 m7] 25)) v7.heap.size (.bool s7) (.slice p7 m7 m7)) := Box.new v7 _ _ _
 have hbn : Below v7.heap.size v7 (v7.alloc (.cells #[.bool s7, .slice p7 m7 m7] 25)) := below1 v7 _;generalize v7.alloc (.cells #[.bool s7, .slice p7 m7 m7] 25) = Wq at *;have HGq : Hid (w.heap.size ≤ v7.heap.size) := hbw.size;replace Xy := Box.b Xy hbn;replace Xa := B3q.b Xa hbn;replace Xb := B3q.b Xb hbn;replace Xr := B3q.b Xr hbn;replace Z7 := ZN.b Z7 hbn;replace hbw := bon hbw hbn;clear hbn;generalize v7.heap.size = gq at *;have Xq := Xq0;clear Xq0;have HRL : Hid (gr < Wq.heap.size ∧ w.heap.size ≤ Wq.heap.size) := ⟨Xr.out.lt, hbw.size⟩
 refine (cut_u Z7.out HE.out HP.out HK.out (TB.out.below hbw)).mono ?_
 rintro e2 v6 ⟨hv, hb6⟩;obtain ⟨s6, p6, m6, eo, er, rfl, hmp⟩ := hv.open;clear hv;replace Xy := Box.b Xy hb6;replace Xa := B3q.b Xa hb6;replace Xb := B3q.b Xb hb6;replace Xr := B3q.b Xr hb6;replace Xq := Box.b Xq hb6;replace Z7 := ZN.b Z7 hb6;replace hbw := bon hbw hb6;clear hb6;have M6 := hdQ hmp;clear hmp;obtain ⟨cr0, cr1, cr2, fr0, fr1, fr2⟩ := Xr.out;have hner : gr < v6.heap.size := blt cr0;go_wp2_with fail
 refine bodyPost_ret (v := .tuple #[DV s6 p6 m6 m6 eo, .int .i64 er]) (by rw [results_cell_tmp rfl]; go_simp) rfl ⟨(M6.out.set HRL.out.1 HRL.out.2 _ _ _).close, ?_⟩
 exact bSet (bSet (bSet hbw _ _ _ HGr.out) _ _ _ HGr.out) _ _ _ HGr.out
theorem qf_lu {p q : Option Addr} {m c n d : Nat} {w : World} {e f : Int} {s t : Bool} {Q : Int} (hQ : Q < 1) :
  Calls Tryz.prog 6 #[DV s p m c e, DV t q n d f, .int .i64 Q] w fun en w' => en = .returned (.tuple #[DV false none 0 0 0, .int .i64 1]) ∧ Below w.heap.size w w' := by
 have HhQ : Hid (Q < 1) := hQ;clear hQ
 go_enter Tryz.func6, Tryz.ntmps6
 go_wp2_with fail;obtain ⟨W0, hW0⟩ := exq (((w.alloc (.cells #[.bool s, .slice p m c, .int .i64 e] 27)).alloc (.cells #[.bool t, .slice q n d, .int .i64 f] 27)).alloc (.cells #[.bool false, .slice none 0 0, .int .i64 0] 27))
 have Xa : Hid (B3q W0 (w.heap.size) (.bool s) (.slice p m c) (.int .i64 e)) := by rw [hW0]; constructor <;> go_simp
 have Xb : Hid (B3q W0 (w.heap.size + 1) (.bool t) (.slice q n d) (.int .i64 f)) := by rw [hW0]; constructor <;> go_simp
 have Xr : Hid (B3q W0 (w.heap.size + 1 + 1) (.bool false) (.slice none 0 0) (.int .i64 0)) := by rw [hW0]; constructor <;> go_simp
 have hb0 := bq3 hW0;rw [← hW0];clear hW0;have hbw := brf w;obtain ⟨gr, hgr⟩ := exq (w.heap.size + 1 + 1);have HGr : Hid (w.heap.size ≤ gr) := hgl hgr;rw [← hgr] at Xr
 try rw [← hgr]
 obtain ⟨gb, hgb⟩ := exq (w.heap.size + 1);have HGb : Hid (w.heap.size ≤ gb) := hgl hgb;rw [← hgb] at Xb
 try rw [← hgb]
 obtain ⟨ga, hga⟩ := exq w.heap.size;have HGa : Hid (w.heap.size ≤ ga) := hgl hga;rw [← hga] at Xa
 try rw [← hga]
 have HGD : Hid (ga ≠ gb ∧ ga ≠ gr ∧ gb ≠ ga ∧ gb ≠ gr ∧ gr ≠ ga ∧ gr ≠ gb) := by rw [hga, hgb, hgr]; show _ ∧ _; omega
 clear hga hgb hgr;replace hbw := bon hbw hb0;clear hb0;obtain ⟨W1, hW1⟩ := exq W0.drew
 have hbd : Below W0.heap.size W0 W1 := by rw [hW1]; exact bDrew1 (Below.refl _ _)
 replace Xa := B3q.b Xa hbd;replace Xb := B3q.b Xb hbd;replace Xr := B3q.b Xr hbd;replace hbw := bon hbw hbd;clear hbd
 have HJ : Hid ((fun W' : World => W'.cell? ⟨ga, 0, none⟩ = some (.bool s) ∧ W'.cell? ⟨ga, 1, none⟩ = some (.slice p m c) ∧ W'.cell? ⟨ga, 2, none⟩ = some (.int .i64 e) ∧ W'.cell? ⟨gb, 0, none⟩ = some (.bool t) ∧ W'.cell? ⟨gb, 1, none⟩ = some (.slice q n d) ∧ W'.cell? ⟨gb, 2, none⟩ = some (.int .i64 f)) W1) := ⟨Xa.out.c0, Xa.out.c1, Xa.out.c2, Xb.out.c0, Xb.out.c1, Xb.out.c2⟩
 refine wp_region_J (fun W' => W'.cell? ⟨ga, 0, none⟩ = some (.bool s) ∧ W'.cell? ⟨ga, 1, none⟩ = some (.slice p m c) ∧ W'.cell? ⟨ga, 2, none⟩ = some (.int .i64 e) ∧ W'.cell? ⟨gb, 0, none⟩ = some (.bool t) ∧ W'.cell? ⟨gb, 1, none⟩ = some (.slice q n d) ∧ W'.cell? ⟨gb, 2, none⟩ = some (.int .i64 f)) (by kernel_rfl) ?_
 rw [← hW1];clear hW1
 refine wpJ_tq 1 rfl HJ.out ?_
 refine wpJ_tq 2 rfl HJ.out ?_
 refine wpJ_tq 3 rfl HJ.out ?_
 refine wpJ_on 0 rfl fun KJ hK => ?_
 go_simp
 refine (way_u _).mono ?_
 rintro e v1 ⟨rfl, hb1⟩;replace Xa := B3q.b Xa hb1;replace Xb := B3q.b Xb hb1;replace Xr := B3q.b Xr hb1;replace hbw := bon hbw hb1;clear hb1
 refine hK _ _ ⟨Xa.out.c0, Xa.out.c1, Xa.out.c2, Xb.out.c0, Xb.out.c1, Xb.out.c2⟩ ?_
 clear hK
 refine wpJ_on 4 rfl fun KJ hK => ?_
 go_simp
 refine (quo_lu HhQ.out).mono ?_
 rintro e v6 ⟨rfl, hb6⟩;replace Xa := B3q.b Xa hb6;replace Xb := B3q.b Xb hb6;replace Xr := B3q.b Xr hb6;replace hbw := bon hbw hb6;clear hb6 HJ
 have HJ : Hid ((fun W' : World => W'.cell? ⟨ga, 0, none⟩ = some (.bool s) ∧ W'.cell? ⟨ga, 1, none⟩ = some (.slice p m c) ∧ W'.cell? ⟨ga, 2, none⟩ = some (.int .i64 e) ∧ W'.cell? ⟨gb, 0, none⟩ = some (.bool t) ∧ W'.cell? ⟨gb, 1, none⟩ = some (.slice q n d) ∧ W'.cell? ⟨gb, 2, none⟩ = some (.int .i64 f)) v6) := ⟨Xa.out.c0, Xa.out.c1, Xa.out.c2, Xb.out.c0, Xb.out.c1, Xb.out.c2⟩
 refine hK _ _ HJ.out ?_
 clear hK
 refine wpJ_tq 5 rfl HJ.out ?_
 refine wpJ_tq 6 rfl HJ.out ?_
 obtain ⟨cr0, cr1, cr2, fr0, fr1, fr2⟩ := Xr.out;have hner : gr < v6.heap.size := blt cr0;obtain ⟨ca0, ca1, ca2, fa0, fa1, fa2⟩ := Xa.out;have hnea : ga < v6.heap.size := blt ca0;obtain ⟨cb0, cb1, cb2, fb0, fb1, fb2⟩ := Xb.out;have hneb : gb < v6.heap.size := blt cb0;obtain ⟨hgd0, hgd1, hgd2, hgd3, hgd4, hgd5⟩ := HGD.out
 refine wpJ_on 7 rfl fun KJ hK => ?_
 go_simp
 have HJ2 : Hid ((fun W' : World => W'.cell? ⟨ga, 0, none⟩ = some (.bool s) ∧ W'.cell? ⟨ga, 1, none⟩ = some (.slice p m c) ∧ W'.cell? ⟨ga, 2, none⟩ = some (.int .i64 e) ∧ W'.cell? ⟨gb, 0, none⟩ = some (.bool t) ∧ W'.cell? ⟨gb, 1, none⟩ = some (.slice q n d) ∧ W'.cell? ⟨gb, 2, none⟩ = some (.int .i64 f)) (((v6.setCell ⟨gr, 0, none⟩ (.bool false)).setCell ⟨gr, 1, none⟩ (.slice none 0 0)).setCell ⟨gr, 2, none⟩ (.int .i64 0))) := ⟨by go_simp, by go_simp, by go_simp, by go_simp, by go_simp, by go_simp⟩
 refine hK _ _ HJ2.out ?_
 clear hK HJ;have HJ := HJ2;clear HJ2
 refine wpJ_tq 8 rfl HJ.out ?_
 refine wpJ_done (by kernel_rfl) ?_ _
 clear HJ;go_wp2_with fail
 refine bodyPost_ret (v := .tuple #[DV false none 0 0 0, .int .i64 1]) (by rw [results_cell_tmp rfl]; go_simp) rfl ⟨rfl, ?_⟩
 first | exact hbw | exact bSet (bSet (bSet hbw _ _ _ HGr.out) _ _ _ HGr.out) _ _ _ HGr.out
theorem qf_gu {p q : Option Addr} {m c n d : Nat} {w : World} {e f : Int} {s t : Bool} {Q : Int} (hQ : 70000 < Q) :
  Calls Tryz.prog 6 #[DV s p m c e, DV t q n d f, .int .i64 Q] w fun en w' => en = .returned (.tuple #[DV false none 0 0 0, .int .i64 1]) ∧ Below w.heap.size w w' := by
 have HhQ : Hid (70000 < Q) := hQ;clear hQ
 go_enter Tryz.func6, Tryz.ntmps6
 go_wp2_with fail;obtain ⟨W0, hW0⟩ := exq (((w.alloc (.cells #[.bool s, .slice p m c, .int .i64 e] 27)).alloc (.cells #[.bool t, .slice q n d, .int .i64 f] 27)).alloc (.cells #[.bool false, .slice none 0 0, .int .i64 0] 27))
 have Xa : Hid (B3q W0 (w.heap.size) (.bool s) (.slice p m c) (.int .i64 e)) := by rw [hW0]; constructor <;> go_simp
 have Xb : Hid (B3q W0 (w.heap.size + 1) (.bool t) (.slice q n d) (.int .i64 f)) := by rw [hW0]; constructor <;> go_simp
 have Xr : Hid (B3q W0 (w.heap.size + 1 + 1) (.bool false) (.slice none 0 0) (.int .i64 0)) := by rw [hW0]; constructor <;> go_simp
 have hb0 := bq3 hW0;rw [← hW0];clear hW0;have hbw := brf w;obtain ⟨gr, hgr⟩ := exq (w.heap.size + 1 + 1);have HGr : Hid (w.heap.size ≤ gr) := hgl hgr;rw [← hgr] at Xr
 try rw [← hgr]
 obtain ⟨gb, hgb⟩ := exq (w.heap.size + 1);have HGb : Hid (w.heap.size ≤ gb) := hgl hgb;rw [← hgb] at Xb
 try rw [← hgb]
 obtain ⟨ga, hga⟩ := exq w.heap.size;have HGa : Hid (w.heap.size ≤ ga) := hgl hga;rw [← hga] at Xa
 try rw [← hga]
 have HGD : Hid (ga ≠ gb ∧ ga ≠ gr ∧ gb ≠ ga ∧ gb ≠ gr ∧ gr ≠ ga ∧ gr ≠ gb) := by rw [hga, hgb, hgr]; show _ ∧ _; omega
 clear hga hgb hgr;replace hbw := bon hbw hb0;clear hb0;obtain ⟨W1, hW1⟩ := exq W0.drew
 have hbd : Below W0.heap.size W0 W1 := by rw [hW1]; exact bDrew1 (Below.refl _ _)
 replace Xa := B3q.b Xa hbd;replace Xb := B3q.b Xb hbd;replace Xr := B3q.b Xr hbd;replace hbw := bon hbw hbd;clear hbd
 have HJ : Hid ((fun W' : World => W'.cell? ⟨ga, 0, none⟩ = some (.bool s) ∧ W'.cell? ⟨ga, 1, none⟩ = some (.slice p m c) ∧ W'.cell? ⟨ga, 2, none⟩ = some (.int .i64 e) ∧ W'.cell? ⟨gb, 0, none⟩ = some (.bool t) ∧ W'.cell? ⟨gb, 1, none⟩ = some (.slice q n d) ∧ W'.cell? ⟨gb, 2, none⟩ = some (.int .i64 f)) W1) := ⟨Xa.out.c0, Xa.out.c1, Xa.out.c2, Xb.out.c0, Xb.out.c1, Xb.out.c2⟩
 refine wp_region_J (fun W' => W'.cell? ⟨ga, 0, none⟩ = some (.bool s) ∧ W'.cell? ⟨ga, 1, none⟩ = some (.slice p m c) ∧ W'.cell? ⟨ga, 2, none⟩ = some (.int .i64 e) ∧ W'.cell? ⟨gb, 0, none⟩ = some (.bool t) ∧ W'.cell? ⟨gb, 1, none⟩ = some (.slice q n d) ∧ W'.cell? ⟨gb, 2, none⟩ = some (.int .i64 f)) (by kernel_rfl) ?_
 rw [← hW1];clear hW1
 refine wpJ_tq 1 rfl HJ.out ?_
 refine wpJ_tq 2 rfl HJ.out ?_
 refine wpJ_tq 3 rfl HJ.out ?_
 refine wpJ_on 0 rfl fun KJ hK => ?_
 go_simp
 refine (way_u _).mono ?_
 rintro e v1 ⟨rfl, hb1⟩;replace Xa := B3q.b Xa hb1;replace Xb := B3q.b Xb hb1;replace Xr := B3q.b Xr hb1;replace hbw := bon hbw hb1;clear hb1
 refine hK _ _ ⟨Xa.out.c0, Xa.out.c1, Xa.out.c2, Xb.out.c0, Xb.out.c1, Xb.out.c2⟩ ?_
 clear hK
 refine wpJ_on 4 rfl fun KJ hK => ?_
 go_simp
 refine (quo_gu HhQ.out).mono ?_
 rintro e v6 ⟨rfl, hb6⟩;replace Xa := B3q.b Xa hb6;replace Xb := B3q.b Xb hb6;replace Xr := B3q.b Xr hb6;replace hbw := bon hbw hb6;clear hb6 HJ
 have HJ : Hid ((fun W' : World => W'.cell? ⟨ga, 0, none⟩ = some (.bool s) ∧ W'.cell? ⟨ga, 1, none⟩ = some (.slice p m c) ∧ W'.cell? ⟨ga, 2, none⟩ = some (.int .i64 e) ∧ W'.cell? ⟨gb, 0, none⟩ = some (.bool t) ∧ W'.cell? ⟨gb, 1, none⟩ = some (.slice q n d) ∧ W'.cell? ⟨gb, 2, none⟩ = some (.int .i64 f)) v6) := ⟨Xa.out.c0, Xa.out.c1, Xa.out.c2, Xb.out.c0, Xb.out.c1, Xb.out.c2⟩
 refine hK _ _ HJ.out ?_
 clear hK
 refine wpJ_tq 5 rfl HJ.out ?_
 refine wpJ_tq 6 rfl HJ.out ?_
 obtain ⟨cr0, cr1, cr2, fr0, fr1, fr2⟩ := Xr.out;have hner : gr < v6.heap.size := blt cr0;obtain ⟨ca0, ca1, ca2, fa0, fa1, fa2⟩ := Xa.out;have hnea : ga < v6.heap.size := blt ca0;obtain ⟨cb0, cb1, cb2, fb0, fb1, fb2⟩ := Xb.out;have hneb : gb < v6.heap.size := blt cb0;obtain ⟨hgd0, hgd1, hgd2, hgd3, hgd4, hgd5⟩ := HGD.out
 refine wpJ_on 7 rfl fun KJ hK => ?_
 go_simp
 have HJ2 : Hid ((fun W' : World => W'.cell? ⟨ga, 0, none⟩ = some (.bool s) ∧ W'.cell? ⟨ga, 1, none⟩ = some (.slice p m c) ∧ W'.cell? ⟨ga, 2, none⟩ = some (.int .i64 e) ∧ W'.cell? ⟨gb, 0, none⟩ = some (.bool t) ∧ W'.cell? ⟨gb, 1, none⟩ = some (.slice q n d) ∧ W'.cell? ⟨gb, 2, none⟩ = some (.int .i64 f)) (((v6.setCell ⟨gr, 0, none⟩ (.bool false)).setCell ⟨gr, 1, none⟩ (.slice none 0 0)).setCell ⟨gr, 2, none⟩ (.int .i64 0))) := ⟨by go_simp, by go_simp, by go_simp, by go_simp, by go_simp, by go_simp⟩
 refine hK _ _ HJ2.out ?_
 clear hK HJ;have HJ := HJ2;clear HJ2
 refine wpJ_tq 8 rfl HJ.out ?_
 refine wpJ_done (by kernel_rfl) ?_ _
 clear HJ;go_wp2_with fail
 refine bodyPost_ret (v := .tuple #[DV false none 0 0 0, .int .i64 1]) (by rw [results_cell_tmp rfl]; go_simp) rfl ⟨rfl, ?_⟩
 first | exact hbw | exact bSet (bSet (bSet hbw _ _ _ HGr.out) _ _ _ HGr.out) _ _ _ HGr.out
theorem qf_au {p q : Option Addr} {m c n d : Nat} {w : World} {e f : Int} {s t : Bool} {xs : List Nat} {Q : Int} (h : At w p m c xs) (hf : formD s xs e = false) (hQ : 1 ≤ Q ∧ Q ≤ 70000) :
  Calls Tryz.prog 6 #[DV s p m c e, DV t q n d f, .int .i64 Q] w fun en w' => en = .returned (.tuple #[DV false none 0 0 0, .int .i64 2]) ∧ Below w.heap.size w w' := by
 have Hh := hdQ h;have Hhf : Hid (formD s xs e = false) := hf;have HhQ : Hid (1 ≤ Q ∧ Q ≤ 70000) := hQ;clear h hf hQ
 go_enter Tryz.func6, Tryz.ntmps6
 go_wp2_with fail;obtain ⟨W0, hW0⟩ := exq (((w.alloc (.cells #[.bool s, .slice p m c, .int .i64 e] 27)).alloc (.cells #[.bool t, .slice q n d, .int .i64 f] 27)).alloc (.cells #[.bool false, .slice none 0 0, .int .i64 0] 27))
 have Xa : Hid (B3q W0 (w.heap.size) (.bool s) (.slice p m c) (.int .i64 e)) := by rw [hW0]; constructor <;> go_simp
 have Xb : Hid (B3q W0 (w.heap.size + 1) (.bool t) (.slice q n d) (.int .i64 f)) := by rw [hW0]; constructor <;> go_simp
 have Xr : Hid (B3q W0 (w.heap.size + 1 + 1) (.bool false) (.slice none 0 0) (.int .i64 0)) := by rw [hW0]; constructor <;> go_simp
 have hb0 := bq3 hW0;rw [← hW0];clear hW0;have hbw := brf w;obtain ⟨gr, hgr⟩ := exq (w.heap.size + 1 + 1);have HGr : Hid (w.heap.size ≤ gr) := hgl hgr;rw [← hgr] at Xr
 try rw [← hgr]
 obtain ⟨gb, hgb⟩ := exq (w.heap.size + 1);have HGb : Hid (w.heap.size ≤ gb) := hgl hgb;rw [← hgb] at Xb
 try rw [← hgb]
 obtain ⟨ga, hga⟩ := exq w.heap.size;have HGa : Hid (w.heap.size ≤ ga) := hgl hga;rw [← hga] at Xa
 try rw [← hga]
 have HGD : Hid (ga ≠ gb ∧ ga ≠ gr ∧ gb ≠ ga ∧ gb ≠ gr ∧ gr ≠ ga ∧ gr ≠ gb) := by rw [hga, hgb, hgr]; show _ ∧ _; omega
 clear hga hgb hgr;replace hbw := bon hbw hb0;clear hb0;obtain ⟨W1, hW1⟩ := exq W0.drew
 have hbd : Below W0.heap.size W0 W1 := by rw [hW1]; exact bDrew1 (Below.refl _ _)
 replace Xa := B3q.b Xa hbd;replace Xb := B3q.b Xb hbd;replace Xr := B3q.b Xr hbd;replace hbw := bon hbw hbd;clear hbd
 have HJ : Hid ((fun W' : World => W'.cell? ⟨ga, 0, none⟩ = some (.bool s) ∧ W'.cell? ⟨ga, 1, none⟩ = some (.slice p m c) ∧ W'.cell? ⟨ga, 2, none⟩ = some (.int .i64 e) ∧ W'.cell? ⟨gb, 0, none⟩ = some (.bool t) ∧ W'.cell? ⟨gb, 1, none⟩ = some (.slice q n d) ∧ W'.cell? ⟨gb, 2, none⟩ = some (.int .i64 f)) W1) := ⟨Xa.out.c0, Xa.out.c1, Xa.out.c2, Xb.out.c0, Xb.out.c1, Xb.out.c2⟩
 refine wp_region_J (fun W' => W'.cell? ⟨ga, 0, none⟩ = some (.bool s) ∧ W'.cell? ⟨ga, 1, none⟩ = some (.slice p m c) ∧ W'.cell? ⟨ga, 2, none⟩ = some (.int .i64 e) ∧ W'.cell? ⟨gb, 0, none⟩ = some (.bool t) ∧ W'.cell? ⟨gb, 1, none⟩ = some (.slice q n d) ∧ W'.cell? ⟨gb, 2, none⟩ = some (.int .i64 f)) (by kernel_rfl) ?_
 rw [← hW1];clear hW1
 refine wpJ_tq 1 rfl HJ.out ?_
 refine wpJ_tq 2 rfl HJ.out ?_
 refine wpJ_tq 3 rfl HJ.out ?_
 refine wpJ_on 0 rfl fun KJ hK => ?_
 go_simp
 refine (way_u _).mono ?_
 rintro e v1 ⟨rfl, hb1⟩;replace Xa := B3q.b Xa hb1;replace Xb := B3q.b Xb hb1;replace Xr := B3q.b Xr hb1;replace hbw := bon hbw hb1;clear hb1
 refine hK _ _ ⟨Xa.out.c0, Xa.out.c1, Xa.out.c2, Xb.out.c0, Xb.out.c1, Xb.out.c2⟩ ?_
 clear hK
 refine wpJ_on 4 rfl fun KJ hK => ?_
 go_simp
 refine (quo_au (Hh.out.below hbw) Hhf.out HhQ.out).mono ?_
 rintro e v6 ⟨rfl, hb6⟩;replace Xa := B3q.b Xa hb6;replace Xb := B3q.b Xb hb6;replace Xr := B3q.b Xr hb6;replace hbw := bon hbw hb6;clear hb6 HJ
 have HJ : Hid ((fun W' : World => W'.cell? ⟨ga, 0, none⟩ = some (.bool s) ∧ W'.cell? ⟨ga, 1, none⟩ = some (.slice p m c) ∧ W'.cell? ⟨ga, 2, none⟩ = some (.int .i64 e) ∧ W'.cell? ⟨gb, 0, none⟩ = some (.bool t) ∧ W'.cell? ⟨gb, 1, none⟩ = some (.slice q n d) ∧ W'.cell? ⟨gb, 2, none⟩ = some (.int .i64 f)) v6) := ⟨Xa.out.c0, Xa.out.c1, Xa.out.c2, Xb.out.c0, Xb.out.c1, Xb.out.c2⟩
 refine hK _ _ HJ.out ?_
 clear hK
 refine wpJ_tq 5 rfl HJ.out ?_
 refine wpJ_tq 6 rfl HJ.out ?_
 obtain ⟨cr0, cr1, cr2, fr0, fr1, fr2⟩ := Xr.out;have hner : gr < v6.heap.size := blt cr0;obtain ⟨ca0, ca1, ca2, fa0, fa1, fa2⟩ := Xa.out;have hnea : ga < v6.heap.size := blt ca0;obtain ⟨cb0, cb1, cb2, fb0, fb1, fb2⟩ := Xb.out;have hneb : gb < v6.heap.size := blt cb0;obtain ⟨hgd0, hgd1, hgd2, hgd3, hgd4, hgd5⟩ := HGD.out
 refine wpJ_on 7 rfl fun KJ hK => ?_
 go_simp
 have HJ2 : Hid ((fun W' : World => W'.cell? ⟨ga, 0, none⟩ = some (.bool s) ∧ W'.cell? ⟨ga, 1, none⟩ = some (.slice p m c) ∧ W'.cell? ⟨ga, 2, none⟩ = some (.int .i64 e) ∧ W'.cell? ⟨gb, 0, none⟩ = some (.bool t) ∧ W'.cell? ⟨gb, 1, none⟩ = some (.slice q n d) ∧ W'.cell? ⟨gb, 2, none⟩ = some (.int .i64 f)) (((v6.setCell ⟨gr, 0, none⟩ (.bool false)).setCell ⟨gr, 1, none⟩ (.slice none 0 0)).setCell ⟨gr, 2, none⟩ (.int .i64 0))) := ⟨by go_simp, by go_simp, by go_simp, by go_simp, by go_simp, by go_simp⟩
 refine hK _ _ HJ2.out ?_
 clear hK HJ;have HJ := HJ2;clear HJ2
 refine wpJ_tq 8 rfl HJ.out ?_
 refine wpJ_done (by kernel_rfl) ?_ _
 clear HJ;go_wp2_with fail
 refine bodyPost_ret (v := .tuple #[DV false none 0 0 0, .int .i64 2]) (by rw [results_cell_tmp rfl]; go_simp) rfl ⟨rfl, ?_⟩
 first | exact hbw | exact bSet (bSet (bSet hbw _ _ _ HGr.out) _ _ _ HGr.out) _ _ _ HGr.out
theorem qf_bu {p q : Option Addr} {m c n d : Nat} {w : World} {e f : Int} {s t : Bool} {ys : List Nat} {x Q : Int} (h : DN w s p m c e x) (k : At w q n d ys) (hf : formD t ys f = false) (hQ : 1 ≤ Q ∧ Q ≤ 70000) :
  Calls Tryz.prog 6 #[DV s p m c e, DV t q n d f, .int .i64 Q] w fun en w' => en = .returned (.tuple #[DV false none 0 0 0, .int .i64 2]) ∧ Below w.heap.size w w' := by
 have Hh := hdQ h;have Hk := hdQ k;have Hhf : Hid (formD t ys f = false) := hf;have HhQ : Hid (1 ≤ Q ∧ Q ≤ 70000) := hQ;clear h k hf hQ
 go_enter Tryz.func6, Tryz.ntmps6
 go_wp2_with fail;obtain ⟨W0, hW0⟩ := exq (((w.alloc (.cells #[.bool s, .slice p m c, .int .i64 e] 27)).alloc (.cells #[.bool t, .slice q n d, .int .i64 f] 27)).alloc (.cells #[.bool false, .slice none 0 0, .int .i64 0] 27))
 have Xa : Hid (B3q W0 (w.heap.size) (.bool s) (.slice p m c) (.int .i64 e)) := by rw [hW0]; constructor <;> go_simp
 have Xb : Hid (B3q W0 (w.heap.size + 1) (.bool t) (.slice q n d) (.int .i64 f)) := by rw [hW0]; constructor <;> go_simp
 have Xr : Hid (B3q W0 (w.heap.size + 1 + 1) (.bool false) (.slice none 0 0) (.int .i64 0)) := by rw [hW0]; constructor <;> go_simp
 have hb0 := bq3 hW0;rw [← hW0];clear hW0;have hbw := brf w;obtain ⟨gr, hgr⟩ := exq (w.heap.size + 1 + 1);have HGr : Hid (w.heap.size ≤ gr) := hgl hgr;rw [← hgr] at Xr
 try rw [← hgr]
 obtain ⟨gb, hgb⟩ := exq (w.heap.size + 1);have HGb : Hid (w.heap.size ≤ gb) := hgl hgb;rw [← hgb] at Xb
 try rw [← hgb]
 obtain ⟨ga, hga⟩ := exq w.heap.size;have HGa : Hid (w.heap.size ≤ ga) := hgl hga;rw [← hga] at Xa
 try rw [← hga]
 have HGD : Hid (ga ≠ gb ∧ ga ≠ gr ∧ gb ≠ ga ∧ gb ≠ gr ∧ gr ≠ ga ∧ gr ≠ gb) := by rw [hga, hgb, hgr]; show _ ∧ _; omega
 clear hga hgb hgr;replace hbw := bon hbw hb0;clear hb0;obtain ⟨W1, hW1⟩ := exq W0.drew
 have hbd : Below W0.heap.size W0 W1 := by rw [hW1]; exact bDrew1 (Below.refl _ _)
 replace Xa := B3q.b Xa hbd;replace Xb := B3q.b Xb hbd;replace Xr := B3q.b Xr hbd;replace hbw := bon hbw hbd;clear hbd
 have HJ : Hid ((fun W' : World => W'.cell? ⟨ga, 0, none⟩ = some (.bool s) ∧ W'.cell? ⟨ga, 1, none⟩ = some (.slice p m c) ∧ W'.cell? ⟨ga, 2, none⟩ = some (.int .i64 e) ∧ W'.cell? ⟨gb, 0, none⟩ = some (.bool t) ∧ W'.cell? ⟨gb, 1, none⟩ = some (.slice q n d) ∧ W'.cell? ⟨gb, 2, none⟩ = some (.int .i64 f)) W1) := ⟨Xa.out.c0, Xa.out.c1, Xa.out.c2, Xb.out.c0, Xb.out.c1, Xb.out.c2⟩
 refine wp_region_J (fun W' => W'.cell? ⟨ga, 0, none⟩ = some (.bool s) ∧ W'.cell? ⟨ga, 1, none⟩ = some (.slice p m c) ∧ W'.cell? ⟨ga, 2, none⟩ = some (.int .i64 e) ∧ W'.cell? ⟨gb, 0, none⟩ = some (.bool t) ∧ W'.cell? ⟨gb, 1, none⟩ = some (.slice q n d) ∧ W'.cell? ⟨gb, 2, none⟩ = some (.int .i64 f)) (by kernel_rfl) ?_
 rw [← hW1];clear hW1
 refine wpJ_tq 1 rfl HJ.out ?_
 refine wpJ_tq 2 rfl HJ.out ?_
 refine wpJ_tq 3 rfl HJ.out ?_
 refine wpJ_on 0 rfl fun KJ hK => ?_
 go_simp
 refine (way_u _).mono ?_
 rintro e v1 ⟨rfl, hb1⟩;replace Xa := B3q.b Xa hb1;replace Xb := B3q.b Xb hb1;replace Xr := B3q.b Xr hb1;replace hbw := bon hbw hb1;clear hb1
 refine hK _ _ ⟨Xa.out.c0, Xa.out.c1, Xa.out.c2, Xb.out.c0, Xb.out.c1, Xb.out.c2⟩ ?_
 clear hK
 refine wpJ_on 4 rfl fun KJ hK => ?_
 go_simp
 refine (quo_bu (Hh.out.below hbw) (Hk.out.below hbw) Hhf.out HhQ.out).mono ?_
 rintro e v6 ⟨rfl, hb6⟩;replace Xa := B3q.b Xa hb6;replace Xb := B3q.b Xb hb6;replace Xr := B3q.b Xr hb6;replace hbw := bon hbw hb6;clear hb6 HJ
 have HJ : Hid ((fun W' : World => W'.cell? ⟨ga, 0, none⟩ = some (.bool s) ∧ W'.cell? ⟨ga, 1, none⟩ = some (.slice p m c) ∧ W'.cell? ⟨ga, 2, none⟩ = some (.int .i64 e) ∧ W'.cell? ⟨gb, 0, none⟩ = some (.bool t) ∧ W'.cell? ⟨gb, 1, none⟩ = some (.slice q n d) ∧ W'.cell? ⟨gb, 2, none⟩ = some (.int .i64 f)) v6) := ⟨Xa.out.c0, Xa.out.c1, Xa.out.c2, Xb.out.c0, Xb.out.c1, Xb.out.c2⟩
 refine hK _ _ HJ.out ?_
 clear hK
 refine wpJ_tq 5 rfl HJ.out ?_
 refine wpJ_tq 6 rfl HJ.out ?_
 obtain ⟨cr0, cr1, cr2, fr0, fr1, fr2⟩ := Xr.out;have hner : gr < v6.heap.size := blt cr0;obtain ⟨ca0, ca1, ca2, fa0, fa1, fa2⟩ := Xa.out;have hnea : ga < v6.heap.size := blt ca0;obtain ⟨cb0, cb1, cb2, fb0, fb1, fb2⟩ := Xb.out;have hneb : gb < v6.heap.size := blt cb0;obtain ⟨hgd0, hgd1, hgd2, hgd3, hgd4, hgd5⟩ := HGD.out
 refine wpJ_on 7 rfl fun KJ hK => ?_
 go_simp
 have HJ2 : Hid ((fun W' : World => W'.cell? ⟨ga, 0, none⟩ = some (.bool s) ∧ W'.cell? ⟨ga, 1, none⟩ = some (.slice p m c) ∧ W'.cell? ⟨ga, 2, none⟩ = some (.int .i64 e) ∧ W'.cell? ⟨gb, 0, none⟩ = some (.bool t) ∧ W'.cell? ⟨gb, 1, none⟩ = some (.slice q n d) ∧ W'.cell? ⟨gb, 2, none⟩ = some (.int .i64 f)) (((v6.setCell ⟨gr, 0, none⟩ (.bool false)).setCell ⟨gr, 1, none⟩ (.slice none 0 0)).setCell ⟨gr, 2, none⟩ (.int .i64 0))) := ⟨by go_simp, by go_simp, by go_simp, by go_simp, by go_simp, by go_simp⟩
 refine hK _ _ HJ2.out ?_
 clear hK HJ;have HJ := HJ2;clear HJ2
 refine wpJ_tq 8 rfl HJ.out ?_
 refine wpJ_done (by kernel_rfl) ?_ _
 clear HJ;go_wp2_with fail
 refine bodyPost_ret (v := .tuple #[DV false none 0 0 0, .int .i64 2]) (by rw [results_cell_tmp rfl]; go_simp) rfl ⟨rfl, ?_⟩
 first | exact hbw | exact bSet (bSet (bSet hbw _ _ _ HGr.out) _ _ _ HGr.out) _ _ _ HGr.out
theorem qf_zu {p q : Option Addr} {m c n d : Nat} {w : World} {e f : Int} {s t : Bool} {x y Q : Int} (h : DN w s p m c e x) (k : DN w t q n d f y) (hy : y = 0) (hQ : 1 ≤ Q ∧ Q ≤ 70000) :
  Calls Tryz.prog 6 #[DV s p m c e, DV t q n d f, .int .i64 Q] w fun en w' => en = .returned (.tuple #[DV false none 0 0 0, .int .i64 4]) ∧ Below w.heap.size w w' := by
 have Hh := hdQ h;have Hk := hdQ k;have Hhy : Hid (y = 0) := hy;have HhQ : Hid (1 ≤ Q ∧ Q ≤ 70000) := hQ;clear h k hy hQ
 go_enter Tryz.func6, Tryz.ntmps6
 go_wp2_with fail;obtain ⟨W0, hW0⟩ := exq (((w.alloc (.cells #[.bool s, .slice p m c, .int .i64 e] 27)).alloc (.cells #[.bool t, .slice q n d, .int .i64 f] 27)).alloc (.cells #[.bool false, .slice none 0 0, .int .i64 0] 27))
 have Xa : Hid (B3q W0 (w.heap.size) (.bool s) (.slice p m c) (.int .i64 e)) := by rw [hW0]; constructor <;> go_simp
 have Xb : Hid (B3q W0 (w.heap.size + 1) (.bool t) (.slice q n d) (.int .i64 f)) := by rw [hW0]; constructor <;> go_simp
 have Xr : Hid (B3q W0 (w.heap.size + 1 + 1) (.bool false) (.slice none 0 0) (.int .i64 0)) := by rw [hW0]; constructor <;> go_simp
 have hb0 := bq3 hW0;rw [← hW0];clear hW0;have hbw := brf w;obtain ⟨gr, hgr⟩ := exq (w.heap.size + 1 + 1);have HGr : Hid (w.heap.size ≤ gr) := hgl hgr;rw [← hgr] at Xr
 try rw [← hgr]
 obtain ⟨gb, hgb⟩ := exq (w.heap.size + 1);have HGb : Hid (w.heap.size ≤ gb) := hgl hgb;rw [← hgb] at Xb
 try rw [← hgb]
 obtain ⟨ga, hga⟩ := exq w.heap.size;have HGa : Hid (w.heap.size ≤ ga) := hgl hga;rw [← hga] at Xa
 try rw [← hga]
 have HGD : Hid (ga ≠ gb ∧ ga ≠ gr ∧ gb ≠ ga ∧ gb ≠ gr ∧ gr ≠ ga ∧ gr ≠ gb) := by rw [hga, hgb, hgr]; show _ ∧ _; omega
 clear hga hgb hgr;replace hbw := bon hbw hb0;clear hb0;obtain ⟨W1, hW1⟩ := exq W0.drew
 have hbd : Below W0.heap.size W0 W1 := by rw [hW1]; exact bDrew1 (Below.refl _ _)
 replace Xa := B3q.b Xa hbd;replace Xb := B3q.b Xb hbd;replace Xr := B3q.b Xr hbd;replace hbw := bon hbw hbd;clear hbd
 have HJ : Hid ((fun W' : World => W'.cell? ⟨ga, 0, none⟩ = some (.bool s) ∧ W'.cell? ⟨ga, 1, none⟩ = some (.slice p m c) ∧ W'.cell? ⟨ga, 2, none⟩ = some (.int .i64 e) ∧ W'.cell? ⟨gb, 0, none⟩ = some (.bool t) ∧ W'.cell? ⟨gb, 1, none⟩ = some (.slice q n d) ∧ W'.cell? ⟨gb, 2, none⟩ = some (.int .i64 f)) W1) := ⟨Xa.out.c0, Xa.out.c1, Xa.out.c2, Xb.out.c0, Xb.out.c1, Xb.out.c2⟩
 refine wp_region_J (fun W' => W'.cell? ⟨ga, 0, none⟩ = some (.bool s) ∧ W'.cell? ⟨ga, 1, none⟩ = some (.slice p m c) ∧ W'.cell? ⟨ga, 2, none⟩ = some (.int .i64 e) ∧ W'.cell? ⟨gb, 0, none⟩ = some (.bool t) ∧ W'.cell? ⟨gb, 1, none⟩ = some (.slice q n d) ∧ W'.cell? ⟨gb, 2, none⟩ = some (.int .i64 f)) (by kernel_rfl) ?_
 rw [← hW1];clear hW1
 refine wpJ_tq 1 rfl HJ.out ?_
 refine wpJ_tq 2 rfl HJ.out ?_
 refine wpJ_tq 3 rfl HJ.out ?_
 refine wpJ_on 0 rfl fun KJ hK => ?_
 go_simp
 refine (way_u _).mono ?_
 rintro e v1 ⟨rfl, hb1⟩;replace Xa := B3q.b Xa hb1;replace Xb := B3q.b Xb hb1;replace Xr := B3q.b Xr hb1;replace hbw := bon hbw hb1;clear hb1
 refine hK _ _ ⟨Xa.out.c0, Xa.out.c1, Xa.out.c2, Xb.out.c0, Xb.out.c1, Xb.out.c2⟩ ?_
 clear hK
 refine wpJ_on 4 rfl fun KJ hK => ?_
 go_simp
 refine (quo_zu (Hh.out.below hbw) (Hk.out.below hbw) Hhy.out HhQ.out).mono ?_
 rintro e v6 ⟨rfl, hb6⟩;replace Xa := B3q.b Xa hb6;replace Xb := B3q.b Xb hb6;replace Xr := B3q.b Xr hb6;replace hbw := bon hbw hb6;clear hb6 HJ
 have HJ : Hid ((fun W' : World => W'.cell? ⟨ga, 0, none⟩ = some (.bool s) ∧ W'.cell? ⟨ga, 1, none⟩ = some (.slice p m c) ∧ W'.cell? ⟨ga, 2, none⟩ = some (.int .i64 e) ∧ W'.cell? ⟨gb, 0, none⟩ = some (.bool t) ∧ W'.cell? ⟨gb, 1, none⟩ = some (.slice q n d) ∧ W'.cell? ⟨gb, 2, none⟩ = some (.int .i64 f)) v6) := ⟨Xa.out.c0, Xa.out.c1, Xa.out.c2, Xb.out.c0, Xb.out.c1, Xb.out.c2⟩
 refine hK _ _ HJ.out ?_
 clear hK
 refine wpJ_tq 5 rfl HJ.out ?_
 refine wpJ_tq 6 rfl HJ.out ?_
 obtain ⟨cr0, cr1, cr2, fr0, fr1, fr2⟩ := Xr.out;have hner : gr < v6.heap.size := blt cr0;obtain ⟨ca0, ca1, ca2, fa0, fa1, fa2⟩ := Xa.out;have hnea : ga < v6.heap.size := blt ca0;obtain ⟨cb0, cb1, cb2, fb0, fb1, fb2⟩ := Xb.out;have hneb : gb < v6.heap.size := blt cb0;obtain ⟨hgd0, hgd1, hgd2, hgd3, hgd4, hgd5⟩ := HGD.out
 refine wpJ_on 7 rfl fun KJ hK => ?_
 go_simp
 have HJ2 : Hid ((fun W' : World => W'.cell? ⟨ga, 0, none⟩ = some (.bool s) ∧ W'.cell? ⟨ga, 1, none⟩ = some (.slice p m c) ∧ W'.cell? ⟨ga, 2, none⟩ = some (.int .i64 e) ∧ W'.cell? ⟨gb, 0, none⟩ = some (.bool t) ∧ W'.cell? ⟨gb, 1, none⟩ = some (.slice q n d) ∧ W'.cell? ⟨gb, 2, none⟩ = some (.int .i64 f)) (((v6.setCell ⟨gr, 0, none⟩ (.bool false)).setCell ⟨gr, 1, none⟩ (.slice none 0 0)).setCell ⟨gr, 2, none⟩ (.int .i64 0))) := ⟨by go_simp, by go_simp, by go_simp, by go_simp, by go_simp, by go_simp⟩
 refine hK _ _ HJ2.out ?_
 clear hK HJ;have HJ := HJ2;clear HJ2
 refine wpJ_tq 8 rfl HJ.out ?_
 refine wpJ_done (by kernel_rfl) ?_ _
 clear HJ;go_wp2_with fail
 refine bodyPost_ret (v := .tuple #[DV false none 0 0 0, .int .i64 4]) (by rw [results_cell_tmp rfl]; go_simp) rfl ⟨rfl, ?_⟩
 first | exact hbw | exact bSet (bSet (bSet hbw _ _ _ HGr.out) _ _ _ HGr.out) _ _ _ HGr.out
theorem qf_mu {p q : Option Addr} {m c n d : Nat} {w : World} {e f : Int} {s t : Bool} {x y Q : Int} (h : DN w s p m c e x) (k : DN w t q n d f y) (hy : y ≠ 0) (hm : 4096 < max m n) (hQ : 1 ≤ Q ∧ Q ≤ 70000) :
  Calls Tryz.prog 6 #[DV s p m c e, DV t q n d f, .int .i64 Q] w fun en w' => en = .returned (.tuple #[DV false none 0 0 0, .int .i64 5]) ∧ Below w.heap.size w w' := by
 have Hh := hdQ h;have Hk := hdQ k;have Hhy : Hid (y ≠ 0) := hy;have Hhm : Hid (4096 < max m n) := hm;have HhQ : Hid (1 ≤ Q ∧ Q ≤ 70000) := hQ;clear h k hy hm hQ
 go_enter Tryz.func6, Tryz.ntmps6
 go_wp2_with fail;obtain ⟨W0, hW0⟩ := exq (((w.alloc (.cells #[.bool s, .slice p m c, .int .i64 e] 27)).alloc (.cells #[.bool t, .slice q n d, .int .i64 f] 27)).alloc (.cells #[.bool false, .slice none 0 0, .int .i64 0] 27))
 have Xa : Hid (B3q W0 (w.heap.size) (.bool s) (.slice p m c) (.int .i64 e)) := by rw [hW0]; constructor <;> go_simp
 have Xb : Hid (B3q W0 (w.heap.size + 1) (.bool t) (.slice q n d) (.int .i64 f)) := by rw [hW0]; constructor <;> go_simp
 have Xr : Hid (B3q W0 (w.heap.size + 1 + 1) (.bool false) (.slice none 0 0) (.int .i64 0)) := by rw [hW0]; constructor <;> go_simp
 have hb0 := bq3 hW0;rw [← hW0];clear hW0;have hbw := brf w;obtain ⟨gr, hgr⟩ := exq (w.heap.size + 1 + 1);have HGr : Hid (w.heap.size ≤ gr) := hgl hgr;rw [← hgr] at Xr
 try rw [← hgr]
 obtain ⟨gb, hgb⟩ := exq (w.heap.size + 1);have HGb : Hid (w.heap.size ≤ gb) := hgl hgb;rw [← hgb] at Xb
 try rw [← hgb]
 obtain ⟨ga, hga⟩ := exq w.heap.size;have HGa : Hid (w.heap.size ≤ ga) := hgl hga;rw [← hga] at Xa
 try rw [← hga]
 have HGD : Hid (ga ≠ gb ∧ ga ≠ gr ∧ gb ≠ ga ∧ gb ≠ gr ∧ gr ≠ ga ∧ gr ≠ gb) := by rw [hga, hgb, hgr]; show _ ∧ _; omega
 clear hga hgb hgr;replace hbw := bon hbw hb0;clear hb0;obtain ⟨W1, hW1⟩ := exq W0.drew
 have hbd : Below W0.heap.size W0 W1 := by rw [hW1]; exact bDrew1 (Below.refl _ _)
 replace Xa := B3q.b Xa hbd;replace Xb := B3q.b Xb hbd;replace Xr := B3q.b Xr hbd;replace hbw := bon hbw hbd;clear hbd
 have HJ : Hid ((fun W' : World => W'.cell? ⟨ga, 0, none⟩ = some (.bool s) ∧ W'.cell? ⟨ga, 1, none⟩ = some (.slice p m c) ∧ W'.cell? ⟨ga, 2, none⟩ = some (.int .i64 e) ∧ W'.cell? ⟨gb, 0, none⟩ = some (.bool t) ∧ W'.cell? ⟨gb, 1, none⟩ = some (.slice q n d) ∧ W'.cell? ⟨gb, 2, none⟩ = some (.int .i64 f)) W1) := ⟨Xa.out.c0, Xa.out.c1, Xa.out.c2, Xb.out.c0, Xb.out.c1, Xb.out.c2⟩
 refine wp_region_J (fun W' => W'.cell? ⟨ga, 0, none⟩ = some (.bool s) ∧ W'.cell? ⟨ga, 1, none⟩ = some (.slice p m c) ∧ W'.cell? ⟨ga, 2, none⟩ = some (.int .i64 e) ∧ W'.cell? ⟨gb, 0, none⟩ = some (.bool t) ∧ W'.cell? ⟨gb, 1, none⟩ = some (.slice q n d) ∧ W'.cell? ⟨gb, 2, none⟩ = some (.int .i64 f)) (by kernel_rfl) ?_
 rw [← hW1];clear hW1
 refine wpJ_tq 1 rfl HJ.out ?_
 refine wpJ_tq 2 rfl HJ.out ?_
 refine wpJ_tq 3 rfl HJ.out ?_
 refine wpJ_on 0 rfl fun KJ hK => ?_
 go_simp
 refine (way_u _).mono ?_
 rintro e v1 ⟨rfl, hb1⟩;replace Xa := B3q.b Xa hb1;replace Xb := B3q.b Xb hb1;replace Xr := B3q.b Xr hb1;replace hbw := bon hbw hb1;clear hb1
 refine hK _ _ ⟨Xa.out.c0, Xa.out.c1, Xa.out.c2, Xb.out.c0, Xb.out.c1, Xb.out.c2⟩ ?_
 clear hK
 refine wpJ_on 4 rfl fun KJ hK => ?_
 go_simp
 refine (quo_mu (Hh.out.below hbw) (Hk.out.below hbw) Hhy.out Hhm.out HhQ.out).mono ?_
 rintro e v6 ⟨rfl, hb6⟩;replace Xa := B3q.b Xa hb6;replace Xb := B3q.b Xb hb6;replace Xr := B3q.b Xr hb6;replace hbw := bon hbw hb6;clear hb6 HJ
 have HJ : Hid ((fun W' : World => W'.cell? ⟨ga, 0, none⟩ = some (.bool s) ∧ W'.cell? ⟨ga, 1, none⟩ = some (.slice p m c) ∧ W'.cell? ⟨ga, 2, none⟩ = some (.int .i64 e) ∧ W'.cell? ⟨gb, 0, none⟩ = some (.bool t) ∧ W'.cell? ⟨gb, 1, none⟩ = some (.slice q n d) ∧ W'.cell? ⟨gb, 2, none⟩ = some (.int .i64 f)) v6) := ⟨Xa.out.c0, Xa.out.c1, Xa.out.c2, Xb.out.c0, Xb.out.c1, Xb.out.c2⟩
 refine hK _ _ HJ.out ?_
 clear hK
 refine wpJ_tq 5 rfl HJ.out ?_
 refine wpJ_tq 6 rfl HJ.out ?_
 obtain ⟨cr0, cr1, cr2, fr0, fr1, fr2⟩ := Xr.out;have hner : gr < v6.heap.size := blt cr0;obtain ⟨ca0, ca1, ca2, fa0, fa1, fa2⟩ := Xa.out;have hnea : ga < v6.heap.size := blt ca0;obtain ⟨cb0, cb1, cb2, fb0, fb1, fb2⟩ := Xb.out;have hneb : gb < v6.heap.size := blt cb0;obtain ⟨hgd0, hgd1, hgd2, hgd3, hgd4, hgd5⟩ := HGD.out
 refine wpJ_on 7 rfl fun KJ hK => ?_
 go_simp
 have HJ2 : Hid ((fun W' : World => W'.cell? ⟨ga, 0, none⟩ = some (.bool s) ∧ W'.cell? ⟨ga, 1, none⟩ = some (.slice p m c) ∧ W'.cell? ⟨ga, 2, none⟩ = some (.int .i64 e) ∧ W'.cell? ⟨gb, 0, none⟩ = some (.bool t) ∧ W'.cell? ⟨gb, 1, none⟩ = some (.slice q n d) ∧ W'.cell? ⟨gb, 2, none⟩ = some (.int .i64 f)) (((v6.setCell ⟨gr, 0, none⟩ (.bool false)).setCell ⟨gr, 1, none⟩ (.slice none 0 0)).setCell ⟨gr, 2, none⟩ (.int .i64 0))) := ⟨by go_simp, by go_simp, by go_simp, by go_simp, by go_simp, by go_simp⟩
 refine hK _ _ HJ2.out ?_
 clear hK HJ;have HJ := HJ2;clear HJ2
 refine wpJ_tq 8 rfl HJ.out ?_
 refine wpJ_done (by kernel_rfl) ?_ _
 clear HJ;go_wp2_with fail
 refine bodyPost_ret (v := .tuple #[DV false none 0 0 0, .int .i64 5]) (by rw [results_cell_tmp rfl]; go_simp) rfl ⟨rfl, ?_⟩
 first | exact hbw | exact bSet (bSet (bSet hbw _ _ _ HGr.out) _ _ _ HGr.out) _ _ _ HGr.out
theorem qf_ou {p q : Option Addr} {m c n d : Nat} {w : World} {e f : Int} {s t : Bool} {x y X Y L Z : Int} {P K9 : Nat} (h : DN w s p m c e x) (k : DN w t q n d f y) (hy : y ≠ 0) (hm : m ≤ 4096) (hn : n ≤ 4096) (hP : 1 ≤ P ∧ P ≤ 70000) (hw : WB x y P X Y L) (hZ : Z = qI true X Y) (hK : K9 = bitsN Z.natAbs - P) (hT : Tab w) :
  Calls Tryz.prog 6 #[DV s p m c e, DV t q n d f, .int .i64 P] w fun en w' => MakeP w.heap.size w' en (rd true Z (2 ^ K9)) (e - f - L + K9) ∧ Below w.heap.size w w' := by
 have H := hdQ h;have K := hdQ k;have HA : Hid (y ≠ 0 ∧ m ≤ 4096 ∧ n ≤ 4096 ∧ (1 ≤ P ∧ P ≤ 70000) ∧ WB x y P X Y L ∧ Z = qI true X Y ∧ K9 = bitsN Z.natAbs - P) := ⟨hy, hm, hn, hP, hw, hZ, hK⟩;have TB : Hid (Tab w) := hT;clear h k hy hm hn hP hw hZ hK hT
 go_enter Tryz.func6, Tryz.ntmps6
 go_wp2_with fail;obtain ⟨W0, hW0⟩ := exq (((w.alloc (.cells #[.bool s, .slice p m c, .int .i64 e] 27)).alloc (.cells #[.bool t, .slice q n d, .int .i64 f] 27)).alloc (.cells #[.bool false, .slice none 0 0, .int .i64 0] 27))
 have Xa : Hid (B3q W0 (w.heap.size) (.bool s) (.slice p m c) (.int .i64 e)) := by rw [hW0]; constructor <;> go_simp
 have Xb : Hid (B3q W0 (w.heap.size + 1) (.bool t) (.slice q n d) (.int .i64 f)) := by rw [hW0]; constructor <;> go_simp
 have Xr : Hid (B3q W0 (w.heap.size + 1 + 1) (.bool false) (.slice none 0 0) (.int .i64 0)) := by rw [hW0]; constructor <;> go_simp
 have hb0 := bq3 hW0;rw [← hW0];clear hW0;have hbw := brf w;obtain ⟨gr, hgr⟩ := exq (w.heap.size + 1 + 1);have HGr : Hid (w.heap.size ≤ gr) := hgl hgr;rw [← hgr] at Xr
 try rw [← hgr]
 obtain ⟨gb, hgb⟩ := exq (w.heap.size + 1);have HGb : Hid (w.heap.size ≤ gb) := hgl hgb;rw [← hgb] at Xb
 try rw [← hgb]
 obtain ⟨ga, hga⟩ := exq w.heap.size;have HGa : Hid (w.heap.size ≤ ga) := hgl hga;rw [← hga] at Xa
 try rw [← hga]
 have HGD : Hid (ga ≠ gb ∧ ga ≠ gr ∧ gb ≠ ga ∧ gb ≠ gr ∧ gr ≠ ga ∧ gr ≠ gb) := by rw [hga, hgb, hgr]; show _ ∧ _; omega
 clear hga hgb hgr;replace hbw := bon hbw hb0;clear hb0;obtain ⟨W1, hW1⟩ := exq W0.drew
 have hbd : Below W0.heap.size W0 W1 := by rw [hW1]; exact bDrew1 (Below.refl _ _)
 replace Xa := B3q.b Xa hbd;replace Xb := B3q.b Xb hbd;replace Xr := B3q.b Xr hbd;replace hbw := bon hbw hbd;clear hbd
 have HJ : Hid ((fun W' : World => W'.cell? ⟨ga, 0, none⟩ = some (.bool s) ∧ W'.cell? ⟨ga, 1, none⟩ = some (.slice p m c) ∧ W'.cell? ⟨ga, 2, none⟩ = some (.int .i64 e) ∧ W'.cell? ⟨gb, 0, none⟩ = some (.bool t) ∧ W'.cell? ⟨gb, 1, none⟩ = some (.slice q n d) ∧ W'.cell? ⟨gb, 2, none⟩ = some (.int .i64 f)) W1) := ⟨Xa.out.c0, Xa.out.c1, Xa.out.c2, Xb.out.c0, Xb.out.c1, Xb.out.c2⟩
 refine wp_region_J (fun W' => W'.cell? ⟨ga, 0, none⟩ = some (.bool s) ∧ W'.cell? ⟨ga, 1, none⟩ = some (.slice p m c) ∧ W'.cell? ⟨ga, 2, none⟩ = some (.int .i64 e) ∧ W'.cell? ⟨gb, 0, none⟩ = some (.bool t) ∧ W'.cell? ⟨gb, 1, none⟩ = some (.slice q n d) ∧ W'.cell? ⟨gb, 2, none⟩ = some (.int .i64 f)) (by kernel_rfl) ?_
 rw [← hW1];clear hW1
 refine wpJ_tq 1 rfl HJ.out ?_
 refine wpJ_tq 2 rfl HJ.out ?_
 refine wpJ_tq 3 rfl HJ.out ?_
 refine wpJ_on 0 rfl fun KJ hK => ?_
 go_simp
 refine (way_u _).mono ?_
 rintro e v1 ⟨rfl, hb1⟩;replace Xa := B3q.b Xa hb1;replace Xb := B3q.b Xb hb1;replace Xr := B3q.b Xr hb1;replace hbw := bon hbw hb1;clear hb1
 refine hK _ _ ⟨Xa.out.c0, Xa.out.c1, Xa.out.c2, Xb.out.c0, Xb.out.c1, Xb.out.c2⟩ ?_
 clear hK
 refine wpJ_on 4 rfl fun KJ hK => ?_
 go_simp;have HRL : Hid (gr < v1.heap.size ∧ w.heap.size ≤ v1.heap.size) := ⟨Xr.out.lt, hbw.size⟩
 refine (quo_ou (H.out.below hbw) (K.out.below hbw) HA.out.1 HA.out.2.1 HA.out.2.2.1 HA.out.2.2.2.1 HA.out.2.2.2.2.1 HA.out.2.2.2.2.2.1 HA.out.2.2.2.2.2.2 (TB.out.below hbw)).mono ?_
 rintro e2 v6 ⟨hv, hb6⟩;obtain ⟨s6, p6, m6, eo, er, rfl, hmp⟩ := hv.open;clear hv;replace Xa := B3q.b Xa hb6;replace Xb := B3q.b Xb hb6;replace Xr := B3q.b Xr hb6;replace hbw := bon hbw hb6;clear hb6;have M6 := hdQ hmp;clear hmp HJ
 have HJ : Hid ((fun W' : World => W'.cell? ⟨ga, 0, none⟩ = some (.bool s) ∧ W'.cell? ⟨ga, 1, none⟩ = some (.slice p m c) ∧ W'.cell? ⟨ga, 2, none⟩ = some (.int .i64 e) ∧ W'.cell? ⟨gb, 0, none⟩ = some (.bool t) ∧ W'.cell? ⟨gb, 1, none⟩ = some (.slice q n d) ∧ W'.cell? ⟨gb, 2, none⟩ = some (.int .i64 f)) v6) := ⟨Xa.out.c0, Xa.out.c1, Xa.out.c2, Xb.out.c0, Xb.out.c1, Xb.out.c2⟩
 refine hK _ _ HJ.out ?_
 clear hK
 refine wpJ_tq 5 rfl HJ.out ?_
 refine wpJ_tq 6 rfl HJ.out ?_
 obtain ⟨cr0, cr1, cr2, fr0, fr1, fr2⟩ := Xr.out;have hner : gr < v6.heap.size := blt cr0;obtain ⟨ca0, ca1, ca2, fa0, fa1, fa2⟩ := Xa.out;have hnea : ga < v6.heap.size := blt ca0;obtain ⟨cb0, cb1, cb2, fb0, fb1, fb2⟩ := Xb.out;have hneb : gb < v6.heap.size := blt cb0;obtain ⟨hgd0, hgd1, hgd2, hgd3, hgd4, hgd5⟩ := HGD.out
 refine wpJ_on 7 rfl fun KJ hK => ?_
 go_simp
 have HJ2 : Hid ((fun W' : World => W'.cell? ⟨ga, 0, none⟩ = some (.bool s) ∧ W'.cell? ⟨ga, 1, none⟩ = some (.slice p m c) ∧ W'.cell? ⟨ga, 2, none⟩ = some (.int .i64 e) ∧ W'.cell? ⟨gb, 0, none⟩ = some (.bool t) ∧ W'.cell? ⟨gb, 1, none⟩ = some (.slice q n d) ∧ W'.cell? ⟨gb, 2, none⟩ = some (.int .i64 f)) (((v6.setCell ⟨gr, 0, none⟩ (.bool s6)).setCell ⟨gr, 1, none⟩ (.slice p6 m6 m6)).setCell ⟨gr, 2, none⟩ (.int .i64 eo))) := ⟨by go_simp, by go_simp, by go_simp, by go_simp, by go_simp, by go_simp⟩
 refine hK _ _ HJ2.out ?_
 clear hK HJ;have HJ := HJ2;clear HJ2
 refine wpJ_tq 8 rfl HJ.out ?_
 refine wpJ_done (by kernel_rfl) ?_ _
 clear HJ;go_wp2_with fail
 refine bodyPost_ret (v := .tuple #[DV s6 p6 m6 m6 eo, .int .i64 er]) (by rw [results_cell_tmp rfl]; go_simp) rfl ⟨(M6.out.set HRL.out.1 HRL.out.2 _ _ _).close, ?_⟩
 exact bSet (bSet (bSet hbw _ _ _ HGr.out) _ _ _ HGr.out) _ _ _ HGr.out
end Go.Proofs.YtmlclpjimkjjeaaGreatDoor
