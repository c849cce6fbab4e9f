import Derived.Test.YtmkglkdhnbjjhaaNum7
import Derived.Laws.Cover1
namespace Go.Proofs.Ytmkglkdhnbjjhaa
open Go.RowKit Go.Shelf

theorem len_lt {m : Nat} {zs : List Nat} {a : Nat} (h : Nf B64 zs a) (hl : zs.length = m) (K : Nat) (hm : m ≤ K) : a < B64 ^ K := by
  rw [← h.val]
  exact Nat.lt_of_lt_of_le (valB_lt B64_pos h.dig) (Nat.pow_le_pow_right B64_pos (by omega))
theorem sum_len {w : World} {p q : Option Addr} {m n c d : Nat} {xs ys : List Nat} {a b : Nat} (h : Num w p m c xs a) (k : Num w q n d ys b) (s t : Bool) (hl : LIM ≤ (iv s a + iv t b).natAbs) : max m n = 8192 := by
  have h1 := h.le; have h2 := k.le
  have h3 : (iv s a + iv t b).natAbs ≤ a + b := by cases s <;> cases t <;> simp [iv] <;> omega
  rcases Nat.lt_or_ge (max m n) 8192 with hlt | hge
  · exfalso
    obtain ⟨K, hK⟩ : ∃ K, K = 8192 := ⟨8192, rfl⟩
    obtain ⟨J, hJ⟩ : ∃ J, J + 1 = K := ⟨8191, by rw [hK]⟩
    rw [LIM_eq K hK, ← hJ, Nat.pow_succ] at hl
    have ha := len_lt h.nf h.at_.len J (by omega)
    have hb := len_lt k.nf k.at_.len J (by omega)
    have : B64 ^ J * 2 ≤ B64 ^ J * B64 := Nat.mul_le_mul_left _ (by rw [B64_eq]; omega)
    omega
  · omega
theorem mul_len {w : World} {p q : Option Addr} {m n c d : Nat} {xs ys : List Nat} {a b : Nat} (h : Num w p m c xs a) (k : Num w q n d ys b) (s t : Bool) (hl : LIM ≤ (iv s a * iv t b).natAbs) : 8192 < m + n := by
  rw [(iv_mul s t a b).1] at hl
  rcases Nat.lt_or_ge 8192 (m + n) with hlt | hge
  · exact hlt
  · exfalso
    obtain ⟨K, hK⟩ : ∃ K, K = 8192 := ⟨8192, rfl⟩
    rw [LIM_eq K hK] at hl
    have ha := len_lt h.nf h.at_.len m (Nat.le_refl _)
    have hb := len_lt k.nf k.at_.len n (Nat.le_refl _)
    have h1 : a * b < B64 ^ m * B64 ^ n := Nat.mul_lt_mul'' ha hb
    rw [← Nat.pow_add] at h1
    have h2 : B64 ^ (m + n) ≤ B64 ^ K := Nat.pow_le_pow_right B64_pos (by omega)
    omega
theorem lim_big (a b : Nat) (ha : a ≤ 8192) (hb : b ≤ 8192) (h : 8192 < a + b) : Ending.returned (Value.bool (decide ((8192 : Int) < wrap64 ((a : Int) + (b : Int))))) = .returned (.bool true) := by
  have : wrap64 ((a : Int) + (b : Int)) = (a : Int) + (b : Int) := by simp only [wrap64]; omega
  rw [this, decide_eq_true (by omega)]
theorem sgn_iv (t : Bool) (a : Nat) (h : t = true → 0 < a) : decide (iv t a < 0) = t := by
  cases t
  · simp [iv]
  · have := h rfl; simp [iv]; omega

set_option maxRecDepth 20000 in
set_option maxHeartbeats 20000000 in
theorem numring_walk {p q r : Option Addr} {n m l c d f : Nat} {xs ys zs : List Nat} {w : World} (s0 s1 s2 : Bool) (h : At w p n c xs) (k : At w q m d ys) (o : At w r l f zs) (hn : n ≤ 17592186044416) (hm : m ≤ 17592186044416) (hl : l ≤ 17592186044416) :
    Calls Try.prog 3 #[ZV s0 p n c, ZV s1 q m d, ZV s2 r l f] w fun e w' => e = .returned (.bool true) ∧ Below w.heap.size w w' := by
  have A0 : Hid (At w p n c xs) := h
  have B0 : Hid (At w q m d ys) := k
  have C0 : Hid (At w r l f zs) := o
  clear h k o
  go_enter Try.func3, Try.ntmps3
  go_wp2_with fail
  have hbw : Below w.heap.size w w := Below.refl _ _
  obtain ⟨W0, hW0⟩ : ∃ W0, W0 = ((w.alloc (.cells #[.bool s0, .slice p n c] 24)).alloc (.cells #[.bool s1, .slice q m d] 24)).alloc (.cells #[.bool s2, .slice r l f] 24) := ⟨_, rfl⟩
  have Xb : Hid (Box W0 (w.heap.size + 1) (.bool s1) (.slice q m d)) := by rw [hW0]; exact ⟨by go_simp, by go_simp, by go_simp, by go_simp⟩
  have Xc : Hid (Box W0 (w.heap.size + 1 + 1) (.bool s2) (.slice r l f)) := by rw [hW0]; exact ⟨by go_simp, by go_simp, by go_simp, by go_simp⟩
  have hb0 : Below w.heap.size w W0 := by rw [hW0]; exact below3 w _ _ _
  rw [← hW0]
  clear hW0
  generalize w.heap.size + 1 + 1 = gc at *
  generalize hgb : w.heap.size + 1 = gb at *
  clear hgb
  have A0' : Hid (At W0 p n c xs) := A0.out.below hb0
  clear A0
  have A0 := A0'
  clear A0'
  have B0' : Hid (At W0 q m d ys) := B0.out.below hb0
  clear B0
  have B0 := B0'
  clear B0'
  have C0' : Hid (At W0 r l f zs) := C0.out.below hb0
  clear C0
  have C0 := C0'
  clear C0'
  have hbw' := Below.on hbw hb0
  clear hbw
  have hbw := hbw'
  clear hbw'
  clear hb0
  refine (formed_any s0 A0.out hn).mono ?_
  rintro e vx ⟨tx, qx, kx, Nx, ux, ox, rfl, hox, hAx, hnx, htx, hbx⟩
  have Yb : Hid (Box vx gb (.bool s1) (.slice q m d)) := Xb.out.below hbx
  clear Xb
  have Xb := Yb
  clear Yb
  have Yc : Hid (Box vx gc (.bool s2) (.slice r l f)) := Xc.out.below hbx
  clear Xc
  have Xc := Yc
  clear Yc
  have A0' : Hid (At vx p n c xs) := A0.out.below hbx
  clear A0
  have A0 := A0'
  clear A0'
  have B0' : Hid (At vx q m d ys) := B0.out.below hbx
  clear B0
  have B0 := B0'
  clear B0'
  have C0' : Hid (At vx r l f zs) := C0.out.below hbx
  clear C0
  have C0 := C0'
  clear C0'
  have hbw' := Below.on hbw hbx
  clear hbw
  have hbw := hbw'
  clear hbw'
  clear hbx
  have Hx : Hid (At vx qx kx Nx ux) := hAx
  obtain ⟨ax, hax⟩ : ∃ a, a = valB B64 xs := ⟨_, rfl⟩
  rw [← hax] at hnx htx
  have Fx : Hid (Nf B64 ux ax) := hnx
  have Tx : Hid (tx = true → 0 < ax) := htx
  have Ox : Hid (ox = decide (kx ≤ 8192)) := hox
  clear hAx hnx htx hox hax
  clear A0
  obtain ⟨cb0, cb1, fb0, fb1⟩ := Xb.out
  have hneb : gb < vx.heap.size := World.block_lt_of_cell? vx _ cb0
  go_wp2_with fail
  clear cb0 cb1 fb0 fb1 hneb
  have Xx0 : Hid (Box (vx.alloc (.cells #[(.bool tx), (.slice qx kx Nx)] 24)) vx.heap.size (.bool tx) (.slice qx kx Nx)) := Box.new vx _ _ _
  have hbn : Below vx.heap.size vx (vx.alloc (.cells #[(.bool tx), (.slice qx kx Nx)] 24)) := below1 vx _
  generalize vx.alloc (.cells #[(.bool tx), (.slice qx kx Nx)] 24) = Wx at *
  have Yb : Hid (Box Wx gb (.bool s1) (.slice q m d)) := Xb.out.below hbn
  clear Xb
  have Xb := Yb
  clear Yb
  have Yc : Hid (Box Wx gc (.bool s2) (.slice r l f)) := Xc.out.below hbn
  clear Xc
  have Xc := Yc
  clear Yc
  have B0' : Hid (At Wx q m d ys) := B0.out.below hbn
  clear B0
  have B0 := B0'
  clear B0'
  have C0' : Hid (At Wx r l f zs) := C0.out.below hbn
  clear C0
  have C0 := C0'
  clear C0'
  have Hx' : Hid (At Wx qx kx Nx ux) := Hx.out.below hbn
  clear Hx
  have Hx := Hx'
  clear Hx'
  have hbw' := Below.on hbw hbn
  clear hbw
  have hbw := hbw'
  clear hbw'
  clear hbn
  generalize vx.heap.size = gx at *
  have Xx := Xx0
  clear Xx0
  clear Xb
  refine (formed_any s1 B0.out hm).mono ?_
  rintro e vy ⟨ty, qy, ky, Ny, uy, oy, rfl, hoy, hAy, hny, hty, hby⟩
  have Yc : Hid (Box vy gc (.bool s2) (.slice r l f)) := Xc.out.below hby
  clear Xc
  have Xc := Yc
  clear Yc
  have Yx : Hid (Box vy gx (.bool tx) (.slice qx kx Nx)) := Xx.out.below hby
  clear Xx
  have Xx := Yx
  clear Yx
  have B0' : Hid (At vy q m d ys) := B0.out.below hby
  clear B0
  have B0 := B0'
  clear B0'
  have C0' : Hid (At vy r l f zs) := C0.out.below hby
  clear C0
  have C0 := C0'
  clear C0'
  have Hx' : Hid (At vy qx kx Nx ux) := Hx.out.below hby
  clear Hx
  have Hx := Hx'
  clear Hx'
  have hbw' := Below.on hbw hby
  clear hbw
  have hbw := hbw'
  clear hbw'
  clear hby
  have Hy : Hid (At vy qy ky Ny uy) := hAy
  obtain ⟨ay, hay⟩ : ∃ a, a = valB B64 ys := ⟨_, rfl⟩
  rw [← hay] at hny hty
  have Fy : Hid (Nf B64 uy ay) := hny
  have Ty : Hid (ty = true → 0 < ay) := hty
  have Oy : Hid (oy = decide (ky ≤ 8192)) := hoy
  clear hAy hny hty hoy hay
  clear B0
  obtain ⟨cc0, cc1, fc0, fc1⟩ := Xc.out
  have hnec : gc < vy.heap.size := World.block_lt_of_cell? vy _ cc0
  go_wp2_with fail
  clear cc0 cc1 fc0 fc1 hnec
  have Xy0 : Hid (Box (vy.alloc (.cells #[(.bool ty), (.slice qy ky Ny)] 24)) vy.heap.size (.bool ty) (.slice qy ky Ny)) := Box.new vy _ _ _
  have hbn : Below vy.heap.size vy (vy.alloc (.cells #[(.bool ty), (.slice qy ky Ny)] 24)) := below1 vy _
  generalize vy.alloc (.cells #[(.bool ty), (.slice qy ky Ny)] 24) = Wy at *
  have Yc : Hid (Box Wy gc (.bool s2) (.slice r l f)) := Xc.out.below hbn
  clear Xc
  have Xc := Yc
  clear Yc
  have Yx : Hid (Box Wy gx (.bool tx) (.slice qx kx Nx)) := Xx.out.below hbn
  clear Xx
  have Xx := Yx
  clear Yx
  have C0' : Hid (At Wy r l f zs) := C0.out.below hbn
  clear C0
  have C0 := C0'
  clear C0'
  have Hx' : Hid (At Wy qx kx Nx ux) := Hx.out.below hbn
  clear Hx
  have Hx := Hx'
  clear Hx'
  have Hy' : Hid (At Wy qy ky Ny uy) := Hy.out.below hbn
  clear Hy
  have Hy := Hy'
  clear Hy'
  have hbw' := Below.on hbw hbn
  clear hbw
  have hbw := hbw'
  clear hbw'
  clear hbn
  generalize vy.heap.size = gy at *
  have Xy := Xy0
  clear Xy0
  clear Xc
  refine (formed_any s2 C0.out hl).mono ?_
  rintro e vz ⟨tz, qz, kz, Nz, uz, oz, rfl, hoz, hAz, hnz, htz, hbz⟩
  have Yx : Hid (Box vz gx (.bool tx) (.slice qx kx Nx)) := Xx.out.below hbz
  clear Xx
  have Xx := Yx
  clear Yx
  have Yy : Hid (Box vz gy (.bool ty) (.slice qy ky Ny)) := Xy.out.below hbz
  clear Xy
  have Xy := Yy
  clear Yy
  have C0' : Hid (At vz r l f zs) := C0.out.below hbz
  clear C0
  have C0 := C0'
  clear C0'
  have Hx' : Hid (At vz qx kx Nx ux) := Hx.out.below hbz
  clear Hx
  have Hx := Hx'
  clear Hx'
  have Hy' : Hid (At vz qy ky Ny uy) := Hy.out.below hbz
  clear Hy
  have Hy := Hy'
  clear Hy'
  have hbw' := Below.on hbw hbz
  clear hbw
  have hbw := hbw'
  clear hbw'
  clear hbz
  have Hz : Hid (At vz qz kz Nz uz) := hAz
  obtain ⟨az, haz⟩ : ∃ a, a = valB B64 zs := ⟨_, rfl⟩
  rw [← haz] at hnz htz
  have Fz : Hid (Nf B64 uz az) := hnz
  have Tz : Hid (tz = true → 0 < az) := htz
  have Oz : Hid (oz = decide (kz ≤ 8192)) := hoz
  clear hAz hnz htz hoz haz
  clear C0
  go_wp2_with fail
  have Xz0 : Hid (Box (vz.alloc (.cells #[(.bool tz), (.slice qz kz Nz)] 24)) vz.heap.size (.bool tz) (.slice qz kz Nz)) := Box.new vz _ _ _
  have hbn : Below vz.heap.size vz (vz.alloc (.cells #[(.bool tz), (.slice qz kz Nz)] 24)) := below1 vz _
  generalize vz.alloc (.cells #[(.bool tz), (.slice qz kz Nz)] 24) = Wz at *
  have Yx : Hid (Box Wz gx (.bool tx) (.slice qx kx Nx)) := Xx.out.below hbn
  clear Xx
  have Xx := Yx
  clear Yx
  have Yy : Hid (Box Wz gy (.bool ty) (.slice qy ky Ny)) := Xy.out.below hbn
  clear Xy
  have Xy := Yy
  clear Yy
  have Hx' : Hid (At Wz qx kx Nx ux) := Hx.out.below hbn
  clear Hx
  have Hx := Hx'
  clear Hx'
  have Hy' : Hid (At Wz qy ky Ny uy) := Hy.out.below hbn
  clear Hy
  have Hy := Hy'
  clear Hy'
  have Hz' : Hid (At Wz qz kz Nz uz) := Hz.out.below hbn
  clear Hz
  have Hz := Hz'
  clear Hz'
  have hbw' := Below.on hbw hbn
  clear hbw
  have hbw := hbw'
  clear hbw'
  clear hbn
  generalize vz.heap.size = gz at *
  have Xz := Xz0
  clear Xz0
  refine (awake4_any _).mono ?_
  rintro e va ⟨rfl, hba⟩
  have Yx : Hid (Box va gx (.bool tx) (.slice qx kx Nx)) := Xx.out.below hba
  clear Xx
  have Xx := Yx
  clear Yx
  have Yy : Hid (Box va gy (.bool ty) (.slice qy ky Ny)) := Xy.out.below hba
  clear Xy
  have Xy := Yy
  clear Yy
  have Yz : Hid (Box va gz (.bool tz) (.slice qz kz Nz)) := Xz.out.below hba
  clear Xz
  have Xz := Yz
  clear Yz
  have Hx' : Hid (At va qx kx Nx ux) := Hx.out.below hba
  clear Hx
  have Hx := Hx'
  clear Hx'
  have Hy' : Hid (At va qy ky Ny uy) := Hy.out.below hba
  clear Hy
  have Hy := Hy'
  clear Hy'
  have Hz' : Hid (At va qz kz Nz uz) := Hz.out.below hba
  clear Hz
  have Hz := Hz'
  clear Hz'
  have hbw' := Below.on hbw hba
  clear hbw
  have hbw := hbw'
  clear hbw'
  clear hba
  cases ox
  · clear Ox Oy Oz
    go_wp2_with fail
    refine (awake4_any _).mono ?_
    rintro e vr ⟨rfl, hbr⟩
    have Yx : Hid (Box vr gx (.bool tx) (.slice qx kx Nx)) := Xx.out.below hbr
    clear Xx
    have Xx := Yx
    clear Yx
    have Yy : Hid (Box vr gy (.bool ty) (.slice qy ky Ny)) := Xy.out.below hbr
    clear Xy
    have Xy := Yy
    clear Yy
    have Yz : Hid (Box vr gz (.bool tz) (.slice qz kz Nz)) := Xz.out.below hbr
    clear Xz
    have Xz := Yz
    clear Yz
    have Hx' : Hid (At vr qx kx Nx ux) := Hx.out.below hbr
    clear Hx
    have Hx := Hx'
    clear Hx'
    have Hy' : Hid (At vr qy ky Ny uy) := Hy.out.below hbr
    clear Hy
    have Hy := Hy'
    clear Hy'
    have Hz' : Hid (At vr qz kz Nz uz) := Hz.out.below hbr
    clear Hz
    have Hz := Hz'
    clear Hz'
    have hbw' := Below.on hbw hbr
    clear hbw
    have hbw := hbw'
    clear hbw'
    clear hbr
    go_wp2_with fail
    go_ret
    exact ⟨rfl, hbw⟩
  cases oy
  · clear Ox Oy Oz
    go_wp2_with fail
    refine (awake4_any _).mono ?_
    rintro e vr ⟨rfl, hbr⟩
    have Yx : Hid (Box vr gx (.bool tx) (.slice qx kx Nx)) := Xx.out.below hbr
    clear Xx
    have Xx := Yx
    clear Yx
    have Yy : Hid (Box vr gy (.bool ty) (.slice qy ky Ny)) := Xy.out.below hbr
    clear Xy
    have Xy := Yy
    clear Yy
    have Yz : Hid (Box vr gz (.bool tz) (.slice qz kz Nz)) := Xz.out.below hbr
    clear Xz
    have Xz := Yz
    clear Yz
    have Hx' : Hid (At vr qx kx Nx ux) := Hx.out.below hbr
    clear Hx
    have Hx := Hx'
    clear Hx'
    have Hy' : Hid (At vr qy ky Ny uy) := Hy.out.below hbr
    clear Hy
    have Hy := Hy'
    clear Hy'
    have Hz' : Hid (At vr qz kz Nz uz) := Hz.out.below hbr
    clear Hz
    have Hz := Hz'
    clear Hz'
    have hbw' := Below.on hbw hbr
    clear hbw
    have hbw := hbw'
    clear hbw'
    clear hbr
    go_wp2_with fail
    go_ret
    exact ⟨rfl, hbw⟩
  cases oz
  · clear Ox Oy Oz
    go_wp2_with fail
    refine (awake4_any _).mono ?_
    rintro e vr ⟨rfl, hbr⟩
    have Yx : Hid (Box vr gx (.bool tx) (.slice qx kx Nx)) := Xx.out.below hbr
    clear Xx
    have Xx := Yx
    clear Yx
    have Yy : Hid (Box vr gy (.bool ty) (.slice qy ky Ny)) := Xy.out.below hbr
    clear Xy
    have Xy := Yy
    clear Yy
    have Yz : Hid (Box vr gz (.bool tz) (.slice qz kz Nz)) := Xz.out.below hbr
    clear Xz
    have Xz := Yz
    clear Yz
    have Hx' : Hid (At vr qx kx Nx ux) := Hx.out.below hbr
    clear Hx
    have Hx := Hx'
    clear Hx'
    have Hy' : Hid (At vr qy ky Ny uy) := Hy.out.below hbr
    clear Hy
    have Hy := Hy'
    clear Hy'
    have Hz' : Hid (At vr qz kz Nz uz) := Hz.out.below hbr
    clear Hz
    have Hz := Hz'
    clear Hz'
    have hbw' := Below.on hbw hbr
    clear hbw
    have hbw := hbw'
    clear hbw'
    clear hbr
    go_wp2_with fail
    go_ret
    exact ⟨rfl, hbw⟩
  have Mx : Hid (Num va qx kx Nx ux ax) := ⟨Hx.out, Fx.out, of_decide_eq_true Ox.out.symm⟩
  clear Hx
  have My : Hid (Num va qy ky Ny uy ay) := ⟨Hy.out, Fy.out, of_decide_eq_true Oy.out.symm⟩
  clear Hy
  have Mz : Hid (Num va qz kz Nz uz az) := ⟨Hz.out, Fz.out, of_decide_eq_true Oz.out.symm⟩
  clear Hz
  clear Ox Oy Oz Fx Fy Fz
  obtain ⟨cx0, cx1, fx0, fx1⟩ := Xx.out
  have hnex : gx < va.heap.size := World.block_lt_of_cell? va _ cx0
  obtain ⟨cy0, cy1, fy0, fy1⟩ := Xy.out
  have hney : gy < va.heap.size := World.block_lt_of_cell? va _ cy0
  go_wp2_with fail
  clear cx0 cx1 fx0 fx1 hnex
  clear cy0 cy1 fy0 fy1 hney
  refine (nadd_any tx ty Mx.out My.out Tx.out Ty.out).mono ?_
  rintro e v4 ⟨ha, hb4⟩
  obtain ⟨s4, p4, m4, z4, er4, rfl, hA, hT⟩ := ha.any
  have Yx : Hid (Box v4 gx (.bool tx) (.slice qx kx Nx)) := Xx.out.below hb4
  clear Xx
  have Xx := Yx
  clear Yx
  have Yy : Hid (Box v4 gy (.bool ty) (.slice qy ky Ny)) := Xy.out.below hb4
  clear Xy
  have Xy := Yy
  clear Yy
  have Yz : Hid (Box v4 gz (.bool tz) (.slice qz kz Nz)) := Xz.out.below hb4
  clear Xz
  have Xz := Yz
  clear Yz
  have Mx' : Hid (Num v4 qx kx Nx ux ax) := Mx.out.below hb4
  clear Mx
  have Mx := Mx'
  clear Mx'
  have My' : Hid (Num v4 qy ky Ny uy ay) := My.out.below hb4
  clear My
  have My := My'
  clear My'
  have Mz' : Hid (Num v4 qz kz Nz uz az) := Mz.out.below hb4
  clear Mz
  have Mz := Mz'
  clear Mz'
  have hbw' := Below.on hbw hb4
  clear hbw
  have hbw := hbw'
  clear hbw'
  clear hb4
  have A4 : Hid (At v4 p4 m4 m4 z4) := hA
  have T4 : Hid (Told (iv tx ax + iv ty ay) s4 m4 z4 er4) := hT
  clear hA hT ha
  obtain ⟨cx0, cx1, fx0, fx1⟩ := Xx.out
  have hnex : gx < v4.heap.size := World.block_lt_of_cell? v4 _ cx0
  obtain ⟨cy0, cy1, fy0, fy1⟩ := Xy.out
  have hney : gy < v4.heap.size := World.block_lt_of_cell? v4 _ cy0
  go_wp2_with fail
  clear cx0 cx1 fx0 fx1 hnex
  clear cy0 cy1 fy0 fy1 hney
  have Xs0 : Hid (Box (v4.alloc (.cells #[(.bool s4), (.slice p4 m4 m4)] 24)) v4.heap.size (.bool s4) (.slice p4 m4 m4)) := Box.new v4 _ _ _
  have hbn : Below v4.heap.size v4 (v4.alloc (.cells #[(.bool s4), (.slice p4 m4 m4)] 24)) := below1 v4 _
  generalize v4.alloc (.cells #[(.bool s4), (.slice p4 m4 m4)] 24) = W4 at *
  have Yx : Hid (Box W4 gx (.bool tx) (.slice qx kx Nx)) := Xx.out.below hbn
  clear Xx
  have Xx := Yx
  clear Yx
  have Yy : Hid (Box W4 gy (.bool ty) (.slice qy ky Ny)) := Xy.out.below hbn
  clear Xy
  have Xy := Yy
  clear Yy
  have Yz : Hid (Box W4 gz (.bool tz) (.slice qz kz Nz)) := Xz.out.below hbn
  clear Xz
  have Xz := Yz
  clear Yz
  have Mx' : Hid (Num W4 qx kx Nx ux ax) := Mx.out.below hbn
  clear Mx
  have Mx := Mx'
  clear Mx'
  have My' : Hid (Num W4 qy ky Ny uy ay) := My.out.below hbn
  clear My
  have My := My'
  clear My'
  have Mz' : Hid (Num W4 qz kz Nz uz az) := Mz.out.below hbn
  clear Mz
  have Mz := Mz'
  clear Mz'
  have A4' : Hid (At W4 p4 m4 m4 z4) := A4.out.below hbn
  clear A4
  have A4 := A4'
  clear A4'
  have hbw' := Below.on hbw hbn
  clear hbw
  have hbw := hbw'
  clear hbw'
  clear hbn
  generalize v4.heap.size = gs at *
  have Xs := Xs0
  clear Xs0
  refine (nadd_any ty tx My.out Mx.out Ty.out Tx.out).mono ?_
  rintro e v5 ⟨ha, hb5⟩
  rw [Int.add_comm] at ha
  obtain ⟨s5, p5, m5, z5, er5, rfl, hA, hT⟩ := ha.any
  obtain ⟨es, ez, ee⟩ := T4.out.inj hT
  subst es ez ee
  have Yx : Hid (Box v5 gx (.bool tx) (.slice qx kx Nx)) := Xx.out.below hb5
  clear Xx
  have Xx := Yx
  clear Yx
  have Yy : Hid (Box v5 gy (.bool ty) (.slice qy ky Ny)) := Xy.out.below hb5
  clear Xy
  have Xy := Yy
  clear Yy
  have Yz : Hid (Box v5 gz (.bool tz) (.slice qz kz Nz)) := Xz.out.below hb5
  clear Xz
  have Xz := Yz
  clear Yz
  have Ys : Hid (Box v5 gs (.bool s4) (.slice p4 m4 m4)) := Xs.out.below hb5
  clear Xs
  have Xs := Ys
  clear Ys
  have Mx' : Hid (Num v5 qx kx Nx ux ax) := Mx.out.below hb5
  clear Mx
  have Mx := Mx'
  clear Mx'
  have My' : Hid (Num v5 qy ky Ny uy ay) := My.out.below hb5
  clear My
  have My := My'
  clear My'
  have Mz' : Hid (Num v5 qz kz Nz uz az) := Mz.out.below hb5
  clear Mz
  have Mz := Mz'
  clear Mz'
  have A4' : Hid (At v5 p4 m4 m4 z4) := A4.out.below hb5
  clear A4
  have A4 := A4'
  clear A4'
  have hbw' := Below.on hbw hb5
  clear hbw
  have hbw := hbw'
  clear hbw'
  clear hb5
  have A5 : Hid (At v5 p5 m5 m5 z4) := hA
  clear hA hT ha
  obtain ⟨cx0, cx1, fx0, fx1⟩ := Xx.out
  have hnex : gx < v5.heap.size := World.block_lt_of_cell? v5 _ cx0
  obtain ⟨cy0, cy1, fy0, fy1⟩ := Xy.out
  have hney : gy < v5.heap.size := World.block_lt_of_cell? v5 _ cy0
  go_wp2_with fail
  clear cx0 cx1 fx0 fx1 hnex
  clear cy0 cy1 fy0 fy1 hney
  have Xt0 : Hid (Box (v5.alloc (.cells #[(.bool s4), (.slice p5 m5 m5)] 24)) v5.heap.size (.bool s4) (.slice p5 m5 m5)) := Box.new v5 _ _ _
  have hbn : Below v5.heap.size v5 (v5.alloc (.cells #[(.bool s4), (.slice p5 m5 m5)] 24)) := below1 v5 _
  generalize v5.alloc (.cells #[(.bool s4), (.slice p5 m5 m5)] 24) = W5 at *
  have Yx : Hid (Box W5 gx (.bool tx) (.slice qx kx Nx)) := Xx.out.below hbn
  clear Xx
  have Xx := Yx
  clear Yx
  have Yy : Hid (Box W5 gy (.bool ty) (.slice qy ky Ny)) := Xy.out.below hbn
  clear Xy
  have Xy := Yy
  clear Yy
  have Yz : Hid (Box W5 gz (.bool tz) (.slice qz kz Nz)) := Xz.out.below hbn
  clear Xz
  have Xz := Yz
  clear Yz
  have Ys : Hid (Box W5 gs (.bool s4) (.slice p4 m4 m4)) := Xs.out.below hbn
  clear Xs
  have Xs := Ys
  clear Ys
  have Mx' : Hid (Num W5 qx kx Nx ux ax) := Mx.out.below hbn
  clear Mx
  have Mx := Mx'
  clear Mx'
  have My' : Hid (Num W5 qy ky Ny uy ay) := My.out.below hbn
  clear My
  have My := My'
  clear My'
  have Mz' : Hid (Num W5 qz kz Nz uz az) := Mz.out.below hbn
  clear Mz
  have Mz := Mz'
  clear Mz'
  have A4' : Hid (At W5 p4 m4 m4 z4) := A4.out.below hbn
  clear A4
  have A4 := A4'
  clear A4'
  have A5' : Hid (At W5 p5 m5 m5 z4) := A5.out.below hbn
  clear A5
  have A5 := A5'
  clear A5'
  have hbw' := Below.on hbw hbn
  clear hbw
  have hbw := hbw'
  clear hbw'
  clear hbn
  generalize v5.heap.size = gt at *
  have Xt := Xt0
  clear Xt0
  refine (nmul_any tx ty Mx.out My.out Tx.out Ty.out).mono ?_
  rintro e v6 ⟨ha, hb6⟩
  obtain ⟨s6, p6, m6, z6, er6, rfl, hA, hT⟩ := ha.any
  have Yx : Hid (Box v6 gx (.bool tx) (.slice qx kx Nx)) := Xx.out.below hb6
  clear Xx
  have Xx := Yx
  clear Yx
  have Yy : Hid (Box v6 gy (.bool ty) (.slice qy ky Ny)) := Xy.out.below hb6
  clear Xy
  have Xy := Yy
  clear Yy
  have Yz : Hid (Box v6 gz (.bool tz) (.slice qz kz Nz)) := Xz.out.below hb6
  clear Xz
  have Xz := Yz
  clear Yz
  have Ys : Hid (Box v6 gs (.bool s4) (.slice p4 m4 m4)) := Xs.out.below hb6
  clear Xs
  have Xs := Ys
  clear Ys
  have Yt : Hid (Box v6 gt (.bool s4) (.slice p5 m5 m5)) := Xt.out.below hb6
  clear Xt
  have Xt := Yt
  clear Yt
  have Mx' : Hid (Num v6 qx kx Nx ux ax) := Mx.out.below hb6
  clear Mx
  have Mx := Mx'
  clear Mx'
  have My' : Hid (Num v6 qy ky Ny uy ay) := My.out.below hb6
  clear My
  have My := My'
  clear My'
  have Mz' : Hid (Num v6 qz kz Nz uz az) := Mz.out.below hb6
  clear Mz
  have Mz := Mz'
  clear Mz'
  have A4' : Hid (At v6 p4 m4 m4 z4) := A4.out.below hb6
  clear A4
  have A4 := A4'
  clear A4'
  have A5' : Hid (At v6 p5 m5 m5 z4) := A5.out.below hb6
  clear A5
  have A5 := A5'
  clear A5'
  have hbw' := Below.on hbw hb6
  clear hbw
  have hbw := hbw'
  clear hbw'
  clear hb6
  have A6 : Hid (At v6 p6 m6 m6 z6) := hA
  have T6 : Hid (Told (iv tx ax * iv ty ay) s6 m6 z6 er6) := hT
  clear hA hT ha
  obtain ⟨cx0, cx1, fx0, fx1⟩ := Xx.out
  have hnex : gx < v6.heap.size := World.block_lt_of_cell? v6 _ cx0
  obtain ⟨cy0, cy1, fy0, fy1⟩ := Xy.out
  have hney : gy < v6.heap.size := World.block_lt_of_cell? v6 _ cy0
  go_wp2_with fail
  clear cx0 cx1 fx0 fx1 hnex
  clear cy0 cy1 fy0 fy1 hney
  have Xp0 : Hid (Box (v6.alloc (.cells #[(.bool s6), (.slice p6 m6 m6)] 24)) v6.heap.size (.bool s6) (.slice p6 m6 m6)) := Box.new v6 _ _ _
  have hbn : Below v6.heap.size v6 (v6.alloc (.cells #[(.bool s6), (.slice p6 m6 m6)] 24)) := below1 v6 _
  generalize v6.alloc (.cells #[(.bool s6), (.slice p6 m6 m6)] 24) = W6 at *
  have Yx : Hid (Box W6 gx (.bool tx) (.slice qx kx Nx)) := Xx.out.below hbn
  clear Xx
  have Xx := Yx
  clear Yx
  have Yy : Hid (Box W6 gy (.bool ty) (.slice qy ky Ny)) := Xy.out.below hbn
  clear Xy
  have Xy := Yy
  clear Yy
  have Yz : Hid (Box W6 gz (.bool tz) (.slice qz kz Nz)) := Xz.out.below hbn
  clear Xz
  have Xz := Yz
  clear Yz
  have Ys : Hid (Box W6 gs (.bool s4) (.slice p4 m4 m4)) := Xs.out.below hbn
  clear Xs
  have Xs := Ys
  clear Ys
  have Yt : Hid (Box W6 gt (.bool s4) (.slice p5 m5 m5)) := Xt.out.below hbn
  clear Xt
  have Xt := Yt
  clear Yt
  have Mx' : Hid (Num W6 qx kx Nx ux ax) := Mx.out.below hbn
  clear Mx
  have Mx := Mx'
  clear Mx'
  have My' : Hid (Num W6 qy ky Ny uy ay) := My.out.below hbn
  clear My
  have My := My'
  clear My'
  have Mz' : Hid (Num W6 qz kz Nz uz az) := Mz.out.below hbn
  clear Mz
  have Mz := Mz'
  clear Mz'
  have A4' : Hid (At W6 p4 m4 m4 z4) := A4.out.below hbn
  clear A4
  have A4 := A4'
  clear A4'
  have A5' : Hid (At W6 p5 m5 m5 z4) := A5.out.below hbn
  clear A5
  have A5 := A5'
  clear A5'
  have A6' : Hid (At W6 p6 m6 m6 z6) := A6.out.below hbn
  clear A6
  have A6 := A6'
  clear A6'
  have hbw' := Below.on hbw hbn
  clear hbw
  have hbw := hbw'
  clear hbw'
  clear hbn
  generalize v6.heap.size = gp at *
  have Xp := Xp0
  clear Xp0
  refine (nmul_any ty tx My.out Mx.out Ty.out Tx.out).mono ?_
  rintro e v7 ⟨ha, hb7⟩
  rw [Int.mul_comm] at ha
  obtain ⟨s7, p7, m7, z7, er7, rfl, hA, hT⟩ := ha.any
  obtain ⟨es, ez, ee⟩ := T6.out.inj hT
  subst es ez ee
  have Yx : Hid (Box v7 gx (.bool tx) (.slice qx kx Nx)) := Xx.out.below hb7
  clear Xx
  have Xx := Yx
  clear Yx
  have Yy : Hid (Box v7 gy (.bool ty) (.slice qy ky Ny)) := Xy.out.below hb7
  clear Xy
  have Xy := Yy
  clear Yy
  have Yz : Hid (Box v7 gz (.bool tz) (.slice qz kz Nz)) := Xz.out.below hb7
  clear Xz
  have Xz := Yz
  clear Yz
  have Ys : Hid (Box v7 gs (.bool s4) (.slice p4 m4 m4)) := Xs.out.below hb7
  clear Xs
  have Xs := Ys
  clear Ys
  have Yt : Hid (Box v7 gt (.bool s4) (.slice p5 m5 m5)) := Xt.out.below hb7
  clear Xt
  have Xt := Yt
  clear Yt
  have Yp : Hid (Box v7 gp (.bool s6) (.slice p6 m6 m6)) := Xp.out.below hb7
  clear Xp
  have Xp := Yp
  clear Yp
  have Mx' : Hid (Num v7 qx kx Nx ux ax) := Mx.out.below hb7
  clear Mx
  have Mx := Mx'
  clear Mx'
  have My' : Hid (Num v7 qy ky Ny uy ay) := My.out.below hb7
  clear My
  have My := My'
  clear My'
  have Mz' : Hid (Num v7 qz kz Nz uz az) := Mz.out.below hb7
  clear Mz
  have Mz := Mz'
  clear Mz'
  have A4' : Hid (At v7 p4 m4 m4 z4) := A4.out.below hb7
  clear A4
  have A4 := A4'
  clear A4'
  have A5' : Hid (At v7 p5 m5 m5 z4) := A5.out.below hb7
  clear A5
  have A5 := A5'
  clear A5'
  have A6' : Hid (At v7 p6 m6 m6 z6) := A6.out.below hb7
  clear A6
  have A6 := A6'
  clear A6'
  have hbw' := Below.on hbw hb7
  clear hbw
  have hbw := hbw'
  clear hbw'
  clear hb7
  have A7 : Hid (At v7 p7 m7 m7 z6) := hA
  clear hA hT ha
  obtain ⟨cs0, cs1, fs0, fs1⟩ := Xs.out
  have hnes : gs < v7.heap.size := World.block_lt_of_cell? v7 _ cs0
  obtain ⟨ct0, ct1, ft0, ft1⟩ := Xt.out
  have hnet : gt < v7.heap.size := World.block_lt_of_cell? v7 _ ct0
  go_wp2_with fail
  clear cs0 cs1 fs0 fs1 hnes
  clear ct0 ct1 ft0 ft1 hnet
  have Xq0 : Hid (Box (v7.alloc (.cells #[(.bool s6), (.slice p7 m7 m7)] 24)) v7.heap.size (.bool s6) (.slice p7 m7 m7)) := Box.new v7 _ _ _
  have hbn : Below v7.heap.size v7 (v7.alloc (.cells #[(.bool s6), (.slice p7 m7 m7)] 24)) := below1 v7 _
  generalize v7.alloc (.cells #[(.bool s6), (.slice p7 m7 m7)] 24) = W7 at *
  have Yx : Hid (Box W7 gx (.bool tx) (.slice qx kx Nx)) := Xx.out.below hbn
  clear Xx
  have Xx := Yx
  clear Yx
  have Yy : Hid (Box W7 gy (.bool ty) (.slice qy ky Ny)) := Xy.out.below hbn
  clear Xy
  have Xy := Yy
  clear Yy
  have Yz : Hid (Box W7 gz (.bool tz) (.slice qz kz Nz)) := Xz.out.below hbn
  clear Xz
  have Xz := Yz
  clear Yz
  have Ys : Hid (Box W7 gs (.bool s4) (.slice p4 m4 m4)) := Xs.out.below hbn
  clear Xs
  have Xs := Ys
  clear Ys
  have Yt : Hid (Box W7 gt (.bool s4) (.slice p5 m5 m5)) := Xt.out.below hbn
  clear Xt
  have Xt := Yt
  clear Yt
  have Yp : Hid (Box W7 gp (.bool s6) (.slice p6 m6 m6)) := Xp.out.below hbn
  clear Xp
  have Xp := Yp
  clear Yp
  have Mx' : Hid (Num W7 qx kx Nx ux ax) := Mx.out.below hbn
  clear Mx
  have Mx := Mx'
  clear Mx'
  have My' : Hid (Num W7 qy ky Ny uy ay) := My.out.below hbn
  clear My
  have My := My'
  clear My'
  have Mz' : Hid (Num W7 qz kz Nz uz az) := Mz.out.below hbn
  clear Mz
  have Mz := Mz'
  clear Mz'
  have A4' : Hid (At W7 p4 m4 m4 z4) := A4.out.below hbn
  clear A4
  have A4 := A4'
  clear A4'
  have A5' : Hid (At W7 p5 m5 m5 z4) := A5.out.below hbn
  clear A5
  have A5 := A5'
  clear A5'
  have A6' : Hid (At W7 p6 m6 m6 z6) := A6.out.below hbn
  clear A6
  have A6 := A6'
  clear A6'
  have A7' : Hid (At W7 p7 m7 m7 z6) := A7.out.below hbn
  clear A7
  have A7 := A7'
  clear A7'
  have hbw' := Below.on hbw hbn
  clear hbw
  have hbw := hbw'
  clear hbw'
  clear hbn
  generalize v7.heap.size = gq at *
  have Xq := Xq0
  clear Xq0
  refine (nsame_t s4 A4.out A5.out).mono ?_
  rintro e v8 ⟨rfl, hb8⟩
  have Yx : Hid (Box v8 gx (.bool tx) (.slice qx kx Nx)) := Xx.out.below hb8
  clear Xx
  have Xx := Yx
  clear Yx
  have Yy : Hid (Box v8 gy (.bool ty) (.slice qy ky Ny)) := Xy.out.below hb8
  clear Xy
  have Xy := Yy
  clear Yy
  have Yz : Hid (Box v8 gz (.bool tz) (.slice qz kz Nz)) := Xz.out.below hb8
  clear Xz
  have Xz := Yz
  clear Yz
  have Ys : Hid (Box v8 gs (.bool s4) (.slice p4 m4 m4)) := Xs.out.below hb8
  clear Xs
  have Xs := Ys
  clear Ys
  have Yt : Hid (Box v8 gt (.bool s4) (.slice p5 m5 m5)) := Xt.out.below hb8
  clear Xt
  have Xt := Yt
  clear Yt
  have Yp : Hid (Box v8 gp (.bool s6) (.slice p6 m6 m6)) := Xp.out.below hb8
  clear Xp
  have Xp := Yp
  clear Yp
  have Yq : Hid (Box v8 gq (.bool s6) (.slice p7 m7 m7)) := Xq.out.below hb8
  clear Xq
  have Xq := Yq
  clear Yq
  have Mx' : Hid (Num v8 qx kx Nx ux ax) := Mx.out.below hb8
  clear Mx
  have Mx := Mx'
  clear Mx'
  have My' : Hid (Num v8 qy ky Ny uy ay) := My.out.below hb8
  clear My
  have My := My'
  clear My'
  have Mz' : Hid (Num v8 qz kz Nz uz az) := Mz.out.below hb8
  clear Mz
  have Mz := Mz'
  clear Mz'
  have A4' : Hid (At v8 p4 m4 m4 z4) := A4.out.below hb8
  clear A4
  have A4 := A4'
  clear A4'
  have A5' : Hid (At v8 p5 m5 m5 z4) := A5.out.below hb8
  clear A5
  have A5 := A5'
  clear A5'
  have A6' : Hid (At v8 p6 m6 m6 z6) := A6.out.below hb8
  clear A6
  have A6 := A6'
  clear A6'
  have A7' : Hid (At v8 p7 m7 m7 z6) := A7.out.below hb8
  clear A7
  have A7 := A7'
  clear A7'
  have hbw' := Below.on hbw hb8
  clear hbw
  have hbw := hbw'
  clear hbw'
  clear hb8
  clear Xt
  clear A5
  obtain ⟨cp0, cp1, fp0, fp1⟩ := Xp.out
  have hnep : gp < v8.heap.size := World.block_lt_of_cell? v8 _ cp0
  obtain ⟨cq0, cq1, fq0, fq1⟩ := Xq.out
  have hneq : gq < v8.heap.size := World.block_lt_of_cell? v8 _ cq0
  go_wp2_with fail
  clear cp0 cp1 fp0 fp1 hnep
  clear cq0 cq1 fq0 fq1 hneq
  refine (nsame_t s6 A6.out A7.out).mono ?_
  rintro e v9 ⟨rfl, hb9⟩
  have Yx : Hid (Box v9 gx (.bool tx) (.slice qx kx Nx)) := Xx.out.below hb9
  clear Xx
  have Xx := Yx
  clear Yx
  have Yy : Hid (Box v9 gy (.bool ty) (.slice qy ky Ny)) := Xy.out.below hb9
  clear Xy
  have Xy := Yy
  clear Yy
  have Yz : Hid (Box v9 gz (.bool tz) (.slice qz kz Nz)) := Xz.out.below hb9
  clear Xz
  have Xz := Yz
  clear Yz
  have Ys : Hid (Box v9 gs (.bool s4) (.slice p4 m4 m4)) := Xs.out.below hb9
  clear Xs
  have Xs := Ys
  clear Ys
  have Yp : Hid (Box v9 gp (.bool s6) (.slice p6 m6 m6)) := Xp.out.below hb9
  clear Xp
  have Xp := Yp
  clear Yp
  have Yq : Hid (Box v9 gq (.bool s6) (.slice p7 m7 m7)) := Xq.out.below hb9
  clear Xq
  have Xq := Yq
  clear Yq
  have Mx' : Hid (Num v9 qx kx Nx ux ax) := Mx.out.below hb9
  clear Mx
  have Mx := Mx'
  clear Mx'
  have My' : Hid (Num v9 qy ky Ny uy ay) := My.out.below hb9
  clear My
  have My := My'
  clear My'
  have Mz' : Hid (Num v9 qz kz Nz uz az) := Mz.out.below hb9
  clear Mz
  have Mz := Mz'
  clear Mz'
  have A4' : Hid (At v9 p4 m4 m4 z4) := A4.out.below hb9
  clear A4
  have A4 := A4'
  clear A4'
  have A6' : Hid (At v9 p6 m6 m6 z6) := A6.out.below hb9
  clear A6
  have A6 := A6'
  clear A6'
  have A7' : Hid (At v9 p7 m7 m7 z6) := A7.out.below hb9
  clear A7
  have A7 := A7'
  clear A7'
  have hbw' := Below.on hbw hb9
  clear hbw
  have hbw := hbw'
  clear hbw'
  clear hb9
  clear Xp
  clear Xq
  clear A6
  clear A7
  have HE6 := T6.out.er
  clear T6
  rcases T4.out.er with hE | hE
  rotate_left
  · subst hE
    rcases HE6 with hE | hE <;> subst hE
    all_goals
      (
      have hML : ((max (kx : Int) (ky : Int)) == 8192) = true := by have := sum_len Mx.out My.out tx ty T4.out.no; simp; omega
      obtain ⟨cx0, cx1, fx0, fx1⟩ := Xx.out
      have hnex : gx < v9.heap.size := World.block_lt_of_cell? v9 _ cx0
      obtain ⟨cy0, cy1, fy0, fy1⟩ := Xy.out
      have hney : gy < v9.heap.size := World.block_lt_of_cell? v9 _ cy0
      go_wp2_with fail
      clear cx0 cx1 fx0 fx1 hnex
      clear cy0 cy1 fy0 fy1 hney
      go_ret
      exact ⟨rfl, hbw⟩)
  subst hE
  obtain ⟨hN4, hs4⟩ := T4.out.ok A4.out
  have Ms : Hid (Num v9 p4 m4 m4 z4 (iv tx ax + iv ty ay).natAbs) := hN4
  have Ss : Hid (s4 = decide (iv tx ax + iv ty ay < 0)) := hs4
  clear hN4 hs4
  clear A4
  rcases HE6 with hE | hE <;> subst hE
  all_goals
    (
    obtain ⟨cs0, cs1, fs0, fs1⟩ := Xs.out
    have hnes : gs < v9.heap.size := World.block_lt_of_cell? v9 _ cs0
    obtain ⟨cy0, cy1, fy0, fy1⟩ := Xy.out
    have hney : gy < v9.heap.size := World.block_lt_of_cell? v9 _ cy0
    go_wp2_with fail
    clear cs0 cs1 fs0 fs1 hnes
    clear cy0 cy1 fy0 fy1 hney
    have TS : Hid (s4 = true → 0 < (iv tx ax + iv ty ay).natAbs) := by intro hh; rw [Ss.out] at hh; exact sgn_pos _ hh
    refine (nsub_any s4 ty Ms.out My.out TS.out Ty.out).mono ?_
    rintro e v10 ⟨ha, hb10⟩
    rw [show iv s4 (iv tx ax + iv ty ay).natAbs - iv ty ay = iv tx ax from by rw [Ss.out, iv_abs]; omega] at ha
    obtain ⟨p10, m10, z10, rfl, ho, hn10, hm10⟩ := ha.ok (by rw [iv_natAbs]; exact Mx.out.lim)
    rw [iv_natAbs] at hn10
    rw [sgn_iv tx ax Tx.out]
    obtain rfl : ux = z10 := Mx.out.nf.inj B64_one hn10
    have Yx : Hid (Box v10 gx (.bool tx) (.slice qx kx Nx)) := Xx.out.below hb10
    clear Xx
    have Xx := Yx
    clear Yx
    have Yy : Hid (Box v10 gy (.bool ty) (.slice qy ky Ny)) := Xy.out.below hb10
    clear Xy
    have Xy := Yy
    clear Yy
    have Yz : Hid (Box v10 gz (.bool tz) (.slice qz kz Nz)) := Xz.out.below hb10
    clear Xz
    have Xz := Yz
    clear Yz
    have Ys : Hid (Box v10 gs (.bool s4) (.slice p4 m4 m4)) := Xs.out.below hb10
    clear Xs
    have Xs := Ys
    clear Ys
    have Mx' : Hid (Num v10 qx kx Nx ux ax) := Mx.out.below hb10
    clear Mx
    have Mx := Mx'
    clear Mx'
    have My' : Hid (Num v10 qy ky Ny uy ay) := My.out.below hb10
    clear My
    have My := My'
    clear My'
    have Mz' : Hid (Num v10 qz kz Nz uz az) := Mz.out.below hb10
    clear Mz
    have Mz := Mz'
    clear Mz'
    have Ms' : Hid (Num v10 p4 m4 m4 z4 (iv tx ax + iv ty ay).natAbs) := Ms.out.below hb10
    clear Ms
    have Ms := Ms'
    clear Ms'
    have hbw' := Below.on hbw hb10
    clear hbw
    have hbw := hbw'
    clear hbw'
    clear hb10
    have A10 : Hid (At v10 p10 m10 m10 ux) := ho.at_ hm10
    clear ho hn10 hm10 ha
    obtain ⟨cx0, cx1, fx0, fx1⟩ := Xx.out
    have hnex : gx < v10.heap.size := World.block_lt_of_cell? v10 _ cx0
    go_wp2_with fail
    clear cx0 cx1 fx0 fx1 hnex
    have Xd0 : Hid (Box (v10.alloc (.cells #[(.bool tx), (.slice p10 m10 m10)] 24)) v10.heap.size (.bool tx) (.slice p10 m10 m10)) := Box.new v10 _ _ _
    have hbn : Below v10.heap.size v10 (v10.alloc (.cells #[(.bool tx), (.slice p10 m10 m10)] 24)) := below1 v10 _
    generalize v10.alloc (.cells #[(.bool tx), (.slice p10 m10 m10)] 24) = W10 at *
    have Yx : Hid (Box W10 gx (.bool tx) (.slice qx kx Nx)) := Xx.out.below hbn
    clear Xx
    have Xx := Yx
    clear Yx
    have Yy : Hid (Box W10 gy (.bool ty) (.slice qy ky Ny)) := Xy.out.below hbn
    clear Xy
    have Xy := Yy
    clear Yy
    have Yz : Hid (Box W10 gz (.bool tz) (.slice qz kz Nz)) := Xz.out.below hbn
    clear Xz
    have Xz := Yz
    clear Yz
    have Ys : Hid (Box W10 gs (.bool s4) (.slice p4 m4 m4)) := Xs.out.below hbn
    clear Xs
    have Xs := Ys
    clear Ys
    have Mx' : Hid (Num W10 qx kx Nx ux ax) := Mx.out.below hbn
    clear Mx
    have Mx := Mx'
    clear Mx'
    have My' : Hid (Num W10 qy ky Ny uy ay) := My.out.below hbn
    clear My
    have My := My'
    clear My'
    have Mz' : Hid (Num W10 qz kz Nz uz az) := Mz.out.below hbn
    clear Mz
    have Mz := Mz'
    clear Mz'
    have Ms' : Hid (Num W10 p4 m4 m4 z4 (iv tx ax + iv ty ay).natAbs) := Ms.out.below hbn
    clear Ms
    have Ms := Ms'
    clear Ms'
    have A10' : Hid (At W10 p10 m10 m10 ux) := A10.out.below hbn
    clear A10
    have A10 := A10'
    clear A10'
    have hbw' := Below.on hbw hbn
    clear hbw
    have hbw := hbw'
    clear hbw'
    clear hbn
    generalize v10.heap.size = gd at *
    have Xd := Xd0
    clear Xd0
    refine (nsame_t tx A10.out Mx.out.at_).mono ?_
    rintro e v11 ⟨rfl, hb11⟩
    have Yx : Hid (Box v11 gx (.bool tx) (.slice qx kx Nx)) := Xx.out.below hb11
    clear Xx
    have Xx := Yx
    clear Yx
    have Yy : Hid (Box v11 gy (.bool ty) (.slice qy ky Ny)) := Xy.out.below hb11
    clear Xy
    have Xy := Yy
    clear Yy
    have Yz : Hid (Box v11 gz (.bool tz) (.slice qz kz Nz)) := Xz.out.below hb11
    clear Xz
    have Xz := Yz
    clear Yz
    have Ys : Hid (Box v11 gs (.bool s4) (.slice p4 m4 m4)) := Xs.out.below hb11
    clear Xs
    have Xs := Ys
    clear Ys
    have Yd : Hid (Box v11 gd (.bool tx) (.slice p10 m10 m10)) := Xd.out.below hb11
    clear Xd
    have Xd := Yd
    clear Yd
    have Mx' : Hid (Num v11 qx kx Nx ux ax) := Mx.out.below hb11
    clear Mx
    have Mx := Mx'
    clear Mx'
    have My' : Hid (Num v11 qy ky Ny uy ay) := My.out.below hb11
    clear My
    have My := My'
    clear My'
    have Mz' : Hid (Num v11 qz kz Nz uz az) := Mz.out.below hb11
    clear Mz
    have Mz := Mz'
    clear Mz'
    have Ms' : Hid (Num v11 p4 m4 m4 z4 (iv tx ax + iv ty ay).natAbs) := Ms.out.below hb11
    clear Ms
    have Ms := Ms'
    clear Ms'
    have A10' : Hid (At v11 p10 m10 m10 ux) := A10.out.below hb11
    clear A10
    have A10 := A10'
    clear A10'
    have hbw' := Below.on hbw hb11
    clear hbw
    have hbw := hbw'
    clear hbw'
    clear hb11
    clear Xd
    clear A10
    obtain ⟨cs0, cs1, fs0, fs1⟩ := Xs.out
    have hnes : gs < v11.heap.size := World.block_lt_of_cell? v11 _ cs0
    obtain ⟨cz0, cz1, fz0, fz1⟩ := Xz.out
    have hnez : gz < v11.heap.size := World.block_lt_of_cell? v11 _ cz0
    go_wp2_with fail
    clear cs0 cs1 fs0 fs1 hnes
    clear cz0 cz1 fz0 fz1 hnez
    refine (nmul_any s4 tz Ms.out Mz.out TS.out Tz.out).mono ?_
    rintro e v12 ⟨ha, hb12⟩
    obtain ⟨s12, p12, m12, z12, er12, rfl, hA, hT⟩ := ha.any
    have Yx : Hid (Box v12 gx (.bool tx) (.slice qx kx Nx)) := Xx.out.below hb12
    clear Xx
    have Xx := Yx
    clear Yx
    have Yy : Hid (Box v12 gy (.bool ty) (.slice qy ky Ny)) := Xy.out.below hb12
    clear Xy
    have Xy := Yy
    clear Yy
    have Yz : Hid (Box v12 gz (.bool tz) (.slice qz kz Nz)) := Xz.out.below hb12
    clear Xz
    have Xz := Yz
    clear Yz
    have Ys : Hid (Box v12 gs (.bool s4) (.slice p4 m4 m4)) := Xs.out.below hb12
    clear Xs
    have Xs := Ys
    clear Ys
    have Mx' : Hid (Num v12 qx kx Nx ux ax) := Mx.out.below hb12
    clear Mx
    have Mx := Mx'
    clear Mx'
    have My' : Hid (Num v12 qy ky Ny uy ay) := My.out.below hb12
    clear My
    have My := My'
    clear My'
    have Mz' : Hid (Num v12 qz kz Nz uz az) := Mz.out.below hb12
    clear Mz
    have Mz := Mz'
    clear Mz'
    have Ms' : Hid (Num v12 p4 m4 m4 z4 (iv tx ax + iv ty ay).natAbs) := Ms.out.below hb12
    clear Ms
    have Ms := Ms'
    clear Ms'
    have hbw' := Below.on hbw hb12
    clear hbw
    have hbw := hbw'
    clear hbw'
    clear hb12
    have A12 : Hid (At v12 p12 m12 m12 z12) := hA
    have T12 : Hid (Told (iv s4 (iv tx ax + iv ty ay).natAbs * iv tz az) s12 m12 z12 er12) := hT
    clear hA hT ha
    obtain ⟨cx0, cx1, fx0, fx1⟩ := Xx.out
    have hnex : gx < v12.heap.size := World.block_lt_of_cell? v12 _ cx0
    obtain ⟨cz0, cz1, fz0, fz1⟩ := Xz.out
    have hnez : gz < v12.heap.size := World.block_lt_of_cell? v12 _ cz0
    go_wp2_with fail
    clear cx0 cx1 fx0 fx1 hnex
    clear cz0 cz1 fz0 fz1 hnez
    have Xl0 : Hid (Box (v12.alloc (.cells #[(.bool s12), (.slice p12 m12 m12)] 24)) v12.heap.size (.bool s12) (.slice p12 m12 m12)) := Box.new v12 _ _ _
    have hbn : Below v12.heap.size v12 (v12.alloc (.cells #[(.bool s12), (.slice p12 m12 m12)] 24)) := below1 v12 _
    generalize v12.alloc (.cells #[(.bool s12), (.slice p12 m12 m12)] 24) = W12 at *
    have Yx : Hid (Box W12 gx (.bool tx) (.slice qx kx Nx)) := Xx.out.below hbn
    clear Xx
    have Xx := Yx
    clear Yx
    have Yy : Hid (Box W12 gy (.bool ty) (.slice qy ky Ny)) := Xy.out.below hbn
    clear Xy
    have Xy := Yy
    clear Yy
    have Yz : Hid (Box W12 gz (.bool tz) (.slice qz kz Nz)) := Xz.out.below hbn
    clear Xz
    have Xz := Yz
    clear Yz
    have Ys : Hid (Box W12 gs (.bool s4) (.slice p4 m4 m4)) := Xs.out.below hbn
    clear Xs
    have Xs := Ys
    clear Ys
    have Mx' : Hid (Num W12 qx kx Nx ux ax) := Mx.out.below hbn
    clear Mx
    have Mx := Mx'
    clear Mx'
    have My' : Hid (Num W12 qy ky Ny uy ay) := My.out.below hbn
    clear My
    have My := My'
    clear My'
    have Mz' : Hid (Num W12 qz kz Nz uz az) := Mz.out.below hbn
    clear Mz
    have Mz := Mz'
    clear Mz'
    have Ms' : Hid (Num W12 p4 m4 m4 z4 (iv tx ax + iv ty ay).natAbs) := Ms.out.below hbn
    clear Ms
    have Ms := Ms'
    clear Ms'
    have A12' : Hid (At W12 p12 m12 m12 z12) := A12.out.below hbn
    clear A12
    have A12 := A12'
    clear A12'
    have hbw' := Below.on hbw hbn
    clear hbw
    have hbw := hbw'
    clear hbw'
    clear hbn
    generalize v12.heap.size = gl at *
    have Xl := Xl0
    clear Xl0
    refine (nmul_any tx tz Mx.out Mz.out Tx.out Tz.out).mono ?_
    rintro e v13 ⟨ha, hb13⟩
    obtain ⟨s13, p13, m13, z13, er13, rfl, hA, hT⟩ := ha.any
    have Yx : Hid (Box v13 gx (.bool tx) (.slice qx kx Nx)) := Xx.out.below hb13
    clear Xx
    have Xx := Yx
    clear Yx
    have Yy : Hid (Box v13 gy (.bool ty) (.slice qy ky Ny)) := Xy.out.below hb13
    clear Xy
    have Xy := Yy
    clear Yy
    have Yz : Hid (Box v13 gz (.bool tz) (.slice qz kz Nz)) := Xz.out.below hb13
    clear Xz
    have Xz := Yz
    clear Yz
    have Ys : Hid (Box v13 gs (.bool s4) (.slice p4 m4 m4)) := Xs.out.below hb13
    clear Xs
    have Xs := Ys
    clear Ys
    have Yl : Hid (Box v13 gl (.bool s12) (.slice p12 m12 m12)) := Xl.out.below hb13
    clear Xl
    have Xl := Yl
    clear Yl
    have Mx' : Hid (Num v13 qx kx Nx ux ax) := Mx.out.below hb13
    clear Mx
    have Mx := Mx'
    clear Mx'
    have My' : Hid (Num v13 qy ky Ny uy ay) := My.out.below hb13
    clear My
    have My := My'
    clear My'
    have Mz' : Hid (Num v13 qz kz Nz uz az) := Mz.out.below hb13
    clear Mz
    have Mz := Mz'
    clear Mz'
    have Ms' : Hid (Num v13 p4 m4 m4 z4 (iv tx ax + iv ty ay).natAbs) := Ms.out.below hb13
    clear Ms
    have Ms := Ms'
    clear Ms'
    have A12' : Hid (At v13 p12 m12 m12 z12) := A12.out.below hb13
    clear A12
    have A12 := A12'
    clear A12'
    have hbw' := Below.on hbw hb13
    clear hbw
    have hbw := hbw'
    clear hbw'
    clear hb13
    have A13 : Hid (At v13 p13 m13 m13 z13) := hA
    have T13 : Hid (Told (iv tx ax * iv tz az) s13 m13 z13 er13) := hT
    clear hA hT ha
    obtain ⟨cy0, cy1, fy0, fy1⟩ := Xy.out
    have hney : gy < v13.heap.size := World.block_lt_of_cell? v13 _ cy0
    obtain ⟨cz0, cz1, fz0, fz1⟩ := Xz.out
    have hnez : gz < v13.heap.size := World.block_lt_of_cell? v13 _ cz0
    go_wp2_with fail
    clear cy0 cy1 fy0 fy1 hney
    clear cz0 cz1 fz0 fz1 hnez
    have Xu0 : Hid (Box (v13.alloc (.cells #[(.bool s13), (.slice p13 m13 m13)] 24)) v13.heap.size (.bool s13) (.slice p13 m13 m13)) := Box.new v13 _ _ _
    have hbn : Below v13.heap.size v13 (v13.alloc (.cells #[(.bool s13), (.slice p13 m13 m13)] 24)) := below1 v13 _
    generalize v13.alloc (.cells #[(.bool s13), (.slice p13 m13 m13)] 24) = W13 at *
    have Yx : Hid (Box W13 gx (.bool tx) (.slice qx kx Nx)) := Xx.out.below hbn
    clear Xx
    have Xx := Yx
    clear Yx
    have Yy : Hid (Box W13 gy (.bool ty) (.slice qy ky Ny)) := Xy.out.below hbn
    clear Xy
    have Xy := Yy
    clear Yy
    have Yz : Hid (Box W13 gz (.bool tz) (.slice qz kz Nz)) := Xz.out.below hbn
    clear Xz
    have Xz := Yz
    clear Yz
    have Ys : Hid (Box W13 gs (.bool s4) (.slice p4 m4 m4)) := Xs.out.below hbn
    clear Xs
    have Xs := Ys
    clear Ys
    have Yl : Hid (Box W13 gl (.bool s12) (.slice p12 m12 m12)) := Xl.out.below hbn
    clear Xl
    have Xl := Yl
    clear Yl
    have Mx' : Hid (Num W13 qx kx Nx ux ax) := Mx.out.below hbn
    clear Mx
    have Mx := Mx'
    clear Mx'
    have My' : Hid (Num W13 qy ky Ny uy ay) := My.out.below hbn
    clear My
    have My := My'
    clear My'
    have Mz' : Hid (Num W13 qz kz Nz uz az) := Mz.out.below hbn
    clear Mz
    have Mz := Mz'
    clear Mz'
    have Ms' : Hid (Num W13 p4 m4 m4 z4 (iv tx ax + iv ty ay).natAbs) := Ms.out.below hbn
    clear Ms
    have Ms := Ms'
    clear Ms'
    have A12' : Hid (At W13 p12 m12 m12 z12) := A12.out.below hbn
    clear A12
    have A12 := A12'
    clear A12'
    have A13' : Hid (At W13 p13 m13 m13 z13) := A13.out.below hbn
    clear A13
    have A13 := A13'
    clear A13'
    have hbw' := Below.on hbw hbn
    clear hbw
    have hbw := hbw'
    clear hbw'
    clear hbn
    generalize v13.heap.size = gu at *
    have Xu := Xu0
    clear Xu0
    refine (nmul_any ty tz My.out Mz.out Ty.out Tz.out).mono ?_
    rintro e v14 ⟨ha, hb14⟩
    obtain ⟨s14, p14, m14, z14, er14, rfl, hA, hT⟩ := ha.any
    have Yx : Hid (Box v14 gx (.bool tx) (.slice qx kx Nx)) := Xx.out.below hb14
    clear Xx
    have Xx := Yx
    clear Yx
    have Yy : Hid (Box v14 gy (.bool ty) (.slice qy ky Ny)) := Xy.out.below hb14
    clear Xy
    have Xy := Yy
    clear Yy
    have Yz : Hid (Box v14 gz (.bool tz) (.slice qz kz Nz)) := Xz.out.below hb14
    clear Xz
    have Xz := Yz
    clear Yz
    have Ys : Hid (Box v14 gs (.bool s4) (.slice p4 m4 m4)) := Xs.out.below hb14
    clear Xs
    have Xs := Ys
    clear Ys
    have Yl : Hid (Box v14 gl (.bool s12) (.slice p12 m12 m12)) := Xl.out.below hb14
    clear Xl
    have Xl := Yl
    clear Yl
    have Yu : Hid (Box v14 gu (.bool s13) (.slice p13 m13 m13)) := Xu.out.below hb14
    clear Xu
    have Xu := Yu
    clear Yu
    have Mx' : Hid (Num v14 qx kx Nx ux ax) := Mx.out.below hb14
    clear Mx
    have Mx := Mx'
    clear Mx'
    have My' : Hid (Num v14 qy ky Ny uy ay) := My.out.below hb14
    clear My
    have My := My'
    clear My'
    have Mz' : Hid (Num v14 qz kz Nz uz az) := Mz.out.below hb14
    clear Mz
    have Mz := Mz'
    clear Mz'
    have Ms' : Hid (Num v14 p4 m4 m4 z4 (iv tx ax + iv ty ay).natAbs) := Ms.out.below hb14
    clear Ms
    have Ms := Ms'
    clear Ms'
    have A12' : Hid (At v14 p12 m12 m12 z12) := A12.out.below hb14
    clear A12
    have A12 := A12'
    clear A12'
    have A13' : Hid (At v14 p13 m13 m13 z13) := A13.out.below hb14
    clear A13
    have A13 := A13'
    clear A13'
    have hbw' := Below.on hbw hb14
    clear hbw
    have hbw := hbw'
    clear hbw'
    clear hb14
    have A14 : Hid (At v14 p14 m14 m14 z14) := hA
    have T14 : Hid (Told (iv ty ay * iv tz az) s14 m14 z14 er14) := hT
    clear hA hT ha
    rcases T12.out.er with hE | hE
    rotate_left
    · subst hE
      have hlen := mul_len Ms.out Mz.out s4 tz T12.out.no
      clear T13 T14
      obtain ⟨cx0, cx1, fx0, fx1⟩ := Xx.out
      have hnex : gx < v14.heap.size := World.block_lt_of_cell? v14 _ cx0
      obtain ⟨cy0, cy1, fy0, fy1⟩ := Xy.out
      have hney : gy < v14.heap.size := World.block_lt_of_cell? v14 _ cy0
      obtain ⟨cz0, cz1, fz0, fz1⟩ := Xz.out
      have hnez : gz < v14.heap.size := World.block_lt_of_cell? v14 _ cz0
      obtain ⟨cs0, cs1, fs0, fs1⟩ := Xs.out
      have hnes : gs < v14.heap.size := World.block_lt_of_cell? v14 _ cs0
      have lx := Mx.out.le
      have ly := My.out.le
      have lz := Mz.out.le
      have ls := Ms.out.le
      go_wp2_with fail
      all_goals
        (
        go_ret
        have hv1 : (kx : Int) ≤ (if kx < ky then (ky : Int) else (kx : Int)) := by split <;> omega
        have hv2 : (ky : Int) ≤ (if kx < ky then (ky : Int) else (kx : Int)) := by split <;> omega
        exact ⟨congrArg (fun b => Ending.returned (Value.bool b)) (decide_eq_true (by omega)), Below.on hbw (below1 v14 _)⟩)
    subst hE
    rcases T13.out.er with hE | hE
    rotate_left
    · subst hE
      have hlen := mul_len Mx.out Mz.out tx tz T13.out.no
      clear T14
      obtain ⟨cx0, cx1, fx0, fx1⟩ := Xx.out
      have hnex : gx < v14.heap.size := World.block_lt_of_cell? v14 _ cx0
      obtain ⟨cy0, cy1, fy0, fy1⟩ := Xy.out
      have hney : gy < v14.heap.size := World.block_lt_of_cell? v14 _ cy0
      obtain ⟨cz0, cz1, fz0, fz1⟩ := Xz.out
      have hnez : gz < v14.heap.size := World.block_lt_of_cell? v14 _ cz0
      obtain ⟨cs0, cs1, fs0, fs1⟩ := Xs.out
      have hnes : gs < v14.heap.size := World.block_lt_of_cell? v14 _ cs0
      have lx := Mx.out.le
      have ly := My.out.le
      have lz := Mz.out.le
      have ls := Ms.out.le
      go_wp2_with fail
      all_goals
        (
        go_ret
        have hv1 : (kx : Int) ≤ (if kx < ky then (ky : Int) else (kx : Int)) := by split <;> omega
        have hv2 : (ky : Int) ≤ (if kx < ky then (ky : Int) else (kx : Int)) := by split <;> omega
        exact ⟨congrArg (fun b => Ending.returned (Value.bool b)) (decide_eq_true (by omega)), Below.on hbw (below1 v14 _)⟩)
    subst hE
    rcases T14.out.er with hE | hE
    rotate_left
    · subst hE
      have hlen := mul_len My.out Mz.out ty tz T14.out.no
      obtain ⟨cx0, cx1, fx0, fx1⟩ := Xx.out
      have hnex : gx < v14.heap.size := World.block_lt_of_cell? v14 _ cx0
      obtain ⟨cy0, cy1, fy0, fy1⟩ := Xy.out
      have hney : gy < v14.heap.size := World.block_lt_of_cell? v14 _ cy0
      obtain ⟨cz0, cz1, fz0, fz1⟩ := Xz.out
      have hnez : gz < v14.heap.size := World.block_lt_of_cell? v14 _ cz0
      obtain ⟨cs0, cs1, fs0, fs1⟩ := Xs.out
      have hnes : gs < v14.heap.size := World.block_lt_of_cell? v14 _ cs0
      have lx := Mx.out.le
      have ly := My.out.le
      have lz := Mz.out.le
      have ls := Ms.out.le
      go_wp2_with fail
      all_goals
        (
        go_ret
        have hv1 : (kx : Int) ≤ (if kx < ky then (ky : Int) else (kx : Int)) := by split <;> omega
        have hv2 : (ky : Int) ≤ (if kx < ky then (ky : Int) else (kx : Int)) := by split <;> omega
        exact ⟨congrArg (fun b => Ending.returned (Value.bool b)) (decide_eq_true (by omega)), Below.on hbw (below1 v14 _)⟩)
    subst hE
    obtain ⟨hN, hS⟩ := T12.out.ok A12.out
    have Ml : Hid (Num v14 p12 m12 m12 z12 (iv s4 (iv tx ax + iv ty ay).natAbs * iv tz az).natAbs) := hN
    have Sl : Hid (s12 = decide (iv s4 (iv tx ax + iv ty ay).natAbs * iv tz az < 0)) := hS
    have Tl : Hid (s12 = true → 0 < (iv s4 (iv tx ax + iv ty ay).natAbs * iv tz az).natAbs) := by intro hh; rw [Sl.out] at hh; exact sgn_pos _ hh
    clear hN hS T12
    clear A12
    obtain ⟨hN, hS⟩ := T13.out.ok A13.out
    have Mu : Hid (Num v14 p13 m13 m13 z13 (iv tx ax * iv tz az).natAbs) := hN
    have Su : Hid (s13 = decide (iv tx ax * iv tz az < 0)) := hS
    have Tu : Hid (s13 = true → 0 < (iv tx ax * iv tz az).natAbs) := by intro hh; rw [Su.out] at hh; exact sgn_pos _ hh
    clear hN hS T13
    clear A13
    obtain ⟨hN, hS⟩ := T14.out.ok A14.out
    have Mv : Hid (Num v14 p14 m14 m14 z14 (iv ty ay * iv tz az).natAbs) := hN
    have Sv : Hid (s14 = decide (iv ty ay * iv tz az < 0)) := hS
    have Tv : Hid (s14 = true → 0 < (iv ty ay * iv tz az).natAbs) := by intro hh; rw [Sv.out] at hh; exact sgn_pos _ hh
    clear hN hS T14
    clear A14
    clear Xs
    clear Xx
    clear Xy
    clear Xz
    obtain ⟨cu0, cu1, fu0, fu1⟩ := Xu.out
    have hneu : gu < v14.heap.size := World.block_lt_of_cell? v14 _ cu0
    go_wp2_with fail
    clear cu0 cu1 fu0 fu1 hneu
    have Xv0 : Hid (Box (v14.alloc (.cells #[(.bool s14), (.slice p14 m14 m14)] 24)) v14.heap.size (.bool s14) (.slice p14 m14 m14)) := Box.new v14 _ _ _
    have hbn : Below v14.heap.size v14 (v14.alloc (.cells #[(.bool s14), (.slice p14 m14 m14)] 24)) := below1 v14 _
    generalize v14.alloc (.cells #[(.bool s14), (.slice p14 m14 m14)] 24) = W14 at *
    have Yl : Hid (Box W14 gl (.bool s12) (.slice p12 m12 m12)) := Xl.out.below hbn
    clear Xl
    have Xl := Yl
    clear Yl
    have Yu : Hid (Box W14 gu (.bool s13) (.slice p13 m13 m13)) := Xu.out.below hbn
    clear Xu
    have Xu := Yu
    clear Yu
    have Mx' : Hid (Num W14 qx kx Nx ux ax) := Mx.out.below hbn
    clear Mx
    have Mx := Mx'
    clear Mx'
    have My' : Hid (Num W14 qy ky Ny uy ay) := My.out.below hbn
    clear My
    have My := My'
    clear My'
    have Mz' : Hid (Num W14 qz kz Nz uz az) := Mz.out.below hbn
    clear Mz
    have Mz := Mz'
    clear Mz'
    have Ms' : Hid (Num W14 p4 m4 m4 z4 (iv tx ax + iv ty ay).natAbs) := Ms.out.below hbn
    clear Ms
    have Ms := Ms'
    clear Ms'
    have Ml' : Hid (Num W14 p12 m12 m12 z12 (iv s4 (iv tx ax + iv ty ay).natAbs * iv tz az).natAbs) := Ml.out.below hbn
    clear Ml
    have Ml := Ml'
    clear Ml'
    have Mu' : Hid (Num W14 p13 m13 m13 z13 (iv tx ax * iv tz az).natAbs) := Mu.out.below hbn
    clear Mu
    have Mu := Mu'
    clear Mu'
    have Mv' : Hid (Num W14 p14 m14 m14 z14 (iv ty ay * iv tz az).natAbs) := Mv.out.below hbn
    clear Mv
    have Mv := Mv'
    clear Mv'
    have hbw' := Below.on hbw hbn
    clear hbw
    have hbw := hbw'
    clear hbw'
    clear hbn
    generalize v14.heap.size = gv at *
    have Xv := Xv0
    clear Xv0
    refine (nadd_any s13 s14 Mu.out Mv.out Tu.out Tv.out).mono ?_
    rintro e v15 ⟨ha, hb15⟩
    rw [show iv s13 (iv tx ax * iv tz az).natAbs + iv s14 (iv ty ay * iv tz az).natAbs = iv s4 (iv tx ax + iv ty ay).natAbs * iv tz az from by rw [Su.out, iv_abs, Sv.out, iv_abs, Ss.out, iv_abs, Int.add_mul]] at ha
    obtain ⟨p15, m15, z15, rfl, ho, hn15, hm15⟩ := ha.ok Ml.out.lim
    rw [← Sl.out]
    obtain rfl : z12 = z15 := Ml.out.nf.inj B64_one hn15
    have Yl : Hid (Box v15 gl (.bool s12) (.slice p12 m12 m12)) := Xl.out.below hb15
    clear Xl
    have Xl := Yl
    clear Yl
    have Yu : Hid (Box v15 gu (.bool s13) (.slice p13 m13 m13)) := Xu.out.below hb15
    clear Xu
    have Xu := Yu
    clear Yu
    have Yv : Hid (Box v15 gv (.bool s14) (.slice p14 m14 m14)) := Xv.out.below hb15
    clear Xv
    have Xv := Yv
    clear Yv
    have Mx' : Hid (Num v15 qx kx Nx ux ax) := Mx.out.below hb15
    clear Mx
    have Mx := Mx'
    clear Mx'
    have My' : Hid (Num v15 qy ky Ny uy ay) := My.out.below hb15
    clear My
    have My := My'
    clear My'
    have Mz' : Hid (Num v15 qz kz Nz uz az) := Mz.out.below hb15
    clear Mz
    have Mz := Mz'
    clear Mz'
    have Ms' : Hid (Num v15 p4 m4 m4 z4 (iv tx ax + iv ty ay).natAbs) := Ms.out.below hb15
    clear Ms
    have Ms := Ms'
    clear Ms'
    have Ml' : Hid (Num v15 p12 m12 m12 z12 (iv s4 (iv tx ax + iv ty ay).natAbs * iv tz az).natAbs) := Ml.out.below hb15
    clear Ml
    have Ml := Ml'
    clear Ml'
    have Mu' : Hid (Num v15 p13 m13 m13 z13 (iv tx ax * iv tz az).natAbs) := Mu.out.below hb15
    clear Mu
    have Mu := Mu'
    clear Mu'
    have Mv' : Hid (Num v15 p14 m14 m14 z14 (iv ty ay * iv tz az).natAbs) := Mv.out.below hb15
    clear Mv
    have Mv := Mv'
    clear Mv'
    have hbw' := Below.on hbw hb15
    clear hbw
    have hbw := hbw'
    clear hbw'
    clear hb15
    have A15 : Hid (At v15 p15 m15 m15 z12) := ho.at_ hm15
    clear ho hn15 hm15 ha
    clear Xu
    clear Xv
    obtain ⟨cl0, cl1, fl0, fl1⟩ := Xl.out
    have hnel : gl < v15.heap.size := World.block_lt_of_cell? v15 _ cl0
    go_wp2_with fail
    clear cl0 cl1 fl0 fl1 hnel
    have Xr0 : Hid (Box (v15.alloc (.cells #[(.bool s12), (.slice p15 m15 m15)] 24)) v15.heap.size (.bool s12) (.slice p15 m15 m15)) := Box.new v15 _ _ _
    have hbn : Below v15.heap.size v15 (v15.alloc (.cells #[(.bool s12), (.slice p15 m15 m15)] 24)) := below1 v15 _
    generalize v15.alloc (.cells #[(.bool s12), (.slice p15 m15 m15)] 24) = W15 at *
    have Yl : Hid (Box W15 gl (.bool s12) (.slice p12 m12 m12)) := Xl.out.below hbn
    clear Xl
    have Xl := Yl
    clear Yl
    have Mx' : Hid (Num W15 qx kx Nx ux ax) := Mx.out.below hbn
    clear Mx
    have Mx := Mx'
    clear Mx'
    have My' : Hid (Num W15 qy ky Ny uy ay) := My.out.below hbn
    clear My
    have My := My'
    clear My'
    have Mz' : Hid (Num W15 qz kz Nz uz az) := Mz.out.below hbn
    clear Mz
    have Mz := Mz'
    clear Mz'
    have Ms' : Hid (Num W15 p4 m4 m4 z4 (iv tx ax + iv ty ay).natAbs) := Ms.out.below hbn
    clear Ms
    have Ms := Ms'
    clear Ms'
    have Ml' : Hid (Num W15 p12 m12 m12 z12 (iv s4 (iv tx ax + iv ty ay).natAbs * iv tz az).natAbs) := Ml.out.below hbn
    clear Ml
    have Ml := Ml'
    clear Ml'
    have Mu' : Hid (Num W15 p13 m13 m13 z13 (iv tx ax * iv tz az).natAbs) := Mu.out.below hbn
    clear Mu
    have Mu := Mu'
    clear Mu'
    have Mv' : Hid (Num W15 p14 m14 m14 z14 (iv ty ay * iv tz az).natAbs) := Mv.out.below hbn
    clear Mv
    have Mv := Mv'
    clear Mv'
    have A15' : Hid (At W15 p15 m15 m15 z12) := A15.out.below hbn
    clear A15
    have A15 := A15'
    clear A15'
    have hbw' := Below.on hbw hbn
    clear hbw
    have hbw := hbw'
    clear hbw'
    clear hbn
    generalize v15.heap.size = gr at *
    have Xr := Xr0
    clear Xr0
    refine (nsame_t s12 Ml.out.at_ A15.out).mono ?_
    rintro e v16 ⟨rfl, hb16⟩
    have Yl : Hid (Box v16 gl (.bool s12) (.slice p12 m12 m12)) := Xl.out.below hb16
    clear Xl
    have Xl := Yl
    clear Yl
    have Yr : Hid (Box v16 gr (.bool s12) (.slice p15 m15 m15)) := Xr.out.below hb16
    clear Xr
    have Xr := Yr
    clear Yr
    have Mx' : Hid (Num v16 qx kx Nx ux ax) := Mx.out.below hb16
    clear Mx
    have Mx := Mx'
    clear Mx'
    have My' : Hid (Num v16 qy ky Ny uy ay) := My.out.below hb16
    clear My
    have My := My'
    clear My'
    have Mz' : Hid (Num v16 qz kz Nz uz az) := Mz.out.below hb16
    clear Mz
    have Mz := Mz'
    clear Mz'
    have Ms' : Hid (Num v16 p4 m4 m4 z4 (iv tx ax + iv ty ay).natAbs) := Ms.out.below hb16
    clear Ms
    have Ms := Ms'
    clear Ms'
    have Ml' : Hid (Num v16 p12 m12 m12 z12 (iv s4 (iv tx ax + iv ty ay).natAbs * iv tz az).natAbs) := Ml.out.below hb16
    clear Ml
    have Ml := Ml'
    clear Ml'
    have Mu' : Hid (Num v16 p13 m13 m13 z13 (iv tx ax * iv tz az).natAbs) := Mu.out.below hb16
    clear Mu
    have Mu := Mu'
    clear Mu'
    have Mv' : Hid (Num v16 p14 m14 m14 z14 (iv ty ay * iv tz az).natAbs) := Mv.out.below hb16
    clear Mv
    have Mv := Mv'
    clear Mv'
    have A15' : Hid (At v16 p15 m15 m15 z12) := A15.out.below hb16
    clear A15
    have A15 := A15'
    clear A15'
    have hbw' := Below.on hbw hb16
    clear hbw
    have hbw := hbw'
    clear hbw'
    clear hb16
    go_wp2_with fail
    go_ret
    exact ⟨rfl, hbw⟩)
end Go.Proofs.Ytmkglkdhnbjjhaa
