import Derived.Test.YtfofoookdlaipaaGreatDoorJ10
import Derived.Test.YtfofoookdlaipaaGreatDoorJ8
import Derived.Test.YtfofoookdlaipaaGreatDoorJ9
import Derived.Deep.LoopGhost
import Derived.Deep.RegionWith
import Derived.Laws.Bits64b
import Derived.Test.YtfofoookdlaipaaGreatDoorChecked
import Derived.Test.YtfofoookdlaipaaGreatDoorMem
import Derived.Shelf.Strconv.Itoa0
namespace Go.Proofs.YtfofoookdlaipaaGreatDoor
open Go.RowKit Go.Shelf

theorem exp_bound {zo eo z e : Int} {L : Nat} (h0 : zo ≠ 0) (hle : e ≤ eo) (he : -4194304 ≤ e) (hv : dv zo eo = dv z e) (hz : z.natAbs < 2 ^ L) : eo - e < L := by
  rw [dv_shift hle he] at hv
  unfold dv at hv
  have h1 := Int.eq_of_mul_eq_mul_right (pow_pos_int _) hv
  have h2 : z.natAbs = zo.natAbs * 2 ^ (eo - e).toNat := by rw [← h1, Int.natAbs_mul, Int.natAbs_natCast]
  have h3 : 2 ^ (eo - e).toNat ≤ z.natAbs := by rw [h2]; exact Nat.le_mul_of_pos_left _ (by omega)
  have h4 := (Nat.pow_lt_pow_iff_right (by omega : 1 < 2)).1 (Nat.lt_of_le_of_lt h3 hz)
  omega
theorem pow_cast (n : Nat) : (2 : Int) ^ n = ((2 ^ n : Nat) : Int) := by norm_cast
theorem shl_bound {x : Int} {K a b : Nat} (hx : x.natAbs < 2 ^ K) (ha : a ≤ b) : (x * 2 ^ a).natAbs < 2 ^ (K + b) := by
  rw [Int.natAbs_mul, pow_cast, Int.natAbs_natCast, Nat.pow_add]
  have h1 : 2 ^ a ≤ 2 ^ b := Nat.pow_le_pow_right (by omega) ha
  have h2 : 0 < 2 ^ a := Nat.pow_pos (by omega)
  exact Nat.lt_of_lt_of_le (Nat.mul_lt_mul_of_pos_right hx h2) (Nat.mul_le_mul_left _ h1)
theorem lt_LIM {n L : Nat} (h : n < 2 ^ L) (hL : L ≤ 524288) : n < LIM := by
  refine (lim_bits n).2 ?_
  by_cases h0 : n = 0
  · rw [h0, bitsN_zero]; omega
  · have h1 := bitsN_le n h0
    have h2 := (Nat.pow_lt_pow_iff_right (by omega : 1 < 2)).1 (Nat.lt_of_le_of_lt h1 h)
    omega
structure DB (z e : Int) (K E : Nat) : Prop where
  fm : DFm z e
  sz : z.natAbs < 2 ^ K
  lo : -(E : Int) ≤ e
  hi : e ≤ E
theorem DB.mono {z e : Int} {K E K' E' : Nat} (h : DB z e K E) (hK : K ≤ K') (hE : E ≤ E') : DB z e K' E' :=
  ⟨h.fm, Nat.lt_of_lt_of_le h.sz (Nat.pow_le_pow_right (by omega) hK), by have := h.lo; omega, by have := h.hi; omega⟩
theorem sum_bound {X Y : Int} {L : Nat} (hX : X.natAbs < 2 ^ L) (hY : Y.natAbs < 2 ^ L) : (X + Y).natAbs < 2 ^ (L + 1) := by
  rw [Nat.pow_succ]; omega
theorem dadd_b {p q : Option Addr} {m c n d : Nat} {w : World} {x y e f : Int} {s t : Bool} {K E : Nat} (h : DN w s p m c e x) (k : DN w t q n d f y) (bx : DB x e K E) (by_ : DB y f K E) (hK : K + 2 * E + 1 ≤ 524288) (hT : Tab w) :
    Calls Tryz.prog 100 #[DV s p m c e, DV t q n d f] w fun en w' => ∃ v zo eo, en = .returned (.tuple #[v, .int .i64 0]) ∧ AnsD w.heap.size w' v zo eo ∧ DB zo eo (K + 2 * E + 1) (K + 3 * E + 1) ∧ dv zo eo = dv x e + dv y f ∧ Below w.heap.size w w' := by
  by_cases hx0 : x = 0
  · refine (dadd_x h k hx0).mono fun en w' ⟨v, he, ha, hb⟩ => ⟨v, y, f, he, ha, by_.mono (by omega) (by omega), ?_, hb⟩
    rw [hx0, dv_zero, Int.zero_add]
  · by_cases hy0 : y = 0
    · refine (dadd_y h k ⟨hx0, hy0⟩).mono fun en w' ⟨v, he, ha, hb⟩ => ⟨v, x, e, he, ha, bx.mono (by omega) (by omega), ?_, hb⟩
      rw [hy0, dv_zero, Int.add_zero]
    · obtain ⟨g, hg⟩ : ∃ g, g = min e f := ⟨_, rfl⟩
      have h1 := bx.lo; have h2 := bx.hi; have h3 := by_.lo; have h4 := by_.hi
      have hX := shl_bound (a := (e - g).toNat) (b := 2 * E) bx.sz (by omega)
      have hY := shl_bound (a := (f - g).toNat) (b := 2 * E) by_.sz (by omega)
      have hS := sum_bound hX hY
      refine (dadd_n h k hx0 hy0 hg (by omega) (lt_LIM hX (by omega)) (lt_LIM hY (by omega)) (lt_LIM hS (by omega)) hT).mono fun en w' ⟨v, zo, eo, he, ha, hfm, hdv, hle, hor, hb⟩ => ⟨v, zo, eo, he, ha, ⟨hfm, Nat.lt_of_le_of_lt hle hS, ?_, ?_⟩, ?_, hb⟩
      · rcases hor with h0 | ⟨h5, h6⟩
        · rcases hfm with ⟨_, h7⟩ | ⟨h7, _⟩ <;> omega
        · omega
      · rcases hor with h0 | ⟨h5, h6⟩
        · rcases hfm with ⟨_, h7⟩ | ⟨h7, _⟩ <;> omega
        · by_cases hz0 : zo = 0
          · rcases hfm with ⟨_, h7⟩ | ⟨h7, _⟩ <;> omega
          · have := exp_bound hz0 h5 (by omega) hdv hS
            omega
      · rw [hdv, dv_add, pow_cast, pow_cast, ← dv_shift (e := e) (f := g) (by omega) (by omega), ← dv_shift (e := f) (f := g) (by omega) (by omega)]
end Go.Proofs.YtfofoookdlaipaaGreatDoor

namespace Go.Proofs.YtfofoookdlaipaaGreatDoor
open Go.RowKit Go.Shelf

theorem DFm.neg {z e : Int} (h : DFm z e) : DFm (-z) e := by
  rcases h with ⟨h1, h2⟩ | ⟨h1, h2⟩
  · exact .inl ⟨by omega, h2⟩
  · exact .inr ⟨by omega, h2⟩
theorem DB.neg {z e : Int} {K E : Nat} (h : DB z e K E) : DB (-z) e K E := ⟨h.fm.neg, by rw [Int.natAbs_neg]; exact h.sz, h.lo, h.hi⟩
theorem dmul_b {p q : Option Addr} {m c n d : Nat} {w : World} {x y e f : Int} {s t : Bool} {K E K' E' : Nat} (h : DN w s p m c e x) (k : DN w t q n d f y) (bx : DB x e K E) (by_ : DB y f K' E') (hK : K + K' ≤ 524288) (hE : E + E' ≤ 524288) (hT : Tab w) :
    Calls Tryz.prog 27 #[DV s p m c e, DV t q n d f] w fun en w' => ∃ v zo eo, en = .returned (.tuple #[v, .int .i64 0]) ∧ AnsD w.heap.size w' v zo eo ∧ DB zo eo (K + K') (E + E' + K + K') ∧ dv zo eo = dv (x * y) (e + f) ∧ Below w.heap.size w w' := by
  have h1 := bx.lo; have h2 := bx.hi; have h3 := by_.lo; have h4 := by_.hi
  have hS : (x * y).natAbs < 2 ^ (K + K') := by
    rw [Int.natAbs_mul, Nat.pow_add]
    exact Nat.mul_lt_mul'' bx.sz by_.sz
  refine (dmul h k (lt_LIM hS hK) (by omega) hT).mono fun en w' ⟨v, zo, eo, he, ha, hfm, hdv, hle, hor, hb⟩ => ⟨v, zo, eo, he, ha, ⟨hfm, Nat.lt_of_le_of_lt hle hS, ?_, ?_⟩, hdv, hb⟩
  · rcases hor with h0 | ⟨h5, h6⟩
    · rcases hfm with ⟨_, h7⟩ | ⟨h7, _⟩ <;> omega
    · omega
  · by_cases hz0 : zo = 0
    · rcases hfm with ⟨_, h7⟩ | ⟨h7, _⟩ <;> omega
    · rcases hor with h0 | ⟨h5, h6⟩
      · exact absurd h0 hz0
      · have := exp_bound hz0 h5 (by omega) hdv hS
        omega
set_option maxRecDepth 20000 in
set_option maxHeartbeats 8000000 in
theorem dsub_b {p q : Option Addr} {m c n d : Nat} {w : World} {x y e f : Int} {s t : Bool} {K E : Nat} (h : DN w s p m c e x) (k : DN w t q n d f y) (bx : DB x e K E) (by_ : DB y f K E) (hK : K + 2 * E + 1 ≤ 524288) (hT : Tab w) :
    Calls Tryz.prog 99 #[DV s p m c e, DV t q n d f] w fun en w' => ∃ v zo eo, en = .returned (.tuple #[v, .int .i64 0]) ∧ AnsD w.heap.size w' v zo eo ∧ DB zo eo (K + 2 * E + 1) (K + 3 * E + 1) ∧ dv zo eo = dv x e - dv y f ∧ Below w.heap.size w w' := by
  have H : Hid (DN w s p m c e x) := h
  have K9 : Hid (DN w t q n d f y) := k
  have HB : Hid (DB x e K E ∧ DB y f K E ∧ K + 2 * E + 1 ≤ 524288) := ⟨bx, by_, hK⟩
  have TB : Hid (Tab w) := hT
  clear h k bx by_ hK hT
  go_enter Tryz.func99, Tryz.ntmps99
  go_wp2_with fail
  obtain ⟨W0, hW0⟩ : ∃ W0, W0 = (((w.alloc (.cells #[.bool s, .slice p m c, .int .i64 e] 34)).alloc (.cells #[.bool t, .slice q n d, .int .i64 f] 34)).alloc (.cells #[.bool false, .slice none 0 0, .int .i64 0] 34)) := ⟨_, rfl⟩
  have Xa : Hid (B3q W0 (w.heap.size) (.bool s) (.slice p m c) (.int .i64 e)) := by rw [hW0]; exact ⟨by go_simp, by go_simp, by go_simp, by go_simp, by go_simp, by go_simp⟩
  have Xb : Hid (B3q W0 (w.heap.size + 1) (.bool t) (.slice q n d) (.int .i64 f)) := by rw [hW0]; exact ⟨by go_simp, by go_simp, by go_simp, by go_simp, by go_simp, by go_simp⟩
  have Xr : Hid (B3q W0 (w.heap.size + 1 + 1) (.bool false) (.slice none 0 0) (.int .i64 0)) := by rw [hW0]; exact ⟨by go_simp, by go_simp, by go_simp, by go_simp, by go_simp, by go_simp⟩
  have hb0 : Below w.heap.size w W0 := by rw [hW0]; exact below3 w _ _ _
  rw [← hW0]
  clear hW0
  have hbw : Below w.heap.size w w := Below.refl _ _
  obtain ⟨gr, hgr⟩ : ∃ g, g = w.heap.size + 1 + 1 := ⟨_, rfl⟩
  have HGr : Hid (w.heap.size ≤ gr) := by rw [hgr]; show _ ≤ _; omega
  rw [← hgr] at Xr
  try rw [← hgr]
  obtain ⟨gb, hgb⟩ : ∃ g, g = w.heap.size + 1 := ⟨_, rfl⟩
  have HGb : Hid (w.heap.size ≤ gb) := by rw [hgb]; show _ ≤ _; omega
  rw [← hgb] at Xb
  try rw [← hgb]
  obtain ⟨ga, hga⟩ : ∃ g, g = w.heap.size := ⟨_, rfl⟩
  have HGa : Hid (w.heap.size ≤ ga) := by rw [hga]; show _ ≤ _; omega
  rw [← hga] at Xa
  try rw [← hga]
  have HGD : Hid (ga ≠ gb ∧ ga ≠ gr ∧ gb ≠ ga ∧ gb ≠ gr ∧ gr ≠ ga ∧ gr ≠ gb) := by rw [hga, hgb, hgr]; exact ⟨by omega, by omega, by omega, by omega, by omega, by omega⟩
  clear hga hgb hgr
  replace hbw := Below.on hbw hb0
  clear hb0
  refine (dneg (K9.out.below hbw)).mono ?_
  rintro e2 v5 ⟨v, rfl, hv, hf5, hb5⟩
  obtain ⟨s5, p5, m5, rfl, hd5⟩ := hv.dn hf5
  clear hv hf5
  replace Xa : Hid _ := Xa.out.below hb5
  replace Xb : Hid _ := Xb.out.below hb5
  replace Xr : Hid _ := Xr.out.below hb5
  replace hbw := Below.on hbw hb5
  clear hb5
  have D5 : Hid (DN v5 s5 p5 m5 m5 f (-y)) := hd5
  clear hd5
  obtain ⟨ca0, ca1, ca2, fa0, fa1, fa2⟩ := Xa.out
  have hnea : ga < v5.heap.size := World.block_lt_of_cell? v5 _ ca0
  go_wp2_with fail
  clear ca0 ca1 ca2 fa0 fa1 fa2 hnea
  have Xl0 : Hid (B3q (v5.alloc (.cells #[.bool s5, .slice p5 m5 m5, .int .i64 f] 34)) v5.heap.size (.bool s5) (.slice p5 m5 m5) (.int .i64 f)) := B3q.new v5 _ _ _ _
  have hbn : Below v5.heap.size v5 (v5.alloc (.cells #[.bool s5, .slice p5 m5 m5, .int .i64 f] 34)) := below1 v5 _
  generalize v5.alloc (.cells #[.bool s5, .slice p5 m5 m5, .int .i64 f] 34) = Wl at *
  have HGl : Hid (w.heap.size ≤ v5.heap.size) := hbw.size
  replace Xa : Hid _ := Xa.out.below hbn
  replace Xb : Hid _ := Xb.out.below hbn
  replace Xr : Hid _ := Xr.out.below hbn
  replace D5 : Hid _ := D5.out.below hbn
  replace hbw := Below.on hbw hbn
  clear hbn
  generalize v5.heap.size = gl at *
  have Xl := Xl0
  clear Xl0
  have HRL : Hid (gr < Wl.heap.size ∧ w.heap.size ≤ Wl.heap.size) := ⟨Xr.out.lt, hbw.size⟩
  refine (dadd_b (H.out.below hbw) D5.out HB.out.1 HB.out.2.1.neg HB.out.2.2 (TB.out.below hbw)).mono ?_
  rintro e2 v6 ⟨v, zo, eo, rfl, hv, hdb, hdv, hb6⟩
  obtain ⟨p6, m6, z6, rfl, ho6, hn6, hm6⟩ := hv
  replace Xa : Hid _ := Xa.out.below hb6
  replace Xb : Hid _ := Xb.out.below hb6
  replace Xr : Hid _ := Xr.out.below hb6
  replace Xl : Hid _ := Xl.out.below hb6
  replace D5 : Hid _ := D5.out.below hb6
  replace hbw := Below.on hbw hb6
  clear hb6
  have O6 : Hid (Own Wl.heap.size v6 p6 m6 z6) := ho6
  have N6 : Hid (Nf B64 z6 zo.natAbs ∧ m6 ≤ 8192 ∧ DB zo eo (K + 2 * E + 1) (K + 3 * E + 1) ∧ dv zo eo = dv x e - dv y f) := ⟨hn6, hm6, hdb, by rw [hdv, dv_neg, Int.sub_eq_add_neg]⟩
  clear ho6 hn6 hm6 hdb hdv
  obtain ⟨so, hso⟩ : ∃ b, b = decide (zo < 0) := ⟨_, rfl⟩
  rw [← hso]
  have HSO : Hid (so = decide (zo < 0)) := hso
  clear hso
  obtain ⟨cr0, cr1, cr2, fr0, fr1, fr2⟩ := Xr.out
  have hner : gr < v6.heap.size := World.block_lt_of_cell? v6 _ cr0
  go_wp2_with fail
  refine bodyPost_ret (v := .tuple #[DV so p6 m6 m6 eo, .int .i64 0]) (by rw [results_cell_tmp rfl]; go_simp) rfl ⟨_, zo, eo, rfl, ⟨p6, m6, z6, by rw [HSO.out], ?_, N6.out.1, N6.out.2.1⟩, N6.out.2.2.1, N6.out.2.2.2, ?_⟩
  · exact own_set3 O6.out HRL.out.1 HRL.out.2 _ _ _
  · exact bSet (bSet (bSet hbw _ _ _ HGr.out) _ _ _ HGr.out) _ _ _ HGr.out
end Go.Proofs.YtfofoookdlaipaaGreatDoor

namespace Go.Proofs.YtfofoookdlaipaaGreatDoor
open Go.RowKit Go.Shelf

end Go.Proofs.YtfofoookdlaipaaGreatDoor

namespace Go.Proofs.YtfofoookdlaipaaGreatDoor
open Go.RowKit Go.Shelf

end Go.Proofs.YtfofoookdlaipaaGreatDoor

namespace Go.Proofs.YtfofoookdlaipaaGreatDoor
open Go.RowKit Go.Shelf

end Go.Proofs.YtfofoookdlaipaaGreatDoor

namespace Go.Proofs.YtfofoookdlaipaaGreatDoor
open Go.RowKit Go.Shelf

def rd (up : Bool) (z : Int) (d : Nat) : Int := if up then -((-z) / (d : Int)) else z / (d : Int)
theorem dv_le {x y : Int} (e : Int) (h : x ≤ y) : dv x e ≤ dv y e := by
  unfold dv
  exact Int.mul_le_mul_of_nonneg_right h (Int.natCast_nonneg _)
theorem dv_up {x e : Int} (k : Nat) (he : -4194304 ≤ e) : dv x (e + k) = dv (x * ((2 ^ k : Nat) : Int)) e := by
  rw [dv_shift (e := e + k) (f := e) (by omega) he, show (e + (k : Int) - e).toNat = k from by omega]
def MakeP (B : Nat) (w' : World) (en : Ending) (z e : Int) : Prop :=
  (∃ v zo eo, en = .returned (.tuple #[v, .int .i64 0]) ∧ AnsD B w' v zo eo ∧ DFm zo eo ∧ dv zo eo = dv z e) ∨
  (en = .returned (.tuple #[DV false none 0 0 0, .int .i64 5]) ∧ ∀ zo eo, DFm zo eo → dv zo eo ≠ dv z e)
theorem MakeP.form {B : Nat} {w' : World} {en : Ending} {z e zo eo : Int} (h : MakeP B w' en z e) (hf : DFm zo eo) (hv : dv zo eo = dv z e) : ∃ v, en = .returned (.tuple #[v, .int .i64 0]) ∧ AnsD B w' v zo eo := by
  rcases h with ⟨v, z1, e1, h1, h2, h3, h4⟩ | ⟨_, h2⟩
  · obtain ⟨rfl, rfl⟩ := dv_inj h3 hf (h4.trans hv.symm)
    exact ⟨v, h1, h2⟩
  · exact absurd hv (h2 _ _ hf)
theorem odd_exp {z z' e e' : Int} (hz : z % 2 = 1) (hz' : z' % 2 = 1) (he : -4194304 ≤ e) (he' : -4194304 ≤ e') (h : dv z e = dv z' e') : e = e' := by
  unfold dv at h
  have h1 := odd_ne hz h
  have h2 := odd_ne hz' h.symm
  omega
theorem make_no {z e : Int} {k : Nat} (hz : z ≠ 0) (hk : TzO z.natAbs k) (he : -4194304 ≤ e) (hn : ¬ (-1048576 ≤ k + e ∧ k + e ≤ 1048576)) : ∀ zo eo, DFm zo eo → dv zo eo ≠ dv z e := by
  intro zo eo hf hv
  obtain ⟨h1, h2, _⟩ := tz_split hz hk
  generalize fl (decide (z < 0)) z.natAbs (2 ^ k) = o at *
  rw [← h2, ← dv_up k he] at hv
  rcases hf with ⟨rfl, rfl⟩ | ⟨h3, h4, h5⟩
  · rw [dv_zero] at hv
    have := dv_eq_zero hv.symm
    omega
  · have := odd_exp h3 h1 (by omega) (by omega) hv
    omega
theorem form_ex {z e : Int} {L : Nat} (hz : z ≠ 0) (h1 : -1048576 ≤ e) (hL : z.natAbs ≤ 2 ^ L) (h2 : e + L ≤ 1048576) : ∃ zo eo, DFm zo eo ∧ dv zo eo = dv z e ∧ zo % 2 = 1 ∧ zo.natAbs ≤ z.natAbs ∧ e ≤ eo ∧ eo ≤ e + L := by
  obtain ⟨k, hk⟩ := TzO.ex z.natAbs
  obtain ⟨h3, h4, h5⟩ := tz_split hz hk
  have h6 : 2 ^ k ≤ 2 ^ L := by
    refine Nat.le_trans ?_ hL
    rcases hk with ⟨h0, _⟩ | ⟨_, h7, h8⟩
    · omega
    · rcases Nat.lt_or_ge z.natAbs (2 ^ k) with h | h
      · rw [Nat.div_eq_of_lt h] at h8; omega
      · exact h
  have h7 := (Nat.pow_le_pow_iff_right (by omega : 1 < 2)).1 h6
  generalize fl (decide (z < 0)) z.natAbs (2 ^ k) = o at *
  refine ⟨o, e + k, .inr ⟨h3, by omega, by omega⟩, ?_, h3, h5, by omega, by omega⟩
  rw [dv_up k (by omega), h4]
def MP (B : Nat) (w' : World) (s : Bool) (p : Option Addr) (m : Nat) (eo er : Int) (z e : Int) : Prop :=
  (er = 0 ∧ ∃ zo zs, s = decide (zo < 0) ∧ Own B w' p m zs ∧ Nf B64 zs zo.natAbs ∧ m ≤ 8192 ∧ DFm zo eo ∧ dv zo eo = dv z e) ∨
  (er = 5 ∧ s = false ∧ p = none ∧ m = 0 ∧ eo = 0 ∧ ∀ zo eo, DFm zo eo → dv zo eo ≠ dv z e)
theorem MakeP.open {B : Nat} {w' : World} {en : Ending} {z e : Int} (h : MakeP B w' en z e) : ∃ s p m eo er, en = .returned (.tuple #[DV s p m m eo, .int .i64 er]) ∧ MP B w' s p m eo er z e := by
  rcases h with ⟨v, z1, e1, h1, ⟨p, m, zs, rfl, h2, h3, h4⟩, h5, h6⟩ | ⟨h1, h2⟩
  · exact ⟨_, p, m, e1, 0, h1, .inl ⟨rfl, z1, zs, rfl, h2, h3, h4, h5, h6⟩⟩
  · exact ⟨_, _, _, _, 5, h1, .inr ⟨rfl, rfl, rfl, rfl, rfl, h2⟩⟩
theorem MP.close {B : Nat} {w' : World} {s : Bool} {p : Option Addr} {m : Nat} {eo er z e : Int} (h : MP B w' s p m eo er z e) : MakeP B w' (.returned (.tuple #[DV s p m m eo, .int .i64 er])) z e := by
  rcases h with ⟨rfl, zo, zs, rfl, h2, h3, h4, h5, h6⟩ | ⟨rfl, rfl, rfl, rfl, rfl, h2⟩
  · exact .inl ⟨_, zo, eo, rfl, ⟨p, m, zs, rfl, h2, h3, h4⟩, h5, h6⟩
  · exact .inr ⟨rfl, h2⟩
theorem MP.set {B b : Nat} {w' : World} {s : Bool} {p : Option Addr} {m : Nat} {eo er z e : Int} (h : MP B w' s p m eo er z e) {r : Nat} (hr : r < B) (hb : b ≤ B) (v0 v1 v2 : Value) : MP b (((w'.setCell ⟨r, 0, none⟩ v0).setCell ⟨r, 1, none⟩ v1).setCell ⟨r, 2, none⟩ v2) s p m eo er z e := by
  rcases h with ⟨h0, zo, zs, h1, h2, h3, h4, h5, h6⟩ | h
  · exact .inl ⟨h0, zo, zs, h1, own_set3 h2 hr hb v0 v1 v2, h3, h4, h5, h6⟩
  · exact .inr h
theorem MP.below {B : Nat} {w w' : World} {s : Bool} {p : Option Addr} {m : Nat} {eo er z e : Int} (h : MP B w s p m eo er z e) (hb : Below w.heap.size w w') : MP B w' s p m eo er z e := by
  rcases h with ⟨h0, zo, zs, h1, h2, h3, h4, h5, h6⟩ | h
  · exact .inl ⟨h0, zo, zs, h1, h2.below hb, h3, h4, h5, h6⟩
  · exact .inr h
theorem MakeP.mono {B b : Nat} {w' : World} {en : Ending} {z e : Int} (h : MakeP B w' en z e) (hb : b ≤ B) : MakeP b w' en z e := by
  rcases h with ⟨v, z1, e1, h1, ⟨p, m, zs, h8, h2, h3, h4⟩, h5, h6⟩ | h
  · exact .inl ⟨v, z1, e1, h1, ⟨p, m, zs, h8, h2.mono hb, h3, h4⟩, h5, h6⟩
  · exact .inr h
end Go.Proofs.YtfofoookdlaipaaGreatDoor

namespace Go.Proofs.YtfofoookdlaipaaGreatDoor
open Go.RowKit Go.Shelf

set_option maxRecDepth 20000 in
set_option maxHeartbeats 8000000 in
theorem moved_no (e n : Int) (w : World) (he : -1048576 ≤ e ∧ e ≤ 2097152) (hs : ¬ (-1048576 ≤ e + n ∧ e + n ≤ 1048576)) :
    Calls Tryz.prog 86 #[.int .i64 e, .int .i64 n] w fun en w' => en = .returned (.tuple #[.int .i64 0, .int .i64 5]) ∧ w' = w := by
  have f1 : wrap64 (-1048576 - e) = -1048576 - e := by simp only [wrap64]; omega
  have f2 : wrap64 (1048576 - e) = 1048576 - e := by simp only [wrap64]; omega
  by_cases f4 : n < -1048576 - e
  · clear he hs
    go_enter Tryz.func86, Tryz.ntmps86
    go_wp2_with fail
    go_ret2
    exact ⟨rfl, rfl⟩
  have f5 : 1048576 - e < n := by omega
  clear he hs
  go_enter Tryz.func86, Tryz.ntmps86
  go_wp2_with fail
  go_ret2
  exact ⟨rfl, rfl⟩
set_option maxRecDepth 20000 in
set_option maxHeartbeats 8000000 in
theorem makep_n {p : Option Addr} {m c : Nat} {w : World} {z e : Int} {s : Bool} (h : ZN w s p m c z) (he : -3145728 ≤ e ∧ e ≤ 3145728) (hT : Tab w) {k : Nat} (hz : z ≠ 0) (hk : TzO z.natAbs k) (hr : (-1048576 ≤ k + e ∧ k + e ≤ 1048576)) :
    Calls Tryz.prog 40 #[ZV s p m c, .int .i64 e] w fun en w' => MakeP w.heap.size w' en z e ∧ Below w.heap.size w w' := by
  have H : Hid (ZN w s p m c z) := h
  have HE : Hid (-3145728 ≤ e ∧ e ≤ 3145728) := he
  have TB : Hid (Tab w) := hT
  have HZ : Hid (z ≠ 0) := hz
  have HR : Hid ((-1048576 ≤ k + e ∧ k + e ≤ 1048576)) := hr
  have HK : Hid (TzO z.natAbs k) := hk
  clear h he hT hz hr
  go_enter Tryz.func40, Tryz.ntmps40
  go_wp2_with fail
  obtain ⟨W0, hW0⟩ : ∃ W0, W0 = ((w.alloc (.cells #[.bool s, .slice p m c] 32)).alloc (.cells #[.bool false, .slice none 0 0, .int .i64 0] 34)) := ⟨_, rfl⟩
  have Xm : Hid (Box W0 (w.heap.size) (.bool s) (.slice p m c)) := by rw [hW0]; exact ⟨by go_simp, by go_simp, by go_simp, by go_simp⟩
  have Xr : Hid (B3q W0 (w.heap.size + 1) (.bool false) (.slice none 0 0) (.int .i64 0)) := by rw [hW0]; exact ⟨by go_simp, by go_simp, by go_simp, by go_simp, by go_simp, by go_simp⟩
  have hb0 : Below w.heap.size w W0 := by rw [hW0]; exact below2 w _ _
  rw [← hW0]
  clear hW0
  have hbw : Below w.heap.size w w := Below.refl _ _
  obtain ⟨gr, hgr⟩ : ∃ g, g = w.heap.size + 1 := ⟨_, rfl⟩
  have HGr : Hid (w.heap.size ≤ gr) := by rw [hgr]; show _ ≤ _; omega
  rw [← hgr] at Xr
  try rw [← hgr]
  obtain ⟨gm, hgm⟩ : ∃ g, g = w.heap.size := ⟨_, rfl⟩
  have HGm : Hid (w.heap.size ≤ gm) := by rw [hgm]; show _ ≤ _; omega
  rw [← hgm] at Xm
  try rw [← hgm]
  have HGD : Hid (gm ≠ gr ∧ gr ≠ gm) := by rw [hgm, hgr]; exact ⟨by omega, by omega⟩
  clear hgm hgr
  replace hbw := Below.on hbw hb0
  clear hb0
  refine (zform (H.out.below hbw)).mono ?_
  rintro e v1 ⟨rfl, hb1⟩
  replace Xm : Hid _ := Xm.out.below hb1
  replace Xr : Hid _ := Xr.out.below hb1
  replace hbw := Below.on hbw hb1
  clear hb1
  obtain ⟨cm0, cm1, fm0, fm1⟩ := Xm.out
  have hnem := Xm.out.lt
  go_wp2_with fail
  clear cm0 cm1 fm0 fm1 hnem
  refine (zsign (H.out.below hbw)).mono ?_
  rintro e v2 ⟨rfl, hb2⟩
  obtain ⟨sg, hsg⟩ : ∃ sg, sg = sgnI (z) := ⟨_, rfl⟩
  rw [← hsg]
  have hs0 : (sg == 0) = false := by rw [hsg]; have := HZ.out; unfold sgnI; split <;> (try split) <;> simp <;> omega
  clear hsg
  replace Xm : Hid _ := Xm.out.below hb2
  replace Xr : Hid _ := Xr.out.below hb2
  replace hbw := Below.on hbw hb2
  clear hb2
  obtain ⟨cm0, cm1, fm0, fm1⟩ := Xm.out
  have hnem := Xm.out.lt
  go_wp2_with fail
  clear cm0 cm1 fm0 fm1 hnem
  have hkb : k ≤ 524288 := by
    have h1 := (lim_bits z.natAbs).1 H.out.lim
    rcases hk with ⟨h0, _⟩ | ⟨_, h2, h3⟩
    · exact absurd (Int.natAbs_eq_zero.1 h0) HZ.out
    · have h4 : 2 ^ k ≤ z.natAbs := by
        rcases Nat.lt_or_ge z.natAbs (2 ^ k) with h | h
        · rw [Nat.div_eq_of_lt h] at h3; omega
        · exact h
      have h5 := bitsN_lt z.natAbs
      have h6 := (Nat.pow_lt_pow_iff_right (by omega : 1 < 2)).1 (Nat.lt_of_le_of_lt h4 h5)
      omega
  have HKB : Hid (k ≤ 524288) := hkb
  clear hk hkb
  obtain ⟨xs, hX⟩ := (H.out.below hbw).ex
  refine (trail_any hX.at_ (by have := hX.le; omega) (k := k) (by rw [hX.nf.val]; exact HK.out) (TB.out.below hbw)).mono ?_
  rintro e2 v3 ⟨rfl, hw⟩
  obtain rfl := hw.symm
  clear hw hX
  go_wp2_with fail
  refine (moved_ok k e _ (by have := HKB.out; omega) HR.out).mono ?_
  rintro e2 v4 ⟨rfl, hw⟩
  obtain rfl := hw.symm
  clear hw
  obtain ⟨cm0, cm1, fm0, fm1⟩ := Xm.out
  have hnem := Xm.out.lt
  go_wp2_with fail
  clear cm0 cm1 fm0 fm1 hnem
  obtain ⟨o, ho9⟩ : ∃ o, o = fl (decide (z < 0)) z.natAbs (2 ^ k) := ⟨_, rfl⟩
  have HO9 : Hid (o % 2 = 1 ∧ o * ((2 ^ k : Nat) : Int) = z ∧ o.natAbs ≤ z.natAbs) := by rw [ho9]; exact tz_split HZ.out HK.out
  have HRL : Hid (gr < v2.heap.size ∧ w.heap.size ≤ v2.heap.size) := ⟨Xr.out.lt, hbw.size⟩
  obtain ⟨xs, hX⟩ := (H.out.below hbw).ex
  refine (fshr_any s hX H.out.pos k (by have := HKB.out; omega) (TB.out.below hbw)).mono ?_
  rintro e2 v5 ⟨v, rfl, hv, hb5⟩
  rw [H.out.sg, ← ho9] at hv
  obtain ⟨p5, m5, z5, rfl, ho5, hn5, hm5⟩ := hv
  clear hX ho9
  replace Xm : Hid _ := Xm.out.below hb5
  replace Xr : Hid _ := Xr.out.below hb5
  replace hbw := Below.on hbw hb5
  clear hb5
  have O5 : Hid (Own v2.heap.size v5 p5 m5 z5) := ho5
  have N5 : Hid (Nf B64 z5 o.natAbs ∧ m5 ≤ 8192) := ⟨hn5, hm5⟩
  clear ho5 hn5 hm5
  obtain ⟨so, hso⟩ : ∃ b, b = decide (o < 0) := ⟨_, rfl⟩
  rw [← hso]
  have HSO : Hid (so = decide (o < 0)) := hso
  clear hso
  obtain ⟨cr0, cr1, cr2, fr0, fr1, fr2⟩ := Xr.out
  have hner : gr < v5.heap.size := World.block_lt_of_cell? v5 _ cr0
  go_wp2_with fail
  refine bodyPost_ret (v := .tuple #[DV so p5 m5 m5 (k + e), .int .i64 0]) (by rw [results_cell_tmp rfl]; go_simp) rfl ⟨.inl ⟨_, o, k + e, rfl, ⟨p5, m5, z5, by rw [HSO.out], ?_, N5.out.1, N5.out.2⟩, .inr ⟨HO9.out.1, HR.out⟩, ?_⟩, ?_⟩
  · exact (own_set3 O5.out HRL.out.1 HRL.out.2 _ _ _).below (below1 _ _)
  · rw [dv_shift (e := (k : Int) + e) (f := e) (by omega) (by have := HE.out; omega), show ((k : Int) + e - e).toNat = k from by omega, HO9.out.2.1]
  · exact Below.on (bSet (bSet (bSet hbw _ _ _ HGr.out) _ _ _ HGr.out) _ _ _ HGr.out) (below1 _ _)
set_option maxRecDepth 20000 in
set_option maxHeartbeats 8000000 in
theorem makep_e {p : Option Addr} {m c : Nat} {w : World} {z e : Int} {s : Bool} (h : ZN w s p m c z) (he : -3145728 ≤ e ∧ e ≤ 3145728) (hT : Tab w) {k : Nat} (hz : z ≠ 0) (hk : TzO z.natAbs k) (hr : ¬ (-1048576 ≤ k + e ∧ k + e ≤ 1048576)) :
    Calls Tryz.prog 40 #[ZV s p m c, .int .i64 e] w fun en w' => MakeP w.heap.size w' en z e ∧ Below w.heap.size w w' := by
  have H : Hid (ZN w s p m c z) := h
  have HE : Hid (-3145728 ≤ e ∧ e ≤ 3145728) := he
  have TB : Hid (Tab w) := hT
  have HZ : Hid (z ≠ 0) := hz
  have HR : Hid (¬ (-1048576 ≤ k + e ∧ k + e ≤ 1048576)) := hr
  have HK : Hid (TzO z.natAbs k) := hk
  clear h he hT hz hr
  go_enter Tryz.func40, Tryz.ntmps40
  go_wp2_with fail
  obtain ⟨W0, hW0⟩ : ∃ W0, W0 = ((w.alloc (.cells #[.bool s, .slice p m c] 32)).alloc (.cells #[.bool false, .slice none 0 0, .int .i64 0] 34)) := ⟨_, rfl⟩
  have Xm : Hid (Box W0 (w.heap.size) (.bool s) (.slice p m c)) := by rw [hW0]; exact ⟨by go_simp, by go_simp, by go_simp, by go_simp⟩
  have Xr : Hid (B3q W0 (w.heap.size + 1) (.bool false) (.slice none 0 0) (.int .i64 0)) := by rw [hW0]; exact ⟨by go_simp, by go_simp, by go_simp, by go_simp, by go_simp, by go_simp⟩
  have hb0 : Below w.heap.size w W0 := by rw [hW0]; exact below2 w _ _
  rw [← hW0]
  clear hW0
  have hbw : Below w.heap.size w w := Below.refl _ _
  obtain ⟨gr, hgr⟩ : ∃ g, g = w.heap.size + 1 := ⟨_, rfl⟩
  have HGr : Hid (w.heap.size ≤ gr) := by rw [hgr]; show _ ≤ _; omega
  rw [← hgr] at Xr
  try rw [← hgr]
  obtain ⟨gm, hgm⟩ : ∃ g, g = w.heap.size := ⟨_, rfl⟩
  have HGm : Hid (w.heap.size ≤ gm) := by rw [hgm]; show _ ≤ _; omega
  rw [← hgm] at Xm
  try rw [← hgm]
  have HGD : Hid (gm ≠ gr ∧ gr ≠ gm) := by rw [hgm, hgr]; exact ⟨by omega, by omega⟩
  clear hgm hgr
  replace hbw := Below.on hbw hb0
  clear hb0
  refine (zform (H.out.below hbw)).mono ?_
  rintro e v1 ⟨rfl, hb1⟩
  replace Xm : Hid _ := Xm.out.below hb1
  replace Xr : Hid _ := Xr.out.below hb1
  replace hbw := Below.on hbw hb1
  clear hb1
  obtain ⟨cm0, cm1, fm0, fm1⟩ := Xm.out
  have hnem := Xm.out.lt
  go_wp2_with fail
  clear cm0 cm1 fm0 fm1 hnem
  refine (zsign (H.out.below hbw)).mono ?_
  rintro e v2 ⟨rfl, hb2⟩
  obtain ⟨sg, hsg⟩ : ∃ sg, sg = sgnI (z) := ⟨_, rfl⟩
  rw [← hsg]
  have hs0 : (sg == 0) = false := by rw [hsg]; have := HZ.out; unfold sgnI; split <;> (try split) <;> simp <;> omega
  clear hsg
  replace Xm : Hid _ := Xm.out.below hb2
  replace Xr : Hid _ := Xr.out.below hb2
  replace hbw := Below.on hbw hb2
  clear hb2
  obtain ⟨cm0, cm1, fm0, fm1⟩ := Xm.out
  have hnem := Xm.out.lt
  go_wp2_with fail
  clear cm0 cm1 fm0 fm1 hnem
  have hkb : k ≤ 524288 := by
    have h1 := (lim_bits z.natAbs).1 H.out.lim
    rcases hk with ⟨h0, _⟩ | ⟨_, h2, h3⟩
    · exact absurd (Int.natAbs_eq_zero.1 h0) HZ.out
    · have h4 : 2 ^ k ≤ z.natAbs := by
        rcases Nat.lt_or_ge z.natAbs (2 ^ k) with h | h
        · rw [Nat.div_eq_of_lt h] at h3; omega
        · exact h
      have h5 := bitsN_lt z.natAbs
      have h6 := (Nat.pow_lt_pow_iff_right (by omega : 1 < 2)).1 (Nat.lt_of_le_of_lt h4 h5)
      omega
  have HKB : Hid (k ≤ 524288) := hkb
  clear hk hkb
  obtain ⟨xs, hX⟩ := (H.out.below hbw).ex
  refine (trail_any hX.at_ (by have := hX.le; omega) (k := k) (by rw [hX.nf.val]; exact HK.out) (TB.out.below hbw)).mono ?_
  rintro e2 v3 ⟨rfl, hw⟩
  obtain rfl := hw.symm
  clear hw hX
  go_wp2_with fail
  refine (moved_no k e _ (by have := HKB.out; omega) HR.out).mono ?_
  rintro e2 v4 ⟨rfl, hw⟩
  obtain rfl := hw.symm
  clear hw
  obtain ⟨cr0, cr1, cr2, fr0, fr1, fr2⟩ := Xr.out
  have hner : gr < v2.heap.size := World.block_lt_of_cell? v2 _ cr0
  go_wp2_with fail
  refine bodyPost_ret (v := .tuple #[DV false none 0 0 0, .int .i64 5]) (by rw [results_cell_tmp rfl]; go_simp) rfl ⟨.inr ⟨rfl, make_no HZ.out HK.out (by have := HE.out; omega) HR.out⟩, ?_⟩
  first | exact hbw | exact bSet (bSet (bSet hbw _ _ _ HGr.out) _ _ _ HGr.out) _ _ _ HGr.out
set_option maxRecDepth 20000 in
set_option maxHeartbeats 8000000 in
theorem makep_z {p : Option Addr} {m c : Nat} {w : World} {z e : Int} {s : Bool} (h : ZN w s p m c z) (hz : z = 0) :
    Calls Tryz.prog 40 #[ZV s p m c, .int .i64 e] w fun en w' => MakeP w.heap.size w' en z e ∧ Below w.heap.size w w' := by
  have H : Hid (ZN w s p m c z) := h
  subst hz
  clear h
  go_enter Tryz.func40, Tryz.ntmps40
  go_wp2_with fail
  obtain ⟨W0, hW0⟩ : ∃ W0, W0 = ((w.alloc (.cells #[.bool s, .slice p m c] 32)).alloc (.cells #[.bool false, .slice none 0 0, .int .i64 0] 34)) := ⟨_, rfl⟩
  have Xm : Hid (Box W0 (w.heap.size) (.bool s) (.slice p m c)) := by rw [hW0]; exact ⟨by go_simp, by go_simp, by go_simp, by go_simp⟩
  have Xr : Hid (B3q W0 (w.heap.size + 1) (.bool false) (.slice none 0 0) (.int .i64 0)) := by rw [hW0]; exact ⟨by go_simp, by go_simp, by go_simp, by go_simp, by go_simp, by go_simp⟩
  have hb0 : Below w.heap.size w W0 := by rw [hW0]; exact below2 w _ _
  rw [← hW0]
  clear hW0
  have hbw : Below w.heap.size w w := Below.refl _ _
  obtain ⟨gr, hgr⟩ : ∃ g, g = w.heap.size + 1 := ⟨_, rfl⟩
  have HGr : Hid (w.heap.size ≤ gr) := by rw [hgr]; show _ ≤ _; omega
  rw [← hgr] at Xr
  try rw [← hgr]
  obtain ⟨gm, hgm⟩ : ∃ g, g = w.heap.size := ⟨_, rfl⟩
  have HGm : Hid (w.heap.size ≤ gm) := by rw [hgm]; show _ ≤ _; omega
  rw [← hgm] at Xm
  try rw [← hgm]
  have HGD : Hid (gm ≠ gr ∧ gr ≠ gm) := by rw [hgm, hgr]; exact ⟨by omega, by omega⟩
  clear hgm hgr
  replace hbw := Below.on hbw hb0
  clear hb0
  refine (zform (H.out.below hbw)).mono ?_
  rintro e v1 ⟨rfl, hb1⟩
  replace Xm : Hid _ := Xm.out.below hb1
  replace Xr : Hid _ := Xr.out.below hb1
  replace hbw := Below.on hbw hb1
  clear hb1
  obtain ⟨cm0, cm1, fm0, fm1⟩ := Xm.out
  have hnem := Xm.out.lt
  go_wp2_with fail
  clear cm0 cm1 fm0 fm1 hnem
  refine (zsign (H.out.below hbw)).mono ?_
  rintro e v2 ⟨rfl, hb2⟩
  rw [show sgnI 0 = 0 from rfl]
  replace Xm : Hid _ := Xm.out.below hb2
  replace Xr : Hid _ := Xr.out.below hb2
  replace hbw := Below.on hbw hb2
  clear hb2
  obtain ⟨cr0, cr1, cr2, fr0, fr1, fr2⟩ := Xr.out
  have hner : gr < v2.heap.size := World.block_lt_of_cell? v2 _ cr0
  go_wp2_with fail
  refine bodyPost_ret (v := .tuple #[DV false none 0 0 0, .int .i64 0]) (by rw [results_cell_tmp rfl]; go_simp) rfl ⟨.inl ⟨_, 0, 0, rfl, ⟨none, 0, [], rfl, ⟨rfl, Dig.nil _, .inl rfl⟩, Nf.nil _, by omega⟩, .inl ⟨rfl, rfl⟩, by rw [dv_zero, dv_zero]⟩, ?_⟩
  first | exact hbw | exact bSet (bSet (bSet hbw _ _ _ HGr.out) _ _ _ HGr.out) _ _ _ HGr.out
theorem makep {p : Option Addr} {m c : Nat} {w : World} {z e : Int} {s : Bool} (h : ZN w s p m c z) (he : -3145728 ≤ e ∧ e ≤ 3145728) (hT : Tab w) :
    Calls Tryz.prog 40 #[ZV s p m c, .int .i64 e] w fun en w' => MakeP w.heap.size w' en z e ∧ Below w.heap.size w w' := by
  by_cases hz : z = 0
  · exact makep_z h hz
  obtain ⟨k, hk⟩ := TzO.ex z.natAbs
  by_cases hr : -1048576 ≤ k + e ∧ k + e ≤ 1048576
  · exact makep_n h he hT hz hk hr
  · exact makep_e h he hT hz hk hr
end Go.Proofs.YtfofoookdlaipaaGreatDoor

namespace Go.Proofs.YtfofoookdlaipaaGreatDoor
open Go.RowKit Go.Shelf

end Go.Proofs.YtfofoookdlaipaaGreatDoor

namespace Go.Proofs.YtfofoookdlaipaaGreatDoor
open Go.RowKit Go.Shelf

end Go.Proofs.YtfofoookdlaipaaGreatDoor

namespace Go.Proofs.YtfofoookdlaipaaGreatDoor
open Go.RowKit Go.Shelf

end Go.Proofs.YtfofoookdlaipaaGreatDoor

namespace Go.Proofs.YtfofoookdlaipaaGreatDoor
open Go.RowKit Go.Shelf

end Go.Proofs.YtfofoookdlaipaaGreatDoor

namespace Go.Proofs.YtfofoookdlaipaaGreatDoor
open Go.RowKit Go.Shelf

end Go.Proofs.YtfofoookdlaipaaGreatDoor

namespace Go.Proofs.YtfofoookdlaipaaGreatDoor
open Go.RowKit Go.Shelf

end Go.Proofs.YtfofoookdlaipaaGreatDoor

namespace Go.Proofs.YtfofoookdlaipaaGreatDoor
open Go.RowKit Go.Shelf

end Go.Proofs.YtfofoookdlaipaaGreatDoor

namespace Go.Proofs.YtfofoookdlaipaaGreatDoor
open Go.RowKit Go.Shelf

theorem dv_mul {z c e f : Int} (he : -2097152 ≤ e) (hf : -2097152 ≤ f) : dv (z * c) (e + f) * ((2 ^ 4194304 : Nat) : Int) = dv z e * dv c f := by
  unfold dv
  obtain ⟨S, hS⟩ : ∃ S : Nat, S = 4194304 := ⟨_, rfl⟩
  rw [← hS]
  obtain ⟨a, ha⟩ : ∃ a : Nat, a = (e + 4194304).toNat := ⟨_, rfl⟩
  obtain ⟨b, hb⟩ : ∃ b : Nat, b = (f + 4194304).toNat := ⟨_, rfl⟩
  obtain ⟨d, hd⟩ : ∃ d : Nat, d = (e + f + 4194304).toNat := ⟨_, rfl⟩
  rw [← ha, ← hb, ← hd]
  have h1 : d + S = a + b := by omega
  have h2 : ((2 ^ d : Nat) : Int) * ((2 ^ S : Nat) : Int) = ((2 ^ a : Nat) : Int) * ((2 ^ b : Nat) : Int) := by
    rw [← Int.natCast_mul, ← Int.natCast_mul, ← Nat.pow_add, ← Nat.pow_add, h1]
  rw [Int.mul_assoc, h2, Int.mul_assoc, Int.mul_assoc, Int.mul_left_comm c]
end Go.Proofs.YtfofoookdlaipaaGreatDoor

namespace Go.Proofs.YtfofoookdlaipaaGreatDoor
open Go.RowKit Go.Shelf

end Go.Proofs.YtfofoookdlaipaaGreatDoor

namespace Go.Proofs.YtfofoookdlaipaaGreatDoor
open Go.RowKit Go.Shelf

end Go.Proofs.YtfofoookdlaipaaGreatDoor

namespace Go.Proofs.YtfofoookdlaipaaGreatDoor
open Go.RowKit Go.Shelf

structure RSubR (w : World) (g N : Nat) (xs ys : List Nat) (i ow : Nat) (ss : List Nat) (wr : World) : Prop where
  bel : Below g w wr
  own : wr.ownsRow g 204 1 (.slice (some ⟨g, 0, none⟩) i N) i (cellsV ss)
  len : ss.length = i
  dig : Dig B32 ss
  car : ow ≤ 1
  sum : valB B32 ss + valB B32 (ys.take i) = valB B32 (xs.take i) + B32 ^ i * ow
theorem RSubR.at_ {w : World} {g N : Nat} {xs ys : List Nat} {i cy : Nat} {ss : List Nat} {wr : World} (h : RSubR w g N xs ys i cy ss wr) : At32 wr (some ⟨g, 0, none⟩) i N ss := by
  rcases h.own.2 with ⟨h', _⟩ | ⟨g', cap', cur, h', hbase, hgc, hcap', hmx, hsz, htake⟩
  · simp at h'
  · simp only [Value.slice.injEq, Option.some.injEq, Addr.mk.injEq, and_true, true_and] at h'
    obtain ⟨rfl, rfl⟩ := h'
    refine ⟨h.len, hcap', hmx, h.dig, .inr ⟨g, 0, rfl, fun jj hj => ?_⟩⟩
    rw [Nat.zero_add, cell_of_row wr g jj _ _ _ hgc]
    have e1 := cellsV_get ss jj (by rw [h.len]; exact hj)
    rw [← htake, Nat.mul_one, List.getElem?_take, if_pos hj] at e1
    rw [← Array.getElem?_toList]; exact e1

end Go.Proofs.YtfofoookdlaipaaGreatDoor

namespace Go.Proofs.YtfofoookdlaipaaGreatDoor
open Go.RowKit Go.Shelf

structure ZR (w : World) (s : Bool) (p : Option Addr) (m : Nat) (z : Int) : Prop where
  ex : ∃ zs, At32 w p m m zs ∧ Nf B32 zs z.natAbs
  sg : s = decide (z < 0)
theorem ZR.below {w w' : World} {s : Bool} {p : Option Addr} {m : Nat} {z : Int} (h : ZR w s p m z) (hb : Below w.heap.size w w') : ZR w' s p m z := by
  obtain ⟨zs, hA, hN⟩ := h.ex
  exact ⟨⟨zs, hA.below hb, hN⟩, h.sg⟩
theorem ZR.cast {w : World} {s : Bool} {p : Option Addr} {m : Nat} {z z' : Int} (h : ZR w s p m z) (e : z = z') : ZR w s p m z' := e ▸ h
theorem ZR.zero {w : World} {s : Bool} {p : Option Addr} {m : Nat} {z : Int} (h : ZR w s p m z) : m = 0 ↔ z = 0 := by
  obtain ⟨zs, hA, hN⟩ := h.ex
  have h1 := hN.zero_iff B32_one
  have h2 := hA.len
  constructor
  · intro e
    have := h1.1 (List.eq_nil_of_length_eq_zero (by omega))
    omega
  · intro e
    have := h1.2 (by omega)
    rw [← h2, this]; rfl
theorem ZR.iv {w : World} {s : Bool} {p : Option Addr} {m : Nat} {z : Int} (h : ZR w s p m z) : Go.Proofs.YtfofoookdlaipaaGreatDoor.iv s z.natAbs = z := by rw [h.sg]; exact iv_abs z
theorem ZR.set {w : World} {s : Bool} {g m : Nat} {z : Int} (h : ZR w s (some ⟨g, 0, none⟩) m z) (g2 o2 : Nat) (v : Value) (hne : g ≠ g2) : ZR (w.setCell ⟨g2, o2, none⟩ v) s (some ⟨g, 0, none⟩) m z := by
  obtain ⟨zs, hA, hN⟩ := h.ex
  exact ⟨⟨zs, hA.setOther g2 o2 v hne, hN⟩, h.sg⟩
end Go.Proofs.YtfofoookdlaipaaGreatDoor

namespace Go.Proofs.YtfofoookdlaipaaGreatDoor
open Go.RowKit Go.Shelf

end Go.Proofs.YtfofoookdlaipaaGreatDoor

namespace Go.Proofs.YtfofoookdlaipaaGreatDoor
open Go.RowKit Go.Shelf

end Go.Proofs.YtfofoookdlaipaaGreatDoor

namespace Go.Proofs.YtfofoookdlaipaaGreatDoor
open Go.RowKit Go.Shelf

end Go.Proofs.YtfofoookdlaipaaGreatDoor

namespace Go.Proofs.YtfofoookdlaipaaGreatDoor
open Go.RowKit Go.Shelf

theorem DN.set {w : World} {s : Bool} {g m c : Nat} {e z : Int} (h : DN w s (some ⟨g, 0, none⟩) m c e z) (g2 o2 : Nat) (v : Value) (hne : g ≠ g2) : DN (w.setCell ⟨g2, o2, none⟩ v) s (some ⟨g, 0, none⟩) m c e z := by
  obtain ⟨xs, hX⟩ := h.zn.ex
  exact ⟨⟨⟨xs, hX.at_.setOther g2 o2 v hne, hX.nf, hX.le⟩, h.zn.sg⟩, h.fm⟩
end Go.Proofs.YtfofoookdlaipaaGreatDoor

namespace Go.Proofs.YtfofoookdlaipaaGreatDoor
open Go.RowKit Go.Shelf

set_option maxRecDepth 20000 in
set_option maxHeartbeats 8000000 in
theorem nought5 {p : Option Addr} {m c : Nat} {w : World} {e : Int} {s : Bool} (hm : 0 < m) :
    Calls Tryz.prog 26 #[DV s p m c e] w fun en w' => en = .returned (.bool false) ∧ Below w.heap.size w w' := by
  have h1 : ((m : Int) == 0) = false := by simp; omega
  have h2 : ¬ m = 0 := by omega
  clear hm
  go_enter Tryz.func26, Tryz.ntmps26
  go_wp2_with fail
  go_ret
  exact ⟨rfl, below1 w _⟩
end Go.Proofs.YtfofoookdlaipaaGreatDoor

namespace Go.Proofs.YtfofoookdlaipaaGreatDoor
open Go.RowKit Go.Shelf

end Go.Proofs.YtfofoookdlaipaaGreatDoor

namespace Go.Proofs.YtfofoookdlaipaaGreatDoor
open Go.RowKit Go.Shelf

set_option maxRecDepth 20000 in
set_option maxHeartbeats 8000000 in
theorem isnan_i (x : Int) (w : World) : Calls Tryz.prog 134 #[.int .i64 x] w fun en w' => en = .returned (.bool false) ∧ w' = w := by
  have hb : (x == x) = true := by simp
  have hc : (x != x) = false := by simp
  go_enter Tryz.func134, Tryz.ntmps134
  go_wp2_with fail
  go_ret
  exact ⟨rfl, rfl⟩
end Go.Proofs.YtfofoookdlaipaaGreatDoor

namespace Go.Proofs.YtfofoookdlaipaaGreatDoor
open Go.RowKit Go.Shelf

theorem sgn3 (x : Int) : (x < 0 ∧ sgnI x = -1) ∨ (x = 0 ∧ sgnI x = 0) ∨ (0 < x ∧ sgnI x = 1) := by
  unfold sgnI
  rcases Int.lt_trichotomy x 0 with h | h | h
  · exact .inl ⟨h, if_pos h⟩
  · exact .inr (.inl ⟨h, by rw [if_neg (by omega), if_pos h]⟩)
  · exact .inr (.inr ⟨h, by rw [if_neg (by omega), if_neg (by omega)]⟩)
theorem cmp_l {a b : Int} (h : a < b) : cmpI a b = -1 := if_pos h
theorem cmp_e {a b : Int} (h : a = b) : cmpI a b = 0 := by unfold cmpI; rw [if_neg (by omega), if_pos h]
theorem cmp_g {a b : Int} (h : b < a) : cmpI a b = 1 := by unfold cmpI; rw [if_neg (by omega), if_neg (by omega)]
theorem dv3 (z e : Int) : (z < 0 ∧ dv z e < 0) ∨ (z = 0 ∧ dv z e = 0) ∨ (0 < z ∧ 0 < dv z e) := by
  have h1 : (0 : Int) < ((2 ^ (e + 4194304).toNat : Nat) : Int) := by have := Nat.pow_pos (n := (e + 4194304).toNat) (show 0 < 2 by omega); omega
  rcases Int.lt_trichotomy z 0 with h | h | h
  · exact .inl ⟨h, Int.mul_neg_of_neg_of_pos h h1⟩
  · exact .inr (.inl ⟨h, by rw [h, dv_zero]⟩)
  · exact .inr (.inr ⟨h, Int.mul_pos h h1⟩)
theorem cmp_sgn {x y e f : Int} (h : sgnI x ≠ sgnI y ∨ sgnI x = 0) : cmpI (sgnI x) (sgnI y) = cmpI (dv x e) (dv y f) := by
  have hx := dv3 x e
  have hy := dv3 y f
  generalize dv x e = X at *
  generalize dv y f = Y at *
  rcases sgn3 x with ⟨h1, ex⟩ | ⟨h1, ex⟩ | ⟨h1, ex⟩ <;> rcases sgn3 y with ⟨h2, ey⟩ | ⟨h2, ey⟩ | ⟨h2, ey⟩ <;> rw [ex, ey] at h ⊢ <;>
    first
    | exact (cmp_l (by omega)).trans (cmp_l (by omega)).symm
    | exact (cmp_e (by omega)).trans (cmp_e (by omega)).symm
    | exact (cmp_g (by omega)).trans (cmp_g (by omega)).symm
    | (exfalso; omega)
def topI (z e : Int) : Int := e + bitsN z.natAbs - 1
theorem top_lt {x y e f : Int} (hx : 0 ≤ x) (hy : 0 < y) (he : -4194304 ≤ e) (hf : -4194304 ≤ f) (h : topI x e < topI y f) : dv x e < dv y f := by
  have h1 := bitsN_lt x.natAbs
  have h2 := bitsN_le y.natAbs (by omega)
  have h3 := bitsN_pos (a := y.natAbs) (by omega)
  unfold topI at h
  have h4 : x.natAbs * 2 ^ (e + 4194304).toNat < 2 ^ (bitsN x.natAbs + (e + 4194304).toNat) := by
    rw [Nat.pow_add]
    exact Nat.mul_lt_mul_of_pos_right h1 (Nat.pow_pos (by omega))
  have h5 : 2 ^ (bitsN y.natAbs - 1 + (f + 4194304).toNat) ≤ y.natAbs * 2 ^ (f + 4194304).toNat := by
    rw [Nat.pow_add]
    exact Nat.mul_le_mul_right _ h2
  have h6 : 2 ^ (bitsN x.natAbs + (e + 4194304).toNat) ≤ 2 ^ (bitsN y.natAbs - 1 + (f + 4194304).toNat) := Nat.pow_le_pow_right (by omega) (by omega)
  have h7 : x.natAbs * 2 ^ (e + 4194304).toNat < y.natAbs * 2 ^ (f + 4194304).toNat := by omega
  unfold dv
  have h8 : ((x.natAbs * 2 ^ (e + 4194304).toNat : Nat) : Int) = x * ((2 ^ (e + 4194304).toNat : Nat) : Int) := by rw [Int.natCast_mul, Int.natAbs_of_nonneg hx]
  have h9 : ((y.natAbs * 2 ^ (f + 4194304).toNat : Nat) : Int) = y * ((2 ^ (f + 4194304).toNat : Nat) : Int) := by rw [Int.natCast_mul, Int.natAbs_of_nonneg (by omega)]
  rw [← h8, ← h9]
  omega
theorem topI_neg (z e : Int) : topI (-z) e = topI z e := by unfold topI; rw [Int.natAbs_neg]
theorem cmp_top {x y e f : Int} (hx : x ≠ 0) (hs : sgnI x = sgnI y) (he : -4194304 ≤ e) (hf : -4194304 ≤ f) (h : topI x e ≠ topI y f) : sgnI x * cmpI (topI x e) (topI y f) = cmpI (dv x e) (dv y f) := by
  unfold sgnI at hs ⊢
  rcases Int.lt_or_lt_of_ne hx with h1 | h1
  · have h2 : y < 0 := by
      rw [if_pos h1] at hs
      rcases Int.lt_trichotomy y 0 with h2 | h2 | h2
      · exact h2
      · rw [if_neg (by omega), if_pos h2] at hs; omega
      · rw [if_neg (by omega), if_neg (by omega)] at hs; omega
    rw [if_pos h1]
    rcases Int.lt_or_lt_of_ne h with h3 | h3
    · have := top_lt (x := -x) (y := -y) (by omega) (by omega) he hf (by rw [topI_neg, topI_neg]; exact h3)
      rw [dv_neg, dv_neg] at this
      unfold cmpI
      rw [if_pos h3, if_neg (by omega), if_neg (by omega)]
      rfl
    · have := top_lt (x := -y) (y := -x) (by omega) (by omega) hf he (by rw [topI_neg, topI_neg]; exact h3)
      rw [dv_neg, dv_neg] at this
      unfold cmpI
      rw [if_neg (show ¬ topI x e < topI y f by omega), if_neg h, if_pos (show dv x e < dv y f by omega)]
      rfl
  · have h2 : 0 < y := by
      rw [if_neg (by omega), if_neg (by omega)] at hs
      rcases Int.lt_trichotomy y 0 with h2 | h2 | h2
      · rw [if_pos h2] at hs; omega
      · rw [if_neg (by omega), if_pos h2] at hs; omega
      · exact h2
    rw [if_neg (by omega), if_neg (by omega), Int.one_mul]
    rcases Int.lt_or_lt_of_ne h with h3 | h3
    · have := top_lt (by omega) h2 he hf h3
      unfold cmpI
      rw [if_pos h3, if_pos this]
    · have := top_lt (by omega) h1 hf he h3
      unfold cmpI
      rw [if_neg (show ¬ topI x e < topI y f by omega), if_neg h, if_neg (show ¬ dv x e < dv y f by omega), if_neg (by omega)]
theorem cmp_same {x y e f g : Int} (h1 : g ≤ e) (h2 : g ≤ f) (hg : -4194304 ≤ g) : cmpI (x * 2 ^ (e - g).toNat) (y * 2 ^ (f - g).toNat) = cmpI (dv x e) (dv y f) := by
  rw [dv_shift h1 hg, dv_shift h2 hg, pow_cast, pow_cast]
  generalize x * ((2 ^ (e - g).toNat : Nat) : Int) = X
  generalize y * ((2 ^ (f - g).toNat : Nat) : Int) = Y
  have h3 : (0 : Int) < ((2 ^ (g + 4194304).toNat : Nat) : Int) := by have := Nat.pow_pos (n := (g + 4194304).toNat) (show 0 < 2 by omega); omega
  unfold cmpI dv
  generalize ((2 ^ (g + 4194304).toNat : Nat) : Int) = T at *
  rcases Int.lt_trichotomy X Y with h | h | h
  · rw [if_pos h, if_pos (Int.mul_lt_mul_of_pos_right h h3)]
  · subst h
    rw [if_neg (by omega), if_pos rfl, if_neg (by omega), if_pos rfl]
  · have := Int.mul_lt_mul_of_pos_right h h3
    rw [if_neg (by omega), if_neg (by omega), if_neg (by omega), if_neg (by omega)]
set_option maxRecDepth 20000 in
set_option maxHeartbeats 8000000 in
theorem ccmp_l (a b : Int) (w : World) (h1 : a < b) : Calls Tryz.prog 95 #[.int .i64 a, .int .i64 b] w fun en w' => en = .returned (.int .i64 (-1)) ∧ Below w.heap.size w w' := by
  go_enter Tryz.func95, Tryz.ntmps95
  go_wp2_with fail
  refine (isnan_i a w).mono ?_
  rintro e2 v1 ⟨rfl, hw⟩
  obtain rfl := hw.symm
  clear hw
  go_wp2_with fail
  refine (isnan_i b w).mono ?_
  rintro e2 v1 ⟨rfl, hw⟩
  obtain rfl := hw.symm
  clear hw
  go_wp2_with fail
  go_ret
  exact ⟨rfl, Below.refl _ _⟩
set_option maxRecDepth 20000 in
set_option maxHeartbeats 8000000 in
theorem ccmp_g (a b : Int) (w : World) (h2 : b < a) : Calls Tryz.prog 95 #[.int .i64 a, .int .i64 b] w fun en w' => en = .returned (.int .i64 (1)) ∧ Below w.heap.size w w' := by
  have h1 : ¬ a < b := by omega
  go_enter Tryz.func95, Tryz.ntmps95
  go_wp2_with fail
  refine (isnan_i a w).mono ?_
  rintro e2 v1 ⟨rfl, hw⟩
  obtain rfl := hw.symm
  clear hw
  go_wp2_with fail
  refine (isnan_i b w).mono ?_
  rintro e2 v1 ⟨rfl, hw⟩
  obtain rfl := hw.symm
  clear hw
  go_wp2_with fail
  go_ret
  exact ⟨rfl, Below.refl _ _⟩
set_option maxRecDepth 20000 in
set_option maxHeartbeats 8000000 in
theorem ccmp_e (a b : Int) (w : World) (h1 : ¬ a < b) (h2 : ¬ b < a) : Calls Tryz.prog 95 #[.int .i64 a, .int .i64 b] w fun en w' => en = .returned (.int .i64 (0)) ∧ Below w.heap.size w w' := by
  go_enter Tryz.func95, Tryz.ntmps95
  go_wp2_with fail
  refine (isnan_i a w).mono ?_
  rintro e2 v1 ⟨rfl, hw⟩
  obtain rfl := hw.symm
  clear hw
  go_wp2_with fail
  refine (isnan_i b w).mono ?_
  rintro e2 v1 ⟨rfl, hw⟩
  obtain rfl := hw.symm
  clear hw
  go_wp2_with fail
  go_ret
  exact ⟨rfl, Below.refl _ _⟩
theorem ccmp (a b : Int) (w : World) : Calls Tryz.prog 95 #[.int .i64 a, .int .i64 b] w fun en w' => en = .returned (.int .i64 (cmpI a b)) ∧ Below w.heap.size w w' := by
  unfold cmpI
  rcases Int.lt_trichotomy a b with h | h | h
  · rw [if_pos h]; exact ccmp_l a b w h
  · rw [if_neg (by omega), if_pos h]; exact ccmp_e a b w (by omega) (by omega)
  · rw [if_neg (by omega), if_neg (by omega)]; exact ccmp_g a b w h
set_option maxRecDepth 20000 in
set_option maxHeartbeats 8000000 in
theorem dtop {p : Option Addr} {m c : Nat} {w : World} {z e : Int} {s : Bool} (h : ZN w s p m c z) (he : -1048576 ≤ e ∧ e ≤ 1048576) :
    Calls Tryz.prog 96 #[DV s p m c e] w fun en w' => en = .returned (.int .i64 (topI z e)) ∧ Below w.heap.size w w' := by
  have H : Hid (ZN w s p m c z) := h
  have hb := (lim_bits z.natAbs).1 h.lim
  have f1 : wrap64 (e + bitsN z.natAbs) = e + bitsN z.natAbs := by simp only [wrap64]; omega
  have f2 : wrap64 (e + bitsN z.natAbs - 1) = topI z e := by unfold topI; simp only [wrap64]; omega
  have f3 : IntKind.i64.wrap (e + bitsN z.natAbs) = e + bitsN z.natAbs := by simp [IntKind.wrap, IntKind.signed, IntKind.bits]; omega
  have f4 : IntKind.i64.wrap (e + bitsN z.natAbs - 1) = topI z e := by unfold topI; simp [IntKind.wrap, IntKind.signed, IntKind.bits]; omega
  clear h he hb
  go_enter Tryz.func96, Tryz.ntmps96
  go_wp2_with fail
  obtain ⟨W0, hW0⟩ : ∃ W0, W0 = (w.alloc (.cells #[.bool s, .slice p m c, .int .i64 e] 34)) := ⟨_, rfl⟩
  have Xd : Hid (B3q W0 (w.heap.size) (.bool s) (.slice p m c) (.int .i64 e)) := by rw [hW0]; exact ⟨by go_simp, by go_simp, by go_simp, by go_simp, by go_simp, by go_simp⟩
  have hb0 : Below w.heap.size w W0 := by rw [hW0]; exact below1 w _
  rw [← hW0]
  clear hW0
  have hbw : Below w.heap.size w w := Below.refl _ _
  obtain ⟨gd, hgd⟩ : ∃ g, g = w.heap.size := ⟨_, rfl⟩
  have HGd : Hid (w.heap.size ≤ gd) := by rw [hgd]; show _ ≤ _; omega
  rw [← hgd] at Xd
  try rw [← hgd]
  clear hgd
  replace hbw := Below.on hbw hb0
  clear hb0
  obtain ⟨W1, hW1⟩ : ∃ W1, W1 = W0.drew := ⟨_, rfl⟩
  have hbd : Below W0.heap.size W0 W1 := by rw [hW1]; exact bDrew1 (Below.refl _ _)
  replace Xd : Hid _ := Xd.out.below hbd
  replace hbw := Below.on hbw hbd
  clear hbd
  have HJ : Hid ((fun W' : World => W'.cell? ⟨gd, 1, none⟩ = some (.slice p m c) ∧ W'.cell? ⟨gd, 2, none⟩ = some (.int .i64 e)) W1) := ⟨Xd.out.c1, Xd.out.c2⟩
  refine wp_region_J (fun W' => W'.cell? ⟨gd, 1, none⟩ = some (.slice p m c) ∧ W'.cell? ⟨gd, 2, none⟩ = some (.int .i64 e)) (by kernel_rfl) ?_
  rw [← hW1]
  clear hW1
  refine wpJ_take (i := 0) (v := ?v1x0) rfl (by kernel_rfl) (by kernel_rfl) (by kernel_rfl) (fun _ _ _ h => h) (by kernel_rfl) ?hy1x0 HJ.out ?rest1x0
  case hy1x0 => (intro W' hJ; obtain ⟨j0, j1⟩ := hJ; go_simp; first | done | with_reducible rfl)
  refine wpJ_take (i := 1) (v := ?v2x1) rfl (by kernel_rfl) (by kernel_rfl) (by kernel_rfl) (fun _ _ _ h => h) (by kernel_rfl) ?hy2x1 HJ.out ?rest2x1
  case hy2x1 => (intro W' hJ; obtain ⟨j0, j1⟩ := hJ; go_simp; first | done | with_reducible rfl)
  refine wpJ_take (i := 2) (v := ?v3x2) rfl (by kernel_rfl) (by kernel_rfl) (by kernel_rfl) (fun _ _ _ h => h) (by kernel_rfl) ?hy3x2 HJ.out ?rest3x2
  case hy3x2 => (intro W' hJ; obtain ⟨j0, j1⟩ := hJ; go_simp; first | done | with_reducible rfl)
  refine wpJ_take (i := 3) (v := ?v4x3) rfl (by kernel_rfl) (by kernel_rfl) (by kernel_rfl) (fun _ _ _ h => h) (by kernel_rfl) ?hy4x3 HJ.out ?rest4x3
  case hy4x3 => (intro W' hJ; obtain ⟨j0, j1⟩ := hJ; go_simp; first | done | with_reducible rfl)
  refine wpJ_take (i := 4) (v := ?v5x4) rfl (by kernel_rfl) (by kernel_rfl) (by kernel_rfl) (fun _ _ _ h => h) (by kernel_rfl) ?hy5x4 HJ.out ?rest5x4
  case hy5x4 => (intro W' hJ; obtain ⟨j0, j1⟩ := hJ; go_simp; first | done | with_reducible rfl)
  refine wpJ_one (i := 5) (by kernel_rfl) rfl (by kernel_rfl) (fun KJ hK => ?_)
  go_simp
  obtain ⟨xs, hX⟩ := (H.out.below hbw).ex
  refine (bits_any hX.at_ (by have := hX.le; omega)).mono ?_
  rintro e2 v3 ⟨rfl, hw⟩
  obtain rfl := hw.symm
  clear hw
  rw [hX.nf.val]
  clear hX
  clear HJ
  have HJ : Hid ((fun W' : World => W'.cell? ⟨gd, 1, none⟩ = some (.slice p m c) ∧ W'.cell? ⟨gd, 2, none⟩ = some (.int .i64 e)) W1) := ⟨Xd.out.c1, Xd.out.c2⟩
  refine hK _ _ HJ.out ?_
  clear hK
  refine wpJ_take (i := 6) (v := ?v6x6) rfl (by kernel_rfl) (by kernel_rfl) (by kernel_rfl) (fun _ _ _ h => h) (by kernel_rfl) ?hy6x6 HJ.out ?rest6x6
  case hy6x6 => (intro W' hJ; obtain ⟨j0, j1⟩ := hJ; go_simp; first | done | with_reducible rfl)
  refine wpJ_take (i := 7) (v := ?v7x7) rfl (by kernel_rfl) (by kernel_rfl) (by kernel_rfl) (fun _ _ _ h => h) (by kernel_rfl) ?hy7x7 HJ.out ?rest7x7
  case hy7x7 => (intro W' hJ; obtain ⟨j0, j1⟩ := hJ; go_simp; first | done | with_reducible rfl)
  refine wpJ_take (i := 8) (v := ?v8x8) rfl (by kernel_rfl) (by kernel_rfl) (by kernel_rfl) (fun _ _ _ h => h) (by kernel_rfl) ?hy8x8 HJ.out ?rest8x8
  case hy8x8 => (intro W' hJ; obtain ⟨j0, j1⟩ := hJ; go_simp; first | done | with_reducible rfl)
  refine wpJ_done (by kernel_rfl) ?_ _
  clear HJ
  go_wp2_with fail
  go_ret
  exact ⟨rfl, hbw⟩
set_option maxRecDepth 20000 in
set_option maxHeartbeats 8000000 in
theorem dcmp_d {p q : Option Addr} {m c n d : Nat} {w : World} {x y e f : Int} {s t : Bool} (h : DN w s p m c e x) (k : DN w t q n d f y) (hs : sgnI x ≠ sgnI y) :
    Calls Tryz.prog 51 #[DV s p m c e, DV t q n d f] w fun en w' => en = .returned (.tuple #[.int .i64 (cmpI (dv x e) (dv y f)), .int .i64 0]) ∧ Below w.heap.size w w' := by
  have H : Hid (DN w s p m c e x) := h
  have K : Hid (DN w t q n d f y) := k
  obtain ⟨r, hr⟩ : ∃ r, r = cmpI (dv x e) (dv y f) := ⟨_, rfl⟩
  rw [← hr]
  rw [← cmp_sgn (.inl hs)] at hr
  obtain ⟨sx, hsx⟩ : ∃ b, b = sgnI x := ⟨_, rfl⟩
  obtain ⟨sy, hsy⟩ : ∃ b, b = sgnI y := ⟨_, rfl⟩
  rw [← hsx, ← hsy] at hr hs
  have hd1 : (sx == sy) = false := by simp [hs]
  have hd2 : (sx != sy) = true := by simp [hs]
  have HX : Hid (sgnI x = sx ∧ sgnI y = sy ∧ cmpI sx sy = r) := ⟨hsx.symm, hsy.symm, hr.symm⟩
  clear h k hs hsx hsy hr
  go_enter Tryz.func51, Tryz.ntmps51
  go_wp2_with fail
  obtain ⟨W0, hW0⟩ : ∃ W0, W0 = ((w.alloc (.cells #[.bool s, .slice p m c, .int .i64 e] 34)).alloc (.cells #[.bool t, .slice q n d, .int .i64 f] 34)) := ⟨_, rfl⟩
  have Xa : Hid (B3q W0 (w.heap.size) (.bool s) (.slice p m c) (.int .i64 e)) := by rw [hW0]; exact ⟨by go_simp, by go_simp, by go_simp, by go_simp, by go_simp, by go_simp⟩
  have Xb : Hid (B3q W0 (w.heap.size + 1) (.bool t) (.slice q n d) (.int .i64 f)) := by rw [hW0]; exact ⟨by go_simp, by go_simp, by go_simp, by go_simp, by go_simp, by go_simp⟩
  have hb0 : Below w.heap.size w W0 := by rw [hW0]; exact below2 w _ _
  rw [← hW0]
  clear hW0
  have hbw : Below w.heap.size w w := Below.refl _ _
  obtain ⟨gb, hgb⟩ : ∃ g, g = w.heap.size + 1 := ⟨_, rfl⟩
  have HGb : Hid (w.heap.size ≤ gb) := by rw [hgb]; show _ ≤ _; omega
  rw [← hgb] at Xb
  try rw [← hgb]
  obtain ⟨ga, hga⟩ : ∃ g, g = w.heap.size := ⟨_, rfl⟩
  have HGa : Hid (w.heap.size ≤ ga) := by rw [hga]; show _ ≤ _; omega
  rw [← hga] at Xa
  try rw [← hga]
  have HGD : Hid (ga ≠ gb ∧ gb ≠ ga) := by rw [hga, hgb]; exact ⟨by omega, by omega⟩
  clear hga hgb
  replace hbw := Below.on hbw hb0
  clear hb0
  refine (dform_t (H.out.below hbw)).mono ?_
  rintro e v1 ⟨rfl, hb1⟩
  replace Xa : Hid _ := Xa.out.below hb1
  replace Xb : Hid _ := Xb.out.below hb1
  replace hbw := Below.on hbw hb1
  clear hb1
  obtain ⟨cb0, cb1, cb2, fb0, fb1, fb2⟩ := Xb.out
  have hneb : gb < v1.heap.size := World.block_lt_of_cell? v1 _ cb0
  go_wp2_with fail
  clear cb0 cb1 cb2 fb0 fb1 fb2 hneb
  refine (dform_t (K.out.below hbw)).mono ?_
  rintro e v2 ⟨rfl, hb2⟩
  replace Xa : Hid _ := Xa.out.below hb2
  replace Xb : Hid _ := Xb.out.below hb2
  replace hbw := Below.on hbw hb2
  clear hb2
  obtain ⟨ca0, ca1, ca2, fa0, fa1, fa2⟩ := Xa.out
  have hnea : ga < v2.heap.size := World.block_lt_of_cell? v2 _ ca0
  obtain ⟨cb0, cb1, cb2, fb0, fb1, fb2⟩ := Xb.out
  have hneb : gb < v2.heap.size := World.block_lt_of_cell? v2 _ cb0
  go_wp2_with fail
  clear ca0 ca1 ca2 fa0 fa1 fa2 hnea
  clear cb0 cb1 cb2 fb0 fb1 fb2 hneb
  refine (zsign (H.out.zn.below hbw)).mono ?_
  rintro e v3 ⟨rfl, hb3⟩
  rw [HX.out.1]
  replace Xa : Hid _ := Xa.out.below hb3
  replace Xb : Hid _ := Xb.out.below hb3
  replace hbw := Below.on hbw hb3
  clear hb3
  obtain ⟨cb0, cb1, cb2, fb0, fb1, fb2⟩ := Xb.out
  have hneb : gb < v3.heap.size := World.block_lt_of_cell? v3 _ cb0
  go_wp2_with fail
  clear cb0 cb1 cb2 fb0 fb1 fb2 hneb
  refine (zsign (K.out.zn.below hbw)).mono ?_
  rintro e v4 ⟨rfl, hb4⟩
  rw [HX.out.2.1]
  replace Xa : Hid _ := Xa.out.below hb4
  replace Xb : Hid _ := Xb.out.below hb4
  replace hbw := Below.on hbw hb4
  clear hb4
  obtain ⟨ca0, ca1, ca2, fa0, fa1, fa2⟩ := Xa.out
  have hnea : ga < v4.heap.size := World.block_lt_of_cell? v4 _ ca0
  obtain ⟨cb0, cb1, cb2, fb0, fb1, fb2⟩ := Xb.out
  have hneb : gb < v4.heap.size := World.block_lt_of_cell? v4 _ cb0
  go_wp2_with fail
  clear ca0 ca1 ca2 fa0 fa1 fa2 hnea
  clear cb0 cb1 cb2 fb0 fb1 fb2 hneb
  refine (ccmp _ _ _).mono ?_
  rintro e v5 ⟨rfl, hb5⟩
  rw [HX.out.2.2]
  replace Xa : Hid _ := Xa.out.below hb5
  replace Xb : Hid _ := Xb.out.below hb5
  replace hbw := Below.on hbw hb5
  clear hb5
  go_wp2_with fail
  go_ret2
  exact ⟨rfl, hbw⟩
set_option maxRecDepth 20000 in
set_option maxHeartbeats 8000000 in
theorem dcmp_z {p q : Option Addr} {m c n d : Nat} {w : World} {x y e f : Int} {s t : Bool} (h : DN w s p m c e x) (k : DN w t q n d f y) (hs : sgnI x = sgnI y) (hx : x = 0) :
    Calls Tryz.prog 51 #[DV s p m c e, DV t q n d f] w fun en w' => en = .returned (.tuple #[.int .i64 (cmpI (dv x e) (dv y f)), .int .i64 0]) ∧ Below w.heap.size w w' := by
  have H : Hid (DN w s p m c e x) := h
  have K : Hid (DN w t q n d f y) := k
  obtain ⟨r, hr⟩ : ∃ r, r = cmpI (dv x e) (dv y f) := ⟨_, rfl⟩
  rw [← hr]
  rw [← cmp_sgn (.inr (by rw [hx]; rfl))] at hr
  have HX : Hid (sgnI x = 0 ∧ sgnI y = 0 ∧ cmpI 0 0 = r) := by
    have h0 : sgnI x = 0 := by rw [hx]; rfl
    rw [h0] at hs hr
    exact ⟨h0, hs.symm, by rw [hr, ← hs]⟩
  clear h k hs hx hr
  go_enter Tryz.func51, Tryz.ntmps51
  go_wp2_with fail
  obtain ⟨W0, hW0⟩ : ∃ W0, W0 = ((w.alloc (.cells #[.bool s, .slice p m c, .int .i64 e] 34)).alloc (.cells #[.bool t, .slice q n d, .int .i64 f] 34)) := ⟨_, rfl⟩
  have Xa : Hid (B3q W0 (w.heap.size) (.bool s) (.slice p m c) (.int .i64 e)) := by rw [hW0]; exact ⟨by go_simp, by go_simp, by go_simp, by go_simp, by go_simp, by go_simp⟩
  have Xb : Hid (B3q W0 (w.heap.size + 1) (.bool t) (.slice q n d) (.int .i64 f)) := by rw [hW0]; exact ⟨by go_simp, by go_simp, by go_simp, by go_simp, by go_simp, by go_simp⟩
  have hb0 : Below w.heap.size w W0 := by rw [hW0]; exact below2 w _ _
  rw [← hW0]
  clear hW0
  have hbw : Below w.heap.size w w := Below.refl _ _
  obtain ⟨gb, hgb⟩ : ∃ g, g = w.heap.size + 1 := ⟨_, rfl⟩
  have HGb : Hid (w.heap.size ≤ gb) := by rw [hgb]; show _ ≤ _; omega
  rw [← hgb] at Xb
  try rw [← hgb]
  obtain ⟨ga, hga⟩ : ∃ g, g = w.heap.size := ⟨_, rfl⟩
  have HGa : Hid (w.heap.size ≤ ga) := by rw [hga]; show _ ≤ _; omega
  rw [← hga] at Xa
  try rw [← hga]
  have HGD : Hid (ga ≠ gb ∧ gb ≠ ga) := by rw [hga, hgb]; exact ⟨by omega, by omega⟩
  clear hga hgb
  replace hbw := Below.on hbw hb0
  clear hb0
  refine (dform_t (H.out.below hbw)).mono ?_
  rintro e v1 ⟨rfl, hb1⟩
  replace Xa : Hid _ := Xa.out.below hb1
  replace Xb : Hid _ := Xb.out.below hb1
  replace hbw := Below.on hbw hb1
  clear hb1
  obtain ⟨cb0, cb1, cb2, fb0, fb1, fb2⟩ := Xb.out
  have hneb : gb < v1.heap.size := World.block_lt_of_cell? v1 _ cb0
  go_wp2_with fail
  clear cb0 cb1 cb2 fb0 fb1 fb2 hneb
  refine (dform_t (K.out.below hbw)).mono ?_
  rintro e v2 ⟨rfl, hb2⟩
  replace Xa : Hid _ := Xa.out.below hb2
  replace Xb : Hid _ := Xb.out.below hb2
  replace hbw := Below.on hbw hb2
  clear hb2
  obtain ⟨ca0, ca1, ca2, fa0, fa1, fa2⟩ := Xa.out
  have hnea : ga < v2.heap.size := World.block_lt_of_cell? v2 _ ca0
  obtain ⟨cb0, cb1, cb2, fb0, fb1, fb2⟩ := Xb.out
  have hneb : gb < v2.heap.size := World.block_lt_of_cell? v2 _ cb0
  go_wp2_with fail
  clear ca0 ca1 ca2 fa0 fa1 fa2 hnea
  clear cb0 cb1 cb2 fb0 fb1 fb2 hneb
  refine (zsign (H.out.zn.below hbw)).mono ?_
  rintro e v3 ⟨rfl, hb3⟩
  rw [HX.out.1]
  replace Xa : Hid _ := Xa.out.below hb3
  replace Xb : Hid _ := Xb.out.below hb3
  replace hbw := Below.on hbw hb3
  clear hb3
  obtain ⟨cb0, cb1, cb2, fb0, fb1, fb2⟩ := Xb.out
  have hneb : gb < v3.heap.size := World.block_lt_of_cell? v3 _ cb0
  go_wp2_with fail
  clear cb0 cb1 cb2 fb0 fb1 fb2 hneb
  refine (zsign (K.out.zn.below hbw)).mono ?_
  rintro e v4 ⟨rfl, hb4⟩
  rw [HX.out.2.1]
  replace Xa : Hid _ := Xa.out.below hb4
  replace Xb : Hid _ := Xb.out.below hb4
  replace hbw := Below.on hbw hb4
  clear hb4
  obtain ⟨ca0, ca1, ca2, fa0, fa1, fa2⟩ := Xa.out
  have hnea : ga < v4.heap.size := World.block_lt_of_cell? v4 _ ca0
  obtain ⟨cb0, cb1, cb2, fb0, fb1, fb2⟩ := Xb.out
  have hneb : gb < v4.heap.size := World.block_lt_of_cell? v4 _ cb0
  go_wp2_with fail
  clear ca0 ca1 ca2 fa0 fa1 fa2 hnea
  clear cb0 cb1 cb2 fb0 fb1 fb2 hneb
  refine (ccmp _ _ _).mono ?_
  rintro e v5 ⟨rfl, hb5⟩
  rw [HX.out.2.2]
  replace Xa : Hid _ := Xa.out.below hb5
  replace Xb : Hid _ := Xb.out.below hb5
  replace hbw := Below.on hbw hb5
  clear hb5
  go_wp2_with fail
  go_ret2
  exact ⟨rfl, hbw⟩
set_option maxRecDepth 20000 in
set_option maxHeartbeats 8000000 in
theorem dcmp_t {p q : Option Addr} {m c n d : Nat} {w : World} {x y e f : Int} {s t : Bool} (h : DN w s p m c e x) (k : DN w t q n d f y) (hs : sgnI x = sgnI y) (hx : x ≠ 0) (ht : topI x e ≠ topI y f) :
    Calls Tryz.prog 51 #[DV s p m c e, DV t q n d f] w fun en w' => en = .returned (.tuple #[.int .i64 (cmpI (dv x e) (dv y f)), .int .i64 0]) ∧ Below w.heap.size w w' := by
  have H : Hid (DN w s p m c e x) := h
  have K : Hid (DN w t q n d f y) := k
  have hy : y ≠ 0 := by
    intro h0
    rw [h0] at hs
    unfold sgnI at hs
    rw [if_neg (show ¬ (0 : Int) < 0 by omega), if_pos rfl] at hs
    rcases Int.lt_or_lt_of_ne hx with h1 | h1
    · rw [if_pos h1] at hs; omega
    · rw [if_neg (by omega), if_neg (by omega)] at hs; omega
  have hE : -1048576 ≤ e ∧ e ≤ 1048576 ∧ -1048576 ≤ f ∧ f ≤ 1048576 := by
    rcases h.fm with ⟨h1, _⟩ | ⟨_, h1, h2⟩
    · exact absurd h1 hx
    · rcases k.fm with ⟨k1, _⟩ | ⟨_, k1, k2⟩
      · exact absurd k1 hy
      · exact ⟨h1, h2, k1, k2⟩
  have HE : Hid (-1048576 ≤ e ∧ e ≤ 1048576 ∧ -1048576 ≤ f ∧ f ≤ 1048576) := hE
  have hbx := (lim_bits x.natAbs).1 h.zn.lim
  have hby := (lim_bits y.natAbs).1 k.zn.lim
  obtain ⟨r, hr⟩ : ∃ r, r = cmpI (dv x e) (dv y f) := ⟨_, rfl⟩
  rw [← hr]
  obtain ⟨sx, hsx⟩ : ∃ b, b = sgnI x := ⟨_, rfl⟩
  have hv1 : sx = 1 ∨ sx = -1 := by
    rw [hsx]
    unfold sgnI
    rcases Int.lt_or_lt_of_ne hx with h1 | h1
    · rw [if_pos h1]; exact .inr rfl
    · rw [if_neg (by omega), if_neg (by omega)]; exact .inl rfl
  have hd0 : (sx == 0) = false := by rcases hv1 with h1 | h1 <;> rw [h1] <;> rfl
  have hd1 : (sx == sx) = true := by simp
  have hd2 : (sx != sx) = false := by simp
  rw [← cmp_top hx hs (by omega) (by omega) ht, ← hsx] at hr
  have HX : Hid (sgnI x = sx ∧ sgnI y = sx ∧ sx * cmpI (topI x e) (topI y f) = r ∧ (sx = 1 ∨ sx = -1)) := ⟨hsx.symm, by rw [← hs, hsx], hr.symm, hv1⟩
  obtain ⟨tx, htx⟩ : ∃ b, b = topI x e := ⟨_, rfl⟩
  obtain ⟨ty, hty⟩ : ∃ b, b = topI y f := ⟨_, rfl⟩
  rw [← htx, ← hty] at HX ht
  have hd3 : (tx == ty) = false := by simp [ht]
  have hd4 : (tx != ty) = true := by simp [ht]
  have HTX : Hid (topI x e = tx ∧ topI y f = ty) := ⟨htx.symm, hty.symm⟩
  have f1 : wrap64 (sx * cmpI tx ty) = r := by
    have h1 := HX.out.2.2.1
    rw [h1]
    have h2 : r = -1 ∨ r = 0 ∨ r = 1 := by
      rw [← h1]
      unfold cmpI
      rcases HX.out.2.2.2 with h3 | h3 <;> rw [h3] <;> split <;> (try split) <;> omega
    simp only [wrap64]; omega
  clear h k hs hx hy hE hsx hv1 hr ht htx hty hbx hby
  go_enter Tryz.func51, Tryz.ntmps51
  go_wp2_with fail
  obtain ⟨W0, hW0⟩ : ∃ W0, W0 = ((w.alloc (.cells #[.bool s, .slice p m c, .int .i64 e] 34)).alloc (.cells #[.bool t, .slice q n d, .int .i64 f] 34)) := ⟨_, rfl⟩
  have Xa : Hid (B3q W0 (w.heap.size) (.bool s) (.slice p m c) (.int .i64 e)) := by rw [hW0]; exact ⟨by go_simp, by go_simp, by go_simp, by go_simp, by go_simp, by go_simp⟩
  have Xb : Hid (B3q W0 (w.heap.size + 1) (.bool t) (.slice q n d) (.int .i64 f)) := by rw [hW0]; exact ⟨by go_simp, by go_simp, by go_simp, by go_simp, by go_simp, by go_simp⟩
  have hb0 : Below w.heap.size w W0 := by rw [hW0]; exact below2 w _ _
  rw [← hW0]
  clear hW0
  have hbw : Below w.heap.size w w := Below.refl _ _
  obtain ⟨gb, hgb⟩ : ∃ g, g = w.heap.size + 1 := ⟨_, rfl⟩
  have HGb : Hid (w.heap.size ≤ gb) := by rw [hgb]; show _ ≤ _; omega
  rw [← hgb] at Xb
  try rw [← hgb]
  obtain ⟨ga, hga⟩ : ∃ g, g = w.heap.size := ⟨_, rfl⟩
  have HGa : Hid (w.heap.size ≤ ga) := by rw [hga]; show _ ≤ _; omega
  rw [← hga] at Xa
  try rw [← hga]
  have HGD : Hid (ga ≠ gb ∧ gb ≠ ga) := by rw [hga, hgb]; exact ⟨by omega, by omega⟩
  clear hga hgb
  replace hbw := Below.on hbw hb0
  clear hb0
  refine (dform_t (H.out.below hbw)).mono ?_
  rintro e v1 ⟨rfl, hb1⟩
  replace Xa : Hid _ := Xa.out.below hb1
  replace Xb : Hid _ := Xb.out.below hb1
  replace hbw := Below.on hbw hb1
  clear hb1
  obtain ⟨cb0, cb1, cb2, fb0, fb1, fb2⟩ := Xb.out
  have hneb : gb < v1.heap.size := World.block_lt_of_cell? v1 _ cb0
  go_wp2_with fail
  clear cb0 cb1 cb2 fb0 fb1 fb2 hneb
  refine (dform_t (K.out.below hbw)).mono ?_
  rintro e v2 ⟨rfl, hb2⟩
  replace Xa : Hid _ := Xa.out.below hb2
  replace Xb : Hid _ := Xb.out.below hb2
  replace hbw := Below.on hbw hb2
  clear hb2
  obtain ⟨ca0, ca1, ca2, fa0, fa1, fa2⟩ := Xa.out
  have hnea : ga < v2.heap.size := World.block_lt_of_cell? v2 _ ca0
  obtain ⟨cb0, cb1, cb2, fb0, fb1, fb2⟩ := Xb.out
  have hneb : gb < v2.heap.size := World.block_lt_of_cell? v2 _ cb0
  go_wp2_with fail
  clear ca0 ca1 ca2 fa0 fa1 fa2 hnea
  clear cb0 cb1 cb2 fb0 fb1 fb2 hneb
  refine (zsign (H.out.zn.below hbw)).mono ?_
  rintro e v3 ⟨rfl, hb3⟩
  rw [HX.out.1]
  replace Xa : Hid _ := Xa.out.below hb3
  replace Xb : Hid _ := Xb.out.below hb3
  replace hbw := Below.on hbw hb3
  clear hb3
  obtain ⟨cb0, cb1, cb2, fb0, fb1, fb2⟩ := Xb.out
  have hneb : gb < v3.heap.size := World.block_lt_of_cell? v3 _ cb0
  go_wp2_with fail
  clear cb0 cb1 cb2 fb0 fb1 fb2 hneb
  refine (zsign (K.out.zn.below hbw)).mono ?_
  rintro e v4 ⟨rfl, hb4⟩
  rw [HX.out.2.1]
  replace Xa : Hid _ := Xa.out.below hb4
  replace Xb : Hid _ := Xb.out.below hb4
  replace hbw := Below.on hbw hb4
  clear hb4
  obtain ⟨ca0, ca1, ca2, fa0, fa1, fa2⟩ := Xa.out
  have hnea : ga < v4.heap.size := World.block_lt_of_cell? v4 _ ca0
  obtain ⟨cb0, cb1, cb2, fb0, fb1, fb2⟩ := Xb.out
  have hneb : gb < v4.heap.size := World.block_lt_of_cell? v4 _ cb0
  go_wp2_with fail
  clear ca0 ca1 ca2 fa0 fa1 fa2 hnea
  clear cb0 cb1 cb2 fb0 fb1 fb2 hneb
  obtain ⟨W1, hW1⟩ : ∃ W1, W1 = v4.drew := ⟨_, rfl⟩
  have hbd : Below v4.heap.size v4 W1 := by rw [hW1]; exact bDrew1 (Below.refl _ _)
  replace Xa : Hid _ := Xa.out.below hbd
  replace Xb : Hid _ := Xb.out.below hbd
  replace hbw := Below.on hbw hbd
  clear hbd
  have HJ : Hid ((fun W' : World => W'.cell? ⟨ga, 0, none⟩ = some (.bool s) ∧ W'.cell? ⟨ga, 1, none⟩ = some (.slice p m c) ∧ W'.cell? ⟨ga, 2, none⟩ = some (.int .i64 e) ∧ W'.cell? ⟨gb, 0, none⟩ = some (.bool t) ∧ W'.cell? ⟨gb, 1, none⟩ = some (.slice q n d) ∧ W'.cell? ⟨gb, 2, none⟩ = some (.int .i64 f)) W1) := ⟨Xa.out.c0, Xa.out.c1, Xa.out.c2, Xb.out.c0, Xb.out.c1, Xb.out.c2⟩
  refine wp_region_J (fun W' => W'.cell? ⟨ga, 0, none⟩ = some (.bool s) ∧ W'.cell? ⟨ga, 1, none⟩ = some (.slice p m c) ∧ W'.cell? ⟨ga, 2, none⟩ = some (.int .i64 e) ∧ W'.cell? ⟨gb, 0, none⟩ = some (.bool t) ∧ W'.cell? ⟨gb, 1, none⟩ = some (.slice q n d) ∧ W'.cell? ⟨gb, 2, none⟩ = some (.int .i64 f)) (by kernel_rfl) ?_
  rw [← hW1]
  clear hW1
  refine wpJ_take (i := 0) (v := ?v9x0) rfl (by kernel_rfl) (by kernel_rfl) (by kernel_rfl) (fun _ _ _ h => h) (by kernel_rfl) ?hy9x0 HJ.out ?rest9x0
  case hy9x0 => (intro W' hJ; obtain ⟨j0, j1, j2, j3, j4, j5⟩ := hJ; go_simp; first | done | with_reducible rfl)
  refine wpJ_take (i := 2) (v := ?v10x2) rfl (by kernel_rfl) (by kernel_rfl) (by kernel_rfl) (fun _ _ _ h => h) (by kernel_rfl) ?hy10x2 HJ.out ?rest10x2
  case hy10x2 => (intro W' hJ; obtain ⟨j0, j1, j2, j3, j4, j5⟩ := hJ; go_simp; first | done | with_reducible rfl)
  refine wpJ_one (i := 1) (by kernel_rfl) rfl (by kernel_rfl) (fun KJ hK => ?_)
  go_simp
  refine (dtop (e := e) (H.out.zn.below hbw) (by have := HE.out; omega)).mono ?_
  rintro e v5 ⟨rfl, hb5⟩
  rw [HTX.out.1]
  replace Xa : Hid _ := Xa.out.below hb5
  replace Xb : Hid _ := Xb.out.below hb5
  replace hbw := Below.on hbw hb5
  clear hb5
  refine hK _ _ ⟨Xa.out.c0, Xa.out.c1, Xa.out.c2, Xb.out.c0, Xb.out.c1, Xb.out.c2⟩ ?_
  clear hK
  refine wpJ_one (i := 3) (by kernel_rfl) rfl (by kernel_rfl) (fun KJ hK => ?_)
  go_simp
  refine (dtop (e := f) (K.out.zn.below hbw) (by have := HE.out; omega)).mono ?_
  rintro e v6 ⟨rfl, hb6⟩
  rw [HTX.out.2]
  replace Xa : Hid _ := Xa.out.below hb6
  replace Xb : Hid _ := Xb.out.below hb6
  replace hbw := Below.on hbw hb6
  clear hb6
  clear HJ
  have HJ : Hid ((fun W' : World => W'.cell? ⟨ga, 0, none⟩ = some (.bool s) ∧ W'.cell? ⟨ga, 1, none⟩ = some (.slice p m c) ∧ W'.cell? ⟨ga, 2, none⟩ = some (.int .i64 e) ∧ W'.cell? ⟨gb, 0, none⟩ = some (.bool t) ∧ W'.cell? ⟨gb, 1, none⟩ = some (.slice q n d) ∧ W'.cell? ⟨gb, 2, none⟩ = some (.int .i64 f)) v6) := ⟨Xa.out.c0, Xa.out.c1, Xa.out.c2, Xb.out.c0, Xb.out.c1, Xb.out.c2⟩
  refine hK _ _ HJ.out ?_
  clear hK
  refine wpJ_take (i := 4) (v := ?v11x4) rfl (by kernel_rfl) (by kernel_rfl) (by kernel_rfl) (fun _ _ _ h => h) (by kernel_rfl) ?hy11x4 HJ.out ?rest11x4
  case hy11x4 => (intro W' hJ; obtain ⟨j0, j1, j2, j3, j4, j5⟩ := hJ; go_simp; first | done | with_reducible rfl)
  refine wpJ_take (i := 5) (v := ?v12x5) rfl (by kernel_rfl) (by kernel_rfl) (by kernel_rfl) (fun _ _ _ h => h) (by kernel_rfl) ?hy12x5 HJ.out ?rest12x5
  case hy12x5 => (intro W' hJ; obtain ⟨j0, j1, j2, j3, j4, j5⟩ := hJ; go_simp; first | done | with_reducible rfl)
  refine wpJ_done (by kernel_rfl) ?_ _
  clear HJ
  obtain ⟨ca0, ca1, ca2, fa0, fa1, fa2⟩ := Xa.out
  have hnea : ga < v6.heap.size := World.block_lt_of_cell? v6 _ ca0
  obtain ⟨cb0, cb1, cb2, fb0, fb1, fb2⟩ := Xb.out
  have hneb : gb < v6.heap.size := World.block_lt_of_cell? v6 _ cb0
  go_wp2_with fail
  clear ca0 ca1 ca2 fa0 fa1 fa2 hnea
  clear cb0 cb1 cb2 fb0 fb1 fb2 hneb
  refine (ccmp _ _ _).mono ?_
  rintro e v7 ⟨rfl, hb7⟩
  replace Xa : Hid _ := Xa.out.below hb7
  replace Xb : Hid _ := Xb.out.below hb7
  replace hbw := Below.on hbw hb7
  clear hb7
  have F1 : Hid (wrap64 (sx * cmpI tx ty) = r) := f1
  clear f1
  go_wp2_with fail
  go_ret2
  refine ⟨?_, hbw⟩
  show Ending.returned (.tuple #[.int .i64 (wrap64 (sx * cmpI tx ty)), .int .i64 0]) = _
  rw [F1.out]
set_option maxRecDepth 20000 in
set_option maxHeartbeats 8000000 in
theorem dcmp_a {p q : Option Addr} {m c n d : Nat} {w : World} {x y e f : Int} {s t : Bool} (h : DN w s p m c e x) (k : DN w t q n d f y) (hs : sgnI x = sgnI y) (hx : x ≠ 0) (ht : topI x e = topI y f) :
    Calls Tryz.prog 51 #[DV s p m c e, DV t q n d f] w fun en w' => en = .returned (.tuple #[.int .i64 (cmpI (dv x e) (dv y f)), .int .i64 0]) ∧ Below w.heap.size w w' := by
  have H : Hid (DN w s p m c e x) := h
  have K : Hid (DN w t q n d f y) := k
  have hy : y ≠ 0 := by
    intro h0
    rw [h0] at hs
    unfold sgnI at hs
    rw [if_neg (show ¬ (0 : Int) < 0 by omega), if_pos rfl] at hs
    rcases Int.lt_or_lt_of_ne hx with h1 | h1
    · rw [if_pos h1] at hs; omega
    · rw [if_neg (by omega), if_neg (by omega)] at hs; omega
  have hE : -1048576 ≤ e ∧ e ≤ 1048576 ∧ -1048576 ≤ f ∧ f ≤ 1048576 := by
    rcases h.fm with ⟨h1, _⟩ | ⟨_, h1, h2⟩
    · exact absurd h1 hx
    · rcases k.fm with ⟨k1, _⟩ | ⟨_, k1, k2⟩
      · exact absurd k1 hy
      · exact ⟨h1, h2, k1, k2⟩
  have HE : Hid (-1048576 ≤ e ∧ e ≤ 1048576 ∧ -1048576 ≤ f ∧ f ≤ 1048576) := hE
  have hbx := (lim_bits x.natAbs).1 h.zn.lim
  have hby := (lim_bits y.natAbs).1 k.zn.lim
  obtain ⟨r, hr⟩ : ∃ r, r = cmpI (dv x e) (dv y f) := ⟨_, rfl⟩
  rw [← hr]
  obtain ⟨sx, hsx⟩ : ∃ b, b = sgnI x := ⟨_, rfl⟩
  have hv1 : sx = 1 ∨ sx = -1 := by
    rw [hsx]
    unfold sgnI
    rcases Int.lt_or_lt_of_ne hx with h1 | h1
    · rw [if_pos h1]; exact .inr rfl
    · rw [if_neg (by omega), if_neg (by omega)]; exact .inl rfl
  have hd0 : (sx == 0) = false := by rcases hv1 with h1 | h1 <;> rw [h1] <;> rfl
  have hd1 : (sx == sx) = true := by simp
  have hd2 : (sx != sx) = false := by simp
  obtain ⟨g, hg⟩ : ∃ g, g = min e f := ⟨_, rfl⟩
  rw [← cmp_same (g := g) (by omega) (by omega) (by omega)] at hr
  have HX : Hid (sgnI x = sx ∧ sgnI y = sx ∧ cmpI (x * 2 ^ (e - g).toNat) (y * 2 ^ (f - g).toNat) = r) := ⟨hsx.symm, by rw [← hs, hsx], hr.symm⟩
  obtain ⟨tx, htx⟩ : ∃ b, b = topI x e := ⟨_, rfl⟩
  have HTX : Hid (topI x e = tx ∧ topI y f = tx) := ⟨htx.symm, by rw [← ht, htx]⟩
  have hd3 : (tx == tx) = true := by simp
  have hd4 : (tx != tx) = false := by simp
  have HG : Hid (g = min e f) := hg
  have hb : ∀ (u v : Int) (k2 : Nat), u ≠ 0 → bitsN u.natAbs + k2 ≤ 524288 → (u * 2 ^ k2).natAbs < LIM := by
    intro u v k2 h0 h1
    rw [Int.natAbs_mul, pow_cast, Int.natAbs_natCast, lim_bits, Nat.mul_comm, bitsN_shl _ _ (by omega)]
    omega
  have HB : Hid ((x * 2 ^ (e - g).toNat).natAbs < LIM ∧ (y * 2 ^ (f - g).toNat).natAbs < LIM) := by
    unfold topI at ht
    exact ⟨hb x x _ hx (by omega), hb y y _ hy (by omega)⟩
  clear h k hs hx hy hE hsx hv1 hr ht htx hbx hby hg hb
  go_enter Tryz.func51, Tryz.ntmps51
  go_wp2_with fail
  obtain ⟨W0, hW0⟩ : ∃ W0, W0 = ((w.alloc (.cells #[.bool s, .slice p m c, .int .i64 e] 34)).alloc (.cells #[.bool t, .slice q n d, .int .i64 f] 34)) := ⟨_, rfl⟩
  have Xa : Hid (B3q W0 (w.heap.size) (.bool s) (.slice p m c) (.int .i64 e)) := by rw [hW0]; exact ⟨by go_simp, by go_simp, by go_simp, by go_simp, by go_simp, by go_simp⟩
  have Xb : Hid (B3q W0 (w.heap.size + 1) (.bool t) (.slice q n d) (.int .i64 f)) := by rw [hW0]; exact ⟨by go_simp, by go_simp, by go_simp, by go_simp, by go_simp, by go_simp⟩
  have hb0 : Below w.heap.size w W0 := by rw [hW0]; exact below2 w _ _
  rw [← hW0]
  clear hW0
  have hbw : Below w.heap.size w w := Below.refl _ _
  obtain ⟨gb, hgb⟩ : ∃ g, g = w.heap.size + 1 := ⟨_, rfl⟩
  have HGb : Hid (w.heap.size ≤ gb) := by rw [hgb]; show _ ≤ _; omega
  rw [← hgb] at Xb
  try rw [← hgb]
  obtain ⟨ga, hga⟩ : ∃ g, g = w.heap.size := ⟨_, rfl⟩
  have HGa : Hid (w.heap.size ≤ ga) := by rw [hga]; show _ ≤ _; omega
  rw [← hga] at Xa
  try rw [← hga]
  have HGD : Hid (ga ≠ gb ∧ gb ≠ ga) := by rw [hga, hgb]; exact ⟨by omega, by omega⟩
  clear hga hgb
  replace hbw := Below.on hbw hb0
  clear hb0
  refine (dform_t (H.out.below hbw)).mono ?_
  rintro e v1 ⟨rfl, hb1⟩
  replace Xa : Hid _ := Xa.out.below hb1
  replace Xb : Hid _ := Xb.out.below hb1
  replace hbw := Below.on hbw hb1
  clear hb1
  obtain ⟨cb0, cb1, cb2, fb0, fb1, fb2⟩ := Xb.out
  have hneb : gb < v1.heap.size := World.block_lt_of_cell? v1 _ cb0
  go_wp2_with fail
  clear cb0 cb1 cb2 fb0 fb1 fb2 hneb
  refine (dform_t (K.out.below hbw)).mono ?_
  rintro e v2 ⟨rfl, hb2⟩
  replace Xa : Hid _ := Xa.out.below hb2
  replace Xb : Hid _ := Xb.out.below hb2
  replace hbw := Below.on hbw hb2
  clear hb2
  obtain ⟨ca0, ca1, ca2, fa0, fa1, fa2⟩ := Xa.out
  have hnea : ga < v2.heap.size := World.block_lt_of_cell? v2 _ ca0
  obtain ⟨cb0, cb1, cb2, fb0, fb1, fb2⟩ := Xb.out
  have hneb : gb < v2.heap.size := World.block_lt_of_cell? v2 _ cb0
  go_wp2_with fail
  clear ca0 ca1 ca2 fa0 fa1 fa2 hnea
  clear cb0 cb1 cb2 fb0 fb1 fb2 hneb
  refine (zsign (H.out.zn.below hbw)).mono ?_
  rintro e v3 ⟨rfl, hb3⟩
  rw [HX.out.1]
  replace Xa : Hid _ := Xa.out.below hb3
  replace Xb : Hid _ := Xb.out.below hb3
  replace hbw := Below.on hbw hb3
  clear hb3
  obtain ⟨cb0, cb1, cb2, fb0, fb1, fb2⟩ := Xb.out
  have hneb : gb < v3.heap.size := World.block_lt_of_cell? v3 _ cb0
  go_wp2_with fail
  clear cb0 cb1 cb2 fb0 fb1 fb2 hneb
  refine (zsign (K.out.zn.below hbw)).mono ?_
  rintro e v4 ⟨rfl, hb4⟩
  rw [HX.out.2.1]
  replace Xa : Hid _ := Xa.out.below hb4
  replace Xb : Hid _ := Xb.out.below hb4
  replace hbw := Below.on hbw hb4
  clear hb4
  obtain ⟨ca0, ca1, ca2, fa0, fa1, fa2⟩ := Xa.out
  have hnea : ga < v4.heap.size := World.block_lt_of_cell? v4 _ ca0
  obtain ⟨cb0, cb1, cb2, fb0, fb1, fb2⟩ := Xb.out
  have hneb : gb < v4.heap.size := World.block_lt_of_cell? v4 _ cb0
  go_wp2_with fail
  clear ca0 ca1 ca2 fa0 fa1 fa2 hnea
  clear cb0 cb1 cb2 fb0 fb1 fb2 hneb
  obtain ⟨W1, hW1⟩ : ∃ W1, W1 = v4.drew := ⟨_, rfl⟩
  have hbd : Below v4.heap.size v4 W1 := by rw [hW1]; exact bDrew1 (Below.refl _ _)
  replace Xa : Hid _ := Xa.out.below hbd
  replace Xb : Hid _ := Xb.out.below hbd
  replace hbw := Below.on hbw hbd
  clear hbd
  have HJ : Hid ((fun W' : World => W'.cell? ⟨ga, 0, none⟩ = some (.bool s) ∧ W'.cell? ⟨ga, 1, none⟩ = some (.slice p m c) ∧ W'.cell? ⟨ga, 2, none⟩ = some (.int .i64 e) ∧ W'.cell? ⟨gb, 0, none⟩ = some (.bool t) ∧ W'.cell? ⟨gb, 1, none⟩ = some (.slice q n d) ∧ W'.cell? ⟨gb, 2, none⟩ = some (.int .i64 f)) W1) := ⟨Xa.out.c0, Xa.out.c1, Xa.out.c2, Xb.out.c0, Xb.out.c1, Xb.out.c2⟩
  refine wp_region_J (fun W' => W'.cell? ⟨ga, 0, none⟩ = some (.bool s) ∧ W'.cell? ⟨ga, 1, none⟩ = some (.slice p m c) ∧ W'.cell? ⟨ga, 2, none⟩ = some (.int .i64 e) ∧ W'.cell? ⟨gb, 0, none⟩ = some (.bool t) ∧ W'.cell? ⟨gb, 1, none⟩ = some (.slice q n d) ∧ W'.cell? ⟨gb, 2, none⟩ = some (.int .i64 f)) (by kernel_rfl) ?_
  rw [← hW1]
  clear hW1
  refine wpJ_take (i := 0) (v := ?v13x0) rfl (by kernel_rfl) (by kernel_rfl) (by kernel_rfl) (fun _ _ _ h => h) (by kernel_rfl) ?hy13x0 HJ.out ?rest13x0
  case hy13x0 => (intro W' hJ; obtain ⟨j0, j1, j2, j3, j4, j5⟩ := hJ; go_simp; first | done | with_reducible rfl)
  refine wpJ_take (i := 2) (v := ?v14x2) rfl (by kernel_rfl) (by kernel_rfl) (by kernel_rfl) (fun _ _ _ h => h) (by kernel_rfl) ?hy14x2 HJ.out ?rest14x2
  case hy14x2 => (intro W' hJ; obtain ⟨j0, j1, j2, j3, j4, j5⟩ := hJ; go_simp; first | done | with_reducible rfl)
  refine wpJ_one (i := 1) (by kernel_rfl) rfl (by kernel_rfl) (fun KJ hK => ?_)
  go_simp
  refine (dtop (e := e) (H.out.zn.below hbw) (by have := HE.out; omega)).mono ?_
  rintro e v5 ⟨rfl, hb5⟩
  rw [HTX.out.1]
  replace Xa : Hid _ := Xa.out.below hb5
  replace Xb : Hid _ := Xb.out.below hb5
  replace hbw := Below.on hbw hb5
  clear hb5
  refine hK _ _ ⟨Xa.out.c0, Xa.out.c1, Xa.out.c2, Xb.out.c0, Xb.out.c1, Xb.out.c2⟩ ?_
  clear hK
  refine wpJ_one (i := 3) (by kernel_rfl) rfl (by kernel_rfl) (fun KJ hK => ?_)
  go_simp
  refine (dtop (e := f) (K.out.zn.below hbw) (by have := HE.out; omega)).mono ?_
  rintro e v6 ⟨rfl, hb6⟩
  rw [HTX.out.2]
  replace Xa : Hid _ := Xa.out.below hb6
  replace Xb : Hid _ := Xb.out.below hb6
  replace hbw := Below.on hbw hb6
  clear hb6
  clear HJ
  have HJ : Hid ((fun W' : World => W'.cell? ⟨ga, 0, none⟩ = some (.bool s) ∧ W'.cell? ⟨ga, 1, none⟩ = some (.slice p m c) ∧ W'.cell? ⟨ga, 2, none⟩ = some (.int .i64 e) ∧ W'.cell? ⟨gb, 0, none⟩ = some (.bool t) ∧ W'.cell? ⟨gb, 1, none⟩ = some (.slice q n d) ∧ W'.cell? ⟨gb, 2, none⟩ = some (.int .i64 f)) v6) := ⟨Xa.out.c0, Xa.out.c1, Xa.out.c2, Xb.out.c0, Xb.out.c1, Xb.out.c2⟩
  refine hK _ _ HJ.out ?_
  clear hK
  refine wpJ_take (i := 4) (v := ?v15x4) rfl (by kernel_rfl) (by kernel_rfl) (by kernel_rfl) (fun _ _ _ h => h) (by kernel_rfl) ?hy15x4 HJ.out ?rest15x4
  case hy15x4 => (intro W' hJ; obtain ⟨j0, j1, j2, j3, j4, j5⟩ := hJ; go_simp; first | done | with_reducible rfl)
  refine wpJ_take (i := 5) (v := ?v16x5) rfl (by kernel_rfl) (by kernel_rfl) (by kernel_rfl) (fun _ _ _ h => h) (by kernel_rfl) ?hy16x5 HJ.out ?rest16x5
  case hy16x5 => (intro W' hJ; obtain ⟨j0, j1, j2, j3, j4, j5⟩ := hJ; go_simp; first | done | with_reducible rfl)
  refine wpJ_done (by kernel_rfl) ?_ _
  clear HJ
  obtain ⟨ca0, ca1, ca2, fa0, fa1, fa2⟩ := Xa.out
  have hnea : ga < v6.heap.size := World.block_lt_of_cell? v6 _ ca0
  obtain ⟨cb0, cb1, cb2, fb0, fb1, fb2⟩ := Xb.out
  have hneb : gb < v6.heap.size := World.block_lt_of_cell? v6 _ cb0
  go_wp2_with fail
  clear ca0 ca1 ca2 fa0 fa1 fa2 hnea
  clear cb0 cb1 cb2 fb0 fb1 fb2 hneb
  refine (daligned (H.out.zn.below hbw) (K.out.zn.below hbw) HG.out HE.out HB.out.1 HB.out.2).mono ?_
  rintro e2 v8 ⟨s5, p5, m5, s6, p6, m6, rfl, hz5, hz6, hb5⟩
  replace Xa : Hid _ := Xa.out.below hb5
  replace Xb : Hid _ := Xb.out.below hb5
  replace hbw := Below.on hbw hb5
  clear hb5
  have Z5 : Hid (ZN v8 s5 p5 m5 m5 (x * 2 ^ (e - g).toNat)) := hz5
  have Z6 : Hid (ZN v8 s6 p6 m6 m6 (y * 2 ^ (f - g).toNat)) := hz6
  clear hz5 hz6
  go_wp2_with fail
  rw [show v8.heap.size + 1 = (v8.alloc (.cells #[.bool s5, .slice p5 m5 m5] 32)).heap.size from by simp]
  have Xx0 : Hid (Box (v8.alloc (.cells #[.bool s5, .slice p5 m5 m5] 32)) v8.heap.size (.bool s5) (.slice p5 m5 m5)) := Box.new v8 _ _ _
  have hbn : Below v8.heap.size v8 (v8.alloc (.cells #[.bool s5, .slice p5 m5 m5] 32)) := below1 v8 _
  generalize v8.alloc (.cells #[.bool s5, .slice p5 m5 m5] 32) = Wx at *
  have HGx : Hid (w.heap.size ≤ v8.heap.size) := hbw.size
  replace Xa : Hid _ := Xa.out.below hbn
  replace Xb : Hid _ := Xb.out.below hbn
  replace Z5 : Hid _ := Z5.out.below hbn
  replace Z6 : Hid _ := Z6.out.below hbn
  replace hbw := Below.on hbw hbn
  clear hbn
  generalize v8.heap.size = gx at *
  have Xx := Xx0
  clear Xx0
  have Xy0 : Hid (Box (Wx.alloc (.cells #[.bool s6, .slice p6 m6 m6] 32)) Wx.heap.size (.bool s6) (.slice p6 m6 m6)) := Box.new Wx _ _ _
  have hbn : Below Wx.heap.size Wx (Wx.alloc (.cells #[.bool s6, .slice p6 m6 m6] 32)) := below1 Wx _
  generalize Wx.alloc (.cells #[.bool s6, .slice p6 m6 m6] 32) = Wy at *
  have HGy : Hid (w.heap.size ≤ Wx.heap.size) := hbw.size
  replace Xa : Hid _ := Xa.out.below hbn
  replace Xb : Hid _ := Xb.out.below hbn
  replace Xx : Hid _ := Xx.out.below hbn
  replace Z5 : Hid _ := Z5.out.below hbn
  replace Z6 : Hid _ := Z6.out.below hbn
  replace hbw := Below.on hbw hbn
  clear hbn
  generalize Wx.heap.size = gy at *
  have Xy := Xy0
  clear Xy0
  refine (zcmp Z5.out Z6.out).mono ?_
  rintro e v9 ⟨rfl, hb9⟩
  rw [HX.out.2.2]
  replace Xa : Hid _ := Xa.out.below hb9
  replace Xb : Hid _ := Xb.out.below hb9
  replace Xx : Hid _ := Xx.out.below hb9
  replace Xy : Hid _ := Xy.out.below hb9
  replace Z5 : Hid _ := Z5.out.below hb9
  replace Z6 : Hid _ := Z6.out.below hb9
  replace hbw := Below.on hbw hb9
  clear hb9
  go_wp2_with fail
  go_ret2
  exact ⟨rfl, hbw⟩
theorem dcmp {p q : Option Addr} {m c n d : Nat} {w : World} {x y e f : Int} {s t : Bool} (h : DN w s p m c e x) (k : DN w t q n d f y) :
    Calls Tryz.prog 51 #[DV s p m c e, DV t q n d f] w fun en w' => en = .returned (.tuple #[.int .i64 (cmpI (dv x e) (dv y f)), .int .i64 0]) ∧ Below w.heap.size w w' := by
  by_cases hs : sgnI x = sgnI y
  · by_cases hx : x = 0
    · exact dcmp_z h k hs hx
    · by_cases ht : topI x e = topI y f
      · exact dcmp_a h k hs hx ht
      · exact dcmp_t h k hs hx ht
  · exact dcmp_d h k hs
end Go.Proofs.YtfofoookdlaipaaGreatDoor

namespace Go.Proofs.YtfofoookdlaipaaGreatDoor
open Go.RowKit Go.Shelf

structure DO (B : Nat) (w : World) (s : Bool) (p : Option Addr) (m : Nat) (e z : Int) : Prop where
  own : ∃ zs, Own B w p m zs ∧ Nf B64 zs z.natAbs ∧ m ≤ 8192
  sg : s = decide (z < 0)
  fm : DFm z e
theorem DO.dn {B : Nat} {w : World} {s : Bool} {p : Option Addr} {m : Nat} {e z : Int} (h : DO B w s p m e z) : DN w s p m m e z := by
  obtain ⟨zs, h1, h2, h3⟩ := h.own
  exact ⟨⟨⟨zs, Num.of h1 h2 h3⟩, h.sg⟩, h.fm⟩
theorem DO.below {B : Nat} {w w' : World} {s : Bool} {p : Option Addr} {m : Nat} {e z : Int} (h : DO B w s p m e z) (hb : Below w.heap.size w w') : DO B w' s p m e z := by
  obtain ⟨zs, h1, h2, h3⟩ := h.own
  exact ⟨⟨zs, h1.below hb, h2, h3⟩, h.sg, h.fm⟩
theorem DO.set {B : Nat} {w : World} {s : Bool} {p : Option Addr} {m : Nat} {e z : Int} (h : DO B w s p m e z) (g o : Nat) (v : Value) (hg : g < B) : DO B (w.setCell ⟨g, o, none⟩ v) s p m e z := by
  obtain ⟨zs, h1, h2, h3⟩ := h.own
  exact ⟨⟨zs, h1.setOld _ _ _ hg, h2, h3⟩, h.sg, h.fm⟩
theorem DO.of {B : Nat} {w : World} {v : Value} {e z : Int} (h : AnsD B w v z e) (hf : DFm z e) : ∃ s p m, v = DV s p m m e ∧ DO B w s p m e z := by
  obtain ⟨p, m, zs, rfl, h1, h2, h3⟩ := h
  exact ⟨_, p, m, rfl, ⟨zs, h1, h2, h3⟩, rfl, hf⟩
abbrev SV (s : Bool) (p : Option Addr) (m c : Nat) (e : Int) (t : Bool) (q : Option Addr) (n d : Nat) (f : Int) : Value := .agg #[.bool s, .slice p m c, .int .i64 e, .bool t, .slice q n d, .int .i64 f]
end Go.Proofs.YtfofoookdlaipaaGreatDoor

namespace Go.Proofs.YtfofoookdlaipaaGreatDoor
open Go.RowKit

theorem bwAlloc (w : World) (o : Obj) : Below w.heap.size w (w.alloc o) := (Below.refl _ _).alloc (Nat.le_refl _) o
theorem bwOn {w w1 w2 : World} (h : Below w.heap.size w w1) (k : Below w1.heap.size w1 w2) : Below w.heap.size w w2 := h.trans (k.mono h.size)
theorem bwDrew {B : Nat} {a w : World} (h : Below B a w) : Below B a w.drew := ⟨h.os, h.tape, h.output, h.size, h.block⟩
theorem bwSet {B : Nat} {a w : World} (h : Below B a w) (g o : Nat) (v : Value) (hB : B ≤ g) : Below B a (w.setCell ⟨g, o, none⟩ v) :=
  h.trans ((Wr.refl g o 1 w).setCell o ⟨by omega, by omega⟩ v |>.below hB)
theorem results_c1 {fn : Func} {p : Tmp} {ty : TypeId} (h : fn.results = #[.cell p ty]) (tmps : Array Value) (P : Program) (w : World) :
    (results fn tmps).run P w = ((asAddr (tmps.getD p undef)).run P w).andThen fun a w₁ => (loadVar ty a).run P w₁ := by
  simp only [results, h]
  simp [Sem.run_bind, Result.andThen]
theorem results_ct {fn : Func} {p q : Tmp} {ty : TypeId} (h : fn.results = #[.cell p ty, .tmp q]) (tmps : Array Value) (P : Program) (w : World) :
    (results fn tmps).run P w = ((asAddr (tmps.getD p undef)).run P w).andThen fun a w₁ => ((loadVar ty a).run P w₁).andThen fun v w₂ => .ok (.tuple #[v, tmps.getD q undef]) w₂ := by
  simp only [results, h]
  simp [Sem.run_bind, Result.andThen]

abbrev WV (p m l : Int) : Value := .agg #[.int .i64 p, .int .i64 m, .int .i64 l]
structure B3 (W : World) (g : Nat) (v0 v1 v2 : Value) : Prop where
  c0 : W.cell? ⟨g, 0, none⟩ = some v0
  c1 : W.cell? ⟨g, 1, none⟩ = some v1
  c2 : W.cell? ⟨g, 2, none⟩ = some v2
  f0 : W.frozen? ⟨g, 0, none⟩ = false
  f1 : W.frozen? ⟨g, 1, none⟩ = false
  f2 : W.frozen? ⟨g, 2, none⟩ = false
theorem B3.below {W W' : World} {g : Nat} {v0 v1 v2 : Value} (h : B3 W g v0 v1 v2) (hb : Below W.heap.size W W') : B3 W' g v0 v1 v2 := by
  have hl : g < W.heap.size := World.block_lt_of_cell? W _ h.c0
  exact ⟨(hb.cell (p := ⟨g, 0, none⟩) hl).trans h.c0, (hb.cell (p := ⟨g, 1, none⟩) hl).trans h.c1, (hb.cell (p := ⟨g, 2, none⟩) hl).trans h.c2,
    (hb.frozen (p := ⟨g, 0, none⟩) hl).trans h.f0, (hb.frozen (p := ⟨g, 1, none⟩) hl).trans h.f1, (hb.frozen (p := ⟨g, 2, none⟩) hl).trans h.f2⟩
theorem B3.new (w : World) (ty : TypeId) (v0 v1 v2 : Value) : B3 (w.alloc (.cells #[v0, v1, v2] ty)) w.heap.size v0 v1 v2 :=
  ⟨by go_simp, by go_simp, by go_simp, by go_simp, by go_simp, by go_simp⟩
theorem B3.lt {W : World} {g : Nat} {v0 v1 v2 : Value} (h : B3 W g v0 v1 v2) : g < W.heap.size := World.block_lt_of_cell? W _ h.c0

theorem widths_32 (w : World) : Calls Tryz.prog 76 #[.int .i64 32] w fun e w' => e = .returned (WV 32 24 (-149)) ∧ Below w.heap.size w w' := by
  go_enter Tryz.func76, Tryz.ntmps76
  go_wp2_with fail
  exact bodyPost_ret (v := WV 32 24 (-149)) (by rw [results_c1 rfl]; go_simp) rfl ⟨rfl, bwAlloc w _⟩
theorem widths_64 (w : World) : Calls Tryz.prog 76 #[.int .i64 64] w fun e w' => e = .returned (WV 64 53 (-1074)) ∧ Below w.heap.size w w' := by
  go_enter Tryz.func76, Tryz.ntmps76
  go_wp2_with fail
  exact bodyPost_ret (v := WV 64 53 (-1074)) (by rw [results_c1 rfl]; go_simp) rfl ⟨rfl, bwAlloc w _⟩
set_option maxRecDepth 20000 in
theorem of_32 (w : World) : Calls Tryz.prog 37 #[.int .i64 32] w fun e w' => e = .returned (.tuple #[WV 32 24 (-149), .int .i64 0]) ∧ Below w.heap.size w w' := by
  go_enter Tryz.func37, Tryz.ntmps37
  go_wp2_with fail
  have X0 : B3 (w.alloc (.cells #[.int .i64 0, .int .i64 0, .int .i64 0] 71)) w.heap.size (.int .i64 0) (.int .i64 0) (.int .i64 0) := B3.new ..
  have hb0 : Below w.heap.size w (w.alloc (.cells #[.int .i64 0, .int .i64 0, .int .i64 0] 71)) := bwAlloc w _
  generalize w.alloc (.cells #[.int .i64 0, .int .i64 0, .int .i64 0] 71) = W at *
  obtain ⟨g, hg⟩ : ∃ g, g = w.heap.size := ⟨_, rfl⟩
  have HG : Hid (w.heap.size ≤ g) := by show _ ≤ _; omega
  rw [← hg] at X0 ⊢
  clear hg
  refine (widths_32 _).mono ?_
  rintro e w1 ⟨rfl, hb1⟩
  obtain ⟨d0, d1, d2, d3, d4, d5⟩ := X0.below hb1
  have hgl : g < w1.heap.size := (X0.below hb1).lt
  have HB : Hid (Below w.heap.size w w1) := bwOn hb0 hb1
  clear hb0 hb1 X0
  go_wp2_with fail
  refine bodyPost_ret (v := .tuple #[WV 32 24 (-149), .int .i64 0]) (by rw [results_ct rfl]; go_simp) rfl ⟨rfl, ?_⟩
  exact Below.alloc (bwSet (bwSet (bwSet HB.out _ _ _ HG.out) _ _ _ HG.out) _ _ _ HG.out) (by simpa using HB.out.size) _
set_option maxRecDepth 20000 in
theorem of_64 (w : World) : Calls Tryz.prog 37 #[.int .i64 64] w fun e w' => e = .returned (.tuple #[WV 64 53 (-1074), .int .i64 0]) ∧ Below w.heap.size w w' := by
  go_enter Tryz.func37, Tryz.ntmps37
  go_wp2_with fail
  have X0 : B3 (w.alloc (.cells #[.int .i64 0, .int .i64 0, .int .i64 0] 71)) w.heap.size (.int .i64 0) (.int .i64 0) (.int .i64 0) := B3.new ..
  have hb0 : Below w.heap.size w (w.alloc (.cells #[.int .i64 0, .int .i64 0, .int .i64 0] 71)) := bwAlloc w _
  generalize w.alloc (.cells #[.int .i64 0, .int .i64 0, .int .i64 0] 71) = W at *
  obtain ⟨g, hg⟩ : ∃ g, g = w.heap.size := ⟨_, rfl⟩
  have HG : Hid (w.heap.size ≤ g) := by show _ ≤ _; omega
  rw [← hg] at X0 ⊢
  clear hg
  refine (widths_64 _).mono ?_
  rintro e w1 ⟨rfl, hb1⟩
  obtain ⟨d0, d1, d2, d3, d4, d5⟩ := X0.below hb1
  have hgl : g < w1.heap.size := (X0.below hb1).lt
  have HB : Hid (Below w.heap.size w w1) := bwOn hb0 hb1
  clear hb0 hb1 X0
  go_wp2_with fail
  refine bodyPost_ret (v := .tuple #[WV 64 53 (-1074), .int .i64 0]) (by rw [results_ct rfl]; go_simp) rfl ⟨rfl, ?_⟩
  exact Below.alloc (bwSet (bwSet (bwSet HB.out _ _ _ HG.out) _ _ _ HG.out) _ _ _ HG.out) (by simpa using HB.out.size) _
theorem stored_32 (w : World) : Calls Tryz.prog 127 #[WV 32 24 (-149)] w fun e w' => e = .returned (.int .i64 23) ∧ Below w.heap.size w w' := by
  go_enter Tryz.func127, Tryz.ntmps127
  go_wp2_with fail
  go_ret
  exact ⟨rfl, bwAlloc w _⟩
theorem sign_32 (w : World) : Calls Tryz.prog 94 #[WV 32 24 (-149)] w fun e w' => e = .returned (.int .u64 2147483648) ∧ Below w.heap.size w w' := by
  go_enter Tryz.func94, Tryz.ntmps94
  go_wp2_with fail
  go_ret
  exact ⟨rfl, bwAlloc w _⟩
set_option maxRecDepth 20000 in
theorem infinity_32 (w : World) : Calls Tryz.prog 81 #[WV 32 24 (-149)] w fun e w' => e = .returned (.int .u64 2139095040) ∧ Below w.heap.size w w' := by
  go_enter Tryz.func81, Tryz.ntmps81
  go_wp2_with fail
  have X0 : B3 (w.alloc (.cells #[.int .i64 32, .int .i64 24, .int .i64 (-149)] 71)) w.heap.size (.int .i64 32) (.int .i64 24) (.int .i64 (-149)) := B3.new ..
  have hb0 : Below w.heap.size w (w.alloc (.cells #[.int .i64 32, .int .i64 24, .int .i64 (-149)] 71)) := bwAlloc w _
  generalize w.alloc (.cells #[.int .i64 32, .int .i64 24, .int .i64 (-149)] 71) = W at *
  obtain ⟨g, hg⟩ : ∃ g, g = w.heap.size := ⟨_, rfl⟩
  have HG : Hid (w.heap.size ≤ g) := by show _ ≤ _; omega
  rw [← hg] at X0 ⊢
  clear hg
  have XB : Hid (B3 W.drew g (.int .i64 32) (.int .i64 24) (.int .i64 (-149))) := ⟨X0.c0, X0.c1, X0.c2, X0.f0, X0.f1, X0.f2⟩
  have HBW : Hid (Below w.heap.size w W.drew) := bwDrew hb0
  obtain ⟨c0, c1, c2, c3, c4, c5⟩ := X0
  clear hb0
  go_region_with (first
      | (go_at_call 94; (with_reducible refine (sign_32 _).mono ?_); rintro e w1 ⟨rfl, hb1⟩; obtain ⟨d0, d1, d2, d3, d4, d5⟩ := XB.out.below hb1; have HBW1 : Hid (Below w.heap.size w w1) := bwOn HBW.out hb1; clear hb1)
      | (go_at_call 127; (with_reducible refine (stored_32 _).mono ?_); rintro e w2 ⟨rfl, hb2⟩; have HBW2 : Hid (Below w.heap.size w w2) := bwOn HBW1.out hb2; clear hb2))
  all_goals
    (go_wp2_with fail
     go_ret
     exact ⟨rfl, HBW2.out⟩)
theorem stored_64 (w : World) : Calls Tryz.prog 127 #[WV 64 53 (-1074)] w fun e w' => e = .returned (.int .i64 52) ∧ Below w.heap.size w w' := by
  go_enter Tryz.func127, Tryz.ntmps127
  go_wp2_with fail
  go_ret
  exact ⟨rfl, bwAlloc w _⟩
theorem sign_64 (w : World) : Calls Tryz.prog 94 #[WV 64 53 (-1074)] w fun e w' => e = .returned (.int .u64 9223372036854775808) ∧ Below w.heap.size w w' := by
  go_enter Tryz.func94, Tryz.ntmps94
  go_wp2_with fail
  go_ret
  exact ⟨rfl, bwAlloc w _⟩
set_option maxRecDepth 20000 in
theorem infinity_64 (w : World) : Calls Tryz.prog 81 #[WV 64 53 (-1074)] w fun e w' => e = .returned (.int .u64 9218868437227405312) ∧ Below w.heap.size w w' := by
  go_enter Tryz.func81, Tryz.ntmps81
  go_wp2_with fail
  have X0 : B3 (w.alloc (.cells #[.int .i64 64, .int .i64 53, .int .i64 (-1074)] 71)) w.heap.size (.int .i64 64) (.int .i64 53) (.int .i64 (-1074)) := B3.new ..
  have hb0 : Below w.heap.size w (w.alloc (.cells #[.int .i64 64, .int .i64 53, .int .i64 (-1074)] 71)) := bwAlloc w _
  generalize w.alloc (.cells #[.int .i64 64, .int .i64 53, .int .i64 (-1074)] 71) = W at *
  obtain ⟨g, hg⟩ : ∃ g, g = w.heap.size := ⟨_, rfl⟩
  have HG : Hid (w.heap.size ≤ g) := by show _ ≤ _; omega
  rw [← hg] at X0 ⊢
  clear hg
  have XB : Hid (B3 W.drew g (.int .i64 64) (.int .i64 53) (.int .i64 (-1074))) := ⟨X0.c0, X0.c1, X0.c2, X0.f0, X0.f1, X0.f2⟩
  have HBW : Hid (Below w.heap.size w W.drew) := bwDrew hb0
  obtain ⟨c0, c1, c2, c3, c4, c5⟩ := X0
  clear hb0
  go_region_with (first
      | (go_at_call 94; (with_reducible refine (sign_64 _).mono ?_); rintro e w1 ⟨rfl, hb1⟩; obtain ⟨d0, d1, d2, d3, d4, d5⟩ := XB.out.below hb1; have HBW1 : Hid (Below w.heap.size w w1) := bwOn HBW.out hb1; clear hb1)
      | (go_at_call 127; (with_reducible refine (stored_64 _).mono ?_); rintro e w2 ⟨rfl, hb2⟩; have HBW2 : Hid (Below w.heap.size w w2) := bwOn HBW1.out hb2; clear hb2))
  all_goals
    (go_wp2_with fail
     go_ret
     exact ⟨rfl, HBW2.out⟩)
end Go.Proofs.YtfofoookdlaipaaGreatDoor

namespace Go.Proofs.YtfofoookdlaipaaGreatDoor
open Go.RowKit Go.Shelf

def bl_renLen : Ren := ⟨fun x => match x with | 129 => 93 | n => n, fun x => match x with | 53 => 22 | 3 => 3 | 4 => 4 | 46 => 94 | 5 => 5 | 9 => 9 | n => n, fun n => n⟩
theorem bl_laysLen : Lays.n129 Tryz.prog bl_renLen :=
  { mixed := by kernel_rfl, f129 := Tryz.func93.trans (congrArg some (by kernel_rfl)),
    t3 := Tryz.underlying3, a3 := Tryz.isAgg3, z3 := Tryz.sizeOf3, v3 := Tryz.zeroValue3, t4 := Tryz.underlying4, a4 := Tryz.isAgg4, z4 := Tryz.sizeOf4, v4 := Tryz.zeroValue4,
    t5 := Tryz.underlying5, a5 := Tryz.isAgg5, z5 := Tryz.sizeOf5, v5 := Tryz.zeroValue5, t9 := Tryz.underlying9, a9 := Tryz.isAgg9, z9 := Tryz.sizeOf9, v9 := Tryz.zeroValue9,
    t46 := Tryz.underlying94, a46 := Tryz.isAgg94, z46 := Tryz.sizeOf94, v46 := Tryz.zeroValue94, t53 := Tryz.underlying22, a53 := Tryz.isAgg22, z53 := Tryz.sizeOf22, v53 := Tryz.zeroValue22 }

def bl_bitsN (n : Nat) : Nat := if n = 0 then 0 else n.log2 + 1
theorem bl_bitsN_zero : bl_bitsN 0 = 0 := rfl
theorem bl_bitsN_lt (n : Nat) : n < 2 ^ bl_bitsN n := by
  unfold bl_bitsN
  split
  · rename_i h; subst h; decide
  · exact Nat.lt_log2_self
theorem bl_bitsN_le (n : Nat) (h : n ≠ 0) : 2 ^ (bl_bitsN n - 1) ≤ n := by
  unfold bl_bitsN
  rw [if_neg h, Nat.add_sub_cancel]
  exact Nat.log2_self_le h
theorem bl_bitsN_unique {n k : Nat} (h1 : n < 2 ^ k) (h2 : n ≠ 0 → 2 ^ (k - 1) ≤ n) (h3 : n = 0 → k = 0) : bl_bitsN n = k := by
  by_cases h0 : n = 0
  · subst h0; rw [h3 rfl]; rfl
  · have a1 := bl_bitsN_lt n
    have a2 := bl_bitsN_le n h0
    have b2 := h2 h0
    have c1 : bl_bitsN n - 1 < k := (Nat.pow_lt_pow_iff_right (by decide : 1 < 2)).1 (Nat.lt_of_le_of_lt a2 h1)
    have c2 : k - 1 < bl_bitsN n := (Nat.pow_lt_pow_iff_right (by decide : 1 < 2)).1 (Nat.lt_of_le_of_lt b2 a1)
    have c3 : bl_bitsN n ≠ 0 := by unfold bl_bitsN; rw [if_neg h0]; omega
    omega
theorem bl_bitsN_half (n : Nat) (h : n ≠ 0) : bl_bitsN n = 1 + bl_bitsN (n / 2) := by
  refine bl_bitsN_unique ?_ ?_ (fun e => absurd e h)
  · have := bl_bitsN_lt (n / 2)
    rw [Nat.add_comm, Nat.pow_succ]; omega
  · intro _
    by_cases h2 : n / 2 = 0
    · rw [h2]; simp [bl_bitsN]; omega
    · have a := bl_bitsN_le _ h2
      have c3 : bl_bitsN (n / 2) ≠ 0 := by unfold bl_bitsN; rw [if_neg h2]; omega
      have e : 1 + bl_bitsN (n / 2) - 1 = bl_bitsN (n / 2) - 1 + 1 := by omega
      rw [e, Nat.pow_succ]; omega
theorem bl_bitLen_eq : ∀ (k n : Nat), n < 2 ^ k → k ≤ 64 → Lib.bitLen n = bl_bitsN n := by
  intro k
  induction k with
  | zero => intro n h _; have : n = 0 := by simpa using h
            subst this; rfl
  | succ k ih =>
    intro n h hk
    by_cases h0 : n = 0
    · subst h0; rfl
    · rw [Lib.bitLen_half n h0 (Nat.lt_of_lt_of_le h (Nat.pow_le_pow_right (by decide) hk)), bl_bitsN_half n h0, ih (n / 2) (by rw [Nat.pow_succ] at h; omega) (by omega)]

theorem bl_len_any (x : Nat) (w : World) (hx : x < B64) : Calls Tryz.prog 93 #[U x] w fun e w' => e = .returned (.int .i64 (bl_bitsN x)) ∧ w' = w := by
  rw [B64_eq] at hx
  have h := Any.bits_Len64 bl_laysLen (x : Int) w (by omega) (by omega)
  rw [Int.toNat_natCast, bl_bitLen_eq 64 x hx (Nat.le_refl _)] at h
  exact h

theorem land_two_pow (b k : Nat) : b &&& 2 ^ k = if b / 2 ^ k % 2 = 1 then 2 ^ k else 0 := by
  refine Nat.eq_of_testBit_eq fun i => ?_
  rw [Nat.testBit_and, Nat.testBit_two_pow]
  by_cases h : k = i
  · subst h
    by_cases h2 : b / 2 ^ k % 2 = 1
    · rw [if_pos h2, Nat.testBit_two_pow_self]; simp [Nat.testBit_eq_decide_div_mod_eq, h2]
    · rw [if_neg h2]; simp [Nat.testBit_eq_decide_div_mod_eq, h2]
  · by_cases h2 : b / 2 ^ k % 2 = 1
    · rw [if_pos h2, Nat.testBit_two_pow]; simp [h]
    · rw [if_neg h2]; simp [h]
theorem sign_and (b S k : Nat) (hS : S = 2 ^ k) (hk : k < 64) (hb : b < 2 * S) : bits BinOp.and IntKind.u64 (b : Int) (S : Int) = ((if S ≤ b then S else 0 : Nat) : Int) := by
  have h1 : S ≤ 9223372036854775808 := by rw [hS]; exact Nat.le_trans (Nat.pow_le_pow_right (by decide) (by omega : k ≤ 63)) (by decide)
  rw [bits_and_u64_nat b S (by omega) (by omega)]
  congr 1
  rw [hS] at hb ⊢
  rw [land_two_pow]
  have hp := Nat.two_pow_pos k
  by_cases h : 2 ^ k ≤ b
  · have : b / 2 ^ k = 1 := by
      rw [Nat.div_eq_of_lt_le] <;> omega
    rw [this, if_pos rfl, if_pos h]
  · rw [Nat.div_eq_of_lt (by omega), if_neg (by decide), if_neg h]
theorem andNot_bv (b k : Nat) (hb : b < 2 ^ (k + 1)) (hk : k < 64) : (BitVec.ofNat 64 b &&& ~~~ BitVec.ofNat 64 (2 ^ k)) = BitVec.ofNat 64 (b % 2 ^ k) := by
  refine BitVec.eq_of_getLsbD_eq fun i hi => ?_
  simp only [BitVec.getLsbD_and, BitVec.getLsbD_not, BitVec.getLsbD_ofNat, Nat.testBit_two_pow, Nat.testBit_mod_two_pow, hi, decide_true, Bool.true_and]
  rcases Nat.lt_trichotomy i k with h | h | h
  · have h2 : ¬ k = i := by omega
    simp [h, h2]
  · subst h; simp
  · have h2 : b.testBit i = false := Nat.testBit_lt_two_pow (Nat.lt_of_lt_of_le hb (Nat.pow_le_pow_right (by decide) h))
    simp [h2]
theorem sign_andNot (b S k : Nat) (hS : S = 2 ^ k) (hk : k < 64) (hb : b < 2 * S) : bits BinOp.andNot IntKind.u64 (b : Int) (S : Int) = ((b % S : Nat) : Int) := by
  have h1 : S ≤ 9223372036854775808 := by rw [hS]; exact Nat.le_trans (Nat.pow_le_pow_right (by decide) (by omega : k ≤ 63)) (by decide)
  have hb2 : b < 2 ^ (k + 1) := by rw [Nat.pow_succ, ← hS]; omega
  show IntKind.u64.wrap ((BitVec.ofInt 64 (b : Int) &&& ~~~ BitVec.ofInt 64 (S : Int)).toNat : Int) = _
  rw [BitVec.ofInt_natCast, BitVec.ofInt_natCast, hS, andNot_bv b k hb2 hk, ← hS, BitVec.toNat_ofNat, IntKind.wrap_u64]
  have h2 : b % S < S := Nat.mod_lt _ (by rw [hS]; exact Nat.two_pow_pos k)
  omega
theorem sign_or (s S k : Nat) (hS : S = 2 ^ k) (hk : k < 64) (hs : s < S) : bits BinOp.or IntKind.u64 (S : Int) (s : Int) = ((S + s : Nat) : Int) := by
  have h1 : S ≤ 9223372036854775808 := by rw [hS]; exact Nat.le_trans (Nat.pow_le_pow_right (by decide) (by omega : k ≤ 63)) (by decide)
  have h2 := Nat.two_pow_add_eq_or_of_lt (i := k) (b := s) (hS ▸ hs) 1
  rw [Nat.mul_one] at h2
  rw [bits_or_u64_nat S s (by omega) (by omega), hS, ← h2]
theorem bl_gt32 {b : Nat} (h : 4294967296 ≤ b) : 32 < bl_bitsN b := by
  rcases Nat.lt_or_ge 32 (bl_bitsN b) with e | e
  · exact e
  · have h1 := bl_bitsN_lt b
    have h2 : 2 ^ bl_bitsN b ≤ 2 ^ 32 := Nat.pow_le_pow_right (by decide) e
    omega
theorem bl_le {b k : Nat} (h : b < 2 ^ k) : bl_bitsN b ≤ k := by
  by_cases h0 : b = 0
  · subst h0; rw [bl_bitsN_zero]; omega
  · have h1 := bl_bitsN_le b h0
    have h2 := (Nat.pow_lt_pow_iff_right (by decide : 1 < 2)).1 (Nat.lt_of_le_of_lt h1 h)
    omega
end Go.Proofs.YtfofoookdlaipaaGreatDoor

namespace Go.Proofs.YtfofoookdlaipaaGreatDoor
open Go.RowKit Go.Shelf

abbrev PV (p m l : Int) (s : Bool) (z : Nat) : Value := .agg #[.int .i64 p, .int .i64 m, .int .i64 l, .bool s, U z]
structure B5q (W : World) (g : Nat) (v0 v1 v2 v3 v4 : Value) : Prop where
  c0 : W.cell? ⟨g, 0, none⟩ = some v0
  c1 : W.cell? ⟨g, 1, none⟩ = some v1
  c2 : W.cell? ⟨g, 2, none⟩ = some v2
  c3 : W.cell? ⟨g, 3, none⟩ = some v3
  c4 : W.cell? ⟨g, 4, none⟩ = some v4
  f0 : W.frozen? ⟨g, 0, none⟩ = false
  f1 : W.frozen? ⟨g, 1, none⟩ = false
  f2 : W.frozen? ⟨g, 2, none⟩ = false
  f3 : W.frozen? ⟨g, 3, none⟩ = false
  f4 : W.frozen? ⟨g, 4, none⟩ = false
theorem B5q.below {W W' : World} {g : Nat} {v0 v1 v2 v3 v4 : Value} (h : B5q W g v0 v1 v2 v3 v4) (hb : Below W.heap.size W W') : B5q W' g v0 v1 v2 v3 v4 := by
  have hl : g < W.heap.size := World.block_lt_of_cell? W _ h.c0
  exact ⟨(hb.cell (p := ⟨g, 0, none⟩) hl).trans h.c0, (hb.cell (p := ⟨g, 1, none⟩) hl).trans h.c1, (hb.cell (p := ⟨g, 2, none⟩) hl).trans h.c2, (hb.cell (p := ⟨g, 3, none⟩) hl).trans h.c3, (hb.cell (p := ⟨g, 4, none⟩) hl).trans h.c4,
    (hb.frozen (p := ⟨g, 0, none⟩) hl).trans h.f0, (hb.frozen (p := ⟨g, 1, none⟩) hl).trans h.f1, (hb.frozen (p := ⟨g, 2, none⟩) hl).trans h.f2, (hb.frozen (p := ⟨g, 3, none⟩) hl).trans h.f3, (hb.frozen (p := ⟨g, 4, none⟩) hl).trans h.f4⟩
theorem B5q.new (w : World) (ty : TypeId) (v0 v1 v2 v3 v4 : Value) : B5q (w.alloc (.cells #[v0, v1, v2, v3, v4] ty)) w.heap.size v0 v1 v2 v3 v4 :=
  ⟨by go_simp, by go_simp, by go_simp, by go_simp, by go_simp, by go_simp, by go_simp, by go_simp, by go_simp, by go_simp⟩
theorem B5q.lt {W : World} {g : Nat} {v0 v1 v2 v3 v4 : Value} (h : B5q W g v0 v1 v2 v3 v4) : g < W.heap.size := World.block_lt_of_cell? W _ h.c0
theorem B5q.drew {W : World} {g : Nat} {v0 v1 v2 v3 v4 : Value} (h : B5q W g v0 v1 v2 v3 v4) : B5q W.drew g v0 v1 v2 v3 v4 := ⟨h.c0, h.c1, h.c2, h.c3, h.c4, h.f0, h.f1, h.f2, h.f3, h.f4⟩
theorem B3.drew {W : World} {g : Nat} {v0 v1 v2 : Value} (h : B3 W g v0 v1 v2) : B3 W.drew g v0 v1 v2 := ⟨h.c0, h.c1, h.c2, h.f0, h.f1, h.f2⟩

end Go.Proofs.YtfofoookdlaipaaGreatDoor

