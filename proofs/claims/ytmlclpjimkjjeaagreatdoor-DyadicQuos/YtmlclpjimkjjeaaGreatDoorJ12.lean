import Derived.Test.YtmlclpjimkjjeaaGreatDoorJ11
import Derived.Test.YtmlclpjimkjjeaaGreatDoorJ10
import Derived.Test.YtmlclpjimkjjeaaGreatDoorJ8
import Derived.Test.YtmlclpjimkjjeaaGreatDoorJ9
import Derived.Deep.LoopGhost
import Derived.Deep.RegionWith
import Derived.Laws.EntriesVeiled
namespace Go.Proofs.YtmlclpjimkjjeaaGreatDoor
open Go.RowKit Go.Shelf
set_option maxRecDepth 20000
set_option maxHeartbeats 0
theorem dform_z {p : Option Addr} {m c : Nat} {w : World} {z e : Int} {s : Bool} (h : ZN w s p m c z) (hz : z = 0) (he : e = 0) :
  Calls Tryz.prog 18 #[DV s p m c e] w fun en w' => en = .returned (.bool true) ∧ Below w.heap.size w w' := by
 subst hz;subst he;have H := hdQ h;clear h
 go_enter Tryz.func18, Tryz.ntmps18
 go_wp2_with fail;obtain ⟨W0, hW0⟩ := exq (w.alloc (.cells #[.bool s, .slice p m c, .int .i64 0] 27))
 have Xd : Hid (B3q W0 (w.heap.size) (.bool s) (.slice p m c) (.int .i64 0)) := by rw [hW0]; constructor <;> go_simp
 have hb0 := bq1 hW0;rw [← hW0];clear hW0;have hbw := brf w;obtain ⟨gd, hgd⟩ := exq w.heap.size;have HGd : Hid (w.heap.size ≤ gd) := hgl hgd;rw [← hgd] at Xd
 try rw [← hgd]
 clear hgd;replace hbw := bon hbw hb0;clear hb0
 refine (zform (H.out.below hbw)).mono ?_
 rintro e v1 ⟨rfl, hb1⟩;replace Xd := B3q.b Xd hb1;replace hbw := bon hbw hb1;clear hb1;obtain ⟨cd0, cd1, cd2, fd0, fd1, fd2⟩ := Xd.out;have hned : gd < v1.heap.size := blt cd0;go_wp2_with fail;clear cd0 cd1 cd2 fd0 fd1 fd2 hned
 refine (zsign (H.out.below hbw)).mono ?_
 rintro e v2 ⟨rfl, hb2⟩
 rw [show sgnI 0 = 0 from rfl]
 replace Xd := B3q.b Xd hb2;replace hbw := bon hbw hb2;clear hb2;obtain ⟨cd0, cd1, cd2, fd0, fd1, fd2⟩ := Xd.out;have hned : gd < v2.heap.size := blt cd0;go_wp2_with fail;clear cd0 cd1 cd2 fd0 fd1 fd2 hned
 go_ret
 exact ⟨rfl, hbw⟩
theorem dform_o {p : Option Addr} {m c : Nat} {w : World} {z e : Int} {s : Bool} (h : ZN w s p m c z) (hz : z % 2 = 1) (he : -1048576 ≤ e ∧ e ≤ 1048576) :
  Calls Tryz.prog 18 #[DV s p m c e] w fun en w' => en = .returned (.bool true) ∧ Below w.heap.size w w' := by
 have H := hdQ h;have HZ : Hid (z % 2 = 1) := hz;have h1 : (-1048576 : Int) ≤ e := he.1;have h2 : e ≤ 1048576 := he.2
 have h3 : ¬ e < -1048576 := by omega
 have h4 : ¬ 1048576 < e := by omega
 clear hz he h
 go_enter Tryz.func18, Tryz.ntmps18
 go_wp2_with fail;obtain ⟨W0, hW0⟩ := exq (w.alloc (.cells #[.bool s, .slice p m c, .int .i64 e] 27))
 have Xd : Hid (B3q W0 (w.heap.size) (.bool s) (.slice p m c) (.int .i64 e)) := by rw [hW0]; constructor <;> go_simp
 have hb0 := bq1 hW0;rw [← hW0];clear hW0;have hbw := brf w;obtain ⟨gd, hgd⟩ := exq w.heap.size;have HGd : Hid (w.heap.size ≤ gd) := hgl hgd;rw [← hgd] at Xd
 try rw [← hgd]
 clear hgd;replace hbw := bon hbw hb0;clear hb0
 refine (zform (H.out.below hbw)).mono ?_
 rintro e v1 ⟨rfl, hb1⟩;replace Xd := B3q.b Xd hb1;replace hbw := bon hbw hb1;clear hb1;obtain ⟨cd0, cd1, cd2, fd0, fd1, fd2⟩ := Xd.out;have hned : gd < v1.heap.size := blt cd0;go_wp2_with fail;clear cd0 cd1 cd2 fd0 fd1 fd2 hned
 refine (zsign (H.out.below hbw)).mono ?_
 rintro e v2 ⟨rfl, hb2⟩;obtain ⟨sg, hsg⟩ := exq (sgnI (z));rw [← hsg]
 have hs0 : (sg == 0) = false := by rw [hsg]; have := HZ.out; unfold sgnI; split <;> (try split) <;> simp <;> omega
 clear hsg;replace Xd := B3q.b Xd hb2;replace hbw := bon hbw hb2;clear hb2;obtain ⟨cd0, cd1, cd2, fd0, fd1, fd2⟩ := Xd.out;have hned : gd < v2.heap.size := blt cd0;go_wp2_with fail;clear cd0 cd1 cd2 fd0 fd1 fd2 hned;obtain ⟨xs, hX⟩ := (H.out.below hbw).ex
 refine (bit_int hX.at_ (by have := hX.le; omega) 0 (by decide)).mono ?_
 rintro e2 v3 ⟨rfl, hw⟩;obtain rfl := hw.symm;clear hw
 rw [show bitO (valB B64 xs) 0 = true from by unfold bitO; rw [if_neg (by omega), hX.nf.val]; simp; have := HZ.out; omega]
 clear hX;obtain ⟨cd0, cd1, cd2, fd0, fd1, fd2⟩ := Xd.out;have hned : gd < v2.heap.size := blt cd0;go_wp2_with fail;clear cd0 cd1 cd2 fd0 fd1 fd2 hned
 go_ret
 exact ⟨rfl, hbw⟩
theorem dform_t {p : Option Addr} {m c : Nat} {w : World} {z e : Int} {s : Bool} (h : DN w s p m c e z) :
  Calls Tryz.prog 18 #[DV s p m c e] w fun en w' => en = .returned (.bool true) ∧ Below w.heap.size w w' := by
 rcases h.fm with ⟨h1, h2⟩ | ⟨h1, h2⟩
 ·exact dform_z h.zn h1 h2
 ·exact dform_o h.zn h1 h2
theorem moved_ok (e n : Int) (w : World) (he : -1048576 ≤ e ∧ e ≤ 2097152) (hs : -1048576 ≤ e + n ∧ e + n ≤ 1048576) :
  Calls Tryz.prog 95 #[.int .i64 e, .int .i64 n] w fun en w' => en = .returned (.tuple #[.int .i64 (e + n), .int .i64 0]) ∧ w' = w := by
 have f1 : wrap64 (-1048576 - e) = -1048576 - e := by simp only [wrap64]; omega
 have f2 : wrap64 (1048576 - e) = 1048576 - e := by simp only [wrap64]; omega
 have f3 : wrap64 (e + n) = e + n := by simp only [wrap64]; omega
 have f4 : ¬ n < -1048576 - e := by omega
 have f5 : ¬ 1048576 - e < n := by omega
 clear he hs
 go_enter Tryz.func95, Tryz.ntmps95
 go_wp2_with fail
 go_ret2
 exact ⟨rfl, rfl⟩
theorem below4 (w : World) (a b c d : Obj) : Below w.heap.size w ((((w.alloc a).alloc b).alloc c).alloc d) := (below3 w a b c).alloc (by simp; omega) d
theorem pow_cast (n : Nat) : (2 : Int) ^ n = ((2 ^ n : Nat) : Int) := by norm_cast
theorem lt_LIM {n L : Nat} (h : n < 2 ^ L) (hL : L ≤ 524288) : n < LIM := by
  refine (lim_bits n).2 ?_
  by_cases h0 : n = 0
  · rw [h0, bitsN_zero]; omega
  · have h1 := bitsN_le n h0
    have h2 := (Nat.pow_lt_pow_iff_right (by omega : 1 < 2)).1 (Nat.lt_of_le_of_lt h1 h)
    omega
structure DB (z e : Int) (K E : Nat) : Prop where
 fm : DFm z e
 sz : z.natAbs < 2 ^ K
 lo : -(E : Int) ≤ e
 hi : e ≤ E
theorem DB.mono {z e : Int} {K E K' E' : Nat} (h : DB z e K E) (hK : K ≤ K') (hE : E ≤ E') : DB z e K' E' :=
 ⟨h.fm, Nat.lt_of_lt_of_le h.sz (Nat.pow_le_pow_right (by omega) hK), by have := h.lo; omega, by have := h.hi; omega⟩
theorem fl_neg (x : Int) (d : Nat) : fl (decide (-x < 0)) (-x).natAbs d = - ce (decide (x < 0)) x.natAbs d := by
  rw [Int.natAbs_neg]
  by_cases hx : x = 0
  · subst hx
    simp [fl, ce, iv]
  · rw [show decide (-x < 0) = !decide (x < 0) from by rw [← decide_not]; exact decide_eq_decide.2 (by omega)]
    exact fl_not _ _ _
theorem fl_eq (z : Int) (d : Nat) (hd : 0 < d) : fl (decide (z < 0)) z.natAbs d = z / (d : Int) := by
  have h := fl_mo (decide (z < 0)) false z.natAbs d hd;rw [iv_abs, iv_f, Bool.bne_false] at h
  have h1 : 0 ≤ mo (decide (z < 0)) false z.natAbs d ∧ mo (decide (z < 0)) false z.natAbs d < (d : Int) := by
    unfold mo;rw [iv_f];have := Nat.mod_lt z.natAbs hd
    split
    · rename_i h2
      have h3 : z.natAbs % d ≠ 0 := by simp at h2; omega
      omega
    · omega
  generalize mo (decide (z < 0)) false z.natAbs d = r at *;generalize fl (decide (z < 0)) z.natAbs d = q at *
  rw [← h, Int.add_comm, Int.add_mul_ediv_right _ _ (by omega), Int.ediv_eq_zero_of_lt h1.1 h1.2]
  omega
theorem ce_eq (z : Int) (d : Nat) (hd : 0 < d) : ce (decide (z < 0)) z.natAbs d = -((-z) / (d : Int)) := by
  have h := fl_neg z d;rw [fl_eq _ _ hd] at h
  omega
def rd (up : Bool) (z : Int) (d : Nat) : Int := if up then -((-z) / (d : Int)) else z / (d : Int)
theorem rd_f (z : Int) (d : Nat) : rd false z d = z / (d : Int) := rfl
theorem rd_t (z : Int) (d : Nat) : rd true z d = -((-z) / (d : Int)) := rfl
theorem rd_one (up : Bool) (z : Int) : rd up z 1 = z := by
  cases up
  · rw [rd_f]; simp
  · rw [rd_t]; simp
theorem rd_zero (up : Bool) (d : Nat) : rd up 0 d = 0 := by
  cases up
  · rw [rd_f]; simp
  · rw [rd_t]; simp
theorem rd_down (z : Int) {d : Nat} (hd : 0 < d) : rd false z d * d ≤ z ∧ z < (rd false z d + 1) * d := by
  rw [rd_f];have h := Int.mul_ediv_add_emod z d
  have h1 := Int.emod_nonneg z (b := (d : Int)) (by omega)
  have h2 := Int.emod_lt_of_pos z (b := (d : Int)) (by omega)
  rw [Int.add_mul, Int.mul_comm (z / (d : Int))]
  omega
theorem rd_up (z : Int) {d : Nat} (hd : 0 < d) : z ≤ rd true z d * d ∧ (rd true z d - 1) * d < z := by
  rw [rd_t];have h := Int.mul_ediv_add_emod (-z) d
  have h1 := Int.emod_nonneg (-z) (b := (d : Int)) (by omega)
  have h2 := Int.emod_lt_of_pos (-z) (b := (d : Int)) (by omega)
  rw [Int.sub_mul, Int.neg_mul, Int.mul_comm (-z / (d : Int))]
  omega
theorem rd_neg (z : Int) (d : Nat) : rd false (-z) d = - rd true z d := by rw [rd_f, rd_t]; omega
theorem dv_le {x y : Int} (e : Int) (h : x ≤ y) : dv x e ≤ dv y e := by
  unfold dv
  exact Int.mul_le_mul_of_nonneg_right h (Int.natCast_nonneg _)
theorem dv_up {x e : Int} (k : Nat) (he : -4194304 ≤ e) : dv x (e + k) = dv (x * ((2 ^ k : Nat) : Int)) e := by
  rw [dv_shift (e := e + k) (f := e) (by omega) he, show (e + (k : Int) - e).toNat = k from by omega]
def MakeP (B : Nat) (w' : World) (en : Ending) (z e : Int) : Prop :=
 (∃ v zo eo, en = .returned (.tuple #[v, .int .i64 0]) ∧ AnsD B w' v zo eo ∧ DFm zo eo ∧ dv zo eo = dv z e) ∨
 (en = .returned (.tuple #[DV false none 0 0 0, .int .i64 5]) ∧ ∀ zo eo, DFm zo eo → dv zo eo ≠ dv z e)
theorem MakeP.form {B : Nat} {w' : World} {en : Ending} {z e zo eo : Int} (h : MakeP B w' en z e) (hf : DFm zo eo) (hv : dv zo eo = dv z e) : ∃ v, en = .returned (.tuple #[v, .int .i64 0]) ∧ AnsD B w' v zo eo := by
  rcases h with ⟨v, z1, e1, h1, h2, h3, h4⟩ | ⟨_, h2⟩
  · obtain ⟨rfl, rfl⟩ := dv_inj h3 hf (h4.trans hv.symm)
    exact ⟨v, h1, h2⟩
  · exact absurd hv (h2 _ _ hf)
theorem odd_exp {z z' e e' : Int} (hz : z % 2 = 1) (hz' : z' % 2 = 1) (he : -4194304 ≤ e) (he' : -4194304 ≤ e') (h : dv z e = dv z' e') : e = e' := by
  unfold dv at h;have h1 := odd_ne hz h;have h2 := odd_ne hz' h.symm
  omega
theorem make_no {z e : Int} {k : Nat} (hz : z ≠ 0) (hk : TzO z.natAbs k) (he : -4194304 ≤ e) (hn : ¬ (-1048576 ≤ k + e ∧ k + e ≤ 1048576)) : ∀ zo eo, DFm zo eo → dv zo eo ≠ dv z e := by
  intro zo eo hf hv
  obtain ⟨h1, h2, _⟩ := tz_split hz hk;generalize fl (decide (z < 0)) z.natAbs (2 ^ k) = o at *;rw [← h2, ← dv_up k he] at hv
  rcases hf with ⟨rfl, rfl⟩ | ⟨h3, h4, h5⟩
  · rw [dv_zero] at hv
    have := dv_eq_zero hv.symm
    omega
  · have := odd_exp h3 h1 (by omega) (by omega) hv
    omega
def MP (B : Nat) (w' : World) (s : Bool) (p : Option Addr) (m : Nat) (eo er : Int) (z e : Int) : Prop :=
 (er = 0 ∧ ∃ zo zs, s = decide (zo < 0) ∧ Own B w' p m zs ∧ Nf B64 zs zo.natAbs ∧ m ≤ 8192 ∧ DFm zo eo ∧ dv zo eo = dv z e) ∨
 (er = 5 ∧ s = false ∧ p = none ∧ m = 0 ∧ eo = 0 ∧ ∀ zo eo, DFm zo eo → dv zo eo ≠ dv z e)
theorem MakeP.open {B : Nat} {w' : World} {en : Ending} {z e : Int} (h : MakeP B w' en z e) : ∃ s p m eo er, en = .returned (.tuple #[DV s p m m eo, .int .i64 er]) ∧ MP B w' s p m eo er z e := by
  rcases h with ⟨v, z1, e1, h1, ⟨p, m, zs, rfl, h2, h3, h4⟩, h5, h6⟩ | ⟨h1, h2⟩
  · exact ⟨_, p, m, e1, 0, h1, .inl ⟨rfl, z1, zs, rfl, h2, h3, h4, h5, h6⟩⟩
  · exact ⟨_, _, _, _, 5, h1, .inr ⟨rfl, rfl, rfl, rfl, rfl, h2⟩⟩
theorem MP.close {B : Nat} {w' : World} {s : Bool} {p : Option Addr} {m : Nat} {eo er z e : Int} (h : MP B w' s p m eo er z e) : MakeP B w' (.returned (.tuple #[DV s p m m eo, .int .i64 er])) z e := by
  rcases h with ⟨rfl, zo, zs, rfl, h2, h3, h4, h5, h6⟩ | ⟨rfl, rfl, rfl, rfl, rfl, h2⟩
  · exact .inl ⟨_, zo, eo, rfl, ⟨p, m, zs, rfl, h2, h3, h4⟩, h5, h6⟩
  · exact .inr ⟨rfl, h2⟩
theorem MP.set {B b : Nat} {w' : World} {s : Bool} {p : Option Addr} {m : Nat} {eo er z e : Int} (h : MP B w' s p m eo er z e) {r : Nat} (hr : r < B) (hb : b ≤ B) (v0 v1 v2 : Value) : MP b (((w'.setCell ⟨r, 0, none⟩ v0).setCell ⟨r, 1, none⟩ v1).setCell ⟨r, 2, none⟩ v2) s p m eo er z e := by
  rcases h with ⟨h0, zo, zs, h1, h2, h3, h4, h5, h6⟩ | h
  · exact .inl ⟨h0, zo, zs, h1, own_set3 h2 hr hb v0 v1 v2, h3, h4, h5, h6⟩
  · exact .inr h
theorem MP.below {B : Nat} {w w' : World} {s : Bool} {p : Option Addr} {m : Nat} {eo er z e : Int} (h : MP B w s p m eo er z e) (hb : Below w.heap.size w w') : MP B w' s p m eo er z e := by
  rcases h with ⟨h0, zo, zs, h1, h2, h3, h4, h5, h6⟩ | h
  · exact .inl ⟨h0, zo, zs, h1, h2.below hb, h3, h4, h5, h6⟩
  · exact .inr h
theorem MP.b {B : Nat} {w w' : World} {s : Bool} {p : Option Addr} {m : Nat} {eo er z e : Int} (h : Hid (MP B w s p m eo er z e)) (hb : Below w.heap.size w w') : Hid (MP B w' s p m eo er z e) := MP.below h hb
theorem MakeP.mono {B b : Nat} {w' : World} {en : Ending} {z e : Int} (h : MakeP B w' en z e) (hb : b ≤ B) : MakeP b w' en z e := by
  rcases h with ⟨v, z1, e1, h1, ⟨p, m, zs, h8, h2, h3, h4⟩, h5, h6⟩ | h
  · exact .inl ⟨v, z1, e1, h1, ⟨p, m, zs, h8, h2.mono hb, h3, h4⟩, h5, h6⟩
  · exact .inr h
theorem moved_no (e n : Int) (w : World) (he : -1048576 ≤ e ∧ e ≤ 2097152) (hs : ¬ (-1048576 ≤ e + n ∧ e + n ≤ 1048576)) :
  Calls Tryz.prog 95 #[.int .i64 e, .int .i64 n] w fun en w' => en = .returned (.tuple #[.int .i64 0, .int .i64 5]) ∧ w' = w := by
 have f1 : wrap64 (-1048576 - e) = -1048576 - e := by simp only [wrap64]; omega
 have f2 : wrap64 (1048576 - e) = 1048576 - e := by simp only [wrap64]; omega
 by_cases f4 : n < -1048576 - e
 ·clear he hs
  go_enter Tryz.func95, Tryz.ntmps95
  go_wp2_with fail
  go_ret2
  exact ⟨rfl, rfl⟩
 have f5 : 1048576 - e < n := by omega
 clear he hs
 go_enter Tryz.func95, Tryz.ntmps95
 go_wp2_with fail
 go_ret2
 exact ⟨rfl, rfl⟩
theorem makep_n {p : Option Addr} {m c : Nat} {w : World} {z e : Int} {s : Bool} (h : ZN w s p m c z) (he : -3145728 ≤ e ∧ e ≤ 3145728) (hT : Tab w) {k : Nat} (hz : z ≠ 0) (hk : TzO z.natAbs k) (hr : (-1048576 ≤ k + e ∧ k + e ≤ 1048576)) :
  Calls Tryz.prog 44 #[ZV s p m c, .int .i64 e] w fun en w' => MakeP w.heap.size w' en z e ∧ Below w.heap.size w w' := by
 have H := hdQ h;have HE : Hid (-3145728 ≤ e ∧ e ≤ 3145728) := he;have TB : Hid (Tab w) := hT;have HZ : Hid (z ≠ 0) := hz;have HR : Hid ((-1048576 ≤ k + e ∧ k + e ≤ 1048576)) := hr;have HK := hdQ hk;clear h he hT hz hr
 go_enter Tryz.func44, Tryz.ntmps44
 go_wp2_with fail;obtain ⟨W0, hW0⟩ := exq ((w.alloc (.cells #[.bool s, .slice p m c] 25)).alloc (.cells #[.bool false, .slice none 0 0, .int .i64 0] 27))
 have Xm : Hid (Box W0 (w.heap.size) (.bool s) (.slice p m c)) := by rw [hW0]; constructor <;> go_simp
 have Xr : Hid (B3q W0 (w.heap.size + 1) (.bool false) (.slice none 0 0) (.int .i64 0)) := by rw [hW0]; constructor <;> go_simp
 have hb0 := bq2 hW0;rw [← hW0];clear hW0;have hbw := brf w;obtain ⟨gr, hgr⟩ := exq (w.heap.size + 1);have HGr : Hid (w.heap.size ≤ gr) := hgl hgr;rw [← hgr] at Xr
 try rw [← hgr]
 obtain ⟨gm, hgm⟩ := exq w.heap.size;have HGm : Hid (w.heap.size ≤ gm) := hgl hgm;rw [← hgm] at Xm
 try rw [← hgm]
 have HGD : Hid (gm ≠ gr ∧ gr ≠ gm) := by rw [hgm, hgr]; show _ ∧ _; omega
 clear hgm hgr;replace hbw := bon hbw hb0;clear hb0
 refine (zform (H.out.below hbw)).mono ?_
 rintro e v1 ⟨rfl, hb1⟩;replace Xm := Box.b Xm hb1;replace Xr := B3q.b Xr hb1;replace hbw := bon hbw hb1;clear hb1;obtain ⟨cm0, cm1, fm0, fm1⟩ := Xm.out;have hnem := Xm.out.lt;go_wp2_with fail;clear cm0 cm1 fm0 fm1 hnem
 refine (zsign (H.out.below hbw)).mono ?_
 rintro e v2 ⟨rfl, hb2⟩;obtain ⟨sg, hsg⟩ := exq (sgnI (z));rw [← hsg]
 have hs0 : (sg == 0) = false := by rw [hsg]; have := HZ.out; unfold sgnI; split <;> (try split) <;> simp <;> omega
 clear hsg;replace Xm := Box.b Xm hb2;replace Xr := B3q.b Xr hb2;replace hbw := bon hbw hb2;clear hb2;obtain ⟨cm0, cm1, fm0, fm1⟩ := Xm.out;have hnem := Xm.out.lt;go_wp2_with fail;clear cm0 cm1 fm0 fm1 hnem
 have hkb : k ≤ 524288 := by
  have h1 := (lim_bits z.natAbs).1 H.out.lim
  rcases hk with ⟨h0, _⟩ | ⟨_, h2, h3⟩
  ·exact absurd (Int.natAbs_eq_zero.1 h0) HZ.out
  ·have h4 : 2 ^ k ≤ z.natAbs := by
    rcases Nat.lt_or_ge z.natAbs (2 ^ k) with h | h
    ·rw [Nat.div_eq_of_lt h] at h3; omega
    ·exact h
   have h5 := bitsN_lt z.natAbs
   have h6 := (Nat.pow_lt_pow_iff_right (by omega : 1 < 2)).1 (Nat.lt_of_le_of_lt h4 h5)
   omega
 have HKB : Hid (k ≤ 524288) := hkb;clear hk hkb;obtain ⟨xs, hX⟩ := (H.out.below hbw).ex
 refine (trail_any hX.at_ (by have := hX.le; omega) (k := k) (by rw [hX.nf.val]; exact HK.out) (TB.out.below hbw)).mono ?_
 rintro e2 v3 ⟨rfl, hw⟩;obtain rfl := hw.symm;clear hw hX;go_wp2_with fail
 refine (moved_ok k e _ (by have := HKB.out; omega) HR.out).mono ?_
 rintro e2 v4 ⟨rfl, hw⟩;obtain rfl := hw.symm;clear hw;obtain ⟨cm0, cm1, fm0, fm1⟩ := Xm.out;have hnem := Xm.out.lt;go_wp2_with fail;clear cm0 cm1 fm0 fm1 hnem;obtain ⟨o, ho9⟩ := exq (fl (decide (z < 0)) z.natAbs (2 ^ k))
 have HO9 : Hid (o % 2 = 1 ∧ o * ((2 ^ k : Nat) : Int) = z ∧ o.natAbs ≤ z.natAbs) := by rw [ho9]; exact tz_split HZ.out HK.out
 have HRL : Hid (gr < v2.heap.size ∧ w.heap.size ≤ v2.heap.size) := ⟨Xr.out.lt, hbw.size⟩;obtain ⟨xs, hX⟩ := (H.out.below hbw).ex
 refine (fshr_any s hX H.out.pos k (by have := HKB.out; omega) (TB.out.below hbw)).mono ?_
 rintro e2 v5 ⟨v, rfl, hv, hb5⟩;rw [H.out.sg, ← ho9] at hv;obtain ⟨p5, m5, z5, rfl, ho5, hn5, hm5⟩ := hv;clear hX ho9;replace Xm := Box.b Xm hb5;replace Xr := B3q.b Xr hb5;replace hbw := bon hbw hb5;clear hb5;have O5 := hdQ ho5;have N5 : Hid (Nf B64 z5 o.natAbs ∧ m5 ≤ 8192) := ⟨hn5, hm5⟩;clear ho5 hn5 hm5;obtain ⟨so, hso⟩ := exq (decide (o < 0));rw [← hso];have HSO : Hid (so = decide (o < 0)) := hso;clear hso;obtain ⟨cr0, cr1, cr2, fr0, fr1, fr2⟩ := Xr.out;have hner : gr < v5.heap.size := blt cr0;go_wp2_with fail
 refine bodyPost_ret (v := .tuple #[DV so p5 m5 m5 (k + e), .int .i64 0]) (by rw [results_cell_tmp rfl]; go_simp) rfl ⟨.inl ⟨_, o, k + e, rfl, ⟨p5, m5, z5, by rw [HSO.out], ?_, N5.out.1, N5.out.2⟩, .inr ⟨HO9.out.1, HR.out⟩, ?_⟩, ?_⟩
 ·exact (own_set3 O5.out HRL.out.1 HRL.out.2 _ _ _).below (below1 _ _)
 ·rw [dv_shift (e := (k : Int) + e) (f := e) (by omega) (by have := HE.out; omega), show ((k : Int) + e - e).toNat = k from by omega, HO9.out.2.1]
 ·exact Below.on (bSet (bSet (bSet hbw _ _ _ HGr.out) _ _ _ HGr.out) _ _ _ HGr.out) (below1 _ _)
theorem makep_e {p : Option Addr} {m c : Nat} {w : World} {z e : Int} {s : Bool} (h : ZN w s p m c z) (he : -3145728 ≤ e ∧ e ≤ 3145728) (hT : Tab w) {k : Nat} (hz : z ≠ 0) (hk : TzO z.natAbs k) (hr : ¬ (-1048576 ≤ k + e ∧ k + e ≤ 1048576)) :
  Calls Tryz.prog 44 #[ZV s p m c, .int .i64 e] w fun en w' => MakeP w.heap.size w' en z e ∧ Below w.heap.size w w' := by
 have H := hdQ h;have HE : Hid (-3145728 ≤ e ∧ e ≤ 3145728) := he;have TB : Hid (Tab w) := hT;have HZ : Hid (z ≠ 0) := hz;have HR : Hid (¬ (-1048576 ≤ k + e ∧ k + e ≤ 1048576)) := hr;have HK := hdQ hk;clear h he hT hz hr
 go_enter Tryz.func44, Tryz.ntmps44
 go_wp2_with fail;obtain ⟨W0, hW0⟩ := exq ((w.alloc (.cells #[.bool s, .slice p m c] 25)).alloc (.cells #[.bool false, .slice none 0 0, .int .i64 0] 27))
 have Xm : Hid (Box W0 (w.heap.size) (.bool s) (.slice p m c)) := by rw [hW0]; constructor <;> go_simp
 have Xr : Hid (B3q W0 (w.heap.size + 1) (.bool false) (.slice none 0 0) (.int .i64 0)) := by rw [hW0]; constructor <;> go_simp
 have hb0 := bq2 hW0;rw [← hW0];clear hW0;have hbw := brf w;obtain ⟨gr, hgr⟩ := exq (w.heap.size + 1);have HGr : Hid (w.heap.size ≤ gr) := hgl hgr;rw [← hgr] at Xr
 try rw [← hgr]
 obtain ⟨gm, hgm⟩ := exq w.heap.size;have HGm : Hid (w.heap.size ≤ gm) := hgl hgm;rw [← hgm] at Xm
 try rw [← hgm]
 have HGD : Hid (gm ≠ gr ∧ gr ≠ gm) := by rw [hgm, hgr]; show _ ∧ _; omega
 clear hgm hgr;replace hbw := bon hbw hb0;clear hb0
 refine (zform (H.out.below hbw)).mono ?_
 rintro e v1 ⟨rfl, hb1⟩;replace Xm := Box.b Xm hb1;replace Xr := B3q.b Xr hb1;replace hbw := bon hbw hb1;clear hb1;obtain ⟨cm0, cm1, fm0, fm1⟩ := Xm.out;have hnem := Xm.out.lt;go_wp2_with fail;clear cm0 cm1 fm0 fm1 hnem
 refine (zsign (H.out.below hbw)).mono ?_
 rintro e v2 ⟨rfl, hb2⟩;obtain ⟨sg, hsg⟩ := exq (sgnI (z));rw [← hsg]
 have hs0 : (sg == 0) = false := by rw [hsg]; have := HZ.out; unfold sgnI; split <;> (try split) <;> simp <;> omega
 clear hsg;replace Xm := Box.b Xm hb2;replace Xr := B3q.b Xr hb2;replace hbw := bon hbw hb2;clear hb2;obtain ⟨cm0, cm1, fm0, fm1⟩ := Xm.out;have hnem := Xm.out.lt;go_wp2_with fail;clear cm0 cm1 fm0 fm1 hnem
 have hkb : k ≤ 524288 := by
  have h1 := (lim_bits z.natAbs).1 H.out.lim
  rcases hk with ⟨h0, _⟩ | ⟨_, h2, h3⟩
  ·exact absurd (Int.natAbs_eq_zero.1 h0) HZ.out
  ·have h4 : 2 ^ k ≤ z.natAbs := by
    rcases Nat.lt_or_ge z.natAbs (2 ^ k) with h | h
    ·rw [Nat.div_eq_of_lt h] at h3; omega
    ·exact h
   have h5 := bitsN_lt z.natAbs
   have h6 := (Nat.pow_lt_pow_iff_right (by omega : 1 < 2)).1 (Nat.lt_of_le_of_lt h4 h5)
   omega
 have HKB : Hid (k ≤ 524288) := hkb;clear hk hkb;obtain ⟨xs, hX⟩ := (H.out.below hbw).ex
 refine (trail_any hX.at_ (by have := hX.le; omega) (k := k) (by rw [hX.nf.val]; exact HK.out) (TB.out.below hbw)).mono ?_
 rintro e2 v3 ⟨rfl, hw⟩;obtain rfl := hw.symm;clear hw hX;go_wp2_with fail
 refine (moved_no k e _ (by have := HKB.out; omega) HR.out).mono ?_
 rintro e2 v4 ⟨rfl, hw⟩;obtain rfl := hw.symm;clear hw;obtain ⟨cr0, cr1, cr2, fr0, fr1, fr2⟩ := Xr.out;have hner : gr < v2.heap.size := blt cr0;go_wp2_with fail
 refine bodyPost_ret (v := .tuple #[DV false none 0 0 0, .int .i64 5]) (by rw [results_cell_tmp rfl]; go_simp) rfl ⟨.inr ⟨rfl, make_no HZ.out HK.out (by have := HE.out; omega) HR.out⟩, ?_⟩
 first | exact hbw | exact bSet (bSet (bSet hbw _ _ _ HGr.out) _ _ _ HGr.out) _ _ _ HGr.out
theorem makep_z {p : Option Addr} {m c : Nat} {w : World} {z e : Int} {s : Bool} (h : ZN w s p m c z) (hz : z = 0) :
  Calls Tryz.prog 44 #[ZV s p m c, .int .i64 e] w fun en w' => MakeP w.heap.size w' en z e ∧ Below w.heap.size w w' := by
 have H := hdQ h;subst hz;clear h
 go_enter Tryz.func44, Tryz.ntmps44
 go_wp2_with fail;obtain ⟨W0, hW0⟩ := exq ((w.alloc (.cells #[.bool s, .slice p m c] 25)).alloc (.cells #[.bool false, .slice none 0 0, .int .i64 0] 27))
 have Xm : Hid (Box W0 (w.heap.size) (.bool s) (.slice p m c)) := by rw [hW0]; constructor <;> go_simp
 have Xr : Hid (B3q W0 (w.heap.size + 1) (.bool false) (.slice none 0 0) (.int .i64 0)) := by rw [hW0]; constructor <;> go_simp
 have hb0 := bq2 hW0;rw [← hW0];clear hW0;have hbw := brf w;obtain ⟨gr, hgr⟩ := exq (w.heap.size + 1);have HGr : Hid (w.heap.size ≤ gr) := hgl hgr;rw [← hgr] at Xr
 try rw [← hgr]
 obtain ⟨gm, hgm⟩ := exq w.heap.size;have HGm : Hid (w.heap.size ≤ gm) := hgl hgm;rw [← hgm] at Xm
 try rw [← hgm]
 have HGD : Hid (gm ≠ gr ∧ gr ≠ gm) := by rw [hgm, hgr]; show _ ∧ _; omega
 clear hgm hgr;replace hbw := bon hbw hb0;clear hb0
 refine (zform (H.out.below hbw)).mono ?_
 rintro e v1 ⟨rfl, hb1⟩;replace Xm := Box.b Xm hb1;replace Xr := B3q.b Xr hb1;replace hbw := bon hbw hb1;clear hb1;obtain ⟨cm0, cm1, fm0, fm1⟩ := Xm.out;have hnem := Xm.out.lt;go_wp2_with fail;clear cm0 cm1 fm0 fm1 hnem
 refine (zsign (H.out.below hbw)).mono ?_
 rintro e v2 ⟨rfl, hb2⟩
 rw [show sgnI 0 = 0 from rfl]
 replace Xm := Box.b Xm hb2;replace Xr := B3q.b Xr hb2;replace hbw := bon hbw hb2;clear hb2;obtain ⟨cr0, cr1, cr2, fr0, fr1, fr2⟩ := Xr.out;have hner : gr < v2.heap.size := blt cr0;go_wp2_with fail
 refine bodyPost_ret (v := .tuple #[DV false none 0 0 0, .int .i64 0]) (by rw [results_cell_tmp rfl]; go_simp) rfl ⟨.inl ⟨_, 0, 0, rfl, ⟨none, 0, [], rfl, ⟨rfl, Dig.nil _, .inl rfl⟩, Nf.nil _, by omega⟩, .inl ⟨rfl, rfl⟩, by rw [dv_zero, dv_zero]⟩, ?_⟩
 first | exact hbw | exact bSet (bSet (bSet hbw _ _ _ HGr.out) _ _ _ HGr.out) _ _ _ HGr.out
theorem makep {p : Option Addr} {m c : Nat} {w : World} {z e : Int} {s : Bool} (h : ZN w s p m c z) (he : -3145728 ≤ e ∧ e ≤ 3145728) (hT : Tab w) :
  Calls Tryz.prog 44 #[ZV s p m c, .int .i64 e] w fun en w' => MakeP w.heap.size w' en z e ∧ Below w.heap.size w w' := by
 by_cases hz : z = 0
 ·exact makep_z h hz
 obtain ⟨k, hk⟩ := TzO.ex z.natAbs
 by_cases hr : -1048576 ≤ k + e ∧ k + e ≤ 1048576
 ·exact makep_n h he hT hz hk hr
 ·exact makep_e h he hT hz hk hr
def formD (s : Bool) (xs : List Nat) (e : Int) : Bool := formB xs && (decide (-1048576 ≤ e) && (decide (e ≤ 1048576) && (if xs.length = 0 then (!s && decide (e = 0)) else decide (xs.getD 0 0 % 2 = 1))))
theorem docformd_f {p : Option Addr} {m c : Nat} {xs : List Nat} {w : World} {e : Int} (s : Bool) (h : At w p m c xs) (hf : formB xs = false) :
  Calls Tryz.prog 22 #[DV s p m c e] w fun en w' => en = .returned (.bool false) ∧ Below w.heap.size w w' := by
 have H := hdQ h;have HF : Hid (formB xs = false) := hf;clear h hf
 go_enter Tryz.func22, Tryz.ntmps22
 go_wp2_with fail;obtain ⟨W0, hW0⟩ := exq (w.alloc (.cells #[.bool s, .slice p m c, .int .i64 e] 27))
 have Xd : Hid (B3q W0 (w.heap.size) (.bool s) (.slice p m c) (.int .i64 e)) := by rw [hW0]; constructor <;> go_simp
 have hb0 := bq1 hW0;rw [← hW0];clear hW0;have hbw := brf w;obtain ⟨gd, hgd⟩ := exq w.heap.size;have HGd : Hid (w.heap.size ≤ gd) := hgl hgd;rw [← hgd] at Xd
 try rw [← hgd]
 clear hgd;replace hbw := bon hbw hb0;clear hb0
 refine (docform_any (H.out.below hbw)).mono ?_
 rintro e2 v1 ⟨rfl, hw⟩;obtain rfl := hw.symm;clear hw;rw [HF.out];obtain ⟨cd0, cd1, cd2, fd0, fd1, fd2⟩ := Xd.out;have hned : gd < W0.heap.size := blt cd0;go_wp2_with fail;clear cd0 cd1 cd2 fd0 fd1 fd2 hned
 go_ret
 exact ⟨rfl, hbw⟩
theorem docformd_lo {p : Option Addr} {m c : Nat} {xs : List Nat} {w : World} {e : Int} (s : Bool) (h : At w p m c xs) (hf : formB xs = true) (h1 : e < -1048576) :
  Calls Tryz.prog 22 #[DV s p m c e] w fun en w' => en = .returned (.bool false) ∧ Below w.heap.size w w' := by
 have H := hdQ h;have HF : Hid (formB xs = true) := hf;clear h hf
 go_enter Tryz.func22, Tryz.ntmps22
 go_wp2_with fail;obtain ⟨W0, hW0⟩ := exq (w.alloc (.cells #[.bool s, .slice p m c, .int .i64 e] 27))
 have Xd : Hid (B3q W0 (w.heap.size) (.bool s) (.slice p m c) (.int .i64 e)) := by rw [hW0]; constructor <;> go_simp
 have hb0 := bq1 hW0;rw [← hW0];clear hW0;have hbw := brf w;obtain ⟨gd, hgd⟩ := exq w.heap.size;have HGd : Hid (w.heap.size ≤ gd) := hgl hgd;rw [← hgd] at Xd
 try rw [← hgd]
 clear hgd;replace hbw := bon hbw hb0;clear hb0
 refine (docform_any (H.out.below hbw)).mono ?_
 rintro e2 v1 ⟨rfl, hw⟩;obtain rfl := hw.symm;clear hw;rw [HF.out];obtain ⟨cd0, cd1, cd2, fd0, fd1, fd2⟩ := Xd.out;have hned : gd < W0.heap.size := blt cd0;go_wp2_with fail;clear cd0 cd1 cd2 fd0 fd1 fd2 hned
 go_ret
 exact ⟨rfl, hbw⟩
theorem docformd_hi {p : Option Addr} {m c : Nat} {xs : List Nat} {w : World} {e : Int} (s : Bool) (h : At w p m c xs) (hf : formB xs = true) (h0 : ¬ e < -1048576) (h1 : 1048576 < e) :
  Calls Tryz.prog 22 #[DV s p m c e] w fun en w' => en = .returned (.bool false) ∧ Below w.heap.size w w' := by
 have H := hdQ h;have HF : Hid (formB xs = true) := hf;clear h hf
 go_enter Tryz.func22, Tryz.ntmps22
 go_wp2_with fail;obtain ⟨W0, hW0⟩ := exq (w.alloc (.cells #[.bool s, .slice p m c, .int .i64 e] 27))
 have Xd : Hid (B3q W0 (w.heap.size) (.bool s) (.slice p m c) (.int .i64 e)) := by rw [hW0]; constructor <;> go_simp
 have hb0 := bq1 hW0;rw [← hW0];clear hW0;have hbw := brf w;obtain ⟨gd, hgd⟩ := exq w.heap.size;have HGd : Hid (w.heap.size ≤ gd) := hgl hgd;rw [← hgd] at Xd
 try rw [← hgd]
 clear hgd;replace hbw := bon hbw hb0;clear hb0
 refine (docform_any (H.out.below hbw)).mono ?_
 rintro e2 v1 ⟨rfl, hw⟩;obtain rfl := hw.symm;clear hw;rw [HF.out];obtain ⟨cd0, cd1, cd2, fd0, fd1, fd2⟩ := Xd.out;have hned : gd < W0.heap.size := blt cd0;go_wp2_with fail;clear cd0 cd1 cd2 fd0 fd1 fd2 hned
 go_ret
 exact ⟨rfl, hbw⟩
theorem docformd_z {p : Option Addr} {m c : Nat} {xs : List Nat} {w : World} {e : Int} (s : Bool) (h : At w p m c xs) (hf : formB xs = true) (h0 : ¬ e < -1048576) (h1 : ¬ 1048576 < e) (hm : m = 0) (bo : Bool) (hbo : bo = (!s && decide (e = 0))) :
  Calls Tryz.prog 22 #[DV s p m c e] w fun en w' => en = .returned (.bool bo) ∧ Below w.heap.size w w' := by
 have H := hdQ h;have HF : Hid (formB xs = true) := hf;subst hm;have HBO : Hid (bo = (!s && decide (e = 0))) := hbo;clear hbo h hf
 go_enter Tryz.func22, Tryz.ntmps22
 go_wp2_with fail;obtain ⟨W0, hW0⟩ := exq (w.alloc (.cells #[.bool s, .slice p 0 c, .int .i64 e] 27))
 have Xd : Hid (B3q W0 (w.heap.size) (.bool s) (.slice p 0 c) (.int .i64 e)) := by rw [hW0]; constructor <;> go_simp
 have hb0 := bq1 hW0;rw [← hW0];clear hW0;have hbw := brf w;obtain ⟨gd, hgd⟩ := exq w.heap.size;have HGd : Hid (w.heap.size ≤ gd) := hgl hgd;rw [← hgd] at Xd
 try rw [← hgd]
 clear hgd;replace hbw := bon hbw hb0;clear hb0
 refine (docform_any (H.out.below hbw)).mono ?_
 rintro e2 v1 ⟨rfl, hw⟩;obtain rfl := hw.symm;clear hw;rw [HF.out]
 cases s
 ·by_cases he : e = 0
  ·have h9 : (e == 0) = true := by simp [he]
   have hbo : bo = true := by rw [HBO.out, he]; rfl
   subst he;subst hbo;clear HBO;obtain ⟨cd0, cd1, cd2, fd0, fd1, fd2⟩ := Xd.out;have hned : gd < W0.heap.size := blt cd0;go_wp2_with fail;clear cd0 cd1 cd2 fd0 fd1 fd2 hned
   go_ret
   exact ⟨rfl, hbw⟩
  ·have h9 : (e == 0) = false := by simp [he]
   have hbo : bo = false := by rw [HBO.out, decide_eq_false he]; rfl
   subst hbo;clear HBO;obtain ⟨cd0, cd1, cd2, fd0, fd1, fd2⟩ := Xd.out;have hned : gd < W0.heap.size := blt cd0;go_wp2_with fail;clear cd0 cd1 cd2 fd0 fd1 fd2 hned
   go_ret
   exact ⟨rfl, hbw⟩
 ·have hbo : bo = false := by rw [HBO.out]; rfl
  subst hbo;clear HBO;obtain ⟨cd0, cd1, cd2, fd0, fd1, fd2⟩ := Xd.out;have hned : gd < W0.heap.size := blt cd0;go_wp2_with fail;clear cd0 cd1 cd2 fd0 fd1 fd2 hned
  go_ret
  exact ⟨rfl, hbw⟩
theorem docformd_n {p : Option Addr} {m c : Nat} {xs : List Nat} {w : World} {e : Int} (s : Bool) (h : At w p m c xs) (hf : formB xs = true) (h0 : ¬ e < -1048576) (h1 : ¬ 1048576 < e) (hm : 0 < m) (bo : Bool) (hbo : bo = decide (xs.getD 0 0 % 2 = 1)) :
  Calls Tryz.prog 22 #[DV s p m c e] w fun en w' => en = .returned (.bool bo) ∧ Below w.heap.size w w' := by
 have H := hdQ h;have HF : Hid (formB xs = true) := hf;have HMP : Hid (0 < m) := hm
 obtain ⟨g, off, rfl, hc⟩ := h.cells.resolve_left (by omega)
 have hc0 : w.cell? ⟨g, off, none⟩ = some (U (xs.getD 0 0)) := by have := hc 0 hm; rw [Nat.add_zero] at this; exact this
 have hx0 : xs.getD 0 0 < B64 := by
  have hl := h.len
  rw [List.getD_eq_getElem?_getD, List.getElem?_eq_getElem (by omega)]
  exact h.dig _ (List.getElem_mem _)
 obtain ⟨x0, hx⟩ := exq (xs.getD 0 0);rw [← hx] at hc0 hx0 hbo;have HC0 : Hid (w.cell? ⟨g, off, none⟩ = some (U x0)) := hc0;have HLT : Hid (g < w.heap.size) := World.block_lt_of_cell? w _ hc0;have f1 : bits BinOp.and IntKind.u64 (x0 : Int) 1 = ((x0 % 2 : Nat) : Int) := and_one_u64q x0 hx0
 have d3 : ((m : Int) == 0) = false := by simp; omega
 have d4 : ¬ m = 0 := by omega
 have HBO : Hid (bo = decide (x0 % 2 = 1)) := hbo;clear hc hc0 hx0 hx hbo hm h hf
 go_enter Tryz.func22, Tryz.ntmps22
 go_wp2_with fail;obtain ⟨W0, hW0⟩ := exq (w.alloc (.cells #[.bool s, .slice (some ⟨g, off, none⟩) m c, .int .i64 e] 27))
 have Xd : Hid (B3q W0 (w.heap.size) (.bool s) (.slice (some ⟨g, off, none⟩) m c) (.int .i64 e)) := by rw [hW0]; constructor <;> go_simp
 have hb0 := bq1 hW0;rw [← hW0];clear hW0;have hbw := brf w;obtain ⟨gd, hgd⟩ := exq w.heap.size;have HGd : Hid (w.heap.size ≤ gd) := hgl hgd;rw [← hgd] at Xd
 try rw [← hgd]
 clear hgd;replace hbw := bon hbw hb0;clear hb0
 refine (docform_any (H.out.below hbw)).mono ?_
 rintro e2 v1 ⟨rfl, hw⟩;obtain rfl := hw.symm;clear hw;rw [HF.out];have hc1 := (hbw.cell (p := ⟨g, off, none⟩) HLT.out).trans HC0.out;have hl1 : g < W0.heap.size := Nat.lt_of_lt_of_le HLT.out hbw.size
 rcases Nat.mod_two_eq_zero_or_one x0 with h5 | h5
 ·rw [h5] at f1
  have hbo : bo = false := by rw [HBO.out, h5]; rfl
  subst hbo;clear HBO h5;obtain ⟨cd0, cd1, cd2, fd0, fd1, fd2⟩ := Xd.out;have hned : gd < W0.heap.size := blt cd0;go_wp2_with fail;clear cd0 cd1 cd2 fd0 fd1 fd2 hned
  go_ret
  exact ⟨rfl, hbw⟩
 ·rw [h5] at f1
  have hbo : bo = true := by rw [HBO.out, h5]; rfl
  subst hbo;clear HBO h5;obtain ⟨cd0, cd1, cd2, fd0, fd1, fd2⟩ := Xd.out;have hned : gd < W0.heap.size := blt cd0;go_wp2_with fail;clear cd0 cd1 cd2 fd0 fd1 fd2 hned
  go_ret
  exact ⟨rfl, hbw⟩
theorem docformd {p : Option Addr} {m c : Nat} {xs : List Nat} {w : World} {e : Int} (s : Bool) (h : At w p m c xs) :
  Calls Tryz.prog 22 #[DV s p m c e] w fun en w' => en = .returned (.bool (formD s xs e)) ∧ Below w.heap.size w w' := by
 have hl := h.len
 cases hf : formB xs
 ·have h0 : formD s xs e = false := by unfold formD; rw [hf]; rfl
  rw [h0]
  exact docformd_f s h hf
 ·by_cases h1 : e < -1048576
  ·have h0 : formD s xs e = false := by unfold formD; rw [hf, decide_eq_false (p := -1048576 ≤ e) (by omega)]; rfl
   rw [h0]
   exact docformd_lo s h hf h1
  ·by_cases h2 : 1048576 < e
   ·have h0 : formD s xs e = false := by unfold formD; rw [hf, decide_eq_true (p := -1048576 ≤ e) (by omega), decide_eq_false (p := e ≤ 1048576) (by omega)]; rfl
    rw [h0]
    exact docformd_hi s h hf h1 h2
   ·rcases Nat.eq_zero_or_pos m with hm | hm
    ·exact docformd_z s h hf h1 h2 hm _ (by unfold formD; rw [hf, decide_eq_true (p := -1048576 ≤ e) (by omega), decide_eq_true (p := e ≤ 1048576) (by omega), if_pos (by omega)]; rfl)
    ·exact docformd_n s h hf h1 h2 hm _ (by unfold formD; rw [hf, decide_eq_true (p := -1048576 ≤ e) (by omega), decide_eq_true (p := e ≤ 1048576) (by omega), if_neg (by omega)]; rfl)
theorem val_mod2 (xs : List Nat) : valB B64 xs % 2 = xs.getD 0 0 % 2 := by
  cases xs with
  | nil => rfl
  | cons a r =>
    show (a + B64 * valB B64 r) % 2 = a % 2
    rw [B64_eq]
    omega
theorem formD_dn {p : Option Addr} {m c : Nat} {xs : List Nat} {w : World} {e : Int} {s : Bool} (h : At w p m c xs) (hf : formD s xs e = true) : DN w s p m c e (iv s (valB B64 xs)) := by
  unfold formD at hf
  simp only [Bool.and_eq_true, decide_eq_true_eq] at hf
  obtain ⟨h1, h2, h3, h4⟩ := hf;have hl := h.len;have hN := (formB_nf h1 h.dig);have hv := val_mod2 xs
  by_cases h0 : xs.length = 0
  · rw [if_pos h0] at h4
    simp only [Bool.and_eq_true, Bool.not_eq_true', decide_eq_true_eq] at h4
    obtain ⟨rfl, rfl⟩ := h4;have hx : xs = [] := List.eq_nil_of_length_eq_zero h0;subst hx
    exact ⟨⟨⟨[], h, by exact hN.1, by have := hN.2; omega⟩, rfl⟩, .inl ⟨rfl, rfl⟩⟩
  · rw [if_neg h0] at h4
    have h5 := of_decide_eq_true h4
    refine ⟨⟨⟨xs, h, by rw [iv_natAbs]; exact hN.1, by have := hN.2; omega⟩, ?_⟩, .inr ⟨?_, h2, h3⟩⟩
    · rw [iv_lt, decide_eq_true (p := 0 < valB B64 xs) (by omega), Bool.and_true]
    · cases s
      · show ((valB B64 xs : Nat) : Int) % 2 = 1; omega
      · show (-((valB B64 xs : Nat) : Int)) % 2 = 1; omega
def formZ (s : Bool) (xs : List Nat) : Bool := formB xs && !(s && decide (xs = []))
theorem formZ_num {w : World} {p : Option Addr} {m c : Nat} {xs : List Nat} {s : Bool} (h : At w p m c xs) (hf : formZ s xs = true) : Num w p m c xs (valB B64 xs) ∧ (s = true → 0 < valB B64 xs) := by
  unfold formZ at hf;rw [Bool.and_eq_true] at hf;obtain ⟨hN, hL⟩ := formB_nf hf.1 h.dig;rw [h.len] at hL
  refine ⟨⟨h, hN, hL⟩, fun hs => ?_⟩
  have h2 := hf.2;rw [hs] at h2
  simp at h2
  rcases Nat.eq_zero_or_pos (valB B64 xs) with e | e
  · exact absurd ((hN.zero_iff B64_one).2 e) h2
  · exact e
theorem numform_f {p : Option Addr} {n c : Nat} {xs : List Nat} {w : World} (s : Bool) (h : At w p n c xs) (hf : formZ s xs = false) :
  Calls Tryz.prog 40 #[ZV s p n c] w fun e w' => e = .returned (.bool false) ∧ Below w.heap.size w w' := by
 have H := hdQ h
 cases hb : formB xs
 ·clear h hf
  go_enter Tryz.func40, Tryz.ntmps40
  go_wp2_with fail
  refine (form_false (H.out.alloc _) hb).mono ?_
  rintro e w' ⟨rfl, hw⟩;obtain rfl := hw.symm;clear hw hb;go_wp2_with fail
  go_ret
  exact ⟨rfl, below1 w _⟩
 ·have hs : s = true ∧ xs = [] := by
   unfold formZ at hf;rw [hb] at hf
   simpa using hf
  obtain ⟨rfl, rfl⟩ := hs;obtain rfl : n = 0 := h.len.symm;clear h hf
  go_enter Tryz.func40, Tryz.ntmps40
  go_wp2_with fail
  refine (form_true (H.out.alloc _) hb).mono ?_
  rintro e w' ⟨rfl, hw⟩;obtain rfl := hw.symm;clear hw hb;go_wp2_with fail
  go_ret
  exact ⟨rfl, below1 w _⟩
theorem dform_f0 {p : Option Addr} {m c : Nat} {xs : List Nat} {w : World} {e : Int} (s : Bool) (h : At w p m c xs) (hf : formZ s xs = false) :
  Calls Tryz.prog 18 #[DV s p m c e] w fun en w' => en = .returned (.bool false) ∧ Below w.heap.size w w' := by
 have H := hdQ h;have HF : Hid (formZ s xs = false) := hf;clear h hf
 go_enter Tryz.func18, Tryz.ntmps18
 go_wp2_with fail;obtain ⟨W0, hW0⟩ := exq (w.alloc (.cells #[.bool s, .slice p m c, .int .i64 e] 27))
 have Xd : Hid (B3q W0 (w.heap.size) (.bool s) (.slice p m c) (.int .i64 e)) := by rw [hW0]; constructor <;> go_simp
 have hb0 := bq1 hW0;rw [← hW0];clear hW0;have hbw := brf w;obtain ⟨gd, hgd⟩ := exq w.heap.size;have HGd : Hid (w.heap.size ≤ gd) := hgl hgd;rw [← hgd] at Xd
 try rw [← hgd]
 clear hgd;replace hbw := bon hbw hb0;clear hb0
 refine (numform_f s (H.out.below hbw) HF.out).mono ?_
 rintro e v1 ⟨rfl, hb1⟩;replace Xd := B3q.b Xd hb1;replace hbw := bon hbw hb1;clear hb1;obtain ⟨cd0, cd1, cd2, fd0, fd1, fd2⟩ := Xd.out;have hned : gd < v1.heap.size := blt cd0;go_wp2_with fail;clear cd0 cd1 cd2 fd0 fd1 fd2 hned
 go_ret
 exact ⟨rfl, hbw⟩
theorem dform_fz {p : Option Addr} {m c : Nat} {w : World} {z e : Int} {s : Bool} (h : ZN w s p m c z) (hz : z = 0) (he : e ≠ 0) :
  Calls Tryz.prog 18 #[DV s p m c e] w fun en w' => en = .returned (.bool false) ∧ Below w.heap.size w w' := by
 subst hz
 have h1 : (e == 0) = false := by simp [he]
 clear he;have H := hdQ h;clear h
 go_enter Tryz.func18, Tryz.ntmps18
 go_wp2_with fail;obtain ⟨W0, hW0⟩ := exq (w.alloc (.cells #[.bool s, .slice p m c, .int .i64 e] 27))
 have Xd : Hid (B3q W0 (w.heap.size) (.bool s) (.slice p m c) (.int .i64 e)) := by rw [hW0]; constructor <;> go_simp
 have hb0 := bq1 hW0;rw [← hW0];clear hW0;have hbw := brf w;obtain ⟨gd, hgd⟩ := exq w.heap.size;have HGd : Hid (w.heap.size ≤ gd) := hgl hgd;rw [← hgd] at Xd
 try rw [← hgd]
 clear hgd;replace hbw := bon hbw hb0;clear hb0
 refine (zform (H.out.below hbw)).mono ?_
 rintro e v1 ⟨rfl, hb1⟩;replace Xd := B3q.b Xd hb1;replace hbw := bon hbw hb1;clear hb1;obtain ⟨cd0, cd1, cd2, fd0, fd1, fd2⟩ := Xd.out;have hned : gd < v1.heap.size := blt cd0;go_wp2_with fail;clear cd0 cd1 cd2 fd0 fd1 fd2 hned
 refine (zsign (H.out.below hbw)).mono ?_
 rintro e v2 ⟨rfl, hb2⟩
 rw [show sgnI 0 = 0 from rfl]
 replace Xd := B3q.b Xd hb2;replace hbw := bon hbw hb2;clear hb2;obtain ⟨cd0, cd1, cd2, fd0, fd1, fd2⟩ := Xd.out;have hned : gd < v2.heap.size := blt cd0;go_wp2_with fail;clear cd0 cd1 cd2 fd0 fd1 fd2 hned
 go_ret
 exact ⟨rfl, hbw⟩
theorem dform_fe {p : Option Addr} {m c : Nat} {w : World} {z e : Int} {s : Bool} (h : ZN w s p m c z) (hz : z % 2 = 0 ∧ z ≠ 0) :
  Calls Tryz.prog 18 #[DV s p m c e] w fun en w' => en = .returned (.bool false) ∧ Below w.heap.size w w' := by
 have H := hdQ h;have HZ : Hid (z % 2 = 0 ∧ z ≠ 0) := hz;clear hz h
 go_enter Tryz.func18, Tryz.ntmps18
 go_wp2_with fail;obtain ⟨W0, hW0⟩ := exq (w.alloc (.cells #[.bool s, .slice p m c, .int .i64 e] 27))
 have Xd : Hid (B3q W0 (w.heap.size) (.bool s) (.slice p m c) (.int .i64 e)) := by rw [hW0]; constructor <;> go_simp
 have hb0 := bq1 hW0;rw [← hW0];clear hW0;have hbw := brf w;obtain ⟨gd, hgd⟩ := exq w.heap.size;have HGd : Hid (w.heap.size ≤ gd) := hgl hgd;rw [← hgd] at Xd
 try rw [← hgd]
 clear hgd;replace hbw := bon hbw hb0;clear hb0
 refine (zform (H.out.below hbw)).mono ?_
 rintro e v1 ⟨rfl, hb1⟩;replace Xd := B3q.b Xd hb1;replace hbw := bon hbw hb1;clear hb1;obtain ⟨cd0, cd1, cd2, fd0, fd1, fd2⟩ := Xd.out;have hned : gd < v1.heap.size := blt cd0;go_wp2_with fail;clear cd0 cd1 cd2 fd0 fd1 fd2 hned
 refine (zsign (H.out.below hbw)).mono ?_
 rintro e v2 ⟨rfl, hb2⟩;obtain ⟨sg, hsg⟩ := exq (sgnI (z));rw [← hsg]
 have hs0 : (sg == 0) = false := by rw [hsg]; have := HZ.out; unfold sgnI; split <;> (try split) <;> simp <;> omega
 clear hsg;replace Xd := B3q.b Xd hb2;replace hbw := bon hbw hb2;clear hb2;obtain ⟨cd0, cd1, cd2, fd0, fd1, fd2⟩ := Xd.out;have hned : gd < v2.heap.size := blt cd0;go_wp2_with fail;clear cd0 cd1 cd2 fd0 fd1 fd2 hned;obtain ⟨xs, hX⟩ := (H.out.below hbw).ex
 refine (bit_int hX.at_ (by have := hX.le; omega) 0 (by decide)).mono ?_
 rintro e2 v3 ⟨rfl, hw⟩;obtain rfl := hw.symm;clear hw
 rw [show bitO (valB B64 xs) 0 = false from by unfold bitO; rw [if_neg (by omega), hX.nf.val]; simp; have := HZ.out; omega]
 clear hX;obtain ⟨cd0, cd1, cd2, fd0, fd1, fd2⟩ := Xd.out;have hned : gd < v2.heap.size := blt cd0;go_wp2_with fail;clear cd0 cd1 cd2 fd0 fd1 fd2 hned
 go_ret
 exact ⟨rfl, hbw⟩
theorem dform_fl {p : Option Addr} {m c : Nat} {w : World} {z e : Int} {s : Bool} (h : ZN w s p m c z) (hz : z % 2 = 1) (he : e < -1048576) :
  Calls Tryz.prog 18 #[DV s p m c e] w fun en w' => en = .returned (.bool false) ∧ Below w.heap.size w w' := by
 have H := hdQ h;have HZ : Hid (z % 2 = 1) := hz
 have h1 : ¬ (-1048576 : Int) ≤ e := by omega
 clear hz h
 go_enter Tryz.func18, Tryz.ntmps18
 go_wp2_with fail;obtain ⟨W0, hW0⟩ := exq (w.alloc (.cells #[.bool s, .slice p m c, .int .i64 e] 27))
 have Xd : Hid (B3q W0 (w.heap.size) (.bool s) (.slice p m c) (.int .i64 e)) := by rw [hW0]; constructor <;> go_simp
 have hb0 := bq1 hW0;rw [← hW0];clear hW0;have hbw := brf w;obtain ⟨gd, hgd⟩ := exq w.heap.size;have HGd : Hid (w.heap.size ≤ gd) := hgl hgd;rw [← hgd] at Xd
 try rw [← hgd]
 clear hgd;replace hbw := bon hbw hb0;clear hb0
 refine (zform (H.out.below hbw)).mono ?_
 rintro e v1 ⟨rfl, hb1⟩;replace Xd := B3q.b Xd hb1;replace hbw := bon hbw hb1;clear hb1;obtain ⟨cd0, cd1, cd2, fd0, fd1, fd2⟩ := Xd.out;have hned : gd < v1.heap.size := blt cd0;go_wp2_with fail;clear cd0 cd1 cd2 fd0 fd1 fd2 hned
 refine (zsign (H.out.below hbw)).mono ?_
 rintro e v2 ⟨rfl, hb2⟩;obtain ⟨sg, hsg⟩ := exq (sgnI (z));rw [← hsg]
 have hs0 : (sg == 0) = false := by rw [hsg]; have := HZ.out; unfold sgnI; split <;> (try split) <;> simp <;> omega
 clear hsg;replace Xd := B3q.b Xd hb2;replace hbw := bon hbw hb2;clear hb2;obtain ⟨cd0, cd1, cd2, fd0, fd1, fd2⟩ := Xd.out;have hned : gd < v2.heap.size := blt cd0;go_wp2_with fail;clear cd0 cd1 cd2 fd0 fd1 fd2 hned;obtain ⟨xs, hX⟩ := (H.out.below hbw).ex
 refine (bit_int hX.at_ (by have := hX.le; omega) 0 (by decide)).mono ?_
 rintro e2 v3 ⟨rfl, hw⟩;obtain rfl := hw.symm;clear hw
 rw [show bitO (valB B64 xs) 0 = true from by unfold bitO; rw [if_neg (by omega), hX.nf.val]; simp; have := HZ.out; omega]
 clear hX;obtain ⟨cd0, cd1, cd2, fd0, fd1, fd2⟩ := Xd.out;have hned : gd < v2.heap.size := blt cd0;go_wp2_with fail;clear cd0 cd1 cd2 fd0 fd1 fd2 hned
 go_ret
 exact ⟨rfl, hbw⟩
theorem dform_fh {p : Option Addr} {m c : Nat} {w : World} {z e : Int} {s : Bool} (h : ZN w s p m c z) (hz : z % 2 = 1) (he : 1048576 < e) :
  Calls Tryz.prog 18 #[DV s p m c e] w fun en w' => en = .returned (.bool false) ∧ Below w.heap.size w w' := by
 have H := hdQ h;have HZ : Hid (z % 2 = 1) := hz
 have h1 : (-1048576 : Int) ≤ e := by omega
 have h2 : ¬ e ≤ (1048576 : Int) := by omega
 have h3 : ¬ e < (-1048576 : Int) := by omega
 clear hz h
 go_enter Tryz.func18, Tryz.ntmps18
 go_wp2_with fail;obtain ⟨W0, hW0⟩ := exq (w.alloc (.cells #[.bool s, .slice p m c, .int .i64 e] 27))
 have Xd : Hid (B3q W0 (w.heap.size) (.bool s) (.slice p m c) (.int .i64 e)) := by rw [hW0]; constructor <;> go_simp
 have hb0 := bq1 hW0;rw [← hW0];clear hW0;have hbw := brf w;obtain ⟨gd, hgd⟩ := exq w.heap.size;have HGd : Hid (w.heap.size ≤ gd) := hgl hgd;rw [← hgd] at Xd
 try rw [← hgd]
 clear hgd;replace hbw := bon hbw hb0;clear hb0
 refine (zform (H.out.below hbw)).mono ?_
 rintro e v1 ⟨rfl, hb1⟩;replace Xd := B3q.b Xd hb1;replace hbw := bon hbw hb1;clear hb1;obtain ⟨cd0, cd1, cd2, fd0, fd1, fd2⟩ := Xd.out;have hned : gd < v1.heap.size := blt cd0;go_wp2_with fail;clear cd0 cd1 cd2 fd0 fd1 fd2 hned
 refine (zsign (H.out.below hbw)).mono ?_
 rintro e v2 ⟨rfl, hb2⟩;obtain ⟨sg, hsg⟩ := exq (sgnI (z));rw [← hsg]
 have hs0 : (sg == 0) = false := by rw [hsg]; have := HZ.out; unfold sgnI; split <;> (try split) <;> simp <;> omega
 clear hsg;replace Xd := B3q.b Xd hb2;replace hbw := bon hbw hb2;clear hb2;obtain ⟨cd0, cd1, cd2, fd0, fd1, fd2⟩ := Xd.out;have hned : gd < v2.heap.size := blt cd0;go_wp2_with fail;clear cd0 cd1 cd2 fd0 fd1 fd2 hned;obtain ⟨xs, hX⟩ := (H.out.below hbw).ex
 refine (bit_int hX.at_ (by have := hX.le; omega) 0 (by decide)).mono ?_
 rintro e2 v3 ⟨rfl, hw⟩;obtain rfl := hw.symm;clear hw
 rw [show bitO (valB B64 xs) 0 = true from by unfold bitO; rw [if_neg (by omega), hX.nf.val]; simp; have := HZ.out; omega]
 clear hX;obtain ⟨cd0, cd1, cd2, fd0, fd1, fd2⟩ := Xd.out;have hned : gd < v2.heap.size := blt cd0;go_wp2_with fail;clear cd0 cd1 cd2 fd0 fd1 fd2 hned
 go_ret
 refine ⟨?_, hbw⟩
 show Ending.returned (.bool (decide (e ≤ 1048576))) = _
 rw [decide_eq_false (by omega)]
theorem dform_f {p : Option Addr} {m c : Nat} {xs : List Nat} {w : World} {e : Int} (s : Bool) (h : At w p m c xs) (hf : formD s xs e = false) :
  Calls Tryz.prog 18 #[DV s p m c e] w fun en w' => en = .returned (.bool false) ∧ Below w.heap.size w w' := by
 cases hz : formZ s xs
 ·exact dform_f0 s h hz
 obtain ⟨hN, hs⟩ := formZ_num h hz;have hZ : ZN w s p m c (iv s (valB B64 xs)) := ZN.of hN hs;unfold formZ at hz;rw [Bool.and_eq_true] at hz;unfold formD at hf;rw [hz.1, Bool.true_and] at hf;have hv := val_mod2 xs
 by_cases h0 : xs.length = 0
 ·have hx : xs = [] := List.length_eq_zero_iff.1 h0
  subst hx
  have hs2 : s = false := by
   have := hz.2
   cases s
   ·rfl
   ·simp at this
  subst hs2
  refine dform_fz hZ rfl ?_
  intro h9
  subst h9
  simp at hf
 ·rw [if_neg h0] at hf
  have hne : valB B64 xs ≠ 0 := by
   intro h9
   have h8 := hN.zero;have h7 := hN.at_.len;rw [h9] at h8;have := h8.2 rfl
   omega
  by_cases h5 : xs.getD 0 0 % 2 = 1
  ·rw [decide_eq_true h5, Bool.and_true] at hf
   have ho : iv s (valB B64 xs) % 2 = 1 := by cases s <;> simp only [iv] <;> simp <;> omega
   rcases Int.lt_or_le e (-1048576) with h6 | h6
   ·exact dform_fl hZ ho h6
   ·rcases Int.lt_or_le 1048576 e with h7 | h7
    ·exact dform_fh hZ ho h7
    ·rw [decide_eq_true h6, decide_eq_true h7] at hf
     exact absurd hf (by decide)
  ·refine dform_fe hZ ?_
   cases s <;> simp only [iv] <;> simp <;> omega
theorem dn_formD {p : Option Addr} {m c : Nat} {xs : List Nat} {w : World} {z e : Int} {s : Bool} (h : DN w s p m c e z) (hX : Num w p m c xs z.natAbs) : formD s xs e = true := by
  have h1 := hX.nf.form (by rw [hX.at_.len]; exact hX.le)
  have hv := val_mod2 xs;have hval : valB B64 xs = z.natAbs := hX.nf.val;have hsg := h.zn.sg;unfold formD
  rcases h.fm with ⟨h2, h3⟩ | ⟨h2, h3, h4⟩
  · subst h2
    subst h3;have hx : xs = [] := (hX.nf.zero_iff B64_one).2 rfl;subst hx;rw [h1, hsg]
    rfl
  · have h0 : ¬ xs.length = 0 := by
      intro e0
      have hx : xs = [] := List.eq_nil_of_length_eq_zero e0;subst hx;have : z.natAbs = 0 := hval.symm
      omega
    rw [h1, decide_eq_true h3, decide_eq_true h4, if_neg h0, decide_eq_true (p := xs.getD 0 0 % 2 = 1) (by omega)]
    rfl
theorem sameD_t {p q : Option Addr} {m c n d : Nat} {w : World} {z e : Int} {s t : Bool} (h : DN w s p m c e z) (k : DN w t q n d e z) :
  Calls Tryz.prog 14 #[DV s p m c e, DV t q n d e] w fun en w' => en = .returned (.bool true) ∧ Below w.heap.size w w' := by
 obtain rfl : s = t := by rw [h.zn.sg, k.zn.sg]
 have H := hdQ h;have K := hdQ k
 have hbb : (s == s) = true := by simp
 have hee : (e == e) = true := by simp
 clear h k
 go_enter Tryz.func14, Tryz.ntmps14
 go_wp2_with fail;obtain ⟨W0, hW0⟩ := exq ((w.alloc (.cells #[.bool s, .slice p m c, .int .i64 e] 27)).alloc (.cells #[.bool s, .slice q n d, .int .i64 e] 27))
 have Xa : Hid (B3q W0 (w.heap.size) (.bool s) (.slice p m c) (.int .i64 e)) := by rw [hW0]; constructor <;> go_simp
 have Xb : Hid (B3q W0 (w.heap.size + 1) (.bool s) (.slice q n d) (.int .i64 e)) := by rw [hW0]; constructor <;> go_simp
 have hb0 := bq2 hW0;rw [← hW0];clear hW0;have hbw := brf w;obtain ⟨gb, hgb⟩ := exq (w.heap.size + 1);have HGb : Hid (w.heap.size ≤ gb) := hgl hgb;rw [← hgb] at Xb
 try rw [← hgb]
 obtain ⟨ga, hga⟩ := exq w.heap.size;have HGa : Hid (w.heap.size ≤ ga) := hgl hga;rw [← hga] at Xa
 try rw [← hga]
 have HGD : Hid (ga ≠ gb ∧ gb ≠ ga) := by rw [hga, hgb]; show _ ∧ _; omega
 clear hga hgb;replace hbw := bon hbw hb0;clear hb0;obtain ⟨xs, hX⟩ := (H.out.zn.below hbw).ex;obtain ⟨ys, hY⟩ := (K.out.zn.below hbw).ex;obtain rfl := hX.nf.inj B64_one hY.nf
 refine (same_t hX.at_ hY.at_).mono ?_
 rintro e2 v1 ⟨rfl, hb1⟩;clear hX hY;replace Xa := B3q.b Xa hb1;replace Xb := B3q.b Xb hb1;replace hbw := bon hbw hb1;clear hb1;go_wp2_with fail
 go_ret
 exact ⟨rfl, hbw⟩
structure RSubR (w : World) (g N : Nat) (xs ys : List Nat) (i ow : Nat) (ss : List Nat) (wr : World) : Prop where
 bel : Below g w wr
 own : wr.ownsRow g 114 1 (.slice (some ⟨g, 0, none⟩) i N) i (cellsV ss)
 len : ss.length = i
 dig : Dig B32 ss
 car : ow ≤ 1
 sum : valB B32 ss + valB B32 (ys.take i) = valB B32 (xs.take i) + B32 ^ i * ow
theorem rsub_step {xs ys ss : List Nat} {i ow x y lo o2 : Nat} (h : valB B32 ss + valB B32 (ys.take i) = valB B32 (xs.take i) + B32 ^ i * ow) (hl : ss.length = i) (ex : x = xs.getD i 0) (ey : y = ys.getD i 0) (hs : lo + ow + y = x + B32 * o2) :
  valB B32 (ss ++ [lo]) + valB B32 (ys.take (i + 1)) = valB B32 (xs.take (i + 1)) + B32 ^ (i + 1) * o2 := by
 rw [valB_snoc, hl, valB_take_any _ xs i, valB_take_any _ ys i, ← ex, ← ey, Nat.pow_succ]
 have e1 : B32 ^ i * (lo + ow + y) = B32 ^ i * (x + B32 * o2) := by rw [hs]
 rw [Nat.mul_add, Nat.mul_add, Nat.mul_add, ← Nat.mul_assoc] at e1
 omega
theorem RSubR.at_ {w : World} {g N : Nat} {xs ys : List Nat} {i cy : Nat} {ss : List Nat} {wr : World} (h : RSubR w g N xs ys i cy ss wr) : At32 wr (some ⟨g, 0, none⟩) i N ss := by
  rcases h.own.2 with ⟨h', _⟩ | ⟨g', cap', cur, h', hbase, hgc, hcap', hmx, hsz, htake⟩
  · simp at h'
  · simp only [Value.slice.injEq, Option.some.injEq, Addr.mk.injEq, and_true, true_and] at h'
    obtain ⟨rfl, rfl⟩ := h'
    refine ⟨h.len, hcap', hmx, h.dig, .inr ⟨g, 0, rfl, fun jj hj => ?_⟩⟩
    rw [Nat.zero_add, cell_of_row wr g jj _ _ _ hgc]
    have e1 := cellsV_get ss jj (by rw [h.len]; exact hj)
    rw [← htake, Nat.mul_one, List.getElem?_take, if_pos hj] at e1;rw [← Array.getElem?_toList]; exact e1

theorem rsub_gt {p q : Option Addr} {n m c d : Nat} {xs ys : List Nat} {a b : Nat} {w : World} (h : At32 w p n c xs) (k : At32 w q m d ys) (hx : Nf B32 xs a) (hy : Nf B32 ys b) (hn : n ≤ 4398046511104) (hlt : b < a) :
  Calls Tryz.prog 135 #[.slice p n c, .slice q m d] w fun e w' => ∃ p' m' zs, e = .returned (.slice p' m' m') ∧ At32 w' p' m' m' zs ∧ Nf B32 zs (a - b) ∧ m' ≤ n ∧ Below w.heap.size w w' := by
 obtain ⟨i0, hi, hz0, hz1, hz2⟩ := info_parts Tryz.infoU32;have HX := hdQ hx;have HY := hdQ hy;have HLX : Hid (xs.length = n) := h.len;have HLY : Hid (ys.length = m) := k.len;have HLT : Hid (b < a) := hlt
 have hmn : m ≤ n := by
  rcases Nat.lt_or_ge n m with e | e
  ·exfalso
   have h1 := nf32_lt hx (K := n) (by rw [h.len]; exact Nat.le_refl _)
   have h2 := nf32_ge hy (K := n) (by rw [k.len]; exact e)
   omega
  ·exact e
 have hcap := h.cap; have hbig := h.big; have kcap := k.cap; have kbig := k.big;unfold maxLen at hbig kbig;have HA := hdQ h;have HB := hdQ k;clear hx hy h k hlt
 go_enter Tryz.func135, Tryz.ntmps135
 go_wp2_with fail
 refine (rcmp_any HA.out HB.out HX.out HY.out).mono ?_
 rintro e w' ⟨rfl, r, rfl⟩;rw [cmpN_gt HLT.out];have h := HA.out.drewN r;have k := HB.out.drewN r;have hb0 : Below w.heap.size w (w.drewN r) := bDrewN (Below.refl _ _) r;clear HA HB;generalize w.drewN r = w0 at *
 go_wp2_with (at_make; refine wpList_make_own _ rfl _ _ 54 rfl w0.heap.size 114 i0 (.int .u32 0) 1 Tryz.underlying54 hi hz0 hz1 _ _ _ n rfl rfl (by omega) (by rw [hz2]; omega) (by unfold maxLen; omega) (Nat.le_refl _) ?_; intro w1 hown hgrow)
 have hb1 : Below w0.heap.size w0 w1 := (Below.refl _ _).grown hgrow (Nat.le_refl _) (fun k hk => by simp at hk)
 have HO : Hid (RSubR w0 w0.heap.size n xs ys 0 0 [] w1) := ⟨hb1, hown, rfl, Dig.nil _, by omega, by simp [valB]⟩
 clear hown hgrow hb1
 go_loopg [5, 6, 7] n (fun gk sv ov iv wr => ∃ (i ow : Nat) (ss : List Nat), i + gk = n ∧ iv = .int .i64 i ∧ ov = U ow ∧ sv = .slice (some ⟨w0.heap.size, 0, none⟩) i n ∧ Hid (RSubR w0 w0.heap.size n xs ys i ow ss wr))
 case atStart => exact ⟨0, 0, [], by omega, rfl, rfl, rfl, HO⟩
 case round =>
  obtain ⟨i, ow, ss, hig, rfl, rfl, rfl, HR⟩ := hrel;have how := HR.out.car
  cases gk with
  | zero =>
   obtain rfl : i = n := by omega
   have A32 := HR.out.at_;have hv := HR.out.sum
   rw [List.take_of_length_le (l := ys) (by rw [HLY.out]; omega), List.take_of_length_le (l := xs) (by rw [HLX.out]; omega), HX.out.val, HY.out.val] at hv
   have hvl := valB_lt B32_pos HR.out.dig;rw [HR.out.len] at hvl;have hsv : valB B32 ss = a - b := sub_abs hv hvl how (Nat.le_of_lt HLT.out)
   have HNF : Hid (Nf B32 (trimL ss) (a - b)) := by
    have := Nf.trim HR.out.dig;rw [hsv] at this; exact this
   have hle := trimL_length_le ss
   have HLE : Hid ((trimL ss).length ≤ i) := by have := HR.out.len; show _ ≤ _; omega
   have hbx := HR.out.bel
   have hni : ¬ (i : Int) < (i : Int) := by omega
   clear hv hle hvl hsv;go_wp2_with fail
   refine (rnorm_any A32 (by omega)).mono ?_
   rintro e w5 ⟨g5, rfl, hg5, hblk5, hb5⟩;have hd5 := HNF.out.dig;generalize trimL ss = zs at *;go_wp2_with fail
   go_ret
   exact ⟨_, _, zs, rfl, hblk5.at_ hd5 rfl (by have := HLE.out; unfold maxLen; omega), HNF.out, HLE.out, Below.on hb0 (Below.on hbx hb5)⟩
  | succ gg =>
   obtain ⟨x, hx⟩ := exq (xs.getD i 0);obtain ⟨y, hy⟩ := exq (ys.getD i 0)
   have hxb : x < B32 := by rw [hx]; exact HX.out.dig.getD B32_pos i
   have hyb : y < B32 := by rw [hy]; exact HY.out.dig.getD B32_pos i
   have HXE : Hid (x = xs.getD i 0) := hx;have HYE : Hid (y = ys.getD i 0) := hy
   have hin : i < n := by omega
   obtain ⟨g, off, rfl, hc⟩ := h.cells.resolve_left (by omega)
   have hcx0 : w0.cell? ⟨g, off + i, none⟩ = some (V x) := by rw [HXE.out]; exact hc i hin
   have hcx : wr.cell? ⟨g, off + i, none⟩ = some (V x) := (HR.out.bel.cell (p := ⟨g, off + i, none⟩) (World.block_lt_of_cell? w0 _ hcx0)).trans hcx0
   have hxw : IntKind.u64.wrap (x : Int) = (x : Int) := wrap_mod _ _ (by rw [B32_eq] at hxb; omega)
   have hyw : IntKind.u64.wrap (y : Int) = (y : Int) := wrap_mod _ _ (by rw [B32_eq] at hyb; omega)
   rw [B32_eq] at hxb hyb
   have hsp : i + 1 ≤ n := by omega
   clear hc hcx0 hx hy
   by_cases hb : i < m
   ·have him : i < m := hb
    obtain ⟨g2, off2, rfl, hc2⟩ := k.cells.resolve_left (by omega)
    have hcy0 : w0.cell? ⟨g2, off2 + i, none⟩ = some (V y) := by rw [HYE.out]; exact hc2 i him
    have hcy1 : wr.cell? ⟨g2, off2 + i, none⟩ = some (V y) := (HR.out.bel.cell (p := ⟨g2, off2 + i, none⟩) (World.block_lt_of_cell? w0 _ hcy0)).trans hcy0;clear hc2 hcy0;obtain ⟨t, et⟩ := exq (ow + y)
    have f1 : IntKind.u64.wrap ((ow : Int) + (y : Int)) = (t : Int) := wrap_mod _ _ (by omega)
    by_cases hu : x < t
    ·obtain ⟨x2, ex2⟩ := exq (x + 4294967296)
     have f2 : IntKind.u64.wrap ((x : Int) + 4294967296) = (x2 : Int) := wrap_mod _ _ (by omega)
     obtain ⟨lo, elo⟩ := exq (x2 - t)
     have f3 : IntKind.u64.wrap ((x2 : Int) - (t : Int)) = (lo : Int) := wrap_mod _ _ (by omega)
     have hui : (x : Int) < (t : Int) := by omega
     have hlob : lo < B32 := by rw [B32_eq]; omega
     have f6 : IntKind.u32.wrap (lo : Int) = (lo : Int) := wrap32 lo hlob
     have f7 : (lo : Int) % 4294967296 = (lo : Int) := by rw [B32_eq] at hlob; omega
     have HSUM : Hid (lo + ow + y = x + B32 * 1) := by show _ = _; rw [B32_eq]; omega
     have HOA : Hid ((wr.alloc (.cells #[V lo] 114)).ownsRow w0.heap.size 114 1 (.slice (some ⟨w0.heap.size, 0, none⟩) i n) i (cellsV ss)) := HR.out.own.alloc _;clear elo ex2 et hxb hyb
     go_wp2_with (at_builtin; refine wpList_append_fits _ rfl (.tmp 46) (.tmp 51) 54 rfl w0.heap.size 114 i0 1 Tryz.underlying54 hi hz1 w0.heap.size i n (cellsV ss) rfl HOA.out ⟨wr.heap.size, 0, none⟩ 1 1 [V lo] rfl rfl (one_cell wr lo) (by intro u hu; simp at hu; subst hu; rfl) hsp ?_; intro w3 hw3 hgr3)
     have HR3 : Hid (RSubR w0 w0.heap.size n xs ys (i + 1) 1 (ss ++ [lo]) w3) := by
      have hR := HR.out
      refine ⟨(hR.bel.alloc hR.bel.size _).grown hgr3 (by have := hR.bel.size; simp; omega) (fun q hq => by simp at hq; omega), ?_, by simp [hR.len], hR.dig.append (Dig.cons hlob (Dig.nil _)), by omega, rsub_step hR.sum hR.len HXE.out HYE.out HSUM.out⟩
      have e0 : cellsV (ss ++ [lo]) = cellsV ss ++ [V lo] := by unfold cellsV; rw [List.map_append]; rfl
      rw [e0]; exact hw3
     clear hw3 hgr3
     go_roundg gg
     case measure => omega
     case rel => exact ⟨i + 1, 1, ss ++ [lo], by omega, by go_num, rfl, rfl, HR3⟩
    ·obtain ⟨lo, elo⟩ := exq (x - t)
     have f3 : IntKind.u64.wrap ((x : Int) - (t : Int)) = (lo : Int) := wrap_mod _ _ (by omega)
     have hui : ¬ (x : Int) < (t : Int) := by omega
     have hlob : lo < B32 := by rw [B32_eq]; omega
     have f6 : IntKind.u32.wrap (lo : Int) = (lo : Int) := wrap32 lo hlob
     have f7 : (lo : Int) % 4294967296 = (lo : Int) := by rw [B32_eq] at hlob; omega
     have HSUM : Hid (lo + ow + y = x + B32 * 0) := by show _ = _; rw [B32_eq]; omega
     have HOA : Hid ((wr.alloc (.cells #[V lo] 114)).ownsRow w0.heap.size 114 1 (.slice (some ⟨w0.heap.size, 0, none⟩) i n) i (cellsV ss)) := HR.out.own.alloc _;clear elo et hxb hyb
     go_wp2_with (at_builtin; refine wpList_append_fits _ rfl (.tmp 46) (.tmp 51) 54 rfl w0.heap.size 114 i0 1 Tryz.underlying54 hi hz1 w0.heap.size i n (cellsV ss) rfl HOA.out ⟨wr.heap.size, 0, none⟩ 1 1 [V lo] rfl rfl (one_cell wr lo) (by intro u hu; simp at hu; subst hu; rfl) hsp ?_; intro w3 hw3 hgr3)
     have HR3 : Hid (RSubR w0 w0.heap.size n xs ys (i + 1) 0 (ss ++ [lo]) w3) := by
      have hR := HR.out
      refine ⟨(hR.bel.alloc hR.bel.size _).grown hgr3 (by have := hR.bel.size; simp; omega) (fun q hq => by simp at hq; omega), ?_, by simp [hR.len], hR.dig.append (Dig.cons hlob (Dig.nil _)), by omega, rsub_step hR.sum hR.len HXE.out HYE.out HSUM.out⟩
      have e0 : cellsV (ss ++ [lo]) = cellsV ss ++ [V lo] := by unfold cellsV; rw [List.map_append]; rfl
      rw [e0]; exact hw3
     clear hw3 hgr3
     go_roundg gg
     case measure => omega
     case rel => exact ⟨i + 1, 0, ss ++ [lo], by omega, by go_num, rfl, rfl, HR3⟩
   ·have hy0 : y = 0 := by rw [HYE.out, List.getD_eq_getElem?_getD, List.getElem?_eq_none (by rw [HLY.out]; omega)]; rfl
    have HY0 : Hid (y = 0) := hy0;clear hy0
    by_cases hu : x < ow
    ·obtain ⟨x2, ex2⟩ := exq (x + 4294967296)
     have f2 : IntKind.u64.wrap ((x : Int) + 4294967296) = (x2 : Int) := wrap_mod _ _ (by omega)
     obtain ⟨lo, elo⟩ := exq (x2 - ow)
     have f3 : IntKind.u64.wrap ((x2 : Int) - (ow : Int)) = (lo : Int) := wrap_mod _ _ (by omega)
     have hui : (x : Int) < (ow : Int) := by omega
     have hlob : lo < B32 := by rw [B32_eq]; omega
     have f6 : IntKind.u32.wrap (lo : Int) = (lo : Int) := wrap32 lo hlob
     have f7 : (lo : Int) % 4294967296 = (lo : Int) := by rw [B32_eq] at hlob; omega
     have HSUM : Hid (lo + ow + y = x + B32 * 1) := by have h0 := HY0.out; show _ = _; rw [B32_eq]; omega
     have HOA : Hid ((wr.alloc (.cells #[V lo] 114)).ownsRow w0.heap.size 114 1 (.slice (some ⟨w0.heap.size, 0, none⟩) i n) i (cellsV ss)) := HR.out.own.alloc _;clear elo ex2 hxb hyb
     go_wp2_with (at_builtin; refine wpList_append_fits _ rfl (.tmp 46) (.tmp 51) 54 rfl w0.heap.size 114 i0 1 Tryz.underlying54 hi hz1 w0.heap.size i n (cellsV ss) rfl HOA.out ⟨wr.heap.size, 0, none⟩ 1 1 [V lo] rfl rfl (one_cell wr lo) (by intro u hu; simp at hu; subst hu; rfl) hsp ?_; intro w3 hw3 hgr3)
     have HR3 : Hid (RSubR w0 w0.heap.size n xs ys (i + 1) 1 (ss ++ [lo]) w3) := by
      have hR := HR.out
      refine ⟨(hR.bel.alloc hR.bel.size _).grown hgr3 (by have := hR.bel.size; simp; omega) (fun q hq => by simp at hq; omega), ?_, by simp [hR.len], hR.dig.append (Dig.cons hlob (Dig.nil _)), by omega, rsub_step hR.sum hR.len HXE.out HYE.out HSUM.out⟩
      have e0 : cellsV (ss ++ [lo]) = cellsV ss ++ [V lo] := by unfold cellsV; rw [List.map_append]; rfl
      rw [e0]; exact hw3
     clear hw3 hgr3
     go_roundg gg
     case measure => omega
     case rel => exact ⟨i + 1, 1, ss ++ [lo], by omega, by go_num, rfl, rfl, HR3⟩
    ·obtain ⟨lo, elo⟩ := exq (x - ow)
     have f3 : IntKind.u64.wrap ((x : Int) - (ow : Int)) = (lo : Int) := wrap_mod _ _ (by omega)
     have hui : ¬ (x : Int) < (ow : Int) := by omega
     have hlob : lo < B32 := by rw [B32_eq]; omega
     have f6 : IntKind.u32.wrap (lo : Int) = (lo : Int) := wrap32 lo hlob
     have f7 : (lo : Int) % 4294967296 = (lo : Int) := by rw [B32_eq] at hlob; omega
     have HSUM : Hid (lo + ow + y = x + B32 * 0) := by have h0 := HY0.out; show _ = _; rw [B32_eq]; omega
     have HOA : Hid ((wr.alloc (.cells #[V lo] 114)).ownsRow w0.heap.size 114 1 (.slice (some ⟨w0.heap.size, 0, none⟩) i n) i (cellsV ss)) := HR.out.own.alloc _;clear elo hxb hyb
     go_wp2_with (at_builtin; refine wpList_append_fits _ rfl (.tmp 46) (.tmp 51) 54 rfl w0.heap.size 114 i0 1 Tryz.underlying54 hi hz1 w0.heap.size i n (cellsV ss) rfl HOA.out ⟨wr.heap.size, 0, none⟩ 1 1 [V lo] rfl rfl (one_cell wr lo) (by intro u hu; simp at hu; subst hu; rfl) hsp ?_; intro w3 hw3 hgr3)
     have HR3 : Hid (RSubR w0 w0.heap.size n xs ys (i + 1) 0 (ss ++ [lo]) w3) := by
      have hR := HR.out
      refine ⟨(hR.bel.alloc hR.bel.size _).grown hgr3 (by have := hR.bel.size; simp; omega) (fun q hq => by simp at hq; omega), ?_, by simp [hR.len], hR.dig.append (Dig.cons hlob (Dig.nil _)), by omega, rsub_step hR.sum hR.len HXE.out HYE.out HSUM.out⟩
      have e0 : cellsV (ss ++ [lo]) = cellsV ss ++ [V lo] := by unfold cellsV; rw [List.map_append]; rfl
      rw [e0]; exact hw3
     clear hw3 hgr3
     go_roundg gg
     case measure => omega
     case rel => exact ⟨i + 1, 0, ss ++ [lo], by omega, by go_num, rfl, rfl, HR3⟩

theorem lit_at32q (w : World) (x y : Nat) (hx : x < B32) (hy : y < B32) : At32 (w.alloc (.cells #[V x, V y] 114)) (some ⟨w.heap.size, 0, none⟩) 2 2 [x, y] := by
  refine ⟨rfl, Nat.le_refl _, by decide, ?_, .inr ⟨w.heap.size, 0, rfl, ?_⟩⟩
  · intro z hz
    simp at hz
    rcases hz with rfl | rfl <;> assumption
  · intro j hj
    match j, hj with
    | 0, _ => exact World.cell?_alloc_new ..
    | 1, _ => exact World.cell?_alloc_new ..
theorem nf32_nilq : Nf B32 [] 0 := ⟨Dig.nil _, by intro x hx; simp at hx, rfl⟩
theorem rword0 (w : World) : Calls Tryz.prog 52 #[.int .u64 0] w fun e w' => ∃ g, e = .returned (.slice (some ⟨g, 0, none⟩) 0 0) ∧ Below w.heap.size w w' := by
  go_enter Tryz.func52, Tryz.ntmps52
  go_wp2_with fail
  refine (rnorm_any (lit_at32q w 0 0 (by decide) (by decide)) (by omega)).mono ?_
  rw [show trimL [0, 0] = [] from by decide]
  rintro e w1 ⟨g, rfl, hg, hb, hbl⟩;have hbw := Below.on (below1 w _) hbl;clear hb hbl;go_wp2_with fail
  go_ret
  exact ⟨g, rfl, hbw⟩
theorem rsub_any {p q : Option Addr} {n m c d : Nat} {xs ys : List Nat} {a b : Nat} {w : World} (h : At32 w p n c xs) (k : At32 w q m d ys) (hx : Nf B32 xs a) (hy : Nf B32 ys b) (hn : n ≤ 4398046511104) (hle : b ≤ a) :
  Calls Tryz.prog 135 #[.slice p n c, .slice q m d] w fun e w' => ∃ p' m' zs, e = .returned (.slice p' m' m') ∧ At32 w' p' m' m' zs ∧ Nf B32 zs (a - b) ∧ m' ≤ n ∧ Below w.heap.size w w' := by
 rcases Nat.lt_or_ge b a with hlt | hge
 ·exact rsub_gt h k hx hy hn hlt
 ·have HE : Hid (a = b) := Nat.le_antisymm hge hle
  have HA := hdQ h;have HB := hdQ k;have HX := hdQ hx;have HY := hdQ hy;clear h k hx hy hle hge
  go_enter Tryz.func135, Tryz.ntmps135
  go_wp2_with fail
  refine (rcmp_any HA.out HB.out HX.out HY.out).mono ?_
  rintro e w' ⟨rfl, r, rfl⟩;rw [cmpN_eq HE.out];have hb0 : Below w.heap.size w (w.drewN r) := bDrewN (Below.refl _ _) r;generalize w.drewN r = w0 at *;go_wp2_with fail
  refine (rword0 w0).mono ?_
  rintro e w1 ⟨g, rfl, hb1⟩;have hbw := Below.on hb0 hb1;clear hb1 hb0;go_wp2_with fail
  go_ret
  exact ⟨_, 0, [], rfl, At32.empty _ _ 0 (by decide), by rw [HE.out, Nat.sub_self]; exact nf32_nilq, by omega, hbw⟩
structure ZR (w : World) (s : Bool) (p : Option Addr) (m : Nat) (z : Int) : Prop where
 ex : ∃ zs, At32 w p m m zs ∧ Nf B32 zs z.natAbs
 sg : s = decide (z < 0)
theorem ZR.below {w w' : World} {s : Bool} {p : Option Addr} {m : Nat} {z : Int} (h : ZR w s p m z) (hb : Below w.heap.size w w') : ZR w' s p m z := by
  obtain ⟨zs, hA, hN⟩ := h.ex
  exact ⟨⟨zs, hA.below hb, hN⟩, h.sg⟩
theorem ZR.b {w w' : World} {s : Bool} {p : Option Addr} {m : Nat} {z : Int} (h : Hid (ZR w s p m z)) (hb : Below w.heap.size w w') : Hid (ZR w' s p m z) := ZR.below h hb
theorem ZR.cast {w : World} {s : Bool} {p : Option Addr} {m : Nat} {z z' : Int} (h : ZR w s p m z) (e : z = z') : ZR w s p m z' := e ▸ h
theorem ZR.zero {w : World} {s : Bool} {p : Option Addr} {m : Nat} {z : Int} (h : ZR w s p m z) : m = 0 ↔ z = 0 := by
  obtain ⟨zs, hA, hN⟩ := h.ex;have h1 := hN.zero_iff B32_one;have h2 := hA.len
  constructor
  · intro e
    have := h1.1 (List.eq_nil_of_length_eq_zero (by omega))
    omega
  · intro e
    have := h1.2 (by omega)
    rw [← h2, this]; rfl
theorem ZR.iv {w : World} {s : Bool} {p : Option Addr} {m : Nat} {z : Int} (h : ZR w s p m z) : Go.Proofs.YtmlclpjimkjjeaaGreatDoor.iv s z.natAbs = z := by rw [h.sg]; exact iv_abs z
def GotR (B : Nat) (w' : World) (v : Value) (z : Int) (L : Nat) : Prop := ∃ s g m, v = .agg #[.bool s, .slice (some ⟨g, 0, none⟩) m m] ∧ B ≤ g ∧ ZR w' s (some ⟨g, 0, none⟩) m z ∧ m ≤ L
theorem ZR.set {w : World} {s : Bool} {g m : Nat} {z : Int} (h : ZR w s (some ⟨g, 0, none⟩) m z) (g2 o2 : Nat) (v : Value) (hne : g ≠ g2) : ZR (w.setCell ⟨g2, o2, none⟩ v) s (some ⟨g, 0, none⟩) m z := by
  obtain ⟨zs, hA, hN⟩ := h.ex
  exact ⟨⟨zs, hA.setOther g2 o2 v hne, hN⟩, h.sg⟩
theorem rmk_any {p : Option Addr} {n c : Nat} {xs : List Nat} {a : Nat} {w : World} (s : Bool) (h : At32 w p n c xs) (hx : Nf B32 xs a) (hn : n ≤ 35184372088832) :
  Calls Tryz.prog 49 #[.bool s, .slice p n c] w fun e w' => ∃ v, e = .returned v ∧ GotR w.heap.size w' v (iv s a) n ∧ Below w.heap.size w w' := by
 refine (mk04 s h hn).mono ?_
 rintro e w1 ⟨g, m, hm, rfl, hg, hA, hb⟩;rw [trimL_of_Top hx.top] at hm hA;have hl := h.len
 refine ⟨_, rfl, ⟨_, g, m, rfl, hg, ⟨⟨xs, hA, by rw [iv_natAbs]; exact hx⟩, ?_⟩, by omega⟩, hb⟩
 rw [iv_lt]
 have : decide (0 < m) = decide (0 < a) := by
  refine decide_eq_decide.2 ?_
  have h1 := hx.zero_iff B32_one
  constructor
  ·intro h0
   rcases Nat.eq_zero_or_pos a with e | e
   ·have := h1.2 e; rw [this] at hm; simp at hm; omega
   ·exact e
  ·intro h0
   rcases Nat.eq_zero_or_pos m with e | e
   ·have := h1.1 (List.eq_nil_of_length_eq_zero (by omega)); omega
   ·exact e
 rw [this]
theorem rflip_any {p : Option Addr} {m : Nat} {w : World} {z : Int} (s : Bool) (h : ZR w s p m z) (hm : m ≤ 100000) :
  Calls Tryz.prog 113 #[.agg #[.bool s, .slice p m m]] w fun e w' => ∃ v, e = .returned v ∧ GotR w.heap.size w' v (-z) m ∧ Below w.heap.size w w' := by
 have HA := hdQ h;have HM : Hid (m ≤ 100000) := hm;clear h hm
 go_enter Tryz.func113, Tryz.ntmps113
 go_wp2_with fail;obtain ⟨W0, hW0⟩ := exq ((w.alloc (.cells #[.bool s, .slice p m m] 56)).alloc (.cells #[.bool false, .slice none 0 0] 56))
 have Xa : Hid (Box W0 (w.heap.size) (.bool s) (.slice p m m)) := by rw [hW0]; constructor <;> go_simp
 have Xr : Hid (Box W0 (w.heap.size + 1) (.bool false) (.slice none 0 0)) := by rw [hW0]; constructor <;> go_simp
 have hb0 := bq2 hW0;rw [← hW0];clear hW0;have hbw := brf w;obtain ⟨gr, hgr⟩ := exq (w.heap.size + 1);have HGr : Hid (w.heap.size ≤ gr) := hgl hgr;rw [← hgr] at Xr
 try rw [← hgr]
 obtain ⟨ga, hga⟩ := exq w.heap.size;have HGa : Hid (w.heap.size ≤ ga) := hgl hga;rw [← hga] at Xa
 try rw [← hga]
 have HGD : Hid (ga ≠ gr ∧ gr ≠ ga) := by rw [hga, hgr]; show _ ∧ _; omega
 clear hga hgr;replace HA := ZR.b HA hb0;replace hbw := bon hbw hb0;clear hb0;obtain ⟨zs, hA, hN⟩ := HA.out.ex;have HRL : Hid (gr < W0.heap.size) := Xr.out.lt
 have hiv : iv (!s) z.natAbs = -z := by rw [iv_not, HA.out.iv]
 refine (rmk_any (!s) hA hN (by have := HM.out; omega)).mono ?_
 rintro e w1 ⟨v, rfl, hv, hb1⟩;rw [hiv] at hv;obtain ⟨s1, g1, m1, rfl, hg1, hz1, hl1⟩ := hv;clear hA hN hiv;have HGE : Hid (W0.heap.size ≤ g1 ∧ w.heap.size ≤ W0.heap.size) := ⟨hg1, hbw.size⟩;replace Xa := Box.b Xa hb1;replace Xr := Box.b Xr hb1;replace HA := ZR.b HA hb1;replace hbw := bon hbw hb1;clear hb1;have ZA := hdQ hz1;have HL : Hid (m1 ≤ m) := hl1;clear hg1 hz1 hl1;obtain ⟨cr0, cr1, fr0, fr1⟩ := Xr.out;have hner := Xr.out.lt;go_wp2_with fail
 refine bodyPost_ret (v := .agg #[.bool s1, .slice (some ⟨g1, 0, none⟩) m1 m1]) (by rw [results_cell1 rfl]; go_simp) rfl ⟨_, rfl, ⟨s1, g1, m1, rfl, ?_, ?_, HL.out⟩, ?_⟩
 ·exact Nat.le_trans HGE.out.2 HGE.out.1
 ·have := HGE.out.1; have := HRL.out
  exact (ZA.out.set _ _ _ (by omega)).set _ _ _ (by omega)
 ·exact bSet (bSet hbw _ _ _ HGr.out) _ _ _ HGr.out
theorem divsmall_abs {L x d B V W q r : Nat} (h : V * d + L = W) (hq : L * B + x = q * d + r) : (q + B * V) * d + r = x + B * W := by
  rw [← h, Nat.add_mul, Nat.mul_add]
  have e : B * V * d = B * (V * d) := by rw [Nat.mul_assoc]
  rw [e];have e2 : B * L = L * B := Nat.mul_comm _ _
  omega
theorem drop_set_self (qs : List Nat) (j y : Nat) (h : j < qs.length) : (qs.set j y).drop j = y :: qs.drop (j + 1) := by
  rw [List.drop_eq_getElem_cons (by simpa using h), List.getElem_set_self, List.drop_set_of_lt (by omega)]

theorem bSet0 {B : Nat} {a w : World} (h : Below B a w) (g o : Nat) (v : Value) (hB : B ≤ g) : Below B a (w.setCell ⟨g, o, none⟩ v) :=
 h.trans ((Wr.refl g o 1 w).setCell o ⟨by omega, by omega⟩ v |>.below hB)
structure DSm (w : World) (g n d : Nat) (xs : List Nat) (k L : Nat) (qs : List Nat) (wr : World) : Prop where
 bel : Below w.heap.size w wr
 row : Row32 wr g 0 n qs
 lt : L < d
 val : valB B32 (qs.drop k) * d + L = valB B32 (xs.drop k)

theorem rdivsmall {p : Option Addr} {n c : Nat} {xs : List Nat} {w : World} (h : At32 w p n c xs) (hn : n ≤ 1099511627776) (d : Nat) (hd : 1 ≤ d) (hdb : d < B32) :
  Calls Tryz.prog 98 #[.slice p n c, .int .u32 d] w fun e w' => ∃ p' m' zs r, e = .returned (.tuple #[.slice p' m' m', .int .u32 r]) ∧ At32 w' p' m' m' zs ∧ Nf B32 zs (valB B32 xs / d) ∧ m' ≤ n ∧ Below w.heap.size w w' := by
 obtain ⟨i0, hi, hz0, hz1, hz2⟩ := info_parts Tryz.infoU32;have HLX : Hid (xs.length = n) := h.len;have hcap := h.cap; have hbig := h.big;unfold maxLen at hbig
 have hd0 : ((d : Int) == 0) = false := by simp; omega
 have HDB : Hid (1 ≤ d ∧ d < B32) := ⟨hd, hdb⟩
 have hdw : IntKind.u64.wrap (d : Int) = (d : Int) := wrap_mod _ _ (by rw [B32_eq] at hdb; omega)
 clear hdb
 go_enter Tryz.func98, Tryz.ntmps98
 go_wp2_with (at_make; refine wpList_make_full _ rfl _ _ 54 rfl w.heap.size 114 i0 (.int .u32 0) 1 Tryz.underlying54 hi hz0 hz1 _ _ _ _ n rfl rfl (by omega) (by omega) (by rw [hz2]; omega) (by unfold maxLen; omega) (Nat.le_refl _) ?_; intro w1 hown hgrow; have hb := made_blk32 hown hgrow; clear hown hgrow)
 have HO : Hid (DSm w w.heap.size n d xs n 0 (List.replicate n 0) w1) := by
  have hr := hb.1.row (Dig.replicate B32 n B32_pos);rw [List.length_replicate] at hr
  refine ⟨hb.2, hr, by omega, ?_⟩
  rw [List.drop_of_length_le (by rw [List.length_replicate]; exact Nat.le_refl _), List.drop_of_length_le (by rw [HLX.out]; exact Nat.le_refl _)]
  simp [valB]
 clear hb
 go_loopg [7, 8] n (fun gk lv iv wr => ∃ (L : Nat) (z : Int) (qs : List Nat), lv = U L ∧ iv = .int .i64 z ∧ z = (gk : Int) - 1 ∧ gk ≤ n ∧ Hid (DSm w w.heap.size n d xs gk L qs wr))
 case atStart => exact ⟨0, (n : Int) - 1, _, rfl, rfl, rfl, Nat.le_refl _, HO⟩
 case round =>
  obtain ⟨L, z, qs, rfl, rfl, hz, hgn, HR⟩ := hrel
  cases gk with
  | zero =>
   obtain rfl : z = -1 := by omega
   have hR := HR.out
   have A32 : At32 wr (some ⟨w.heap.size, 0, none⟩) n n qs := hR.row.at_ (Nat.le_refl _) (by unfold maxLen; omega)
   have hv := hR.val;rw [List.drop_zero, List.drop_zero] at hv
   have HV : Hid (valB B32 qs = valB B32 xs / d) := by
    show _ = _
    have h1 := hR.lt
    rw [← hv, Nat.mul_comm, Nat.mul_add_div (by omega), Nat.div_eq_of_lt h1, Nat.add_zero]
   have HNF : Hid (Nf B32 (trimL qs) (valB B32 xs / d)) := by
    have := Nf.trim hR.row.dig;rw [HV.out] at this; exact this
   have hle := trimL_length_le qs
   have HLE : Hid ((trimL qs).length ≤ n) := by have := hR.row.len; show _ ≤ _; omega
   have hLw : IntKind.u32.wrap (L : Int) = (L : Int) := wrap32 L (by have := hR.lt; have := HDB.out.2; omega)
   have hbx := hR.bel;clear hR hv hle hz HR;go_wp2_with fail
   refine (rnorm_any A32 (by omega)).mono ?_
   rintro e w5 ⟨g5, rfl, hg5, hblk5, hb5⟩;have hd5 := HNF.out.dig;generalize trimL qs = us at *;go_wp2_with fail
   go_ret2
   exact ⟨_, _, us, _, rfl, hblk5.at_ hd5 rfl (by have := HLE.out; unfold maxLen; omega), HNF.out, HLE.out, Below.on hbx hb5⟩
  | succ j =>
   obtain rfl : z = (j : Int) := by omega
   obtain ⟨g, off, rfl, hc⟩ := h.cells.resolve_left (by omega)
   obtain ⟨x, hx⟩ := exq (xs.getD j 0)
   have hcx0 : w.cell? ⟨g, off + j, none⟩ = some (V x) := by rw [hx]; exact hc j (by omega)
   have hcx : wr.cell? ⟨g, off + j, none⟩ = some (V x) := (HR.out.bel.cell (p := ⟨g, off + j, none⟩) (World.block_lt_of_cell? w _ hcx0)).trans hcx0
   have hxb : x < B32 := by rw [hx]; exact h.dig.getD B32_pos j
   have hjn : j < n := by omega
   have hct : wr.cell? ⟨w.heap.size, j, none⟩ = some (V (qs.getD j 0)) := by
    have := HR.out.row.cell j hjn;rw [Nat.zero_add] at this; exact this
   have hft : wr.frozen? ⟨w.heap.size, j, none⟩ = false := by
    have := HR.out.row.frozen j hjn;rw [Nat.zero_add] at this; exact this
   have hL := HR.out.lt;have hdB := HDB.out.2;rw [B32_eq] at hdB hxb;obtain ⟨T, hT⟩ := exq (L * 4294967296 + x);obtain ⟨lh, hlh⟩ := exq (L * 4294967296)
   have f1 : IntKind.u64.wrap ((L : Int) * 4294967296) = (lh : Int) := wrap_mod _ _ (by omega)
   have f2 : IntKind.u64.wrap ((lh : Int) + (x : Int)) = (T : Int) := wrap_mod _ _ (by omega)
   have fx : IntKind.u64.wrap (x : Int) = (x : Int) := wrap_mod _ _ (by omega)
   obtain ⟨Q, hQ⟩ := exq (T / d);obtain ⟨R, hRr⟩ := exq (T % d)
   have q1 : (T : Int).tdiv (d : Int) = (Q : Int) := by rw [hQ, Int.tdiv_eq_ediv_of_nonneg (Int.natCast_nonneg T)]; norm_cast
   have q2 : (T : Int) / (d : Int) = (Q : Int) := by rw [hQ]; norm_cast
   have r1 : (T : Int).tmod (d : Int) = (R : Int) := by rw [hRr, Int.tmod_eq_emod_of_nonneg (Int.natCast_nonneg T)]; norm_cast
   have r2 : (T : Int) % (d : Int) = (R : Int) := by rw [hRr]; norm_cast
   have hRd : R < d := by rw [hRr]; exact Nat.mod_lt _ hd
   have hQB : Q < B32 := by
    rw [hQ, B32_eq]
    refine Nat.div_lt_of_lt_mul ?_
    have : L * 4294967296 + 4294967296 ≤ d * 4294967296 := by
     have := Nat.mul_le_mul_right 4294967296 (show L + 1 ≤ d by omega)
     rw [Nat.add_mul] at this; omega
    omega
   have fq : IntKind.u32.wrap (Q : Int) = (Q : Int) := wrap32 Q hQB
   have fq2 : IntKind.u64.wrap (Q : Int) = (Q : Int) := wrap_mod _ _ (by rw [B32_eq] at hQB; omega)
   have fq3 : (Q : Int) % 4294967296 = (Q : Int) := by rw [B32_eq] at hQB; omega
   have hQR : L * B32 + x = Q * d + R := by rw [B32_eq, ← hT, hQ, hRr, Nat.mul_comm]; exact (Nat.div_add_mod T d).symm
   have HS : Hid (DSm w w.heap.size n d xs j R (qs.set j Q) (wr.setCell ⟨w.heap.size, j, none⟩ (V Q))) := by
    have hR := HR.out;have hs := hR.row.set j Q hjn hQB;rw [Nat.zero_add] at hs
    refine ⟨bSet0 hR.bel _ _ _ (Nat.le_refl _), hs, hRd, ?_⟩
    rw [drop_set_self qs j Q (by rw [hR.row.len]; exact hjn), valB_cons, valB_drop B32 xs j (by rw [HLX.out]; exact hjn), ← hx]
    exact divsmall_abs hR.val hQR
   clear hz HR hc hx hcx0 hQ hRr hT hlh hQR hL hdB hxb hRd hQB;go_wp2_with fail
   go_roundg j
   case measure => omega
   case rel => exact ⟨R, (j : Int) - 1, qs.set j Q, rfl, rfl, rfl, by omega, HS⟩
theorem At32.dropq {w : World} {g off n c : Nat} {xs : List Nat} (h : At32 w (some ⟨g, off, none⟩) n c xs) (k : Nat) (hk : k < n) : At32 w (some ⟨g, off + k, none⟩) (n - k) (c - k) (xs.drop k) := by
  refine ⟨by rw [List.length_drop, h.len], by have := h.cap; omega, by have := h.big; unfold maxLen at *; omega, h.dig.drop k, .inr ⟨g, off + k, rfl, fun j hj => ?_⟩⟩
  rcases h.cells with h0 | ⟨g', off', he, hc⟩
  · omega
  · simp only [Option.some.injEq, Addr.mk.injEq, and_true] at he
    obtain ⟨rfl, rfl⟩ := he
    have := hc (k + j) (by omega)
    rw [Nat.add_assoc, this]
    congr 2
    simp [List.getD_eq_getElem?_getD, List.getElem?_drop]
theorem drop_div32q {xs : List Nat} {v k : Nat} (hx : Nf B32 xs v) (hk : k ≤ xs.length) : valB B32 (xs.drop k) = v / B32 ^ k := by
  have h1 := valB_split B32 xs k hk;have h2 := valB_lt B32_pos (hx.dig.take k);rw [List.length_take, Nat.min_eq_left hk] at h2;rw [← hx.val, h1, Nat.add_mul_div_left _ _ (Nat.pow_pos B32_pos), Nat.div_eq_of_lt h2, Nat.zero_add]

theorem rfshr_any {p : Option Addr} {n c : Nat} {xs : List Nat} {v : Nat} {w : World} (h : At32 w p n c xs) (hx : Nf B32 xs v) (hn : n ≤ 16384) (N : Nat) (hN : 1 ≤ N) (hN2 : N ≤ 9223372036854775807) :
    Calls Tryz.prog 47 #[.slice p n c, .int .i64 N] w fun e w' => ∃ p' m' zs, e = .returned (.slice p' m' m') ∧ At32 w' p' m' m' zs ∧ Nf B32 zs (v / 2 ^ N) ∧ m' ≤ n ∧ Below w.heap.size w w' := by
  have HX := hdQ hx;have hl := h.len;have cap := h.cap;have big := h.big;unfold maxLen at big;obtain ⟨D, hD⟩ := exq (N / 32);obtain ⟨R, hR⟩ := exq (N % 32)
  have d1 : (N : Int).tdiv 32 = (D : Int) := by rw [Int.tdiv_eq_ediv_of_nonneg (by omega)]; omega
  have d2 : (N : Int).tmod 32 = (R : Int) := by rw [Int.tmod_eq_emod_of_nonneg (by omega)]; omega
  have hNp : ¬ (N : Int) ≤ 0 := by omega
  have hN0 : ¬ N = 0 := by omega
  have hR32 : R < 32 := by omega
  have hDb : D ≤ 288230376151711743 := by omega
  have hwD : IntKind.i64.wrap (D : Int) = (D : Int) := by simp [IntKind.wrap, IntKind.signed, IntKind.bits]; omega
  have HD : Hid (2 ^ N = B32 ^ D * 2 ^ R) := by show _ = _; rw [show B32 = 2 ^ 32 from rfl, ← Nat.pow_mul, ← Nat.pow_add]; congr 1; omega
  have HLX : Hid (xs.length = n) := hl;clear hx hD hR hl
  by_cases hc : n ≤ D
  · have hci : (n : Int) ≤ (D : Int) := by omega
    have hcb : decide (n ≤ D) = true := decide_eq_true hc
    have HZ : Hid (v / 2 ^ N = 0) := by
      show _ = _
      rw [HD.out]
      refine Nat.div_eq_of_lt ?_
      have h1 := nf32_lt HX.out (K := D) (by rw [HLX.out]; exact hc)
      exact Nat.lt_of_lt_of_le h1 (Nat.le_mul_of_pos_right _ (Nat.pow_pos (by decide)))
    clear h
    go_enter Tryz.func47, Tryz.ntmps47
    go_wp2_with fail
    refine (rword0 w).mono ?_
    rintro e w1 ⟨g, rfl, hb⟩;go_wp2_with fail
    go_ret
    exact ⟨_, 0, [], rfl, At32.empty _ _ 0 (by decide), by rw [HZ.out]; exact nf32_nilq, by omega, hb⟩
  · have hci : ¬ (n : Int) ≤ (D : Int) := by omega
    have hcb : decide (n ≤ D) = false := decide_eq_false hc
    have hDn : D < n := by omega
    have hDc : D < c := by omega
    have hDc2 : D ≤ c := by omega
    have hcD : ¬ c = D := by omega
    have hDn2 : D ≤ n := by omega
    obtain ⟨g, off, rfl, hcs⟩ := h.cells.resolve_left (by omega)
    have A1 : Hid (At32 w (some ⟨g, off + D, none⟩) (n - D) (c - D) (xs.drop D)) := h.dropq D hDn;obtain ⟨d, hd⟩ := exq (2 ^ R)
    have hd1 : 1 ≤ d := by rw [hd]; exact Nat.pow_pos (by decide)
    have hdB : d < B32 := by rw [hd, show B32 = 2 ^ 32 from rfl]; exact Nat.pow_lt_pow_right (by decide) hR32
    have hdw : IntKind.u32.wrap (d : Int) = (d : Int) := wrap32 d hdB
    have hdI : (2 : Int) ^ R = (d : Int) := by rw [hd]; norm_cast
    have HV : Hid (valB B32 (xs.drop D) / d = v / 2 ^ N) := by
      show _ = _
      rw [HD.out, hd, drop_div32q HX.out (by rw [HLX.out]; omega), Nat.div_div_eq_div_mul]
    have A1d : Hid (At32 w.drew (some ⟨g, off + D, none⟩) (n - D) (c - D) (xs.drop D)) := A1.out.drewN 1;have hbd : Below w.heap.size w w.drew := bDrew (Below.refl _ _);have HDD : Hid (1 ≤ d ∧ d < B32) := ⟨hd1, hdB⟩;clear h hcs A1 hd hd1 hdB
    go_enter Tryz.func47, Tryz.ntmps47
    go_wp2_with fail
    (go_region_with (go_at_call 98; refine (rdivsmall A1d.out (by omega) d HDD.out.1 HDD.out.2).mono ?_; rintro e w1 ⟨p1, m1, z1, r1, rfl, hA1, hN1, hm1, hb1⟩; have A2 : Hid (At32 w1 p1 m1 m1 z1) := hA1; have N2 : Hid (Nf B32 z1 (v / 2 ^ N)) := (by rw [HV.out] at hN1; exact hN1); have hbw : Below w.heap.size w w1 := Below.on hbd hb1; have hm1' : m1 ≤ n := (by omega); clear hA1 hN1 hb1))
    all_goals
      (go_wp2_with fail
       go_ret
       exact ⟨p1, m1, z1, rfl, A2.out, N2.out, hm1', hbw⟩)
theorem rshr_0 {p : Option Addr} {n c : Nat} {xs : List Nat} {v : Nat} {w : World} (h : At32 w p n c xs) (hx : Nf B32 xs v) (hn : n ≤ 16384) :
  Calls Tryz.prog 47 #[.slice p n c, .int .i64 0] w fun e w' => ∃ g, e = .returned (.slice (some ⟨g, 0, none⟩) n n) ∧ At32 w' (some ⟨g, 0, none⟩) n n xs ∧ Below w.heap.size w w' := by
 have H := hdQ h;have HX := hdQ hx;have HN : Hid (n ≤ 16384) := hn;have HL : Hid (xs.length = n) := h.len;clear h hx hn
 go_enter Tryz.func47, Tryz.ntmps47
 go_wp2_with fail
 refine (rnorm_any H.out (by have := HN.out; omega)).mono ?_
 rintro e w1 ⟨g, rfl, hg, hblk, hb⟩;rw [trimL_of_Top HX.out.top] at hblk ⊢;rw [HL.out]
 have HB : Hid (At32 w1 (some ⟨g, 0, none⟩) n n xs) := hblk.at_ HX.out.dig HL.out (by unfold maxLen; have := HN.out; omega)
 clear hblk hg;go_wp2_with fail
 go_ret
 exact ⟨g, rfl, HB.out, hb⟩
theorem told5 {p : Option Addr} {m : Nat} {w : World} {z e : Int} (s : Bool) (h : ZR w s p m z) (hz : z % 2 = 1) (hm : m ≤ 8000) (he : -1048576 ≤ e ∧ e ≤ 1048576) :
  Calls Tryz.prog 24 #[.agg #[.bool s, .slice p m m], .int .i64 e] w fun en w' => ∃ g m' c', en = .returned (.tuple #[DV s (some ⟨g, 0, none⟩) m' c' e, .int .i64 0]) ∧ w.heap.size ≤ g ∧ DN w' s (some ⟨g, 0, none⟩) m' c' e z ∧ Below w.heap.size w w' := by
 obtain ⟨xs, hA, hN⟩ := h.ex;have AX := hdQ hA;have NX := hdQ hN;have HZ : Hid (z % 2 = 1 ∧ s = decide (z < 0) ∧ m ≤ 8000) := ⟨hz, h.sg, hm⟩;have HE : Hid (-1048576 ≤ e ∧ e ≤ 1048576) := he
 have hm0 : ¬ m = 0 := fun e0 => by have := h.zero.1 e0; omega
 have hm1 : ((m : Int) == 0) = false := by simp; omega
 have g1 : ¬ 1048576 < e := by omega
 have g2 : ¬ e < -1099511627776 := by omega
 have g3 : ¬ e < -1048576 := by omega
 have g4 : ¬ (16384 : Int) < (m : Int) := by omega
 have g5 : wrap64 e = e := by simp only [wrap64]; omega
 clear h hz hm hA hN he
 go_enter Tryz.func24, Tryz.ntmps24
 go_wp2_with fail;obtain ⟨W0, hW0⟩ := exq ((w.alloc (.cells #[.bool s, .slice p m m] 56)).alloc (.cells #[.bool false, .slice none 0 0, .int .i64 0] 27))
 have Xm : Hid (Box W0 (w.heap.size) (.bool s) (.slice p m m)) := by rw [hW0]; constructor <;> go_simp
 have Xr : Hid (B3q W0 (w.heap.size + 1) (.bool false) (.slice none 0 0) (.int .i64 0)) := by rw [hW0]; constructor <;> go_simp
 have hb0 := bq2 hW0;rw [← hW0];clear hW0;have hbw := brf w;obtain ⟨gr, hgr⟩ := exq (w.heap.size + 1);have HGr : Hid (w.heap.size ≤ gr) := hgl hgr;rw [← hgr] at Xr
 try rw [← hgr]
 obtain ⟨gm, hgm⟩ := exq w.heap.size;have HGm : Hid (w.heap.size ≤ gm) := hgl hgm;rw [← hgm] at Xm
 try rw [← hgm]
 have HGD : Hid (gm ≠ gr ∧ gr ≠ gm) := by rw [hgm, hgr]; show _ ∧ _; omega
 clear hgm hgr;replace hbw := bon hbw hb0;clear hb0
 refine (rzeros_any (k := 0) (AX.out.below hbw) NX.out (by have := HZ.out; omega) ⟨by rw [Nat.pow_zero, Nat.mod_one], by rw [Nat.pow_zero, Nat.div_one]; have := HZ.out; omega⟩ (by have := HZ.out; omega)).mono ?_
 rintro e2 v1 ⟨rfl, hw⟩;obtain rfl := hw.symm;clear hw;obtain ⟨cm0, cm1, fm0, fm1⟩ := Xm.out;have hnem := Xm.out.lt;go_wp2_with fail;clear cm0 cm1 fm0 fm1 hnem
 refine (rshr_0 (AX.out.below hbw) NX.out (by have := HZ.out; omega)).mono ?_
 rintro e2 v3 ⟨g3, rfl, hA3, hb3⟩;replace Xm := Box.b Xm hb3;replace Xr := B3q.b Xr hb3;replace hbw := bon hbw hb3;clear hb3;have A3 := hdQ hA3;clear hA3;obtain ⟨cm0, cm1, fm0, fm1⟩ := Xm.out;have hnem := Xm.out.lt;go_wp2_with fail;clear cm0 cm1 fm0 fm1 hnem
 refine (rmk_any s A3.out NX.out (by have := HZ.out; omega)).mono ?_
 rintro e v5 ⟨v, rfl, hv, hb5⟩;obtain ⟨s5, g5, m5, rfl, hg5, hz5, hl5⟩ := hv;have HN5 : Hid (v3.heap.size ≤ g5) := hg5;have HB5 : Hid (v3.heap.size ≤ v5.heap.size) := hb5.size;replace Xm := Box.b Xm hb5;replace Xr := B3q.b Xr hb5;replace A3 := At32.b A3 hb5;replace hbw := bon hbw hb5;clear hb5;have Z5 := hdQ hz5;have HL5 : Hid (m5 ≤ m) := hl5;clear hz5 hl5 hg5
 have hz5 := Z5.out.cast (show iv s z.natAbs = z from by rw [HZ.out.2.1]; exact iv_abs z)
 obtain rfl : s5 = s := by rw [hz5.sg, HZ.out.2.1]
 obtain ⟨zs, hA5, hN5⟩ := hz5.ex
 have h05 : s5 = true → 0 < m5 := fun h8 => Nat.pos_of_ne_zero fun e0 => by have := hz5.zero.1 e0; have := HZ.out.1; omega
 have HZ5 : Hid (At32 v5 (some ⟨g5, 0, none⟩) m5 m5 zs ∧ Nf B32 zs z.natAbs ∧ (s5 = true → 0 < m5) ∧ m5 ≤ m) := ⟨hA5, hN5, h05, HL5.out⟩;clear hz5 hA5 hN5 h05 Z5;go_wp2_with fail;have HRL : Hid (gr < v5.heap.size ∧ w.heap.size ≤ v5.heap.size) := ⟨Xr.out.lt, hbw.size⟩
 refine (to04_any s5 HZ5.out.1 HZ5.out.2.1 (by have := HZ5.out; have := HZ.out; omega) HZ5.out.2.2.1).mono ?_
 rintro e2 v6 ⟨g6, k6, c6, us, rfl, hA6, hN6, hg6, hb6⟩;replace Xm := Box.b Xm hb6;replace Xr := B3q.b Xr hb6;replace A3 := At32.b A3 hb6;replace hbw := bon hbw hb6;clear hb6;have A6 := hdQ hA6;have N6 : Hid (Nf B64 us z.natAbs ∧ gr < g6) := ⟨hN6, Nat.lt_of_lt_of_le HRL.out.1 hg6⟩;clear hA6 hN6 hg6;obtain ⟨cr0, cr1, cr2, fr0, fr1, fr2⟩ := Xr.out;have hner : gr < v6.heap.size := blt cr0;go_wp2_with fail
 refine bodyPost_ret (v := .tuple #[DV s5 (some ⟨g6, 0, none⟩) k6 c6 e, .int .i64 0]) (by rw [results_cell_tmp rfl]; go_simp) rfl ⟨g6, k6, c6, rfl, Nat.le_trans HGr.out (Nat.le_of_lt N6.out.2), ⟨⟨⟨us, ?_, N6.out.1, ?_⟩, HZ.out.2.1⟩, .inr ⟨HZ.out.1, HE.out⟩⟩, ?_⟩
 ·have := N6.out.2
  exact ((A6.out.setOther _ _ _ (by omega)).setOther _ _ _ (by omega)).setOther _ _ _ (by omega)
 ·have h1 := (NX.out.len_le B32_one (k := m)).1 (by rw [AX.out.len]; exact Nat.le_refl _)
  have h2 := (N6.out.1.len_le B64_one (k := m)).2 (Nat.lt_of_lt_of_le h1 (Nat.pow_le_pow_left (by decide) m))
  rw [A6.out.len] at h2;have := HZ.out
  omega
 ·exact bSet (bSet (bSet hbw _ _ _ HGr.out) _ _ _ HGr.out) _ _ _ HGr.out
theorem rfrom5 {p : Option Addr} {n c : Nat} {xs : List Nat} {w : World} (s : Bool) (h : At w p n c xs) (hn : n ≤ 17592186044416) :
  Calls Tryz.prog 25 #[ZV s p n c] w fun e w' => ∃ s' p' m', e = .returned (.agg #[.bool s', .slice p' m' m']) ∧ ZR w' s' p' m' (iv s (valB B64 xs)) ∧ m' ≤ 2 * n ∧ Below w.heap.size w w' := by
 refine (from04 s h hn).mono ?_
 rintro e w1 ⟨p1, m1, z1, rfl, hA, hN, hl, hb⟩
 refine ⟨_, p1, m1, rfl, ⟨⟨z1, hA, by rw [iv_natAbs]; exact hN⟩, ?_⟩, hl, hb⟩
 rw [iv_lt]
 have : decide (0 < m1) = decide (0 < valB B64 xs) := by
  refine decide_eq_decide.2 ?_
  have h1 := hN.zero_iff B32_one;have h2 := hA.len
  constructor
  ·intro h0
   rcases Nat.eq_zero_or_pos (valB B64 xs) with e | e
   ·have := h1.2 e; rw [this] at h2; simp at h2; omega
   ·exact e
  ·intro h0
   rcases Nat.eq_zero_or_pos m1 with e | e
   ·have := h1.1 (List.eq_nil_of_length_eq_zero (by omega)); omega
   ·exact e
 rw [this]
theorem DN.set {w : World} {s : Bool} {g m c : Nat} {e z : Int} (h : DN w s (some ⟨g, 0, none⟩) m c e z) (g2 o2 : Nat) (v : Value) (hne : g ≠ g2) : DN (w.setCell ⟨g2, o2, none⟩ v) s (some ⟨g, 0, none⟩) m c e z := by
  obtain ⟨xs, hX⟩ := h.zn.ex
  exact ⟨⟨⟨xs, hX.at_.setOther g2 o2 v hne, hX.nf, hX.le⟩, h.zn.sg⟩, h.fm⟩
theorem docof5 {w : World} (z : Int) (h0 : -9223372036854775808 ≤ z) (h1 : z ≤ 9223372036854775807) (hz : z % 2 = 1) :
  Calls Tryz.prog 12 #[.int .i64 z] w fun en w' => ∃ s' g m' c', en = .returned (DV s' (some ⟨g, 0, none⟩) m' c' 0) ∧ w.heap.size ≤ g ∧ DN w' s' (some ⟨g, 0, none⟩) m' c' 0 z ∧ Below w.heap.size w w' := by
 have HZ : Hid (-9223372036854775808 ≤ z ∧ z ≤ 9223372036854775807 ∧ z % 2 = 1) := ⟨h0, h1, hz⟩;clear h0 h1 hz
 go_enter Tryz.func12, Tryz.ntmps12
 go_wp2_with fail;obtain ⟨W0, hW0⟩ := exq (w.alloc (.cells #[.bool false, .slice none 0 0, .int .i64 0] 27))
 have Xr : Hid (B3q W0 (w.heap.size) (.bool false) (.slice none 0 0) (.int .i64 0)) := by rw [hW0]; constructor <;> go_simp
 have hb0 := bq1 hW0;rw [← hW0];clear hW0;have hbw := brf w;obtain ⟨gr, hgr⟩ := exq w.heap.size;have HGr : Hid (w.heap.size ≤ gr) := hgl hgr;rw [← hgr] at Xr
 try rw [← hgr]
 clear hgr;replace hbw := bon hbw hb0;clear hb0
 refine (rof_any z _ HZ.out.1 HZ.out.2.1).mono ?_
 rintro e2 v1 ⟨g1, m1, zs, rfl, hA1, hN1, hl1, hb1⟩;replace Xr := B3q.b Xr hb1;replace hbw := bon hbw hb1;clear hb1;have Z1 : Hid (ZR v1 (decide (z < 0)) (some ⟨g1, 0, none⟩) m1 z) := ⟨⟨zs, hA1, hN1⟩, rfl⟩;have HL1 : Hid (m1 ≤ 3) := hl1;clear hA1 hN1 hl1;obtain ⟨s1, hs1⟩ := exq (decide (z < 0));rw [← hs1] at Z1 ⊢;clear hs1;go_wp2_with fail
 refine (told5 s1 Z1.out HZ.out.2.2 (by have := HL1.out; omega) (by omega)).mono ?_
 rintro e2 v2 ⟨g2, m2, c2, rfl, hg2, hd2, hb2⟩;have HR2 : Hid (gr < g2 ∧ w.heap.size ≤ g2) := ⟨Nat.lt_of_lt_of_le Xr.out.lt hg2, Nat.le_trans hbw.size hg2⟩;replace Xr := B3q.b Xr hb2;replace Z1 := ZR.b Z1 hb2;replace hbw := bon hbw hb2;clear hb2;have D2 := hdQ hd2;clear hd2 hg2;obtain ⟨cr0, cr1, cr2, fr0, fr1, fr2⟩ := Xr.out;have hner : gr < v2.heap.size := blt cr0;go_wp2_with fail
 refine bodyPost_ret (v := DV s1 (some ⟨g2, 0, none⟩) m2 c2 0) (by rw [results_cell1 rfl]; go_simp) rfl ⟨s1, g2, m2, c2, rfl, HR2.out.2, ?_, ?_⟩
 ·have := HR2.out.1
  exact (((D2.out.set _ _ _ (by omega)).set _ _ _ (by omega)).set _ _ _ (by omega)).below (below1 _ _)
 ·exact Below.on (bSet (bSet (bSet hbw _ _ _ HGr.out) _ _ _ HGr.out) _ _ _ HGr.out) (below1 _ _)
theorem nought5 {p : Option Addr} {m c : Nat} {w : World} {e : Int} {s : Bool} (hm : 0 < m) :
  Calls Tryz.prog 23 #[DV s p m c e] w fun en w' => en = .returned (.bool false) ∧ Below w.heap.size w w' := by
 have h1 : ((m : Int) == 0) = false := by simp; omega
 have h2 : ¬ m = 0 := by omega
 clear hm
 go_enter Tryz.func23, Tryz.ntmps23
 go_wp2_with fail
 go_ret
 exact ⟨rfl, below1 w _⟩
abbrev WVd : Value := .agg #[.func (.func 16) #[] #[], .func (.func 17) #[] #[]]
abbrev WVu : Value := .agg #[.func (.func 27) #[] #[], .func (.func 28) #[] #[]]
theorem way_d (w : World) :
  Calls Tryz.prog 9 #[] w fun en w' => en = .returned WVd ∧ Below w.heap.size w w' := by
 have c0 : (w.alloc (.cells #[.nilFunc, .nilFunc] 38)).cell? ⟨w.heap.size, 0, none⟩ = some .nilFunc := by go_simp
 have f0 : (w.alloc (.cells #[.nilFunc, .nilFunc] 38)).frozen? ⟨w.heap.size, 0, none⟩ = false := by go_simp
 have c1 : (w.alloc (.cells #[.nilFunc, .nilFunc] 38)).cell? ⟨w.heap.size, 1, none⟩ = some .nilFunc := by go_simp
 have f1 : (w.alloc (.cells #[.nilFunc, .nilFunc] 38)).frozen? ⟨w.heap.size, 1, none⟩ = false := by go_simp
 go_enter Tryz.func9, Tryz.ntmps9
 go_wp2_with fail
 refine bodyPost_ret (v := WVd) (by rw [results_cell1 rfl]; go_simp) rfl ⟨rfl, ?_⟩
 first | exact below1 _ _ | exact Below.on (below1 _ _) (below1 _ _) | exact Below.refl _ _
theorem way_u (w : World) :
  Calls Tryz.prog 13 #[] w fun en w' => en = .returned WVu ∧ Below w.heap.size w w' := by
 have c0 : (w.alloc (.cells #[.nilFunc, .nilFunc] 38)).cell? ⟨w.heap.size, 0, none⟩ = some .nilFunc := by go_simp
 have f0 : (w.alloc (.cells #[.nilFunc, .nilFunc] 38)).frozen? ⟨w.heap.size, 0, none⟩ = false := by go_simp
 have c1 : (w.alloc (.cells #[.nilFunc, .nilFunc] 38)).cell? ⟨w.heap.size, 1, none⟩ = some .nilFunc := by go_simp
 have f1 : (w.alloc (.cells #[.nilFunc, .nilFunc] 38)).frozen? ⟨w.heap.size, 1, none⟩ = false := by go_simp
 go_enter Tryz.func13, Tryz.ntmps13
 go_wp2_with fail
 refine bodyPost_ret (v := WVu) (by rw [results_cell1 rfl]; go_simp) rfl ⟨rfl, ?_⟩
 first | exact below1 _ _ | exact Below.on (below1 _ _) (below1 _ _) | exact Below.refl _ _
theorem cut_d {q : Option Addr} {m c : Nat} {w : World} {z e : Int} {P K : Nat} {s : Bool} (h : ZN w s q m c z) (he : -2621440 ≤ e ∧ e ≤ 2621440) (hP : 1 ≤ P ∧ P ≤ 70000) (hK : K = bitsN z.natAbs - P) (hT : Tab w) :
  Calls Tryz.prog 21 #[WVd, ZV s q m c, .int .i64 e, .int .i64 P] w fun en w' => MakeP w.heap.size w' en (rd false z (2 ^ K)) (e + K) ∧ Below w.heap.size w w' := by
 have H := hdQ h;have TB : Hid (Tab w) := hT;have hb := (lim_bits z.natAbs).1 h.lim
 have f1 : wrap64 ((bitsN z.natAbs : Int) - P) = (bitsN z.natAbs : Int) - P := by simp only [wrap64]; omega
 have f2 : max ((bitsN z.natAbs : Int) - P) 0 = (K : Int) := by omega
 have f4 : wrap64 (e + K) = e + K := by simp only [wrap64]; omega
 have f5 : IntKind.i64.wrap (e + K) = e + K := by simp [IntKind.wrap, IntKind.signed, IntKind.bits]; omega
 have HF : Hid (wrap64 (e + K) = e + K ∧ IntKind.i64.wrap (e + K) = e + K ∧ -3145728 ≤ e + K ∧ e + K ≤ 3145728 ∧ K ≤ 9223372036854775807) := ⟨f4, f5, by omega, by omega, by omega⟩
 have HR : Hid (rd false z (2 ^ K) = fl (decide (z < 0)) z.natAbs (2 ^ K)) := by rw [fl_eq _ _ (Nat.pow_pos (by omega))]; rfl
 clear h hT hb he hP hK f4 f5
 go_enter Tryz.func21, Tryz.ntmps21
 go_wp2_with fail;obtain ⟨W0, hW0⟩ := exq (((w.alloc (.cells #[.func (.func 16) #[] #[], .func (.func 17) #[] #[]] 38)).alloc (.cells #[.bool s, .slice q m c] 25)).alloc (.cells #[.bool false, .slice none 0 0, .int .i64 0] 27))
 have Xy : Hid (Box W0 (w.heap.size) (.func (.func 16) #[] #[]) (.func (.func 17) #[] #[])) := by rw [hW0]; constructor <;> go_simp
 have Xm : Hid (Box W0 (w.heap.size + 1) (.bool s) (.slice q m c)) := by rw [hW0]; constructor <;> go_simp
 have Xr : Hid (B3q W0 (w.heap.size + 1 + 1) (.bool false) (.slice none 0 0) (.int .i64 0)) := by rw [hW0]; constructor <;> go_simp
 have hb0 := bq3 hW0;rw [← hW0];clear hW0;have hbw := brf w;obtain ⟨gr, hgr⟩ := exq (w.heap.size + 1 + 1);have HGr : Hid (w.heap.size ≤ gr) := hgl hgr;rw [← hgr] at Xr
 try rw [← hgr]
 obtain ⟨gm, hgm⟩ := exq (w.heap.size + 1);have HGm : Hid (w.heap.size ≤ gm) := hgl hgm;rw [← hgm] at Xm
 try rw [← hgm]
 obtain ⟨gy, hgy⟩ := exq w.heap.size;have HGy : Hid (w.heap.size ≤ gy) := hgl hgy;rw [← hgy] at Xy
 try rw [← hgy]
 have HGD : Hid (gy ≠ gm ∧ gy ≠ gr ∧ gm ≠ gy ∧ gm ≠ gr ∧ gr ≠ gy ∧ gr ≠ gm) := by rw [hgy, hgm, hgr]; show _ ∧ _; omega
 clear hgy hgm hgr;replace hbw := bon hbw hb0;clear hb0;obtain ⟨xs, hX⟩ := (H.out.below hbw).ex
 refine (bits_any hX.at_ (by have := hX.le; omega)).mono ?_
 rintro e2 v3 ⟨rfl, hw⟩;obtain rfl := hw.symm;clear hw;rw [hX.nf.val];clear hX;obtain ⟨cy0, cy1, fy0, fy1⟩ := Xy.out;have hney := Xy.out.lt;obtain ⟨cm0, cm1, fm0, fm1⟩ := Xm.out;have hnem := Xm.out.lt;go_wp2_with fail;clear cy0 cy1 fy0 fy1 hney cm0 cm1 fm0 fm1 hnem f1 f2
 refine (zfshr (H.out.below hbw) K HF.out.2.2.2.2 (TB.out.below hbw)).mono ?_
 rintro e v5 ⟨⟨s5, p5, m5, rfl, hz⟩, hb5⟩;replace Xy := Box.b Xy hb5;replace Xm := Box.b Xm hb5;replace Xr := B3q.b Xr hb5;replace hbw := bon hbw hb5;clear hb5;have hz := hz.cast (z' := rd false z (2 ^ K)) (HR.out.symm);have Z5 := hdQ hz;clear hz;have f4 := HF.out.1;have f5 := HF.out.2.1;go_wp2_with fail;clear f4 f5;have Xq0 : Hid (Box (v5.alloc (.cells #[.bool s5, .slice p5 m5 m5] 25)) v5.heap.size (.bool s5) (.slice p5 m5 m5)) := Box.new v5 _ _ _;have hbn : Below v5.heap.size v5 (v5.alloc (.cells #[.bool s5, .slice p5 m5 m5] 25)) := below1 v5 _;generalize v5.alloc (.cells #[.bool s5, .slice p5 m5 m5] 25) = Wq at *;have HGq : Hid (w.heap.size ≤ v5.heap.size) := hbw.size;replace Xy := Box.b Xy hbn;replace Xm := Box.b Xm hbn;replace Xr := B3q.b Xr hbn;replace Z5 := ZN.b Z5 hbn;replace hbw := bon hbw hbn;clear hbn;generalize v5.heap.size = gq at *;have Xq := Xq0;clear Xq0;have HRL : Hid (gr < Wq.heap.size ∧ w.heap.size ≤ Wq.heap.size) := ⟨Xr.out.lt, hbw.size⟩
 refine (makep Z5.out (by have := HF.out; omega) (TB.out.below hbw)).mono ?_
 rintro e2 v6 ⟨hv, hb6⟩;obtain ⟨s6, p6, m6, eo, er, rfl, hmp⟩ := hv.open;clear hv;replace Xy := Box.b Xy hb6;replace Xm := Box.b Xm hb6;replace Xr := B3q.b Xr hb6;replace Xq := Box.b Xq hb6;replace Z5 := ZN.b Z5 hb6;replace hbw := bon hbw hb6;clear hb6;have M6 := hdQ hmp;clear hmp;obtain ⟨cr0, cr1, cr2, fr0, fr1, fr2⟩ := Xr.out;have hner : gr < v6.heap.size := blt cr0;go_wp2_with fail
 refine bodyPost_ret (v := .tuple #[DV s6 p6 m6 m6 eo, .int .i64 er]) (by rw [results_cell_tmp rfl]; go_simp) rfl ⟨(M6.out.set HRL.out.1 HRL.out.2 _ _ _).close, ?_⟩
 exact bSet (bSet (bSet hbw _ _ _ HGr.out) _ _ _ HGr.out) _ _ _ HGr.out
theorem cut_u {q : Option Addr} {m c : Nat} {w : World} {z e : Int} {P K : Nat} {s : Bool} (h : ZN w s q m c z) (he : -2621440 ≤ e ∧ e ≤ 2621440) (hP : 1 ≤ P ∧ P ≤ 70000) (hK : K = bitsN z.natAbs - P) (hT : Tab w) :
  Calls Tryz.prog 21 #[WVu, ZV s q m c, .int .i64 e, .int .i64 P] w fun en w' => MakeP w.heap.size w' en (rd true z (2 ^ K)) (e + K) ∧ Below w.heap.size w w' := by
 have H := hdQ h;have TB : Hid (Tab w) := hT;have hb := (lim_bits z.natAbs).1 h.lim
 have f1 : wrap64 ((bitsN z.natAbs : Int) - P) = (bitsN z.natAbs : Int) - P := by simp only [wrap64]; omega
 have f2 : max ((bitsN z.natAbs : Int) - P) 0 = (K : Int) := by omega
 have f4 : wrap64 (e + K) = e + K := by simp only [wrap64]; omega
 have f5 : IntKind.i64.wrap (e + K) = e + K := by simp [IntKind.wrap, IntKind.signed, IntKind.bits]; omega
 have HF : Hid (wrap64 (e + K) = e + K ∧ IntKind.i64.wrap (e + K) = e + K ∧ -3145728 ≤ e + K ∧ e + K ≤ 3145728 ∧ K ≤ 9223372036854775807) := ⟨f4, f5, by omega, by omega, by omega⟩
 have HR : Hid (rd true z (2 ^ K) = ce (decide (z < 0)) z.natAbs (2 ^ K)) := by rw [ce_eq _ _ (Nat.pow_pos (by omega))]; rfl
 clear h hT hb he hP hK f4 f5
 go_enter Tryz.func21, Tryz.ntmps21
 go_wp2_with fail;obtain ⟨W0, hW0⟩ := exq (((w.alloc (.cells #[.func (.func 27) #[] #[], .func (.func 28) #[] #[]] 38)).alloc (.cells #[.bool s, .slice q m c] 25)).alloc (.cells #[.bool false, .slice none 0 0, .int .i64 0] 27))
 have Xy : Hid (Box W0 (w.heap.size) (.func (.func 27) #[] #[]) (.func (.func 28) #[] #[])) := by rw [hW0]; constructor <;> go_simp
 have Xm : Hid (Box W0 (w.heap.size + 1) (.bool s) (.slice q m c)) := by rw [hW0]; constructor <;> go_simp
 have Xr : Hid (B3q W0 (w.heap.size + 1 + 1) (.bool false) (.slice none 0 0) (.int .i64 0)) := by rw [hW0]; constructor <;> go_simp
 have hb0 := bq3 hW0;rw [← hW0];clear hW0;have hbw := brf w;obtain ⟨gr, hgr⟩ := exq (w.heap.size + 1 + 1);have HGr : Hid (w.heap.size ≤ gr) := hgl hgr;rw [← hgr] at Xr
 try rw [← hgr]
 obtain ⟨gm, hgm⟩ := exq (w.heap.size + 1);have HGm : Hid (w.heap.size ≤ gm) := hgl hgm;rw [← hgm] at Xm
 try rw [← hgm]
 obtain ⟨gy, hgy⟩ := exq w.heap.size;have HGy : Hid (w.heap.size ≤ gy) := hgl hgy;rw [← hgy] at Xy
 try rw [← hgy]
 have HGD : Hid (gy ≠ gm ∧ gy ≠ gr ∧ gm ≠ gy ∧ gm ≠ gr ∧ gr ≠ gy ∧ gr ≠ gm) := by rw [hgy, hgm, hgr]; show _ ∧ _; omega
 clear hgy hgm hgr;replace hbw := bon hbw hb0;clear hb0;obtain ⟨xs, hX⟩ := (H.out.below hbw).ex
 refine (bits_any hX.at_ (by have := hX.le; omega)).mono ?_
 rintro e2 v3 ⟨rfl, hw⟩;obtain rfl := hw.symm;clear hw;rw [hX.nf.val];clear hX;obtain ⟨cy0, cy1, fy0, fy1⟩ := Xy.out;have hney := Xy.out.lt;obtain ⟨cm0, cm1, fm0, fm1⟩ := Xm.out;have hnem := Xm.out.lt;go_wp2_with fail;clear cy0 cy1 fy0 fy1 hney cm0 cm1 fm0 fm1 hnem f1 f2
 refine (zcshr (H.out.below hbw) K HF.out.2.2.2.2 (TB.out.below hbw)).mono ?_
 rintro e v5 ⟨⟨s5, p5, m5, rfl, hz⟩, hb5⟩;replace Xy := Box.b Xy hb5;replace Xm := Box.b Xm hb5;replace Xr := B3q.b Xr hb5;replace hbw := bon hbw hb5;clear hb5;have hz := hz.cast (z' := rd true z (2 ^ K)) (HR.out.symm);have Z5 := hdQ hz;clear hz;have f4 := HF.out.1;have f5 := HF.out.2.1;go_wp2_with fail;clear f4 f5;have Xq0 : Hid (Box (v5.alloc (.cells #[.bool s5, .slice p5 m5 m5] 25)) v5.heap.size (.bool s5) (.slice p5 m5 m5)) := Box.new v5 _ _ _;have hbn : Below v5.heap.size v5 (v5.alloc (.cells #[.bool s5, .slice p5 m5 m5] 25)) := below1 v5 _;generalize v5.alloc (.cells #[.bool s5, .slice p5 m5 m5] 25) = Wq at *;have HGq : Hid (w.heap.size ≤ v5.heap.size) := hbw.size;replace Xy := Box.b Xy hbn;replace Xm := Box.b Xm hbn;replace Xr := B3q.b Xr hbn;replace Z5 := ZN.b Z5 hbn;replace hbw := bon hbw hbn;clear hbn;generalize v5.heap.size = gq at *;have Xq := Xq0;clear Xq0;have HRL : Hid (gr < Wq.heap.size ∧ w.heap.size ≤ Wq.heap.size) := ⟨Xr.out.lt, hbw.size⟩
 refine (makep Z5.out (by have := HF.out; omega) (TB.out.below hbw)).mono ?_
 rintro e2 v6 ⟨hv, hb6⟩;obtain ⟨s6, p6, m6, eo, er, rfl, hmp⟩ := hv.open;clear hv;replace Xy := Box.b Xy hb6;replace Xm := Box.b Xm hb6;replace Xr := B3q.b Xr hb6;replace Xq := Box.b Xq hb6;replace Z5 := ZN.b Z5 hb6;replace hbw := bon hbw hb6;clear hb6;have M6 := hdQ hmp;clear hmp;obtain ⟨cr0, cr1, cr2, fr0, fr1, fr2⟩ := Xr.out;have hner : gr < v6.heap.size := blt cr0;go_wp2_with fail
 refine bodyPost_ret (v := .tuple #[DV s6 p6 m6 m6 eo, .int .i64 er]) (by rw [results_cell_tmp rfl]; go_simp) rfl ⟨(M6.out.set HRL.out.1 HRL.out.2 _ _ _).close, ?_⟩
 exact bSet (bSet (bSet hbw _ _ _ HGr.out) _ _ _ HGr.out) _ _ _ HGr.out
theorem nought_t {p : Option Addr} {c : Nat} {w : World} {e : Int} {s : Bool} :
  Calls Tryz.prog 23 #[DV s p 0 c e] w fun en w' => en = .returned (.bool true) ∧ Below w.heap.size w w' := by
 go_enter Tryz.func23, Tryz.ntmps23
 go_wp2_with fail
 go_ret
 exact ⟨rfl, below1 w _⟩
theorem nought {p : Option Addr} {m c : Nat} {w : World} {e : Int} {s : Bool} :
  Calls Tryz.prog 23 #[DV s p m c e] w fun en w' => en = .returned (.bool (decide (m = 0))) ∧ Below w.heap.size w w' := by
 rcases Nat.eq_zero_or_pos m with h | h
 ·subst h; exact nought_t
 ·rw [decide_eq_false (by omega)]; exact nought5 h
end Go.Proofs.YtmlclpjimkjjeaaGreatDoor
