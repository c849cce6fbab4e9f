import Derived.Test.YtmlclpjimkjjeaaGreatDoorJ12
import Derived.Test.YtmlclpjimkjjeaaGreatDoorDa15
import Derived.Test.YtmlclpjimkjjeaaGreatDoorJ9
import Derived.Test.YtmlclpjimkjjeaaGreatDoorJ11
import Derived.Test.YtmlclpjimkjjeaaGreatDoorJ10
import Derived.Laws.Cover1
import Derived.Deep.RegionLaw
import Derived.Deep.LoopGhost
namespace Go.Proofs.YtmlclpjimkjjeaaGreatDoor
open Go.RowKit Go.Shelf
set_option maxRecDepth 20000
set_option maxHeartbeats 0
def GP (up : Bool) (z e E zo eo : Int) : Prop := DFm zo eo ∧ ((E ≤ e ∧ zo = z ∧ eo = e) ∨ (e < E ∧ dv zo eo = dv (rd up z (2 ^ (E - e).toNat)) E ∧ (zo = 0 ∨ E ≤ eo)))
theorem dv_grid {F e E : Int} (h : e < E) (he : -4194304 ≤ e) : dv F E = dv (F * ((2 ^ (E - e).toNat : Nat) : Int)) e := dv_shift (by omega) he
theorem GP.lo {z e E zo eo : Int} (h : GP false z e E zo eo) (he : -4194304 ≤ e) : dv zo eo ≤ dv z e := by
  rcases h.2 with ⟨_, rfl, rfl⟩ | ⟨h1, h2, _⟩
  · exact Int.le_refl _
  · rw [h2, dv_grid h1 he]
    exact dv_le _ (rd_down z (Nat.pow_pos (by omega))).1
theorem GP.hi {z e E zo eo : Int} (h : GP true z e E zo eo) (he : -4194304 ≤ e) : dv z e ≤ dv zo eo := by
  rcases h.2 with ⟨_, rfl, rfl⟩ | ⟨h1, h2, _⟩
  · exact Int.le_refl _
  · rw [h2, dv_grid h1 he]
    exact dv_le _ (rd_up z (Nat.pow_pos (by omega))).1
theorem bitsN_shr5 (a n : Nat) (h0 : a / 2 ^ n ≠ 0) : bitsN (a / 2 ^ n) = bitsN a - n := by
  have hp := Nat.two_pow_pos n;have h1 := Nat.div_add_mod a (2 ^ n);have h2 := Nat.mod_lt a hp
  have := bitsN_top (lo := a % 2 ^ n) (k := n) (x := a / 2 ^ n) h2 (bitsN_lt _) (bitsN_le _ h0) (by have := bitsN_pos h0; omega)
  rw [Nat.add_comm (a % 2 ^ n), h1] at this
  omega
theorem rd_neg2 (z : Int) (d : Nat) : rd true (-z) d = - rd false z d := by rw [rd_t, rd_f, Int.neg_neg]
theorem rd_dvd (up : Bool) {z m : Int} {d : Nat} (hd : 0 < d) (h : z = m * d) : rd up z d * d = z := by
  cases up
  · rw [rd_f, h, Int.mul_ediv_cancel _ (by omega)]
  · rw [rd_t, h, ← Int.neg_mul, Int.mul_ediv_cancel _ (by omega), Int.neg_neg]
theorem qsize {A B P : Nat} (hB : B ≠ 0) (hP : 1 ≤ P) (hA : A ≠ 0) (h : bitsN A = P + bitsN B) : 2 ^ (P - 1) ≤ A / B ∧ A / B < 2 ^ (P + 1) := by
  have a1 := bitsN_lt A;have a2 := bitsN_le A hA;have b1 := bitsN_lt B;have b2 := bitsN_le B hB;have b3 := bitsN_pos hB
  constructor
  · rw [Nat.le_div_iff_mul_le (by omega)]
    refine Nat.le_trans (Nat.mul_le_mul_left _ (Nat.le_of_lt b1)) ?_
    rw [← Nat.pow_add, show P - 1 + bitsN B = bitsN A - 1 from by omega]
    exact a2
  · rw [Nat.div_lt_iff_lt_mul (by omega)]
    refine Nat.lt_of_lt_of_le a1 (Nat.le_trans ?_ (Nat.mul_le_mul_left _ b2))
    rw [← Nat.pow_add]
    exact Nat.pow_le_pow_right (by omega) (by omega)
theorem core1 {n0 n1 P : Nat} (h01 : n1 = n0 ∨ n1 = n0 + 1) (h0 : 2 ^ (P - 1) ≤ n0) (hP : 1 ≤ P) :
  rd true (n1 : Int) (2 ^ (bitsN n1 - P)) * ((2 ^ (bitsN n1 - P) : Nat) : Int) = rd true (n1 : Int) (2 ^ (bitsN n0 - P)) * ((2 ^ (bitsN n0 - P) : Nat) : Int) := by
 by_cases hb : bitsN n1 = bitsN n0
 ·rw [hb]
 ·have hn : n1 = n0 + 1 := by rcases h01 with h | h; (exact absurd (by rw [h]) hb); exact h
  have hp0 : 0 < 2 ^ (P - 1) := Nat.pow_pos (by omega)
  have a1 := bitsN_lt n0
  have a2 := bitsN_le n0 (by omega)
  have a3 := bitsN_pos (a := n0) (by omega)
  have hP0 : P ≤ bitsN n0 := by
   have := (Nat.pow_lt_pow_iff_right (by omega : 1 < 2)).1 (Nat.lt_of_le_of_lt h0 a1)
   omega
  have h2 : n1 = 2 ^ bitsN n0 := by
   rcases Nat.lt_or_ge n1 (2 ^ bitsN n0) with h | h
   ·exact absurd (bitsN_unique h (fun _ => by omega) (fun h9 => by omega)) hb
   ·omega
  have key : ∀ k, k ≤ bitsN n0 → rd true (n1 : Int) (2 ^ k) * ((2 ^ k : Nat) : Int) = n1 := by
   intro k hk
   refine rd_dvd true (m := ((2 ^ (bitsN n0 - k) : Nat) : Int)) (Nat.pow_pos (by omega)) ?_
   rw [h2, ← Int.natCast_mul, ← Nat.pow_add, show bitsN n0 - k + k = bitsN n0 from by omega]
  have h3 : bitsN n1 = bitsN n0 + 1 := by
   rw [h2]
   refine bitsN_unique (Nat.pow_lt_pow_right (by omega) (by omega)) (fun _ => Nat.le_refl _) (fun h9 => ?_)
   have : 0 < 2 ^ bitsN n0 := Nat.pow_pos (by omega)
   omega
  rw [key _ (by omega), key _ (by omega)]
theorem WB.bits {x y X Y L : Int} {P : Nat} (h : WB x y P X Y L) (hx : x ≠ 0) (hy : y ≠ 0) : bitsN X.natAbs = P + bitsN Y.natAbs ∧ X ≠ 0 ∧ Y ≠ 0 := by
  obtain ⟨h1, h2, h3⟩ := h
  have key : ∀ (z : Int) (N : Nat), z ≠ 0 → bitsN (z * 2 ^ N).natAbs = bitsN z.natAbs + N ∧ z * 2 ^ N ≠ 0 := by
    intro z N hz
    refine ⟨?_, Int.mul_ne_zero hz (by rw [pow_cast]; exact pow_pos_int _)⟩
    rw [Int.natAbs_mul, pow_cast, Int.natAbs_natCast, Nat.mul_comm, bitsN_shl _ _ (by omega)]
    omega
  obtain ⟨a1, a2⟩ := key x L.toNat hx;obtain ⟨b1, b2⟩ := key y (-L).toNat hy;rw [h2, h3]
  exact ⟨by omega, a2, b2⟩
theorem WB.cmp {x y X Y L G : Int} {P : Nat} {e : Int} (h : WB x y P X Y L) (he : -2000000 ≤ e - L) (he2 : -2000000 ≤ e) : (G * Y ≤ X → dv (G * y) (e - L) ≤ dv x e) ∧ (X ≤ G * Y → dv x e ≤ dv (G * y) (e - L)) := by
  obtain ⟨h1, h2, h3⟩ := h
  rcases Int.lt_or_le L 0 with h0 | h0
  · have e1 : dv (G * y) (e - L) = dv (G * Y) e := by
      rw [dv_shift (e := e - L) (f := e) (by omega) (by omega), show (e - L - e).toNat = (-L).toNat from by omega, h3, pow_cast, Int.mul_assoc]
    have e2 : X = x := by rw [h2, show L.toNat = 0 from by omega]; simp
    rw [e1, ← e2]
    exact ⟨dv_le e, dv_le e⟩
  · have e1 : dv x e = dv X (e - L) := by
      rw [dv_shift (e := e) (f := e - L) (by omega) (by omega), show (e - (e - L)).toNat = L.toNat from by omega, h2, pow_cast]
    have e2 : Y = y := by rw [h3, show (-L).toNat = 0 from by omega]; simp
    rw [e1, ← e2]
    exact ⟨dv_le _, dv_le _⟩
def MkR (z e zo eo er : Int) : Prop := (z = 0 ∧ zo = 0 ∧ eo = 0 ∧ er = 0) ∨
  (z ≠ 0 ∧ ∃ k : Nat, TzIs z.natAbs k ∧ ((-1048576 ≤ e + k ∧ e + k ≤ 1048576 ∧ zo * ((2 ^ k : Nat) : Int) = z ∧ eo = e + k ∧ er = 0) ∨ (¬ (-1048576 ≤ e + k ∧ e + k ≤ 1048576) ∧ zo = 0 ∧ eo = 0 ∧ er = 5)))
theorem MkR.uniq {z e zo eo er zo' eo' er' : Int} (h : MkR z e zo eo er) (k : MkR z e zo' eo' er') : zo = zo' ∧ eo = eo' ∧ er = er' := by
  rcases h with ⟨h0, rfl, rfl, rfl⟩ | ⟨h0, K, hK, h⟩
  · rcases k with ⟨_, rfl, rfl, rfl⟩ | ⟨k0, _⟩
    · exact ⟨rfl, rfl, rfl⟩
    · exact absurd h0 k0
  · rcases k with ⟨k0, _⟩ | ⟨_, L, hL, k⟩
    · exact absurd k0 h0
    · obtain rfl := hK.inj hL
      rcases h with ⟨h1, h2, h3, rfl, rfl⟩ | ⟨h1, rfl, rfl, rfl⟩
      · rcases k with ⟨_, _, k3, rfl, rfl⟩ | ⟨k1, _⟩
        · exact ⟨Int.eq_of_mul_eq_mul_right (pow_pos_int K) (h3.trans k3.symm), rfl, rfl⟩
        · exact absurd ⟨h1, h2⟩ k1
      · rcases k with ⟨k1, k2, _⟩ | ⟨_, rfl, rfl, rfl⟩
        · exact absurd ⟨k1, k2⟩ h1
        · exact ⟨rfl, rfl, rfl⟩
theorem MkR.zero (e : Int) : MkR 0 e 0 0 0 := .inl ⟨rfl, rfl, rfl, rfl⟩
theorem TzIs.zero_of_odd {v : Nat} (h : v % 2 = 1) : TzIs v 0 := ⟨by simp [Nat.mod_one], by simpa using h⟩
theorem MkR.odd {z e : Int} (hz : z % 2 = 1) (he : -1048576 ≤ e ∧ e ≤ 1048576) : MkR z e z e 0 :=
 .inr ⟨by omega, 0, TzIs.zero_of_odd (by omega), .inl ⟨by omega, by omega, by simp, by omega, rfl⟩⟩
theorem MkR.big {z e : Int} (hz : z % 2 = 1) (he : ¬ (-1048576 ≤ e ∧ e ≤ 1048576)) : MkR z e 0 0 5 :=
 .inr ⟨by omega, 0, TzIs.zero_of_odd (by omega), .inr ⟨by omega, rfl, rfl, rfl⟩⟩
theorem MkR.fm {z e zo eo er : Int} (h : MkR z e zo eo er) : DFm zo eo := by
  rcases h with ⟨_, rfl, rfl, _⟩ | ⟨h0, K, hK, ⟨h1, h2, h3, rfl, _⟩ | ⟨_, rfl, rfl, _⟩⟩
  · exact .inl ⟨rfl, rfl⟩
  · refine .inr ⟨?_, h1, h2⟩
    have h4 : zo.natAbs * 2 ^ K = z.natAbs := by
      have := congrArg Int.natAbs h3;rw [Int.natAbs_mul] at this
      simpa using this
    have h5 := hK.2;rw [← h4, Nat.mul_div_cancel _ (Nat.two_pow_pos K)] at h5
    omega
  · exact .inl ⟨rfl, rfl⟩
structure DQ (B : Nat) (w : World) (s : Bool) (p : Option Addr) (m c : Nat) (e z : Int) : Prop where
 dn : DN w s p m c e z
 nw : m = 0 ∨ ∃ g, p = some ⟨g, 0, none⟩ ∧ B ≤ g
theorem DQ.below {B : Nat} {w w' : World} {s : Bool} {p : Option Addr} {m c : Nat} {e z : Int} (h : DQ B w s p m c e z) (hb : Below w.heap.size w w') : DQ B w' s p m c e z := ⟨h.dn.below hb, h.nw⟩
theorem DQ.b {B : Nat} {w w' : World} {s : Bool} {p : Option Addr} {m c : Nat} {e z : Int} (h : Hid (DQ B w s p m c e z)) (hb : Below w.heap.size w w') : Hid (DQ B w' s p m c e z) := DQ.below h hb
theorem DQ.mono {B B' : Nat} {w : World} {s : Bool} {p : Option Addr} {m c : Nat} {e z : Int} (h : DQ B w s p m c e z) (hB : B' ≤ B) : DQ B' w s p m c e z := ⟨h.dn, h.nw.imp id fun ⟨g, h1, h2⟩ => ⟨g, h1, Nat.le_trans hB h2⟩⟩
theorem DN.setOff {w : World} {s : Bool} {p : Option Addr} {m c g o : Nat} {e z : Int} {v : Value} (h : DN w s p m c e z) (hf : m = 0 ∨ ∃ g', p = some ⟨g', 0, none⟩ ∧ g' ≠ g) : DN (w.setCell ⟨g, o, none⟩ v) s p m c e z := by
  obtain ⟨xs, hX⟩ := h.zn.ex
  refine ⟨⟨⟨xs, ?_, hX.nf, hX.le⟩, h.zn.sg⟩, h.fm⟩
  rcases hf with rfl | ⟨g', rfl, hg⟩
  · obtain rfl : xs = [] := List.eq_nil_of_length_eq_zero hX.at_.len
    exact At.empty _ _ _ hX.at_.big
  · exact hX.at_.setOther _ _ _ hg
theorem DQ.set {B : Nat} {w : World} {s : Bool} {p : Option Addr} {m c : Nat} {e z : Int} (h : DQ B w s p m c e z) (g o : Nat) (v : Value) (hg : g < B) : DQ B (w.setCell ⟨g, o, none⟩ v) s p m c e z :=
 ⟨h.dn.setOff (h.nw.imp id fun ⟨g', h1, h2⟩ => ⟨g', h1, by omega⟩), h.nw⟩
theorem DQ.set3 {B b : Nat} {w : World} {s : Bool} {p : Option Addr} {m c : Nat} {e z : Int} (h : DQ B w s p m c e z) {r : Nat} (hr : r < B) (hb : b ≤ B) (v0 v1 v2 : Value) : DQ b (((w.setCell ⟨r, 0, none⟩ v0).setCell ⟨r, 1, none⟩ v1).setCell ⟨r, 2, none⟩ v2) s p m c e z :=
 (((h.set _ _ _ hr).set _ _ _ hr).set _ _ _ hr).mono hb
theorem DQ.zero (B : Nat) (w : World) : DQ B w false none 0 0 0 0 :=
 ⟨⟨⟨⟨[], At.empty _ _ _ (by decide), Nf.nil _, by omega⟩, rfl⟩, .inl ⟨rfl, rfl⟩⟩, .inl rfl⟩
theorem AnsD.dq {B : Nat} {w' : World} {v : Value} {z e : Int} (h : AnsD B w' v z e) (hf : DFm z e) : ∃ s p m, v = DV s p m m e ∧ DQ B w' s p m m e z := by
  obtain ⟨p, m, zs, rfl, ho, hn, hm⟩ := h
  exact ⟨_, p, m, rfl, ⟨⟨⟨zs, Num.of ho hn hm⟩, rfl⟩, hf⟩, ho.mem.imp id fun ⟨g, e, hg, _⟩ => ⟨g, e, hg⟩⟩
def SaidD (B : Nat) (w' : World) (en : Ending) (z e er : Int) : Prop := ∃ s p m c, en = .returned (.tuple #[DV s p m c e, .int .i64 er]) ∧ DQ B w' s p m c e z
theorem SaidD.err (B : Nat) (w' : World) (er : Int) : SaidD B w' (.returned (.tuple #[DV false none 0 0 0, .int .i64 er])) 0 0 er := ⟨_, _, _, _, rfl, DQ.zero _ _⟩
theorem SaidD.ans {B : Nat} {w' : World} {v : Value} {z e : Int} (h : AnsD B w' v z e) (hf : DFm z e) : SaidD B w' (.returned (.tuple #[v, .int .i64 0])) z e 0 := by
  obtain ⟨s, p, m, rfl, hd⟩ := h.dq hf
  exact ⟨s, p, m, m, rfl, hd⟩
theorem TzO.is {z : Int} {k : Nat} (hz : z ≠ 0) (h : TzO z.natAbs k) : TzIs z.natAbs k := by
  rcases h with ⟨h0, _⟩ | ⟨_, h1, h2⟩
  · omega
  · exact ⟨h1, h2⟩
theorem MakeP.mk {B : Nat} {w' : World} {en : Ending} {z e : Int} (h : MakeP B w' en z e) (he : -4194304 ≤ e) : ∃ zo eo er, SaidD B w' en zo eo er ∧ MkR z e zo eo er := by
  by_cases hz : z = 0
  · subst hz
    obtain ⟨v, rfl, hv⟩ := h.form (.inl ⟨rfl, rfl⟩) (by rw [dv_zero, dv_zero])
    exact ⟨0, 0, 0, SaidD.ans hv (.inl ⟨rfl, rfl⟩), MkR.zero e⟩
  · obtain ⟨k, hk⟩ := TzO.ex z.natAbs
    have hki := hk.is hz;obtain ⟨h1, h2, _⟩ := tz_split hz hk;generalize fl (decide (z < 0)) z.natAbs (2 ^ k) = o at *
    by_cases hr : -1048576 ≤ e + k ∧ e + k ≤ 1048576
    · have hf : DFm o (e + k) := .inr ⟨h1, hr⟩
      obtain ⟨v, rfl, hv⟩ := h.form hf (by rw [dv_up k he, h2])
      exact ⟨o, e + k, 0, SaidD.ans hv hf, .inr ⟨hz, k, hki, .inl ⟨hr.1, hr.2, h2, rfl, rfl⟩⟩⟩
    · rcases h with ⟨v, zo, eo, _, _, h5, h6⟩ | ⟨rfl, _⟩
      · exact absurd h6 (make_no hz hk he (by omega) zo eo h5)
      · exact ⟨0, 0, 5, SaidD.err _ _ _, .inr ⟨hz, k, hki, .inr ⟨hr, rfl, rfl, rfl⟩⟩⟩
def OneD (R : Int → Int → Int → Int → Int → Prop) (sx : Bool) (xx : List Nat) (ex zo eo er : Int) : Prop :=
 (formD sx xx ex = false ∧ zo = 0 ∧ eo = 0 ∧ er = 2) ∨ (formD sx xx ex = true ∧ R (iv sx (valB B64 xx)) ex zo eo er)
def TwoD (R : Int → Int → Int → Int → Int → Int → Int → Prop) (sx : Bool) (xx : List Nat) (ex : Int) (sy : Bool) (yy : List Nat) (ey zo eo er : Int) : Prop :=
 ((formD sx xx ex = false ∨ formD sy yy ey = false) ∧ zo = 0 ∧ eo = 0 ∧ er = 2) ∨ (formD sx xx ex = true ∧ formD sy yy ey = true ∧ R (iv sx (valB B64 xx)) ex (iv sy (valB B64 yy)) ey zo eo er)
theorem OneD.uniq {R : Int → Int → Int → Int → Int → Prop} {sx : Bool} {xx : List Nat} {ex zo eo er zo' eo' er' : Int} (hR : ∀ x e a b c a' b' c', R x e a b c → R x e a' b' c' → a = a' ∧ b = b' ∧ c = c')
  (h : OneD R sx xx ex zo eo er) (k : OneD R sx xx ex zo' eo' er') : zo = zo' ∧ eo = eo' ∧ er = er' := by
 rcases h with ⟨h0, rfl, rfl, rfl⟩ | ⟨h0, h⟩ <;> rcases k with ⟨k0, rfl, rfl, rfl⟩ | ⟨k0, k⟩
 ·exact ⟨rfl, rfl, rfl⟩
 ·simp_all
 ·simp_all
 ·exact hR _ _ _ _ _ _ _ _ h k
theorem TwoD.uniq {R : Int → Int → Int → Int → Int → Int → Int → Prop} {sx sy : Bool} {xx yy : List Nat} {ex ey zo eo er zo' eo' er' : Int} (hR : ∀ x e y f a b c a' b' c', R x e y f a b c → R x e y f a' b' c' → a = a' ∧ b = b' ∧ c = c')
  (h : TwoD R sx xx ex sy yy ey zo eo er) (k : TwoD R sx xx ex sy yy ey zo' eo' er') : zo = zo' ∧ eo = eo' ∧ er = er' := by
 rcases h with ⟨h0, rfl, rfl, rfl⟩ | ⟨h0, h1, h⟩ <;> rcases k with ⟨k0, rfl, rfl, rfl⟩ | ⟨k0, k1, k⟩
 ·exact ⟨rfl, rfl, rfl⟩
 ·rcases h0 with h0 | h0 <;> simp_all
 ·rcases k0 with k0 | k0 <;> simp_all
 ·exact hR _ _ _ _ _ _ _ _ _ _ h k
def MulR (x e y f zo eo er : Int) : Prop := ((x * y).natAbs < LIM ∧ MkR (x * y) (e + f) zo eo er) ∨ (LIM ≤ (x * y).natAbs ∧ zo = 0 ∧ eo = 0 ∧ er = 5)
theorem MulR.uniq (x e y f a b c a' b' c' : Int) (h : MulR x e y f a b c) (k : MulR x e y f a' b' c') : a = a' ∧ b = b' ∧ c = c' := by
  rcases h with ⟨h0, h⟩ | ⟨h0, rfl, rfl, rfl⟩ <;> rcases k with ⟨k0, k⟩ | ⟨k0, rfl, rfl, rfl⟩
  · exact h.uniq k
  · omega
  · omega
  · exact ⟨rfl, rfl, rfl⟩
def ScaleR (n x e zo eo er : Int) : Prop := (x = 0 ∧ zo = 0 ∧ eo = 0 ∧ er = 0) ∨ (x ≠ 0 ∧ ((-1048576 ≤ e + n ∧ e + n ≤ 1048576 ∧ zo = x ∧ eo = e + n ∧ er = 0) ∨ (¬ (-1048576 ≤ e + n ∧ e + n ≤ 1048576) ∧ zo = 0 ∧ eo = 0 ∧ er = 5)))
theorem ScaleR.uniq (n x e a b c a' b' c' : Int) (h : ScaleR n x e a b c) (k : ScaleR n x e a' b' c') : a = a' ∧ b = b' ∧ c = c' := by
  unfold ScaleR at h k; omega
theorem qI_scale (up : Bool) (X Y : Int) {c : Nat} (hc : 0 < c) : qI up (X * (c : Int)) (Y * (c : Int)) = qI up X Y := by
  have hs : ∀ z : Int, decide (z * (c : Int) < 0) = decide (z < 0) := by
    intro z
    rcases Int.lt_or_le z 0 with h | h
    · rw [decide_eq_true h, decide_eq_true (Int.mul_neg_of_neg_of_pos h (by omega))]
    · have h9 := Int.mul_nonneg h (show (0 : Int) ≤ (c : Int) by omega)
      rw [decide_eq_false (show ¬ z * (c : Int) < 0 from by omega), decide_eq_false (show ¬ z < 0 from by omega)]
  have h1 : X.natAbs * c / (Y.natAbs * c) = X.natAbs / Y.natAbs := Nat.mul_div_mul_right _ _ hc;have h2 : X.natAbs * c % (Y.natAbs * c) = X.natAbs % Y.natAbs * c := Nat.mul_mod_mul_right _ _ _
  have h3 : decide (X.natAbs % Y.natAbs * c ≠ 0) = decide (X.natAbs % Y.natAbs ≠ 0) := by
    by_cases h : X.natAbs % Y.natAbs = 0
    · rw [h, Nat.zero_mul]
    · rw [decide_eq_true h, decide_eq_true (Nat.mul_ne_zero h (by omega))]
  unfold qI fl ce;rw [hs, hs, Int.natAbs_mul, Int.natAbs_mul, Int.natAbs_natCast, h1, h2, h3]
theorem rdt_le {n M : Int} {d : Nat} (hd : 0 < d) (h : n ≤ M * d) : rd true n d ≤ M := by
  have h1 := (rd_up n hd).2
  have := Int.lt_of_mul_lt_mul_right (show (rd true n d - 1) * d < M * d by omega) (by omega)
  omega
theorem rdt_nn {n d : Nat} (hd : 0 < d) : ∃ c : Nat, rd true (n : Int) d = (c : Int) ∧ n ≤ c * d := by
  have h1 := (rd_up (n : Int) hd).1
  have h2 : 0 ≤ rd true (n : Int) d := by
    rcases Int.lt_or_le (rd true (n : Int) d) 0 with h | h
    · have := Int.mul_neg_of_neg_of_pos h (show (0 : Int) < (d : Int) by omega)
      omega
    · exact h
  obtain ⟨c, hc⟩ : ∃ c : Nat, rd true (n : Int) d = c := ⟨_, (Int.toNat_of_nonneg h2).symm⟩
  refine ⟨c, hc, ?_⟩
  rw [hc] at h1
  exact_mod_cast h1
def cdN (A B : Nat) : Nat := A / B + (decide (A % B ≠ 0)).toNat
theorem cd_le {A B m : Nat} (hB : 0 < B) : cdN A B ≤ m ↔ A ≤ m * B := by
  unfold cdN;have h1 := Nat.div_add_mod A B;have h2 := Nat.mod_lt A hB;rw [Nat.mul_comm m B]
  by_cases h : A % B = 0
  · rw [h, decide_eq_false (by simp), Bool.toNat_false, Nat.add_zero]
    constructor
    · intro h3; have := Nat.mul_le_mul_left B h3; omega
    · intro h3; exact Nat.div_le_of_le_mul h3
  · rw [decide_eq_true h, Bool.toNat_true]
    constructor
    · intro h3
      have := Nat.mul_le_mul_left B h3;rw [Nat.mul_add] at this
      omega
    · intro h3
      rcases Nat.lt_or_ge (A / B) m with h4 | h4
      · exact h4
      · have := Nat.mul_le_mul_left B h4
        omega
theorem cd_or (A B : Nat) : cdN A B = A / B ∨ cdN A B = A / B + 1 := by
  unfold cdN
  cases decide (A % B ≠ 0)
  · exact .inl rfl
  · exact .inr rfl
theorem coreF {A B P j : Nat} (hP : 1 ≤ P) (h0 : 2 ^ (P - 1) ≤ A / B) : bitsN (A * 2 ^ j / B) = bitsN (A / B) + j ∧ P ≤ bitsN (A / B) ∧ A * 2 ^ j / B / 2 ^ (bitsN (A / B) - P + j) = A / B / 2 ^ (bitsN (A / B) - P) ∧ 2 ^ (P - 1) ≤ A * 2 ^ j / B := by
  have hp0 : 0 < 2 ^ (P - 1) := Nat.pow_pos (by omega)
  have hj : 0 < 2 ^ j := Nat.pow_pos (by omega)
  have e1 : A * 2 ^ j / B / 2 ^ j = A / B := by rw [Nat.div_div_eq_div_mul, Nat.mul_div_mul_right _ _ hj]
  have e2 := bitsN_shr5 (A * 2 ^ j / B) j (by rw [e1]; omega)
  rw [e1] at e2
  have e3 := bitsN_pos (a := A / B) (by omega)
  have e4 : P ≤ bitsN (A / B) := by
    have := (Nat.pow_lt_pow_iff_right (by omega : 1 < 2)).1 (Nat.lt_of_le_of_lt h0 (bitsN_lt (A / B)))
    omega
  refine ⟨by omega, e4, ?_, ?_⟩
  · rw [Nat.add_comm, Nat.pow_add, ← Nat.div_div_eq_div_mul, e1]
  · exact Nat.le_trans h0 (Nat.div_le_div_right (Nat.le_mul_of_pos_right _ hj))
theorem coreD {A B j d : Nat} (hB : 0 < B) (hd : 0 < d) : rd true (cdN (A * 2 ^ j) B : Int) (d * 2 ^ j) = rd true (cdN A B : Int) d := by
  have hj : 0 < 2 ^ j := Nat.pow_pos (by omega)
  have hdj : 0 < d * 2 ^ j := Nat.mul_pos hd hj;obtain ⟨c, hc, hc2⟩ := rdt_nn (n := cdN A B) hd;obtain ⟨c', hc', hc2'⟩ := rdt_nn (n := cdN (A * 2 ^ j) B) hdj
  apply Int.le_antisymm
  · rw [hc]
    refine rdt_le hdj ?_
    have h1 : cdN (A * 2 ^ j) B ≤ c * (d * 2 ^ j) := by
      rw [cd_le hB];have := Nat.mul_le_mul_right (2 ^ j) ((cd_le hB).1 hc2)
      rw [show c * (d * 2 ^ j) * B = c * d * B * 2 ^ j by ac_rfl]
      exact this
    exact_mod_cast h1
  · rw [hc']
    refine rdt_le hd ?_
    have h1 : cdN A B ≤ c' * d := by
      rw [cd_le hB];have h2 := (cd_le hB).1 hc2'
      rw [show c' * (d * 2 ^ j) * B = c' * d * B * 2 ^ j by ac_rfl] at h2
      exact Nat.le_of_mul_le_mul_right h2 hj
    exact_mod_cast h1
theorem coreV {A B P j : Nat} (hB : 0 < B) (hP : 1 ≤ P) (h0 : 2 ^ (P - 1) ≤ A / B) :
  rd false ((A * 2 ^ j / B : Nat) : Int) (2 ^ (bitsN (A * 2 ^ j / B) - P)) * ((2 ^ (bitsN (A * 2 ^ j / B) - P) : Nat) : Int) = rd false ((A / B : Nat) : Int) (2 ^ (bitsN (A / B) - P)) * ((2 ^ (bitsN (A / B) - P) : Nat) : Int) * ((2 ^ j : Nat) : Int) ∧
  rd true (cdN (A * 2 ^ j) B : Int) (2 ^ (bitsN (cdN (A * 2 ^ j) B) - P)) * ((2 ^ (bitsN (cdN (A * 2 ^ j) B) - P) : Nat) : Int) = rd true (cdN A B : Int) (2 ^ (bitsN (cdN A B) - P)) * ((2 ^ (bitsN (cdN A B) - P) : Nat) : Int) * ((2 ^ j : Nat) : Int) := by
 obtain ⟨f1, f2, f3, f4⟩ := coreF (j := j) hP h0
 have hk : bitsN (A * 2 ^ j / B) - P = bitsN (A / B) - P + j := by omega
 constructor
 ·rw [hk, rd_f, rd_f, ← Int.natCast_ediv, ← Int.natCast_ediv, f3, Int.mul_assoc, ← Int.natCast_mul (2 ^ _) (2 ^ j), ← Nat.pow_add]
 ·rw [core1 (cd_or (A * 2 ^ j) B) f4 hP, core1 (cd_or A B) h0 hP, hk, Nat.pow_add, coreD hB (Nat.pow_pos (by omega)), Int.natCast_mul, Int.mul_assoc]
theorem qcut (up : Bool) {X Y : Int} {P j : Nat} (hY : Y ≠ 0) (hP : 1 ≤ P) (h0 : 2 ^ (P - 1) ≤ X.natAbs / Y.natAbs) :
  rd up (qI up (X * ((2 ^ j : Nat) : Int)) Y) (2 ^ (bitsN (qI up (X * ((2 ^ j : Nat) : Int)) Y).natAbs - P)) * ((2 ^ (bitsN (qI up (X * ((2 ^ j : Nat) : Int)) Y).natAbs - P) : Nat) : Int) =
  rd up (qI up X Y) (2 ^ (bitsN (qI up X Y).natAbs - P)) * ((2 ^ (bitsN (qI up X Y).natAbs - P) : Nat) : Int) * ((2 ^ j : Nat) : Int) := by
 have hj : 0 < 2 ^ j := Nat.pow_pos (by omega)
 have hs : decide (X * ((2 ^ j : Nat) : Int) < 0) = decide (X < 0) := by
  rcases Int.lt_or_le X 0 with h | h
  ·rw [decide_eq_true h, decide_eq_true (Int.mul_neg_of_neg_of_pos h (by omega))]
  ·have h9 := Int.mul_nonneg h (show (0 : Int) ≤ ((2 ^ j : Nat) : Int) by omega)
   rw [decide_eq_false (show ¬ X * ((2 ^ j : Nat) : Int) < 0 from by omega), decide_eq_false (show ¬ X < 0 from by omega)]
 obtain ⟨v1, v2⟩ := coreV (j := j) (show 0 < Y.natAbs by omega) hP h0
 unfold qI;rw [hs, Int.natAbs_mul, Int.natAbs_natCast]
 have eF : ∀ a b, fl false a b = ((a / b : Nat) : Int) := fun a b => by unfold fl; rw [iv_f, Bool.false_and]; rfl
 have eC : ∀ a b, ce false a b = (cdN a b : Int) := fun a b => by unfold ce cdN; rw [iv_f, Bool.not_false, Bool.true_and]
 have eF' : ∀ a b, fl true a b = -(cdN a b : Int) := fun a b => by unfold fl cdN; rw [iv_t, Bool.true_and]
 have eC' : ∀ a b, ce true a b = -((a / b : Nat) : Int) := fun a b => by unfold ce; rw [iv_t, Bool.not_true, Bool.false_and]; rfl
 cases up <;> cases (decide (X < 0) != decide (Y < 0))
 ·rw [if_neg (by decide), if_neg (by decide), eF, eF, Int.natAbs_natCast, Int.natAbs_natCast]; exact v1
 ·rw [if_neg (by decide), if_neg (by decide), eF', eF', Int.natAbs_neg, Int.natAbs_neg, Int.natAbs_natCast, Int.natAbs_natCast, rd_neg, rd_neg, Int.neg_mul, v2, Int.neg_mul, Int.neg_mul]
 ·rw [if_pos rfl, if_pos rfl, eC, eC, Int.natAbs_natCast, Int.natAbs_natCast]; exact v2
 ·rw [if_pos rfl, if_pos rfl, eC', eC', Int.natAbs_neg, Int.natAbs_neg, Int.natAbs_natCast, Int.natAbs_natCast, rd_neg2, rd_neg2, Int.neg_mul, v1, Int.neg_mul, Int.neg_mul]
theorem MkR.congr {z e z' e' a b c : Int} (h : MkR z e a b c) (hv : dv z e = dv z' e') (he : -4194304 ≤ e) (he' : -4194304 ≤ e') : MkR z' e' a b c := by
  by_cases h0 : z' = 0
  · subst h0
    rw [dv_zero] at hv;have hz := dv_eq_zero hv
    rcases h with ⟨_, h⟩ | ⟨h, _⟩
    · exact .inl ⟨rfl, h⟩
    · exact absurd hz h
  have hz : z ≠ 0 := fun e0 => by
    subst e0;rw [dv_zero] at hv
    exact h0 (dv_eq_zero hv.symm)
  rcases h with ⟨h, _⟩ | ⟨_, k, hk, h⟩
  · exact absurd h hz
  obtain ⟨k', hk'⟩ := TzO.ex z'.natAbs
  obtain ⟨o1, o2, _⟩ := tz_split hz (show TzO z.natAbs k from .inr ⟨by omega, hk.1, hk.2⟩)
  obtain ⟨p1, p2, _⟩ := tz_split h0 hk';generalize fl (decide (z < 0)) z.natAbs (2 ^ k) = o at *;generalize fl (decide (z' < 0)) z'.natAbs (2 ^ k') = p at *
  have hv2 : dv o (e + k) = dv p (e' + k') := by rw [dv_up k he, dv_up k' he', o2, p2]; exact hv
  have hE : e + k = e' + k' := odd_exp o1 p1 (by omega) (by omega) hv2
  have hop : o = p := by
    rw [hE] at hv2
    exact Int.eq_of_mul_eq_mul_right (pow_pos_int _) hv2
  subst hop
  refine .inr ⟨h0, k', hk'.is h0, ?_⟩
  rcases h with ⟨h1, h2, h3, h4, h5⟩ | ⟨h1, h2⟩
  · refine .inl ⟨by omega, by omega, ?_, by omega, h5⟩
    have : a = o := Int.eq_of_mul_eq_mul_right (pow_pos_int k) (h3.trans o2.symm);rw [this]; exact p2
  · exact .inr ⟨by omega, h2⟩
def MakeA (s : Bool) (xs : List Nat) (e zo eo er : Int) : Prop := (formZ s xs = false ∧ zo = 0 ∧ eo = 0 ∧ er = 2) ∨ (formZ s xs = true ∧ MkR (iv s (valB B64 xs)) e zo eo er)
theorem MakeA.uniq {s : Bool} {xs : List Nat} {e zo eo er zo' eo' er' : Int} (h : MakeA s xs e zo eo er) (k : MakeA s xs e zo' eo' er') : zo = zo' ∧ eo = eo' ∧ er = er' := by
  rcases h with ⟨h0, rfl, rfl, rfl⟩ | ⟨h0, h⟩ <;> rcases k with ⟨k0, rfl, rfl, rfl⟩ | ⟨k0, k⟩
  · exact ⟨rfl, rfl, rfl⟩
  · rw [h0] at k0; cases k0
  · rw [h0] at k0; cases k0
  · exact h.uniq k
def QS (x y : Int) (P : Nat) : Nat := ((P : Int) + 1 + bitsN y.natAbs - bitsN x.natAbs).toNat
def QV (up : Bool) (x y : Int) (P : Nat) : Int := qI up (x * ((2 ^ QS x y P : Nat) : Int)) y
def QuoM (up : Bool) (x e y f : Int) (P : Nat) (zo eo er : Int) : Prop := MkR (rd up (QV up x y P) (2 ^ (bitsN (QV up x y P).natAbs - P))) (e - f - (QS x y P : Int) + ((bitsN (QV up x y P).natAbs - P : Nat) : Int)) zo eo er
def QuoA (up : Bool) (s : Bool) (xs : List Nat) (e : Int) (t : Bool) (ys : List Nat) (f P zo eo er : Int) : Prop :=
 if ¬ (1 ≤ P ∧ P ≤ 70000) then (zo = 0 ∧ eo = 0 ∧ er = 1) else
 if formD s xs e = false ∨ formD t ys f = false then (zo = 0 ∧ eo = 0 ∧ er = 2) else
 if iv t (valB B64 ys) = 0 then (zo = 0 ∧ eo = 0 ∧ er = 4) else
 if 4096 < max xs.length ys.length then (zo = 0 ∧ eo = 0 ∧ er = 5) else
 QuoM up (iv s (valB B64 xs)) e (iv t (valB B64 ys)) f P.toNat zo eo er
theorem QuoA.uniq {up s t : Bool} {xs ys : List Nat} {e f P zo eo er zo' eo' er' : Int} (h : QuoA up s xs e t ys f P zo eo er) (k : QuoA up s xs e t ys f P zo' eo' er') : zo = zo' ∧ eo = eo' ∧ er = er' := by
  unfold QuoA at h k
  by_cases h1 : ¬ (1 ≤ P ∧ P ≤ 70000)
  · rw [if_pos h1] at h k; omega
  rw [if_neg h1] at h k
  by_cases h2 : formD s xs e = false ∨ formD t ys f = false
  · rw [if_pos h2] at h k; omega
  rw [if_neg h2] at h k
  by_cases h3 : iv t (valB B64 ys) = 0
  · rw [if_pos h3] at h k; omega
  rw [if_neg h3] at h k
  by_cases h4 : 4096 < max xs.length ys.length
  · rw [if_pos h4] at h k; omega
  rw [if_neg h4] at h k
  exact MkR.uniq h k
theorem qI_zero (up : Bool) (Y : Int) : qI up 0 Y = 0 := by
  unfold qI fl ce
  cases up <;> simp [iv]
theorem quo_same (up : Bool) {x y e f X Y L a b c : Int} {P : Nat} (hy : y ≠ 0) (hP : 1 ≤ P) (hw : WB x y P X Y L) (hb : bitsN x.natAbs ≤ 262144 ∧ bitsN y.natAbs ≤ 262144 ∧ P ≤ 70000) (he : -1048576 ≤ e ∧ e ≤ 1048576) (hf : -1048576 ≤ f ∧ f ≤ 1048576)
  (h : MkR (rd up (qI up X Y) (2 ^ (bitsN (qI up X Y).natAbs - P))) (e - f - L + ((bitsN (qI up X Y).natAbs - P : Nat) : Int)) a b c) : QuoM up x e y f P a b c := by
 have hl := hw.l;unfold QuoM
 have hs : (QS x y P : Int) = max 0 (L + 1) := by unfold QS; omega
 refine h.congr ?_ (by omega) (by omega)
 by_cases hx : x = 0
 ·have hX : X = 0 := by rw [hw.xv, hx, Int.zero_mul]
  unfold QV;rw [hX, hx, Int.zero_mul, qI_zero, qI_zero, rd_zero, dv_zero, dv_zero]
 obtain ⟨w1, w2, w3⟩ := hw.bits hx hy
 have h0 := (qsize (A := X.natAbs) (B := Y.natAbs) (by omega) hP (by omega) w1).1
 obtain ⟨j, hj⟩ : ∃ j : Nat, (j : Int) = (QS x y P : Int) - L := ⟨((QS x y P : Int) - L).toNat, by omega⟩
 have hq := qcut up (j := j) w3 hP h0
 have hQ : QV up x y P = qI up (X * ((2 ^ j : Nat) : Int)) Y := by
  unfold QV
  rcases Int.lt_or_le L 0 with hL | hL
  ·have e1 : QS x y P = 0 := by omega
   have e2 : (-L).toNat = j := by omega
   rw [e1, Nat.pow_zero, hw.xv, hw.yv, show L.toNat = 0 from by omega, e2, pow_cast, pow_cast, Nat.pow_zero, qI_scale up _ _ (Nat.pow_pos (by omega))]
  ·have e1 : j = 1 := by omega
   have e2 : QS x y P = L.toNat + 1 := by omega
   rw [e1, e2, hw.xv, hw.yv, show (-L).toNat = 0 from by omega, pow_cast, pow_cast, Nat.pow_zero, Nat.pow_succ, Int.natCast_mul]
   simp only [Int.mul_assoc]
   rw [show ((1 : Nat) : Int) = 1 from rfl, Int.mul_one, Nat.pow_one]
 rw [hQ, dv_up _ (by omega), dv_up _ (by omega), hq, dv_shift (e := e - f - L) (f := e - f - (QS x y P : Int)) (by omega) (by omega), show (e - f - L - (e - f - (QS x y P : Int))).toNat = j from by omega]
theorem dquodA {p q : Option Addr} {m c n d : Nat} {xs ys : List Nat} {w : World} {e f P : Int} (s t : Bool) (h : At w p m c xs) (k : At w q n d ys) (hT : Tab w) :
  Calls Tryz.prog 4 #[DV s p m c e, DV t q n d f, .int .i64 P] w fun en w' => ∃ zo eo er, SaidD w.heap.size w' en zo eo er ∧ QuoA false s xs e t ys f P zo eo er ∧ Below w.heap.size w w' := by
 by_cases h1 : ¬ (1 ≤ P ∧ P ≤ 70000)
 ·have hR : QuoA false s xs e t ys f P 0 0 1 := by unfold QuoA; rw [if_pos h1]; exact ⟨rfl, rfl, rfl⟩
  by_cases h2 : P < 1
  ·exact (qf_ld h2).mono fun en w' ⟨h3, h4⟩ => ⟨0, 0, 1, h3 ▸ SaidD.err _ _ 1, hR, h4⟩
  ·exact (qf_gd (by omega)).mono fun en w' ⟨h3, h4⟩ => ⟨0, 0, 1, h3 ▸ SaidD.err _ _ 1, hR, h4⟩
 have h1' : 1 ≤ P ∧ P ≤ 70000 := Decidable.not_not.1 h1
 cases hf : formD s xs e
 ·exact (qf_ad h hf h1').mono fun en w' ⟨h3, h4⟩ => ⟨0, 0, 2, h3 ▸ SaidD.err _ _ 2, by unfold QuoA; rw [if_neg h1, if_pos (.inl hf)]; exact ⟨rfl, rfl, rfl⟩, h4⟩
 have hd := formD_dn h hf
 cases hg : formD t ys f
 ·exact (qf_bd hd k hg h1').mono fun en w' ⟨h3, h4⟩ => ⟨0, 0, 2, h3 ▸ SaidD.err _ _ 2, by unfold QuoA; rw [if_neg h1, if_pos (.inr hg)]; exact ⟨rfl, rfl, rfl⟩, h4⟩
 have kd := formD_dn k hg
 have h2 : ¬ (formD s xs e = false ∨ formD t ys f = false) := by rw [hf, hg]; simp
 by_cases h3 : iv t (valB B64 ys) = 0
 ·exact (qf_zd hd kd h3 h1').mono fun en w' ⟨h5, h6⟩ => ⟨0, 0, 4, h5 ▸ SaidD.err _ _ 4, by unfold QuoA; rw [if_neg h1, if_neg h2, if_pos h3]; exact ⟨rfl, rfl, rfl⟩, h6⟩
 by_cases h4 : 4096 < max xs.length ys.length
 ·exact (qf_md hd kd h3 (by rw [h.len, k.len] at h4; exact h4) h1').mono fun en w' ⟨h5, h6⟩ => ⟨0, 0, 5, h5 ▸ SaidD.err _ _ 5, by unfold QuoA; rw [if_neg h1, if_neg h2, if_neg h3, if_pos h4]; exact ⟨rfl, rfl, rfl⟩, h6⟩
 obtain ⟨N, hN⟩ : ∃ N : Nat, P = N := ⟨P.toNat, by omega⟩
 subst hN
 have hm : m ≤ 4096 := by rw [h.len, k.len] at h4; omega
 have hn : n ≤ 4096 := by rw [h.len, k.len] at h4; omega
 obtain ⟨X, Y, L, hw⟩ : ∃ X Y L, WB (iv s (valB B64 xs)) (iv t (valB B64 ys)) N X Y L := ⟨_, _, _, ⟨rfl, rfl, rfl⟩⟩
 have b1 := half_bits hd.zn hm;have b2 := half_bits kd.zn hn
 have e1 : -1048576 ≤ e ∧ e ≤ 1048576 := by rcases hd.fm with ⟨_, h⟩ | ⟨_, h, h'⟩ <;> omega
 have e2 : -1048576 ≤ f ∧ f ≤ 1048576 := by rcases kd.fm with ⟨_, h⟩ | ⟨_, h, h'⟩ <;> omega
 refine (qf_od hd kd h3 hm hn (by omega) hw rfl rfl hT).mono fun en w' ⟨h5, h6⟩ => ?_
 have hl := hw.l
 obtain ⟨zo, eo, er, h7, h8⟩ := h5.mk (by omega)
 refine ⟨zo, eo, er, h7, ?_, h6⟩
 unfold QuoA;rw [if_neg h1, if_neg h2, if_neg h3, if_neg h4]
 exact quo_same false h3 (by omega) hw ⟨b1, b2, by omega⟩ e1 e2 h8
theorem dquouA {p q : Option Addr} {m c n d : Nat} {xs ys : List Nat} {w : World} {e f P : Int} (s t : Bool) (h : At w p m c xs) (k : At w q n d ys) (hT : Tab w) :
  Calls Tryz.prog 6 #[DV s p m c e, DV t q n d f, .int .i64 P] w fun en w' => ∃ zo eo er, SaidD w.heap.size w' en zo eo er ∧ QuoA true s xs e t ys f P zo eo er ∧ Below w.heap.size w w' := by
 by_cases h1 : ¬ (1 ≤ P ∧ P ≤ 70000)
 ·have hR : QuoA true s xs e t ys f P 0 0 1 := by unfold QuoA; rw [if_pos h1]; exact ⟨rfl, rfl, rfl⟩
  by_cases h2 : P < 1
  ·exact (qf_lu h2).mono fun en w' ⟨h3, h4⟩ => ⟨0, 0, 1, h3 ▸ SaidD.err _ _ 1, hR, h4⟩
  ·exact (qf_gu (by omega)).mono fun en w' ⟨h3, h4⟩ => ⟨0, 0, 1, h3 ▸ SaidD.err _ _ 1, hR, h4⟩
 have h1' : 1 ≤ P ∧ P ≤ 70000 := Decidable.not_not.1 h1
 cases hf : formD s xs e
 ·exact (qf_au h hf h1').mono fun en w' ⟨h3, h4⟩ => ⟨0, 0, 2, h3 ▸ SaidD.err _ _ 2, by unfold QuoA; rw [if_neg h1, if_pos (.inl hf)]; exact ⟨rfl, rfl, rfl⟩, h4⟩
 have hd := formD_dn h hf
 cases hg : formD t ys f
 ·exact (qf_bu hd k hg h1').mono fun en w' ⟨h3, h4⟩ => ⟨0, 0, 2, h3 ▸ SaidD.err _ _ 2, by unfold QuoA; rw [if_neg h1, if_pos (.inr hg)]; exact ⟨rfl, rfl, rfl⟩, h4⟩
 have kd := formD_dn k hg
 have h2 : ¬ (formD s xs e = false ∨ formD t ys f = false) := by rw [hf, hg]; simp
 by_cases h3 : iv t (valB B64 ys) = 0
 ·exact (qf_zu hd kd h3 h1').mono fun en w' ⟨h5, h6⟩ => ⟨0, 0, 4, h5 ▸ SaidD.err _ _ 4, by unfold QuoA; rw [if_neg h1, if_neg h2, if_pos h3]; exact ⟨rfl, rfl, rfl⟩, h6⟩
 by_cases h4 : 4096 < max xs.length ys.length
 ·exact (qf_mu hd kd h3 (by rw [h.len, k.len] at h4; exact h4) h1').mono fun en w' ⟨h5, h6⟩ => ⟨0, 0, 5, h5 ▸ SaidD.err _ _ 5, by unfold QuoA; rw [if_neg h1, if_neg h2, if_neg h3, if_pos h4]; exact ⟨rfl, rfl, rfl⟩, h6⟩
 obtain ⟨N, hN⟩ : ∃ N : Nat, P = N := ⟨P.toNat, by omega⟩
 subst hN
 have hm : m ≤ 4096 := by rw [h.len, k.len] at h4; omega
 have hn : n ≤ 4096 := by rw [h.len, k.len] at h4; omega
 obtain ⟨X, Y, L, hw⟩ : ∃ X Y L, WB (iv s (valB B64 xs)) (iv t (valB B64 ys)) N X Y L := ⟨_, _, _, ⟨rfl, rfl, rfl⟩⟩
 have b1 := half_bits hd.zn hm;have b2 := half_bits kd.zn hn
 have e1 : -1048576 ≤ e ∧ e ≤ 1048576 := by rcases hd.fm with ⟨_, h⟩ | ⟨_, h, h'⟩ <;> omega
 have e2 : -1048576 ≤ f ∧ f ≤ 1048576 := by rcases kd.fm with ⟨_, h⟩ | ⟨_, h, h'⟩ <;> omega
 refine (qf_ou hd kd h3 hm hn (by omega) hw rfl rfl hT).mono fun en w' ⟨h5, h6⟩ => ?_
 have hl := hw.l
 obtain ⟨zo, eo, er, h7, h8⟩ := h5.mk (by omega)
 refine ⟨zo, eo, er, h7, ?_, h6⟩
 unfold QuoA;rw [if_neg h1, if_neg h2, if_neg h3, if_neg h4]
 exact quo_same true h3 (by omega) hw ⟨b1, b2, by omega⟩ e1 e2 h8
theorem dn_exp7 {w : World} {s : Bool} {p : Option Addr} {m c : Nat} {e z : Int} (h : DN w s p m c e z) : -1048576 ≤ e ∧ e ≤ 1048576 := by
  rcases h.fm with ⟨_, h⟩ | ⟨_, h, h'⟩ <;> omega
def CutA (up : Bool) (s : Bool) (xs : List Nat) (e P zo eo er : Int) : Prop :=
 (¬ (1 ≤ P ∧ P ≤ 70000) ∧ zo = 0 ∧ eo = 0 ∧ er = 1) ∨ ((1 ≤ P ∧ P ≤ 70000) ∧ formD s xs e = false ∧ zo = 0 ∧ eo = 0 ∧ er = 2) ∨
 ((1 ≤ P ∧ P ≤ 70000) ∧ formD s xs e = true ∧ MkR (rd up (iv s (valB B64 xs)) (2 ^ (bitsN (iv s (valB B64 xs)).natAbs - P.toNat))) (e + ((bitsN (iv s (valB B64 xs)).natAbs - P.toNat : Nat) : Int)) zo eo er)
theorem CutA.uniq {up s : Bool} {xs : List Nat} {e P zo eo er zo' eo' er' : Int} (h : CutA up s xs e P zo eo er) (k : CutA up s xs e P zo' eo' er') : zo = zo' ∧ eo = eo' ∧ er = er' := by
  rcases h with ⟨h0, rfl, rfl, rfl⟩ | ⟨h0, h1, rfl, rfl, rfl⟩ | ⟨h0, h1, h⟩ <;> rcases k with ⟨k0, rfl, rfl, rfl⟩ | ⟨k0, k1, rfl, rfl, rfl⟩ | ⟨k0, k1, k⟩
  · exact ⟨rfl, rfl, rfl⟩
  · exact absurd k0 h0
  · exact absurd k0 h0
  · exact absurd h0 k0
  · exact ⟨rfl, rfl, rfl⟩
  · rw [h1] at k1; cases k1
  · exact absurd h0 k0
  · rw [h1] at k1; cases k1
  · exact h.uniq k
def GridA (up : Bool) (s : Bool) (xs : List Nat) (e E zo eo er : Int) : Prop :=
 (formD s xs e = false ∧ zo = 0 ∧ eo = 0 ∧ er = 2) ∨
 (formD s xs e = true ∧ (iv s (valB B64 xs) = 0 ∨ E ≤ e) ∧ zo = iv s (valB B64 xs) ∧ eo = e ∧ er = 0) ∨
 (formD s xs e = true ∧ ¬ (iv s (valB B64 xs) = 0 ∨ E ≤ e) ∧ MkR (rd up (iv s (valB B64 xs)) (2 ^ (E - e).toNat)) E zo eo er)
theorem GridA.uniq {up s : Bool} {xs : List Nat} {e P zo eo er zo' eo' er' : Int} (h : GridA up s xs e P zo eo er) (k : GridA up s xs e P zo' eo' er') : zo = zo' ∧ eo = eo' ∧ er = er' := by
  rcases h with ⟨h0, rfl, rfl, rfl⟩ | ⟨h0, h1, rfl, rfl, rfl⟩ | ⟨h0, h1, h⟩ <;> rcases k with ⟨k0, rfl, rfl, rfl⟩ | ⟨k0, k1, rfl, rfl, rfl⟩ | ⟨k0, k1, k⟩
  · exact ⟨rfl, rfl, rfl⟩
  · rw [h0] at k0; cases k0
  · rw [h0] at k0; cases k0
  · rw [h0] at k0; cases k0
  · exact ⟨rfl, rfl, rfl⟩
  · exact absurd h1 k1
  · rw [h0] at k0; cases k0
  · exact absurd k1 h1
  · exact h.uniq k
theorem iv_sums {s t : Bool} {x y : Int} (h1 : s = decide (x < 0)) (h2 : t = decide (y < 0)) (h3 : s = t) : iv s (x.natAbs + y.natAbs) = x + y := by
  rw [h3] at h1 ⊢
  cases t
  · have a := of_decide_eq_false h1.symm; have b := of_decide_eq_false h2.symm; rw [iv_f]; omega
  · have a := of_decide_eq_true h1.symm; have b := of_decide_eq_true h2.symm; rw [iv_t]; omega
theorem iv_sumg {s t : Bool} {x y : Int} (h1 : s = decide (x < 0)) (h2 : t = decide (y < 0)) (h3 : s ≠ t) (h4 : y.natAbs ≤ x.natAbs) : iv s (x.natAbs - y.natAbs) = x + y := by
  cases s <;> cases t
  · exact absurd rfl h3
  · have a := of_decide_eq_false h1.symm; have b := of_decide_eq_true h2.symm; rw [iv_f]; omega
  · have a := of_decide_eq_true h1.symm; have b := of_decide_eq_false h2.symm; rw [iv_t]; omega
  · exact absurd rfl h3
theorem iv_suml {s t : Bool} {x y : Int} (h1 : s = decide (x < 0)) (h2 : t = decide (y < 0)) (h3 : s ≠ t) (h4 : x.natAbs < y.natAbs) : iv t (y.natAbs - x.natAbs) = x + y := by
  cases s <;> cases t
  · exact absurd rfl h3
  · have a := of_decide_eq_false h1.symm; have b := of_decide_eq_true h2.symm; rw [iv_t]; omega
  · have a := of_decide_eq_true h1.symm; have b := of_decide_eq_false h2.symm; rw [iv_f]; omega
  · exact absurd rfl h3
theorem sum_len32 {xs ys zs : List Nat} {a b m n : Nat} (hx : Nf B32 xs a) (hy : Nf B32 ys b) (lx : xs.length = m) (ly : ys.length = n) (hz : Nf B32 zs (a + b)) : zs.length ≤ max m n + 1 := by
  refine (hz.len_le B32_one).2 ?_
  have h1 := (hx.len_le B32_one (k := max m n)).1 (by omega)
  have h2 := (hy.len_le B32_one (k := max m n)).1 (by omega)
  rw [Nat.pow_succ]
  have : B32 ^ (max m n) * 2 ≤ B32 ^ (max m n) * B32 := Nat.mul_le_mul_left _ (by rw [B32_eq]; omega)
  omega
theorem radd04_s {p q : Option Addr} {m n : Nat} {w : World} {x y : Int} (s t : Bool) (h : ZR w s p m x) (k : ZR w t q n y) (hm : m ≤ 50000) (hn : n ≤ 50000) (hst : s = t) :
  Calls Tryz.prog 114 #[.agg #[.bool s, .slice p m m], .agg #[.bool t, .slice q n n]] w fun e w' => ∃ v, e = .returned v ∧ GotR w.heap.size w' v (x + y) (max m n + 1) ∧ Below w.heap.size w w' := by
 have HA := hdQ h;have HB := hdQ k;have HM : Hid (m ≤ 50000 ∧ n ≤ 50000) := ⟨hm, hn⟩;clear h k hm hn
 have hse : (s == t) = true := by simpa using hst
 have HST : Hid (s = t) := hst;clear hst
 go_enter Tryz.func114, Tryz.ntmps114
 go_wp2_with fail;obtain ⟨W0, hW0⟩ := exq (((w.alloc (.cells #[.bool s, .slice p m m] 56)).alloc (.cells #[.bool t, .slice q n n] 56)).alloc (.cells #[.bool false, .slice none 0 0] 56))
 have Xa : Hid (Box W0 (w.heap.size) (.bool s) (.slice p m m)) := by rw [hW0]; constructor <;> go_simp
 have Xb : Hid (Box W0 (w.heap.size + 1) (.bool t) (.slice q n n)) := by rw [hW0]; constructor <;> go_simp
 have Xr : Hid (Box W0 (w.heap.size + 1 + 1) (.bool false) (.slice none 0 0)) := by rw [hW0]; constructor <;> go_simp
 have hb0 := bq3 hW0;rw [← hW0];clear hW0;have hbw := brf w;obtain ⟨gr, hgr⟩ := exq (w.heap.size + 1 + 1);have HGr : Hid (w.heap.size ≤ gr) := hgl hgr;rw [← hgr] at Xr
 try rw [← hgr]
 obtain ⟨gb, hgb⟩ := exq (w.heap.size + 1);have HGb : Hid (w.heap.size ≤ gb) := hgl hgb;rw [← hgb] at Xb
 try rw [← hgb]
 obtain ⟨ga, hga⟩ := exq w.heap.size;have HGa : Hid (w.heap.size ≤ ga) := hgl hga;rw [← hga] at Xa
 try rw [← hga]
 have HGD : Hid (ga ≠ gb ∧ ga ≠ gr ∧ gb ≠ ga ∧ gb ≠ gr ∧ gr ≠ ga ∧ gr ≠ gb) := by rw [hga, hgb, hgr]; show _ ∧ _; omega
 clear hga hgb hgr;replace HA := ZR.b HA hb0;replace HB := ZR.b HB hb0;replace hbw := bon hbw hb0;clear hb0;obtain ⟨xs, hAx, hNx⟩ := HA.out.ex;obtain ⟨ys, hAy, hNy⟩ := HB.out.ex;have HNX : Hid (Nf B32 xs x.natAbs ∧ Nf B32 ys y.natAbs) := ⟨hNx, hNy⟩;clear hNx hNy;have AX := hdQ hAx;have AY := hdQ hAy;clear hAx hAy
 have HZV : Hid (iv s (x.natAbs + y.natAbs) = x + y) := by have h1 := HA.out.sg; have h2 := HB.out.sg; have h3 := HST.out; exact iv_sums h1 h2 h3
 obtain ⟨W1, hW1⟩ := exq W0.drew
 have hbd : Below W0.heap.size W0 W1 := by rw [hW1]; exact bDrew1 (Below.refl _ _)
 replace Xa := Box.b Xa hbd;replace Xb := Box.b Xb hbd;replace Xr := Box.b Xr hbd;replace HA := ZR.b HA hbd;replace HB := ZR.b HB hbd;replace AX := At32.b AX hbd;replace AY := At32.b AY hbd;replace hbw := bon hbw hbd;clear hbd
 have HJ : Hid ((fun W' : World => W'.cell? ⟨ga, 0, none⟩ = some (.bool s) ∧ W'.cell? ⟨ga, 1, none⟩ = some (.slice p m m) ∧ W'.cell? ⟨gb, 0, none⟩ = some (.bool t) ∧ W'.cell? ⟨gb, 1, none⟩ = some (.slice q n n)) W1) := ⟨Xa.out.c0, Xa.out.c1, Xb.out.c0, Xb.out.c1⟩
 refine wp_region_J (fun W' => W'.cell? ⟨ga, 0, none⟩ = some (.bool s) ∧ W'.cell? ⟨ga, 1, none⟩ = some (.slice p m m) ∧ W'.cell? ⟨gb, 0, none⟩ = some (.bool t) ∧ W'.cell? ⟨gb, 1, none⟩ = some (.slice q n n)) (by kernel_rfl) ?_
 rw [← hW1];clear hW1
 refine wpJ_tq 0 rfl HJ.out ?_
 refine wpJ_tq 1 rfl HJ.out ?_
 refine wpJ_tq 2 rfl HJ.out ?_
 refine wpJ_tq 3 rfl HJ.out ?_
 refine wpJ_tq 4 rfl HJ.out ?_
 refine wpJ_tq 5 rfl HJ.out ?_
 refine wpJ_on 6 rfl fun KJ hK => ?_
 go_simp
 refine (radd_any AX.out AY.out HNX.out.1 HNX.out.2 (by have := HM.out; omega) (by have := HM.out; omega)).mono ?_
 rintro e w2 ⟨p2, m2, z2, rfl, hA2, hN2, hb2⟩
 have hl2 : m2 ≤ max m n + 1 := by rw [← hA2.len]; exact sum_len32 HNX.out.1 HNX.out.2 AX.out.len AY.out.len hN2
 replace Xa := Box.b Xa hb2;replace Xb := Box.b Xb hb2;replace Xr := Box.b Xr hb2;replace HA := ZR.b HA hb2;replace HB := ZR.b HB hb2;replace AX := At32.b AX hb2;replace AY := At32.b AY hb2;replace hbw := bon hbw hb2;clear hb2;have A2 := hdQ hA2;have N2 := hdQ hN2;have HLL : Hid (m2 ≤ max m n + 1) := hl2;have HRL : Hid (gr < w2.heap.size) := Xr.out.lt;have HBS : Hid (w.heap.size ≤ w2.heap.size) := hbw.size;clear hA2 hN2 hl2
 refine hK _ _ ⟨Xa.out.c0, Xa.out.c1, Xb.out.c0, Xb.out.c1⟩ ?_
 clear hK
 refine wpJ_on 7 rfl fun KJ hK => ?_
 go_simp
 refine (rmk_any s A2.out N2.out (by have := HLL.out; have := HM.out; omega)).mono ?_
 rintro e w3 ⟨v, rfl, hv, hb3⟩;rw [HZV.out] at hv;replace Xa := Box.b Xa hb3;replace Xb := Box.b Xb hb3;replace Xr := Box.b Xr hb3;replace HA := ZR.b HA hb3;replace HB := ZR.b HB hb3;replace AX := At32.b AX hb3;replace AY := At32.b AY hb3;replace A2 := At32.b A2 hb3;replace hbw := bon hbw hb3;clear hb3;obtain ⟨s9, g9, m9, rfl, hg9, hz9, hl9⟩ := hv;have ZA := hdQ hz9
 have HL : Hid (m9 ≤ max m n + 1) := by have := hl9; have := HLL.out; show m9 ≤ _; omega
 have HGE : Hid (gr < g9) := Nat.lt_of_lt_of_le HRL.out hg9;have HGB : Hid (w.heap.size ≤ g9) := Nat.le_trans HBS.out hg9;clear hg9 hz9 hl9
 refine hK _ _ ⟨Xa.out.c0, Xa.out.c1, Xb.out.c0, Xb.out.c1⟩ ?_
 clear hK;obtain ⟨cr0, cr1, fr0, fr1⟩ := Xr.out;have hner := Xr.out.lt;obtain ⟨ca0, ca1, fa0, fa1⟩ := Xa.out;have hnea := Xa.out.lt;obtain ⟨cb0, cb1, fb0, fb1⟩ := Xb.out;have hneb := Xb.out.lt;obtain ⟨hgd0, hgd1, hgd2, hgd3, hgd4, hgd5⟩ := HGD.out
 refine wpJ_on 8 rfl fun KJ hK => ?_
 go_simp
 have HJ2 : Hid ((fun W' : World => W'.cell? ⟨ga, 0, none⟩ = some (.bool s) ∧ W'.cell? ⟨ga, 1, none⟩ = some (.slice p m m) ∧ W'.cell? ⟨gb, 0, none⟩ = some (.bool t) ∧ W'.cell? ⟨gb, 1, none⟩ = some (.slice q n n)) ((w3.setCell ⟨gr, 0, none⟩ (.bool s9)).setCell ⟨gr, 1, none⟩ (.slice (some ⟨g9, 0, none⟩) m9 m9))) := ⟨by go_simp, by go_simp, by go_simp, by go_simp⟩
 refine hK _ _ HJ2.out ?_
 clear hK HJ;have HJ := HJ2;clear HJ2
 refine wpJ_done (by kernel_rfl) ?_ _
 clear HJ;go_wp2_with fail
 refine bodyPost_ret (v := .agg #[.bool s9, .slice (some ⟨g9, 0, none⟩) m9 m9]) (by rw [results_cell1 rfl]; go_simp) rfl ⟨_, rfl, ⟨s9, g9, m9, rfl, HGB.out, ?_, HL.out⟩, ?_⟩
 ·have := HGE.out
  exact (ZA.out.set _ _ _ (by omega)).set _ _ _ (by omega)
 ·exact bSet (bSet hbw _ _ _ HGr.out) _ _ _ HGr.out
theorem radd04_g {p q : Option Addr} {m n : Nat} {w : World} {x y : Int} (s t : Bool) (h : ZR w s p m x) (k : ZR w t q n y) (hm : m ≤ 50000) (hn : n ≤ 50000) (hst : s ≠ t) (hcm : y.natAbs ≤ x.natAbs) :
  Calls Tryz.prog 114 #[.agg #[.bool s, .slice p m m], .agg #[.bool t, .slice q n n]] w fun e w' => ∃ v, e = .returned v ∧ GotR w.heap.size w' v (x + y) (max m n + 1) ∧ Below w.heap.size w w' := by
 have HA := hdQ h;have HB := hdQ k;have HM : Hid (m ≤ 50000 ∧ n ≤ 50000) := ⟨hm, hn⟩;clear h k hm hn
 have hse : (s == t) = false := by simpa using hst
 have HST : Hid (s ≠ t) := hst;have HCM : Hid (y.natAbs ≤ x.natAbs) := hcm;clear hst hcm
 go_enter Tryz.func114, Tryz.ntmps114
 go_wp2_with fail;obtain ⟨W0, hW0⟩ := exq (((w.alloc (.cells #[.bool s, .slice p m m] 56)).alloc (.cells #[.bool t, .slice q n n] 56)).alloc (.cells #[.bool false, .slice none 0 0] 56))
 have Xa : Hid (Box W0 (w.heap.size) (.bool s) (.slice p m m)) := by rw [hW0]; constructor <;> go_simp
 have Xb : Hid (Box W0 (w.heap.size + 1) (.bool t) (.slice q n n)) := by rw [hW0]; constructor <;> go_simp
 have Xr : Hid (Box W0 (w.heap.size + 1 + 1) (.bool false) (.slice none 0 0)) := by rw [hW0]; constructor <;> go_simp
 have hb0 := bq3 hW0;rw [← hW0];clear hW0;have hbw := brf w;obtain ⟨gr, hgr⟩ := exq (w.heap.size + 1 + 1);have HGr : Hid (w.heap.size ≤ gr) := hgl hgr;rw [← hgr] at Xr
 try rw [← hgr]
 obtain ⟨gb, hgb⟩ := exq (w.heap.size + 1);have HGb : Hid (w.heap.size ≤ gb) := hgl hgb;rw [← hgb] at Xb
 try rw [← hgb]
 obtain ⟨ga, hga⟩ := exq w.heap.size;have HGa : Hid (w.heap.size ≤ ga) := hgl hga;rw [← hga] at Xa
 try rw [← hga]
 have HGD : Hid (ga ≠ gb ∧ ga ≠ gr ∧ gb ≠ ga ∧ gb ≠ gr ∧ gr ≠ ga ∧ gr ≠ gb) := by rw [hga, hgb, hgr]; show _ ∧ _; omega
 clear hga hgb hgr;replace HA := ZR.b HA hb0;replace HB := ZR.b HB hb0;replace hbw := bon hbw hb0;clear hb0;obtain ⟨xs, hAx, hNx⟩ := HA.out.ex;obtain ⟨ys, hAy, hNy⟩ := HB.out.ex;have HNX : Hid (Nf B32 xs x.natAbs ∧ Nf B32 ys y.natAbs) := ⟨hNx, hNy⟩;clear hNx hNy;have AX := hdQ hAx;have AY := hdQ hAy;clear hAx hAy
 have HZV : Hid (iv s (x.natAbs - y.natAbs) = x + y) := by have h1 := HA.out.sg; have h2 := HB.out.sg; have h3 := HST.out; exact iv_sumg h1 h2 h3 HCM.out
 obtain ⟨cm, hcm⟩ := exq (cmpN x.natAbs y.natAbs);have HCQ : Hid (cm = cmpN x.natAbs y.natAbs) := hcm
 have hcc : decide (0 ≤ cm) = true := decide_eq_true (by rw [hcm]; have := HCM.out; unfold cmpN; split <;> (try split) <;> omega)
 clear hcm
 refine (rcmp_any AX.out AY.out HNX.out.1 HNX.out.2).mono ?_
 rintro e w9 ⟨rfl, rd, rfl⟩;rw [← HCQ.out];have hbr := bDrewN (Below.refl W0.heap.size W0) rd;generalize W0.drewN rd = W9 at *;replace Xa := Box.b Xa hbr;replace Xb := Box.b Xb hbr;replace Xr := Box.b Xr hbr;replace HA := ZR.b HA hbr;replace HB := ZR.b HB hbr;replace AX := At32.b AX hbr;replace AY := At32.b AY hbr;replace hbw := bon hbw hbr;clear hbr;obtain ⟨ca0, ca1, fa0, fa1⟩ := Xa.out;have hnea := Xa.out.lt;obtain ⟨cb0, cb1, fb0, fb1⟩ := Xb.out;have hneb := Xb.out.lt;go_wp2_with fail;clear ca0 ca1 fa0 fa1 hnea cb0 cb1 fb0 fb1 hneb hcc;obtain ⟨W1, hW1⟩ := exq W9.drew
 have hbd : Below W9.heap.size W9 W1 := by rw [hW1]; exact bDrew1 (Below.refl _ _)
 replace Xa := Box.b Xa hbd;replace Xb := Box.b Xb hbd;replace Xr := Box.b Xr hbd;replace HA := ZR.b HA hbd;replace HB := ZR.b HB hbd;replace AX := At32.b AX hbd;replace AY := At32.b AY hbd;replace hbw := bon hbw hbd;clear hbd
 have HJ : Hid ((fun W' : World => W'.cell? ⟨ga, 0, none⟩ = some (.bool s) ∧ W'.cell? ⟨ga, 1, none⟩ = some (.slice p m m) ∧ W'.cell? ⟨gb, 0, none⟩ = some (.bool t) ∧ W'.cell? ⟨gb, 1, none⟩ = some (.slice q n n)) W1) := ⟨Xa.out.c0, Xa.out.c1, Xb.out.c0, Xb.out.c1⟩
 refine wp_region_J (fun W' => W'.cell? ⟨ga, 0, none⟩ = some (.bool s) ∧ W'.cell? ⟨ga, 1, none⟩ = some (.slice p m m) ∧ W'.cell? ⟨gb, 0, none⟩ = some (.bool t) ∧ W'.cell? ⟨gb, 1, none⟩ = some (.slice q n n)) (by kernel_rfl) ?_
 rw [← hW1];clear hW1
 refine wpJ_tq 0 rfl HJ.out ?_
 refine wpJ_tq 1 rfl HJ.out ?_
 refine wpJ_tq 2 rfl HJ.out ?_
 refine wpJ_tq 3 rfl HJ.out ?_
 refine wpJ_tq 4 rfl HJ.out ?_
 refine wpJ_tq 5 rfl HJ.out ?_
 refine wpJ_on 6 rfl fun KJ hK => ?_
 go_simp
 refine (rsub_any AX.out AY.out HNX.out.1 HNX.out.2 (by have := HM.out; omega) HCM.out).mono ?_
 rintro e w2 ⟨p2, m2, z2, rfl, hA2, hN2, hl2q, hb2⟩
 have hl2 : m2 ≤ max m n + 1 := by omega
 clear hl2q;replace Xa := Box.b Xa hb2;replace Xb := Box.b Xb hb2;replace Xr := Box.b Xr hb2;replace HA := ZR.b HA hb2;replace HB := ZR.b HB hb2;replace AX := At32.b AX hb2;replace AY := At32.b AY hb2;replace hbw := bon hbw hb2;clear hb2;have A2 := hdQ hA2;have N2 := hdQ hN2;have HLL : Hid (m2 ≤ max m n + 1) := hl2;have HRL : Hid (gr < w2.heap.size) := Xr.out.lt;have HBS : Hid (w.heap.size ≤ w2.heap.size) := hbw.size;clear hA2 hN2 hl2
 refine hK _ _ ⟨Xa.out.c0, Xa.out.c1, Xb.out.c0, Xb.out.c1⟩ ?_
 clear hK
 refine wpJ_on 7 rfl fun KJ hK => ?_
 go_simp
 refine (rmk_any s A2.out N2.out (by have := HLL.out; have := HM.out; omega)).mono ?_
 rintro e w3 ⟨v, rfl, hv, hb3⟩;rw [HZV.out] at hv;replace Xa := Box.b Xa hb3;replace Xb := Box.b Xb hb3;replace Xr := Box.b Xr hb3;replace HA := ZR.b HA hb3;replace HB := ZR.b HB hb3;replace AX := At32.b AX hb3;replace AY := At32.b AY hb3;replace A2 := At32.b A2 hb3;replace hbw := bon hbw hb3;clear hb3;obtain ⟨s9, g9, m9, rfl, hg9, hz9, hl9⟩ := hv;have ZA := hdQ hz9
 have HL : Hid (m9 ≤ max m n + 1) := by have := hl9; have := HLL.out; show m9 ≤ _; omega
 have HGE : Hid (gr < g9) := Nat.lt_of_lt_of_le HRL.out hg9;have HGB : Hid (w.heap.size ≤ g9) := Nat.le_trans HBS.out hg9;clear hg9 hz9 hl9
 refine hK _ _ ⟨Xa.out.c0, Xa.out.c1, Xb.out.c0, Xb.out.c1⟩ ?_
 clear hK;obtain ⟨cr0, cr1, fr0, fr1⟩ := Xr.out;have hner := Xr.out.lt;obtain ⟨ca0, ca1, fa0, fa1⟩ := Xa.out;have hnea := Xa.out.lt;obtain ⟨cb0, cb1, fb0, fb1⟩ := Xb.out;have hneb := Xb.out.lt;obtain ⟨hgd0, hgd1, hgd2, hgd3, hgd4, hgd5⟩ := HGD.out
 refine wpJ_on 8 rfl fun KJ hK => ?_
 go_simp
 have HJ2 : Hid ((fun W' : World => W'.cell? ⟨ga, 0, none⟩ = some (.bool s) ∧ W'.cell? ⟨ga, 1, none⟩ = some (.slice p m m) ∧ W'.cell? ⟨gb, 0, none⟩ = some (.bool t) ∧ W'.cell? ⟨gb, 1, none⟩ = some (.slice q n n)) ((w3.setCell ⟨gr, 0, none⟩ (.bool s9)).setCell ⟨gr, 1, none⟩ (.slice (some ⟨g9, 0, none⟩) m9 m9))) := ⟨by go_simp, by go_simp, by go_simp, by go_simp⟩
 refine hK _ _ HJ2.out ?_
 clear hK HJ;have HJ := HJ2;clear HJ2
 refine wpJ_done (by kernel_rfl) ?_ _
 clear HJ;go_wp2_with fail
 refine bodyPost_ret (v := .agg #[.bool s9, .slice (some ⟨g9, 0, none⟩) m9 m9]) (by rw [results_cell1 rfl]; go_simp) rfl ⟨_, rfl, ⟨s9, g9, m9, rfl, HGB.out, ?_, HL.out⟩, ?_⟩
 ·have := HGE.out
  exact (ZA.out.set _ _ _ (by omega)).set _ _ _ (by omega)
 ·exact bSet (bSet hbw _ _ _ HGr.out) _ _ _ HGr.out
theorem radd04_l {p q : Option Addr} {m n : Nat} {w : World} {x y : Int} (s t : Bool) (h : ZR w s p m x) (k : ZR w t q n y) (hm : m ≤ 50000) (hn : n ≤ 50000) (hst : s ≠ t) (hcm : x.natAbs < y.natAbs) :
  Calls Tryz.prog 114 #[.agg #[.bool s, .slice p m m], .agg #[.bool t, .slice q n n]] w fun e w' => ∃ v, e = .returned v ∧ GotR w.heap.size w' v (x + y) (max m n + 1) ∧ Below w.heap.size w w' := by
 have HA := hdQ h;have HB := hdQ k;have HM : Hid (m ≤ 50000 ∧ n ≤ 50000) := ⟨hm, hn⟩;clear h k hm hn
 have hse : (s == t) = false := by simpa using hst
 have HST : Hid (s ≠ t) := hst;have HCM : Hid (x.natAbs < y.natAbs) := hcm;clear hst hcm
 go_enter Tryz.func114, Tryz.ntmps114
 go_wp2_with fail;obtain ⟨W0, hW0⟩ := exq (((w.alloc (.cells #[.bool s, .slice p m m] 56)).alloc (.cells #[.bool t, .slice q n n] 56)).alloc (.cells #[.bool false, .slice none 0 0] 56))
 have Xa : Hid (Box W0 (w.heap.size) (.bool s) (.slice p m m)) := by rw [hW0]; constructor <;> go_simp
 have Xb : Hid (Box W0 (w.heap.size + 1) (.bool t) (.slice q n n)) := by rw [hW0]; constructor <;> go_simp
 have Xr : Hid (Box W0 (w.heap.size + 1 + 1) (.bool false) (.slice none 0 0)) := by rw [hW0]; constructor <;> go_simp
 have hb0 := bq3 hW0;rw [← hW0];clear hW0;have hbw := brf w;obtain ⟨gr, hgr⟩ := exq (w.heap.size + 1 + 1);have HGr : Hid (w.heap.size ≤ gr) := hgl hgr;rw [← hgr] at Xr
 try rw [← hgr]
 obtain ⟨gb, hgb⟩ := exq (w.heap.size + 1);have HGb : Hid (w.heap.size ≤ gb) := hgl hgb;rw [← hgb] at Xb
 try rw [← hgb]
 obtain ⟨ga, hga⟩ := exq w.heap.size;have HGa : Hid (w.heap.size ≤ ga) := hgl hga;rw [← hga] at Xa
 try rw [← hga]
 have HGD : Hid (ga ≠ gb ∧ ga ≠ gr ∧ gb ≠ ga ∧ gb ≠ gr ∧ gr ≠ ga ∧ gr ≠ gb) := by rw [hga, hgb, hgr]; show _ ∧ _; omega
 clear hga hgb hgr;replace HA := ZR.b HA hb0;replace HB := ZR.b HB hb0;replace hbw := bon hbw hb0;clear hb0;obtain ⟨xs, hAx, hNx⟩ := HA.out.ex;obtain ⟨ys, hAy, hNy⟩ := HB.out.ex;have HNX : Hid (Nf B32 xs x.natAbs ∧ Nf B32 ys y.natAbs) := ⟨hNx, hNy⟩;clear hNx hNy;have AX := hdQ hAx;have AY := hdQ hAy;clear hAx hAy
 have HZV : Hid (iv t (y.natAbs - x.natAbs) = x + y) := by have h1 := HA.out.sg; have h2 := HB.out.sg; have h3 := HST.out; exact iv_suml h1 h2 h3 HCM.out
 obtain ⟨cm, hcm⟩ := exq (cmpN x.natAbs y.natAbs);have HCQ : Hid (cm = cmpN x.natAbs y.natAbs) := hcm
 have hcc : decide (0 ≤ cm) = false := decide_eq_false (by rw [hcm, cmpN_lt HCM.out]; omega)
 clear hcm
 refine (rcmp_any AX.out AY.out HNX.out.1 HNX.out.2).mono ?_
 rintro e w9 ⟨rfl, rd, rfl⟩;rw [← HCQ.out];have hbr := bDrewN (Below.refl W0.heap.size W0) rd;generalize W0.drewN rd = W9 at *;replace Xa := Box.b Xa hbr;replace Xb := Box.b Xb hbr;replace Xr := Box.b Xr hbr;replace HA := ZR.b HA hbr;replace HB := ZR.b HB hbr;replace AX := At32.b AX hbr;replace AY := At32.b AY hbr;replace hbw := bon hbw hbr;clear hbr;obtain ⟨ca0, ca1, fa0, fa1⟩ := Xa.out;have hnea := Xa.out.lt;obtain ⟨cb0, cb1, fb0, fb1⟩ := Xb.out;have hneb := Xb.out.lt;go_wp2_with fail;clear ca0 ca1 fa0 fa1 hnea cb0 cb1 fb0 fb1 hneb hcc;obtain ⟨W1, hW1⟩ := exq W9.drew
 have hbd : Below W9.heap.size W9 W1 := by rw [hW1]; exact bDrew1 (Below.refl _ _)
 replace Xa := Box.b Xa hbd;replace Xb := Box.b Xb hbd;replace Xr := Box.b Xr hbd;replace HA := ZR.b HA hbd;replace HB := ZR.b HB hbd;replace AX := At32.b AX hbd;replace AY := At32.b AY hbd;replace hbw := bon hbw hbd;clear hbd
 have HJ : Hid ((fun W' : World => W'.cell? ⟨ga, 0, none⟩ = some (.bool s) ∧ W'.cell? ⟨ga, 1, none⟩ = some (.slice p m m) ∧ W'.cell? ⟨gb, 0, none⟩ = some (.bool t) ∧ W'.cell? ⟨gb, 1, none⟩ = some (.slice q n n)) W1) := ⟨Xa.out.c0, Xa.out.c1, Xb.out.c0, Xb.out.c1⟩
 refine wp_region_J (fun W' => W'.cell? ⟨ga, 0, none⟩ = some (.bool s) ∧ W'.cell? ⟨ga, 1, none⟩ = some (.slice p m m) ∧ W'.cell? ⟨gb, 0, none⟩ = some (.bool t) ∧ W'.cell? ⟨gb, 1, none⟩ = some (.slice q n n)) (by kernel_rfl) ?_
 rw [← hW1];clear hW1
 refine wpJ_tq 0 rfl HJ.out ?_
 refine wpJ_tq 1 rfl HJ.out ?_
 refine wpJ_tq 2 rfl HJ.out ?_
 refine wpJ_tq 3 rfl HJ.out ?_
 refine wpJ_tq 4 rfl HJ.out ?_
 refine wpJ_tq 5 rfl HJ.out ?_
 refine wpJ_on 6 rfl fun KJ hK => ?_
 go_simp
 refine (rsub_any AY.out AX.out HNX.out.2 HNX.out.1 (by have := HM.out; omega) (Nat.le_of_lt HCM.out)).mono ?_
 rintro e w2 ⟨p2, m2, z2, rfl, hA2, hN2, hl2q, hb2⟩
 have hl2 : m2 ≤ max m n + 1 := by omega
 clear hl2q;replace Xa := Box.b Xa hb2;replace Xb := Box.b Xb hb2;replace Xr := Box.b Xr hb2;replace HA := ZR.b HA hb2;replace HB := ZR.b HB hb2;replace AX := At32.b AX hb2;replace AY := At32.b AY hb2;replace hbw := bon hbw hb2;clear hb2;have A2 := hdQ hA2;have N2 := hdQ hN2;have HLL : Hid (m2 ≤ max m n + 1) := hl2;have HRL : Hid (gr < w2.heap.size) := Xr.out.lt;have HBS : Hid (w.heap.size ≤ w2.heap.size) := hbw.size;clear hA2 hN2 hl2
 refine hK _ _ ⟨Xa.out.c0, Xa.out.c1, Xb.out.c0, Xb.out.c1⟩ ?_
 clear hK
 refine wpJ_on 7 rfl fun KJ hK => ?_
 go_simp
 refine (rmk_any t A2.out N2.out (by have := HLL.out; have := HM.out; omega)).mono ?_
 rintro e w3 ⟨v, rfl, hv, hb3⟩;rw [HZV.out] at hv;replace Xa := Box.b Xa hb3;replace Xb := Box.b Xb hb3;replace Xr := Box.b Xr hb3;replace HA := ZR.b HA hb3;replace HB := ZR.b HB hb3;replace AX := At32.b AX hb3;replace AY := At32.b AY hb3;replace A2 := At32.b A2 hb3;replace hbw := bon hbw hb3;clear hb3;obtain ⟨s9, g9, m9, rfl, hg9, hz9, hl9⟩ := hv;have ZA := hdQ hz9
 have HL : Hid (m9 ≤ max m n + 1) := by have := hl9; have := HLL.out; show m9 ≤ _; omega
 have HGE : Hid (gr < g9) := Nat.lt_of_lt_of_le HRL.out hg9;have HGB : Hid (w.heap.size ≤ g9) := Nat.le_trans HBS.out hg9;clear hg9 hz9 hl9
 refine hK _ _ ⟨Xa.out.c0, Xa.out.c1, Xb.out.c0, Xb.out.c1⟩ ?_
 clear hK;obtain ⟨cr0, cr1, fr0, fr1⟩ := Xr.out;have hner := Xr.out.lt;obtain ⟨ca0, ca1, fa0, fa1⟩ := Xa.out;have hnea := Xa.out.lt;obtain ⟨cb0, cb1, fb0, fb1⟩ := Xb.out;have hneb := Xb.out.lt;obtain ⟨hgd0, hgd1, hgd2, hgd3, hgd4, hgd5⟩ := HGD.out
 refine wpJ_on 8 rfl fun KJ hK => ?_
 go_simp
 have HJ2 : Hid ((fun W' : World => W'.cell? ⟨ga, 0, none⟩ = some (.bool s) ∧ W'.cell? ⟨ga, 1, none⟩ = some (.slice p m m) ∧ W'.cell? ⟨gb, 0, none⟩ = some (.bool t) ∧ W'.cell? ⟨gb, 1, none⟩ = some (.slice q n n)) ((w3.setCell ⟨gr, 0, none⟩ (.bool s9)).setCell ⟨gr, 1, none⟩ (.slice (some ⟨g9, 0, none⟩) m9 m9))) := ⟨by go_simp, by go_simp, by go_simp, by go_simp⟩
 refine hK _ _ HJ2.out ?_
 clear hK HJ;have HJ := HJ2;clear HJ2
 refine wpJ_done (by kernel_rfl) ?_ _
 clear HJ;go_wp2_with fail
 refine bodyPost_ret (v := .agg #[.bool s9, .slice (some ⟨g9, 0, none⟩) m9 m9]) (by rw [results_cell1 rfl]; go_simp) rfl ⟨_, rfl, ⟨s9, g9, m9, rfl, HGB.out, ?_, HL.out⟩, ?_⟩
 ·have := HGE.out
  exact (ZA.out.set _ _ _ (by omega)).set _ _ _ (by omega)
 ·exact bSet (bSet hbw _ _ _ HGr.out) _ _ _ HGr.out
theorem radd04 {p q : Option Addr} {m n : Nat} {w : World} {x y : Int} (s t : Bool) (h : ZR w s p m x) (k : ZR w t q n y) (hm : m ≤ 50000) (hn : n ≤ 50000) : Calls Tryz.prog 114 #[.agg #[.bool s, .slice p m m], .agg #[.bool t, .slice q n n]] w fun e w' => ∃ v, e = .returned v ∧ GotR w.heap.size w' v (x + y) (max m n + 1) ∧ Below w.heap.size w w' := by
  by_cases hst : s = t
  · exact radd04_s s t h k hm hn hst
  · rcases Nat.lt_or_ge x.natAbs y.natAbs with hl | hl
    · exact radd04_l s t h k hm hn hst hl
    · exact radd04_g s t h k hm hn hst hl
theorem rsub04 {p q : Option Addr} {m n : Nat} {w : World} {x y : Int} (s t : Bool) (h : ZR w s p m x) (k : ZR w t q n y) (hm : m ≤ 50000) (hn : n ≤ 50000) :
  Calls Tryz.prog 103 #[.agg #[.bool s, .slice p m m], .agg #[.bool t, .slice q n n]] w fun e w' => ∃ v, e = .returned v ∧ GotR w.heap.size w' v (x - y) (max m n + 1) ∧ Below w.heap.size w w' := by
 have HA := hdQ h;have HB := hdQ k;have HM : Hid (m ≤ 50000 ∧ n ≤ 50000) := ⟨hm, hn⟩;clear h k hm hn
 go_enter Tryz.func103, Tryz.ntmps103
 go_wp2_with fail;obtain ⟨W0, hW0⟩ := exq (((w.alloc (.cells #[.bool s, .slice p m m] 56)).alloc (.cells #[.bool t, .slice q n n] 56)).alloc (.cells #[.bool false, .slice none 0 0] 56))
 have Xa : Hid (Box W0 (w.heap.size) (.bool s) (.slice p m m)) := by rw [hW0]; constructor <;> go_simp
 have Xb : Hid (Box W0 (w.heap.size + 1) (.bool t) (.slice q n n)) := by rw [hW0]; constructor <;> go_simp
 have Xr : Hid (Box W0 (w.heap.size + 1 + 1) (.bool false) (.slice none 0 0)) := by rw [hW0]; constructor <;> go_simp
 have hb0 := bq3 hW0;rw [← hW0];clear hW0;have hbw := brf w;obtain ⟨gr, hgr⟩ := exq (w.heap.size + 1 + 1);have HGr : Hid (w.heap.size ≤ gr) := hgl hgr;rw [← hgr] at Xr
 try rw [← hgr]
 obtain ⟨gb, hgb⟩ := exq (w.heap.size + 1);have HGb : Hid (w.heap.size ≤ gb) := hgl hgb;rw [← hgb] at Xb
 try rw [← hgb]
 obtain ⟨ga, hga⟩ := exq w.heap.size;have HGa : Hid (w.heap.size ≤ ga) := hgl hga;rw [← hga] at Xa
 try rw [← hga]
 have HGD : Hid (ga ≠ gb ∧ ga ≠ gr ∧ gb ≠ ga ∧ gb ≠ gr ∧ gr ≠ ga ∧ gr ≠ gb) := by rw [hga, hgb, hgr]; show _ ∧ _; omega
 clear hga hgb hgr;replace HA := ZR.b HA hb0;replace HB := ZR.b HB hb0;replace hbw := bon hbw hb0;clear hb0;obtain ⟨W1, hW1⟩ := exq W0.drew
 have hbd : Below W0.heap.size W0 W1 := by rw [hW1]; exact bDrew1 (Below.refl _ _)
 replace Xa := Box.b Xa hbd;replace Xb := Box.b Xb hbd;replace Xr := Box.b Xr hbd;replace HA := ZR.b HA hbd;replace HB := ZR.b HB hbd;replace hbw := bon hbw hbd;clear hbd
 have HJ : Hid ((fun W' : World => W'.cell? ⟨ga, 0, none⟩ = some (.bool s) ∧ W'.cell? ⟨ga, 1, none⟩ = some (.slice p m m) ∧ W'.cell? ⟨gb, 0, none⟩ = some (.bool t) ∧ W'.cell? ⟨gb, 1, none⟩ = some (.slice q n n)) W1) := ⟨Xa.out.c0, Xa.out.c1, Xb.out.c0, Xb.out.c1⟩
 refine wp_region_J (fun W' => W'.cell? ⟨ga, 0, none⟩ = some (.bool s) ∧ W'.cell? ⟨ga, 1, none⟩ = some (.slice p m m) ∧ W'.cell? ⟨gb, 0, none⟩ = some (.bool t) ∧ W'.cell? ⟨gb, 1, none⟩ = some (.slice q n n)) (by kernel_rfl) ?_
 rw [← hW1];clear hW1
 refine wpJ_tq 0 rfl HJ.out ?_
 refine wpJ_tq 1 rfl HJ.out ?_
 refine wpJ_on 2 rfl fun KJ hK => ?_
 go_simp
 refine (rflip_any t HB.out (by have := HM.out; omega)).mono ?_
 rintro e w2 ⟨v, rfl, hv, hb2⟩;obtain ⟨s2, g2, m2, rfl, hg2, hz2, hl2⟩ := hv;replace Xa := Box.b Xa hb2;replace Xb := Box.b Xb hb2;replace Xr := Box.b Xr hb2;replace HA := ZR.b HA hb2;replace HB := ZR.b HB hb2;replace hbw := bon hbw hb2;clear hb2;have ZB := hdQ hz2;have HL2 : Hid (m2 ≤ n) := hl2;have HRL : Hid (gr < w2.heap.size) := Xr.out.lt;have HBS : Hid (w.heap.size ≤ w2.heap.size) := hbw.size;clear hg2 hz2 hl2
 refine hK _ _ ⟨Xa.out.c0, Xa.out.c1, Xb.out.c0, Xb.out.c1⟩ ?_
 clear hK
 refine wpJ_on 3 rfl fun KJ hK => ?_
 go_simp
 refine (radd04 s s2 HA.out ZB.out HM.out.1 (Nat.le_trans HL2.out HM.out.2)).mono ?_
 rintro e w3 ⟨v, rfl, hv, hb3⟩;rw [← Int.sub_eq_add_neg] at hv;replace Xa := Box.b Xa hb3;replace Xb := Box.b Xb hb3;replace Xr := Box.b Xr hb3;replace HA := ZR.b HA hb3;replace HB := ZR.b HB hb3;replace ZB := ZR.b ZB hb3;replace hbw := bon hbw hb3;clear hb3
 have HLL : Hid (max m m2 + 1 ≤ max m n + 1) := by have := HL2.out; show _ ≤ _; omega
 obtain ⟨s9, g9, m9, rfl, hg9, hz9, hl9⟩ := hv;have ZA := hdQ hz9
 have HL : Hid (m9 ≤ max m n + 1) := by have := hl9; have := HLL.out; show m9 ≤ _; omega
 have HGE : Hid (gr < g9) := Nat.lt_of_lt_of_le HRL.out hg9;have HGB : Hid (w.heap.size ≤ g9) := Nat.le_trans HBS.out hg9;clear hg9 hz9 hl9
 refine hK _ _ ⟨Xa.out.c0, Xa.out.c1, Xb.out.c0, Xb.out.c1⟩ ?_
 clear hK;obtain ⟨cr0, cr1, fr0, fr1⟩ := Xr.out;have hner := Xr.out.lt;obtain ⟨ca0, ca1, fa0, fa1⟩ := Xa.out;have hnea := Xa.out.lt;obtain ⟨cb0, cb1, fb0, fb1⟩ := Xb.out;have hneb := Xb.out.lt;obtain ⟨hgd0, hgd1, hgd2, hgd3, hgd4, hgd5⟩ := HGD.out
 refine wpJ_on 4 rfl fun KJ hK => ?_
 go_simp
 have HJ2 : Hid ((fun W' : World => W'.cell? ⟨ga, 0, none⟩ = some (.bool s) ∧ W'.cell? ⟨ga, 1, none⟩ = some (.slice p m m) ∧ W'.cell? ⟨gb, 0, none⟩ = some (.bool t) ∧ W'.cell? ⟨gb, 1, none⟩ = some (.slice q n n)) ((w3.setCell ⟨gr, 0, none⟩ (.bool s9)).setCell ⟨gr, 1, none⟩ (.slice (some ⟨g9, 0, none⟩) m9 m9))) := ⟨by go_simp, by go_simp, by go_simp, by go_simp⟩
 refine hK _ _ HJ2.out ?_
 clear hK HJ;have HJ := HJ2;clear HJ2
 refine wpJ_done (by kernel_rfl) ?_ _
 clear HJ;go_wp2_with fail
 refine bodyPost_ret (v := .agg #[.bool s9, .slice (some ⟨g9, 0, none⟩) m9 m9]) (by rw [results_cell1 rfl]; go_simp) rfl ⟨_, rfl, ⟨s9, g9, m9, rfl, HGB.out, ?_, HL.out⟩, ?_⟩
 ·have := HGE.out
  exact (ZA.out.set _ _ _ (by omega)).set _ _ _ (by omega)
 ·exact bSet (bSet hbw _ _ _ HGr.out) _ _ _ HGr.out
theorem rsign04 {p : Option Addr} {m : Nat} {w : World} {z : Int} (s : Bool) (h : ZR w s p m z) :
  Calls Tryz.prog 102 #[.agg #[.bool s, .slice p m m]] w fun e w' => e = .returned (.int .i64 (sgnI z)) ∧ Below w.heap.size w w' := by
 have hz := h.zero;have hsg := h.sg;obtain ⟨sg, hs⟩ := exq (sgnI z);rw [← hs]
 by_cases hm : m = 0
 ·have hv : sg = 0 := by rw [hs, hz.1 hm]; rfl
  subst hv;subst hm;clear h hz hsg hs
  go_enter Tryz.func102, Tryz.ntmps102
  go_wp2_with fail
  go_ret
  exact ⟨rfl, below1 w _⟩
 ·have hm0 : ((m : Int) == 0) = false := by simp; omega
  have hz0 : z ≠ 0 := fun e => hm (hz.2 e)
  cases s
  ·have hv : sg = 1 := by rw [hs]; unfold sgnI; have := of_decide_eq_false hsg.symm; rw [if_neg this, if_neg hz0]
   subst hv;clear h hz hsg hs hz0
   go_enter Tryz.func102, Tryz.ntmps102
   go_wp2_with fail
   go_ret
   exact ⟨rfl, below1 w _⟩
  ·have hv : sg = -1 := by rw [hs]; unfold sgnI; have := of_decide_eq_true hsg.symm; rw [if_pos this]
   subst hv;clear h hz hsg hs hz0
   go_enter Tryz.func102, Tryz.ntmps102
   go_wp2_with fail
   go_ret
   exact ⟨rfl, below1 w _⟩
def NewAt (B : Nat) (w : World) (p : Option Addr) (m c : Nat) (us : List Nat) : Prop := At w p m c us ∧ (m = 0 ∨ ∃ g, p = some ⟨g, 0, none⟩ ∧ B ≤ g)
theorem NewAt.below {B : Nat} {w w' : World} {p : Option Addr} {m c : Nat} {us : List Nat} (h : NewAt B w p m c us) (hb : Below w.heap.size w w') : NewAt B w' p m c us := ⟨h.1.below hb, h.2⟩
theorem NewAt.b {B : Nat} {w w' : World} {p : Option Addr} {m c : Nat} {us : List Nat} (h : Hid (NewAt B w p m c us)) (hb : Below w.heap.size w w') : Hid (NewAt B w' p m c us) := NewAt.below h hb
theorem NewAt.mono {B B' : Nat} {w : World} {p : Option Addr} {m c : Nat} {us : List Nat} (h : NewAt B w p m c us) (hB : B' ≤ B) : NewAt B' w p m c us :=
 ⟨h.1, h.2.imp id (fun ⟨g, e, k⟩ => ⟨g, e, Nat.le_trans hB k⟩)⟩
theorem NewAt.set {B : Nat} {w : World} {p : Option Addr} {m c : Nat} {us : List Nat} (h : NewAt B w p m c us) {r : Nat} (hr : r < B) (o : Nat) (v : Value) : NewAt B (w.setCell ⟨r, o, none⟩ v) p m c us := by
  refine ⟨?_, h.2⟩
  rcases h.2 with h0 | ⟨g, rfl, hg⟩
  · subst h0
    obtain rfl : us = [] := List.eq_nil_of_length_eq_zero h.1.len
    exact At.empty _ _ _ h.1.big
  · exact h.1.setOther _ _ _ (by omega)
def DocZ (z : Int) (s : Bool) (us : List Nat) (er : Int) : Prop :=
 (z.natAbs < LIM ∧ s = decide (z < 0) ∧ Nf B64 us z.natAbs ∧ er = 0) ∨ (LIM ≤ z.natAbs ∧ s = false ∧ us = [] ∧ er = 5)
theorem DocZ.inj {z : Int} {s s' : Bool} {us us' : List Nat} {er er' : Int} (h : DocZ z s us er) (k : DocZ z s' us' er') : s = s' ∧ us = us' ∧ er = er' := by
  rcases h with ⟨h0, rfl, h1, rfl⟩ | ⟨h0, rfl, rfl, rfl⟩ <;> rcases k with ⟨k0, rfl, k1, rfl⟩ | ⟨k0, rfl, rfl, rfl⟩
  · exact ⟨rfl, h1.inj B64_one k1, rfl⟩
  · omega
  · omega
  · exact ⟨rfl, rfl, rfl⟩
theorem lim32 {zs : List Nat} {a : Nat} (h : Nf B32 zs a) : zs.length ≤ 16384 ↔ a < LIM := by
  rw [h.len_le B32_one];obtain ⟨K, hK⟩ := exq 8192
  rw [LIM_eq K hK, ← B32_two, show (16384 : Nat) = 2 * K by omega, Nat.pow_mul, Nat.pow_two]
def OneZ (r : Int → Int) (sx : Bool) (xs : List Nat) (s : Bool) (us : List Nat) (er : Int) : Prop :=
 (formZ sx xs = false ∧ s = false ∧ us = [] ∧ er = 2) ∨ (formZ sx xs = true ∧ DocZ (r (iv sx (valB B64 xs))) s us er)
def TwoZ (r : Int → Int → Int) (sx : Bool) (xs : List Nat) (sy : Bool) (ys : List Nat) (s : Bool) (us : List Nat) (er : Int) : Prop :=
 ((formZ sx xs && formZ sy ys) = false ∧ s = false ∧ us = [] ∧ er = 2) ∨ ((formZ sx xs && formZ sy ys) = true ∧ DocZ (r (iv sx (valB B64 xs)) (iv sy (valB B64 ys))) s us er)
theorem OneZ.inj {r : Int → Int} {sx : Bool} {xs : List Nat} {s s' : Bool} {us us' : List Nat} {er er' : Int} (h : OneZ r sx xs s us er) (k : OneZ r sx xs s' us' er') : s = s' ∧ us = us' ∧ er = er' := by
  rcases h with ⟨h0, rfl, rfl, rfl⟩ | ⟨h0, h1⟩ <;> rcases k with ⟨k0, rfl, rfl, rfl⟩ | ⟨k0, k1⟩
  · exact ⟨rfl, rfl, rfl⟩
  · rw [h0] at k0; cases k0
  · rw [h0] at k0; cases k0
  · exact h1.inj k1
theorem TwoZ.inj {r : Int → Int → Int} {sx sy : Bool} {xs ys : List Nat} {s s' : Bool} {us us' : List Nat} {er er' : Int} (h : TwoZ r sx xs sy ys s us er) (k : TwoZ r sx xs sy ys s' us' er') : s = s' ∧ us = us' ∧ er = er' := by
  rcases h with ⟨h0, rfl, rfl, rfl⟩ | ⟨h0, h1⟩ <;> rcases k with ⟨k0, rfl, rfl, rfl⟩ | ⟨k0, k1⟩
  · exact ⟨rfl, rfl, rfl⟩
  · rw [h0] at k0; cases k0
  · rw [h0] at k0; cases k0
  · exact h1.inj k1
theorem from04g {p : Option Addr} {n c : Nat} {xs : List Nat} {w : World} (s : Bool) (h : At w p n c xs) (hn : n ≤ 17592186044416) :
    Calls Tryz.prog 25 #[ZV s p n c] w fun e w' => ∃ g m zs, e = .returned (.agg #[.bool (s && decide (0 < m)), .slice (some ⟨g, 0, none⟩) m m]) ∧ w.heap.size ≤ g ∧ At32 w' (some ⟨g, 0, none⟩) m m zs ∧ Nf B32 zs (valB B64 xs) ∧ m ≤ 2 * n ∧ Below w.heap.size w w' := by
  go_enter Tryz.func25, Tryz.ntmps25
  go_wp2_with fail
  have B0 : Box ((w.alloc (.cells #[.bool s, .slice p n c] 25)).alloc (.cells #[.bool false, .slice none 0 0] 56)) w.heap.size (.bool s) (.slice p n c) := ⟨by go_simp, by go_simp, by go_simp, by go_simp⟩
  have B1 : Box ((w.alloc (.cells #[.bool s, .slice p n c] 25)).alloc (.cells #[.bool false, .slice none 0 0] 56)) (w.heap.size + 1) (.bool false) (.slice none 0 0) := ⟨by go_simp, by go_simp, by go_simp, by go_simp⟩
  have hbw : Below w.heap.size w ((w.alloc (.cells #[.bool s, .slice p n c] 25)).alloc (.cells #[.bool false, .slice none 0 0] 56)) := below2 w _ _
  have hsW : ((w.alloc (.cells #[.bool s, .slice p n c] 25)).alloc (.cells #[.bool false, .slice none 0 0] 56)).heap.size = w.heap.size + 1 + 1 := by simp
  generalize ((w.alloc (.cells #[.bool s, .slice p n c] 25)).alloc (.cells #[.bool false, .slice none 0 0] 56)) = W at *;obtain ⟨hs, ehs⟩ := exq w.heap.size;have HHS : Hid (hs = w.heap.size) := ehs;rw [← ehs] at B0 B1 hsW ⊢;have HSW := hdQ hsW;have HBW : Hid (Below w.heap.size w W.drew) := bDrew hbw;have HAT : Hid (At W.drew p n c xs) := (h.below hbw).drewN 1;have X0 : Hid (Box W.drew hs (.bool s) (.slice p n c)) := ⟨B0.c0, B0.c1, B0.f0, B0.f1⟩;have X1 : Hid (Box W.drew (hs + 1) (.bool false) (.slice none 0 0)) := ⟨B1.c0, B1.c1, B1.f0, B1.f1⟩;obtain ⟨c00, c01, f00, f01⟩ := B0;obtain ⟨c10, c11, f10, f11⟩ := B1;clear ehs hsW hbw h
  go_region_with (first
    | (go_at_call 50; refine (from_any HAT.out hn).mono ?_; rintro e w1 ⟨g1, zs, rfl, hg1, hblk1, hnf1, hl1, hb1⟩; obtain ⟨d00, d01, e00, e01⟩ := X0.out.below hb1; have Y1 : Hid (Box w1 (hs + 1) (.bool false) (.slice none 0 0)) := X1.out.below hb1; have HA1 : Hid (At32 w1 (some ⟨g1, 0, none⟩) zs.length zs.length zs) := hblk1.at_ hnf1.dig rfl (by unfold maxLen; omega); have HN1 : Hid (Nf B32 zs (valB B64 xs)) := hnf1; have HL1 : Hid (zs.length ≤ 2 * n) := hl1; have HB1 : Hid (Below w.heap.size w w1) := Below.on HBW.out hb1; have HS1 : Hid (hs + 1 + 1 ≤ w1.heap.size) := Nat.le_trans (Nat.le_of_eq HSW.out.symm) hb1.size; clear hblk1 hnf1 hl1 hb1 hg1)
    | (go_at_call 49; refine (mk04 s HA1.out (by have := HL1.out; omega)).mono ?_; rintro e w2 ⟨g2, m2, hm2, rfl, hg2, hA2, hb2⟩; obtain ⟨c10, c11, f10, f11⟩ := Y1.out.below hb2; have HM2 : Hid (m2 = (trimL zs).length) := hm2; have HA2 : Hid (At32 w2 (some ⟨g2, 0, none⟩) m2 m2 (trimL zs)) := hA2; have HB2 : Hid (Below w.heap.size w w2) := Below.on HB1.out hb2; have HG2 : Hid (hs + 1 + 1 ≤ g2) := Nat.le_trans HS1.out hg2; clear hm2 hA2 hb2 hg2))
  all_goals
    (obtain ⟨sb, esb⟩ : ∃ sb, sb = (s && decide (0 < m2)) := ⟨_, rfl⟩
     rw [← esb];have HSB : Hid (sb = (s && decide (0 < m2))) := esb;clear esb;go_wp2_with fail
     refine bodyPost_ret (v := .agg #[.bool sb, .slice (some ⟨g2, 0, none⟩) m2 m2]) (by rw [results_cell1 rfl]; go_simp) rfl ⟨_, m2, trimL zs, by rw [HSB.out], by have := HG2.out; have := HHS.out; omega, (HA2.out.setOther _ _ _ (by have := HG2.out; omega)).setOther _ _ _ (by have := HG2.out; omega), ?_, ?_, bSet (bSet HB2.out _ _ _ (by have := HHS.out; omega)) _ _ _ (by have := HHS.out; omega)⟩
     · rw [trimL_of_Top HN1.out.top]; exact HN1.out
     · have h1 := HM2.out; have h2 := HL1.out; rw [trimL_of_Top HN1.out.top] at h1; omega)

theorem rfrom04g {p : Option Addr} {n c : Nat} {xs : List Nat} {w : World} (s : Bool) (h : At w p n c xs) (hn : n ≤ 17592186044416) :
  Calls Tryz.prog 25 #[ZV s p n c] w fun e w' => ∃ v, e = .returned v ∧ GotR w.heap.size w' v (iv s (valB B64 xs)) (2 * n) ∧ Below w.heap.size w w' := by
 refine (from04g s h hn).mono ?_
 rintro e w1 ⟨g1, m1, z1, rfl, hg, hA, hN, hl, hb⟩
 refine ⟨_, rfl, ⟨_, g1, m1, rfl, hg, ⟨⟨z1, hA, by rw [iv_natAbs]; exact hN⟩, ?_⟩, hl⟩, hb⟩
 rw [iv_lt]
 have : decide (0 < m1) = decide (0 < valB B64 xs) := by
  refine decide_eq_decide.2 ?_
  have h1 := hN.zero_iff B32_one;have h2 := hA.len
  constructor
  ·intro h0
   rcases Nat.eq_zero_or_pos (valB B64 xs) with e | e
   ·have := h1.2 e; rw [this] at h2; simp at h2; omega
   ·exact e
  ·intro h0
   rcases Nat.eq_zero_or_pos m1 with e | e
   ·have := h1.1 (List.eq_nil_of_length_eq_zero (by omega)); omega
   ·exact e
 rw [this]
def OffR (g m g2 : Nat) : Prop := m = 0 ∨ g ≠ g2
theorem ZR.off_new {w : World} {s : Bool} {g m : Nat} {z : Int} (h : ZR w s (some ⟨g, 0, none⟩) m z) : OffR g m w.heap.size := by
  obtain ⟨zs, hA, _⟩ := h.ex
  rcases Nat.eq_zero_or_pos m with e | e
  · exact .inl e
  · rcases hA.cells with h0 | ⟨g', off, he, hc⟩
    · exact .inl h0
    · have h1 := World.block_lt_of_cell? w _ (hc 0 e)
      have h2 : g = g' := by have := Option.some.inj he; simpa using congrArg Addr.block this
      exact .inr (by subst h2; exact Nat.ne_of_lt h1)
theorem ZR.setOff {w : World} {s : Bool} {g m : Nat} {z : Int} (h : ZR w s (some ⟨g, 0, none⟩) m z) {g2 : Nat} (hf : OffR g m g2) (o2 : Nat) (v : Value) : ZR (w.setCell ⟨g2, o2, none⟩ v) s (some ⟨g, 0, none⟩) m z := by
  rcases hf with h0 | h0
  · subst h0
    obtain ⟨zs, hA, hN⟩ := h.ex;obtain rfl : zs = [] := List.eq_nil_of_length_eq_zero hA.len
    exact ⟨⟨[], At32.empty _ _ _ (by decide), hN⟩, h.sg⟩
  · exact h.set g2 o2 v h0
structure WinRel32 (w : World) (g off n : Nat) (W D d b : Nat) (ws : List Nat) (wr : World) : Prop where
 wrs : Wr g off (n + 1) w wr
 row : Row32 wr g off (n + 1) ws
 db : d < B32
 bb : b ≤ 1
 ge : W / D ≤ d
 sum : valB B32 ws + D * d = W + B32 ^ (n + 1) * b
theorem WinRel32.done {w : World} {g off n W D d : Nat} {ws : List Nat} {wr : World} (h : WinRel32 w g off n W D d 0 ws wr) (hD : 0 < D) : d = W / D ∧ valB B32 ws = W % D := by
  have h1 := h.sum; have h2 := h.ge;rw [Nat.mul_zero, Nat.add_zero] at h1
  have h3 : d ≤ W / D := (Nat.le_div_iff_mul_le hD).2 (by rw [Nat.mul_comm]; omega)
  have h4 : d = W / D := by omega
  refine ⟨h4, ?_⟩
  have h5 := Nat.div_add_mod W D;rw [← h4] at h5
  omega
theorem WinRel32.more {w : World} {g off n W D d : Nat} {ws : List Nat} {wr wr' : World} (h : WinRel32 w g off n W D d 1 ws wr) {cy : Nat} {ws' : List Nat} (hcy : cy ≤ 1) (hwr : Wr g off (n + 1) wr wr') (hrow : Row32 wr' g off (n + 1) ws') (hs : valB B32 ws' + B32 ^ (n + 1) * cy = valB B32 ws + D) :
  1 ≤ d ∧ WinRel32 w g off n W D (d - 1) (1 - cy) ws' wr' := by
 have h1 := h.sum; have h2 := h.ge; have h3 := h.db;have hl := valB_lt B32_pos h.row.dig;rw [h.row.len] at hl;rw [Nat.mul_one] at h1
 have hgt : W < D * d := by omega
 have hd : 1 ≤ d := by
  rcases Nat.eq_zero_or_pos d with e | e
  ·subst e; simp at hgt
  ·exact e
 have hlt : W / D < d := Nat.div_lt_of_lt_mul hgt
 have e4 : D * d = D * (d - 1) + D := by rw [← Nat.mul_succ, show (d - 1).succ = d by omega]
 refine ⟨hd, h.wrs.trans hwr, hrow, by omega, by omega, by omega, ?_⟩
 rcases Nat.eq_zero_or_pos cy with e | e
 ·subst e; rw [Nat.mul_zero, Nat.add_zero] at hs; rw [Nat.sub_zero, Nat.mul_one]; omega
 ·obtain rfl : cy = 1 := by omega
  rw [Nat.mul_one] at hs; rw [Nat.sub_self, Nat.mul_zero]; omega
structure DgS (w : World) (g off n : Nat) (us vs : List Nat) (q k cy ow : Nat) (dk : List Nat) (wr : World) : Prop where
 wrs : Wr g off (n + 1) w wr
 row : Row32 wr g off (n + 1) dk
 hi : dk.drop k = us.drop k
 car : cy < B32
 owb : ow ≤ 1
 fin : k = n + 1 → cy = 0
 sum : valB B32 (dk.take k) + valB B32 (vs.take k) * q = valB B32 (us.take k) + B32 ^ k * (ow + cy)
theorem dgs_abs {P B S V U q d y u o c o' c' : Nat} (h : S + V * q = U + P * (o + c)) (hs : o + c + d + y * q = u + B * (o' + c')) : S + P * d + (V + P * y) * q = U + P * u + P * B * (o' + c') := by
  have e1 : P * (o + c + d + y * q) = P * (u + B * (o' + c')) := by rw [hs]
  rw [Nat.mul_add P (o + c + d) (y * q), Nat.mul_add P (o + c) d, Nat.mul_add P u] at e1;have e2 : P * (y * q) = P * y * q := (Nat.mul_assoc _ _ _).symm;have e3 : P * (B * (o' + c')) = P * B * (o' + c') := (Nat.mul_assoc _ _ _).symm;rw [e2, e3] at e1;rw [Nat.add_mul];generalize P * y * q = X1 at *;generalize P * B * (o' + c') = X2 at *;generalize P * (o + c) = X3 at *;generalize P * d = X4 at *;generalize P * u = X5 at *
  omega
theorem DgS.step {w : World} {g off n : Nat} {us vs : List Nat} {q k cy ow : Nat} {dk : List Nat} {wr : World} (h : DgS w g off n us vs q k cy ow dk wr) (hk : k < n + 1) (hvl : vs.length = n)
  {y u c1 lo cy' ow' d : Nat} (hy : y = vs.getD k 0) (hu : u = dk.getD k 0) (hc1 : c1 = cy + y * q) (hlo : c1 = lo + B32 * cy') (hcy' : cy' < B32) (how' : ow' ≤ 1) (hd : d + lo + ow = u + B32 * ow') (hdb : d < B32) :
  DgS w g off n us vs q (k + 1) cy' ow' (dk.set k d) (wr.setCell ⟨g, off + k, none⟩ (V d)) := by
 have hlen := h.row.len
 refine ⟨h.wrs.setCell (off + k) ⟨by omega, by omega⟩ _, h.row.set k d hk hdb, ?_, hcy', how', ?_, ?_⟩
 ·rw [drop_set_lt]; exact drop_succ_of_drop h.hi
 ·intro hkn
  have h0 : y = 0 := by
   rw [hy, List.getD_eq_getElem?_getD, List.getElem?_eq_none (by omega)]; rfl
  rw [h0, Nat.zero_mul] at hc1;have := h.car
  rcases Nat.eq_zero_or_pos cy' with e | e
  ·exact e
  ·have : B32 * 1 ≤ B32 * cy' := Nat.mul_le_mul_left _ e
   omega
 ·have huu : u = us.getD k 0 := hu.trans (getD_of_drop h.hi)
  rw [take_set_succ dk k d (by omega), valB_snoc, List.length_take, hlen, Nat.min_eq_left (by omega), valB_take_any _ us k, valB_take_any _ vs k, ← huu, ← hy, Nat.pow_succ]
  refine dgs_abs h.sum ?_
  rw [Nat.mul_add]
  omega
structure DgA (w : World) (g off n : Nat) (ws vs : List Nat) (k cy : Nat) (dk : List Nat) (wr : World) : Prop where
 wrs : Wr g off (n + 1) w wr
 row : Row32 wr g off (n + 1) dk
 hi : dk.drop k = ws.drop k
 car : cy ≤ 1
 sum : valB B32 (dk.take k) + B32 ^ k * cy = valB B32 (ws.take k) + valB B32 (vs.take k)
theorem DgA.step {w : World} {g off n : Nat} {ws vs : List Nat} {k cy : Nat} {dk : List Nat} {wr : World} (h : DgA w g off n ws vs k cy dk wr) (hk : k < n + 1)
  {y u lo cy' : Nat} (hy : y = vs.getD k 0) (hu : u = dk.getD k 0) (hs : cy + u + y = lo + B32 * cy') (hlo : lo < B32) (hcy' : cy' ≤ 1) :
  DgA w g off n ws vs (k + 1) cy' (dk.set k lo) (wr.setCell ⟨g, off + k, none⟩ (V lo)) := by
 have hlen := h.row.len
 refine ⟨h.wrs.setCell (off + k) ⟨by omega, by omega⟩ _, h.row.set k lo hk hlo, ?_, hcy', ?_⟩
 ·rw [drop_set_lt]; exact drop_succ_of_drop h.hi
 ·have huu : u = ws.getD k 0 := hu.trans (getD_of_drop h.hi)
  rw [take_set_succ dk k lo (by omega), valB_snoc, List.length_take, hlen, Nat.min_eq_left (by omega), valB_take_any _ ws k, valB_take_any _ vs k, ← huu, ← hy, Nat.pow_succ]
  have e1 := h.sum
  have e2 : B32 ^ k * (cy + u + y) = B32 ^ k * (lo + B32 * cy') := by rw [hs]
  rw [Nat.mul_add, Nat.mul_add, Nat.mul_add, ← Nat.mul_assoc] at e2
  omega
theorem dg_guess {n : Nat} {us vs : List Nat} (hn : 1 ≤ n) (lu : us.length = n + 1) (lv : vs.length = n) (du : Dig B32 us) (hlt : valB B32 us < B32 * valB B32 vs) (hv0 : 0 < vs.getD (n - 1) 0) :
  valB B32 us / valB B32 vs ≤ min ((us.getD n 0 * B32 + us.getD (n - 1) 0) / vs.getD (n - 1) 0) (B32 - 1) := by
 obtain ⟨m, rfl⟩ : ∃ m, n = m + 1 := ⟨n - 1, by omega⟩
 rw [Nat.add_sub_cancel] at *
 have hU : valB B32 us = valB B32 (us.take m) + B32 ^ m * (us.getD m 0 + B32 * us.getD (m + 1) 0) := by
  rw [valB_split B32 us m (by omega), valB_drop B32 us m (by omega), valB_drop B32 us (m + 1) (by omega), List.drop_of_length_le (by omega), valB_nil, Nat.mul_zero, Nat.add_zero]
 have hV : valB B32 vs = valB B32 (vs.take m) + B32 ^ m * vs.getD m 0 := by
  rw [valB_split B32 vs m (by omega), valB_drop B32 vs m (by omega), List.drop_of_length_le (by omega), valB_nil, Nat.mul_zero, Nat.add_zero]
 have hP : 0 < B32 ^ m := Nat.pow_pos B32_pos
 have hL : valB B32 (us.take m) < B32 ^ m := by
  have := valB_lt B32_pos (du.take m)
  rwa [List.length_take, Nat.min_eq_left (by omega)] at this
 have hVpos : 0 < valB B32 vs := by
  rw [hV];have := Nat.mul_pos hP hv0
  omega
 obtain ⟨Q, hQ⟩ := exq (valB B32 us / valB B32 vs);rw [← hQ]
 have hQb : Q < B32 := by rw [hQ]; exact Nat.div_lt_of_lt_mul (by rw [Nat.mul_comm]; exact hlt)
 have hQV : Q * valB B32 vs ≤ valB B32 us := by rw [hQ]; exact Nat.div_mul_le_self _ _
 refine Nat.le_min.2 ⟨?_, by omega⟩
 refine (Nat.le_div_iff_mul_le hv0).2 ?_
 have h1 : B32 ^ m * (Q * vs.getD m 0) ≤ Q * valB B32 vs := by
  rw [hV, Nat.mul_add]
  have : B32 ^ m * (Q * vs.getD m 0) = Q * (B32 ^ m * vs.getD m 0) := by rw [← Nat.mul_assoc, ← Nat.mul_assoc, Nat.mul_comm (B32 ^ m) Q]
  omega
 have h2 : B32 ^ m * (Q * vs.getD m 0) < B32 ^ m * (us.getD m 0 + B32 * us.getD (m + 1) 0 + 1) := by
  rw [Nat.mul_add (B32 ^ m) _ 1, Nat.mul_one]
  omega
 have h3 := Nat.lt_of_mul_lt_mul_left h2;rw [Nat.mul_comm (us.getD (m + 1) 0) B32]
 omega
theorem rdigit_any {g off cu n : Nat} {gv ov cv : Nat} {us vs : List Nat} {w : World} (hu : Row32 w g off (n + 1) us) (hcu : n + 1 ≤ cu) (hcub : cu ≤ maxLen) (hv : At32 w (some ⟨gv, ov, none⟩) n cv vs) (hne : gv ≠ g) (hn : 1 ≤ n) (hnb : n ≤ 1099511627776) (hlt : valB B32 us < B32 * valB B32 vs) (hv0 : 0 < vs.getD (n - 1) 0) :
  Calls Tryz.prog 164 #[.slice (some ⟨g, off, none⟩) (n + 1) cu, .slice (some ⟨gv, ov, none⟩) n cv] w fun e w' => ∃ ws, e = .returned (.int .u32 (valB B32 us / valB B32 vs : Nat)) ∧ Wr g off (n + 1) w w' ∧ Row32 w' g off (n + 1) ws ∧ valB B32 ws = valB B32 us % valB B32 vs := by
 obtain ⟨u1, hu1⟩ := exq (us.getD n 0);obtain ⟨u0, hu0⟩ := exq (us.getD (n - 1) 0);obtain ⟨y1, hy1⟩ := exq (vs.getD (n - 1) 0);have hguess := dg_guess hn hu.len hv.len hu.dig hlt hv0;rw [← hu1, ← hu0, ← hy1] at hguess;rw [← hy1] at hv0
 have b1 : u1 < B32 := by rw [hu1]; exact hu.dig.getD B32_pos _
 have b0 : u0 < B32 := by rw [hu0]; exact hu.dig.getD B32_pos _
 have by1 : y1 < B32 := by rw [hy1]; exact hv.dig.getD B32_pos _
 have cu1 : w.cell? ⟨g, off + n, none⟩ = some (V u1) := by rw [hu1]; exact hu.cell n (by omega)
 have cu0 : w.cell? ⟨g, off + (n - 1), none⟩ = some (V u0) := by rw [hu0]; exact hu.cell (n - 1) (by omega)
 have cy1 : w.cell? ⟨gv, ov + (n - 1), none⟩ = some (V y1) := by rw [hy1]; exact hv.cellAt (n - 1) (by omega)
 obtain ⟨m, rfl⟩ : ∃ m, n = m + 1 := ⟨n - 1, by omega⟩
 rw [Nat.add_sub_cancel] at cu0 cy1;obtain ⟨D, hD⟩ := exq (valB B32 vs);obtain ⟨U0, hU0⟩ := exq (valB B32 us);rw [← hD, ← hU0] at hguess hlt ⊢;have HDU : Hid (D = valB B32 vs ∧ U0 = valB B32 us ∧ U0 < B32 * D) := ⟨hD, hU0, hlt⟩;have hl := hv.len; have hcap := hv.cap; have hbig := hv.big;unfold maxLen at hbig hcub;have HV := hdQ hv;have HU := hdQ hu;obtain ⟨tw, htw⟩ := exq (u1 * B32 + u0);obtain ⟨qq, hqq⟩ := exq (tw / y1);obtain ⟨q, hq⟩ := exq (min qq (B32 - 1))
 have hqb : q < B32 := by rw [hq]; have := B32_pos; omega
 have HQ : Hid (U0 / D ≤ q ∧ q < B32) := ⟨by rw [hq, hqq, htw]; exact hguess, hqb⟩
 rw [B32_eq] at b1 b0 by1 htw hq;obtain ⟨th, hth⟩ := exq (u1 * 4294967296)
 have f1 : IntKind.u64.wrap (u1 : Int) = (u1 : Int) := wrap_mod _ _ (by omega)
 have f2 : IntKind.u64.wrap ((u1 : Int) * 4294967296) = (th : Int) := wrap_mod _ _ (by omega)
 have f3 : IntKind.u64.wrap (u0 : Int) = (u0 : Int) := wrap_mod _ _ (by omega)
 have f4 : IntKind.u64.wrap ((th : Int) + (u0 : Int)) = (tw : Int) := wrap_mod _ _ (by omega)
 have f5 : IntKind.u64.wrap (y1 : Int) = (y1 : Int) := wrap_mod _ _ (by omega)
 have hy1n : ((y1 : Int) == 0) = false := by simp; omega
 have hy1m : ¬ y1 = 0 := by omega
 have f6 : (tw : Int).tdiv (y1 : Int) = (qq : Int) := by rw [hqq, Int.tdiv_eq_ediv_of_nonneg (Int.natCast_nonneg tw)]; norm_cast
 have f7 : (tw : Int) / (y1 : Int) = (qq : Int) := by rw [hqq]; norm_cast
 have f8 : IntKind.u64.wrap (qq : Int) = (qq : Int) := wrap_mod _ _ (by have h9 : qq ≤ tw := (by rw [hqq]; exact Nat.div_le_self _ _); omega)
 have f9 : min (qq : Int) 4294967295 = (q : Int) := by rw [hq]; omega
 have ha1 : (m : Int) + 1 - 1 = (m : Int) := by omega
 clear hguess hD hU0 hlt hu1 hu0 hy1 htw hqq hq hth hu hv hv0 b1 b0 by1 hqb hn
 go_enter Tryz.func164, Tryz.ntmps164
 go_wp2_with fail
 go_quiet (fail)
 go_wp2_with fail
 have HO : Hid (DgS w g off (m + 1) us vs q 0 0 0 us (w.drewN nq)) := ⟨(Wr.refl _ _ _ _).drewN nq, HU.out.drewN nq, rfl, B32_pos, by omega, by omega, by simp [valB]⟩
 clear f1 f2 f3 f4 f5 f6 f7 f8 f9 hy1n hy1m cu1 cu0 cy1 ha1
 go_loopg [8, 9, 10] (m + 1 + 1) (fun gk cv ov iv wr => ∃ (k cy ow : Nat) (dk : List Nat), k + gk = m + 1 + 1 ∧ iv = .int .i64 k ∧ cv = U cy ∧ ov = U ow ∧ Hid (DgS w g off (m + 1) us vs q k cy ow dk wr))
 case atStart => exact ⟨0, 0, 0, us, by omega, rfl, rfl, rfl, HO⟩
 case round =>
  obtain ⟨k, cy, ow, dk, hkg, rfl, rfl, rfl, HR⟩ := hrel;have hcyb := HR.out.car;have howb := HR.out.owb;have hqb := HQ.out.2
  cases gk with
  | zero =>
   obtain rfl : k = m + 1 + 1 := by omega
   have HW : Hid (WinRel32 w g off (m + 1) U0 D q ow dk wr) := by
    have hR := HR.out;have hs := hR.sum
    rw [hR.fin rfl, Nat.add_zero, List.take_of_length_le (by rw [hR.row.len]; omega), List.take_of_length_le (by omega), List.take_of_length_le (by rw [HU.out.len]; omega), ← HDU.out.1, ← HDU.out.2.1] at hs
    exact ⟨hR.wrs, hR.row, HQ.out.2, hR.owb, HQ.out.1, hs⟩
   have HDP : Hid (0 < D) := by
    rcases Nat.eq_zero_or_pos D with e | e
    ·have h9 := HDU.out.2.2; rw [e, Nat.mul_zero] at h9; omega
    ·exact e
   clear hkg hcyb howb hqb HR HO;go_wp2_with fail
   go_loopg [7, 9] (q - U0 / D) (fun gk wv ov wr => ∃ (d b : Nat) (ws : List Nat), gk = d - U0 / D ∧ wv = U d ∧ ov = U b ∧ Hid (WinRel32 w g off (m + 1) U0 D d b ws wr))
   case atStart => exact ⟨q, ow, dk, rfl, rfl, rfl, HW⟩
   case round =>
    obtain ⟨d, b, ws, hgd, rfl, rfl, HX⟩ := hrel;have hdb := HX.out.db;have hbb := HX.out.bb
    rcases (by omega : b = 0 ∨ b = 1) with hb | hb
    ·subst hb
     have hdn := HX.out.done HDP.out;have g7 : IntKind.u32.wrap (d : Int) = (d : Int) := wrap32 d hdb;have HFIN : Hid (d = U0 / D ∧ valB B32 ws = U0 % D) := hdn;clear hgd hdn hdb hbb;go_wp2_with fail
     go_ret
     exact ⟨ws, by rw [← HFIN.out.1]; rfl, HX.out.wrs, HX.out.row, HFIN.out.2⟩
    ·subst hb
     obtain ⟨wo, hwo⟩ := exq wr;subst hwo
     have hd1 : 1 ≤ d ∧ U0 / D < d := by
      have h1 := HX.out.sum; have hl9 := valB_lt B32_pos HX.out.row.dig;rw [HX.out.row.len] at hl9;rw [Nat.mul_one] at h1
      have hgt : U0 < D * d := by omega
      have hlt9 : U0 / D < d := Nat.div_lt_of_lt_mul hgt
      exact ⟨Nat.lt_of_le_of_lt (Nat.zero_le _) hlt9, hlt9⟩
     obtain ⟨d', ed'⟩ : ∃ d', d' = d - 1 := ⟨_, rfl⟩
     rw [B32_eq] at hdb
     have w1 : IntKind.u64.wrap ((d : Int) - 1) = (d' : Int) := wrap_mod _ _ (by omega)
     have HD1 : Hid (1 ≤ d ∧ U0 / D < d ∧ d' = d - 1) := ⟨hd1.1, hd1.2, ed'⟩;have HGD : Hid (gk = d - U0 / D) := hgd;clear hgd hd1 ed' hdb hbb;go_wp2_with fail
     go_loopg [8, 13] (m + 1 + 1) (fun g2 cv jv wz => ∃ (k cy : Nat) (dk2 : List Nat), k + g2 = m + 1 + 1 ∧ jv = .int .i64 k ∧ cv = U cy ∧ Hid (DgA wo g off (m + 1) ws vs k cy dk2 wz))
     case atStart => exact ⟨0, 0, ws, by omega, rfl, rfl, ⟨Wr.refl _ _ _ _, HX.out.row, rfl, by omega, by simp [valB]⟩⟩
     case round =>
      obtain ⟨k, cy, dk2, hkg2, rfl, rfl, HI⟩ := hrel;have hcy1 := HI.out.car
      cases gk with
      | zero =>
       obtain rfl : k = m + 1 + 1 := by omega
       obtain ⟨o2, eo2⟩ := exq (1 - cy)
       have m1 : min (1 : Int) (cy : Int) = (cy : Int) := by omega
       have w2 : IntKind.u64.wrap (1 - (cy : Int)) = (o2 : Int) := wrap_mod _ _ (by omega)
       have HNX : Hid (WinRel32 w g off (m + 1) U0 D d' o2 dk2 wr) := by
        have hI := HI.out;have hs := hI.sum
        rw [List.take_of_length_le (by rw [hI.row.len]; omega), List.take_of_length_le (by rw [HX.out.row.len]; omega), List.take_of_length_le (by omega), ← HDU.out.1] at hs
        have := (HX.out.more hI.car hI.wrs hI.row hs).2;rw [← HD1.out.2.2, ← eo2] at this
        exact this
       clear hcy1 hkg2 eo2;go_wp2_with fail
       go_roundg (d' - U0 / D)
       case measure => have := HD1.out; have := HGD.out; omega
       case rel => exact ⟨d', o2, dk2, rfl, rfl, rfl, HNX⟩
      | succ g3 =>
       have hkn : k < m + 1 + 1 := by omega
       obtain ⟨u, huu⟩ := exq (dk2.getD k 0)
       have hub : u < B32 := by rw [huu]; exact HI.out.row.dig.getD B32_pos k
       have hcu0 : wr.cell? ⟨g, off + k, none⟩ = some (V u) := by rw [huu]; exact HI.out.row.cell k hkn
       have hfu0 : wr.frozen? ⟨g, off + k, none⟩ = false := HI.out.row.frozen k hkn;obtain ⟨y, hyy⟩ := exq (vs.getD k 0)
       have hyb : y < B32 := by rw [hyy]; exact HV.out.dig.getD B32_pos k
       obtain ⟨c1, ec1⟩ := exq (cy + u);obtain ⟨c2, ec2⟩ := exq (c1 + y);obtain ⟨lo, elo⟩ := exq (c2 % B32)
       obtain ⟨cy', ecy'⟩ : ∃ cy', cy' = c2 / B32 := ⟨_, rfl⟩
       have hlob : lo < B32 := by rw [elo]; exact Nat.mod_lt _ B32_pos
       rw [B32_eq] at hub hyb
       have hc2b : c2 < 18446744073709551616 := by omega
       have g1 : bits .and .u64 (c2 : Int) 4294967295 = (lo : Int) := by rw [elo, B32_eq]; exact and32 c2 hc2b
       have g2 : (c2 : Int) / 4294967296 = (cy' : Int) := by rw [ecy', B32_eq]; exact div32 c2
       have hcy'1 : cy' ≤ 1 := by rw [ecy', B32_eq]; omega
       have g4 : IntKind.u64.wrap (u : Int) = (u : Int) := wrap_mod _ _ (by omega)
       have g5 : IntKind.u64.wrap ((cy : Int) + (u : Int)) = (c1 : Int) := wrap_mod _ _ (by omega)
       have g7 : IntKind.u32.wrap (lo : Int) = (lo : Int) := wrap32 lo hlob
       have g8 : (lo : Int) % 4294967296 = (lo : Int) := by rw [B32_eq] at hlob; omega
       have HSP : Hid (cy + u + y = lo + B32 * cy' ∧ u = dk2.getD k 0 ∧ y = vs.getD k 0 ∧ lo < B32 ∧ cy' ≤ 1) := ⟨by have := Nat.mod_add_div c2 B32; rw [← elo, ← ecy'] at this; omega, huu, hyy, hlob, hcy'1⟩
       have hkle : (k : Int) ≤ (m : Int) + 1 := by omega
       have hlew : decide ((k : Int) ≤ (m : Int) + 1) = true := decide_eq_true hkle
       have hle2 : decide (k ≤ m + 1) = true := decide_eq_true (by omega)
       have hkc : k < cu := by omega
       by_cases hkm : k < m + 1
       ·have hkmi : (k : Int) < (m : Int) + 1 := by omega
        have hkmd : decide ((k : Int) < (m : Int) + 1) = true := decide_eq_true hkmi;have hkmd2 : decide (k < m + 1) = true := decide_eq_true hkm
        have hcv0 : w.cell? ⟨gv, ov + k, none⟩ = some (V y) := by rw [hyy]; exact HV.out.cellAt k hkm
        have hcv1 : wo.cell? ⟨gv, ov + k, none⟩ = some (V y) := (HX.out.wrs.cell gv (ov + k) (.inl hne)).trans hcv0;have hcv : wr.cell? ⟨gv, ov + k, none⟩ = some (V y) := (HI.out.wrs.cell gv (ov + k) (.inl hne)).trans hcv1
        have hkcv : k < cv := by omega
        have p1 : IntKind.u64.wrap (y : Int) = (y : Int) := wrap_mod _ _ (by omega)
        have p3 : IntKind.u64.wrap ((c1 : Int) + (y : Int)) = (c2 : Int) := wrap_mod _ _ (by omega)
        clear hcv0 hcv1 ec1 ec2 elo ecy' huu hyy hc2b hub hyb hlob hcy'1 hcy1;go_wp2_with fail
        go_roundg g3
        case measure => omega
        case rel => exact ⟨k + 1, cy', dk2.set k lo, by omega, by go_num, rfl, HI.out.step hkn HSP.out.2.2.1 HSP.out.2.1 HSP.out.1 HSP.out.2.2.2.1 HSP.out.2.2.2.2⟩
       ·have hkmi : ¬ (k : Int) < (m : Int) + 1 := by omega
        have hkmd : decide ((k : Int) < (m : Int) + 1) = false := decide_eq_false hkmi;have hkmd2 : decide (k < m + 1) = false := decide_eq_false hkm
        have hy0 : y = 0 := by rw [hyy, List.getD_eq_getElem?_getD, List.getElem?_eq_none (by omega)]; rfl
        have hcc : c2 = c1 := by omega
        have g1 : bits .and .u64 (c1 : Int) 4294967295 = (lo : Int) := by rw [← hcc]; exact g1
        have g2 : (c1 : Int) / 4294967296 = (cy' : Int) := by rw [← hcc]; exact g2
        clear hy0 hcc ec1 ec2 elo ecy' huu hyy hc2b hub hyb hlob hcy'1 hcy1;go_wp2_with fail
        go_roundg g3
        case measure => omega
        case rel => exact ⟨k + 1, cy', dk2.set k lo, by omega, by go_num, rfl, HI.out.step hkn HSP.out.2.2.1 HSP.out.2.1 HSP.out.1 HSP.out.2.2.2.1 HSP.out.2.2.2.2⟩
  | succ gg =>
   have hkn : k < m + 1 + 1 := by omega
   obtain ⟨u, huu⟩ := exq (dk.getD k 0)
   have hub : u < B32 := by rw [huu]; exact HR.out.row.dig.getD B32_pos k
   have hcu0 : wr.cell? ⟨g, off + k, none⟩ = some (V u) := by rw [huu]; exact HR.out.row.cell k hkn
   have hfu0 : wr.frozen? ⟨g, off + k, none⟩ = false := HR.out.row.frozen k hkn;obtain ⟨y, hyy⟩ := exq (vs.getD k 0)
   have hyb : y < B32 := by rw [hyy]; exact HV.out.dig.getD B32_pos k
   obtain ⟨yq, eyq⟩ := exq (q * y)
   have hall : yq + cy < 18446744073709551616 := by
    rw [eyq]
    have h1 : q * y ≤ (B32 - 1) * (B32 - 1) := Nat.mul_le_mul (by omega) (by omega)
    have h2 : (B32 - 1) * (B32 - 1) + (B32 - 1) < 18446744073709551616 := by decide
    omega
   obtain ⟨c1, ec1⟩ := exq (cy + yq)
   have hc1b : c1 < 18446744073709551616 := by omega
   obtain ⟨lo, elo⟩ := exq (c1 % B32)
   obtain ⟨cy', ecy'⟩ : ∃ cy', cy' = c1 / B32 := ⟨_, rfl⟩
   have hlob : lo < B32 := by rw [elo]; exact Nat.mod_lt _ B32_pos
   have hcy'b : cy' < B32 := by rw [ecy']; exact Nat.div_lt_of_lt_mul (by rw [B32_two, B64_eq]; exact hc1b)
   have g1 : bits .and .u64 (c1 : Int) 4294967295 = (lo : Int) := by rw [elo, B32_eq]; exact and32 c1 hc1b
   have g2 : (c1 : Int) / 4294967296 = (cy' : Int) := by rw [ecy', B32_eq]; exact div32 c1
   obtain ⟨tk, etk⟩ := exq (lo + ow)
   have HSP : Hid (c1 = lo + B32 * cy' ∧ c1 = cy + y * q ∧ u = dk.getD k 0 ∧ y = vs.getD k 0 ∧ tk = lo + ow) := ⟨by have := Nat.mod_add_div c1 B32; rw [← elo, ← ecy'] at this; exact this.symm, by rw [ec1, eyq, Nat.mul_comm y q], huu, hyy, etk⟩
   rw [B32_eq] at hub hyb hlob hcy'b hcyb hqb
   have g3 : IntKind.u64.wrap ((lo : Int) + (ow : Int)) = (tk : Int) := wrap_mod _ _ (by omega)
   have g4 : IntKind.u64.wrap (u : Int) = (u : Int) := wrap_mod _ _ (by omega)
   have hkle : (k : Int) ≤ (m : Int) + 1 := by omega
   have hlew : decide ((k : Int) ≤ (m : Int) + 1) = true := decide_eq_true hkle
   have hle2 : decide (k ≤ m + 1) = true := decide_eq_true (by omega)
   have hkc : k < cu := by omega
   by_cases hb : u < tk
   ·obtain ⟨u2, eu2⟩ := exq (u + 4294967296)
    obtain ⟨d, ed⟩ := exq (u2 - tk)
    have g5 : IntKind.u64.wrap ((u : Int) + 4294967296) = (u2 : Int) := wrap_mod _ _ (by omega)
    have g6 : IntKind.u64.wrap ((u2 : Int) - (tk : Int)) = (d : Int) := wrap_mod _ _ (by omega)
    have hdb : d < B32 := by rw [B32_eq]; omega
    have g7 : IntKind.u32.wrap (d : Int) = (d : Int) := wrap32 d hdb
    have g8 : (d : Int) % 4294967296 = (d : Int) := by rw [B32_eq] at hdb; omega
    have hbi : (u : Int) < (tk : Int) := by omega
    have hbd : decide (u < tk) = true := decide_eq_true hb
    have HST : Hid (d + lo + ow = u + B32 * 1 ∧ d < B32 ∧ cy' < B32) := ⟨by rw [B32_eq]; omega, hdb, by rw [B32_eq]; omega⟩
    by_cases hkm : k < m + 1
    ·have hkmi : (k : Int) < (m : Int) + 1 := by omega
     have hkmd : decide ((k : Int) < (m : Int) + 1) = true := decide_eq_true hkmi;have hkmd2 : decide (k < m + 1) = true := decide_eq_true hkm
     have hcv0 : w.cell? ⟨gv, ov + k, none⟩ = some (V y) := by rw [hyy]; exact HV.out.cellAt k hkm
     have hcv : wr.cell? ⟨gv, ov + k, none⟩ = some (V y) := (HR.out.wrs.cell gv (ov + k) (.inl hne)).trans hcv0
     have hkcv : k < cv := by omega
     have p1 : IntKind.u64.wrap (y : Int) = (y : Int) := wrap_mod _ _ (by omega)
     have p2 : IntKind.u64.wrap ((q : Int) * (y : Int)) = (yq : Int) := by
      have e : ((q : Int) * (y : Int)) = ((q * y : Nat) : Int) := by simp
      rw [e, ← eyq]; exact wrap_mod _ _ (by omega)
     have p3 : IntKind.u64.wrap ((cy : Int) + (yq : Int)) = (c1 : Int) := wrap_mod _ _ (by omega)
     clear hcv0 eyq ec1 elo ecy' etk ed huu hyy hall hc1b hub hyb hlob hcy'b hcyb hqb howb hdb eu2;go_wp2_with fail
     go_roundg gg
     case measure => omega
     case rel => exact ⟨k + 1, cy', 1, dk.set k d, by omega, by go_num, rfl, rfl, HR.out.step hkn hl HSP.out.2.2.2.1 HSP.out.2.2.1 HSP.out.2.1 HSP.out.1 HST.out.2.2 (by omega) HST.out.1 HST.out.2.1⟩
    ·have hkmi : ¬ (k : Int) < (m : Int) + 1 := by omega
     have hkmd : decide ((k : Int) < (m : Int) + 1) = false := decide_eq_false hkmi;have hkmd2 : decide (k < m + 1) = false := decide_eq_false hkm
     have hy0 : y = 0 := by rw [hyy, List.getD_eq_getElem?_getD, List.getElem?_eq_none (by omega)]; rfl
     have hcc : c1 = cy := by rw [ec1, eyq, hy0, Nat.mul_zero, Nat.add_zero]
     have g1 : bits .and .u64 (cy : Int) 4294967295 = (lo : Int) := by rw [← hcc]; exact g1
     have g2 : (cy : Int) / 4294967296 = (cy' : Int) := by rw [← hcc]; exact g2
     clear hy0 hcc eyq ec1 elo ecy' etk ed huu hyy hall hc1b hub hyb hlob hcy'b hcyb hqb howb hdb eu2;go_wp2_with fail
     go_roundg gg
     case measure => omega
     case rel => exact ⟨k + 1, cy', 1, dk.set k d, by omega, by go_num, rfl, rfl, HR.out.step hkn hl HSP.out.2.2.2.1 HSP.out.2.2.1 HSP.out.2.1 HSP.out.1 HST.out.2.2 (by omega) HST.out.1 HST.out.2.1⟩
   ·obtain ⟨d, ed⟩ := exq (u - tk)
    have g6 : IntKind.u64.wrap ((u : Int) - (tk : Int)) = (d : Int) := wrap_mod _ _ (by omega)
    have hdb : d < B32 := by rw [B32_eq]; omega
    have g7 : IntKind.u32.wrap (d : Int) = (d : Int) := wrap32 d hdb
    have g8 : (d : Int) % 4294967296 = (d : Int) := by rw [B32_eq] at hdb; omega
    have hbi : ¬ (u : Int) < (tk : Int) := by omega
    have hbd : decide (u < tk) = false := decide_eq_false hb
    have HST : Hid (d + lo + ow = u + B32 * 0 ∧ d < B32 ∧ cy' < B32) := ⟨by rw [B32_eq]; omega, hdb, by rw [B32_eq]; omega⟩
    by_cases hkm : k < m + 1
    ·have hkmi : (k : Int) < (m : Int) + 1 := by omega
     have hkmd : decide ((k : Int) < (m : Int) + 1) = true := decide_eq_true hkmi;have hkmd2 : decide (k < m + 1) = true := decide_eq_true hkm
     have hcv0 : w.cell? ⟨gv, ov + k, none⟩ = some (V y) := by rw [hyy]; exact HV.out.cellAt k hkm
     have hcv : wr.cell? ⟨gv, ov + k, none⟩ = some (V y) := (HR.out.wrs.cell gv (ov + k) (.inl hne)).trans hcv0
     have hkcv : k < cv := by omega
     have p1 : IntKind.u64.wrap (y : Int) = (y : Int) := wrap_mod _ _ (by omega)
     have p2 : IntKind.u64.wrap ((q : Int) * (y : Int)) = (yq : Int) := by
      have e : ((q : Int) * (y : Int)) = ((q * y : Nat) : Int) := by simp
      rw [e, ← eyq]; exact wrap_mod _ _ (by omega)
     have p3 : IntKind.u64.wrap ((cy : Int) + (yq : Int)) = (c1 : Int) := wrap_mod _ _ (by omega)
     clear hcv0 eyq ec1 elo ecy' etk ed huu hyy hall hc1b hub hyb hlob hcy'b hcyb hqb howb hdb;go_wp2_with fail
     go_roundg gg
     case measure => omega
     case rel => exact ⟨k + 1, cy', 0, dk.set k d, by omega, by go_num, rfl, rfl, HR.out.step hkn hl HSP.out.2.2.2.1 HSP.out.2.2.1 HSP.out.2.1 HSP.out.1 HST.out.2.2 (by omega) HST.out.1 HST.out.2.1⟩
    ·have hkmi : ¬ (k : Int) < (m : Int) + 1 := by omega
     have hkmd : decide ((k : Int) < (m : Int) + 1) = false := decide_eq_false hkmi;have hkmd2 : decide (k < m + 1) = false := decide_eq_false hkm
     have hy0 : y = 0 := by rw [hyy, List.getD_eq_getElem?_getD, List.getElem?_eq_none (by omega)]; rfl
     have hcc : c1 = cy := by rw [ec1, eyq, hy0, Nat.mul_zero, Nat.add_zero]
     have g1 : bits .and .u64 (cy : Int) 4294967295 = (lo : Int) := by rw [← hcc]; exact g1
     have g2 : (cy : Int) / 4294967296 = (cy' : Int) := by rw [← hcc]; exact g2
     clear hy0 hcc eyq ec1 elo ecy' etk ed huu hyy hall hc1b hub hyb hlob hcy'b hcyb hqb howb hdb;go_wp2_with fail
     go_roundg gg
     case measure => omega
     case rel => exact ⟨k + 1, cy', 0, dk.set k d, by omega, by go_num, rfl, rfl, HR.out.step hkn hl HSP.out.2.2.2.1 HSP.out.2.2.1 HSP.out.2.1 HSP.out.1 HST.out.2.2 (by omega) HST.out.1 HST.out.2.1⟩
theorem take_mod32q {xs : List Nat} {v k : Nat} (hx : Nf B32 xs v) (hk : k ≤ xs.length) : valB B32 (xs.take k) = v % B32 ^ k := by
  have h1 := valB_split B32 xs k hk;have h2 := valB_lt B32_pos (hx.dig.take k);rw [List.length_take, Nat.min_eq_left hk] at h2;rw [← hx.val, h1, Nat.add_mul_mod_self_left, Nat.mod_eq_of_lt h2]
theorem Blk32.own {w : World} {g base : Nat} {xs : List Nat} (h : Blk32 w g xs) (hb : base ≤ g) (hm : xs.length ≤ maxLen) : w.ownsRow base 114 1 (.slice (some ⟨g, 0, none⟩) xs.length xs.length) xs.length (cellsV xs) :=
 ⟨by simp [cellsV], .inr ⟨g, xs.length, (cellsV xs).toArray, rfl, hb, h, Nat.le_refl _, hm, by simp [cellsV], by rw [Nat.mul_one]; exact List.take_of_length_le (by simp [cellsV])⟩⟩
theorem own_at32q {wr : World} {base i N : Nat} {p : Option Addr} {ss : List Nat} (ho : wr.ownsRow base 114 1 (.slice p i N) i (cellsV ss)) (hl : ss.length = i) (hd : Dig B32 ss) : At32 wr p i N ss := by
  rcases ho.2 with ⟨h', h0⟩ | ⟨g', cap', cur, h', hbase, hgc, hcap', hmx, hsz, htake⟩
  · simp only [Value.slice.injEq] at h'
    obtain ⟨rfl, rfl, rfl⟩ := h';obtain rfl : ss = [] := List.eq_nil_of_length_eq_zero hl
    exact At32.empty _ _ 0 (by decide)
  · simp only [Value.slice.injEq, true_and] at h'
    obtain ⟨rfl, rfl⟩ := h'
    refine ⟨hl, hcap', hmx, hd, .inr ⟨g', 0, rfl, fun jj hj => ?_⟩⟩
    rw [Nat.zero_add, cell_of_row wr g' jj _ _ _ hgc]
    have e1 := cellsV_get ss jj (by rw [hl]; exact hj)
    rw [← htake, Nat.mul_one, List.getElem?_take, if_pos hj] at e1;rw [← Array.getElem?_toList]; exact e1
theorem own_form {wr : World} {base i : Nat} {v : Value} {e : TypeId} {xs : List Value} (ho : wr.ownsRow base e 1 v i xs) : ∃ p N, v = .slice p i N := by
  rcases ho.2 with ⟨h', h0⟩ | ⟨g', cap', cur, h', _⟩
  · subst h0; exact ⟨none, 0, h'⟩
  · exact ⟨_, _, h'⟩

theorem own_base {wr : World} {base i : Nat} {v : Value} {e : TypeId} {xs : List Value} (ho : wr.ownsRow base e 1 v i xs) : ∀ q, v.ownBlock = some q → base ≤ q := by
  intro q hq
  rcases ho.2 with ⟨h', h0⟩ | ⟨g', cap', cur, h', hb, _⟩
  · rw [h'] at hq; simp [Value.ownBlock] at hq
  · rw [h'] at hq; simp [Value.ownBlock] at hq; omega
theorem step_append_ownq {P : Program} {ops : Array Oper} {o : Oper} {a : Act} {w : World} {K : Act → World → Prop} {Q : Exit → Act → World → Prop} {E : Prop}
  (hg : o.guard = none) (s x : Operand) (t : TypeId) (hop : o.op = Op.call { callee := Callee.builtin Builtin.append, args := #[s, x], argTypes := #[t, t] })
  (base : Nat) (e : TypeId) (i : TypeInfo) (z : Value) (size bytes : Nat) (ht : P.underlying t = some (.slice e)) (hi : P.info? e = some i) (hz : i.zero = some z)
  (hsize : i.size = size) (hby : i.bytes = bytes) (hzs : z.cells.size = size) (hsz : 0 < size)
  (v : Value) (n : Nat) (xs : List Value) (hs : a.eval s = v) (hown : w.ownsRow base e size v n xs)
  (ad : Addr) (m c : Nat) (news : List Value) (hx : a.eval x = .slice (some ad) m c) (hl : news.length = m * size) (hnews : ∀ j u, news[j]? = some u → w.cell? (ad.add j) = some u) (h1 : ∀ u ∈ news, u.oneCell' = true)
  (h63 : n + m ≤ maxLen) (hbytes : (n + m) * bytes ≤ 140737488355328) (hbase : base ≤ w.heap.size)
  (hK : ∀ v' w', w'.ownsRow base e size v' (n + m) (xs ++ news) → w.grownBy w' v.ownBlock → K (a.put o.dst v') w') :
  if Region.wanted o (yielded ops a.tmps) = true then Oper.wp P o a w K Q else E := by
 have hw : Region.wanted o (yielded ops a.tmps) = true := by simp [Region.wanted, hg]
 rw [if_pos hw];obtain ⟨v', w', hr, h2, h3, h4⟩ := run_append_own (P := P) w base t o.type e i z size bytes ht hi hz hsize hby hzs hsz v n xs hown ad m c news hl hnews h1 h63 hbytes hbase;unfold Oper.wp
 simp [execOp, hop, resolve, invoke, builtin, hs, hx, hr, Result.andThen]
 exact hK _ _ h2 h3

theorem rlow_any {p : Option Addr} {n c : Nat} {xs : List Nat} {v : Nat} {w : World} (h : At32 w p n c xs) (hx : Nf B32 xs v) (hn : n ≤ 16384) (N : Nat) (hN : 1 ≤ N) (hN2 : N ≤ 9223372036854775807) :
    Calls Tryz.prog 157 #[.slice p n c, .int .i64 N] w fun e w' => ∃ p' m' zs, e = .returned (.slice p' m' m') ∧ At32 w' p' m' m' zs ∧ Nf B32 zs (v % 2 ^ N) ∧ m' ≤ n ∧ Below w.heap.size w w' := by
  obtain ⟨i0, hi, hz0, hz1, hz2⟩ := info_parts Tryz.infoU32;have HX := hdQ hx;have hl := h.len;have cap := h.cap;have big := h.big;unfold maxLen at big;obtain ⟨D, hD⟩ := exq (N / 32);obtain ⟨R, hR⟩ := exq (N % 32)
  have d1 : (N : Int).tdiv 32 = (D : Int) := by rw [Int.tdiv_eq_ediv_of_nonneg (by omega)]; omega
  have d2 : (N : Int).tmod 32 = (R : Int) := by rw [Int.tmod_eq_emod_of_nonneg (by omega)]; omega
  have hNp : ¬ (N : Int) ≤ 0 := by omega
  have hN0 : ¬ N = 0 := by omega
  have hR32 : R < 32 := by omega
  have hDb : D ≤ 288230376151711743 := by omega
  have hwD : IntKind.i64.wrap (D : Int) = (D : Int) := by simp [IntKind.wrap, IntKind.signed, IntKind.bits]; omega
  have HD : Hid (2 ^ N = B32 ^ D * 2 ^ R) := by show _ = _; rw [show B32 = 2 ^ 32 from rfl, ← Nat.pow_mul, ← Nat.pow_add]; congr 1; omega
  have HLX : Hid (xs.length = n) := hl;clear hx hD hR hl
  by_cases hc : n ≤ D
  · have hci : (n : Int) ≤ (D : Int) := by omega
    have hcb : decide (n ≤ D) = true := decide_eq_true hc
    have HZ : Hid (v % 2 ^ N = v) := by
      show _ = _
      rw [HD.out]
      exact Nat.mod_eq_of_lt (Nat.lt_of_lt_of_le (nf32_lt HX.out (K := D) (by rw [HLX.out]; exact hc)) (Nat.le_mul_of_pos_right _ (Nat.pow_pos (by decide))))
    have HA := hdQ h;clear h
    go_enter Tryz.func157, Tryz.ntmps157
    go_wp2_with fail
    refine (rnorm_any HA.out (by omega)).mono ?_
    rw [trimL_of_Top HX.out.top];rintro e w1 ⟨g, rfl, hg, hb, hbl⟩;have HB := hdQ hb;rw [HLX.out];clear hb;go_wp2_with fail
    go_ret
    exact ⟨_, n, xs, rfl, HB.out.at_ HX.out.dig HLX.out (by unfold maxLen; omega), by rw [HZ.out]; exact HX.out, by omega, hbl⟩
  · have hci : ¬ (n : Int) ≤ (D : Int) := by omega
    have hcb : decide (n ≤ D) = false := decide_eq_false hc
    have hDn : D < n := by omega
    have hDc : D < c := by omega
    have hDc2 : D ≤ c := by omega
    have hDn2 : D ≤ n := by omega
    obtain ⟨g, off, rfl, hcs⟩ := h.cells.resolve_left (by omega)
    have A1 : Hid (At32 w (some ⟨g, off, none⟩) D c (xs.take D)) := h.take D hDn2 c hDc2 (by unfold maxLen; omega)
    obtain ⟨y, hy⟩ := exq (xs.getD D 0)
    have hcy : w.cell? ⟨g, off + D, none⟩ = some (V y) := by rw [hy]; exact hcs D hDn
    have HV : Hid (valB B32 (trimL (xs.take D)) = v % B32 ^ D) := by rw [valB_trimL]; exact take_mod32q HX.out (by rw [HLX.out]; omega)
    obtain ⟨d, hd⟩ := exq (2 ^ R)
    have hd1 : 1 ≤ d := by rw [hd]; exact Nat.pow_pos (by decide)
    have hdB : d < B32 := by rw [hd, show B32 = 2 ^ 32 from rfl]; exact Nat.pow_lt_pow_right (by decide) hR32
    have hdw : IntKind.u32.wrap (d : Int) = (d : Int) := wrap32 d hdB
    have hdI : (2 : Int) ^ R = (d : Int) := by rw [hd]; norm_cast
    obtain ⟨q, hq⟩ := exq (y % d)
    have hqB : q < B32 := by rw [hq]; exact Nat.lt_trans (Nat.mod_lt _ hd1) hdB
    have HQ : Hid (v % 2 ^ N = v % B32 ^ D + B32 ^ D * q) := by
      show _ = _
      rw [HD.out, ← hd, Nat.mod_mul, hq, hy, ← drop_div32q HX.out (by rw [HLX.out]; omega), valB_drop B32 xs D (by rw [HLX.out]; exact hDn)]
      congr 2
      have hdv : d ∣ B32 := by rw [hd, show B32 = 2 ^ 32 from rfl]; exact Nat.pow_dvd_pow 2 (by omega)
      obtain ⟨e, he⟩ := hdv;rw [he, Nat.mul_assoc, Nat.add_mul_mod_self_left]
    have hdI0 : ¬ (d : Int) = 0 := by omega
    have hdN0 : ¬ d = 0 := by omega
    have hdbe : ((d : Int) == 0) = false := by simp; omega
    have hym : (y : Int).tmod (d : Int) = (q : Int) := by rw [hq, Int.tmod_eq_emod_of_nonneg (Int.natCast_nonneg y)]; norm_cast
    have hym2 : (y : Int) % (d : Int) = (q : Int) := by rw [hq]; norm_cast
    have HQB : Hid (q < B32) := hqB;have hqw : IntKind.u32.wrap (q : Int) = (q : Int) := wrap32 q hqB;clear hd hd1 hdB hq hqB;have hgl : g < w.heap.size := World.block_lt_of_cell? w _ hcy;clear h hcs hy
    go_enter Tryz.func157, Tryz.ntmps157
    go_wp2_with fail
    refine (rnorm_any A1.out (by omega)).mono ?_
    rintro e w1 ⟨g1, rfl, hg1, hb1, hbl⟩;have hd1 : Dig B32 (trimL (xs.take D)) := Dig.trimL A1.out.dig;have hle1 := trimL_length_le (xs.take D);rw [A1.out.len] at hle1;generalize trimL (xs.take D) = zs at *;have hcy1 : w1.cell? ⟨g, off + D, none⟩ = some (V y) := (hbl.cell (p := ⟨g, off + D, none⟩) hgl).trans hcy
    have HO : Hid (w1.ownsRow w.heap.size 114 1 (.slice (some ⟨g1, 0, none⟩) zs.length zs.length) zs.length (cellsV zs)) := hb1.own hg1 (by unfold maxLen; omega)
    have HDZ := hdQ hd1;obtain ⟨L, hL⟩ := exq zs.length;rw [← hL] at HO hle1 ⊢;have HL : Hid (zs.length = L) := hL.symm;clear hb1 hd1 hL A1;go_wp2_with fail
    go_loopg [5] (D - L) (fun gk dv wr => ∃ (i Nc : Nat) (pp : Option Addr) (ss : List Nat), i + gk = D ∧ dv = .slice pp i Nc ∧ Hid (wr.ownsRow w.heap.size 114 1 (.slice pp i Nc) i (cellsV ss) ∧ ss.length = i ∧ Dig B32 ss ∧ valB B32 ss = v % B32 ^ D ∧ Below w.heap.size w wr))
    case atStart => exact ⟨L, L, _, zs, by omega, rfl, HO.out, HL.out, HDZ.out, HV.out, hbl⟩
    case round =>
      obtain ⟨i, Nc, pp, ss, hig, rfl, HR⟩ := hrel;have hbr := HR.out.2.2.2.2;have hcr : wr.cell? ⟨g, off + D, none⟩ = some (V y) := (hbr.cell (p := ⟨g, off + D, none⟩) hgl).trans hcy
      cases gk with
      | zero =>
        obtain rfl : i = D := by omega
        have hni : ¬ (i : Int) < (i : Int) := by omega
        have HOA : Hid ((wr.drew.alloc (.cells #[V q] 114)).ownsRow w.heap.size 114 1 (.slice pp i Nc) i (cellsV ss)) := by
          have h0 : wr.drew.ownsRow w.heap.size 114 1 (.slice pp i Nc) i (cellsV ss) := HR.out.1
          exact h0.alloc _
        have hsz1 : w.heap.size ≤ (wr.drew.alloc (.cells #[V q] 114)).heap.size := by have := hbr.size; simp; omega
        go_wp2_with fail
        go_region_law (first
          | (refine step_append_ownq rfl (.tmp 29) (.tmp 39) 54 rfl w.heap.size 114 i0 (.int .u32 0) 1 4 Tryz.underlying54 hi hz0 hz1 hz2 rfl (by decide) (.slice pp i Nc) i (cellsV ss) (by simp [Act.eval]) HOA.out ⟨wr.heap.size, 0, none⟩ 1 1 [V q] (by simp [Act.eval]) rfl (one_cell wr.drew q) (by intro u hu; simp at hu; subst hu; rfl) (by unfold maxLen; omega) (by omega) hsz1 ?_; intro v3 w3 hw3 hgr3; obtain ⟨p3, N3, rfl⟩ := own_form hw3; have hl3 : (ss ++ [q]).length = i + 1 := (by simp [HR.out.2.1]); have hd3 : Dig B32 (ss ++ [q]) := HR.out.2.2.1.append (Dig.cons HQB.out (Dig.nil _)); have A3 : Hid (At32 w3 p3 (i + 1) N3 (ss ++ [q])) := own_at32q (by rw [show cellsV (ss ++ [q]) = cellsV ss ++ [V q] from by unfold cellsV; rw [List.map_append]; rfl]; exact hw3) hl3 hd3; have HB3 : Hid (Below w.heap.size w w3) := ((bDrew hbr).alloc hbr.size _).grown hgr3 (by have := hbr.size; simp; omega) (own_base HOA.out); have NF3 : Hid (Nf B32 (trimL (ss ++ [q])) (v % 2 ^ N)) := (by have h1 := Nf.trim hd3; rw [valB_snoc, HR.out.2.1, HR.out.2.2.2.1, ← HQ.out] at h1; exact h1); have hle3 : (trimL (ss ++ [q])).length ≤ i + 1 := (by have h1 := trimL_length_le (ss ++ [q]); omega); clear hw3 hgr3 hl3 hd3)
          | (go_simp; refine (rnorm_any A3.out (by omega)).mono ?_; rintro e w4 ⟨g4, rfl, hg4, hb4, hbl4⟩; have A4 : Hid (At32 w4 (some ⟨g4, 0, none⟩) (trimL (ss ++ [q])).length (trimL (ss ++ [q])).length (trimL (ss ++ [q]))) := hb4.at_ NF3.out.dig rfl (by unfold maxLen; omega); have hbw4 := Below.on HB3.out hbl4; generalize trimL (ss ++ [q]) = z4 at *; clear hb4 hbl4 hg4))
        all_goals
          (go_wp2_with fail
           go_ret
           exact ⟨_, _, z4, rfl, A4.out, NF3.out, by omega, hbw4⟩)
      | succ gg =>
        have hlt : (i : Int) < (D : Int) := by omega
        have hlt2 : i < D := by omega
        have HOA : Hid ((wr.alloc (.cells #[V 0] 114)).ownsRow w.heap.size 114 1 (.slice pp i Nc) i (cellsV ss)) := HR.out.1.alloc _
        have hsz1 : w.heap.size ≤ (wr.alloc (.cells #[V 0] 114)).heap.size := by have := hbr.size; simp; omega
        go_wp2_with (at_builtin; refine wpList_append_own _ rfl (.tmp 26) (.tmp 27) 54 rfl w.heap.size 114 i0 (.int .u32 0) 1 4 Tryz.underlying54 hi hz0 hz1 hz2 rfl (by decide) (.slice pp i Nc) i (cellsV ss) rfl HOA.out ⟨wr.heap.size, 0, none⟩ 1 1 [V 0] rfl rfl (one_cell wr 0) (by intro u hu; simp at hu; subst hu; rfl) (by unfold maxLen; omega) (by omega) hsz1 ?_; intro v3 w3 hw3 hgr3 hnil3)
        obtain ⟨p3, N3, rfl⟩ := own_form hw3
        have HR3 : Hid (w3.ownsRow w.heap.size 114 1 (.slice p3 (i + 1) N3) (i + 1) (cellsV (ss ++ [0])) ∧ (ss ++ [0]).length = i + 1 ∧ Dig B32 (ss ++ [0]) ∧ valB B32 (ss ++ [0]) = v % B32 ^ D ∧ Below w.heap.size w w3) := by
          have hR := HR.out
          refine ⟨?_, by simp [hR.2.1], hR.2.2.1.append (Dig.cons B32_pos (Dig.nil _)), by rw [valB_snoc, Nat.mul_zero, Nat.add_zero]; exact hR.2.2.2.1, ?_⟩
          · have e0 : cellsV (ss ++ [0]) = cellsV ss ++ [V 0] := by unfold cellsV; rw [List.map_append]; rfl
            rw [e0]; exact hw3
          · exact (hR.2.2.2.2.alloc hR.2.2.2.2.size _).grown hgr3 (by have := hR.2.2.2.2.size; simp; omega) (own_base HOA.out)
        clear hw3 hgr3 hnil3
        go_roundg gg
        case measure => omega
        case rel => exact ⟨i + 1, N3, p3, ss ++ [0], by omega, rfl, HR3⟩
end Go.Proofs.YtmlclpjimkjjeaaGreatDoor
