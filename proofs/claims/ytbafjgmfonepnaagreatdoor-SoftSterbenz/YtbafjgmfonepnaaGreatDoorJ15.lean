import Derived.Test.YtbafjgmfonepnaaGreatDoorJ12
import Derived.Test.YtbafjgmfonepnaaGreatDoorJ8
import Derived.Test.YtbafjgmfonepnaaGreatDoorJ10
import Derived.Deep.DeepCutAuto
import Derived.Test.YtbafjgmfonepnaaGreatDoorBs4
import Derived.Test.YtbafjgmfonepnaaGreatDoorBs5
import Derived.Test.YtbafjgmfonepnaaGreatDoorJ9
namespace Go.Proofs.YtbafjgmfonepnaaGreatDoor
open Go.RowKit Go.Shelf
set_option maxRecDepth 20000
set_option maxHeartbeats 0
structure ZN (w : World) (s : Bool) (p : Option Addr) (m c : Nat) (z : Int) : Prop where
  ex : ∃ xs, Num w p m c xs z.natAbs
  sg : s = decide (z < 0)
theorem ZN.below {w w' : World} {s : Bool} {p : Option Addr} {m c : Nat} {z : Int} (h : ZN w s p m c z) (hb : Below w.heap.size w w') : ZN w' s p m c z := by
  obtain ⟨xs, hx⟩ := h.ex
  exact ⟨⟨xs, hx.below hb⟩, h.sg⟩
theorem ZN.iv {w : World} {s : Bool} {p : Option Addr} {m c : Nat} {z : Int} (h : ZN w s p m c z) : iv s z.natAbs = z := by rw [h.sg]; exact iv_abs z
theorem ZN.pos {w : World} {s : Bool} {p : Option Addr} {m c : Nat} {z : Int} (h : ZN w s p m c z) : s = true → 0 < z.natAbs := by rw [h.sg]; exact sgn_pos z
theorem ZN.lim {w : World} {s : Bool} {p : Option Addr} {m c : Nat} {z : Int} (h : ZN w s p m c z) : z.natAbs < LIM := by
  obtain ⟨xs, hx⟩ := h.ex
  exact hx.lim
theorem ZN.le {w : World} {s : Bool} {p : Option Addr} {m c : Nat} {z : Int} (h : ZN w s p m c z) : m ≤ 8192 := by
  obtain ⟨xs, hx⟩ := h.ex
  exact hx.le
theorem ZN.cast {w : World} {s : Bool} {p : Option Addr} {m c : Nat} {z z' : Int} (h : ZN w s p m c z) (e : z = z') : ZN w s p m c z' := e ▸ h
theorem ZN.of {w : World} {p : Option Addr} {m c : Nat} {xs : List Nat} {a : Nat} {t : Bool} (h : Num w p m c xs a) (ht : t = true → 0 < a) : ZN w t p m c (Go.Proofs.YtbafjgmfonepnaaGreatDoor.iv t a) :=
  ⟨⟨xs, by rw [iv_natAbs]; exact h⟩, by
    cases t
    · rw [iv_f]; exact (decide_eq_false (Int.not_lt.2 (Int.natCast_nonneg _))).symm
    · rw [iv_t]; have := ht rfl; exact (decide_eq_true (by omega)).symm⟩
def Got (w' : World) (e : Ending) (z : Int) : Prop := ∃ s p m, e = .returned (.tuple #[ZV s p m m, .int .i64 0]) ∧ ZN w' s p m m z
theorem AnsZ.zn {B : Nat} {w' : World} {v : Value} {z : Int} (h : AnsZ B w' v z) : ∃ s p m, v = ZV s p m m ∧ ZN w' s p m m z := by
  obtain ⟨p, m, zs, rfl, ho, hn, hm⟩ := h
  exact ⟨_, p, m, rfl, ⟨zs, Num.of ho hn hm⟩, rfl⟩
theorem AnsI.zn {B : Nat} {w' : World} {e : Ending} {z : Int} (h : AnsI B w' e z) : (z.natAbs < LIM ∧ Got w' e z) ∨ (LIM ≤ z.natAbs ∧ e = .returned (.tuple #[ZV false none 0 0, .int .i64 5])) := by
  rcases h with ⟨hl, p, m, zs, rfl, ho, hn, hm⟩ | ⟨hl, rfl⟩
  · exact .inl ⟨hl, _, p, m, rfl, ⟨zs, Num.of ho hn hm⟩, rfl⟩
  · exact .inr ⟨hl, rfl⟩
theorem AnsI.got {B : Nat} {w' : World} {e : Ending} {z : Int} (h : AnsI B w' e z) (hz : z.natAbs < LIM) : Got w' e z := by
  rcases h.zn with ⟨_, k⟩ | ⟨k, _⟩
  · exact k
  · omega
variable {w : World} {s t : Bool} {p q : Option Addr} {m c n d : Nat} {x y : Int}
theorem zadd (h : ZN w s p m c x) (k : ZN w t q n d y) : Calls Tryz.prog 99 #[ZV s p m c, ZV t q n d] w fun e w' => AnsI w.heap.size w' e (x + y) ∧ Below w.heap.size w w' := by
  obtain ⟨xs, hx⟩ := h.ex
  obtain ⟨ys, hy⟩ := k.ex
  have := nadd_any s t hx hy h.pos k.pos
  rwa [h.iv, k.iv] at this
theorem zmul (h : ZN w s p m c x) (k : ZN w t q n d y) : Calls Tryz.prog 79 #[ZV s p m c, ZV t q n d] w fun e w' => AnsI w.heap.size w' e (x * y) ∧ Below w.heap.size w w' := by
  obtain ⟨xs, hx⟩ := h.ex
  obtain ⟨ys, hy⟩ := k.ex
  have := nmul_any s t hx hy h.pos k.pos
  rwa [h.iv, k.iv] at this
theorem zshl (h : ZN w s p m c x) (k : Nat) (hk : k ≤ 9223372036854775807) : Calls Tryz.prog 124 #[ZV s p m c, .int .i64 k] w fun e w' => AnsI w.heap.size w' e (x * 2 ^ k) ∧ Below w.heap.size w w' := by
  obtain ⟨xs, hx⟩ := h.ex
  have := nshl_any s hx h.pos k hk
  rwa [show Go.Proofs.YtbafjgmfonepnaaGreatDoor.iv s (2 ^ k * x.natAbs) = x * 2 ^ k from by
    have e := h.iv
    rw [show Go.Proofs.YtbafjgmfonepnaaGreatDoor.iv s (2 ^ k * x.natAbs) = Go.Proofs.YtbafjgmfonepnaaGreatDoor.iv s x.natAbs * 2 ^ k from by cases s <;> simp [Go.Proofs.YtbafjgmfonepnaaGreatDoor.iv, Int.mul_comm, Int.neg_mul], e]] at this
theorem zsign (h : ZN w s p m c x) : Calls Tryz.prog 77 #[ZV s p m c] w fun e w' => e = .returned (.int .i64 (sgnI x)) ∧ Below w.heap.size w w' := by
  obtain ⟨xs, hx⟩ := h.ex
  have := sign_any s hx
  rwa [h.iv] at this
theorem zform (h : ZN w s p m c x) : Calls Tryz.prog 100 #[ZV s p m c] w fun e w' => e = .returned (.bool true) ∧ Below w.heap.size w w' := by
  obtain ⟨xs, hx⟩ := h.ex
  exact numform_t s hx h.pos
structure B3q (W : World) (g : Nat) (v0 v1 v2 : Value) : Prop where
  c0 : W.cell? ⟨g, 0, none⟩ = some v0
  c1 : W.cell? ⟨g, 1, none⟩ = some v1
  c2 : W.cell? ⟨g, 2, none⟩ = some v2
  f0 : W.frozen? ⟨g, 0, none⟩ = false
  f1 : W.frozen? ⟨g, 1, none⟩ = false
  f2 : W.frozen? ⟨g, 2, none⟩ = false
theorem B3q.lt {w : World} {g : Nat} {a b c : Value} (h : B3q w g a b c) : g < w.heap.size := World.block_lt_of_cell? w _ h.c0
theorem B3q.below {W W' : World} {g : Nat} {v0 v1 v2 : Value} (h : B3q W g v0 v1 v2) (hb : Below W.heap.size W W') : B3q W' g v0 v1 v2 := by
  have hl : g < W.heap.size := World.block_lt_of_cell? W _ h.c0
  exact ⟨(hb.cell (p := ⟨g, 0, none⟩) hl).trans h.c0, (hb.cell (p := ⟨g, 1, none⟩) hl).trans h.c1, (hb.cell (p := ⟨g, 2, none⟩) hl).trans h.c2, (hb.frozen (p := ⟨g, 0, none⟩) hl).trans h.f0, (hb.frozen (p := ⟨g, 1, none⟩) hl).trans h.f1, (hb.frozen (p := ⟨g, 2, none⟩) hl).trans h.f2⟩
theorem B3q.new (w : World) (ty : TypeId) (v0 v1 v2 : Value) : B3q (w.alloc (.cells #[v0, v1, v2] ty)) w.heap.size v0 v1 v2 := ⟨by go_simp, by go_simp, by go_simp, by go_simp, by go_simp, by go_simp⟩
abbrev DV (s : Bool) (p : Option Addr) (m c : Nat) (e : Int) : Value := .agg #[.bool s, .slice p m c, .int .i64 e]
def DFm (z e : Int) : Prop := (z = 0 ∧ e = 0) ∨ (z % 2 = 1 ∧ -1048576 ≤ e ∧ e ≤ 1048576)
structure DN (w : World) (s : Bool) (p : Option Addr) (m c : Nat) (e z : Int) : Prop where
  zn : ZN w s p m c z
  fm : DFm z e
theorem DN.below {w w' : World} {s : Bool} {p : Option Addr} {m c : Nat} {e z : Int} (h : DN w s p m c e z) (hb : Below w.heap.size w w') : DN w' s p m c e z := ⟨h.zn.below hb, h.fm⟩
def dv (z e : Int) : Int := z * ((2 ^ (e + 4194304).toNat : Nat) : Int)
theorem pow_pos_int (k : Nat) : ((2 ^ k : Nat) : Int) ≠ 0 := by
  have : 0 < 2 ^ k := Nat.pow_pos (by omega)
  intro h
  have := Int.ofNat.inj h
  omega
theorem dpow_split {a b : Nat} (h : a ≤ b) : ((2 ^ b : Nat) : Int) = ((2 ^ (b - a) : Nat) : Int) * ((2 ^ a : Nat) : Int) := by
  have : 2 ^ b = 2 ^ (b - a) * 2 ^ a := by rw [← Nat.pow_add, Nat.sub_add_cancel h]
  rw [this, Int.natCast_mul]
theorem dv_zero (e : Int) : dv 0 e = 0 := by unfold dv; rw [Int.zero_mul]
theorem dv_eq_zero {z e : Int} (h : dv z e = 0) : z = 0 := by
  unfold dv at h
  exact (Int.mul_eq_zero.1 h).resolve_right (pow_pos_int _)
theorem odd_ne {z z' : Int} {a b : Nat} (hz : z % 2 = 1) (h : z * ((2 ^ a : Nat) : Int) = z' * ((2 ^ b : Nat) : Int)) : b ≤ a := by
  refine Nat.le_of_not_lt fun hlt => ?_
  rw [dpow_split (Nat.le_of_lt hlt), ← Int.mul_assoc] at h
  have h1 := Int.eq_of_mul_eq_mul_right (pow_pos_int a) h
  obtain ⟨k, hk⟩ : ∃ k, b - a = k + 1 := ⟨b - a - 1, by omega⟩
  rw [hk, Nat.pow_succ, Int.natCast_mul] at h1
  have h2 : z = (z' * ((2 ^ k : Nat) : Int)) * 2 := by rw [h1, Int.mul_assoc]; rfl
  generalize z' * ((2 ^ k : Nat) : Int) = q at h2
  omega
theorem dv_inj {z e z' e' : Int} (h : DFm z e) (h' : DFm z' e') (hv : dv z e = dv z' e') : z = z' ∧ e = e' := by
  rcases h with ⟨rfl, rfl⟩ | ⟨h1, h2, h3⟩
  · rw [dv_zero] at hv
    have := dv_eq_zero hv.symm
    subst this
    rcases h' with ⟨_, rfl⟩ | ⟨k1, _⟩
    · exact ⟨rfl, rfl⟩
    · omega
  · rcases h' with ⟨rfl, rfl⟩ | ⟨k1, k2, k3⟩
    · rw [dv_zero] at hv
      have := dv_eq_zero hv
      subst this
      omega
    · unfold dv at hv
      have a1 := odd_ne h1 hv
      have a2 := odd_ne k1 hv.symm
      have he : e = e' := by omega
      subst he
      exact ⟨Int.eq_of_mul_eq_mul_right (pow_pos_int _) hv, rfl⟩
theorem dv_shift {z e f : Int} (h : f ≤ e) (hf : -4194304 ≤ f) : dv z e = dv (z * ((2 ^ (e - f).toNat : Nat) : Int)) f := by
  unfold dv
  rw [dpow_split (a := (f + 4194304).toNat) (b := (e + 4194304).toNat) (by omega), ← Int.mul_assoc, show (e + 4194304).toNat - (f + 4194304).toNat = (e - f).toNat from by omega]
theorem dv_add (x y e : Int) : dv (x + y) e = dv x e + dv y e := by unfold dv; rw [Int.add_mul]
theorem dv_neg (x e : Int) : dv (-x) e = - dv x e := by unfold dv; rw [Int.neg_mul]
theorem own_set3 {B b : Nat} {w' : World} {p : Option Addr} {m : Nat} {zs : List Nat} (h : Own B w' p m zs) {r : Nat} (hr : r < B) (hb : b ≤ B) (v0 v1 v2 : Value) : Own b (((w'.setCell ⟨r, 0, none⟩ v0).setCell ⟨r, 1, none⟩ v1).setCell ⟨r, 2, none⟩ v2) p m zs :=
  (((h.setOld _ _ _ hr).setOld _ _ _ hr).setOld _ _ _ hr).mono hb
def AnsD (B : Nat) (w' : World) (v : Value) (z e : Int) : Prop :=
  ∃ p m zs, v = DV (decide (z < 0)) p m m e ∧ Own B w' p m zs ∧ Nf B64 zs z.natAbs ∧ m ≤ 8192
theorem AnsD.dn {B : Nat} {w' : World} {v : Value} {z e : Int} (h : AnsD B w' v z e) (hf : DFm z e) : ∃ s p m, v = DV s p m m e ∧ DN w' s p m m e z := by
  obtain ⟨p, m, zs, rfl, ho, hn, hm⟩ := h
  exact ⟨_, p, m, rfl, ⟨⟨zs, Num.of ho hn hm⟩, rfl⟩, hf⟩
theorem tz_split {z : Int} {k : Nat} (hz : z ≠ 0) (h : TzO z.natAbs k) : fl (decide (z < 0)) z.natAbs (2 ^ k) % 2 = 1 ∧ fl (decide (z < 0)) z.natAbs (2 ^ k) * ((2 ^ k : Nat) : Int) = z ∧ (fl (decide (z < 0)) z.natAbs (2 ^ k)).natAbs ≤ z.natAbs := by
  rcases h with ⟨h0, _⟩ | ⟨_, h1, h2⟩
  · omega
  · have hd := Nat.div_add_mod z.natAbs (2 ^ k)
    rw [h1, Nat.add_zero, Nat.mul_comm] at hd
    have hle := Nat.div_le_self z.natAbs (2 ^ k)
    unfold fl
    rw [h1]
    generalize z.natAbs / 2 ^ k = q at *
    have hc : (q : Int) * ((2 ^ k : Nat) : Int) = (z.natAbs : Int) := by rw [← Int.natCast_mul, hd]
    by_cases hs : z < 0
    · rw [decide_eq_true hs]
      simp only [ne_eq, not_true_eq_false, decide_false, Bool.and_false, Bool.toNat_false, Nat.add_zero, iv, if_true]
      refine ⟨by omega, by rw [Int.neg_mul, hc]; omega, by omega⟩
    · rw [decide_eq_false hs]
      simp only [ne_eq, not_true_eq_false, decide_false, Bool.and_false, Bool.toNat_false, Nat.add_zero, iv]
      refine ⟨?_, ?_, ?_⟩
      · show (q : Int) % 2 = 1; omega
      · show (q : Int) * _ = z; rw [hc]; omega
      · show (q : Int).natAbs ≤ _; omega
theorem patternOf_32 (b : Nat) (hb : b < 2 * 2147483648) (w : World) :
    Calls Tryz.prog 92 #[.int .i64 32, U b] w fun en w' => en = .returned (.tuple #[PV 32 24 (-149) (decide (2147483648 ≤ b)) (b % 2147483648), .int .i64 0]) ∧ Below w.heap.size w w' := by
  have hl : bl_bitsN b ≤ 32 := bl_le (by omega)
  have e1 : bits BinOp.and IntKind.u64 (b : Int) 2147483648 = _ := sign_and b 2147483648 31 (by decide) (by decide) hb
  have e2 : bits BinOp.andNot IntKind.u64 (b : Int) 2147483648 = _ := sign_andNot b 2147483648 31 (by decide) (by decide) hb
  obtain ⟨z, hz⟩ : ∃ z, z = b % 2147483648 := ⟨_, rfl⟩
  obtain ⟨s, hs⟩ : ∃ s, s = decide (2147483648 ≤ b) := ⟨_, rfl⟩
  obtain ⟨y, hy⟩ : ∃ y, y = (if 2147483648 ≤ b then 2147483648 else 0) := ⟨_, rfl⟩
  rw [← hz] at e2 ⊢
  rw [← hy] at e1
  rw [← hs]
  have hys2 : ((y : Int) == 0) = !s := by
    rw [hy, hs]
    by_cases h : 2147483648 ≤ b <;> simp [h]
  have hys : ((y : Int) != 0) = s := by simp [bne, hys2]
  obtain ⟨ln, hll⟩ : ∃ l, l = bl_bitsN b := ⟨_, rfl⟩
  rw [← hll] at hl
  have hltb : decide ((32 : Int) < (ln : Int)) = false := decide_eq_false (by omega)
  have HLL : Hid (bl_bitsN b = ln) := hll.symm
  have HBB : Hid (b < B64) := by show b < B64; rw [B64_eq]; omega
  clear hz hs hy hl hb hll
  go_enter Tryz.func92, Tryz.ntmps92
  go_wp2_with fail
  obtain ⟨W0, hW0⟩ : ∃ W0, W0 = (w.alloc (.cells #[.int .i64 0, .int .i64 0, .int .i64 0, .bool false, .int .u64 0] 113)) := ⟨_, rfl⟩
  have Xr : Hid (B5q W0 (w.heap.size) (.int .i64 0) (.int .i64 0) (.int .i64 0) (.bool false) (.int .u64 0)) := by rw [hW0]; exact ⟨by go_simp, by go_simp, by go_simp, by go_simp, by go_simp, by go_simp, by go_simp, by go_simp, by go_simp, by go_simp⟩
  have hb0 : Below w.heap.size w W0 := by rw [hW0]; exact below1 w _
  rw [← hW0]
  clear hW0
  have hbw : Below w.heap.size w w := Below.refl _ _
  obtain ⟨gr, hgr⟩ : ∃ g, g = w.heap.size := ⟨_, rfl⟩
  have HGr : Hid (w.heap.size ≤ gr) := by rw [hgr]; show _ ≤ _; omega
  rw [← hgr] at Xr
  try rw [← hgr]
  clear hgr
  replace hbw := Below.on hbw hb0
  clear hb0
  refine (of_32 _).mono ?_
  rintro e v1 ⟨rfl, hb1⟩
  replace Xr : Hid _ := Xr.out.below hb1
  replace hbw := Below.on hbw hb1
  clear hb1
  go_wp2_with fail
  have HDr : Hid (gr ≠ v1.heap.size) := Nat.ne_of_lt Xr.out.lt
  have Xg0 : Hid (B3q (v1.alloc (.cells #[.int .i64 32, .int .i64 24, .int .i64 (-149)] 111)) v1.heap.size (.int .i64 32) (.int .i64 24) (.int .i64 (-149))) := B3q.new v1 _ _ _ _
  have hbn : Below v1.heap.size v1 (v1.alloc (.cells #[.int .i64 32, .int .i64 24, .int .i64 (-149)] 111)) := below1 v1 _
  generalize v1.alloc (.cells #[.int .i64 32, .int .i64 24, .int .i64 (-149)] 111) = Wg at *
  have HGg : Hid (w.heap.size ≤ v1.heap.size) := hbw.size
  replace Xr : Hid _ := Xr.out.below hbn
  replace hbw := Below.on hbw hbn
  clear hbn
  generalize v1.heap.size = gg at *
  have Xg := Xg0
  clear Xg0
  obtain ⟨W3, hW3⟩ : ∃ W1, W1 = Wg.drew := ⟨_, rfl⟩
  have hbd : Below Wg.heap.size Wg W3 := by rw [hW3]; exact bDrew1 (Below.refl _ _)
  replace Xr : Hid _ := Xr.out.below hbd
  replace Xg : Hid _ := Xg.out.below hbd
  replace hbw := Below.on hbw hbd
  clear hbd
  have HJ : Hid ((fun W' : World => W'.cell? ⟨gg, 0, none⟩ = some (.int .i64 32)) W3) := Xg.out.c0
  refine wp_region_J (fun W' => W'.cell? ⟨gg, 0, none⟩ = some (.int .i64 32)) (by kernel_rfl) ?_
  rw [← hW3]
  clear hW3
  refine wpJ_tk 0 (v := ?v1x0) rfl ?hy1x0 HJ.out ?_
  case hy1x0 => (intro W' hJ; have j0 := hJ; go_simp; first | done | with_reducible rfl)
  refine wpJ_tk 2 (v := ?v2x2) rfl ?hy2x2 HJ.out ?_
  case hy2x2 => (intro W' hJ; have j0 := hJ; go_simp; first | done | with_reducible rfl)
  refine wpJ_tk 3 (v := ?v3x3) rfl ?hy3x3 HJ.out ?_
  case hy3x3 => (intro W' hJ; have j0 := hJ; go_simp; first | done | with_reducible rfl)
  refine wpJ_on 1 rfl fun KJ hK => ?_
  go_simp
  refine (bl_len_any b _ HBB.out).mono ?_
  rintro e2 v2 ⟨rfl, hw⟩
  obtain rfl := hw.symm
  clear hw
  rw [HLL.out]
  clear HJ
  have HJ : Hid ((fun W' : World => W'.cell? ⟨gg, 0, none⟩ = some (.int .i64 32)) W3) := Xg.out.c0
  refine hK _ _ HJ.out ?_
  clear hK
  refine wpJ_tk 4 (v := ?v4x4) rfl ?hy4x4 HJ.out ?_
  case hy4x4 => (intro W' hJ; have j0 := hJ; go_simp; first | done | with_reducible rfl)
  refine wpJ_done (by kernel_rfl) ?_ _
  clear HJ
  obtain ⟨cg0, cg1, cg2, fg0, fg1, fg2⟩ := Xg.out
  have hneg : gg < W3.heap.size := World.block_lt_of_cell? W3 _ cg0
  go_wp2_with fail
  clear cg0 cg1 cg2 fg0 fg1 fg2 hneg
  obtain ⟨W6, hW6⟩ : ∃ W1, W1 = W3.drew := ⟨_, rfl⟩
  have hbd : Below W3.heap.size W3 W6 := by rw [hW6]; exact bDrew1 (Below.refl _ _)
  replace Xr : Hid _ := Xr.out.below hbd
  replace Xg : Hid _ := Xg.out.below hbd
  replace hbw := Below.on hbw hbd
  clear hbd
  have HJ : Hid ((fun W' : World => W'.cell? ⟨gg, 0, none⟩ = some (.int .i64 32) ∧ W'.cell? ⟨gg, 1, none⟩ = some (.int .i64 24) ∧ W'.cell? ⟨gg, 2, none⟩ = some (.int .i64 (-149))) W6) := ⟨Xg.out.c0, Xg.out.c1, Xg.out.c2⟩
  refine wp_region_J (fun W' => W'.cell? ⟨gg, 0, none⟩ = some (.int .i64 32) ∧ W'.cell? ⟨gg, 1, none⟩ = some (.int .i64 24) ∧ W'.cell? ⟨gg, 2, none⟩ = some (.int .i64 (-149))) (by kernel_rfl) ?_
  rw [← hW6]
  clear hW6
  refine wpJ_tq 0 rfl HJ.out ?_
  refine wpJ_tq 1 rfl HJ.out ?_
  refine wpJ_tq 2 rfl HJ.out ?_
  refine wpJ_tq 6 rfl HJ.out ?_
  refine wpJ_tq 7 rfl HJ.out ?_
  refine wpJ_on 3 rfl fun KJ hK => ?_
  go_simp
  refine (sign_32 _).mono ?_
  rintro e v4 ⟨rfl, hb4⟩
  replace Xr : Hid _ := Xr.out.below hb4
  replace Xg : Hid _ := Xg.out.below hb4
  replace hbw := Below.on hbw hb4
  clear hb4
  clear HJ
  have HJ : Hid ((fun W' : World => W'.cell? ⟨gg, 0, none⟩ = some (.int .i64 32) ∧ W'.cell? ⟨gg, 1, none⟩ = some (.int .i64 24) ∧ W'.cell? ⟨gg, 2, none⟩ = some (.int .i64 (-149))) v4) := ⟨Xg.out.c0, Xg.out.c1, Xg.out.c2⟩
  refine hK _ _ HJ.out ?_
  clear hK
  refine wpJ_tq 4 rfl HJ.out ?_
  refine wpJ_tq 5 rfl HJ.out ?_
  refine wpJ_on 8 rfl fun KJ hK => ?_
  go_simp
  refine (sign_32 _).mono ?_
  rintro e v5 ⟨rfl, hb5⟩
  replace Xr : Hid _ := Xr.out.below hb5
  replace Xg : Hid _ := Xg.out.below hb5
  replace hbw := Below.on hbw hb5
  clear hb5
  clear HJ
  have HJ : Hid ((fun W' : World => W'.cell? ⟨gg, 0, none⟩ = some (.int .i64 32) ∧ W'.cell? ⟨gg, 1, none⟩ = some (.int .i64 24) ∧ W'.cell? ⟨gg, 2, none⟩ = some (.int .i64 (-149))) v5) := ⟨Xg.out.c0, Xg.out.c1, Xg.out.c2⟩
  refine hK _ _ HJ.out ?_
  clear hK
  refine wpJ_tq 9 rfl HJ.out ?_
  refine wpJ_tq 10 rfl HJ.out ?_
  obtain ⟨cr0, cr1, cr2, cr3, cr4, fr0, fr1, fr2, fr3, fr4⟩ := Xr.out
  have hner : gr < v5.heap.size := World.block_lt_of_cell? v5 _ cr0
  obtain ⟨cg0, cg1, cg2, fg0, fg1, fg2⟩ := Xg.out
  have hneg : gg < v5.heap.size := World.block_lt_of_cell? v5 _ cg0
  have qa := HDr.out
  have qb : gg ≠ gr := fun h => qa h.symm
  refine wpJ_on 11 rfl fun KJ hK => ?_
  go_simp
  have HJ2 : Hid ((fun W' : World => W'.cell? ⟨gg, 0, none⟩ = some (.int .i64 32) ∧ W'.cell? ⟨gg, 1, none⟩ = some (.int .i64 24) ∧ W'.cell? ⟨gg, 2, none⟩ = some (.int .i64 (-149))) (((((v5.setCell ⟨gr, 0, none⟩ (.int .i64 32)).setCell ⟨gr, 1, none⟩ (.int .i64 24)).setCell ⟨gr, 2, none⟩ (.int .i64 (-149))).setCell ⟨gr, 3, none⟩ (.bool s)).setCell ⟨gr, 4, none⟩ (U z))) := ⟨by go_simp, by go_simp, by go_simp⟩
  refine hK _ _ HJ2.out ?_
  clear hK HJ
  have HJ := HJ2
  clear HJ2
  refine wpJ_tq 12 rfl HJ.out ?_
  refine wpJ_done (by kernel_rfl) ?_ _
  clear HJ
  go_wp2_with fail
  refine bodyPost_ret (v := .tuple #[PV 32 24 (-149) s z, .int .i64 0]) (by rw [results_ct rfl]; go_simp) rfl ⟨rfl, ?_⟩
  exact bSet (bSet (bSet (bSet (bSet hbw _ _ _ HGr.out) _ _ _ HGr.out) _ _ _ HGr.out) _ _ _ HGr.out) _ _ _ HGr.out
theorem patternOf_64 (b : Nat) (hb : b < 2 * 9223372036854775808) (w : World) :
    Calls Tryz.prog 92 #[.int .i64 64, U b] w fun en w' => en = .returned (.tuple #[PV 64 53 (-1074) (decide (9223372036854775808 ≤ b)) (b % 9223372036854775808), .int .i64 0]) ∧ Below w.heap.size w w' := by
  have hl : bl_bitsN b ≤ 64 := bl_le (by omega)
  have e1 : bits BinOp.and IntKind.u64 (b : Int) 9223372036854775808 = _ := sign_and b 9223372036854775808 63 (by decide) (by decide) hb
  have e2 : bits BinOp.andNot IntKind.u64 (b : Int) 9223372036854775808 = _ := sign_andNot b 9223372036854775808 63 (by decide) (by decide) hb
  obtain ⟨z, hz⟩ : ∃ z, z = b % 9223372036854775808 := ⟨_, rfl⟩
  obtain ⟨s, hs⟩ : ∃ s, s = decide (9223372036854775808 ≤ b) := ⟨_, rfl⟩
  obtain ⟨y, hy⟩ : ∃ y, y = (if 9223372036854775808 ≤ b then 9223372036854775808 else 0) := ⟨_, rfl⟩
  rw [← hz] at e2 ⊢
  rw [← hy] at e1
  rw [← hs]
  have hys2 : ((y : Int) == 0) = !s := by
    rw [hy, hs]
    by_cases h : 9223372036854775808 ≤ b <;> simp [h]
  have hys : ((y : Int) != 0) = s := by simp [bne, hys2]
  obtain ⟨ln, hll⟩ : ∃ l, l = bl_bitsN b := ⟨_, rfl⟩
  rw [← hll] at hl
  have hltb : decide ((64 : Int) < (ln : Int)) = false := decide_eq_false (by omega)
  have HLL : Hid (bl_bitsN b = ln) := hll.symm
  have HBB : Hid (b < B64) := by show b < B64; rw [B64_eq]; omega
  clear hz hs hy hl hb hll
  go_enter Tryz.func92, Tryz.ntmps92
  go_wp2_with fail
  obtain ⟨W0, hW0⟩ : ∃ W0, W0 = (w.alloc (.cells #[.int .i64 0, .int .i64 0, .int .i64 0, .bool false, .int .u64 0] 113)) := ⟨_, rfl⟩
  have Xr : Hid (B5q W0 (w.heap.size) (.int .i64 0) (.int .i64 0) (.int .i64 0) (.bool false) (.int .u64 0)) := by rw [hW0]; exact ⟨by go_simp, by go_simp, by go_simp, by go_simp, by go_simp, by go_simp, by go_simp, by go_simp, by go_simp, by go_simp⟩
  have hb0 : Below w.heap.size w W0 := by rw [hW0]; exact below1 w _
  rw [← hW0]
  clear hW0
  have hbw : Below w.heap.size w w := Below.refl _ _
  obtain ⟨gr, hgr⟩ : ∃ g, g = w.heap.size := ⟨_, rfl⟩
  have HGr : Hid (w.heap.size ≤ gr) := by rw [hgr]; show _ ≤ _; omega
  rw [← hgr] at Xr
  try rw [← hgr]
  clear hgr
  replace hbw := Below.on hbw hb0
  clear hb0
  refine (of_64 _).mono ?_
  rintro e v1 ⟨rfl, hb1⟩
  replace Xr : Hid _ := Xr.out.below hb1
  replace hbw := Below.on hbw hb1
  clear hb1
  go_wp2_with fail
  have HDr : Hid (gr ≠ v1.heap.size) := Nat.ne_of_lt Xr.out.lt
  have Xg0 : Hid (B3q (v1.alloc (.cells #[.int .i64 64, .int .i64 53, .int .i64 (-1074)] 111)) v1.heap.size (.int .i64 64) (.int .i64 53) (.int .i64 (-1074))) := B3q.new v1 _ _ _ _
  have hbn : Below v1.heap.size v1 (v1.alloc (.cells #[.int .i64 64, .int .i64 53, .int .i64 (-1074)] 111)) := below1 v1 _
  generalize v1.alloc (.cells #[.int .i64 64, .int .i64 53, .int .i64 (-1074)] 111) = Wg at *
  have HGg : Hid (w.heap.size ≤ v1.heap.size) := hbw.size
  replace Xr : Hid _ := Xr.out.below hbn
  replace hbw := Below.on hbw hbn
  clear hbn
  generalize v1.heap.size = gg at *
  have Xg := Xg0
  clear Xg0
  obtain ⟨W3, hW3⟩ : ∃ W1, W1 = Wg.drew := ⟨_, rfl⟩
  have hbd : Below Wg.heap.size Wg W3 := by rw [hW3]; exact bDrew1 (Below.refl _ _)
  replace Xr : Hid _ := Xr.out.below hbd
  replace Xg : Hid _ := Xg.out.below hbd
  replace hbw := Below.on hbw hbd
  clear hbd
  have HJ : Hid ((fun W' : World => W'.cell? ⟨gg, 0, none⟩ = some (.int .i64 64)) W3) := Xg.out.c0
  refine wp_region_J (fun W' => W'.cell? ⟨gg, 0, none⟩ = some (.int .i64 64)) (by kernel_rfl) ?_
  rw [← hW3]
  clear hW3
  refine wpJ_tk 0 (v := ?v15x0) rfl ?hy15x0 HJ.out ?_
  case hy15x0 => (intro W' hJ; have j0 := hJ; go_simp; first | done | with_reducible rfl)
  refine wpJ_tk 2 (v := ?v16x2) rfl ?hy16x2 HJ.out ?_
  case hy16x2 => (intro W' hJ; have j0 := hJ; go_simp; first | done | with_reducible rfl)
  refine wpJ_tk 3 (v := ?v17x3) rfl ?hy17x3 HJ.out ?_
  case hy17x3 => (intro W' hJ; have j0 := hJ; go_simp; first | done | with_reducible rfl)
  refine wpJ_on 1 rfl fun KJ hK => ?_
  go_simp
  refine (bl_len_any b _ HBB.out).mono ?_
  rintro e2 v2 ⟨rfl, hw⟩
  obtain rfl := hw.symm
  clear hw
  rw [HLL.out]
  clear HJ
  have HJ : Hid ((fun W' : World => W'.cell? ⟨gg, 0, none⟩ = some (.int .i64 64)) W3) := Xg.out.c0
  refine hK _ _ HJ.out ?_
  clear hK
  refine wpJ_tk 4 (v := ?v18x4) rfl ?hy18x4 HJ.out ?_
  case hy18x4 => (intro W' hJ; have j0 := hJ; go_simp; first | done | with_reducible rfl)
  refine wpJ_done (by kernel_rfl) ?_ _
  clear HJ
  obtain ⟨cg0, cg1, cg2, fg0, fg1, fg2⟩ := Xg.out
  have hneg : gg < W3.heap.size := World.block_lt_of_cell? W3 _ cg0
  go_wp2_with fail
  clear cg0 cg1 cg2 fg0 fg1 fg2 hneg
  obtain ⟨W6, hW6⟩ : ∃ W1, W1 = W3.drew := ⟨_, rfl⟩
  have hbd : Below W3.heap.size W3 W6 := by rw [hW6]; exact bDrew1 (Below.refl _ _)
  replace Xr : Hid _ := Xr.out.below hbd
  replace Xg : Hid _ := Xg.out.below hbd
  replace hbw := Below.on hbw hbd
  clear hbd
  have HJ : Hid ((fun W' : World => W'.cell? ⟨gg, 0, none⟩ = some (.int .i64 64) ∧ W'.cell? ⟨gg, 1, none⟩ = some (.int .i64 53) ∧ W'.cell? ⟨gg, 2, none⟩ = some (.int .i64 (-1074))) W6) := ⟨Xg.out.c0, Xg.out.c1, Xg.out.c2⟩
  refine wp_region_J (fun W' => W'.cell? ⟨gg, 0, none⟩ = some (.int .i64 64) ∧ W'.cell? ⟨gg, 1, none⟩ = some (.int .i64 53) ∧ W'.cell? ⟨gg, 2, none⟩ = some (.int .i64 (-1074))) (by kernel_rfl) ?_
  rw [← hW6]
  clear hW6
  refine wpJ_tq 0 rfl HJ.out ?_
  refine wpJ_tq 1 rfl HJ.out ?_
  refine wpJ_tq 2 rfl HJ.out ?_
  refine wpJ_tq 6 rfl HJ.out ?_
  refine wpJ_tq 7 rfl HJ.out ?_
  refine wpJ_on 3 rfl fun KJ hK => ?_
  go_simp
  refine (sign_64 _).mono ?_
  rintro e v4 ⟨rfl, hb4⟩
  replace Xr : Hid _ := Xr.out.below hb4
  replace Xg : Hid _ := Xg.out.below hb4
  replace hbw := Below.on hbw hb4
  clear hb4
  clear HJ
  have HJ : Hid ((fun W' : World => W'.cell? ⟨gg, 0, none⟩ = some (.int .i64 64) ∧ W'.cell? ⟨gg, 1, none⟩ = some (.int .i64 53) ∧ W'.cell? ⟨gg, 2, none⟩ = some (.int .i64 (-1074))) v4) := ⟨Xg.out.c0, Xg.out.c1, Xg.out.c2⟩
  refine hK _ _ HJ.out ?_
  clear hK
  refine wpJ_tq 4 rfl HJ.out ?_
  refine wpJ_tq 5 rfl HJ.out ?_
  refine wpJ_on 8 rfl fun KJ hK => ?_
  go_simp
  refine (sign_64 _).mono ?_
  rintro e v5 ⟨rfl, hb5⟩
  replace Xr : Hid _ := Xr.out.below hb5
  replace Xg : Hid _ := Xg.out.below hb5
  replace hbw := Below.on hbw hb5
  clear hb5
  clear HJ
  have HJ : Hid ((fun W' : World => W'.cell? ⟨gg, 0, none⟩ = some (.int .i64 64) ∧ W'.cell? ⟨gg, 1, none⟩ = some (.int .i64 53) ∧ W'.cell? ⟨gg, 2, none⟩ = some (.int .i64 (-1074))) v5) := ⟨Xg.out.c0, Xg.out.c1, Xg.out.c2⟩
  refine hK _ _ HJ.out ?_
  clear hK
  refine wpJ_tq 9 rfl HJ.out ?_
  refine wpJ_tq 10 rfl HJ.out ?_
  obtain ⟨cr0, cr1, cr2, cr3, cr4, fr0, fr1, fr2, fr3, fr4⟩ := Xr.out
  have hner : gr < v5.heap.size := World.block_lt_of_cell? v5 _ cr0
  obtain ⟨cg0, cg1, cg2, fg0, fg1, fg2⟩ := Xg.out
  have hneg : gg < v5.heap.size := World.block_lt_of_cell? v5 _ cg0
  have qa := HDr.out
  have qb : gg ≠ gr := fun h => qa h.symm
  refine wpJ_on 11 rfl fun KJ hK => ?_
  go_simp
  have HJ2 : Hid ((fun W' : World => W'.cell? ⟨gg, 0, none⟩ = some (.int .i64 64) ∧ W'.cell? ⟨gg, 1, none⟩ = some (.int .i64 53) ∧ W'.cell? ⟨gg, 2, none⟩ = some (.int .i64 (-1074))) (((((v5.setCell ⟨gr, 0, none⟩ (.int .i64 64)).setCell ⟨gr, 1, none⟩ (.int .i64 53)).setCell ⟨gr, 2, none⟩ (.int .i64 (-1074))).setCell ⟨gr, 3, none⟩ (.bool s)).setCell ⟨gr, 4, none⟩ (U z))) := ⟨by go_simp, by go_simp, by go_simp⟩
  refine hK _ _ HJ2.out ?_
  clear hK HJ
  have HJ := HJ2
  clear HJ2
  refine wpJ_tq 12 rfl HJ.out ?_
  refine wpJ_done (by kernel_rfl) ?_ _
  clear HJ
  go_wp2_with fail
  refine bodyPost_ret (v := .tuple #[PV 64 53 (-1074) s z, .int .i64 0]) (by rw [results_ct rfl]; go_simp) rfl ⟨rfl, ?_⟩
  exact bSet (bSet (bSet (bSet (bSet hbw _ _ _ HGr.out) _ _ _ HGr.out) _ _ _ HGr.out) _ _ _ HGr.out) _ _ _ HGr.out
theorem patternOf_32_big (b : Nat) (hb : b < B64) (hg : 4294967296 ≤ b) (w : World) : Calls Tryz.prog 92 #[.int .i64 32, U b] w fun e w' => e = .returned (.tuple #[PV 0 0 0 false 0, .int .i64 2]) ∧ Below w.heap.size w w' := by
  have hl := bl_gt32 hg
  have hlt : (32 : Int) < (bl_bitsN b : Int) := by omega
  have hbb : b < B64 := hb
  clear hl hb hg
  obtain ⟨l, hll⟩ : ∃ l, l = bl_bitsN b := ⟨_, rfl⟩
  rw [← hll] at hlt
  have hltb : decide ((32 : Int) < (l : Int)) = true := decide_eq_true hlt
  have HLL : Hid (l = bl_bitsN b) := hll
  have HBB : Hid (b < B64) := hbb
  clear hll hbb
  go_enter Tryz.func92, Tryz.ntmps92
  go_wp2_with fail
  have X := B5q.new (w) 113 (.int .i64 0) (.int .i64 0) (.int .i64 0) (.bool false) (.int .u64 0)
  have hb0 := bwAlloc (w) (.cells #[.int .i64 0, .int .i64 0, .int .i64 0, .bool false, .int .u64 0] 113)
  generalize (w).alloc (.cells #[.int .i64 0, .int .i64 0, .int .i64 0, .bool false, .int .u64 0] 113) = W at *
  obtain ⟨g, hg⟩ : ∃ g, g = (w).heap.size := ⟨_, rfl⟩
  have HGg : Hid ((w).heap.size ≤ g) := by show _ ≤ _; omega
  rw [← hg] at X ⊢
  clear hg
  refine (of_32 _).mono ?_
  rintro e w1 ⟨rfl, hb1⟩
  have X1 := X.below hb1
  have HB1 : Hid (Below w.heap.size w w1) := bwOn hb0 hb1
  clear X hb0 hb1
  go_wp2_with fail
  have Y := B3.new (w1) 111 (.int .i64 32) (.int .i64 24) (.int .i64 (-149))
  have hb2 := bwAlloc (w1) (.cells #[.int .i64 32, .int .i64 24, .int .i64 (-149)] 111)
  generalize (w1).alloc (.cells #[.int .i64 32, .int .i64 24, .int .i64 (-149)] 111) = W2 at *
  obtain ⟨h, hh⟩ : ∃ h, h = (w1).heap.size := ⟨_, rfl⟩
  have HGh : Hid ((w1).heap.size ≤ h) := by show _ ≤ _; omega
  rw [← hh] at Y ⊢
  clear hh
  have X2 := X1.below hb2
  have HB2 : Hid (Below w.heap.size w W2) := bwOn HB1.out hb2
  clear X1 hb2 HB1
  have X3 : Hid (B5q W2.drew g _ _ _ _ _) := X2.drew
  have Y3 : Hid (B3 W2.drew h _ _ _) := Y.drew
  have HB3 : Hid (Below w.heap.size w W2.drew) := bwDrew HB2.out
  obtain ⟨y0, y1, y2, y3, y4, y5⟩ := Y
  obtain ⟨x0, x1, x2, x3, x4, x5, x6, x7, x8, x9⟩ := X2
  go_region_with (first
    | (go_at_call 108; (with_reducible refine (bl_len_any _ _ HBB.out).mono ?_); rintro e w' ⟨rfl, hw⟩; rw [← HLL.out]; obtain rfl := hw.symm; clear hw))
  all_goals
    (go_wp2_with fail
     refine bodyPost_ret (v := .tuple #[PV 0 0 0 false 0, .int .i64 2]) (by rw [results_ct rfl]; go_simp) rfl ⟨rfl, ?_⟩
     exact bwDrew (bwSet (bwSet (bwSet (bwSet (bwSet HB2.out _ _ _ HGg.out) _ _ _ HGg.out) _ _ _ HGg.out) _ _ _ HGg.out) _ _ _ HGg.out))
theorem cls_ne {H I s : Nat} (h : s ≤ I) : clsN H I s ≠ 4 := by
  unfold clsN
  by_cases h0 : s = 0
  · rw [if_pos h0]; decide
  · rw [if_neg h0]
    by_cases h1 : s < H
    · rw [if_pos h1]; decide
    · rw [if_neg h1]
      by_cases h2 : s < I
      · rw [if_pos h2]; decide
      · rw [if_neg h2, if_pos (by omega)]; decide
theorem cls_nan {H I s : Nat} (hH : H ≤ I) (h : I < s) : clsN H I s = 4 := by
  unfold clsN
  rw [if_neg (by omega), if_neg (by omega), if_neg (by omega), if_neg (by omega)]
theorem cls_inf {H I s : Nat} (hH : H ≤ I) (h0 : 0 < I) : (clsN H I s == 3) = decide (s = I) := by
  unfold clsN
  by_cases h3 : s = I
  · rw [if_neg (by omega), if_neg (by omega), if_neg (by omega), if_pos h3]; simp [h3]
  · rw [decide_eq_false h3]
    by_cases h0 : s = 0
    · rw [if_pos h0]; decide
    · rw [if_neg h0]
      by_cases h1 : s < H
      · rw [if_pos h1]; decide
      · rw [if_neg h1]
        by_cases h2 : s < I
        · rw [if_pos h2]; decide
        · rw [if_neg h2, if_neg h3]; decide

theorem signed_32 (neg : Bool) (s : Nat) (hs : s < 2147483648) (w : World) : Calls Tryz.prog 88 #[WV 32 24 (-149), .bool neg, U s] w fun e w' => e = .returned (U (if neg then 2147483648 + s else s)) ∧ Below w.heap.size w w' := by
  have e1 : bits BinOp.or IntKind.u64 2147483648 (s : Int) = _ := sign_or s 2147483648 31 (by decide) (by decide) hs
  obtain ⟨r, hr⟩ : ∃ r, r = 2147483648 + s := ⟨_, rfl⟩
  rw [← hr] at e1 ⊢
  clear hr hs
  cases neg
  · clear e1
    go_enter Tryz.func88, Tryz.ntmps88
    go_wp2_with fail
    go_ret
    exact ⟨rfl, bwAlloc w _⟩
  · go_enter Tryz.func88, Tryz.ntmps88
    go_wp2_with fail
    refine (sign_32 _).mono ?_
    rintro e w1 ⟨rfl, hb1⟩
    have HB1 : Hid (Below w.heap.size w w1) := bwOn (bwAlloc w _) hb1
    clear hb1
    go_wp2_with fail
    go_ret
    exact ⟨rfl, HB1.out⟩
theorem signed_64 (neg : Bool) (s : Nat) (hs : s < 9223372036854775808) (w : World) : Calls Tryz.prog 88 #[WV 64 53 (-1074), .bool neg, U s] w fun e w' => e = .returned (U (if neg then 9223372036854775808 + s else s)) ∧ Below w.heap.size w w' := by
  have e1 : bits BinOp.or IntKind.u64 9223372036854775808 (s : Int) = _ := sign_or s 9223372036854775808 63 (by decide) (by decide) hs
  obtain ⟨r, hr⟩ : ∃ r, r = 9223372036854775808 + s := ⟨_, rfl⟩
  rw [← hr] at e1 ⊢
  clear hr hs
  cases neg
  · clear e1
    go_enter Tryz.func88, Tryz.ntmps88
    go_wp2_with fail
    go_ret
    exact ⟨rfl, bwAlloc w _⟩
  · go_enter Tryz.func88, Tryz.ntmps88
    go_wp2_with fail
    refine (sign_64 _).mono ?_
    rintro e w1 ⟨rfl, hb1⟩
    have HB1 : Hid (Below w.heap.size w w1) := bwOn (bwAlloc w _) hb1
    clear hb1
    go_wp2_with fail
    go_ret
    exact ⟨rfl, HB1.out⟩
structure Fm (f p m l : Int) (S I : Nat) : Prop where
  of : ∀ w, Calls Tryz.prog 73 #[.int .i64 f] w fun e w' => e = .returned (.tuple #[WV p m l, .int .i64 0]) ∧ Below w.heap.size w w'
  inf : ∀ w, Calls Tryz.prog 89 #[WV p m l] w fun e w' => e = .returned (U I) ∧ Below w.heap.size w w'
  sgn : ∀ (neg : Bool) (s : Nat) w, s < S → Calls Tryz.prog 88 #[WV p m l, .bool neg, U s] w fun e w' => e = .returned (U (if neg then S + s else s)) ∧ Below w.heap.size w w'
  pat : ∀ (b : Nat) w, b < 2 * S → Calls Tryz.prog 92 #[.int .i64 f, U b] w fun e w' => e = .returned (.tuple #[PV p m l (decide (S ≤ b)) (b % S), .int .i64 0]) ∧ Below w.heap.size w w'
  big : ∀ (b : Nat) w, b < B64 → 2 * S ≤ b → Calls Tryz.prog 92 #[.int .i64 f, U b] w fun e w' => e = .returned (.tuple #[PV 0 0 0 false 0, .int .i64 2]) ∧ Below w.heap.size w w'
  cls : ∀ (neg : Bool) (s : Nat) w, Calls Tryz.prog 93 #[PV p m l neg s] w fun e w' => ∃ c : Int, e = .returned (.int .i64 c) ∧ (c == 4) = decide (I < s) ∧ (c == 3) = decide (s = I) ∧ Below w.heap.size w w'
  lt : I < S
  pos : 2 < I
  le : S ≤ 9223372036854775808
theorem ranked_ok {f p m l : Int} {S I : Nat} (F : Fm f p m l S I) (b : Nat) (hb : b < 2 * S) (hr : b % S ≤ I) (w : World) : Calls Tryz.prog 70 #[.int .i64 f, U b] w fun e w' => e = .returned (.tuple #[PV p m l (decide (S ≤ b)) (b % S), .int .i64 0]) ∧ Below w.heap.size w w' := by
  have HP := fun w => F.pat b w hb
  obtain ⟨z, hz⟩ : ∃ z, z = b % S := ⟨_, rfl⟩
  obtain ⟨s, hs⟩ : ∃ s, s = decide (S ≤ b) := ⟨_, rfl⟩
  simp only [← hz, ← hs] at HP hr ⊢
  have HPH : Hid (∀ w : World, Calls Tryz.prog 92 #[.int .i64 f, U b] w fun e w' => e = .returned (.tuple #[PV p m l s z, .int .i64 0]) ∧ Below w.heap.size w w') := HP
  have HF : Hid (Fm f p m l S I) := F
  have HR : Hid (decide (I < z) = false) := decide_eq_false (by omega)
  clear hz hs HP hr hb F
  go_enter Tryz.func70, Tryz.ntmps70
  go_wp2_with fail
  have X := B5q.new (w) 113 (.int .i64 0) (.int .i64 0) (.int .i64 0) (.bool false) (.int .u64 0)
  have hb0 := bwAlloc (w) (.cells #[.int .i64 0, .int .i64 0, .int .i64 0, .bool false, .int .u64 0] 113)
  generalize (w).alloc (.cells #[.int .i64 0, .int .i64 0, .int .i64 0, .bool false, .int .u64 0] 113) = W at *
  obtain ⟨g, hg⟩ : ∃ g, g = (w).heap.size := ⟨_, rfl⟩
  have HGg : Hid ((w).heap.size ≤ g) := by show _ ≤ _; omega
  rw [← hg] at X ⊢
  clear hg
  refine (HPH.out _).mono ?_
  rintro e w1 ⟨rfl, hb1⟩
  have X1 := X.below hb1
  have HB1 : Hid (Below w.heap.size w w1) := bwOn hb0 hb1
  have XX : Hid (B5q w1 g (.int .i64 0) (.int .i64 0) (.int .i64 0) (.bool false) (.int .u64 0)) := X1
  clear X hb0 hb1
  obtain ⟨x0, x1, x2, x3, x4, x5, x6, x7, x8, x9⟩ := X1
  go_wp2_with fail
  clear x0 x1 x2 x3 x4 x5 x6 x7 x8 x9
  have Y := B5q.new (w1) 113 (.int .i64 p) (.int .i64 m) (.int .i64 l) (.bool s) (U z)
  have hb2 := bwAlloc (w1) (.cells #[.int .i64 p, .int .i64 m, .int .i64 l, .bool s, U z] 113)
  generalize (w1).alloc (.cells #[.int .i64 p, .int .i64 m, .int .i64 l, .bool s, U z] 113) = W2 at *
  obtain ⟨h, hh⟩ : ∃ h, h = (w1).heap.size := ⟨_, rfl⟩
  have HGh : Hid ((w1).heap.size ≤ h) := by show _ ≤ _; omega
  rw [← hh] at Y ⊢
  clear hh
  refine (HF.out.cls s z _).mono ?_
  rintro e w3 ⟨c, rfl, hc4, hc3, hb3⟩
  rw [HR.out] at hc4
  have hbb := bwOn hb2 hb3
  have HB3 : Hid (Below w.heap.size w w3) := bwOn HB1.out hbb
  have hgl := (XX.out.below hbb).lt
  have hhl := (Y.below hb3).lt
  obtain ⟨x0, x1, x2, x3, x4, x5, x6, x7, x8, x9⟩ := XX.out.below hbb
  obtain ⟨y0, y1, y2, y3, y4, y5, y6, y7, y8, y9⟩ := Y.below hb3
  clear Y hb2 hb3 hbb hc3 XX
  go_wp2_with fail
  refine bodyPost_ret (v := .tuple #[PV p m l s z, .int .i64 0]) (by rw [results_ct rfl]; go_simp) rfl ⟨rfl, ?_⟩
  exact bwSet (bwSet (bwSet (bwSet (bwSet HB3.out _ _ _ HGg.out) _ _ _ HGg.out) _ _ _ HGg.out) _ _ _ HGg.out) _ _ _ HGg.out
theorem rank_ok {f p m l : Int} {S I : Nat} (F : Fm f p m l S I) (b : Nat) (hb : b < 2 * S) (hr : b % S ≤ I) (w : World) : Calls Tryz.prog 54 #[.int .i64 f, U b] w fun e w' => e = .returned (.tuple #[.int .i64 (if S ≤ b then -((b % S : Nat) : Int) else ((b % S : Nat) : Int)), .int .i64 0]) ∧ Below w.heap.size w w' := by
  have HP := fun w => ranked_ok F b hb hr w
  have hIS := F.lt
  have hS := F.le
  have hzl : b % S ≤ 9223372036854775807 := by omega
  obtain ⟨z, hz⟩ : ∃ z, z = b % S := ⟨_, rfl⟩
  simp only [← hz] at HP hr hzl ⊢
  have hwz : IntKind.i64.wrap (z : Int) = (z : Int) := by simp [IntKind.wrap, IntKind.signed, IntKind.bits]; omega
  have hwn : IntKind.i64.wrap (-(z : Int)) = -(z : Int) := by simp [IntKind.wrap, IntKind.signed, IntKind.bits]; omega
  have hw64 : wrap64 (z : Int) = (z : Int) := by simp [wrap64]; omega
  by_cases hs : S ≤ b
  · rw [if_pos hs]
    simp only [decide_eq_true hs] at HP
    have HPH : Hid (∀ w : World, Calls Tryz.prog 70 #[.int .i64 f, U b] w fun e w' => e = .returned (.tuple #[PV p m l true z, .int .i64 0]) ∧ Below w.heap.size w w') := HP
    clear hz hs HP hr hb F hIS hS
    go_enter Tryz.func54, Tryz.ntmps54
    go_wp2_with fail
    refine (HPH.out _).mono ?_
    rintro e w1 ⟨rfl, hb1⟩
    have hbw := bwOn hb1 (bwAlloc w1 (.cells #[.int .i64 p, .int .i64 m, .int .i64 l, .bool true, U z] 113))
    clear hb1
    go_wp2_with fail
    go_ret2
    exact ⟨rfl, hbw⟩
  · rw [if_neg hs]
    simp only [decide_eq_false hs] at HP
    have HPH : Hid (∀ w : World, Calls Tryz.prog 70 #[.int .i64 f, U b] w fun e w' => e = .returned (.tuple #[PV p m l false z, .int .i64 0]) ∧ Below w.heap.size w w') := HP
    clear hz hs HP hr hb F hIS hS
    go_enter Tryz.func54, Tryz.ntmps54
    go_wp2_with fail
    refine (HPH.out _).mono ?_
    rintro e w1 ⟨rfl, hb1⟩
    have hbw := bwOn hb1 (bwAlloc w1 (.cells #[.int .i64 p, .int .i64 m, .int .i64 l, .bool false, U z] 113))
    clear hb1
    go_wp2_with fail
    go_ret2
    exact ⟨rfl, hbw⟩
abbrev FV (S : Nat) (P E G : Int) (I Q : Nat) : Value := .agg #[U S, .int .i64 P, .int .i64 E, .int .i64 G, U I, U Q]
structure B6q (W : World) (g : Nat) (v0 v1 v2 v3 v4 v5 : Value) : Prop where
  c0 : W.cell? ⟨g, 0, none⟩ = some v0
  c1 : W.cell? ⟨g, 1, none⟩ = some v1
  c2 : W.cell? ⟨g, 2, none⟩ = some v2
  c3 : W.cell? ⟨g, 3, none⟩ = some v3
  c4 : W.cell? ⟨g, 4, none⟩ = some v4
  c5 : W.cell? ⟨g, 5, none⟩ = some v5
  f0 : W.frozen? ⟨g, 0, none⟩ = false
  f1 : W.frozen? ⟨g, 1, none⟩ = false
  f2 : W.frozen? ⟨g, 2, none⟩ = false
  f3 : W.frozen? ⟨g, 3, none⟩ = false
  f4 : W.frozen? ⟨g, 4, none⟩ = false
  f5 : W.frozen? ⟨g, 5, none⟩ = false
theorem B6q.below {W W' : World} {g : Nat} {v0 v1 v2 v3 v4 v5 : Value} (h : B6q W g v0 v1 v2 v3 v4 v5) (hb : Below W.heap.size W W') : B6q W' g v0 v1 v2 v3 v4 v5 := by
  have hl : g < W.heap.size := World.block_lt_of_cell? W _ h.c0
  exact ⟨(hb.cell (p := ⟨g, 0, none⟩) hl).trans h.c0, (hb.cell (p := ⟨g, 1, none⟩) hl).trans h.c1, (hb.cell (p := ⟨g, 2, none⟩) hl).trans h.c2, (hb.cell (p := ⟨g, 3, none⟩) hl).trans h.c3, (hb.cell (p := ⟨g, 4, none⟩) hl).trans h.c4, (hb.cell (p := ⟨g, 5, none⟩) hl).trans h.c5, (hb.frozen (p := ⟨g, 0, none⟩) hl).trans h.f0, (hb.frozen (p := ⟨g, 1, none⟩) hl).trans h.f1, (hb.frozen (p := ⟨g, 2, none⟩) hl).trans h.f2, (hb.frozen (p := ⟨g, 3, none⟩) hl).trans h.f3, (hb.frozen (p := ⟨g, 4, none⟩) hl).trans h.f4, (hb.frozen (p := ⟨g, 5, none⟩) hl).trans h.f5⟩
theorem B6q.new (w : World) (ty : TypeId) (v0 v1 v2 v3 v4 v5 : Value) : B6q (w.alloc (.cells #[v0, v1, v2, v3, v4, v5] ty)) w.heap.size v0 v1 v2 v3 v4 v5 :=
  ⟨by go_simp, by go_simp, by go_simp, by go_simp, by go_simp, by go_simp, by go_simp, by go_simp, by go_simp, by go_simp, by go_simp, by go_simp⟩
theorem B6q.lt {W : World} {g : Nat} {v0 v1 v2 v3 v4 v5 : Value} (h : B6q W g v0 v1 v2 v3 v4 v5) : g < W.heap.size := World.block_lt_of_cell? W _ h.c0
theorem B6q.drew {W : World} {g : Nat} {v0 v1 v2 v3 v4 v5 : Value} (h : B6q W g v0 v1 v2 v3 v4 v5) : B6q W.drew g v0 v1 v2 v3 v4 v5 := ⟨h.c0, h.c1, h.c2, h.c3, h.c4, h.c5, h.f0, h.f1, h.f2, h.f3, h.f4, h.f5⟩
structure Rf (f : Int) (S : Nat) (P E G : Int) (I Q : Nat) : Prop where
  of : ∀ w, Calls Tryz.prog 33 #[.int .i64 f] w fun e w' => e = .returned (.tuple #[FV S P E G I Q, .bool true]) ∧ Below w.heap.size w w'
  lt : I < S
  pos : 2 < I
  le : S ≤ 9223372036854775808
theorem rof_32 (w : World) : Calls Tryz.prog 33 #[.int .i64 32] w fun e w' => e = .returned (.tuple #[FV 2147483648 24 (-149) 104 2139095040 2143289345, .bool true]) ∧ Below w.heap.size w w' := by
  go_enter Tryz.func33, Tryz.ntmps33
  go_wp2_with fail
  refine bodyPost_ret (v := .tuple #[FV 2147483648 24 (-149) 104 2139095040 2143289345, .bool true]) (by rw [results_ct rfl]; go_simp) rfl ⟨rfl, ?_⟩
  exact bwAlloc w _
theorem rf_32 : Rf 32 2147483648 24 (-149) 104 2139095040 2143289345 := ⟨rof_32, by decide, by decide, by decide⟩
theorem rof_64 (w : World) : Calls Tryz.prog 33 #[.int .i64 64] w fun e w' => e = .returned (.tuple #[FV 9223372036854775808 53 (-1074) 971 9218868437227405312 9221120237041090561, .bool true]) ∧ Below w.heap.size w w' := by
  go_enter Tryz.func33, Tryz.ntmps33
  go_wp2_with fail
  refine bodyPost_ret (v := .tuple #[FV 9223372036854775808 53 (-1074) 971 9218868437227405312 9221120237041090561, .bool true]) (by rw [results_ct rfl]; go_simp) rfl ⟨rfl, ?_⟩
  exact bwAlloc w _
theorem rf_64 : Rf 64 9223372036854775808 53 (-1074) 971 9218868437227405312 9221120237041090561 := ⟨rof_64, by decide, by decide, by decide⟩
theorem cut_any {S I Q : Nat} {P E G : Int} (h0 : 0 < S) (hS : S ≤ 9223372036854775808) (b : Nat) (w : World) : Calls Tryz.prog 44 #[FV S P E G I Q, U b] w fun e w' => e = .returned (.tuple #[.bool (decide (S ≤ b)), U (b % S)]) ∧ Below w.heap.size w w' := by
  obtain ⟨z, hz⟩ : ∃ z, z = b % S := ⟨_, rfl⟩
  obtain ⟨s, hs⟩ : ∃ s, s = decide (S ≤ b) := ⟨_, rfl⟩
  have hzl : z < S := by rw [hz]; exact Nat.mod_lt _ h0
  have hd : (b : Int).tmod S = (z : Int) := by rw [Int.tmod_eq_emod_of_nonneg (by omega), hz]; rfl
  have hwz : IntKind.u64.wrap (z : Int) = (z : Int) := by rw [IntKind.wrap_u64]; omega
  have hs0 : ((S : Int) == 0) = false := by simp; omega
  have hs1 : ¬ S = 0 := by omega
  have hs2 : decide ((S : Int) ≤ (b : Int)) = s := by rw [hs]; by_cases h : S ≤ b <;> simp [h]
  have hs3 : decide (S ≤ b) = s := hs.symm
  rw [← hz, hs3]
  clear hz hs hzl h0 hS
  go_enter Tryz.func44, Tryz.ntmps44
  go_wp2_with fail
  go_quiet (fail)
  go_wp2_with fail
  go_ret2
  exact ⟨rfl, bwDrewN (bwAlloc w _) _⟩
theorem fm_32 : Fm 32 32 24 (-149) 2147483648 2139095040 :=
  { of := of_32, inf := infinity_32v rfl, sgn := fun neg s w hs => signed_32 neg s hs w, pat := fun b w hb => patternOf_32 b hb w, big := fun b w hb hg => patternOf_32_big b hb (by omega) w,
    cls := fun neg s w => (class_32 rfl neg s w).mono (fun e w' h => ⟨_, h.1, by
      by_cases hn : 2139095040 < s
      · rw [cls_nan (by decide) hn, decide_eq_true hn]; decide
      · rw [decide_eq_false hn]; simp [cls_ne (Nat.le_of_not_lt hn)], cls_inf (by decide) (by decide), h.2⟩),
    lt := by decide, pos := by decide, le := by decide }
theorem fm_64 : Fm 64 64 53 (-1074) 9223372036854775808 9218868437227405312 :=
  { of := of_64, inf := infinity_64v rfl, sgn := fun neg s w hs => signed_64 neg s hs w, pat := fun b w hb => patternOf_64 b hb w, big := fun b w hb hg => absurd hg (by rw [B64_eq] at hb; omega),
    cls := fun neg s w => (class_64 rfl neg s w).mono (fun e w' h => ⟨_, h.1, by
      by_cases hn : 9218868437227405312 < s
      · rw [cls_nan (by decide) hn, decide_eq_true hn]; decide
      · rw [decide_eq_false hn]; simp [cls_ne (Nat.le_of_not_lt hn)], cls_inf (by decide) (by decide), h.2⟩),
    lt := by decide, pos := by decide, le := by decide }
end Go.Proofs.YtbafjgmfonepnaaGreatDoor
namespace Go.Proofs.YtbafjgmfonepnaaGreatDoor
open Go.RowKit
set_option maxRecDepth 20000
set_option maxHeartbeats 0
variable {P : Program} {md : Region.Mode} {ops : Array Oper} {Q : Exit → Act → World → Prop} {J : World → Prop}

theorem wpJ_two {i k : Nat} {oi ok : Oper} {fuel : Nat} {listed : Array Bool} {a : Act} {w : World} (hr : Region.ready md ops listed = [i, k]) (hi : ops[i]? = some oi) (hk : ops[k]? = some ok)
    (hwi : Region.wanted oi (yielded ops a.tmps) = true) (hwk : Region.wanted ok (yielded ops a.tmps) = true)
    (h1 : ∀ K : Act → World → Prop, (∀ a' w', J w' → wpJ P md ops Q J fuel (listed.setIfInBounds i true) a' w' → K a' w') → Oper.wp P oi a w K Q)
    (h2 : ∀ K : Act → World → Prop, (∀ a' w', J w' → wpJ P md ops Q J fuel (listed.setIfInBounds k true) a' w' → K a' w') → Oper.wp P ok a w K Q) : wpJ P md ops Q J (fuel + 1) listed a w := by
  refine ⟨fun h => (by rw [hr] at h; cases h), fun j hj => ?_⟩
  rw [hr] at hj
  rcases List.mem_cons.1 hj with rfl | hj
  · unfold wpOp
    simp only [hi, hwi, if_true]
    exact .inl (h1 _ fun a' w' h1 h2 => ⟨h1, h2⟩)
  · obtain rfl : j = k := by simpa using hj
    unfold wpOp
    simp only [hk, hwk, if_true]
    exact .inl (h2 _ fun a' w' h1 h2 => ⟨h1, h2⟩)
variable {P : Program} {md : Region.Mode} {ops : Array Oper} {Q : Exit → Act → World → Prop} {J : World → Prop}

theorem wpJ_three {i k l : Nat} {oi ok ol : Oper} {fuel : Nat} {listed : Array Bool} {a : Act} {w : World} (hr : Region.ready md ops listed = [i, k, l]) (hi : ops[i]? = some oi) (hk : ops[k]? = some ok) (hl : ops[l]? = some ol)
    (hwi : Region.wanted oi (yielded ops a.tmps) = true) (hwk : Region.wanted ok (yielded ops a.tmps) = true) (hwl : Region.wanted ol (yielded ops a.tmps) = true)
    (h1 : ∀ K : Act → World → Prop, (∀ a' w', J w' → wpJ P md ops Q J fuel (listed.setIfInBounds i true) a' w' → K a' w') → Oper.wp P oi a w K Q)
    (h2 : ∀ K : Act → World → Prop, (∀ a' w', J w' → wpJ P md ops Q J fuel (listed.setIfInBounds k true) a' w' → K a' w') → Oper.wp P ok a w K Q)
    (h3 : ∀ K : Act → World → Prop, (∀ a' w', J w' → wpJ P md ops Q J fuel (listed.setIfInBounds l true) a' w' → K a' w') → Oper.wp P ol a w K Q) : wpJ P md ops Q J (fuel + 1) listed a w := by
  refine ⟨fun h => (by rw [hr] at h; cases h), fun j hj => ?_⟩
  rw [hr] at hj
  rcases List.mem_cons.1 hj with rfl | hj
  · unfold wpOp
    simp only [hi, hwi, if_true]
    exact .inl (h1 _ fun a' w' h1 h2 => ⟨h1, h2⟩)
  · rcases List.mem_cons.1 hj with rfl | hj
    · unfold wpOp
      simp only [hk, hwk, if_true]
      exact .inl (h2 _ fun a' w' h1 h2 => ⟨h1, h2⟩)
    · obtain rfl : j = l := by simpa using hj
      unfold wpOp
      simp only [hl, hwl, if_true]
      exact .inl (h3 _ fun a' w' h1 h2 => ⟨h1, h2⟩)

theorem Oper.wp_monoQ {Q' : Exit → Act → World → Prop} (hQ : ∀ x a w, Q' x a w → Q x a w) {o : Oper} {a : Act} {w : World} {K : Act → World → Prop}
    (hh : o.wp P a w K Q') : o.wp P a w K Q := by
  have hL : LetsOut Q' → LetsOut Q := fun ⟨a, w, h⟩ => ⟨a, w, hQ _ _ _ h⟩
  unfold Oper.wp at *
  generalize (execOp a.eval o).run P w = r at *
  cases r with
  | ok n w' =>
    cases n <;> simp only [Oper.upon] at hh ⊢ <;>
      first
        | exact hh
        | exact Calls.mono hh (fun e w'' he => by cases e <;> first | exact he | exact hQ _ _ _ he | exact hL he)
  | halt x w' => cases x <;> simp only [Oper.upon] at hh ⊢ <;> first | exact hh | exact hQ _ _ _ hh
theorem wpJ_monoQ {Q' : Exit → Act → World → Prop} (hQ : ∀ x a w, Q' x a w → Q x a w) :
    ∀ (fuel : Nat) (listed : Array Bool) (a : Act) (w : World), wpJ P md ops Q' J fuel listed a w → wpJ P md ops Q J fuel listed a w
  | 0, _, _, _, h => ⟨h.1, hQ _ _ _ h.2⟩
  | fuel + 1, _, _, _, h => by
    have hL : LetsOut Q' → LetsOut Q := fun ⟨a, w, h⟩ => ⟨a, w, hQ _ _ _ h⟩
    refine ⟨fun e => hQ _ _ _ (h.1 e), fun i hi => ?_⟩
    have h1 := wpOp_mono (fun a' w' h' => And.intro h'.1 (wpJ_monoQ hQ fuel _ a' w' h'.2)) (h.2 i hi)
    unfold wpOp at *
    split
    · rename_i ho; simp only [ho] at h1; exact h1
    · rename_i o ho
      simp only [ho] at h1
      split
      · rename_i hw
        simp only [hw, if_true] at h1
        exact h1.imp (Oper.wp_monoQ hQ) (fun h => ⟨h.1, hL h.2⟩)
      · rename_i hw; simp only [hw] at h1; exact h1
theorem wpJ_cut (R : Act → World → Prop) {fuel : Nat} {listed : Array Bool} {a : Act} {w : World} (hR : ∀ a' w', R a' w' → Q .normal a' w')
    (h : wpJ P md ops (fun x a' w' => x = .normal ∧ R a' w') J fuel listed a w) : wpJ P md ops Q J fuel listed a w :=
  wpJ_monoQ (fun x a w ⟨hx, hr⟩ => by subst hx; exact hR _ _ hr) _ _ _ _ h
theorem wpJ_cutA (R : Act → Act → World → Prop) {fuel : Nat} {listed : Array Bool} {a : Act} {w : World} (hR : ∀ a' w', R a a' w' → Q .normal a' w')
    (h : wpJ P md ops (fun x a' w' => x = .normal ∧ R a a' w') J fuel listed a w) : wpJ P md ops Q J fuel listed a w := wpJ_cut (R a) hR h
end Go.Proofs.YtbafjgmfonepnaaGreatDoor
namespace Go.Proofs.YtbafjgmfonepnaaGreatDoor
open Go.RowKit Go.Shelf
set_option maxRecDepth 20000
set_option maxHeartbeats 0
theorem dform_z {p : Option Addr} {m c : Nat} {w : World} {z e : Int} {s : Bool} (h : ZN w s p m c z) (hz : z = 0) (he : e = 0) :
    Calls Tryz.prog 78 #[DV s p m c e] w fun en w' => en = .returned (.bool true) ∧ Below w.heap.size w w' := by
  subst hz
  subst he
  have H : Hid (ZN w s p m c 0) := h
  clear h
  go_enter Tryz.func78, Tryz.ntmps78
  go_wp2_with fail
  obtain ⟨W0, hW0⟩ : ∃ W0, W0 = (w.alloc (.cells #[.bool s, .slice p m c, .int .i64 0] 96)) := ⟨_, rfl⟩
  have Xd : Hid (B3q W0 (w.heap.size) (.bool s) (.slice p m c) (.int .i64 0)) := by rw [hW0]; exact ⟨by go_simp, by go_simp, by go_simp, by go_simp, by go_simp, by go_simp⟩
  have hb0 : Below w.heap.size w W0 := by rw [hW0]; exact below1 w _
  rw [← hW0]
  clear hW0
  have hbw : Below w.heap.size w w := Below.refl _ _
  obtain ⟨gd, hgd⟩ : ∃ g, g = w.heap.size := ⟨_, rfl⟩
  have HGd : Hid (w.heap.size ≤ gd) := by rw [hgd]; show _ ≤ _; omega
  rw [← hgd] at Xd
  try rw [← hgd]
  clear hgd
  replace hbw := Below.on hbw hb0
  clear hb0
  refine (zform (H.out.below hbw)).mono ?_
  rintro e v1 ⟨rfl, hb1⟩
  replace Xd : Hid _ := Xd.out.below hb1
  replace hbw := Below.on hbw hb1
  clear hb1
  obtain ⟨cd0, cd1, cd2, fd0, fd1, fd2⟩ := Xd.out
  have hned : gd < v1.heap.size := World.block_lt_of_cell? v1 _ cd0
  go_wp2_with fail
  clear cd0 cd1 cd2 fd0 fd1 fd2 hned
  refine (zsign (H.out.below hbw)).mono ?_
  rintro e v2 ⟨rfl, hb2⟩
  rw [show sgnI 0 = 0 from rfl]
  replace Xd : Hid _ := Xd.out.below hb2
  replace hbw := Below.on hbw hb2
  clear hb2
  obtain ⟨cd0, cd1, cd2, fd0, fd1, fd2⟩ := Xd.out
  have hned : gd < v2.heap.size := World.block_lt_of_cell? v2 _ cd0
  go_wp2_with fail
  clear cd0 cd1 cd2 fd0 fd1 fd2 hned
  go_ret
  exact ⟨rfl, hbw⟩
theorem dform_o {p : Option Addr} {m c : Nat} {w : World} {z e : Int} {s : Bool} (h : ZN w s p m c z) (hz : z % 2 = 1) (he : -1048576 ≤ e ∧ e ≤ 1048576) :
    Calls Tryz.prog 78 #[DV s p m c e] w fun en w' => en = .returned (.bool true) ∧ Below w.heap.size w w' := by
  have H : Hid (ZN w s p m c z) := h
  have HZ : Hid (z % 2 = 1) := hz
  have h1 : (-1048576 : Int) ≤ e := he.1
  have h2 : e ≤ 1048576 := he.2
  have h3 : ¬ e < -1048576 := by omega
  have h4 : ¬ 1048576 < e := by omega
  clear hz he
  clear h
  go_enter Tryz.func78, Tryz.ntmps78
  go_wp2_with fail
  obtain ⟨W0, hW0⟩ : ∃ W0, W0 = (w.alloc (.cells #[.bool s, .slice p m c, .int .i64 e] 96)) := ⟨_, rfl⟩
  have Xd : Hid (B3q W0 (w.heap.size) (.bool s) (.slice p m c) (.int .i64 e)) := by rw [hW0]; exact ⟨by go_simp, by go_simp, by go_simp, by go_simp, by go_simp, by go_simp⟩
  have hb0 : Below w.heap.size w W0 := by rw [hW0]; exact below1 w _
  rw [← hW0]
  clear hW0
  have hbw : Below w.heap.size w w := Below.refl _ _
  obtain ⟨gd, hgd⟩ : ∃ g, g = w.heap.size := ⟨_, rfl⟩
  have HGd : Hid (w.heap.size ≤ gd) := by rw [hgd]; show _ ≤ _; omega
  rw [← hgd] at Xd
  try rw [← hgd]
  clear hgd
  replace hbw := Below.on hbw hb0
  clear hb0
  refine (zform (H.out.below hbw)).mono ?_
  rintro e v1 ⟨rfl, hb1⟩
  replace Xd : Hid _ := Xd.out.below hb1
  replace hbw := Below.on hbw hb1
  clear hb1
  obtain ⟨cd0, cd1, cd2, fd0, fd1, fd2⟩ := Xd.out
  have hned : gd < v1.heap.size := World.block_lt_of_cell? v1 _ cd0
  go_wp2_with fail
  clear cd0 cd1 cd2 fd0 fd1 fd2 hned
  refine (zsign (H.out.below hbw)).mono ?_
  rintro e v2 ⟨rfl, hb2⟩
  obtain ⟨sg, hsg⟩ : ∃ sg, sg = sgnI (z) := ⟨_, rfl⟩
  rw [← hsg]
  have hs0 : (sg == 0) = false := by rw [hsg]; have := HZ.out; unfold sgnI; split <;> (try split) <;> simp <;> omega
  clear hsg
  replace Xd : Hid _ := Xd.out.below hb2
  replace hbw := Below.on hbw hb2
  clear hb2
  obtain ⟨cd0, cd1, cd2, fd0, fd1, fd2⟩ := Xd.out
  have hned : gd < v2.heap.size := World.block_lt_of_cell? v2 _ cd0
  go_wp2_with fail
  clear cd0 cd1 cd2 fd0 fd1 fd2 hned
  obtain ⟨xs, hX⟩ := (H.out.below hbw).ex
  refine (bit_int hX.at_ (by have := hX.le; omega) 0 (by decide)).mono ?_
  rintro e2 v3 ⟨rfl, hw⟩
  obtain rfl := hw.symm
  clear hw
  rw [show bitO (valB B64 xs) 0 = true from by unfold bitO; rw [if_neg (by omega), hX.nf.val]; simp; have := HZ.out; omega]
  clear hX
  obtain ⟨cd0, cd1, cd2, fd0, fd1, fd2⟩ := Xd.out
  have hned : gd < v2.heap.size := World.block_lt_of_cell? v2 _ cd0
  go_wp2_with fail
  clear cd0 cd1 cd2 fd0 fd1 fd2 hned
  go_ret
  exact ⟨rfl, hbw⟩
theorem dform_t {p : Option Addr} {m c : Nat} {w : World} {z e : Int} {s : Bool} (h : DN w s p m c e z) :
    Calls Tryz.prog 78 #[DV s p m c e] w fun en w' => en = .returned (.bool true) ∧ Below w.heap.size w w' := by
  rcases h.fm with ⟨h1, h2⟩ | ⟨h1, h2⟩
  · exact dform_z h.zn h1 h2
  · exact dform_o h.zn h1 h2
theorem moved_ok (e n : Int) (w : World) (he : -1048576 ≤ e ∧ e ≤ 2097152) (hs : -1048576 ≤ e + n ∧ e + n ≤ 1048576) :
    Calls Tryz.prog 105 #[.int .i64 e, .int .i64 n] w fun en w' => en = .returned (.tuple #[.int .i64 (e + n), .int .i64 0]) ∧ w' = w := by
  have f1 : wrap64 (-1048576 - e) = -1048576 - e := by simp only [wrap64]; omega
  have f2 : wrap64 (1048576 - e) = 1048576 - e := by simp only [wrap64]; omega
  have f3 : wrap64 (e + n) = e + n := by simp only [wrap64]; omega
  have f4 : ¬ n < -1048576 - e := by omega
  have f5 : ¬ 1048576 - e < n := by omega
  clear he hs
  go_enter Tryz.func105, Tryz.ntmps105
  go_wp2_with fail
  go_ret2
  exact ⟨rfl, rfl⟩
theorem make_z {p : Option Addr} {m c : Nat} {w : World} {z e : Int} {s : Bool} (h : ZN w s p m c z) (he : -1048576 ≤ e ∧ e ≤ 524288) (hT : Tab w) (hz : z = 0) :
    Calls Tryz.prog 80 #[ZV s p m c, .int .i64 e] w fun en w' => ∃ v zo eo, en = .returned (.tuple #[v, .int .i64 0]) ∧ AnsD w.heap.size w' v zo eo ∧ DFm zo eo ∧ dv zo eo = dv z e ∧ zo.natAbs ≤ z.natAbs ∧ (zo = 0 ∨ (e ≤ eo ∧ eo ≤ e + 524288)) ∧ Below w.heap.size w w' := by
  have H : Hid (ZN w s p m c z) := h
  have HE : Hid (-1048576 ≤ e ∧ e ≤ 524288) := he
  have TB : Hid (Tab w) := hT
  subst hz
  clear h he hT
  go_enter Tryz.func80, Tryz.ntmps80
  go_wp2_with fail
  obtain ⟨W0, hW0⟩ : ∃ W0, W0 = ((w.alloc (.cells #[.bool s, .slice p m c] 94)).alloc (.cells #[.bool false, .slice none 0 0, .int .i64 0] 96)) := ⟨_, rfl⟩
  have Xm : Hid (Box W0 (w.heap.size) (.bool s) (.slice p m c)) := by rw [hW0]; exact ⟨by go_simp, by go_simp, by go_simp, by go_simp⟩
  have Xr : Hid (B3q W0 (w.heap.size + 1) (.bool false) (.slice none 0 0) (.int .i64 0)) := by rw [hW0]; exact ⟨by go_simp, by go_simp, by go_simp, by go_simp, by go_simp, by go_simp⟩
  have hb0 : Below w.heap.size w W0 := by rw [hW0]; exact below2 w _ _
  rw [← hW0]
  clear hW0
  have hbw : Below w.heap.size w w := Below.refl _ _
  obtain ⟨gr, hgr⟩ : ∃ g, g = w.heap.size + 1 := ⟨_, rfl⟩
  have HGr : Hid (w.heap.size ≤ gr) := by rw [hgr]; show _ ≤ _; omega
  rw [← hgr] at Xr
  try rw [← hgr]
  obtain ⟨gm, hgm⟩ : ∃ g, g = w.heap.size := ⟨_, rfl⟩
  have HGm : Hid (w.heap.size ≤ gm) := by rw [hgm]; show _ ≤ _; omega
  rw [← hgm] at Xm
  try rw [← hgm]
  have HGD : Hid (gm ≠ gr ∧ gr ≠ gm) := by rw [hgm, hgr]; exact ⟨by omega, by omega⟩
  clear hgm hgr
  replace hbw := Below.on hbw hb0
  clear hb0
  refine (zform (H.out.below hbw)).mono ?_
  rintro e v1 ⟨rfl, hb1⟩
  replace Xm : Hid _ := Xm.out.below hb1
  replace Xr : Hid _ := Xr.out.below hb1
  replace hbw := Below.on hbw hb1
  clear hb1
  obtain ⟨cm0, cm1, fm0, fm1⟩ := Xm.out
  have hnem := Xm.out.lt
  go_wp2_with fail
  clear cm0 cm1 fm0 fm1 hnem
  refine (zsign (H.out.below hbw)).mono ?_
  rintro e v2 ⟨rfl, hb2⟩
  rw [show sgnI 0 = 0 from rfl]
  replace Xm : Hid _ := Xm.out.below hb2
  replace Xr : Hid _ := Xr.out.below hb2
  replace hbw := Below.on hbw hb2
  clear hb2
  obtain ⟨cr0, cr1, cr2, fr0, fr1, fr2⟩ := Xr.out
  have hner : gr < v2.heap.size := World.block_lt_of_cell? v2 _ cr0
  go_wp2_with fail
  refine bodyPost_ret (v := .tuple #[DV false none 0 0 0, .int .i64 0]) (by rw [results_cell_tmp rfl]; go_simp) rfl ⟨_, 0, 0, rfl, ⟨none, 0, [], rfl, ⟨rfl, Dig.nil _, .inl rfl⟩, Nf.nil _, by omega⟩, .inl ⟨rfl, rfl⟩, by rw [dv_zero, dv_zero], by omega, .inl rfl, ?_⟩
  first | exact hbw | exact bSet (bSet (bSet hbw _ _ _ HGr.out) _ _ _ HGr.out) _ _ _ HGr.out
theorem make_n {p : Option Addr} {m c : Nat} {w : World} {z e : Int} {s : Bool} (h : ZN w s p m c z) (he : -1048576 ≤ e ∧ e ≤ 524288) (hT : Tab w) (hz : z ≠ 0) :
    Calls Tryz.prog 80 #[ZV s p m c, .int .i64 e] w fun en w' => ∃ v zo eo, en = .returned (.tuple #[v, .int .i64 0]) ∧ AnsD w.heap.size w' v zo eo ∧ DFm zo eo ∧ dv zo eo = dv z e ∧ zo.natAbs ≤ z.natAbs ∧ (zo = 0 ∨ (e ≤ eo ∧ eo ≤ e + 524288)) ∧ Below w.heap.size w w' := by
  have H : Hid (ZN w s p m c z) := h
  have HE : Hid (-1048576 ≤ e ∧ e ≤ 524288) := he
  have TB : Hid (Tab w) := hT
  have HZ : Hid (z ≠ 0) := hz
  clear hz
  clear h he hT
  go_enter Tryz.func80, Tryz.ntmps80
  go_wp2_with fail
  obtain ⟨W0, hW0⟩ : ∃ W0, W0 = ((w.alloc (.cells #[.bool s, .slice p m c] 94)).alloc (.cells #[.bool false, .slice none 0 0, .int .i64 0] 96)) := ⟨_, rfl⟩
  have Xm : Hid (Box W0 (w.heap.size) (.bool s) (.slice p m c)) := by rw [hW0]; exact ⟨by go_simp, by go_simp, by go_simp, by go_simp⟩
  have Xr : Hid (B3q W0 (w.heap.size + 1) (.bool false) (.slice none 0 0) (.int .i64 0)) := by rw [hW0]; exact ⟨by go_simp, by go_simp, by go_simp, by go_simp, by go_simp, by go_simp⟩
  have hb0 : Below w.heap.size w W0 := by rw [hW0]; exact below2 w _ _
  rw [← hW0]
  clear hW0
  have hbw : Below w.heap.size w w := Below.refl _ _
  obtain ⟨gr, hgr⟩ : ∃ g, g = w.heap.size + 1 := ⟨_, rfl⟩
  have HGr : Hid (w.heap.size ≤ gr) := by rw [hgr]; show _ ≤ _; omega
  rw [← hgr] at Xr
  try rw [← hgr]
  obtain ⟨gm, hgm⟩ : ∃ g, g = w.heap.size := ⟨_, rfl⟩
  have HGm : Hid (w.heap.size ≤ gm) := by rw [hgm]; show _ ≤ _; omega
  rw [← hgm] at Xm
  try rw [← hgm]
  have HGD : Hid (gm ≠ gr ∧ gr ≠ gm) := by rw [hgm, hgr]; exact ⟨by omega, by omega⟩
  clear hgm hgr
  replace hbw := Below.on hbw hb0
  clear hb0
  refine (zform (H.out.below hbw)).mono ?_
  rintro e v1 ⟨rfl, hb1⟩
  replace Xm : Hid _ := Xm.out.below hb1
  replace Xr : Hid _ := Xr.out.below hb1
  replace hbw := Below.on hbw hb1
  clear hb1
  obtain ⟨cm0, cm1, fm0, fm1⟩ := Xm.out
  have hnem := Xm.out.lt
  go_wp2_with fail
  clear cm0 cm1 fm0 fm1 hnem
  refine (zsign (H.out.below hbw)).mono ?_
  rintro e v2 ⟨rfl, hb2⟩
  obtain ⟨sg, hsg⟩ : ∃ sg, sg = sgnI (z) := ⟨_, rfl⟩
  rw [← hsg]
  have hs0 : (sg == 0) = false := by rw [hsg]; have := HZ.out; unfold sgnI; split <;> (try split) <;> simp <;> omega
  clear hsg
  replace Xm : Hid _ := Xm.out.below hb2
  replace Xr : Hid _ := Xr.out.below hb2
  replace hbw := Below.on hbw hb2
  clear hb2
  obtain ⟨cm0, cm1, fm0, fm1⟩ := Xm.out
  have hnem := Xm.out.lt
  go_wp2_with fail
  clear cm0 cm1 fm0 fm1 hnem
  obtain ⟨k, hk⟩ := TzO.ex z.natAbs
  have HK : Hid (TzO z.natAbs k) := hk
  have hkb : k ≤ 524288 := by
    have h1 := (lim_bits z.natAbs).1 H.out.lim
    rcases hk with ⟨h0, _⟩ | ⟨_, h2, h3⟩
    · exact absurd (Int.natAbs_eq_zero.1 h0) HZ.out
    · have h4 : 2 ^ k ≤ z.natAbs := by
        rcases Nat.lt_or_ge z.natAbs (2 ^ k) with h | h
        · rw [Nat.div_eq_of_lt h] at h3; omega
        · exact h
      have h5 := bitsN_lt z.natAbs
      have h6 := (Nat.pow_lt_pow_iff_right (by omega : 1 < 2)).1 (Nat.lt_of_le_of_lt h4 h5)
      omega
  have HKB : Hid (k ≤ 524288) := hkb
  clear hk hkb
  obtain ⟨xs, hX⟩ := (H.out.below hbw).ex
  refine (trail_any hX.at_ (by have := hX.le; omega) (k := k) (by rw [hX.nf.val]; exact HK.out) (TB.out.below hbw)).mono ?_
  rintro e2 v3 ⟨rfl, hw⟩
  obtain rfl := hw.symm
  clear hw hX
  go_wp2_with fail
  refine (moved_ok k e _ (by have := HKB.out; omega) (by have := HKB.out; have := HE.out; omega)).mono ?_
  rintro e2 v4 ⟨rfl, hw⟩
  obtain rfl := hw.symm
  clear hw
  obtain ⟨cm0, cm1, fm0, fm1⟩ := Xm.out
  have hnem := Xm.out.lt
  go_wp2_with fail
  clear cm0 cm1 fm0 fm1 hnem
  obtain ⟨o, ho9⟩ : ∃ o, o = fl (decide (z < 0)) z.natAbs (2 ^ k) := ⟨_, rfl⟩
  have HO9 : Hid (o % 2 = 1 ∧ o * ((2 ^ k : Nat) : Int) = z ∧ o.natAbs ≤ z.natAbs) := by rw [ho9]; exact tz_split HZ.out HK.out
  have HRL : Hid (gr < v2.heap.size ∧ w.heap.size ≤ v2.heap.size) := ⟨Xr.out.lt, hbw.size⟩
  obtain ⟨xs, hX⟩ := (H.out.below hbw).ex
  refine (fshr_any s hX H.out.pos k (by have := HKB.out; omega) (TB.out.below hbw)).mono ?_
  rintro e2 v5 ⟨v, rfl, hv, hb5⟩
  rw [H.out.sg, ← ho9] at hv
  obtain ⟨p5, m5, z5, rfl, ho5, hn5, hm5⟩ := hv
  clear hX ho9
  replace Xm : Hid _ := Xm.out.below hb5
  replace Xr : Hid _ := Xr.out.below hb5
  replace hbw := Below.on hbw hb5
  clear hb5
  have O5 : Hid (Own v2.heap.size v5 p5 m5 z5) := ho5
  have N5 : Hid (Nf B64 z5 o.natAbs ∧ m5 ≤ 8192) := ⟨hn5, hm5⟩
  clear ho5 hn5 hm5
  obtain ⟨so, hso⟩ : ∃ b, b = decide (o < 0) := ⟨_, rfl⟩
  rw [← hso]
  have HSO : Hid (so = decide (o < 0)) := hso
  clear hso
  obtain ⟨cr0, cr1, cr2, fr0, fr1, fr2⟩ := Xr.out
  have hner : gr < v5.heap.size := World.block_lt_of_cell? v5 _ cr0
  go_wp2_with fail
  refine bodyPost_ret (v := .tuple #[DV so p5 m5 m5 (k + e), .int .i64 0]) (by rw [results_cell_tmp rfl]; go_simp) rfl ⟨_, o, k + e, rfl, ⟨p5, m5, z5, by rw [HSO.out], ?_, N5.out.1, N5.out.2⟩, ?_, ?_, HO9.out.2.2, ?_, ?_⟩
  · exact (own_set3 O5.out HRL.out.1 HRL.out.2 _ _ _).below (below1 _ _)
  · have := HKB.out; have := HE.out
    exact .inr ⟨HO9.out.1, by omega, by omega⟩
  · rw [dv_shift (e := (k : Int) + e) (f := e) (by omega) (by have := HE.out; omega), show ((k : Int) + e - e).toNat = k from by omega, HO9.out.2.1]
  · have := HKB.out
    exact .inr ⟨by omega, by omega⟩
  · exact Below.on (bSet (bSet (bSet hbw _ _ _ HGr.out) _ _ _ HGr.out) _ _ _ HGr.out) (below1 _ _)
theorem make_any {p : Option Addr} {m c : Nat} {w : World} {z e : Int} {s : Bool} (h : ZN w s p m c z) (he : -1048576 ≤ e ∧ e ≤ 524288) (hT : Tab w) :
    Calls Tryz.prog 80 #[ZV s p m c, .int .i64 e] w fun en w' => ∃ v zo eo, en = .returned (.tuple #[v, .int .i64 0]) ∧ AnsD w.heap.size w' v zo eo ∧ DFm zo eo ∧ dv zo eo = dv z e ∧ zo.natAbs ≤ z.natAbs ∧ (zo = 0 ∨ (e ≤ eo ∧ eo ≤ e + 524288)) ∧ Below w.heap.size w w' := by
  by_cases hz : z = 0
  · exact make_z h he hT hz
  · exact make_n h he hT hz
theorem dmul {p q : Option Addr} {m c n d : Nat} {w : World} {x y e f : Int} {s t : Bool} (h : DN w s p m c e x) (k : DN w t q n d f y) (hl : (x * y).natAbs < LIM) (he : -1048576 ≤ e + f ∧ e + f ≤ 524288) (hT : Tab w) :
    Calls Tryz.prog 60 #[DV s p m c e, DV t q n d f] w fun en w' => ∃ v zo eo, en = .returned (.tuple #[v, .int .i64 0]) ∧ AnsD w.heap.size w' v zo eo ∧ DFm zo eo ∧ dv zo eo = dv (x * y) (e + f) ∧ zo.natAbs ≤ (x * y).natAbs ∧ (zo = 0 ∨ (e + f ≤ eo ∧ eo ≤ e + f + 524288)) ∧ Below w.heap.size w w' := by
  have H : Hid (DN w s p m c e x) := h
  have K : Hid (DN w t q n d f y) := k
  have HL : Hid ((x * y).natAbs < LIM ∧ -1048576 ≤ e + f ∧ e + f ≤ 524288) := ⟨hl, he⟩
  have TB : Hid (Tab w) := hT
  have f1 : wrap64 (e + f) = e + f := by simp only [wrap64]; omega
  have f2 : IntKind.i64.wrap (e + f) = e + f := by simp [IntKind.wrap, IntKind.signed, IntKind.bits]; omega
  have F1 : Hid (wrap64 (e + f) = e + f ∧ IntKind.i64.wrap (e + f) = e + f) := ⟨f1, f2⟩
  clear h k hl he hT f1 f2
  go_enter Tryz.func60, Tryz.ntmps60
  go_wp2_with fail
  obtain ⟨W0, hW0⟩ : ∃ W0, W0 = (((w.alloc (.cells #[.bool s, .slice p m c, .int .i64 e] 96)).alloc (.cells #[.bool t, .slice q n d, .int .i64 f] 96)).alloc (.cells #[.bool false, .slice none 0 0, .int .i64 0] 96)) := ⟨_, rfl⟩
  have Xa : Hid (B3q W0 (w.heap.size) (.bool s) (.slice p m c) (.int .i64 e)) := by rw [hW0]; exact ⟨by go_simp, by go_simp, by go_simp, by go_simp, by go_simp, by go_simp⟩
  have Xb : Hid (B3q W0 (w.heap.size + 1) (.bool t) (.slice q n d) (.int .i64 f)) := by rw [hW0]; exact ⟨by go_simp, by go_simp, by go_simp, by go_simp, by go_simp, by go_simp⟩
  have Xr : Hid (B3q W0 (w.heap.size + 1 + 1) (.bool false) (.slice none 0 0) (.int .i64 0)) := by rw [hW0]; exact ⟨by go_simp, by go_simp, by go_simp, by go_simp, by go_simp, by go_simp⟩
  have hb0 : Below w.heap.size w W0 := by rw [hW0]; exact below3 w _ _ _
  rw [← hW0]
  clear hW0
  have hbw : Below w.heap.size w w := Below.refl _ _
  obtain ⟨gr, hgr⟩ : ∃ g, g = w.heap.size + 1 + 1 := ⟨_, rfl⟩
  have HGr : Hid (w.heap.size ≤ gr) := by rw [hgr]; show _ ≤ _; omega
  rw [← hgr] at Xr
  try rw [← hgr]
  obtain ⟨gb, hgb⟩ : ∃ g, g = w.heap.size + 1 := ⟨_, rfl⟩
  have HGb : Hid (w.heap.size ≤ gb) := by rw [hgb]; show _ ≤ _; omega
  rw [← hgb] at Xb
  try rw [← hgb]
  obtain ⟨ga, hga⟩ : ∃ g, g = w.heap.size := ⟨_, rfl⟩
  have HGa : Hid (w.heap.size ≤ ga) := by rw [hga]; show _ ≤ _; omega
  rw [← hga] at Xa
  try rw [← hga]
  have HGD : Hid (ga ≠ gb ∧ ga ≠ gr ∧ gb ≠ ga ∧ gb ≠ gr ∧ gr ≠ ga ∧ gr ≠ gb) := by rw [hga, hgb, hgr]; exact ⟨by omega, by omega, by omega, by omega, by omega, by omega⟩
  clear hga hgb hgr
  replace hbw := Below.on hbw hb0
  clear hb0
  refine (dform_t (H.out.below hbw)).mono ?_
  rintro e v1 ⟨rfl, hb1⟩
  replace Xa : Hid _ := Xa.out.below hb1
  replace Xb : Hid _ := Xb.out.below hb1
  replace Xr : Hid _ := Xr.out.below hb1
  replace hbw := Below.on hbw hb1
  clear hb1
  obtain ⟨cb0, cb1, cb2, fb0, fb1, fb2⟩ := Xb.out
  have hneb : gb < v1.heap.size := World.block_lt_of_cell? v1 _ cb0
  go_wp2_with fail
  clear cb0 cb1 cb2 fb0 fb1 fb2 hneb
  refine (dform_t (K.out.below hbw)).mono ?_
  rintro e v2 ⟨rfl, hb2⟩
  replace Xa : Hid _ := Xa.out.below hb2
  replace Xb : Hid _ := Xb.out.below hb2
  replace Xr : Hid _ := Xr.out.below hb2
  replace hbw := Below.on hbw hb2
  clear hb2
  obtain ⟨ca0, ca1, ca2, fa0, fa1, fa2⟩ := Xa.out
  have hnea : ga < v2.heap.size := World.block_lt_of_cell? v2 _ ca0
  obtain ⟨cb0, cb1, cb2, fb0, fb1, fb2⟩ := Xb.out
  have hneb : gb < v2.heap.size := World.block_lt_of_cell? v2 _ cb0
  go_wp2_with fail
  clear ca0 ca1 ca2 fa0 fa1 fa2 hnea
  clear cb0 cb1 cb2 fb0 fb1 fb2 hneb
  refine (zmul (H.out.zn.below hbw) (K.out.zn.below hbw)).mono ?_
  rintro e2 v5 ⟨ha, hb5⟩
  obtain ⟨s5, p5, m5, rfl, hz⟩ := ha.got HL.out.1
  clear ha
  replace Xa : Hid _ := Xa.out.below hb5
  replace Xb : Hid _ := Xb.out.below hb5
  replace Xr : Hid _ := Xr.out.below hb5
  replace hbw := Below.on hbw hb5
  clear hb5
  have Z5 : Hid (ZN v5 s5 p5 m5 m5 (x * y)) := hz
  clear hz
  have f1 := F1.out.1
  have f2 := F1.out.2
  obtain ⟨ca0, ca1, ca2, fa0, fa1, fa2⟩ := Xa.out
  have hnea : ga < v5.heap.size := World.block_lt_of_cell? v5 _ ca0
  obtain ⟨cb0, cb1, cb2, fb0, fb1, fb2⟩ := Xb.out
  have hneb : gb < v5.heap.size := World.block_lt_of_cell? v5 _ cb0
  go_wp2_with fail
  clear ca0 ca1 ca2 fa0 fa1 fa2 hnea
  clear cb0 cb1 cb2 fb0 fb1 fb2 hneb
  clear f1 f2
  have Xq0 : Hid (Box (v5.alloc (.cells #[.bool s5, .slice p5 m5 m5] 94)) v5.heap.size (.bool s5) (.slice p5 m5 m5)) := Box.new v5 _ _ _
  have hbn : Below v5.heap.size v5 (v5.alloc (.cells #[.bool s5, .slice p5 m5 m5] 94)) := below1 v5 _
  generalize v5.alloc (.cells #[.bool s5, .slice p5 m5 m5] 94) = Wq at *
  have HGq : Hid (w.heap.size ≤ v5.heap.size) := hbw.size
  replace Xa : Hid _ := Xa.out.below hbn
  replace Xb : Hid _ := Xb.out.below hbn
  replace Xr : Hid _ := Xr.out.below hbn
  replace Z5 : Hid _ := Z5.out.below hbn
  replace hbw := Below.on hbw hbn
  clear hbn
  generalize v5.heap.size = gq at *
  have Xq := Xq0
  clear Xq0
  have HRL : Hid (gr < Wq.heap.size ∧ w.heap.size ≤ Wq.heap.size) := ⟨Xr.out.lt, hbw.size⟩
  refine (make_any Z5.out HL.out.2 (TB.out.below hbw)).mono ?_
  rintro e2 v6 ⟨v, zo, eo, rfl, hv, hfm, hdv, hle, hor, hb6⟩
  obtain ⟨p6, m6, z6, rfl, ho6, hn6, hm6⟩ := hv
  replace Xa : Hid _ := Xa.out.below hb6
  replace Xb : Hid _ := Xb.out.below hb6
  replace Xr : Hid _ := Xr.out.below hb6
  replace Xq : Hid _ := Xq.out.below hb6
  replace Z5 : Hid _ := Z5.out.below hb6
  replace hbw := Below.on hbw hb6
  clear hb6
  have O6 : Hid (Own Wq.heap.size v6 p6 m6 z6) := ho6
  have N6 : Hid (Nf B64 z6 zo.natAbs ∧ m6 ≤ 8192 ∧ DFm zo eo ∧ dv zo eo = dv (x * y) (e + f) ∧ zo.natAbs ≤ (x * y).natAbs ∧ (zo = 0 ∨ (e + f ≤ eo ∧ eo ≤ e + f + 524288))) := ⟨hn6, hm6, hfm, hdv, hle, hor⟩
  clear ho6 hn6 hm6 hfm hdv hle hor
  obtain ⟨so, hso⟩ : ∃ b, b = decide (zo < 0) := ⟨_, rfl⟩
  rw [← hso]
  have HSO : Hid (so = decide (zo < 0)) := hso
  clear hso
  obtain ⟨cr0, cr1, cr2, fr0, fr1, fr2⟩ := Xr.out
  have hner : gr < v6.heap.size := World.block_lt_of_cell? v6 _ cr0
  go_wp2_with fail
  refine bodyPost_ret (v := .tuple #[DV so p6 m6 m6 eo, .int .i64 0]) (by rw [results_cell_tmp rfl]; go_simp) rfl ⟨_, zo, eo, rfl, ⟨p6, m6, z6, by rw [HSO.out], ?_, N6.out.1, N6.out.2.1⟩, N6.out.2.2.1, N6.out.2.2.2.1, N6.out.2.2.2.2.1, N6.out.2.2.2.2.2, ?_⟩
  · exact own_set3 O6.out HRL.out.1 HRL.out.2 _ _ _
  · exact bSet (bSet (bSet hbw _ _ _ HGr.out) _ _ _ HGr.out) _ _ _ HGr.out
theorem below4 (w : World) (a b c d : Obj) : Below w.heap.size w ((((w.alloc a).alloc b).alloc c).alloc d) := (below3 w a b c).alloc (by simp; omega) d
theorem results_c2t2 {fn : Func} {p u t1 t2 : Tmp} {ty ty2 : TypeId} (h : fn.results = #[.cell p ty, .cell u ty2, .tmp t1, .tmp t2]) (tmps : Array Value) (P : Program) (w : World) :
    (results fn tmps).run P w = ((asAddr (tmps.getD p undef)).run P w).andThen fun a w₁ => ((loadVar ty a).run P w₁).andThen fun v w₂ => ((asAddr (tmps.getD u undef)).run P w₂).andThen fun b w₃ => ((loadVar ty2 b).run P w₃).andThen fun v2 w₄ => .ok (.tuple #[v, v2, tmps.getD t1 undef, tmps.getD t2 undef]) w₄ := by
  simp only [results, h]
  simp [Sem.run_bind, Result.andThen]
theorem daligned {p q : Option Addr} {m c n d : Nat} {w : World} {x y e f g : Int} {s t : Bool} (h : ZN w s p m c x) (k : ZN w t q n d y) (hg : g = min e f) (he : -1048576 ≤ e ∧ e ≤ 1048576 ∧ -1048576 ≤ f ∧ f ≤ 1048576) (hx : (x * 2 ^ (e - g).toNat).natAbs < LIM) (hy : (y * 2 ^ (f - g).toNat).natAbs < LIM) :
    Calls Tryz.prog 98 #[DV s p m c e, DV t q n d f] w fun en w' => ∃ s1 p1 m1 s2 p2 m2, en = .returned (.tuple #[ZV s1 p1 m1 m1, ZV s2 p2 m2 m2, .int .i64 g, .int .i64 0]) ∧ ZN w' s1 p1 m1 m1 (x * 2 ^ (e - g).toNat) ∧ ZN w' s2 p2 m2 m2 (y * 2 ^ (f - g).toNat) ∧ Below w.heap.size w w' := by
  have H : Hid (ZN w s p m c x) := h
  have K : Hid (ZN w t q n d y) := k
  have HX : Hid ((x * 2 ^ (e - g).toNat).natAbs < LIM ∧ (y * 2 ^ (f - g).toNat).natAbs < LIM) := ⟨hx, hy⟩
  obtain ⟨a, ha⟩ : ∃ a : Nat, a = (e - g).toNat := ⟨_, rfl⟩
  obtain ⟨b, hb⟩ : ∃ b : Nat, b = (f - g).toNat := ⟨_, rfl⟩
  have f1 : wrap64 (e - g) = (a : Int) := by simp only [wrap64]; omega
  have f2 : wrap64 (f - g) = (b : Int) := by simp only [wrap64]; omega
  have f3 : min e f = g := hg.symm
  have HAB : Hid (a = (e - g).toNat ∧ b = (f - g).toNat ∧ a ≤ 9223372036854775807 ∧ b ≤ 9223372036854775807) := ⟨ha, hb, by omega, by omega⟩
  clear h k hx hy ha hb he hg
  go_enter Tryz.func98, Tryz.ntmps98
  go_wp2_with fail
  obtain ⟨W0, hW0⟩ : ∃ W0, W0 = ((((w.alloc (.cells #[.bool s, .slice p m c, .int .i64 e] 96)).alloc (.cells #[.bool t, .slice q n d, .int .i64 f] 96)).alloc (.cells #[.bool false, .slice none 0 0] 94)).alloc (.cells #[.bool false, .slice none 0 0] 94)) := ⟨_, rfl⟩
  have Xa : Hid (B3q W0 (w.heap.size) (.bool s) (.slice p m c) (.int .i64 e)) := by rw [hW0]; exact ⟨by go_simp, by go_simp, by go_simp, by go_simp, by go_simp, by go_simp⟩
  have Xb : Hid (B3q W0 (w.heap.size + 1) (.bool t) (.slice q n d) (.int .i64 f)) := by rw [hW0]; exact ⟨by go_simp, by go_simp, by go_simp, by go_simp, by go_simp, by go_simp⟩
  have Xx : Hid (Box W0 (w.heap.size + 1 + 1) (.bool false) (.slice none 0 0)) := by rw [hW0]; exact ⟨by go_simp, by go_simp, by go_simp, by go_simp⟩
  have Xy : Hid (Box W0 (w.heap.size + 1 + 1 + 1) (.bool false) (.slice none 0 0)) := by rw [hW0]; exact ⟨by go_simp, by go_simp, by go_simp, by go_simp⟩
  have hb0 : Below w.heap.size w W0 := by rw [hW0]; exact below4 w _ _ _ _
  rw [← hW0]
  clear hW0
  have hbw : Below w.heap.size w w := Below.refl _ _
  obtain ⟨gy, hgy⟩ : ∃ g, g = w.heap.size + 1 + 1 + 1 := ⟨_, rfl⟩
  have HGy : Hid (w.heap.size ≤ gy) := by rw [hgy]; show _ ≤ _; omega
  rw [← hgy] at Xy
  try rw [← hgy]
  obtain ⟨gx, hgx⟩ : ∃ g, g = w.heap.size + 1 + 1 := ⟨_, rfl⟩
  have HGx : Hid (w.heap.size ≤ gx) := by rw [hgx]; show _ ≤ _; omega
  rw [← hgx] at Xx
  try rw [← hgx]
  obtain ⟨gb, hgb⟩ : ∃ g, g = w.heap.size + 1 := ⟨_, rfl⟩
  have HGb : Hid (w.heap.size ≤ gb) := by rw [hgb]; show _ ≤ _; omega
  rw [← hgb] at Xb
  try rw [← hgb]
  obtain ⟨ga, hga⟩ : ∃ g, g = w.heap.size := ⟨_, rfl⟩
  have HGa : Hid (w.heap.size ≤ ga) := by rw [hga]; show _ ≤ _; omega
  rw [← hga] at Xa
  try rw [← hga]
  have HGD : Hid (ga ≠ gb ∧ ga ≠ gx ∧ ga ≠ gy ∧ gb ≠ ga ∧ gb ≠ gx ∧ gb ≠ gy ∧ gx ≠ ga ∧ gx ≠ gb ∧ gx ≠ gy ∧ gy ≠ ga ∧ gy ≠ gb ∧ gy ≠ gx) := by rw [hga, hgb, hgx, hgy]; exact ⟨by omega, by omega, by omega, by omega, by omega, by omega, by omega, by omega, by omega, by omega, by omega, by omega⟩
  clear hga hgb hgx hgy
  replace hbw := Below.on hbw hb0
  clear hb0
  have HB5 : Hid (gx < W0.heap.size ∧ gy < W0.heap.size ∧ w.heap.size ≤ W0.heap.size) := ⟨Xx.out.lt, Xy.out.lt, hbw.size⟩
  refine (zshl (H.out.below hbw) a HAB.out.2.2.1).mono ?_
  rintro e2 v5 ⟨ha5, hb5⟩
  rcases ha5 with ⟨_, p5, m5, z5, rfl, ho5, hn5, hm5⟩ | ⟨hl5, rfl⟩
  case inr => (exact absurd (by have h8 := HX.out.1; have h9 := HAB.out; rw [← h9.1] at h8; exact h8) (Nat.not_lt.2 hl5))
  replace Xa : Hid _ := Xa.out.below hb5
  replace Xb : Hid _ := Xb.out.below hb5
  replace Xx : Hid _ := Xx.out.below hb5
  replace Xy : Hid _ := Xy.out.below hb5
  replace hbw := Below.on hbw hb5
  clear hb5
  have O5 : Hid (Own W0.heap.size v5 p5 m5 z5) := ho5
  have N5 : Hid (Nf B64 z5 (x * 2 ^ a).natAbs ∧ m5 ≤ 8192) := ⟨hn5, hm5⟩
  obtain ⟨s5, hs5⟩ : ∃ bo, bo = decide ((x * 2 ^ a) < 0) := ⟨_, rfl⟩
  rw [← hs5]
  have HS5 : Hid (s5 = decide ((x * 2 ^ a) < 0)) := hs5
  clear ho5 hn5 hm5 hs5
  obtain ⟨hgd0, hgd1, hgd2, hgd3, hgd4, hgd5, hgd6, hgd7, hgd8, hgd9, hgd10, hgd11⟩ := HGD.out
  obtain ⟨ca0, ca1, ca2, fa0, fa1, fa2⟩ := Xa.out
  have hnea : ga < v5.heap.size := World.block_lt_of_cell? v5 _ ca0
  obtain ⟨cb0, cb1, cb2, fb0, fb1, fb2⟩ := Xb.out
  have hneb : gb < v5.heap.size := World.block_lt_of_cell? v5 _ cb0
  obtain ⟨cx0, cx1, fx0, fx1⟩ := Xx.out
  have hnex := Xx.out.lt
  go_wp2_with fail
  obtain ⟨cy0, cy1, fy0, fy1⟩ := Xy.out
  have hney := Xy.out.lt
  have Xx2 : Hid (Box ((v5.setCell ⟨gx, 0, none⟩ (.bool s5)).setCell ⟨gx, 1, none⟩ (.slice p5 m5 m5)) gx (.bool s5) (.slice p5 m5 m5)) := ⟨by go_simp, by go_simp, by go_simp, by go_simp⟩
  have Xy2 : Hid (Box ((v5.setCell ⟨gx, 0, none⟩ (.bool s5)).setCell ⟨gx, 1, none⟩ (.slice p5 m5 m5)) gy (.bool false) (.slice none 0 0)) := ⟨by go_simp, by go_simp, by go_simp, by go_simp⟩
  have Xa2 : Hid (B3q ((v5.setCell ⟨gx, 0, none⟩ (.bool s5)).setCell ⟨gx, 1, none⟩ (.slice p5 m5 m5)) ga (.bool s) (.slice p m c) (.int .i64 e)) := ⟨by go_simp, by go_simp, by go_simp, by go_simp, by go_simp, by go_simp⟩
  have Xb2 : Hid (B3q ((v5.setCell ⟨gx, 0, none⟩ (.bool s5)).setCell ⟨gx, 1, none⟩ (.slice p5 m5 m5)) gb (.bool t) (.slice q n d) (.int .i64 f)) := ⟨by go_simp, by go_simp, by go_simp, by go_simp, by go_simp, by go_simp⟩
  have O52 : Hid (Own W0.heap.size ((v5.setCell ⟨gx, 0, none⟩ (.bool s5)).setCell ⟨gx, 1, none⟩ (.slice p5 m5 m5)) p5 m5 z5) := own_set2 O5.out HB5.out.1 (Nat.le_refl _) _ _
  have hbw2 : Below w.heap.size w ((v5.setCell ⟨gx, 0, none⟩ (.bool s5)).setCell ⟨gx, 1, none⟩ (.slice p5 m5 m5)) := bSet (bSet hbw _ _ _ HGx.out) _ _ _ HGx.out
  clear ca0 ca1 ca2 fa0 fa1 fa2 hnea
  clear cb0 cb1 cb2 fb0 fb1 fb2 hneb
  clear cx0 cx1 fx0 fx1 hnex
  clear cy0 cy1 fy0 fy1 hney
  clear Xx Xy Xa Xb O5 hbw hgd0 hgd1 hgd2 hgd3 hgd4 hgd5 hgd6 hgd7 hgd8 hgd9 hgd10 hgd11
  generalize ((v5.setCell ⟨gx, 0, none⟩ (.bool s5)).setCell ⟨gx, 1, none⟩ (.slice p5 m5 m5)) = W6 at *
  have Xx := Xx2
  have Xy := Xy2
  have Xa := Xa2
  have Xb := Xb2
  have O5 := O52
  have hbw := hbw2
  clear Xx2 Xy2 Xa2 Xb2 O52 hbw2
  have HB7 : Hid (gx < W6.heap.size ∧ gy < W6.heap.size ∧ w.heap.size ≤ W6.heap.size) := ⟨Xx.out.lt, Xy.out.lt, hbw.size⟩
  refine (zshl (K.out.below hbw) b HAB.out.2.2.2).mono ?_
  rintro e2 v7 ⟨ha7, hb7⟩
  rcases ha7 with ⟨_, p7, m7, z7, rfl, ho7, hn7, hm7⟩ | ⟨hl7, rfl⟩
  case inr => (exact absurd (by have h8 := HX.out.2; have h9 := HAB.out; rw [← h9.2.1] at h8; exact h8) (Nat.not_lt.2 hl7))
  replace Xa : Hid _ := Xa.out.below hb7
  replace Xb : Hid _ := Xb.out.below hb7
  replace Xx : Hid _ := Xx.out.below hb7
  replace Xy : Hid _ := Xy.out.below hb7
  replace O5 : Hid (Own W0.heap.size v7 p5 m5 z5) := O5.out.below hb7
  replace hbw := Below.on hbw hb7
  clear hb7
  have O7 : Hid (Own W6.heap.size v7 p7 m7 z7) := ho7
  have N7 : Hid (Nf B64 z7 (y * 2 ^ b).natAbs ∧ m7 ≤ 8192) := ⟨hn7, hm7⟩
  obtain ⟨s7, hs7⟩ : ∃ bo, bo = decide ((y * 2 ^ b) < 0) := ⟨_, rfl⟩
  rw [← hs7]
  have HS7 : Hid (s7 = decide ((y * 2 ^ b) < 0)) := hs7
  clear ho7 hn7 hm7 hs7
  obtain ⟨hgd0, hgd1, hgd2, hgd3, hgd4, hgd5, hgd6, hgd7, hgd8, hgd9, hgd10, hgd11⟩ := HGD.out
  obtain ⟨cx0, cx1, fx0, fx1⟩ := Xx.out
  have hnex := Xx.out.lt
  obtain ⟨cy0, cy1, fy0, fy1⟩ := Xy.out
  have hney := Xy.out.lt
  go_wp2_with fail
  clear cx0 cx1 fx0 fx1 hnex
  clear cy0 cy1 fy0 fy1 hney
  obtain ⟨cx0, cx1, fx0, fx1⟩ := Xx.out
  have hnex := Xx.out.lt
  obtain ⟨cy0, cy1, fy0, fy1⟩ := Xy.out
  have hney := Xy.out.lt
  have Xy2 : Hid (Box ((v7.setCell ⟨gy, 0, none⟩ (.bool s7)).setCell ⟨gy, 1, none⟩ (.slice p7 m7 m7)) gy (.bool s7) (.slice p7 m7 m7)) := ⟨by go_simp, by go_simp, by go_simp, by go_simp⟩
  have Xx2 : Hid (Box ((v7.setCell ⟨gy, 0, none⟩ (.bool s7)).setCell ⟨gy, 1, none⟩ (.slice p7 m7 m7)) gx (.bool s5) (.slice p5 m5 m5)) := ⟨by go_simp, by go_simp, by go_simp, by go_simp⟩
  have O52 : Hid (Own W0.heap.size ((v7.setCell ⟨gy, 0, none⟩ (.bool s7)).setCell ⟨gy, 1, none⟩ (.slice p7 m7 m7)) p5 m5 z5) := own_set2 O5.out HB5.out.2.1 (Nat.le_refl _) _ _
  have O72 : Hid (Own W6.heap.size ((v7.setCell ⟨gy, 0, none⟩ (.bool s7)).setCell ⟨gy, 1, none⟩ (.slice p7 m7 m7)) p7 m7 z7) := own_set2 O7.out HB7.out.2.1 (Nat.le_refl _) _ _
  have hbw2 : Below w.heap.size w ((v7.setCell ⟨gy, 0, none⟩ (.bool s7)).setCell ⟨gy, 1, none⟩ (.slice p7 m7 m7)) := bSet (bSet hbw _ _ _ HGy.out) _ _ _ HGy.out
  clear cx0 cx1 fx0 fx1 hnex
  clear cy0 cy1 fy0 fy1 hney
  clear Xx Xy Xa Xb O5 O7 hbw hgd0 hgd1 hgd2 hgd3 hgd4 hgd5 hgd6 hgd7 hgd8 hgd9 hgd10 hgd11
  generalize ((v7.setCell ⟨gy, 0, none⟩ (.bool s7)).setCell ⟨gy, 1, none⟩ (.slice p7 m7 m7)) = W8 at *
  have Xx := Xx2
  have Xy := Xy2
  have O5 := O52
  have O7 := O72
  have hbw := hbw2
  clear Xx2 Xy2 O52 O72 hbw2
  obtain ⟨W9, hW9⟩ : ∃ W1, W1 = W8.drew := ⟨_, rfl⟩
  have hbd : Below W8.heap.size W8 W9 := by rw [hW9]; exact bDrew1 (Below.refl _ _)
  replace Xx : Hid _ := Xx.out.below hbd
  replace Xy : Hid _ := Xy.out.below hbd
  replace O5 : Hid (Own W0.heap.size W9 p5 m5 z5) := O5.out.below hbd
  replace O7 : Hid (Own W6.heap.size W9 p7 m7 z7) := O7.out.below hbd
  replace hbw := Below.on hbw hbd
  clear hbd
  have HJ : Hid ((fun W' : World => W'.cell? ⟨gx, 0, none⟩ = some (.bool s5) ∧ W'.cell? ⟨gx, 1, none⟩ = some (.slice p5 m5 m5) ∧ W'.cell? ⟨gy, 0, none⟩ = some (.bool s7) ∧ W'.cell? ⟨gy, 1, none⟩ = some (.slice p7 m7 m7)) W9) := ⟨Xx.out.c0, Xx.out.c1, Xy.out.c0, Xy.out.c1⟩
  refine wp_region_J (fun W' => W'.cell? ⟨gx, 0, none⟩ = some (.bool s5) ∧ W'.cell? ⟨gx, 1, none⟩ = some (.slice p5 m5 m5) ∧ W'.cell? ⟨gy, 0, none⟩ = some (.bool s7) ∧ W'.cell? ⟨gy, 1, none⟩ = some (.slice p7 m7 m7)) (by kernel_rfl) ?_
  rw [← hW9]
  clear hW9
  refine wpJ_tq 0 rfl HJ.out ?_
  refine wpJ_tq 1 rfl HJ.out ?_
  refine wpJ_tq 2 rfl HJ.out ?_
  refine wpJ_tq 3 rfl HJ.out ?_
  refine wpJ_tq 4 rfl HJ.out ?_
  refine wpJ_tq 5 rfl HJ.out ?_
  obtain ⟨cx0, cx1, fx0, fx1⟩ := Xx.out
  have hnex := Xx.out.lt
  obtain ⟨cy0, cy1, fy0, fy1⟩ := Xy.out
  have hney := Xy.out.lt
  have hq1 : gx ≠ gy := HGD.out.2.2.2.2.2.2.2.2.1
  have hq2 : gy ≠ gx := fun h => hq1 h.symm
  refine wpJ_on 6 rfl fun KJ hK => ?_
  go_simp
  have HJ2 : Hid ((fun W' : World => W'.cell? ⟨gx, 0, none⟩ = some (.bool s5) ∧ W'.cell? ⟨gx, 1, none⟩ = some (.slice p5 m5 m5) ∧ W'.cell? ⟨gy, 0, none⟩ = some (.bool s7) ∧ W'.cell? ⟨gy, 1, none⟩ = some (.slice p7 m7 m7)) ((W9.setCell ⟨gx, 0, none⟩ (.bool s5)).setCell ⟨gx, 1, none⟩ (.slice p5 m5 m5))) := ⟨by go_simp, by go_simp, by go_simp, by go_simp⟩
  have Xx2 : Hid (Box ((W9.setCell ⟨gx, 0, none⟩ (.bool s5)).setCell ⟨gx, 1, none⟩ (.slice p5 m5 m5)) gx (.bool s5) (.slice p5 m5 m5)) := ⟨by go_simp, by go_simp, by go_simp, by go_simp⟩
  have Xy2 : Hid (Box ((W9.setCell ⟨gx, 0, none⟩ (.bool s5)).setCell ⟨gx, 1, none⟩ (.slice p5 m5 m5)) gy (.bool s7) (.slice p7 m7 m7)) := ⟨by go_simp, by go_simp, by go_simp, by go_simp⟩
  have O52 : Hid (Own W0.heap.size ((W9.setCell ⟨gx, 0, none⟩ (.bool s5)).setCell ⟨gx, 1, none⟩ (.slice p5 m5 m5)) p5 m5 z5) := own_set2 O5.out HB5.out.1 (Nat.le_refl _) _ _
  have O72 : Hid (Own W6.heap.size ((W9.setCell ⟨gx, 0, none⟩ (.bool s5)).setCell ⟨gx, 1, none⟩ (.slice p5 m5 m5)) p7 m7 z7) := own_set2 O7.out HB7.out.1 (Nat.le_refl _) _ _
  have hbw2 : Below w.heap.size w ((W9.setCell ⟨gx, 0, none⟩ (.bool s5)).setCell ⟨gx, 1, none⟩ (.slice p5 m5 m5)) := bSet (bSet hbw _ _ _ HGx.out) _ _ _ HGx.out
  refine hK _ _ HJ2.out ?_
  clear hK HJ hq1 hq2
  have HJ := HJ2
  clear HJ2
  clear cx0 cx1 fx0 fx1 hnex
  clear cy0 cy1 fy0 fy1 hney
  clear Xx Xy O5 O7 hbw
  generalize ((W9.setCell ⟨gx, 0, none⟩ (.bool s5)).setCell ⟨gx, 1, none⟩ (.slice p5 m5 m5)) = Wp at *
  have Xx := Xx2
  have Xy := Xy2
  have O5 := O52
  have O7 := O72
  have hbw := hbw2
  clear Xx2 Xy2 O52 O72 hbw2
  obtain ⟨cy0, cy1, fy0, fy1⟩ := Xy.out
  have hney := Xy.out.lt
  obtain ⟨cx0, cx1, fx0, fx1⟩ := Xx.out
  have hnex := Xx.out.lt
  have hq1 : gx ≠ gy := HGD.out.2.2.2.2.2.2.2.2.1
  have hq2 : gy ≠ gx := fun h => hq1 h.symm
  refine wpJ_on 7 rfl fun KJ hK => ?_
  go_simp
  have HJ2 : Hid ((fun W' : World => W'.cell? ⟨gx, 0, none⟩ = some (.bool s5) ∧ W'.cell? ⟨gx, 1, none⟩ = some (.slice p5 m5 m5) ∧ W'.cell? ⟨gy, 0, none⟩ = some (.bool s7) ∧ W'.cell? ⟨gy, 1, none⟩ = some (.slice p7 m7 m7)) ((Wp.setCell ⟨gy, 0, none⟩ (.bool s7)).setCell ⟨gy, 1, none⟩ (.slice p7 m7 m7))) := ⟨by go_simp, by go_simp, by go_simp, by go_simp⟩
  have Xy2 : Hid (Box ((Wp.setCell ⟨gy, 0, none⟩ (.bool s7)).setCell ⟨gy, 1, none⟩ (.slice p7 m7 m7)) gy (.bool s7) (.slice p7 m7 m7)) := ⟨by go_simp, by go_simp, by go_simp, by go_simp⟩
  have Xx2 : Hid (Box ((Wp.setCell ⟨gy, 0, none⟩ (.bool s7)).setCell ⟨gy, 1, none⟩ (.slice p7 m7 m7)) gx (.bool s5) (.slice p5 m5 m5)) := ⟨by go_simp, by go_simp, by go_simp, by go_simp⟩
  have O52 : Hid (Own W0.heap.size ((Wp.setCell ⟨gy, 0, none⟩ (.bool s7)).setCell ⟨gy, 1, none⟩ (.slice p7 m7 m7)) p5 m5 z5) := own_set2 O5.out HB5.out.2.1 (Nat.le_refl _) _ _
  have O72 : Hid (Own W6.heap.size ((Wp.setCell ⟨gy, 0, none⟩ (.bool s7)).setCell ⟨gy, 1, none⟩ (.slice p7 m7 m7)) p7 m7 z7) := own_set2 O7.out HB7.out.2.1 (Nat.le_refl _) _ _
  have hbw2 : Below w.heap.size w ((Wp.setCell ⟨gy, 0, none⟩ (.bool s7)).setCell ⟨gy, 1, none⟩ (.slice p7 m7 m7)) := bSet (bSet hbw _ _ _ HGy.out) _ _ _ HGy.out
  refine hK _ _ HJ2.out ?_
  clear hK HJ hq1 hq2
  have HJ := HJ2
  clear HJ2
  clear cy0 cy1 fy0 fy1 hney
  clear cx0 cx1 fx0 fx1 hnex
  clear Xx Xy O5 O7 hbw
  generalize ((Wp.setCell ⟨gy, 0, none⟩ (.bool s7)).setCell ⟨gy, 1, none⟩ (.slice p7 m7 m7)) = Wq at *
  have Xx := Xx2
  have Xy := Xy2
  have O5 := O52
  have O7 := O72
  have hbw := hbw2
  clear Xx2 Xy2 O52 O72 hbw2
  refine wpJ_tq 8 rfl HJ.out ?_
  refine wpJ_tq 9 rfl HJ.out ?_
  refine wpJ_done (by kernel_rfl) ?_ _
  clear HJ
  obtain ⟨cx0, cx1, fx0, fx1⟩ := Xx.out
  have hnex := Xx.out.lt
  obtain ⟨cy0, cy1, fy0, fy1⟩ := Xy.out
  have hney := Xy.out.lt
  go_wp2_with fail
  refine bodyPost_ret (v := .tuple #[ZV s5 p5 m5 m5, ZV s7 p7 m7 m7, .int .i64 g, .int .i64 0]) (by rw [results_c2t2 rfl]; go_simp) rfl ⟨s5, p5, m5, s7, p7, m7, rfl, ?_, ?_, hbw⟩
  · rw [← HAB.out.1]
    exact ⟨⟨z5, Num.of O5.out N5.out.1 N5.out.2⟩, HS5.out⟩
  · rw [← HAB.out.2.1]
    exact ⟨⟨z7, Num.of O7.out N7.out.1 N7.out.2⟩, HS7.out⟩
theorem dadd_n {p q : Option Addr} {m c n d : Nat} {w : World} {x y e f g : Int} {s t : Bool} (h : DN w s p m c e x) (k : DN w t q n d f y) (hx0 : x ≠ 0) (hy0 : y ≠ 0) (hg : g = min e f) (hg2 : g ≤ 524288) (hx : (x * 2 ^ (e - g).toNat).natAbs < LIM) (hy : (y * 2 ^ (f - g).toNat).natAbs < LIM) (hl : (x * 2 ^ (e - g).toNat + y * 2 ^ (f - g).toNat).natAbs < LIM) (hT : Tab w) :
    Calls Tryz.prog 76 #[DV s p m c e, DV t q n d f] w fun en w' => ∃ v zo eo, en = .returned (.tuple #[v, .int .i64 0]) ∧ AnsD w.heap.size w' v zo eo ∧ DFm zo eo ∧ dv zo eo = dv (x * 2 ^ (e - g).toNat + y * 2 ^ (f - g).toNat) g ∧ zo.natAbs ≤ (x * 2 ^ (e - g).toNat + y * 2 ^ (f - g).toNat).natAbs ∧ (zo = 0 ∨ (g ≤ eo ∧ eo ≤ g + 524288)) ∧ Below w.heap.size w w' := by
  have H : Hid (DN w s p m c e x) := h
  have K : Hid (DN w t q n d f y) := k
  have TB : Hid (Tab w) := hT
  have HE : Hid (-1048576 ≤ e ∧ e ≤ 1048576 ∧ -1048576 ≤ f ∧ f ≤ 1048576) := by
    rcases h.fm with ⟨h1, _⟩ | ⟨_, h1, h2⟩
    · exact absurd h1 hx0
    · rcases k.fm with ⟨k1, _⟩ | ⟨_, k1, k2⟩
      · exact absurd k1 hy0
      · exact ⟨h1, h2, k1, k2⟩
  have HG : Hid (g = min e f ∧ -1048576 ≤ g ∧ g ≤ 524288) := ⟨hg, by have := HE.out; omega, hg2⟩
  obtain ⟨X, hX⟩ : ∃ X, X = x * 2 ^ (e - g).toNat := ⟨_, rfl⟩
  obtain ⟨Y, hY⟩ : ∃ Y, Y = y * 2 ^ (f - g).toNat := ⟨_, rfl⟩
  rw [← hX, ← hY] at hl ⊢
  have HL : Hid (x ≠ 0 ∧ y ≠ 0 ∧ (x * 2 ^ (e - g).toNat).natAbs < LIM ∧ (y * 2 ^ (f - g).toNat).natAbs < LIM ∧ (X + Y).natAbs < LIM) := ⟨hx0, hy0, hx, hy, hl⟩
  have HXY : Hid (X = x * 2 ^ (e - g).toNat ∧ Y = y * 2 ^ (f - g).toNat) := ⟨hX, hY⟩
  clear h k hT hx0 hy0 hx hy hl hg hg2 hX hY
  go_enter Tryz.func76, Tryz.ntmps76
  go_wp2_with fail
  obtain ⟨W0, hW0⟩ : ∃ W0, W0 = (((w.alloc (.cells #[.bool s, .slice p m c, .int .i64 e] 96)).alloc (.cells #[.bool t, .slice q n d, .int .i64 f] 96)).alloc (.cells #[.bool false, .slice none 0 0, .int .i64 0] 96)) := ⟨_, rfl⟩
  have Xa : Hid (B3q W0 (w.heap.size) (.bool s) (.slice p m c) (.int .i64 e)) := by rw [hW0]; exact ⟨by go_simp, by go_simp, by go_simp, by go_simp, by go_simp, by go_simp⟩
  have Xb : Hid (B3q W0 (w.heap.size + 1) (.bool t) (.slice q n d) (.int .i64 f)) := by rw [hW0]; exact ⟨by go_simp, by go_simp, by go_simp, by go_simp, by go_simp, by go_simp⟩
  have Xr : Hid (B3q W0 (w.heap.size + 1 + 1) (.bool false) (.slice none 0 0) (.int .i64 0)) := by rw [hW0]; exact ⟨by go_simp, by go_simp, by go_simp, by go_simp, by go_simp, by go_simp⟩
  have hb0 : Below w.heap.size w W0 := by rw [hW0]; exact below3 w _ _ _
  rw [← hW0]
  clear hW0
  have hbw : Below w.heap.size w w := Below.refl _ _
  obtain ⟨gr, hgr⟩ : ∃ g, g = w.heap.size + 1 + 1 := ⟨_, rfl⟩
  have HGr : Hid (w.heap.size ≤ gr) := by rw [hgr]; show _ ≤ _; omega
  rw [← hgr] at Xr
  try rw [← hgr]
  obtain ⟨gb, hgb⟩ : ∃ g, g = w.heap.size + 1 := ⟨_, rfl⟩
  have HGb : Hid (w.heap.size ≤ gb) := by rw [hgb]; show _ ≤ _; omega
  rw [← hgb] at Xb
  try rw [← hgb]
  obtain ⟨ga, hga⟩ : ∃ g, g = w.heap.size := ⟨_, rfl⟩
  have HGa : Hid (w.heap.size ≤ ga) := by rw [hga]; show _ ≤ _; omega
  rw [← hga] at Xa
  try rw [← hga]
  have HGD : Hid (ga ≠ gb ∧ ga ≠ gr ∧ gb ≠ ga ∧ gb ≠ gr ∧ gr ≠ ga ∧ gr ≠ gb) := by rw [hga, hgb, hgr]; exact ⟨by omega, by omega, by omega, by omega, by omega, by omega⟩
  clear hga hgb hgr
  replace hbw := Below.on hbw hb0
  clear hb0
  refine (dform_t (H.out.below hbw)).mono ?_
  rintro e v1 ⟨rfl, hb1⟩
  replace Xa : Hid _ := Xa.out.below hb1
  replace Xb : Hid _ := Xb.out.below hb1
  replace Xr : Hid _ := Xr.out.below hb1
  replace hbw := Below.on hbw hb1
  clear hb1
  obtain ⟨cb0, cb1, cb2, fb0, fb1, fb2⟩ := Xb.out
  have hneb : gb < v1.heap.size := World.block_lt_of_cell? v1 _ cb0
  go_wp2_with fail
  clear cb0 cb1 cb2 fb0 fb1 fb2 hneb
  refine (dform_t (K.out.below hbw)).mono ?_
  rintro e v2 ⟨rfl, hb2⟩
  replace Xa : Hid _ := Xa.out.below hb2
  replace Xb : Hid _ := Xb.out.below hb2
  replace Xr : Hid _ := Xr.out.below hb2
  replace hbw := Below.on hbw hb2
  clear hb2
  obtain ⟨ca0, ca1, ca2, fa0, fa1, fa2⟩ := Xa.out
  have hnea : ga < v2.heap.size := World.block_lt_of_cell? v2 _ ca0
  obtain ⟨cb0, cb1, cb2, fb0, fb1, fb2⟩ := Xb.out
  have hneb : gb < v2.heap.size := World.block_lt_of_cell? v2 _ cb0
  go_wp2_with fail
  clear ca0 ca1 ca2 fa0 fa1 fa2 hnea
  clear cb0 cb1 cb2 fb0 fb1 fb2 hneb
  refine (zsign (H.out.zn.below hbw)).mono ?_
  rintro e v3 ⟨rfl, hb3⟩
  obtain ⟨sg3, hsg⟩ : ∃ sg, sg = sgnI (x) := ⟨_, rfl⟩
  rw [← hsg]
  have hs3 : (sg3 == 0) = false := by rw [hsg]; have := HL.out.1; unfold sgnI; split <;> (try split) <;> simp <;> omega
  clear hsg
  replace Xa : Hid _ := Xa.out.below hb3
  replace Xb : Hid _ := Xb.out.below hb3
  replace Xr : Hid _ := Xr.out.below hb3
  replace hbw := Below.on hbw hb3
  clear hb3
  obtain ⟨cb0, cb1, cb2, fb0, fb1, fb2⟩ := Xb.out
  have hneb : gb < v3.heap.size := World.block_lt_of_cell? v3 _ cb0
  go_wp2_with fail
  clear cb0 cb1 cb2 fb0 fb1 fb2 hneb
  clear hs3
  refine (zsign (K.out.zn.below hbw)).mono ?_
  rintro e v4 ⟨rfl, hb4⟩
  obtain ⟨sg4, hsg⟩ : ∃ sg, sg = sgnI (y) := ⟨_, rfl⟩
  rw [← hsg]
  have hs4 : (sg4 == 0) = false := by rw [hsg]; have := HL.out.2.1; unfold sgnI; split <;> (try split) <;> simp <;> omega
  clear hsg
  replace Xa : Hid _ := Xa.out.below hb4
  replace Xb : Hid _ := Xb.out.below hb4
  replace Xr : Hid _ := Xr.out.below hb4
  replace hbw := Below.on hbw hb4
  clear hb4
  obtain ⟨ca0, ca1, ca2, fa0, fa1, fa2⟩ := Xa.out
  have hnea : ga < v4.heap.size := World.block_lt_of_cell? v4 _ ca0
  obtain ⟨cb0, cb1, cb2, fb0, fb1, fb2⟩ := Xb.out
  have hneb : gb < v4.heap.size := World.block_lt_of_cell? v4 _ cb0
  go_wp2_with fail
  clear ca0 ca1 ca2 fa0 fa1 fa2 hnea
  clear cb0 cb1 cb2 fb0 fb1 fb2 hneb
  clear hs4
  refine (daligned (H.out.zn.below hbw) (K.out.zn.below hbw) HG.out.1 HE.out HL.out.2.2.1 HL.out.2.2.2.1).mono ?_
  rintro e2 v5 ⟨s5, p5, m5, s6, p6, m6, rfl, hz5, hz6, hb5⟩
  rw [← HXY.out.1] at hz5
  rw [← HXY.out.2] at hz6
  replace Xa : Hid _ := Xa.out.below hb5
  replace Xb : Hid _ := Xb.out.below hb5
  replace Xr : Hid _ := Xr.out.below hb5
  replace hbw := Below.on hbw hb5
  clear hb5
  have Z5 : Hid (ZN v5 s5 p5 m5 m5 X) := hz5
  have Z6 : Hid (ZN v5 s6 p6 m6 m6 Y) := hz6
  clear hz5 hz6
  go_wp2_with fail
  rw [show v5.heap.size + 1 = (v5.alloc (.cells #[.bool s5, .slice p5 m5 m5] 94)).heap.size from by simp]
  have Xx0 : Hid (Box (v5.alloc (.cells #[.bool s5, .slice p5 m5 m5] 94)) v5.heap.size (.bool s5) (.slice p5 m5 m5)) := Box.new v5 _ _ _
  have hbn : Below v5.heap.size v5 (v5.alloc (.cells #[.bool s5, .slice p5 m5 m5] 94)) := below1 v5 _
  generalize v5.alloc (.cells #[.bool s5, .slice p5 m5 m5] 94) = Wx at *
  have HGx : Hid (w.heap.size ≤ v5.heap.size) := hbw.size
  replace Xa : Hid _ := Xa.out.below hbn
  replace Xb : Hid _ := Xb.out.below hbn
  replace Xr : Hid _ := Xr.out.below hbn
  replace Z5 : Hid _ := Z5.out.below hbn
  replace Z6 : Hid _ := Z6.out.below hbn
  replace hbw := Below.on hbw hbn
  clear hbn
  generalize v5.heap.size = gx at *
  have Xx := Xx0
  clear Xx0
  have Xy0 : Hid (Box (Wx.alloc (.cells #[.bool s6, .slice p6 m6 m6] 94)) Wx.heap.size (.bool s6) (.slice p6 m6 m6)) := Box.new Wx _ _ _
  have hbn : Below Wx.heap.size Wx (Wx.alloc (.cells #[.bool s6, .slice p6 m6 m6] 94)) := below1 Wx _
  generalize Wx.alloc (.cells #[.bool s6, .slice p6 m6 m6] 94) = Wy at *
  have HGy : Hid (w.heap.size ≤ Wx.heap.size) := hbw.size
  replace Xa : Hid _ := Xa.out.below hbn
  replace Xb : Hid _ := Xb.out.below hbn
  replace Xr : Hid _ := Xr.out.below hbn
  replace Xx : Hid _ := Xx.out.below hbn
  replace Z5 : Hid _ := Z5.out.below hbn
  replace Z6 : Hid _ := Z6.out.below hbn
  replace hbw := Below.on hbw hbn
  clear hbn
  generalize Wx.heap.size = gy at *
  have Xy := Xy0
  clear Xy0
  refine (zadd Z5.out Z6.out).mono ?_
  rintro e2 v7 ⟨ha, hb7⟩
  obtain ⟨s7, p7, m7, rfl, hz⟩ := ha.got HL.out.2.2.2.2
  clear ha
  replace Xa : Hid _ := Xa.out.below hb7
  replace Xb : Hid _ := Xb.out.below hb7
  replace Xr : Hid _ := Xr.out.below hb7
  replace Xx : Hid _ := Xx.out.below hb7
  replace Xy : Hid _ := Xy.out.below hb7
  replace Z5 : Hid _ := Z5.out.below hb7
  replace Z6 : Hid _ := Z6.out.below hb7
  replace hbw := Below.on hbw hb7
  clear hb7
  have Z7 : Hid (ZN v7 s7 p7 m7 m7 (X + Y)) := hz
  clear hz
  go_wp2_with fail
  have Xq0 : Hid (Box (v7.alloc (.cells #[.bool s7, .slice p7 m7 m7] 94)) v7.heap.size (.bool s7) (.slice p7 m7 m7)) := Box.new v7 _ _ _
  have hbn : Below v7.heap.size v7 (v7.alloc (.cells #[.bool s7, .slice p7 m7 m7] 94)) := below1 v7 _
  generalize v7.alloc (.cells #[.bool s7, .slice p7 m7 m7] 94) = Wq at *
  have HGq : Hid (w.heap.size ≤ v7.heap.size) := hbw.size
  replace Xa : Hid _ := Xa.out.below hbn
  replace Xb : Hid _ := Xb.out.below hbn
  replace Xr : Hid _ := Xr.out.below hbn
  replace Xx : Hid _ := Xx.out.below hbn
  replace Xy : Hid _ := Xy.out.below hbn
  replace Z5 : Hid _ := Z5.out.below hbn
  replace Z6 : Hid _ := Z6.out.below hbn
  replace Z7 : Hid _ := Z7.out.below hbn
  replace hbw := Below.on hbw hbn
  clear hbn
  generalize v7.heap.size = gq at *
  have Xq := Xq0
  clear Xq0
  clear Xx
  clear Xy
  clear Z5
  clear Z6
  have HRL : Hid (gr < Wq.heap.size ∧ w.heap.size ≤ Wq.heap.size) := ⟨Xr.out.lt, hbw.size⟩
  refine (make_any Z7.out HG.out.2 (TB.out.below hbw)).mono ?_
  rintro e2 v6 ⟨v, zo, eo, rfl, hv, hfm, hdv, hle, hor, hb6⟩
  obtain ⟨p6, m6, z6, rfl, ho6, hn6, hm6⟩ := hv
  replace Xa : Hid _ := Xa.out.below hb6
  replace Xb : Hid _ := Xb.out.below hb6
  replace Xr : Hid _ := Xr.out.below hb6
  replace Xq : Hid _ := Xq.out.below hb6
  replace Z7 : Hid _ := Z7.out.below hb6
  replace hbw := Below.on hbw hb6
  clear hb6
  have O6 : Hid (Own Wq.heap.size v6 p6 m6 z6) := ho6
  have N6 : Hid (Nf B64 z6 zo.natAbs ∧ m6 ≤ 8192 ∧ DFm zo eo ∧ dv zo eo = dv (X + Y) (g) ∧ zo.natAbs ≤ (X + Y).natAbs ∧ (zo = 0 ∨ (g ≤ eo ∧ eo ≤ g + 524288))) := ⟨hn6, hm6, hfm, hdv, hle, hor⟩
  clear ho6 hn6 hm6 hfm hdv hle hor
  obtain ⟨so, hso⟩ : ∃ b, b = decide (zo < 0) := ⟨_, rfl⟩
  rw [← hso]
  have HSO : Hid (so = decide (zo < 0)) := hso
  clear hso
  obtain ⟨cr0, cr1, cr2, fr0, fr1, fr2⟩ := Xr.out
  have hner : gr < v6.heap.size := World.block_lt_of_cell? v6 _ cr0
  go_wp2_with fail
  refine bodyPost_ret (v := .tuple #[DV so p6 m6 m6 eo, .int .i64 0]) (by rw [results_cell_tmp rfl]; go_simp) rfl ⟨_, zo, eo, rfl, ⟨p6, m6, z6, by rw [HSO.out], ?_, N6.out.1, N6.out.2.1⟩, N6.out.2.2.1, N6.out.2.2.2.1, N6.out.2.2.2.2.1, N6.out.2.2.2.2.2, ?_⟩
  · exact own_set3 O6.out HRL.out.1 HRL.out.2 _ _ _
  · exact bSet (bSet (bSet hbw _ _ _ HGr.out) _ _ _ HGr.out) _ _ _ HGr.out
theorem dcopied {p : Option Addr} {m c : Nat} {xs : List Nat} {w : World} {e : Int} (s : Bool) (h : At w p m c xs) (hm : m ≤ 8192) :
    Calls Tryz.prog 97 #[DV s p m c e] w fun en w' => ∃ p', en = .returned (DV s p' m m e) ∧ Own w.heap.size w' p' m xs ∧ Below w.heap.size w w' := by
  have H : Hid (At w p m c xs) := h
  have HM : Hid (m ≤ 8192) := hm
  have HLX : Hid (xs.length = m) := h.len
  have HDG : Hid (Dig B64 xs) := h.dig
  obtain ⟨i0, hi, hz0, hz1, hz2⟩ := info_parts Tryz.infoU64
  clear h hm
  go_enter Tryz.func97, Tryz.ntmps97
  go_wp2_with (first
    | (at_make
       obtain ⟨W0, hW0⟩ : ∃ W0, W0 = ((w.alloc (.cells #[.bool s, .slice p m c, .int .i64 e] 96)).alloc (.cells #[.bool false, .slice none 0 0, .int .i64 0] 96)) := ⟨_, rfl⟩
       have Xd : Hid (B3q W0 (w.heap.size) (.bool s) (.slice p m c) (.int .i64 e)) := by rw [hW0]; exact ⟨by go_simp, by go_simp, by go_simp, by go_simp, by go_simp, by go_simp⟩
       have Xr : Hid (B3q W0 (w.heap.size + 1) (.bool false) (.slice none 0 0) (.int .i64 0)) := by rw [hW0]; exact ⟨by go_simp, by go_simp, by go_simp, by go_simp, by go_simp, by go_simp⟩
       have hb0 : Below w.heap.size w W0 := by rw [hW0]; exact below2 w _ _
       rw [← hW0]
       clear hW0
       have hbw : Below w.heap.size w w := Below.refl _ _
       obtain ⟨gr, hgr⟩ : ∃ g, g = w.heap.size + 1 := ⟨_, rfl⟩
       have HGr : Hid (w.heap.size ≤ gr) := by rw [hgr]; show _ ≤ _; omega
       rw [← hgr] at Xr
       try rw [← hgr]
       obtain ⟨gd, hgd⟩ : ∃ g, g = w.heap.size := ⟨_, rfl⟩
       have HGd : Hid (w.heap.size ≤ gd) := by rw [hgd]; show _ ≤ _; omega
       rw [← hgd] at Xd
       try rw [← hgd]
       have HGD : Hid (gd ≠ gr ∧ gr ≠ gd) := by rw [hgd, hgr]; exact ⟨by omega, by omega⟩
       clear hgd hgr
       replace hbw := Below.on hbw hb0
       clear hb0
       refine wpList_make_full _ rfl _ _ 84 rfl W0.heap.size 22 i0 (.int .u64 0) 1 Tryz.underlying84 hi hz0 hz1 _ _ _ _ m rfl rfl (by have := HM.out; omega) (by have := HM.out; omega) (by rw [hz2]; have := HM.out; omega) (by unfold maxLen; have := HM.out; omega) (Nat.le_refl _) ?_
       intro w1 hown hgrow
       have hb1 := made_blk hown hgrow
       have HBK : Hid (Blk w1 W0.heap.size (List.replicate m 0)) := hb1.1
       have HBL : Hid (Below W0.heap.size W0 w1) := hb1.2
       have hb2 := hb1.2
       have HRB : Hid (gr < W0.heap.size ∧ gd < W0.heap.size ∧ w.heap.size ≤ W0.heap.size) := ⟨Xr.out.lt, Xd.out.lt, hbw.size⟩
       have HA0 : Hid (At W0 p m c xs) := H.out.below hbw
       clear hown hgrow hb1
       have XD0 := Xd
       have XR0 := Xr
       have HW0 : Hid (Below w.heap.size w W0) := hbw
       replace Xd : Hid _ := Xd.out.below hb2
       replace Xr : Hid _ := Xr.out.below hb2
       replace hbw := Below.on hbw hb2
       clear hb2
       skip
       obtain ⟨cd0, cd1, cd2, fd0, fd1, fd2⟩ := Xd.out
       have hned : gd < w1.heap.size := World.block_lt_of_cell? w1 _ cd0
       obtain ⟨cr0, cr1, cr2, fr0, fr1, fr2⟩ := Xr.out
       have hner : gr < w1.heap.size := World.block_lt_of_cell? w1 _ cr0)
    | (refine wpList_copy_splice rfl (.tmp 9) (.tmp 12) 84 84 rfl 22 Tryz.underlying84 Tryz.sizeU64 (some ⟨W0.heap.size, 0, none⟩) p m m m c rfl rfl W0.heap.size 0 (cellsU (List.replicate m 0)) 22 HBK.out (cellsU xs) (by rw [cellsU_length, HLX.out]; exact (Nat.min_self m).symm) (fun h0 => ⟨rfl, (HA0.out.below HBL.out).src (by rw [cellsU_length, HLX.out] at h0; omega)⟩) (by simp [cellsU_length]; have := HLX.out; omega) (cellsU_one xs) W0.heap.size W0 HBL.out (Nat.le_refl _) ?_
       intro w2 hg2 hb2
       have HG2 : Hid (Blk w2 W0.heap.size xs) := by
         have h9 := hg2
         rw [splice_cellsU, HLX.out, Nat.sub_self, List.replicate_zero, List.append_nil] at h9
         exact h9
       have HB2 : Hid (Below W0.heap.size W0 w2) := hb2
       clear hg2 cd0 cd1 cd2 fd0 fd1 fd2 hned cr0 cr1 cr2 fr0 fr1 fr2 hner
       obtain ⟨cd0, cd1, cd2, fd0, fd1, fd2⟩ := XD0.out.below hb2
       have hned : gd < w2.heap.size := World.block_lt_of_cell? w2 _ cd0
       obtain ⟨cr0, cr1, cr2, fr0, fr1, fr2⟩ := XR0.out.below hb2
       have hner : gr < w2.heap.size := World.block_lt_of_cell? w2 _ cr0
       have hq1 : gd ≠ gr := HGD.out.1
       have hq2 : gr ≠ gd := HGD.out.2
       clear hb2))
  refine bodyPost_ret (v := DV s (some ⟨W0.heap.size, 0, none⟩) m m e) (by rw [results_cell1 rfl]; go_simp) rfl ⟨_, rfl, ?_, ?_⟩
  · have h9 : Own W0.heap.size w2 (some ⟨W0.heap.size, 0, none⟩) m xs := by
      have h8 := HG2.out.own HDG.out (Nat.le_refl _)
      rw [HLX.out] at h8
      exact h8
    exact ((((h9.setOld _ _ _ HRB.out.2.1).setOld _ _ _ HRB.out.1).setOld _ _ _ HRB.out.1).setOld _ _ _ HRB.out.1).mono HRB.out.2.2
  · exact bSet (bSet (bSet (bSet (Below.on HW0.out HB2.out) _ _ _ HGd.out) _ _ _ HGr.out) _ _ _ HGr.out) _ _ _ HGr.out
theorem dadd_x {p q : Option Addr} {m c n d : Nat} {w : World} {x y e f : Int} {s t : Bool} (h : DN w s p m c e x) (k : DN w t q n d f y) (hz : x = 0) :
    Calls Tryz.prog 76 #[DV s p m c e, DV t q n d f] w fun en w' => ∃ v, en = .returned (.tuple #[v, .int .i64 0]) ∧ AnsD w.heap.size w' v y f ∧ Below w.heap.size w w' := by
  have H : Hid (DN w s p m c e x) := h
  have K : Hid (DN w t q n d f y) := k
  have HZ : Hid (x = 0) := hz
  clear h k hz
  go_enter Tryz.func76, Tryz.ntmps76
  go_wp2_with fail
  obtain ⟨W0, hW0⟩ : ∃ W0, W0 = (((w.alloc (.cells #[.bool s, .slice p m c, .int .i64 e] 96)).alloc (.cells #[.bool t, .slice q n d, .int .i64 f] 96)).alloc (.cells #[.bool false, .slice none 0 0, .int .i64 0] 96)) := ⟨_, rfl⟩
  have Xa : Hid (B3q W0 (w.heap.size) (.bool s) (.slice p m c) (.int .i64 e)) := by rw [hW0]; exact ⟨by go_simp, by go_simp, by go_simp, by go_simp, by go_simp, by go_simp⟩
  have Xb : Hid (B3q W0 (w.heap.size + 1) (.bool t) (.slice q n d) (.int .i64 f)) := by rw [hW0]; exact ⟨by go_simp, by go_simp, by go_simp, by go_simp, by go_simp, by go_simp⟩
  have Xr : Hid (B3q W0 (w.heap.size + 1 + 1) (.bool false) (.slice none 0 0) (.int .i64 0)) := by rw [hW0]; exact ⟨by go_simp, by go_simp, by go_simp, by go_simp, by go_simp, by go_simp⟩
  have hb0 : Below w.heap.size w W0 := by rw [hW0]; exact below3 w _ _ _
  rw [← hW0]
  clear hW0
  have hbw : Below w.heap.size w w := Below.refl _ _
  obtain ⟨gr, hgr⟩ : ∃ g, g = w.heap.size + 1 + 1 := ⟨_, rfl⟩
  have HGr : Hid (w.heap.size ≤ gr) := by rw [hgr]; show _ ≤ _; omega
  rw [← hgr] at Xr
  try rw [← hgr]
  obtain ⟨gb, hgb⟩ : ∃ g, g = w.heap.size + 1 := ⟨_, rfl⟩
  have HGb : Hid (w.heap.size ≤ gb) := by rw [hgb]; show _ ≤ _; omega
  rw [← hgb] at Xb
  try rw [← hgb]
  obtain ⟨ga, hga⟩ : ∃ g, g = w.heap.size := ⟨_, rfl⟩
  have HGa : Hid (w.heap.size ≤ ga) := by rw [hga]; show _ ≤ _; omega
  rw [← hga] at Xa
  try rw [← hga]
  have HGD : Hid (ga ≠ gb ∧ ga ≠ gr ∧ gb ≠ ga ∧ gb ≠ gr ∧ gr ≠ ga ∧ gr ≠ gb) := by rw [hga, hgb, hgr]; exact ⟨by omega, by omega, by omega, by omega, by omega, by omega⟩
  clear hga hgb hgr
  replace hbw := Below.on hbw hb0
  clear hb0
  refine (dform_t (H.out.below hbw)).mono ?_
  rintro e v1 ⟨rfl, hb1⟩
  replace Xa : Hid _ := Xa.out.below hb1
  replace Xb : Hid _ := Xb.out.below hb1
  replace Xr : Hid _ := Xr.out.below hb1
  replace hbw := Below.on hbw hb1
  clear hb1
  obtain ⟨cb0, cb1, cb2, fb0, fb1, fb2⟩ := Xb.out
  have hneb : gb < v1.heap.size := World.block_lt_of_cell? v1 _ cb0
  go_wp2_with fail
  clear cb0 cb1 cb2 fb0 fb1 fb2 hneb
  refine (dform_t (K.out.below hbw)).mono ?_
  rintro e v2 ⟨rfl, hb2⟩
  replace Xa : Hid _ := Xa.out.below hb2
  replace Xb : Hid _ := Xb.out.below hb2
  replace Xr : Hid _ := Xr.out.below hb2
  replace hbw := Below.on hbw hb2
  clear hb2
  obtain ⟨ca0, ca1, ca2, fa0, fa1, fa2⟩ := Xa.out
  have hnea : ga < v2.heap.size := World.block_lt_of_cell? v2 _ ca0
  obtain ⟨cb0, cb1, cb2, fb0, fb1, fb2⟩ := Xb.out
  have hneb : gb < v2.heap.size := World.block_lt_of_cell? v2 _ cb0
  go_wp2_with fail
  clear ca0 ca1 ca2 fa0 fa1 fa2 hnea
  clear cb0 cb1 cb2 fb0 fb1 fb2 hneb
  refine (zsign (H.out.zn.below hbw)).mono ?_
  rintro e v3 ⟨rfl, hb3⟩
  rw [HZ.out, show sgnI 0 = 0 from rfl]
  replace Xa : Hid _ := Xa.out.below hb3
  replace Xb : Hid _ := Xb.out.below hb3
  replace Xr : Hid _ := Xr.out.below hb3
  replace hbw := Below.on hbw hb3
  clear hb3
  obtain ⟨cb0, cb1, cb2, fb0, fb1, fb2⟩ := Xb.out
  have hneb : gb < v3.heap.size := World.block_lt_of_cell? v3 _ cb0
  go_wp2_with fail
  clear cb0 cb1 cb2 fb0 fb1 fb2 hneb
  have HRL : Hid (gr < v3.heap.size ∧ w.heap.size ≤ v3.heap.size) := ⟨Xr.out.lt, hbw.size⟩
  obtain ⟨xs, hX⟩ := (K.out.zn.below hbw).ex
  refine (dcopied t hX.at_ hX.le).mono ?_
  rintro e2 v6 ⟨p6, rfl, ho6, hb6⟩
  have N6 : Hid (Nf B64 xs (y).natAbs ∧ n ≤ 8192) := ⟨hX.nf, hX.le⟩
  clear hX
  replace Xa : Hid _ := Xa.out.below hb6
  replace Xb : Hid _ := Xb.out.below hb6
  replace Xr : Hid _ := Xr.out.below hb6
  replace hbw := Below.on hbw hb6
  clear hb6
  have O6 : Hid (Own v3.heap.size v6 p6 n xs) := ho6
  clear ho6
  obtain ⟨cr0, cr1, cr2, fr0, fr1, fr2⟩ := Xr.out
  have hner : gr < v6.heap.size := World.block_lt_of_cell? v6 _ cr0
  go_wp2_with fail
  refine bodyPost_ret (v := .tuple #[DV t p6 n n f, .int .i64 0]) (by rw [results_cell_tmp rfl]; go_simp) rfl ⟨_, rfl, ⟨p6, n, xs, by rw [K.out.zn.sg], ?_, N6.out.1, N6.out.2⟩, ?_⟩
  · exact own_set3 O6.out HRL.out.1 HRL.out.2 _ _ _
  · exact bSet (bSet (bSet hbw _ _ _ HGr.out) _ _ _ HGr.out) _ _ _ HGr.out
theorem dadd_y {p q : Option Addr} {m c n d : Nat} {w : World} {x y e f : Int} {s t : Bool} (h : DN w s p m c e x) (k : DN w t q n d f y) (hz : x ≠ 0 ∧ y = 0) :
    Calls Tryz.prog 76 #[DV s p m c e, DV t q n d f] w fun en w' => ∃ v, en = .returned (.tuple #[v, .int .i64 0]) ∧ AnsD w.heap.size w' v x e ∧ Below w.heap.size w w' := by
  have H : Hid (DN w s p m c e x) := h
  have K : Hid (DN w t q n d f y) := k
  have HZ : Hid (x ≠ 0 ∧ y = 0) := hz
  clear h k hz
  go_enter Tryz.func76, Tryz.ntmps76
  go_wp2_with fail
  obtain ⟨W0, hW0⟩ : ∃ W0, W0 = (((w.alloc (.cells #[.bool s, .slice p m c, .int .i64 e] 96)).alloc (.cells #[.bool t, .slice q n d, .int .i64 f] 96)).alloc (.cells #[.bool false, .slice none 0 0, .int .i64 0] 96)) := ⟨_, rfl⟩
  have Xa : Hid (B3q W0 (w.heap.size) (.bool s) (.slice p m c) (.int .i64 e)) := by rw [hW0]; exact ⟨by go_simp, by go_simp, by go_simp, by go_simp, by go_simp, by go_simp⟩
  have Xb : Hid (B3q W0 (w.heap.size + 1) (.bool t) (.slice q n d) (.int .i64 f)) := by rw [hW0]; exact ⟨by go_simp, by go_simp, by go_simp, by go_simp, by go_simp, by go_simp⟩
  have Xr : Hid (B3q W0 (w.heap.size + 1 + 1) (.bool false) (.slice none 0 0) (.int .i64 0)) := by rw [hW0]; exact ⟨by go_simp, by go_simp, by go_simp, by go_simp, by go_simp, by go_simp⟩
  have hb0 : Below w.heap.size w W0 := by rw [hW0]; exact below3 w _ _ _
  rw [← hW0]
  clear hW0
  have hbw : Below w.heap.size w w := Below.refl _ _
  obtain ⟨gr, hgr⟩ : ∃ g, g = w.heap.size + 1 + 1 := ⟨_, rfl⟩
  have HGr : Hid (w.heap.size ≤ gr) := by rw [hgr]; show _ ≤ _; omega
  rw [← hgr] at Xr
  try rw [← hgr]
  obtain ⟨gb, hgb⟩ : ∃ g, g = w.heap.size + 1 := ⟨_, rfl⟩
  have HGb : Hid (w.heap.size ≤ gb) := by rw [hgb]; show _ ≤ _; omega
  rw [← hgb] at Xb
  try rw [← hgb]
  obtain ⟨ga, hga⟩ : ∃ g, g = w.heap.size := ⟨_, rfl⟩
  have HGa : Hid (w.heap.size ≤ ga) := by rw [hga]; show _ ≤ _; omega
  rw [← hga] at Xa
  try rw [← hga]
  have HGD : Hid (ga ≠ gb ∧ ga ≠ gr ∧ gb ≠ ga ∧ gb ≠ gr ∧ gr ≠ ga ∧ gr ≠ gb) := by rw [hga, hgb, hgr]; exact ⟨by omega, by omega, by omega, by omega, by omega, by omega⟩
  clear hga hgb hgr
  replace hbw := Below.on hbw hb0
  clear hb0
  refine (dform_t (H.out.below hbw)).mono ?_
  rintro e v1 ⟨rfl, hb1⟩
  replace Xa : Hid _ := Xa.out.below hb1
  replace Xb : Hid _ := Xb.out.below hb1
  replace Xr : Hid _ := Xr.out.below hb1
  replace hbw := Below.on hbw hb1
  clear hb1
  obtain ⟨cb0, cb1, cb2, fb0, fb1, fb2⟩ := Xb.out
  have hneb : gb < v1.heap.size := World.block_lt_of_cell? v1 _ cb0
  go_wp2_with fail
  clear cb0 cb1 cb2 fb0 fb1 fb2 hneb
  refine (dform_t (K.out.below hbw)).mono ?_
  rintro e v2 ⟨rfl, hb2⟩
  replace Xa : Hid _ := Xa.out.below hb2
  replace Xb : Hid _ := Xb.out.below hb2
  replace Xr : Hid _ := Xr.out.below hb2
  replace hbw := Below.on hbw hb2
  clear hb2
  obtain ⟨ca0, ca1, ca2, fa0, fa1, fa2⟩ := Xa.out
  have hnea : ga < v2.heap.size := World.block_lt_of_cell? v2 _ ca0
  obtain ⟨cb0, cb1, cb2, fb0, fb1, fb2⟩ := Xb.out
  have hneb : gb < v2.heap.size := World.block_lt_of_cell? v2 _ cb0
  go_wp2_with fail
  clear ca0 ca1 ca2 fa0 fa1 fa2 hnea
  clear cb0 cb1 cb2 fb0 fb1 fb2 hneb
  refine (zsign (H.out.zn.below hbw)).mono ?_
  rintro e v3 ⟨rfl, hb3⟩
  obtain ⟨sg3, hsg⟩ : ∃ sg, sg = sgnI (x) := ⟨_, rfl⟩
  rw [← hsg]
  have hs3 : (sg3 == 0) = false := by rw [hsg]; have := HZ.out.1; unfold sgnI; split <;> (try split) <;> simp <;> omega
  clear hsg
  replace Xa : Hid _ := Xa.out.below hb3
  replace Xb : Hid _ := Xb.out.below hb3
  replace Xr : Hid _ := Xr.out.below hb3
  replace hbw := Below.on hbw hb3
  clear hb3
  obtain ⟨cb0, cb1, cb2, fb0, fb1, fb2⟩ := Xb.out
  have hneb : gb < v3.heap.size := World.block_lt_of_cell? v3 _ cb0
  go_wp2_with fail
  clear cb0 cb1 cb2 fb0 fb1 fb2 hneb
  clear hs3
  refine (zsign (K.out.zn.below hbw)).mono ?_
  rintro e v4 ⟨rfl, hb4⟩
  rw [HZ.out.2, show sgnI 0 = 0 from rfl]
  replace Xa : Hid _ := Xa.out.below hb4
  replace Xb : Hid _ := Xb.out.below hb4
  replace Xr : Hid _ := Xr.out.below hb4
  replace hbw := Below.on hbw hb4
  clear hb4
  obtain ⟨ca0, ca1, ca2, fa0, fa1, fa2⟩ := Xa.out
  have hnea : ga < v4.heap.size := World.block_lt_of_cell? v4 _ ca0
  go_wp2_with fail
  clear ca0 ca1 ca2 fa0 fa1 fa2 hnea
  have HRL : Hid (gr < v4.heap.size ∧ w.heap.size ≤ v4.heap.size) := ⟨Xr.out.lt, hbw.size⟩
  obtain ⟨xs, hX⟩ := (H.out.zn.below hbw).ex
  refine (dcopied s hX.at_ hX.le).mono ?_
  rintro e2 v6 ⟨p6, rfl, ho6, hb6⟩
  have N6 : Hid (Nf B64 xs (x).natAbs ∧ m ≤ 8192) := ⟨hX.nf, hX.le⟩
  clear hX
  replace Xa : Hid _ := Xa.out.below hb6
  replace Xb : Hid _ := Xb.out.below hb6
  replace Xr : Hid _ := Xr.out.below hb6
  replace hbw := Below.on hbw hb6
  clear hb6
  have O6 : Hid (Own v4.heap.size v6 p6 m xs) := ho6
  clear ho6
  obtain ⟨cr0, cr1, cr2, fr0, fr1, fr2⟩ := Xr.out
  have hner : gr < v6.heap.size := World.block_lt_of_cell? v6 _ cr0
  go_wp2_with fail
  refine bodyPost_ret (v := .tuple #[DV s p6 m m e, .int .i64 0]) (by rw [results_cell_tmp rfl]; go_simp) rfl ⟨_, rfl, ⟨p6, m, xs, by rw [H.out.zn.sg], ?_, N6.out.1, N6.out.2⟩, ?_⟩
  · exact own_set3 O6.out HRL.out.1 HRL.out.2 _ _ _
  · exact bSet (bSet (bSet hbw _ _ _ HGr.out) _ _ _ HGr.out) _ _ _ HGr.out
end Go.Proofs.YtbafjgmfonepnaaGreatDoor
