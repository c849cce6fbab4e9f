import Derived.Test.YtabmdpfmlnnpnaaDoorJ9
import Derived.Test.YtabmdpfmlnnpnaaDoorJ10
import Derived.Test.YtabmdpfmlnnpnaaDoorJ8
import Derived.Laws.Externs
import Derived.Deep.DeepCutAuto
import Derived.BigQuiet
namespace Go.Proofs.YtabmdpfmlnnpnaaDoor
open Go.RowKit Go.Shelf
set_option maxRecDepth 20000
set_option maxHeartbeats 0
def sgnI (z : Int) : Int := if z < 0 then -1 else if z = 0 then 0 else 1
theorem of_full (z : Int) (w : World) (h0 : -9223372036854775808 ≤ z) (h1 : z ≤ 9223372036854775807) :
    Calls Tryd.prog 33 #[.int .i64 z] w fun e w' => ∃ v, e = .returned v ∧ AnsZ w.heap.size w' v z ∧ Below w.heap.size w w' := by
  by_cases hz : z < 0
  · have hd : decide (z < 0) = true := decide_eq_true hz
    obtain ⟨u, hu⟩ : ∃ u : Nat, (u : Int) = 18446744073709551616 + z := ⟨(18446744073709551616 + z).toNat, by omega⟩
    obtain ⟨v, hv⟩ : ∃ v : Nat, v = z.natAbs := ⟨_, rfl⟩
    have hvb : v < B64 := by rw [B64_eq]; omega
    have hw : IntKind.u64.wrap z = (u : Int) := wrap_u _ _ (by omega)
    have hw2 : IntKind.u64.wrap (-(u : Int)) = (v : Int) := wrap_u _ _ (by omega)
    have HV : Hid (v = z.natAbs) := hv
    have HVZ : Hid (z < 0) := hz
    clear hu hv h0 h1 hz
    go_enter Tryd.func33, Tryd.ntmps33
    go_wp2_with fail
    have B0 : Box (w.alloc (.cells #[.bool false, .slice none 0 0] 31)) w.heap.size (.bool false) (.slice none 0 0) := ⟨by go_simp, by go_simp, by go_simp, by go_simp⟩
    refine (word_any v _ hvb).mono ?_
    rintro e w1 ⟨p1, m1, z1, rfl, ho, hn, hm, hb⟩
    obtain ⟨c0, c1, f0, f1⟩ := B0.below hb
    have hbw := Below.on (below1 w _) hb
    have HOW : Hid (Own (w.heap.size + 1) w1 p1 m1 z1) := by have := ho; simp at this; exact this
    have HN : Hid (Nf B64 z1 v) := hn
    clear B0 ho hn hb hvb hw hw2
    go_wp2_with fail
    refine bodyPost_ret (v := ZV true p1 m1 m1) (by rw [results_cell1 rfl]; go_simp) rfl ⟨_, rfl, ⟨p1, m1, z1, by rw [decide_eq_true HVZ.out], ?_, by rw [← HV.out]; exact HN.out, by omega⟩, ?_⟩
    · exact ((HOW.out.setOld _ _ _ (by omega)).setOld _ _ _ (by omega)).mono (by omega)
    · exact bSet (bSet hbw _ _ _ (Nat.le_refl _)) _ _ _ (Nat.le_refl _)
  · have hd : decide (z < 0) = false := decide_eq_false hz
    obtain ⟨v, rfl⟩ := Int.eq_ofNat_of_zero_le (by omega : 0 ≤ z)
    have hvb : v < B64 := by rw [B64_eq]; omega
    have hw : IntKind.u64.wrap (v : Int) = (v : Int) := wrap_u _ _ (by omega)
    clear h0 h1 hz
    go_enter Tryd.func33, Tryd.ntmps33
    go_wp2_with fail
    have B0 : Box (w.alloc (.cells #[.bool false, .slice none 0 0] 31)) w.heap.size (.bool false) (.slice none 0 0) := ⟨by go_simp, by go_simp, by go_simp, by go_simp⟩
    refine (word_any v _ hvb).mono ?_
    rintro e w1 ⟨p1, m1, z1, rfl, ho, hn, hm, hb⟩
    obtain ⟨c0, c1, f0, f1⟩ := B0.below hb
    have hbw := Below.on (below1 w _) hb
    have HOW : Hid (Own (w.heap.size + 1) w1 p1 m1 z1) := by have := ho; simp at this; exact this
    have HN : Hid (Nf B64 z1 v) := hn
    clear B0 ho hn hb hvb hw
    go_wp2_with fail
    refine bodyPost_ret (v := ZV false p1 m1 m1) (by rw [results_cell1 rfl]; go_simp) rfl ⟨_, rfl, ⟨p1, m1, z1, ?_, ?_, HN.out, by omega⟩, ?_⟩
    · rw [decide_eq_false (Int.not_lt.2 (Int.natCast_nonneg v))]
    · exact ((HOW.out.setOld _ _ _ (by omega)).setOld _ _ _ (by omega)).mono (by omega)
    · exact bSet (bSet hbw _ _ _ (Nat.le_refl _)) _ _ _ (Nat.le_refl _)
theorem bits_zero (a : Nat) : bitsN a = 0 ↔ a = 0 := by
  have h1 := lt_pow_bits a 0
  constructor
  · intro e
    have := h1.2 (by omega)
    omega
  · rintro rfl
    have := h1.1 (by omega)
    omega
theorem sign_any {p : Option Addr} {m c : Nat} {xs : List Nat} {a : Nat} {w : World} (s : Bool) (h : Num w p m c xs a) :
    Calls Tryd.prog 29 #[ZV s p m c] w fun e w' => e = .returned (.int .i64 (sgnI (iv s a))) ∧ Below w.heap.size w w' := by
  have H : Hid (Num w p m c xs a) := h
  have hm := h.le
  obtain ⟨bb, hbb⟩ : ∃ bb, bb = bitsN a := ⟨_, rfl⟩
  have HBB : Hid (bb = bitsN a) := hbb
  clear h hbb
  by_cases ha : a = 0
  · have hb0 : bb = 0 := by rw [HBB.out]; exact (bits_zero a).2 ha
    have hr : sgnI (iv s a) = 0 := by rw [ha]; cases s <;> rfl
    rw [hr]
    clear hr ha
    go_enter Tryd.func29, Tryd.ntmps29
    go_wp2_with fail
    refine (bits_any (H.out.at_.alloc _) (by omega)).mono ?_
    rintro e w1 ⟨rfl, hw⟩
    rw [H.out.nf.val, ← HBB.out, hb0]
    have hbw : Below w.heap.size w w1 := by rw [hw]; exact below1 w _
    clear hw hb0
    go_wp2_with fail
    go_ret
    exact ⟨rfl, hbw⟩
  · have hb0 : ((bb : Int) == 0) = false := by have := mt (bits_zero a).1 ha; rw [← HBB.out] at this; simpa using this
    obtain ⟨sg, hsg⟩ : ∃ sg, sg = sgnI (iv s a) := ⟨_, rfl⟩
    rw [← hsg]
    have HSG : Hid (sg = if s = true then -1 else 1) := by
      show _ = _
      rw [hsg]; unfold sgnI
      cases s
      · rw [iv_f, if_neg (by omega), if_neg (by omega), if_neg (by simp)]
      · rw [iv_t, if_pos (by omega), if_pos rfl]
    clear hsg ha
    cases s
    · go_enter Tryd.func29, Tryd.ntmps29
      go_wp2_with fail
      refine (bits_any (H.out.at_.alloc _) (by omega)).mono ?_
      rintro e w1 ⟨rfl, hw⟩
      rw [H.out.nf.val, ← HBB.out]
      have hbw : Below w.heap.size w w1 := by rw [hw]; exact below1 w _
      have B0 : Box (w.alloc (.cells #[.bool false, .slice p m c] 31)) w.heap.size (.bool false) (.slice p m c) := ⟨by go_simp, by go_simp, by go_simp, by go_simp⟩
      obtain ⟨c0, c1, f0, f1⟩ := B0
      rw [← hw] at c0 c1 f0 f1
      clear hw
      go_wp2_with fail
      go_ret
      exact ⟨by rw [HSG.out]; rfl, hbw⟩
    · go_enter Tryd.func29, Tryd.ntmps29
      go_wp2_with fail
      refine (bits_any (H.out.at_.alloc _) (by omega)).mono ?_
      rintro e w1 ⟨rfl, hw⟩
      rw [H.out.nf.val, ← HBB.out]
      have hbw : Below w.heap.size w w1 := by rw [hw]; exact below1 w _
      have B0 : Box (w.alloc (.cells #[.bool true, .slice p m c] 31)) w.heap.size (.bool true) (.slice p m c) := ⟨by go_simp, by go_simp, by go_simp, by go_simp⟩
      obtain ⟨c0, c1, f0, f1⟩ := B0
      rw [← hw] at c0 c1 f0 f1
      clear hw
      go_wp2_with fail
      go_ret
      exact ⟨by rw [HSG.out]; rfl, hbw⟩
theorem Box.put {W : World} {g : Nat} {v0 v1 : Value} (h : Box W g v0 v1) (u0 u1 : Value) : Box ((W.setCell ⟨g, 0, none⟩ u0).setCell ⟨g, 1, none⟩ u1) g u0 u1 := by
  obtain ⟨c0, c1, f0, f1⟩ := h
  exact ⟨by go_simp, by go_simp, by go_simp, by go_simp⟩
structure ZN (w : World) (s : Bool) (p : Option Addr) (m c : Nat) (z : Int) : Prop where
  ex : ∃ xs, Num w p m c xs z.natAbs
  sg : s = decide (z < 0)
theorem ZN.below {w w' : World} {s : Bool} {p : Option Addr} {m c : Nat} {z : Int} (h : ZN w s p m c z) (hb : Below w.heap.size w w') : ZN w' s p m c z := by
  obtain ⟨xs, hx⟩ := h.ex
  exact ⟨⟨xs, hx.below hb⟩, h.sg⟩
theorem ZN.iv {w : World} {s : Bool} {p : Option Addr} {m c : Nat} {z : Int} (h : ZN w s p m c z) : iv s z.natAbs = z := by rw [h.sg]; exact iv_abs z
theorem ZN.pos {w : World} {s : Bool} {p : Option Addr} {m c : Nat} {z : Int} (h : ZN w s p m c z) : s = true → 0 < z.natAbs := by rw [h.sg]; exact sgn_pos z
theorem ZN.lim {w : World} {s : Bool} {p : Option Addr} {m c : Nat} {z : Int} (h : ZN w s p m c z) : z.natAbs < LIM := by
  obtain ⟨xs, hx⟩ := h.ex
  exact hx.lim
theorem ZN.le {w : World} {s : Bool} {p : Option Addr} {m c : Nat} {z : Int} (h : ZN w s p m c z) : m ≤ 8192 := by
  obtain ⟨xs, hx⟩ := h.ex
  exact hx.le
theorem ZN.cast {w : World} {s : Bool} {p : Option Addr} {m c : Nat} {z z' : Int} (h : ZN w s p m c z) (e : z = z') : ZN w s p m c z' := e ▸ h
theorem ZN.of {w : World} {p : Option Addr} {m c : Nat} {xs : List Nat} {a : Nat} {t : Bool} (h : Num w p m c xs a) (ht : t = true → 0 < a) : ZN w t p m c (Go.Proofs.YtabmdpfmlnnpnaaDoor.iv t a) :=
  ⟨⟨xs, by rw [iv_natAbs]; exact h⟩, by
    cases t
    · rw [iv_f]; exact (decide_eq_false (Int.not_lt.2 (Int.natCast_nonneg _))).symm
    · rw [iv_t]; have := ht rfl; exact (decide_eq_true (by omega)).symm⟩
def Got (w' : World) (e : Ending) (z : Int) : Prop := ∃ s p m, e = .returned (.tuple #[ZV s p m m, .int .i64 0]) ∧ ZN w' s p m m z
theorem AnsZ.zn {B : Nat} {w' : World} {v : Value} {z : Int} (h : AnsZ B w' v z) : ∃ s p m, v = ZV s p m m ∧ ZN w' s p m m z := by
  obtain ⟨p, m, zs, rfl, ho, hn, hm⟩ := h
  exact ⟨_, p, m, rfl, ⟨zs, Num.of ho hn hm⟩, rfl⟩
theorem AnsI.zn {B : Nat} {w' : World} {e : Ending} {z : Int} (h : AnsI B w' e z) : (z.natAbs < LIM ∧ Got w' e z) ∨ (LIM ≤ z.natAbs ∧ e = .returned (.tuple #[ZV false none 0 0, .int .i64 5])) := by
  rcases h with ⟨hl, p, m, zs, rfl, ho, hn, hm⟩ | ⟨hl, rfl⟩
  · exact .inl ⟨hl, _, p, m, rfl, ⟨zs, Num.of ho hn hm⟩, rfl⟩
  · exact .inr ⟨hl, rfl⟩
theorem AnsI.got {B : Nat} {w' : World} {e : Ending} {z : Int} (h : AnsI B w' e z) (hz : z.natAbs < LIM) : Got w' e z := by
  rcases h.zn with ⟨_, k⟩ | ⟨k, _⟩
  · exact k
  · omega
variable {w : World} {s t : Bool} {p q : Option Addr} {m c n d : Nat} {x y : Int}
theorem zadd (h : ZN w s p m c x) (k : ZN w t q n d y) : Calls Tryd.prog 35 #[ZV s p m c, ZV t q n d] w fun e w' => AnsI w.heap.size w' e (x + y) ∧ Below w.heap.size w w' := by
  obtain ⟨xs, hx⟩ := h.ex
  obtain ⟨ys, hy⟩ := k.ex
  have := nadd_any s t hx hy h.pos k.pos
  rwa [h.iv, k.iv] at this
theorem zcmp (h : ZN w s p m c x) (k : ZN w t q n d y) : Calls Tryd.prog 39 #[ZV s p m c, ZV t q n d] w fun e w' => e = .returned (.tuple #[.int .i64 (cmpI x y), .int .i64 0]) ∧ Below w.heap.size w w' := by
  obtain ⟨xs, hx⟩ := h.ex
  obtain ⟨ys, hy⟩ := k.ex
  have := ncmp_any s t hx h.pos hy k.pos
  rwa [h.iv, k.iv] at this
theorem zshl (h : ZN w s p m c x) (k : Nat) (hk : k ≤ 9223372036854775807) : Calls Tryd.prog 49 #[ZV s p m c, .int .i64 k] w fun e w' => AnsI w.heap.size w' e (x * 2 ^ k) ∧ Below w.heap.size w w' := by
  obtain ⟨xs, hx⟩ := h.ex
  have := nshl_any s hx h.pos k hk
  rwa [show Go.Proofs.YtabmdpfmlnnpnaaDoor.iv s (2 ^ k * x.natAbs) = x * 2 ^ k from by
    have e := h.iv
    rw [show Go.Proofs.YtabmdpfmlnnpnaaDoor.iv s (2 ^ k * x.natAbs) = Go.Proofs.YtabmdpfmlnnpnaaDoor.iv s x.natAbs * 2 ^ k from by cases s <;> simp [Go.Proofs.YtabmdpfmlnnpnaaDoor.iv, Int.mul_comm, Int.neg_mul], e]] at this
theorem zsign (h : ZN w s p m c x) : Calls Tryd.prog 29 #[ZV s p m c] w fun e w' => e = .returned (.int .i64 (sgnI x)) ∧ Below w.heap.size w w' := by
  obtain ⟨xs, hx⟩ := h.ex
  have := sign_any s hx
  rwa [h.iv] at this
theorem zform (h : ZN w s p m c x) : Calls Tryd.prog 43 #[ZV s p m c] w fun e w' => e = .returned (.bool true) ∧ Below w.heap.size w w' := by
  obtain ⟨xs, hx⟩ := h.ex
  exact numform_t s hx h.pos
theorem zof (z : Int) (w : World) (h0 : -9223372036854775808 ≤ z) (h1 : z ≤ 9223372036854775807) : Calls Tryd.prog 33 #[.int .i64 z] w fun e w' => ∃ s p m, e = .returned (ZV s p m m) ∧ ZN w' s p m m z ∧ Below w.heap.size w w' :=
  (of_full z w h0 h1).mono fun e w' ⟨v, he, hv, hb⟩ => by
    obtain ⟨s', p', m', rfl, hz⟩ := hv.zn
    exact ⟨s', p', m', he, hz, hb⟩
structure B3q (W : World) (g : Nat) (v0 v1 v2 : Value) : Prop where
  c0 : W.cell? ⟨g, 0, none⟩ = some v0
  c1 : W.cell? ⟨g, 1, none⟩ = some v1
  c2 : W.cell? ⟨g, 2, none⟩ = some v2
  f0 : W.frozen? ⟨g, 0, none⟩ = false
  f1 : W.frozen? ⟨g, 1, none⟩ = false
  f2 : W.frozen? ⟨g, 2, none⟩ = false
theorem B3q.lt {w : World} {g : Nat} {a b c : Value} (h : B3q w g a b c) : g < w.heap.size := World.block_lt_of_cell? w _ h.c0
theorem B3q.below {W W' : World} {g : Nat} {v0 v1 v2 : Value} (h : B3q W g v0 v1 v2) (hb : Below W.heap.size W W') : B3q W' g v0 v1 v2 := by
  have hl : g < W.heap.size := World.block_lt_of_cell? W _ h.c0
  exact ⟨(hb.cell (p := ⟨g, 0, none⟩) hl).trans h.c0, (hb.cell (p := ⟨g, 1, none⟩) hl).trans h.c1, (hb.cell (p := ⟨g, 2, none⟩) hl).trans h.c2, (hb.frozen (p := ⟨g, 0, none⟩) hl).trans h.f0, (hb.frozen (p := ⟨g, 1, none⟩) hl).trans h.f1, (hb.frozen (p := ⟨g, 2, none⟩) hl).trans h.f2⟩
theorem B3q.new (w : World) (ty : TypeId) (v0 v1 v2 : Value) : B3q (w.alloc (.cells #[v0, v1, v2] ty)) w.heap.size v0 v1 v2 := ⟨by go_simp, by go_simp, by go_simp, by go_simp, by go_simp, by go_simp⟩
abbrev DV (s : Bool) (p : Option Addr) (m c : Nat) (e : Int) : Value := .agg #[.bool s, .slice p m c, .int .i64 e]
def DFm (z e : Int) : Prop := (z = 0 ∧ e = 0) ∨ (z % 2 = 1 ∧ -1048576 ≤ e ∧ e ≤ 1048576)
structure DN (w : World) (s : Bool) (p : Option Addr) (m c : Nat) (e z : Int) : Prop where
  zn : ZN w s p m c z
  fm : DFm z e
theorem DN.below {w w' : World} {s : Bool} {p : Option Addr} {m c : Nat} {e z : Int} (h : DN w s p m c e z) (hb : Below w.heap.size w w') : DN w' s p m c e z := ⟨h.zn.below hb, h.fm⟩
def dv (z e : Int) : Int := z * ((2 ^ (e + 4194304).toNat : Nat) : Int)
theorem pow_pos_int (k : Nat) : ((2 ^ k : Nat) : Int) ≠ 0 := by
  have : 0 < 2 ^ k := Nat.pow_pos (by omega)
  intro h
  have := Int.ofNat.inj h
  omega
theorem dpow_split {a b : Nat} (h : a ≤ b) : ((2 ^ b : Nat) : Int) = ((2 ^ (b - a) : Nat) : Int) * ((2 ^ a : Nat) : Int) := by
  have : 2 ^ b = 2 ^ (b - a) * 2 ^ a := by rw [← Nat.pow_add, Nat.sub_add_cancel h]
  rw [this, Int.natCast_mul]
theorem dv_zero (e : Int) : dv 0 e = 0 := by unfold dv; rw [Int.zero_mul]
theorem dv_eq_zero {z e : Int} (h : dv z e = 0) : z = 0 := by
  unfold dv at h
  exact (Int.mul_eq_zero.1 h).resolve_right (pow_pos_int _)
theorem odd_ne {z z' : Int} {a b : Nat} (hz : z % 2 = 1) (h : z * ((2 ^ a : Nat) : Int) = z' * ((2 ^ b : Nat) : Int)) : b ≤ a := by
  refine Nat.le_of_not_lt fun hlt => ?_
  rw [dpow_split (Nat.le_of_lt hlt), ← Int.mul_assoc] at h
  have h1 := Int.eq_of_mul_eq_mul_right (pow_pos_int a) h
  obtain ⟨k, hk⟩ : ∃ k, b - a = k + 1 := ⟨b - a - 1, by omega⟩
  rw [hk, Nat.pow_succ, Int.natCast_mul] at h1
  have h2 : z = (z' * ((2 ^ k : Nat) : Int)) * 2 := by rw [h1, Int.mul_assoc]; rfl
  generalize z' * ((2 ^ k : Nat) : Int) = q at h2
  omega
theorem dv_inj {z e z' e' : Int} (h : DFm z e) (h' : DFm z' e') (hv : dv z e = dv z' e') : z = z' ∧ e = e' := by
  rcases h with ⟨rfl, rfl⟩ | ⟨h1, h2, h3⟩
  · rw [dv_zero] at hv
    have := dv_eq_zero hv.symm
    subst this
    rcases h' with ⟨_, rfl⟩ | ⟨k1, _⟩
    · exact ⟨rfl, rfl⟩
    · omega
  · rcases h' with ⟨rfl, rfl⟩ | ⟨k1, k2, k3⟩
    · rw [dv_zero] at hv
      have := dv_eq_zero hv
      subst this
      omega
    · unfold dv at hv
      have a1 := odd_ne h1 hv
      have a2 := odd_ne k1 hv.symm
      have he : e = e' := by omega
      subst he
      exact ⟨Int.eq_of_mul_eq_mul_right (pow_pos_int _) hv, rfl⟩
theorem dv_shift {z e f : Int} (h : f ≤ e) (hf : -4194304 ≤ f) : dv z e = dv (z * ((2 ^ (e - f).toNat : Nat) : Int)) f := by
  unfold dv
  rw [dpow_split (a := (f + 4194304).toNat) (b := (e + 4194304).toNat) (by omega), ← Int.mul_assoc, show (e + 4194304).toNat - (f + 4194304).toNat = (e - f).toNat from by omega]
theorem dv_add (x y e : Int) : dv (x + y) e = dv x e + dv y e := by unfold dv; rw [Int.add_mul]
theorem dv_neg (x e : Int) : dv (-x) e = - dv x e := by unfold dv; rw [Int.neg_mul]
theorem own_set3 {B b : Nat} {w' : World} {p : Option Addr} {m : Nat} {zs : List Nat} (h : Own B w' p m zs) {r : Nat} (hr : r < B) (hb : b ≤ B) (v0 v1 v2 : Value) : Own b (((w'.setCell ⟨r, 0, none⟩ v0).setCell ⟨r, 1, none⟩ v1).setCell ⟨r, 2, none⟩ v2) p m zs :=
  (((h.setOld _ _ _ hr).setOld _ _ _ hr).setOld _ _ _ hr).mono hb
def AnsD (B : Nat) (w' : World) (v : Value) (z e : Int) : Prop :=
  ∃ p m zs, v = DV (decide (z < 0)) p m m e ∧ Own B w' p m zs ∧ Nf B64 zs z.natAbs ∧ m ≤ 8192
theorem AnsD.dn {B : Nat} {w' : World} {v : Value} {z e : Int} (h : AnsD B w' v z e) (hf : DFm z e) : ∃ s p m, v = DV s p m m e ∧ DN w' s p m m e z := by
  obtain ⟨p, m, zs, rfl, ho, hn, hm⟩ := h
  exact ⟨_, p, m, rfl, ⟨⟨zs, Num.of ho hn hm⟩, rfl⟩, hf⟩
theorem tz_split {z : Int} {k : Nat} (hz : z ≠ 0) (h : TzO z.natAbs k) : fl (decide (z < 0)) z.natAbs (2 ^ k) % 2 = 1 ∧ fl (decide (z < 0)) z.natAbs (2 ^ k) * ((2 ^ k : Nat) : Int) = z ∧ (fl (decide (z < 0)) z.natAbs (2 ^ k)).natAbs ≤ z.natAbs := by
  rcases h with ⟨h0, _⟩ | ⟨_, h1, h2⟩
  · omega
  · have hd := Nat.div_add_mod z.natAbs (2 ^ k)
    rw [h1, Nat.add_zero, Nat.mul_comm] at hd
    have hle := Nat.div_le_self z.natAbs (2 ^ k)
    unfold fl
    rw [h1]
    generalize z.natAbs / 2 ^ k = q at *
    have hc : (q : Int) * ((2 ^ k : Nat) : Int) = (z.natAbs : Int) := by rw [← Int.natCast_mul, hd]
    by_cases hs : z < 0
    · rw [decide_eq_true hs]
      simp only [ne_eq, not_true_eq_false, decide_false, Bool.and_false, Bool.toNat_false, Nat.add_zero, iv, if_true]
      refine ⟨by omega, by rw [Int.neg_mul, hc]; omega, by omega⟩
    · rw [decide_eq_false hs]
      simp only [ne_eq, not_true_eq_false, decide_false, Bool.and_false, Bool.toNat_false, Nat.add_zero, iv]
      refine ⟨?_, ?_, ?_⟩
      · show (q : Int) % 2 = 1; omega
      · show (q : Int) * _ = z; rw [hc]; omega
      · show (q : Int).natAbs ≤ _; omega
theorem patternOf_64 (b : Nat) (hb : b < 2 * 9223372036854775808) (w : World) :
    Calls Tryd.prog 90 #[.int .i64 64, U b] w fun en w' => en = .returned (.tuple #[PV 64 53 (-1074) (decide (9223372036854775808 ≤ b)) (b % 9223372036854775808), .int .i64 0]) ∧ Below w.heap.size w w' := by
  have hl : bl_bitsN b ≤ 64 := bl_le (by omega)
  have e1 : bits BinOp.and IntKind.u64 (b : Int) 9223372036854775808 = _ := sign_and b 9223372036854775808 63 (by decide) (by decide) hb
  have e2 : bits BinOp.andNot IntKind.u64 (b : Int) 9223372036854775808 = _ := sign_andNot b 9223372036854775808 63 (by decide) (by decide) hb
  obtain ⟨z, hz⟩ : ∃ z, z = b % 9223372036854775808 := ⟨_, rfl⟩
  obtain ⟨s, hs⟩ : ∃ s, s = decide (9223372036854775808 ≤ b) := ⟨_, rfl⟩
  obtain ⟨y, hy⟩ : ∃ y, y = (if 9223372036854775808 ≤ b then 9223372036854775808 else 0) := ⟨_, rfl⟩
  rw [← hz] at e2 ⊢
  rw [← hy] at e1
  rw [← hs]
  have hys2 : ((y : Int) == 0) = !s := by
    rw [hy, hs]
    by_cases h : 9223372036854775808 ≤ b <;> simp [h]
  have hys : ((y : Int) != 0) = s := by simp [bne, hys2]
  obtain ⟨ln, hll⟩ : ∃ l, l = bl_bitsN b := ⟨_, rfl⟩
  rw [← hll] at hl
  have hltb : decide ((64 : Int) < (ln : Int)) = false := decide_eq_false (by omega)
  have HLL : Hid (bl_bitsN b = ln) := hll.symm
  have HBB : Hid (b < B64) := by show b < B64; rw [B64_eq]; omega
  clear hz hs hy hl hb hll
  go_enter Tryd.func90, Tryd.ntmps90
  go_wp2_with fail
  obtain ⟨W0, hW0⟩ : ∃ W0, W0 = (w.alloc (.cells #[.int .i64 0, .int .i64 0, .int .i64 0, .bool false, .int .u64 0] 106)) := ⟨_, rfl⟩
  have Xr : Hid (B5q W0 (w.heap.size) (.int .i64 0) (.int .i64 0) (.int .i64 0) (.bool false) (.int .u64 0)) := by rw [hW0]; exact ⟨by go_simp, by go_simp, by go_simp, by go_simp, by go_simp, by go_simp, by go_simp, by go_simp, by go_simp, by go_simp⟩
  have hb0 : Below w.heap.size w W0 := by rw [hW0]; exact below1 w _
  rw [← hW0]
  clear hW0
  have hbw : Below w.heap.size w w := Below.refl _ _
  obtain ⟨gr, hgr⟩ : ∃ g, g = w.heap.size := ⟨_, rfl⟩
  have HGr : Hid (w.heap.size ≤ gr) := by rw [hgr]; show _ ≤ _; omega
  rw [← hgr] at Xr
  try rw [← hgr]
  clear hgr
  replace hbw := Below.on hbw hb0
  clear hb0
  refine (of_64 _).mono ?_
  rintro e v1 ⟨rfl, hb1⟩
  replace Xr : Hid _ := Xr.out.below hb1
  replace hbw := Below.on hbw hb1
  clear hb1
  go_wp2_with fail
  have HDr : Hid (gr ≠ v1.heap.size) := Nat.ne_of_lt Xr.out.lt
  have Xg0 : Hid (B3q (v1.alloc (.cells #[.int .i64 64, .int .i64 53, .int .i64 (-1074)] 104)) v1.heap.size (.int .i64 64) (.int .i64 53) (.int .i64 (-1074))) := B3q.new v1 _ _ _ _
  have hbn : Below v1.heap.size v1 (v1.alloc (.cells #[.int .i64 64, .int .i64 53, .int .i64 (-1074)] 104)) := below1 v1 _
  generalize v1.alloc (.cells #[.int .i64 64, .int .i64 53, .int .i64 (-1074)] 104) = Wg at *
  have HGg : Hid (w.heap.size ≤ v1.heap.size) := hbw.size
  replace Xr : Hid _ := Xr.out.below hbn
  replace hbw := Below.on hbw hbn
  clear hbn
  generalize v1.heap.size = gg at *
  have Xg := Xg0
  clear Xg0
  obtain ⟨W3, hW3⟩ : ∃ W1, W1 = Wg.drew := ⟨_, rfl⟩
  have hbd : Below Wg.heap.size Wg W3 := by rw [hW3]; exact bDrew1 (Below.refl _ _)
  replace Xr : Hid _ := Xr.out.below hbd
  replace Xg : Hid _ := Xg.out.below hbd
  replace hbw := Below.on hbw hbd
  clear hbd
  have HJ : Hid ((fun W' : World => W'.cell? ⟨gg, 0, none⟩ = some (.int .i64 64)) W3) := Xg.out.c0
  refine wp_region_J (fun W' => W'.cell? ⟨gg, 0, none⟩ = some (.int .i64 64)) (by kernel_rfl) ?_
  rw [← hW3]
  clear hW3
  refine wpJ_tk 0 (v := ?v15x0) rfl ?hy15x0 HJ.out ?_
  case hy15x0 => (intro W' hJ; have j0 := hJ; go_simp; first | done | with_reducible rfl)
  refine wpJ_tk 2 (v := ?v16x2) rfl ?hy16x2 HJ.out ?_
  case hy16x2 => (intro W' hJ; have j0 := hJ; go_simp; first | done | with_reducible rfl)
  refine wpJ_tk 3 (v := ?v17x3) rfl ?hy17x3 HJ.out ?_
  case hy17x3 => (intro W' hJ; have j0 := hJ; go_simp; first | done | with_reducible rfl)
  refine wpJ_on 1 rfl fun KJ hK => ?_
  go_simp
  refine (bl_len_any b _ HBB.out).mono ?_
  rintro e2 v2 ⟨rfl, hw⟩
  obtain rfl := hw.symm
  clear hw
  rw [HLL.out]
  clear HJ
  have HJ : Hid ((fun W' : World => W'.cell? ⟨gg, 0, none⟩ = some (.int .i64 64)) W3) := Xg.out.c0
  refine hK _ _ HJ.out ?_
  clear hK
  refine wpJ_tk 4 (v := ?v18x4) rfl ?hy18x4 HJ.out ?_
  case hy18x4 => (intro W' hJ; have j0 := hJ; go_simp; first | done | with_reducible rfl)
  refine wpJ_done (by kernel_rfl) ?_ _
  clear HJ
  obtain ⟨cg0, cg1, cg2, fg0, fg1, fg2⟩ := Xg.out
  have hneg : gg < W3.heap.size := World.block_lt_of_cell? W3 _ cg0
  go_wp2_with fail
  clear cg0 cg1 cg2 fg0 fg1 fg2 hneg
  obtain ⟨W6, hW6⟩ : ∃ W1, W1 = W3.drew := ⟨_, rfl⟩
  have hbd : Below W3.heap.size W3 W6 := by rw [hW6]; exact bDrew1 (Below.refl _ _)
  replace Xr : Hid _ := Xr.out.below hbd
  replace Xg : Hid _ := Xg.out.below hbd
  replace hbw := Below.on hbw hbd
  clear hbd
  have HJ : Hid ((fun W' : World => W'.cell? ⟨gg, 0, none⟩ = some (.int .i64 64) ∧ W'.cell? ⟨gg, 1, none⟩ = some (.int .i64 53) ∧ W'.cell? ⟨gg, 2, none⟩ = some (.int .i64 (-1074))) W6) := ⟨Xg.out.c0, Xg.out.c1, Xg.out.c2⟩
  refine wp_region_J (fun W' => W'.cell? ⟨gg, 0, none⟩ = some (.int .i64 64) ∧ W'.cell? ⟨gg, 1, none⟩ = some (.int .i64 53) ∧ W'.cell? ⟨gg, 2, none⟩ = some (.int .i64 (-1074))) (by kernel_rfl) ?_
  rw [← hW6]
  clear hW6
  refine wpJ_tq 0 rfl HJ.out ?_
  refine wpJ_tq 1 rfl HJ.out ?_
  refine wpJ_tq 2 rfl HJ.out ?_
  refine wpJ_tq 6 rfl HJ.out ?_
  refine wpJ_tq 7 rfl HJ.out ?_
  refine wpJ_on 3 rfl fun KJ hK => ?_
  go_simp
  refine (sign_64 _).mono ?_
  rintro e v4 ⟨rfl, hb4⟩
  replace Xr : Hid _ := Xr.out.below hb4
  replace Xg : Hid _ := Xg.out.below hb4
  replace hbw := Below.on hbw hb4
  clear hb4
  clear HJ
  have HJ : Hid ((fun W' : World => W'.cell? ⟨gg, 0, none⟩ = some (.int .i64 64) ∧ W'.cell? ⟨gg, 1, none⟩ = some (.int .i64 53) ∧ W'.cell? ⟨gg, 2, none⟩ = some (.int .i64 (-1074))) v4) := ⟨Xg.out.c0, Xg.out.c1, Xg.out.c2⟩
  refine hK _ _ HJ.out ?_
  clear hK
  refine wpJ_tq 4 rfl HJ.out ?_
  refine wpJ_tq 5 rfl HJ.out ?_
  refine wpJ_on 8 rfl fun KJ hK => ?_
  go_simp
  refine (sign_64 _).mono ?_
  rintro e v5 ⟨rfl, hb5⟩
  replace Xr : Hid _ := Xr.out.below hb5
  replace Xg : Hid _ := Xg.out.below hb5
  replace hbw := Below.on hbw hb5
  clear hb5
  clear HJ
  have HJ : Hid ((fun W' : World => W'.cell? ⟨gg, 0, none⟩ = some (.int .i64 64) ∧ W'.cell? ⟨gg, 1, none⟩ = some (.int .i64 53) ∧ W'.cell? ⟨gg, 2, none⟩ = some (.int .i64 (-1074))) v5) := ⟨Xg.out.c0, Xg.out.c1, Xg.out.c2⟩
  refine hK _ _ HJ.out ?_
  clear hK
  refine wpJ_tq 9 rfl HJ.out ?_
  refine wpJ_tq 10 rfl HJ.out ?_
  obtain ⟨cr0, cr1, cr2, cr3, cr4, fr0, fr1, fr2, fr3, fr4⟩ := Xr.out
  have hner : gr < v5.heap.size := World.block_lt_of_cell? v5 _ cr0
  obtain ⟨cg0, cg1, cg2, fg0, fg1, fg2⟩ := Xg.out
  have hneg : gg < v5.heap.size := World.block_lt_of_cell? v5 _ cg0
  have qa := HDr.out
  have qb : gg ≠ gr := fun h => qa h.symm
  refine wpJ_on 11 rfl fun KJ hK => ?_
  go_simp
  have HJ2 : Hid ((fun W' : World => W'.cell? ⟨gg, 0, none⟩ = some (.int .i64 64) ∧ W'.cell? ⟨gg, 1, none⟩ = some (.int .i64 53) ∧ W'.cell? ⟨gg, 2, none⟩ = some (.int .i64 (-1074))) (((((v5.setCell ⟨gr, 0, none⟩ (.int .i64 64)).setCell ⟨gr, 1, none⟩ (.int .i64 53)).setCell ⟨gr, 2, none⟩ (.int .i64 (-1074))).setCell ⟨gr, 3, none⟩ (.bool s)).setCell ⟨gr, 4, none⟩ (U z))) := ⟨by go_simp, by go_simp, by go_simp⟩
  refine hK _ _ HJ2.out ?_
  clear hK HJ
  have HJ := HJ2
  clear HJ2
  refine wpJ_tq 12 rfl HJ.out ?_
  refine wpJ_done (by kernel_rfl) ?_ _
  clear HJ
  go_wp2_with fail
  refine bodyPost_ret (v := .tuple #[PV 64 53 (-1074) s z, .int .i64 0]) (by rw [results_ct rfl]; go_simp) rfl ⟨rfl, ?_⟩
  exact bSet (bSet (bSet (bSet (bSet hbw _ _ _ HGr.out) _ _ _ HGr.out) _ _ _ HGr.out) _ _ _ HGr.out) _ _ _ HGr.out
end Go.Proofs.YtabmdpfmlnnpnaaDoor
namespace Go.Proofs.YtabmdpfmlnnpnaaDoor
open Go.RowKit
set_option maxRecDepth 20000
set_option maxHeartbeats 0
variable {P : Program} {md : Region.Mode} {ops : Array Oper} {Q : Exit → Act → World → Prop} {J : World → Prop}
variable {P : Program} {md : Region.Mode} {ops : Array Oper} {Q : Exit → Act → World → Prop} {J : World → Prop}
end Go.Proofs.YtabmdpfmlnnpnaaDoor
namespace Go.Proofs.YtabmdpfmlnnpnaaDoor
open Go.RowKit Go.Shelf
set_option maxRecDepth 20000
set_option maxHeartbeats 0
theorem frombits (a : Nat) (w : World) : (callFunc 6 #[U a]).run Tryd.prog w = .ok (.value (Fv a)) w := by
  rw [run_callFunc_extern Tryd.func6 (by kernel_rfl) (by kernel_rfl) (by kernel_rfl) (e := Extern.MathFloatBits.float64frombits) (by kernel_rfl)]
  rfl
theorem bitsOf (a : Nat) (w : World) : (callFunc 27 #[Fv a]).run Tryd.prog w = .ok (.value (U a)) w := by
  rw [run_callFunc_extern Tryd.func27 (by kernel_rfl) (by kernel_rfl) (by kernel_rfl) (e := Extern.MathFloatBits.float64bits) (by kernel_rfl)]
  rfl
theorem vs_max {r : Nat} (h : r < 9218868437227405312) : vs 4503599627370496 r ≤ MaxU := by
  obtain ⟨K, hK⟩ : ∃ K, K = 2045 := ⟨_, rfl⟩
  rw [MaxU_eq hK]
  unfold vs
  refine Nat.mul_le_mul (by omega) (p2le (by omega))
theorem ux_pos {r : Nat} (h : r < 9223372036854775808) : ux r = (vs 4503599627370496 r : Int) := by
  rw [ux_eq, if_neg (by omega), Nat.mod_eq_of_lt h]
theorem ux_max : ux 9218868437227405311 = (MaxU : Int) := by
  rw [ux_pos (by decide)]
  have h : vs 4503599627370496 9218868437227405311 = MaxU := by decide +kernel
  rw [h]
theorem order_max {r : Nat} (h : r < 9218868437227405312) : FloatKind.f64.format.order r 9218868437227405311 = some .lt ∨ FloatKind.f64.format.order r 9218868437227405311 = some .eq := by
  have e : FloatKind.f64.format.order r 9218868437227405311 = Ieee.double.order r 9218868437227405311 := rfl
  rw [e, order_fin ⟨by omega, by omega⟩ ⟨by decide, by decide⟩, ux_max, ux_pos (by omega), ordI]
  have := vs_max h
  rcases Nat.lt_or_eq_of_le this with h1 | h1
  · rw [if_pos (by omega)]; exact .inl rfl
  · rw [if_neg (by omega), if_pos (by omega)]; exact .inr rfl
theorem order_inf_max : FloatKind.f64.format.order 9218868437227405312 9218868437227405311 = some .gt := by decide +kernel
theorem mabs (x : Nat) (hx : x < 18446744073709551616) (w : World) : Calls Tryd.prog 10 #[Fv x] w fun en w' => en = .returned (Fv (x % 9223372036854775808)) ∧ w' = w := by
  have bo1 : ∀ w, (callFunc 27 #[Fv x]).run Tryd.prog w = .ok (.value (.int .u64 (x : Int))) w := fun w => bitsOf x w
  have br3 : bits BinOp.andNot IntKind.u64 (x : Int) 9223372036854775808 = ((x % 9223372036854775808 : Nat) : Int) := sign_andNot x 9223372036854775808 63 (by decide) (by omega) (by omega)
  generalize x % 9223372036854775808 = y at br3 ⊢
  have fb2 : ∀ w, (callFunc 6 #[.int .u64 (y : Int)]).run Tryd.prog w = .ok (.value (Fv y)) w := fun w => frombits _ w
  go_enter Tryd.func10, Tryd.ntmps10
  go_wp2_with fail
  go_ret
  exact ⟨rfl, rfl⟩
theorem isinf (x : Nat) (hx : x < 18446744073709551616) (w : World) : Calls Tryd.prog 22 #[Fv x, .int .i64 0] w fun en w' => en = .returned (.bool (decide (x % 9223372036854775808 = 9218868437227405312))) ∧ w' = w := by
  have HX := mabs x hx
  generalize hy : x % 9223372036854775808 = y at HX ⊢
  have hc : ∃ o, FloatKind.f64.format.order y 9218868437227405311 = o ∧ (o == some .gt) = decide (y = 9218868437227405312) := by
    rcases Nat.lt_trichotomy y 9218868437227405312 with h | h | h
    · have : decide (y = 9218868437227405312) = false := decide_eq_false (by omega)
      rcases order_max h with h1 | h1
      · exact ⟨_, h1, by rw [this]; rfl⟩
      · exact ⟨_, h1, by rw [this]; rfl⟩
    · subst h; exact ⟨_, order_inf_max, by simp⟩
    · have : decide (y = 9218868437227405312) = false := decide_eq_false (by omega)
      exact ⟨none, order_nan (.inl (by unfold NanP; omega)), by rw [this]; rfl⟩
  obtain ⟨o, ho, hb⟩ := hc
  rw [← hb]
  clear hb hy hx
  go_enter Tryd.func22, Tryd.ntmps22
  go_wp2_with fail
  refine (HX _).mono ?_
  rintro e v9 ⟨rfl, hw⟩
  obtain rfl := hw.symm
  clear hw
  rcases o with _ | _ | _ | _
  all_goals
    go_wp2_with fail
    go_ret
    exact ⟨by kernel_rfl, rfl⟩
theorem isnan (x : Nat) (hx : x < 18446744073709551616) (w : World) : Calls Tryd.prog 21 #[Fv x] w fun en w' => en = .returned (.bool (decide (9218868437227405312 < x % 9223372036854775808))) ∧ w' = w := by
  have hc : ∃ o, FloatKind.f64.format.order x x = o ∧ (o != some .eq) = decide (9218868437227405312 < x % 9223372036854775808) := by
    rcases three64 x hx with h | h | h
    · refine ⟨_, order_fin h h, ?_⟩
      rw [ordI, if_neg (by omega), if_pos rfl, decide_eq_false (by have := h.fin; omega)]; rfl
    · refine ⟨some .eq, ?_, ?_⟩
      · show Ieee.double.order x x = _
        unfold Ieee.Format.order
        rw [read_inf h]
        unfold Ieee.Datum.order
        cases (x / 9223372036854775808 % 2 == 1) <;> rfl
      · unfold InfP at h
        rw [decide_eq_false (by omega)]; rfl
    · refine ⟨none, order_nan (.inl h), ?_⟩
      unfold NanP at h
      rw [decide_eq_true h]; rfl
  obtain ⟨o, ho, hb⟩ := hc
  rw [← hb]
  clear hb hx
  go_enter Tryd.func21, Tryd.ntmps21
  rcases o with _ | _ | _ | _
  all_goals
    go_wp2_with fail
    go_ret
    exact ⟨by kernel_rfl, rfl⟩
theorem exp_and (b E : Nat) (h : b / 4503599627370496 = E) (hE : E < 2048) : bits BinOp.and IntKind.u64 ((b : Int) / 4503599627370496) 2047 = (E : Int) := by
  have h1 : (b : Int) / 4503599627370496 = (E : Int) := by omega
  rw [h1, show (2047 : Int) = ((2047 : Nat) : Int) from rfl, bits_and_u64_nat E 2047 (by omega) (by omega), show (2047 : Nat) = 2 ^ 11 - 1 by decide, Nat.and_two_pow_sub_one_eq_mod, Nat.mod_eq_of_lt (by simpa using hE)]
theorem sign_and0 (b : Nat) (h : b < 9223372036854775808) : bits BinOp.and IntKind.u64 (b : Int) 9223372036854775808 = 0 := by
  have h1 := bits_and_u64_nat b 9223372036854775808 (by omega) (by omega)
  rw [show ((9223372036854775808 : Nat) : Int) = 9223372036854775808 from rfl] at h1
  have h2 : b &&& 9223372036854775808 = 0 := by
    apply Nat.eq_of_testBit_eq
    intro i
    rw [Nat.testBit_and, show (9223372036854775808 : Nat) = 2 ^ 63 by decide, Nat.testBit_two_pow, Nat.zero_testBit]
    by_cases hi : 63 = i
    · subst hi; rw [Nat.testBit_lt_two_pow (by simpa using h)]; rfl
    · rw [decide_eq_false hi, Bool.and_false]
  rw [h1, h2]
  rfl
theorem mround_low (b : Nat) (hb : b < 4602678819172646912) (w : World) :
    Calls Tryd.prog 23 #[Fv b] w fun en w' => en = .returned (Fv 0) ∧ w' = w := by
  have bo1 : ∀ w, (callFunc 27 #[Fv b]).run Tryd.prog w = .ok (.value (.int .u64 (b : Int))) w := fun w => bitsOf b w
  have fb1 : ∀ w, (callFunc 6 #[.int .u64 0]).run Tryd.prog w = .ok (.value (Fv 0)) w := fun w => frombits 0 w
  obtain ⟨E, hE⟩ : ∃ E, E = b / 4503599627370496 := ⟨_, rfl⟩
  have e0 := exp_and b E hE.symm (by omega)
  have e1 : decide ((E : Int) < 1023) = true := decide_eq_true (by omega)
  have e2 : ((E : Int) == 1022) = false := by simp; omega
  have e3 := sign_and0 b (by omega)
  clear hb hE
  go_enter Tryd.func23, Tryd.ntmps23
  go_wp2_with fail
  go_ret
  exact ⟨rfl, rfl⟩
theorem mround_half (b : Nat) (hb : 4602678819172646912 ≤ b) (hb2 : b < 4607182418800017408) (w : World) :
    Calls Tryd.prog 23 #[Fv b] w fun en w' => en = .returned (Fv 4607182418800017408) ∧ w' = w := by
  have bo1 : ∀ w, (callFunc 27 #[Fv b]).run Tryd.prog w = .ok (.value (.int .u64 (b : Int))) w := fun w => bitsOf b w
  have fb2 : ∀ w, (callFunc 6 #[.int .u64 4607182418800017408]).run Tryd.prog w = .ok (.value (Fv 4607182418800017408)) w := fun w => frombits 4607182418800017408 w
  have e0 := exp_and b 1022 (by omega) (by omega)
  rw [show ((1022 : Nat) : Int) = 1022 from rfl] at e0
  have e3 := sign_and0 b (by omega)
  have e4 : bits BinOp.or IntKind.u64 0 4607182418800017408 = 4607182418800017408 := by kernel_rfl
  clear hb hb2
  go_enter Tryd.func23, Tryd.ntmps23
  go_wp2_with fail
  go_ret
  exact ⟨rfl, rfl⟩
theorem mround_0 (b f j : Nat) (hf : f < 4503599627370496) (hb : b = 1023 * 4503599627370496 + f) (hj : j = (4503599627370496 + f + 2251799813685248) / 4503599627370496) (w : World) :
    Calls Tryd.prog 23 #[Fv b] w fun en w' => en = .returned (Fv (1022 * 4503599627370496 + j * 4503599627370496)) ∧ w' = w := by
  have bo1 : ∀ w, (callFunc 27 #[Fv b]).run Tryd.prog w = .ok (.value (.int .u64 (b : Int))) w := fun w => bitsOf b w
  have hR := round_pat 0 f b j (by omega) hf hb hj
  obtain ⟨R, hRe⟩ : ∃ R, R = 1022 * 4503599627370496 + j * 4503599627370496 := ⟨_, rfl⟩
  have hR2 : (b + 2251799813685248) / 4503599627370496 * 4503599627370496 = R := by rw [hRe]; exact hR.1
  have e0 := exp_and b 1023 (by omega) (by omega)
  rw [show ((1023 : Nat) : Int) = 1023 from rfl] at e0
  obtain ⟨b2, hb2⟩ : ∃ b2, b2 = b + 2251799813685248 := ⟨_, rfl⟩
  have e1 : IntKind.u64.wrap ((b : Int) + 2251799813685248) = (b2 : Int) := by rw [IntKind.wrap_u64]; omega
  have e2 : bits BinOp.andNot IntKind.u64 (b2 : Int) 4503599627370495 = (R : Int) := by
    have h1 := low_andNot b2 52 (by omega)
    rw [show ((2 ^ 52 - 1 : Nat) : Int) = 4503599627370495 from by decide, show (2 : Nat) ^ 52 = 4503599627370496 by decide, hb2, hR2] at h1
    rw [hb2]; exact h1
  have fb1 : ∀ w, (callFunc 6 #[.int .u64 (R : Int)]).run Tryd.prog w = .ok (.value (Fv R)) w := fun w => frombits R w
  rw [← hRe]
  clear hR hRe hR2 hf hb hj hb2
  go_enter Tryd.func23, Tryd.ntmps23
  go_wp2_with fail
  go_ret
  exact ⟨rfl, rfl⟩
theorem mround_1 (b f j : Nat) (hf : f < 4503599627370496) (hb : b = 1024 * 4503599627370496 + f) (hj : j = (4503599627370496 + f + 1125899906842624) / 2251799813685248) (w : World) :
    Calls Tryd.prog 23 #[Fv b] w fun en w' => en = .returned (Fv (1023 * 4503599627370496 + j * 2251799813685248)) ∧ w' = w := by
  have bo1 : ∀ w, (callFunc 27 #[Fv b]).run Tryd.prog w = .ok (.value (.int .u64 (b : Int))) w := fun w => bitsOf b w
  have hR := round_pat 1 f b j (by omega) hf hb hj
  obtain ⟨R, hRe⟩ : ∃ R, R = 1023 * 4503599627370496 + j * 2251799813685248 := ⟨_, rfl⟩
  have hR2 : (b + 1125899906842624) / 2251799813685248 * 2251799813685248 = R := by rw [hRe]; exact hR.1
  have e0 := exp_and b 1024 (by omega) (by omega)
  rw [show ((1024 : Nat) : Int) = 1024 from rfl] at e0
  obtain ⟨b2, hb2⟩ : ∃ b2, b2 = b + 1125899906842624 := ⟨_, rfl⟩
  have e1 : IntKind.u64.wrap ((b : Int) + 1125899906842624) = (b2 : Int) := by rw [IntKind.wrap_u64]; omega
  have e2 : bits BinOp.andNot IntKind.u64 (b2 : Int) 2251799813685247 = (R : Int) := by
    have h1 := low_andNot b2 51 (by omega)
    rw [show ((2 ^ 51 - 1 : Nat) : Int) = 2251799813685247 from by decide, show (2 : Nat) ^ 51 = 2251799813685248 by decide, hb2, hR2] at h1
    rw [hb2]; exact h1
  have fb1 : ∀ w, (callFunc 6 #[.int .u64 (R : Int)]).run Tryd.prog w = .ok (.value (Fv R)) w := fun w => frombits R w
  rw [← hRe]
  clear hR hRe hR2 hf hb hj hb2
  go_enter Tryd.func23, Tryd.ntmps23
  go_wp2_with fail
  go_ret
  exact ⟨rfl, rfl⟩
theorem mround_2 (b f j : Nat) (hf : f < 4503599627370496) (hb : b = 1025 * 4503599627370496 + f) (hj : j = (4503599627370496 + f + 562949953421312) / 1125899906842624) (w : World) :
    Calls Tryd.prog 23 #[Fv b] w fun en w' => en = .returned (Fv (1024 * 4503599627370496 + j * 1125899906842624)) ∧ w' = w := by
  have bo1 : ∀ w, (callFunc 27 #[Fv b]).run Tryd.prog w = .ok (.value (.int .u64 (b : Int))) w := fun w => bitsOf b w
  have hR := round_pat 2 f b j (by omega) hf hb hj
  obtain ⟨R, hRe⟩ : ∃ R, R = 1024 * 4503599627370496 + j * 1125899906842624 := ⟨_, rfl⟩
  have hR2 : (b + 562949953421312) / 1125899906842624 * 1125899906842624 = R := by rw [hRe]; exact hR.1
  have e0 := exp_and b 1025 (by omega) (by omega)
  rw [show ((1025 : Nat) : Int) = 1025 from rfl] at e0
  obtain ⟨b2, hb2⟩ : ∃ b2, b2 = b + 562949953421312 := ⟨_, rfl⟩
  have e1 : IntKind.u64.wrap ((b : Int) + 562949953421312) = (b2 : Int) := by rw [IntKind.wrap_u64]; omega
  have e2 : bits BinOp.andNot IntKind.u64 (b2 : Int) 1125899906842623 = (R : Int) := by
    have h1 := low_andNot b2 50 (by omega)
    rw [show ((2 ^ 50 - 1 : Nat) : Int) = 1125899906842623 from by decide, show (2 : Nat) ^ 50 = 1125899906842624 by decide, hb2, hR2] at h1
    rw [hb2]; exact h1
  have fb1 : ∀ w, (callFunc 6 #[.int .u64 (R : Int)]).run Tryd.prog w = .ok (.value (Fv R)) w := fun w => frombits R w
  rw [← hRe]
  clear hR hRe hR2 hf hb hj hb2
  go_enter Tryd.func23, Tryd.ntmps23
  go_wp2_with fail
  go_ret
  exact ⟨rfl, rfl⟩
theorem mround_3 (b f j : Nat) (hf : f < 4503599627370496) (hb : b = 1026 * 4503599627370496 + f) (hj : j = (4503599627370496 + f + 281474976710656) / 562949953421312) (w : World) :
    Calls Tryd.prog 23 #[Fv b] w fun en w' => en = .returned (Fv (1025 * 4503599627370496 + j * 562949953421312)) ∧ w' = w := by
  have bo1 : ∀ w, (callFunc 27 #[Fv b]).run Tryd.prog w = .ok (.value (.int .u64 (b : Int))) w := fun w => bitsOf b w
  have hR := round_pat 3 f b j (by omega) hf hb hj
  obtain ⟨R, hRe⟩ : ∃ R, R = 1025 * 4503599627370496 + j * 562949953421312 := ⟨_, rfl⟩
  have hR2 : (b + 281474976710656) / 562949953421312 * 562949953421312 = R := by rw [hRe]; exact hR.1
  have e0 := exp_and b 1026 (by omega) (by omega)
  rw [show ((1026 : Nat) : Int) = 1026 from rfl] at e0
  obtain ⟨b2, hb2⟩ : ∃ b2, b2 = b + 281474976710656 := ⟨_, rfl⟩
  have e1 : IntKind.u64.wrap ((b : Int) + 281474976710656) = (b2 : Int) := by rw [IntKind.wrap_u64]; omega
  have e2 : bits BinOp.andNot IntKind.u64 (b2 : Int) 562949953421311 = (R : Int) := by
    have h1 := low_andNot b2 49 (by omega)
    rw [show ((2 ^ 49 - 1 : Nat) : Int) = 562949953421311 from by decide, show (2 : Nat) ^ 49 = 562949953421312 by decide, hb2, hR2] at h1
    rw [hb2]; exact h1
  have fb1 : ∀ w, (callFunc 6 #[.int .u64 (R : Int)]).run Tryd.prog w = .ok (.value (Fv R)) w := fun w => frombits R w
  rw [← hRe]
  clear hR hRe hR2 hf hb hj hb2
  go_enter Tryd.func23, Tryd.ntmps23
  go_wp2_with fail
  go_ret
  exact ⟨rfl, rfl⟩
theorem mround_4 (b f j : Nat) (hf : f < 4503599627370496) (hb : b = 1027 * 4503599627370496 + f) (hj : j = (4503599627370496 + f + 140737488355328) / 281474976710656) (w : World) :
    Calls Tryd.prog 23 #[Fv b] w fun en w' => en = .returned (Fv (1026 * 4503599627370496 + j * 281474976710656)) ∧ w' = w := by
  have bo1 : ∀ w, (callFunc 27 #[Fv b]).run Tryd.prog w = .ok (.value (.int .u64 (b : Int))) w := fun w => bitsOf b w
  have hR := round_pat 4 f b j (by omega) hf hb hj
  obtain ⟨R, hRe⟩ : ∃ R, R = 1026 * 4503599627370496 + j * 281474976710656 := ⟨_, rfl⟩
  have hR2 : (b + 140737488355328) / 281474976710656 * 281474976710656 = R := by rw [hRe]; exact hR.1
  have e0 := exp_and b 1027 (by omega) (by omega)
  rw [show ((1027 : Nat) : Int) = 1027 from rfl] at e0
  obtain ⟨b2, hb2⟩ : ∃ b2, b2 = b + 140737488355328 := ⟨_, rfl⟩
  have e1 : IntKind.u64.wrap ((b : Int) + 140737488355328) = (b2 : Int) := by rw [IntKind.wrap_u64]; omega
  have e2 : bits BinOp.andNot IntKind.u64 (b2 : Int) 281474976710655 = (R : Int) := by
    have h1 := low_andNot b2 48 (by omega)
    rw [show ((2 ^ 48 - 1 : Nat) : Int) = 281474976710655 from by decide, show (2 : Nat) ^ 48 = 281474976710656 by decide, hb2, hR2] at h1
    rw [hb2]; exact h1
  have fb1 : ∀ w, (callFunc 6 #[.int .u64 (R : Int)]).run Tryd.prog w = .ok (.value (Fv R)) w := fun w => frombits R w
  rw [← hRe]
  clear hR hRe hR2 hf hb hj hb2
  go_enter Tryd.func23, Tryd.ntmps23
  go_wp2_with fail
  go_ret
  exact ⟨rfl, rfl⟩
theorem mround_5 (b f j : Nat) (hf : f < 4503599627370496) (hb : b = 1028 * 4503599627370496 + f) (hj : j = (4503599627370496 + f + 70368744177664) / 140737488355328) (w : World) :
    Calls Tryd.prog 23 #[Fv b] w fun en w' => en = .returned (Fv (1027 * 4503599627370496 + j * 140737488355328)) ∧ w' = w := by
  have bo1 : ∀ w, (callFunc 27 #[Fv b]).run Tryd.prog w = .ok (.value (.int .u64 (b : Int))) w := fun w => bitsOf b w
  have hR := round_pat 5 f b j (by omega) hf hb hj
  obtain ⟨R, hRe⟩ : ∃ R, R = 1027 * 4503599627370496 + j * 140737488355328 := ⟨_, rfl⟩
  have hR2 : (b + 70368744177664) / 140737488355328 * 140737488355328 = R := by rw [hRe]; exact hR.1
  have e0 := exp_and b 1028 (by omega) (by omega)
  rw [show ((1028 : Nat) : Int) = 1028 from rfl] at e0
  obtain ⟨b2, hb2⟩ : ∃ b2, b2 = b + 70368744177664 := ⟨_, rfl⟩
  have e1 : IntKind.u64.wrap ((b : Int) + 70368744177664) = (b2 : Int) := by rw [IntKind.wrap_u64]; omega
  have e2 : bits BinOp.andNot IntKind.u64 (b2 : Int) 140737488355327 = (R : Int) := by
    have h1 := low_andNot b2 47 (by omega)
    rw [show ((2 ^ 47 - 1 : Nat) : Int) = 140737488355327 from by decide, show (2 : Nat) ^ 47 = 140737488355328 by decide, hb2, hR2] at h1
    rw [hb2]; exact h1
  have fb1 : ∀ w, (callFunc 6 #[.int .u64 (R : Int)]).run Tryd.prog w = .ok (.value (Fv R)) w := fun w => frombits R w
  rw [← hRe]
  clear hR hRe hR2 hf hb hj hb2
  go_enter Tryd.func23, Tryd.ntmps23
  go_wp2_with fail
  go_ret
  exact ⟨rfl, rfl⟩
theorem ux_64 {K : Nat} (hK : K = 1074) : ux 4634204016564240384 = ((64 * 2 ^ K : Nat) : Int) := by
  obtain ⟨c, hc⟩ : ∃ c, c = 1028 := ⟨_, rfl⟩
  rw [ux_pos (by decide)]
  have h := vs_E c 4503599627370496 (by omega) (by omega)
  rw [show c * 4503599627370496 + 4503599627370496 = 4634204016564240384 by subst hc; rfl] at h
  rw [h]
  have e : 4503599627370496 * 2 ^ c = 64 * 2 ^ K := by
    rw [show 4503599627370496 = 2 ^ 52 by decide, show 64 = 2 ^ 6 by decide, ← Nat.pow_add, ← Nat.pow_add, show 52 + c = 6 + K by clear h; omega]
  rw [e]
theorem word_false (r : Nat) : Ieee.double.word false r = r := by unfold Ieee.Format.word; simp
theorem mul64 (s : Nat) (hs : s ≤ 4605493568939753472) : floatBits .mul .f64 4634204016564240384 s = some (rg 0 (64 * vs 4503599627370496 s)) := by
  obtain ⟨K, hK⟩ : ∃ K, K = 1074 := ⟨_, rfl⟩
  rw [fmul_any ⟨by decide, by decide⟩ ⟨by omega, by omega⟩, ux_64 hK, ux_pos (by omega), Int.natAbs_natCast, Int.natAbs_natCast, ← hK, show 64 * 2 ^ K * vs 4503599627370496 s = 64 * vs 4503599627370496 s * 2 ^ K by rw [Nat.mul_assoc, Nat.mul_comm (2 ^ K), ← Nat.mul_assoc], rgc_int, decide_eq_false (show ¬ 9223372036854775808 ≤ 4634204016564240384 by decide), decide_eq_false (show ¬ 9223372036854775808 ≤ s by omega), Bool.xor_false, word_false]
theorem order_top (s : Nat) (hs : s < 9218868437227405312) : FloatKind.f64.format.order s 4605493568939753472 = some (if s < 4605493568939753472 then .lt else if s = 4605493568939753472 then .eq else .gt) := by
  have e : FloatKind.f64.format.order s 4605493568939753472 = Ieee.double.order s 4605493568939753472 := rfl
  rw [e, order_fin ⟨by omega, by omega⟩ ⟨by decide, by decide⟩, ux_pos (by omega), ux_pos (by omega), ordI]
  rcases Nat.lt_trichotomy s 4605493568939753472 with h | h | h
  · have := vs_mono (H := 4503599627370496) (by decide) h
    rw [if_pos (by omega), if_pos h]
  · subst h; rw [if_neg (by omega), if_pos rfl, if_neg (by omega), if_pos rfl]
  · have := vs_mono (H := 4503599627370496) (by decide) h
    rw [if_neg (by omega), if_neg (by omega), if_neg (by omega), if_neg (by omega)]
theorem mround_all {K : Nat} (hK : K = 1074) (s : Nat) (hs : s ≤ 4605493568939753472) (w : World) : Calls Tryd.prog 23 #[Fv (rg 0 (64 * vs 4503599627370496 s))] w fun en w' => ∃ R, en = .returned (Fv R) ∧ w' = w ∧ floatToIntVal .f64 R .i64 = some (plcN K s : Int) := by
  by_cases h1 : s < 4575657221408423936
  · have hP : rg 0 (64 * vs 4503599627370496 s) < 4602678819172646912 := by
      by_cases h2 : s < 4503599627370496
      · have := rg_64_low h2; omega
      · rw [rg_64 (by omega) (by omega)]; omega
    refine (mround_low _ hP w).mono ?_
    rintro en w' ⟨rfl, rfl⟩
    exact ⟨0, rfl, rfl, by rw [plc_low hK h1]; decide +kernel⟩
  rw [rg_64 (by omega) (by omega)]
  by_cases h2 : s < 4580160821035794432
  · refine (mround_half _ (by omega) (by omega) w).mono ?_
    rintro en w' ⟨rfl, rfl⟩
    refine ⟨_, rfl, rfl, ?_⟩
    have hp := plc_at K 1015 0 (s - 1016 * 4503599627370496) (by omega) (by omega) rfl hK
    rw [show (1016 + 0) * 4503599627370496 + (s - 1016 * 4503599627370496) = s by omega] at hp
    rw [hp, show (4503599627370496 + (s - 1016 * 4503599627370496) + 2 ^ (52 - 0)) / 2 ^ (53 - 0) = 1 by simp only [Nat.reducePow, Nat.reduceSub]; omega]
    decide +kernel
  by_cases h3 : s < 4584664420663164928
  · obtain ⟨f, hf⟩ : ∃ f, f = s - 1017 * 4503599627370496 := ⟨_, rfl⟩
    obtain ⟨j, hj⟩ : ∃ j, j = (4503599627370496 + f + 2251799813685248) / 4503599627370496 := ⟨_, rfl⟩
    refine (mround_0 _ f j (by omega) (by omega) hj w).mono ?_
    rintro en w' ⟨rfl, rfl⟩
    refine ⟨_, rfl, rfl, ?_⟩
    have hp := plc_at K 1016 1 f (by omega) (by omega) rfl hK
    rw [show (1016 + 1) * 4503599627370496 + f = s by omega, show (4503599627370496 + f + 2 ^ (52 - 1)) / 2 ^ (53 - 1) = j by simp only [Nat.reducePow, Nat.reduceSub]; omega] at hp
    rw [hp]
    have hc := conv_all 0 (by omega) j (by omega) (by simp only [Nat.reducePow]; omega) (by simp only [Nat.reduceAdd, Nat.reducePow]; omega)
    simp only [Nat.reducePow, Nat.reduceSub, Nat.reduceAdd, Nat.reduceMul] at hc ⊢
    exact hc
  by_cases h4 : s < 4589168020290535424
  · obtain ⟨f, hf⟩ : ∃ f, f = s - 1018 * 4503599627370496 := ⟨_, rfl⟩
    obtain ⟨j, hj⟩ : ∃ j, j = (4503599627370496 + f + 1125899906842624) / 2251799813685248 := ⟨_, rfl⟩
    refine (mround_1 _ f j (by omega) (by omega) hj w).mono ?_
    rintro en w' ⟨rfl, rfl⟩
    refine ⟨_, rfl, rfl, ?_⟩
    have hp := plc_at K 1017 2 f (by omega) (by omega) rfl hK
    rw [show (1016 + 2) * 4503599627370496 + f = s by omega, show (4503599627370496 + f + 2 ^ (52 - 2)) / 2 ^ (53 - 2) = j by simp only [Nat.reducePow, Nat.reduceSub]; omega] at hp
    rw [hp]
    have hc := conv_all 1 (by omega) j (by omega) (by simp only [Nat.reducePow]; omega) (by simp only [Nat.reduceAdd, Nat.reducePow]; omega)
    simp only [Nat.reducePow, Nat.reduceSub, Nat.reduceAdd, Nat.reduceMul] at hc ⊢
    exact hc
  by_cases h5 : s < 4593671619917905920
  · obtain ⟨f, hf⟩ : ∃ f, f = s - 1019 * 4503599627370496 := ⟨_, rfl⟩
    obtain ⟨j, hj⟩ : ∃ j, j = (4503599627370496 + f + 562949953421312) / 1125899906842624 := ⟨_, rfl⟩
    refine (mround_2 _ f j (by omega) (by omega) hj w).mono ?_
    rintro en w' ⟨rfl, rfl⟩
    refine ⟨_, rfl, rfl, ?_⟩
    have hp := plc_at K 1018 3 f (by omega) (by omega) rfl hK
    rw [show (1016 + 3) * 4503599627370496 + f = s by omega, show (4503599627370496 + f + 2 ^ (52 - 3)) / 2 ^ (53 - 3) = j by simp only [Nat.reducePow, Nat.reduceSub]; omega] at hp
    rw [hp]
    have hc := conv_all 2 (by omega) j (by omega) (by simp only [Nat.reducePow]; omega) (by simp only [Nat.reduceAdd, Nat.reducePow]; omega)
    simp only [Nat.reducePow, Nat.reduceSub, Nat.reduceAdd, Nat.reduceMul] at hc ⊢
    exact hc
  by_cases h6 : s < 4598175219545276416
  · obtain ⟨f, hf⟩ : ∃ f, f = s - 1020 * 4503599627370496 := ⟨_, rfl⟩
    obtain ⟨j, hj⟩ : ∃ j, j = (4503599627370496 + f + 281474976710656) / 562949953421312 := ⟨_, rfl⟩
    refine (mround_3 _ f j (by omega) (by omega) hj w).mono ?_
    rintro en w' ⟨rfl, rfl⟩
    refine ⟨_, rfl, rfl, ?_⟩
    have hp := plc_at K 1019 4 f (by omega) (by omega) rfl hK
    rw [show (1016 + 4) * 4503599627370496 + f = s by omega, show (4503599627370496 + f + 2 ^ (52 - 4)) / 2 ^ (53 - 4) = j by simp only [Nat.reducePow, Nat.reduceSub]; omega] at hp
    rw [hp]
    have hc := conv_all 3 (by omega) j (by omega) (by simp only [Nat.reducePow]; omega) (by simp only [Nat.reduceAdd, Nat.reducePow]; omega)
    simp only [Nat.reducePow, Nat.reduceSub, Nat.reduceAdd, Nat.reduceMul] at hc ⊢
    exact hc
  by_cases h7 : s < 4602678819172646912
  · obtain ⟨f, hf⟩ : ∃ f, f = s - 1021 * 4503599627370496 := ⟨_, rfl⟩
    obtain ⟨j, hj⟩ : ∃ j, j = (4503599627370496 + f + 140737488355328) / 281474976710656 := ⟨_, rfl⟩
    refine (mround_4 _ f j (by omega) (by omega) hj w).mono ?_
    rintro en w' ⟨rfl, rfl⟩
    refine ⟨_, rfl, rfl, ?_⟩
    have hp := plc_at K 1020 5 f (by omega) (by omega) rfl hK
    rw [show (1016 + 5) * 4503599627370496 + f = s by omega, show (4503599627370496 + f + 2 ^ (52 - 5)) / 2 ^ (53 - 5) = j by simp only [Nat.reducePow, Nat.reduceSub]; omega] at hp
    rw [hp]
    have hc := conv_all 4 (by omega) j (by omega) (by simp only [Nat.reducePow]; omega) (by simp only [Nat.reduceAdd, Nat.reducePow]; omega)
    simp only [Nat.reducePow, Nat.reduceSub, Nat.reduceAdd, Nat.reduceMul] at hc ⊢
    exact hc
  · obtain ⟨f, hf⟩ : ∃ f, f = s - 1022 * 4503599627370496 := ⟨_, rfl⟩
    obtain ⟨j, hj⟩ : ∃ j, j = (4503599627370496 + f + 70368744177664) / 140737488355328 := ⟨_, rfl⟩
    refine (mround_5 _ f j (by omega) (by omega) hj w).mono ?_
    rintro en w' ⟨rfl, rfl⟩
    refine ⟨_, rfl, rfl, ?_⟩
    have hp := plc_at K 1021 6 f (by omega) (by omega) rfl hK
    rw [show (1016 + 6) * 4503599627370496 + f = s by omega, show (4503599627370496 + f + 2 ^ (52 - 6)) / 2 ^ (53 - 6) = j by simp only [Nat.reducePow, Nat.reduceSub]; omega] at hp
    rw [hp]
    have hc := conv_all 5 (by omega) j (by omega) (by simp only [Nat.reducePow]; omega) (by simp only [Nat.reduceAdd, Nat.reducePow]; omega)
    simp only [Nat.reducePow, Nat.reduceSub, Nat.reduceAdd, Nat.reduceMul] at hc ⊢
    exact hc
theorem place_c (x : Nat) (hx : x < 18446744073709551616) (hc : 9218868437227405312 ≤ x % 9223372036854775808) (w : World) :
    Calls Tryd.prog 7 #[Fv x] w fun en w' => en = .returned (.tuple #[.int .i64 0, .int .i64 6]) ∧ Below w.heap.size w w' := by
  have HA := mabs x hx
  have HN := isnan x hx
  have HI := isinf x hx
  obtain ⟨s, hs⟩ : ∃ s, s = x % 9223372036854775808 := ⟨_, rfl⟩
  rw [← hs] at HA HN HI
  have hn : ∃ n i : Bool, decide (9218868437227405312 < s) = n ∧ decide (s = 9218868437227405312) = i ∧ (n = true ∨ i = true) := ⟨_, _, rfl, rfl, by simp; omega⟩
  obtain ⟨n, i, hn1, hn2, hni⟩ := hn
  rw [hn1] at HN
  rw [hn2] at HI
  clear hs hc hn1 hn2
  go_enter Tryd.func7, Tryd.ntmps7
  go_wp2_with fail
  have hbw : Below w.heap.size w w := Below.refl _ _
  refine (HA _).mono ?_
  rintro e v9 ⟨rfl, hw⟩
  obtain rfl := hw.symm
  clear hw
  go_wp2_with fail
  refine (HN _).mono ?_
  rintro e v9 ⟨rfl, hw⟩
  obtain rfl := hw.symm
  clear hw
  cases n with
  | true =>
    go_wp2_with fail
    go_ret2
    exact ⟨rfl, hbw⟩
  | false =>
    obtain rfl : i = true := by rcases hni with h | h; (cases h); exact h
    clear hni
    go_wp2_with fail
    refine (HI _).mono ?_
    rintro e v9 ⟨rfl, hw⟩
    obtain rfl := hw.symm
    clear hw
    go_wp2_with fail
    go_ret2
    exact ⟨rfl, hbw⟩
theorem place_l (x : Nat) (hx : x < 18446744073709551616) (hc : x % 9223372036854775808 < 9218868437227405312) (hl : 4605493568939753472 < x % 9223372036854775808) (w : World) :
    Calls Tryd.prog 7 #[Fv x] w fun en w' => en = .returned (.tuple #[.int .i64 0, .int .i64 5]) ∧ Below w.heap.size w w' := by
  have HA := mabs x hx
  have HN := isnan x hx
  have HI := isinf x hx
  obtain ⟨s, hs⟩ : ∃ s, s = x % 9223372036854775808 := ⟨_, rfl⟩
  rw [← hs] at HA HN HI
  have ho := order_top s (by omega)
  rw [decide_eq_false (show ¬ 9218868437227405312 < s by omega)] at HN
  rw [decide_eq_false (show ¬ s = 9218868437227405312 by omega)] at HI
  rw [if_neg (by omega), if_neg (by omega)] at ho
  have hbw : Below w.heap.size w w := Below.refl _ _
  clear hs hc hl
  go_enter Tryd.func7, Tryd.ntmps7
  go_wp2_with fail
  refine (HA _).mono ?_
  rintro e v9 ⟨rfl, hw⟩
  obtain rfl := hw.symm
  clear hw
  go_wp2_with fail
  refine (HN _).mono ?_
  rintro e v9 ⟨rfl, hw⟩
  obtain rfl := hw.symm
  clear hw
  go_wp2_with fail
  refine (HI _).mono ?_
  rintro e v9 ⟨rfl, hw⟩
  obtain rfl := hw.symm
  clear hw
  go_wp2_with fail
  go_ret2
  exact ⟨rfl, hbw⟩
theorem place_ok {K : Nat} (hK : K = 1074) (x : Nat) (hx : x < 18446744073709551616) (hl : x % 9223372036854775808 ≤ 4605493568939753472) (w : World) :
    Calls Tryd.prog 7 #[Fv x] w fun en w' => en = .returned (.tuple #[.int .i64 (plcN K (x % 9223372036854775808) : Int), .int .i64 0]) ∧ Below w.heap.size w w' := by
  have HA := mabs x hx
  have HN := isnan x hx
  have HI := isinf x hx
  obtain ⟨s, hs⟩ : ∃ s, s = x % 9223372036854775808 := ⟨_, rfl⟩
  rw [← hs] at HA HN HI
  have ho := order_top s (by omega)
  rw [decide_eq_false (show ¬ 9218868437227405312 < s by omega)] at HN
  rw [decide_eq_false (show ¬ s = 9218868437227405312 by omega)] at HI
  have ho2 : (∃ o, FloatKind.f64.format.order s 4605493568939753472 = some o ∧ (o = .lt ∨ o = .eq)) := by
    by_cases h : s < 4605493568939753472
    · rw [if_pos h] at ho; exact ⟨_, ho, .inl rfl⟩
    · rw [if_neg h, if_pos (by omega)] at ho; exact ⟨_, ho, .inr rfl⟩
  clear ho
  obtain ⟨o, ho, hoo⟩ := ho2
  have HR := mround_all hK s (by omega)
  have hm := mul64 s (by omega)
  rw [← hs]
  obtain ⟨q, hq⟩ : ∃ q, q = plcN K s := ⟨_, rfl⟩
  rw [← hq]
  rw [← hq] at HR
  generalize rg 0 (64 * vs 4503599627370496 s) = P at HR hm
  have fm : ∀ w, (binOp .mul 24 (Fv 4634204016564240384) (Fv s)).run Tryd.prog w = .ok (Fv P) w := fun w => run_float_arith w .mul 24 .f64 4634204016564240384 s P hm
  have hbw : Below w.heap.size w w := Below.refl _ _
  clear hs hl hq hm hK
  go_enter Tryd.func7, Tryd.ntmps7
  go_wp2_with fail
  refine (HA _).mono ?_
  rintro e v9 ⟨rfl, hw⟩
  obtain rfl := hw.symm
  clear hw
  go_wp2_with fail
  refine (HN _).mono ?_
  rintro e v9 ⟨rfl, hw⟩
  obtain rfl := hw.symm
  clear hw
  go_wp2_with fail
  refine (HI _).mono ?_
  rintro e v9 ⟨rfl, hw⟩
  obtain rfl := hw.symm
  clear hw
  rcases hoo with rfl | rfl
  · go_wp2_with fail
    refine (HR _).mono ?_
    rintro e v9 ⟨R, rfl, hw, hR⟩
    obtain rfl := hw.symm
    clear hw
    have hcv : ∀ w, (convert 24 3 (Fv R)).run Tryd.prog w = .ok (.int .i64 (q : Int)) w := fun w => run_convert_float_int w 24 3 .f64 .i64 R (q : Int) (by kernel_rfl) Tryd.underlying3 hR
    go_wp2_with fail
    go_ret2
    exact ⟨rfl, hbw⟩
  · go_wp2_with fail
    refine (HR _).mono ?_
    rintro e v9 ⟨R, rfl, hw, hR⟩
    obtain rfl := hw.symm
    clear hw
    have hcv : ∀ w, (convert 24 3 (Fv R)).run Tryd.prog w = .ok (.int .i64 (q : Int)) w := fun w => run_convert_float_int w 24 3 .f64 .i64 R (q : Int) (by kernel_rfl) Tryd.underlying3 hR
    go_wp2_with fail
    go_ret2
    exact ⟨rfl, hbw⟩
theorem stFs (w : World) (a : Addr) (b : Nat) : (store a (Fv b)).run Tryd.prog w = stored Tryd.prog w a (Fv b) .plain := run_store _ w a (Fv b) _ rfl
def SN : List Nat := [0, 0, 4580160454536392405, 13547579073368098678, 4584662954719242351, 13563949304181312226, 4586913746847464361, 13566418493652244858, 4589162157373738715, 13565635294520691561, 4590288195321689435, 13571915860097451659, 4591409928847315172, 4340058461531295770, 4592530015553861917, 4350074286710082760, 4593648181988224566, 13567934672008572987, 4594217887542005423, 13575801550145022373, 4594774641278281419, 4351741018788776849, 4595330026238453491, 13575806695459752374, 4595883906833248949, 4343065779550066627, 4596436147840664338, 4348722683634062205, 4596986614438977945, 4353223431030508715, 4597535172239664592, 13574744420402360258, 4598081687320204663, 13574233591919817400, 4598400622901027894, 13581162171891704500, 4598671637851060342, 4356212803758837748, 4598941432118424735, 4350852416605968391, 4599209939836720088, 4323523077633180570, 4599477095453637920, 4357271923058577069, 4599742833746965911, 4352666692703215819, 4600007089840510967, 13582162211903916717, 4600269799219937812, 13575796336720852686, 4600530897748519241, 4357413022124190944, 4600790321682794181, 13580214217610903384, 4601048007688129738, 13572214364228865741, 4601303892854183447, 13581416402800735513, 4601557914710261923, 4350934527179136935, 4601810011240572191, 13574689896800117400, 4602060120899361946, 4355214790318226842, 4602308182625945072, 13571467409308189309, 4602554135859608727, 4348745855762497699, 4602738369863522645, 13583657803099765505, 4602859148183212033, 13584816096337794294, 4602978782988901435, 4363303634146990465, 4603097245073468848, 4351425392996656264, 4603214505516095308, 4355590242459458906, 4603330535689325499, 4359101603699473614, 4603445307266056734, 13587258310203108016, 4603558792226454607, 4363824495314211675, 4603670962864793643, 13578651590041733032, 4603781791796221242, 13572694174990798784, 4603891251963443307, 13583961949702083845, 4603999316643329889, 4332702558478714268, 4604105959453439260, 13584475955338184753, 4604211154358458803, 4349496730363867543, 4604314875676561165, 4362137232034453386, 4604417098085674105, 13587040772166132762, 4604517796629662511, 13584747444859885030, 4604616946724421089, 13578607042041458003, 4604714524163876216, 13578955971649868450]
def TabSN (w : World) : Prop := ∀ j, j < 106 → w.cell? ⟨1, j, none⟩ = some (U (SN.getD j 0))
theorem TabSN.below {w w' : World} (h : TabSN w) (hb : Below w.heap.size w w') : TabSN w' := by
  intro j hj
  have h1 := h j hj
  have hl : 1 < w.heap.size := World.block_lt_of_cell? w _ h1
  exact (hb.cell (p := ⟨1, j, none⟩) hl).trans h1
def CN : List Nat := [4607182418800017408, 0, 4607181319310759071, 4360199296339566323, 4607178021111408595, 13583900207205620571, 4607172525007174047, 13580802267923385695, 4607164832339850451, 4360373087281693295, 4607154944987492207, 13577437272034865047, 4607142865363954587, 4360356363645614299, 4607128596418304433, 4354598035789022892, 4607112141634100179, 4362696058276736952, 4607093505028541395, 13570800116725065577, 4607072691151488040, 4362962654239356002, 4607049705084349686, 13586345316221922070, 4607024552438844956, 13584713310975483060, 4606997239355631511, 4354481718263263700, 4606967772502806894, 13574441066790794388, 4606936159074280607, 4358239809693653067, 4606902406788017825, 4363209716120537853, 4606866523884155164, 13568216631309222833, 4606828519122988968, 13582908836409922622, 4606788401782836611, 13583461530133150952, 4606746181657771328, 13584618491671399955, 4606701869055231132, 13584699945613158451, 4606655474793502401, 13571140830922498923, 4606607010199078750, 13586847198672795332, 4606556487103895826, 4347296784401157429, 4606503917842442716, 4363977163357160349, 4606449315248750656, 13584934786183195703, 4606392692653259782, 4359027992459594717, 4606334063879564703, 4361936029453593101, 4606273443241039662, 4351864918935878296, 4606210845537344132, 4357993302370877731, 4606146286050809694, 13574337134639884416, 4606079780542709072, 13585268877995206696, 4606011345249408245, 4355855762229825693, 4605940996878402574, 4347198757411991008, 4605868752604237902, 4348506336573684245, 4605794630064317638, 4355505676600721602, 4605718647354596837, 4362012674173089484, 4605640823025164333, 4353219448755111826, 4605561176075713999, 13584701159983126121, 4605479725950906245, 13583368851881006598, 4605396492535620884, 4361493040018204585, 4605311496150102525, 13583066472705394221, 4605224757544999671, 13578632912864623495, 4605136297896298752, 4361846053882066113, 4605046138800154310, 4355887936269445597, 4604954302267616605, 13577764333051586782, 4604860810719257935, 13577354343185313384, 4604765686979698975, 13576144875971963077, 4604668954272036472, 4360651779814366337, 4604570636212173661, 4355362127650550962, 4604470756803054778, 13572015408658218103, 4604369340428805087, 4360729798899938000]
def TabCN (w : World) : Prop := ∀ j, j < 106 → w.cell? ⟨2, j, none⟩ = some (U (CN.getD j 0))
theorem TabCN.below {w w' : World} (h : TabCN w) (hb : Below w.heap.size w w') : TabCN w' := by
  intro j hj
  have h1 := h j hj
  have hl : 2 < w.heap.size := World.block_lt_of_cell? w _ h1
  exact (hb.cell (p := ⟨2, j, none⟩) hl).trans h1
structure TabT (w : World) : Prop where
  s : TabSN w
  c : TabCN w
theorem TabT.below {w w' : World} (h : TabT w) (hb : Below w.heap.size w w') : TabT w' := ⟨h.s.below hb, h.c.below hb⟩
theorem tpair (h l : Nat) (w : World) :
    Calls Tryd.prog 41 #[.int .u64 (h : Int), .int .u64 (l : Int)] w fun en w' => en = .returned (.agg #[Fv h, Fv l]) ∧ Below w.heap.size w w' := by
  have hSF : ∀ (w : World) (a : Addr) (b : Nat), (store a (Fv b)).run Tryd.prog w = stored Tryd.prog w a (Fv b) .plain := stFs
  have b1 : ∀ w, (callFunc 6 #[.int .u64 (h : Int)]).run Tryd.prog w = .ok (.value (Fv h)) w := fun w => frombits h w
  have b2 : ∀ w, (callFunc 6 #[.int .u64 (l : Int)]).run Tryd.prog w = .ok (.value (Fv l)) w := fun w => frombits l w
  go_enter Tryd.func41, Tryd.ntmps41
  go_wp2_with fail
  refine bodyPost_ret (v := .agg #[Fv h, Fv l]) (by rw [results_cell1 rfl]; go_simp) rfl ⟨rfl, below1 w _⟩
theorem results_cct {fn : Func} {p q a : Tmp} {t1 t2 : TypeId} (h : fn.results = #[.cell p t1, .cell q t2, .tmp a]) (tmps : Array Value) (P : Program) (w : World) :
    (results fn tmps).run P w = ((asAddr (tmps.getD p undef)).run P w).andThen fun x w₁ => ((loadVar t1 x).run P w₁).andThen fun v w₂ => ((asAddr (tmps.getD q undef)).run P w₂).andThen fun y w₃ => ((loadVar t2 y).run P w₃).andThen fun u w₄ => .ok (.tuple #[v, u, tmps.getD a undef]) w₄ := by
  simp only [results, h]
  simp [Sem.run_bind, Result.andThen]
theorem row_ok (j : Nat) (hj : j < 53) {a b c d : Nat} (ha : a = SN.getD (2 * j) 0) (hb : b = SN.getD (2 * j + 1) 0) (hc : c = CN.getD (2 * j) 0) (hd : d = CN.getD (2 * j + 1) 0) (w : World) (hT : TabT w) :
    Calls Tryd.prog 19 #[.int .i64 (j : Int)] w fun en w' => en = .returned (.tuple #[.agg #[Fv a, Fv b], .agg #[Fv c, Fv d], .int .i64 0]) ∧ Below w.heap.size w w' := by
  have hSF : ∀ (w : World) (a : Addr) (b : Nat), (store a (Fv b)).run Tryd.prog w = stored Tryd.prog w a (Fv b) .plain := stFs
  have t1 := hT.s (2 * j) (by omega)
  have t2 := hT.s (2 * j + 1) (by omega)
  have t3 := hT.c (2 * j) (by omega)
  have t4 := hT.c (2 * j + 1) (by omega)
  rw [← ha] at t1
  rw [← hb] at t2
  rw [← hc] at t3
  rw [← hd] at t4
  obtain ⟨k0, hk0⟩ : ∃ k, k = 2 * j := ⟨_, rfl⟩
  obtain ⟨k1, hk1⟩ : ∃ k, k = 2 * j + 1 := ⟨_, rfl⟩
  rw [← hk0] at t1 t3
  rw [← hk1] at t2 t4
  have i1 : ¬ (j : Int) < 0 := by omega
  have i2 : ¬ (52 : Int) < (j : Int) := by omega
  have w0 : wrap64 (2 * (j : Int)) = (k0 : Int) := by simp only [wrap64]; omega
  have w1 : wrap64 ((k0 : Int) + 1) = (k1 : Int) := by simp only [wrap64]; omega
  have v0 : IntKind.i64.wrap (2 * (j : Int)) = (k0 : Int) := by simp [IntKind.wrap, IntKind.signed, IntKind.bits]; omega
  have v1 : IntKind.i64.wrap ((k0 : Int) + 1) = (k1 : Int) := by simp [IntKind.wrap, IntKind.signed, IntKind.bits]; omega
  have r0 : (0 : Int) ≤ (k0 : Int) := by omega
  have r1 : (k0 : Int) < 106 := by omega
  have r2 : (0 : Int) ≤ (k1 : Int) := by omega
  have r3 : (k1 : Int) < 106 := by omega
  have q1 : 1 < w.heap.size := World.block_lt_of_cell? w _ t1
  have q2 : 2 < w.heap.size := World.block_lt_of_cell? w _ t3
  have Q1 : Hid (1 < w.heap.size ∧ 2 < w.heap.size) := ⟨q1, q2⟩
  have T1 : Hid (∀ W, Below w.heap.size w W → W.cell? ⟨1, k0, none⟩ = some (U a)) := fun W h => (h.cell (p := ⟨1, k0, none⟩) q1).trans t1
  have T2 : Hid (∀ W, Below w.heap.size w W → W.cell? ⟨1, k1, none⟩ = some (U b)) := fun W h => (h.cell (p := ⟨1, k1, none⟩) q1).trans t2
  have T3 : Hid (∀ W, Below w.heap.size w W → W.cell? ⟨2, k0, none⟩ = some (U c)) := fun W h => (h.cell (p := ⟨2, k0, none⟩) q2).trans t3
  have T4 : Hid (∀ W, Below w.heap.size w W → W.cell? ⟨2, k1, none⟩ = some (U d)) := fun W h => (h.cell (p := ⟨2, k1, none⟩) q2).trans t4
  clear ha hb hc hd hk0 hk1 hj hT t1 t2 t3 t4 q1 q2
  go_enter Tryd.func19, Tryd.ntmps19
  go_wp2_with fail
  obtain ⟨W0, hW0⟩ : ∃ W0, W0 = ((w.alloc (.cells #[Fv 0, Fv 0] 37)).alloc (.cells #[Fv 0, Fv 0] 37)) := ⟨_, rfl⟩
  have Xr : Hid (Box W0 (w.heap.size) (Fv 0) (Fv 0)) := by rw [hW0]; exact ⟨by go_simp, by go_simp, by go_simp, by go_simp⟩
  have Xq : Hid (Box W0 (w.heap.size + 1) (Fv 0) (Fv 0)) := by rw [hW0]; exact ⟨by go_simp, by go_simp, by go_simp, by go_simp⟩
  have hb0 : Below w.heap.size w W0 := by rw [hW0]; exact below2 w _ _
  rw [← hW0]
  clear hW0
  have hbw : Below w.heap.size w w := Below.refl _ _
  obtain ⟨gq, hgq⟩ : ∃ g, g = w.heap.size + 1 := ⟨_, rfl⟩
  have HGq : Hid (w.heap.size ≤ gq) := by rw [hgq]; show _ ≤ _; omega
  rw [← hgq] at Xq
  try rw [← hgq]
  obtain ⟨gr, hgr⟩ : ∃ g, g = w.heap.size := ⟨_, rfl⟩
  have HGr : Hid (w.heap.size ≤ gr) := by rw [hgr]; show _ ≤ _; omega
  rw [← hgr] at Xr
  try rw [← hgr]
  have HGD : Hid (gr ≠ gq ∧ gq ≠ gr) := by rw [hgr, hgq]; exact ⟨by omega, by omega⟩
  clear hgr hgq
  replace hbw := Below.on hbw hb0
  clear hb0
  obtain ⟨V1, hV1⟩ : ∃ W1, W1 = W0.drew := ⟨_, rfl⟩
  have hbd : Below W0.heap.size W0 V1 := by rw [hV1]; exact bDrew1 (Below.refl _ _)
  replace Xr : Hid _ := Xr.out.below hbd
  replace Xq : Hid _ := Xq.out.below hbd
  replace hbw := Below.on hbw hbd
  clear hbd
  have HJ : Hid ((fun W' : World => W'.cell? ⟨1, k0, none⟩ = some (U a) ∧ W'.cell? ⟨1, k1, none⟩ = some (U b) ∧ W'.cell? ⟨2, k0, none⟩ = some (U c) ∧ W'.cell? ⟨2, k1, none⟩ = some (U d)) V1) := ⟨T1.out _ hbw, T2.out _ hbw, T3.out _ hbw, T4.out _ hbw⟩
  refine wp_region_J (fun W' => W'.cell? ⟨1, k0, none⟩ = some (U a) ∧ W'.cell? ⟨1, k1, none⟩ = some (U b) ∧ W'.cell? ⟨2, k0, none⟩ = some (U c) ∧ W'.cell? ⟨2, k1, none⟩ = some (U d)) (by kernel_rfl) ?_
  rw [← hV1]
  clear hV1
  refine wpJ_tq 0 rfl HJ.out ?_
  refine wpJ_tq 1 rfl HJ.out ?_
  refine wpJ_tq 2 rfl HJ.out ?_
  refine wpJ_tq 3 rfl HJ.out ?_
  refine wpJ_tq 4 rfl HJ.out ?_
  go_simp
  refine wpJ_tq 5 rfl HJ.out ?_
  refine wpJ_tq 6 rfl HJ.out ?_
  refine wpJ_tq 7 rfl HJ.out ?_
  refine wpJ_tq 8 rfl HJ.out ?_
  refine wpJ_tq 10 rfl HJ.out ?_
  go_simp
  refine wpJ_tq 11 rfl HJ.out ?_
  refine wpJ_tq 12 rfl HJ.out ?_
  refine wpJ_tq 13 rfl HJ.out ?_
  refine wpJ_tq 14 rfl HJ.out ?_
  refine wpJ_tq 15 rfl HJ.out ?_
  go_simp
  refine wpJ_tq 16 rfl HJ.out ?_
  refine wpJ_tq 17 rfl HJ.out ?_
  refine wpJ_tq 18 rfl HJ.out ?_
  refine wpJ_on 9 rfl fun KJ hK => ?_
  go_simp
  refine (tpair a b _).mono ?_
  rintro e v1 ⟨rfl, hb1⟩
  replace Xr : Hid _ := Xr.out.below hb1
  replace Xq : Hid _ := Xq.out.below hb1
  replace hbw := Below.on hbw hb1
  clear hb1
  refine hK _ _ ⟨T1.out _ hbw, T2.out _ hbw, T3.out _ hbw, T4.out _ hbw⟩ ?_
  clear hK
  refine wpJ_on 19 rfl fun KJ hK => ?_
  go_simp
  refine (tpair c d _).mono ?_
  rintro e v2 ⟨rfl, hb2⟩
  replace Xr : Hid _ := Xr.out.below hb2
  replace Xq : Hid _ := Xq.out.below hb2
  replace hbw := Below.on hbw hb2
  clear hb2
  refine hK _ _ ⟨T1.out _ hbw, T2.out _ hbw, T3.out _ hbw, T4.out _ hbw⟩ ?_
  clear hK
  obtain ⟨cr0, cr1, fr0, fr1⟩ := Xr.out
  have hner := Xr.out.lt
  obtain ⟨cq0, cq1, fq0, fq1⟩ := Xq.out
  have hneq := Xq.out.lt
  obtain ⟨hgd0, hgd1⟩ := HGD.out
  have z1 := T1.out _ hbw
  have z2 := T2.out _ hbw
  have z3 := T3.out _ hbw
  have z4 := T4.out _ hbw
  have hz1 : 1 ≠ gr := by have := HGr.out; have := Q1.out.1; omega
  have hz2 : 2 ≠ gr := by have := HGr.out; have := Q1.out.2; omega
  have hz3 : 1 ≠ gq := by have := HGq.out; have := Q1.out.1; omega
  have hz4 : 2 ≠ gq := by have := HGq.out; have := Q1.out.2; omega
  have hz5 := hz1.symm
  have hz6 := hz2.symm
  have hz7 := hz3.symm
  have hz8 := hz4.symm
  refine wpJ_on 20 rfl fun KJ hK => ?_
  go_simp
  have HJ2 : Hid ((fun W' : World => W'.cell? ⟨1, k0, none⟩ = some (U a) ∧ W'.cell? ⟨1, k1, none⟩ = some (U b) ∧ W'.cell? ⟨2, k0, none⟩ = some (U c) ∧ W'.cell? ⟨2, k1, none⟩ = some (U d)) ((v2.setCell ⟨gr, 0, none⟩ (Fv a)).setCell ⟨gr, 1, none⟩ (Fv b))) := ⟨by go_simp, by go_simp, by go_simp, by go_simp⟩
  refine hK _ _ HJ2.out ?_
  clear hK HJ
  have HJ := HJ2
  clear HJ2
  refine wpJ_on 21 rfl fun KJ hK => ?_
  go_simp
  have HJ2 : Hid ((fun W' : World => W'.cell? ⟨1, k0, none⟩ = some (U a) ∧ W'.cell? ⟨1, k1, none⟩ = some (U b) ∧ W'.cell? ⟨2, k0, none⟩ = some (U c) ∧ W'.cell? ⟨2, k1, none⟩ = some (U d)) ((((v2.setCell ⟨gr, 0, none⟩ (Fv a)).setCell ⟨gr, 1, none⟩ (Fv b)).setCell ⟨gq, 0, none⟩ (Fv c)).setCell ⟨gq, 1, none⟩ (Fv d))) := ⟨by go_simp, by go_simp, by go_simp, by go_simp⟩
  refine hK _ _ HJ2.out ?_
  clear hK HJ
  have HJ := HJ2
  clear HJ2
  refine wpJ_tq 22 rfl HJ.out ?_
  refine wpJ_done (by kernel_rfl) ?_ _
  clear HJ
  go_wp2_with fail
  refine bodyPost_ret (v := .tuple #[.agg #[Fv a, Fv b], .agg #[Fv c, Fv d], .int .i64 0]) (by rw [results_cct rfl]; go_simp) rfl ⟨rfl, ?_⟩
  exact bSet (bSet (bSet (bSet (hbw) _ _ _ HGr.out) _ _ _ HGr.out) _ _ _ HGq.out) _ _ _ HGq.out
theorem lbits23 (a b c d : Nat) (w : World) :
    Calls Tryd.prog 20 #[.agg #[Fv a, Fv b], .agg #[Fv c, Fv d]] w fun en w' => en = .returned (.agg #[.int .u64 (a : Int), .int .u64 (b : Int), .int .u64 (c : Int), .int .u64 (d : Int)]) ∧ Below w.heap.size w w' := by
  have hSF : ∀ (w : World) (a : Addr) (b : Nat), (store a (Fv b)).run Tryd.prog w = stored Tryd.prog w a (Fv b) .plain := stFs
  have boa : ∀ w, (callFunc 27 #[Fv a]).run Tryd.prog w = .ok (.value (.int .u64 (a : Int))) w := fun w => bitsOf a w
  have bob : ∀ w, (callFunc 27 #[Fv b]).run Tryd.prog w = .ok (.value (.int .u64 (b : Int))) w := fun w => bitsOf b w
  have boc : ∀ w, (callFunc 27 #[Fv c]).run Tryd.prog w = .ok (.value (.int .u64 (c : Int))) w := fun w => bitsOf c w
  have bod : ∀ w, (callFunc 27 #[Fv d]).run Tryd.prog w = .ok (.value (.int .u64 (d : Int))) w := fun w => bitsOf d w
  go_enter Tryd.func20, Tryd.ntmps20
  go_wp2_with fail
  obtain ⟨W0, hW0⟩ : ∃ W0, W0 = (((w.alloc (.cells #[Fv a, Fv b] 37)).alloc (.cells #[Fv c, Fv d] 37)).alloc (.cells #[.int .u64 0, .int .u64 0, .int .u64 0, .int .u64 0] 52)) := ⟨_, rfl⟩
  have Xs : Hid (Box W0 (w.heap.size) (Fv a) (Fv b)) := by rw [hW0]; exact ⟨by go_simp, by go_simp, by go_simp, by go_simp⟩
  have Xc : Hid (Box W0 (w.heap.size + 1) (Fv c) (Fv d)) := by rw [hW0]; exact ⟨by go_simp, by go_simp, by go_simp, by go_simp⟩
  have Xr : Hid (B4q W0 (w.heap.size + 1 + 1) (.int .u64 0) (.int .u64 0) (.int .u64 0) (.int .u64 0)) := by rw [hW0]; exact ⟨by go_simp, by go_simp, by go_simp, by go_simp, by go_simp, by go_simp, by go_simp, by go_simp⟩
  have hb0 : Below w.heap.size w W0 := by rw [hW0]; exact below3 w _ _ _
  rw [← hW0]
  clear hW0
  have hbw : Below w.heap.size w w := Below.refl _ _
  obtain ⟨gr, hgr⟩ : ∃ g, g = w.heap.size + 1 + 1 := ⟨_, rfl⟩
  have HGr : Hid (w.heap.size ≤ gr) := by rw [hgr]; show _ ≤ _; omega
  rw [← hgr] at Xr
  try rw [← hgr]
  obtain ⟨gc, hgc⟩ : ∃ g, g = w.heap.size + 1 := ⟨_, rfl⟩
  have HGc : Hid (w.heap.size ≤ gc) := by rw [hgc]; show _ ≤ _; omega
  rw [← hgc] at Xc
  try rw [← hgc]
  obtain ⟨gs, hgs⟩ : ∃ g, g = w.heap.size := ⟨_, rfl⟩
  have HGs : Hid (w.heap.size ≤ gs) := by rw [hgs]; show _ ≤ _; omega
  rw [← hgs] at Xs
  try rw [← hgs]
  have HGD : Hid (gs ≠ gc ∧ gs ≠ gr ∧ gc ≠ gs ∧ gc ≠ gr ∧ gr ≠ gs ∧ gr ≠ gc) := by rw [hgs, hgc, hgr]; exact ⟨by omega, by omega, by omega, by omega, by omega, by omega⟩
  clear hgs hgc hgr
  replace hbw := Below.on hbw hb0
  clear hb0
  obtain ⟨V1, hV1⟩ : ∃ W1, W1 = W0.drew := ⟨_, rfl⟩
  have hbd : Below W0.heap.size W0 V1 := by rw [hV1]; exact bDrew1 (Below.refl _ _)
  replace Xs : Hid _ := Xs.out.below hbd
  replace Xc : Hid _ := Xc.out.below hbd
  replace Xr : Hid _ := Xr.out.below hbd
  replace hbw := Below.on hbw hbd
  clear hbd
  have HJ : Hid ((fun W' : World => W'.cell? ⟨gs, 0, none⟩ = some (Fv a) ∧ W'.cell? ⟨gs, 1, none⟩ = some (Fv b) ∧ W'.cell? ⟨gc, 0, none⟩ = some (Fv c) ∧ W'.cell? ⟨gc, 1, none⟩ = some (Fv d)) V1) := ⟨Xs.out.c0, Xs.out.c1, Xc.out.c0, Xc.out.c1⟩
  refine wp_region_J (fun W' => W'.cell? ⟨gs, 0, none⟩ = some (Fv a) ∧ W'.cell? ⟨gs, 1, none⟩ = some (Fv b) ∧ W'.cell? ⟨gc, 0, none⟩ = some (Fv c) ∧ W'.cell? ⟨gc, 1, none⟩ = some (Fv d)) (by kernel_rfl) ?_
  rw [← hV1]
  clear hV1
  refine wpJ_tq 0 rfl HJ.out ?_
  refine wpJ_tq 1 rfl HJ.out ?_
  refine wpJ_tq 3 rfl HJ.out ?_
  refine wpJ_tq 4 rfl HJ.out ?_
  refine wpJ_tq 6 rfl HJ.out ?_
  go_simp
  refine wpJ_tq 7 rfl HJ.out ?_
  refine wpJ_tq 9 rfl HJ.out ?_
  refine wpJ_tq 10 rfl HJ.out ?_
  refine wpJ_on 2 rfl fun KJ hK => ?_
  go_simp
  refine hK _ _ ⟨Xs.out.c0, Xs.out.c1, Xc.out.c0, Xc.out.c1⟩ ?_
  clear hK
  refine wpJ_on 5 rfl fun KJ hK => ?_
  go_simp
  refine hK _ _ ⟨Xs.out.c0, Xs.out.c1, Xc.out.c0, Xc.out.c1⟩ ?_
  clear hK
  refine wpJ_on 8 rfl fun KJ hK => ?_
  go_simp
  refine hK _ _ ⟨Xs.out.c0, Xs.out.c1, Xc.out.c0, Xc.out.c1⟩ ?_
  clear hK
  refine wpJ_on 11 rfl fun KJ hK => ?_
  go_simp
  clear HJ
  have HJ : Hid ((fun W' : World => W'.cell? ⟨gs, 0, none⟩ = some (Fv a) ∧ W'.cell? ⟨gs, 1, none⟩ = some (Fv b) ∧ W'.cell? ⟨gc, 0, none⟩ = some (Fv c) ∧ W'.cell? ⟨gc, 1, none⟩ = some (Fv d)) V1) := ⟨Xs.out.c0, Xs.out.c1, Xc.out.c0, Xc.out.c1⟩
  refine hK _ _ HJ.out ?_
  clear hK
  refine wpJ_tq 12 rfl HJ.out ?_
  obtain ⟨cr0, cr1, cr2, cr3, fr0, fr1, fr2, fr3⟩ := Xr.out
  have hner : gr < V1.heap.size := World.block_lt_of_cell? V1 _ cr0
  obtain ⟨cs0, cs1, fs0, fs1⟩ := Xs.out
  have hnes := Xs.out.lt
  obtain ⟨cc0, cc1, fc0, fc1⟩ := Xc.out
  have hnec := Xc.out.lt
  obtain ⟨hgd0, hgd1, hgd2, hgd3, hgd4, hgd5⟩ := HGD.out
  refine wpJ_on 13 rfl fun KJ hK => ?_
  go_simp
  have HJ2 : Hid ((fun W' : World => W'.cell? ⟨gs, 0, none⟩ = some (Fv a) ∧ W'.cell? ⟨gs, 1, none⟩ = some (Fv b) ∧ W'.cell? ⟨gc, 0, none⟩ = some (Fv c) ∧ W'.cell? ⟨gc, 1, none⟩ = some (Fv d)) ((((V1.setCell ⟨gr, 0, none⟩ (.int .u64 (a : Int))).setCell ⟨gr, 1, none⟩ (.int .u64 (b : Int))).setCell ⟨gr, 2, none⟩ (.int .u64 (c : Int))).setCell ⟨gr, 3, none⟩ (.int .u64 (d : Int)))) := ⟨by go_simp, by go_simp, by go_simp, by go_simp⟩
  refine hK _ _ HJ2.out ?_
  clear hK HJ
  have HJ := HJ2
  clear HJ2
  refine wpJ_done (by kernel_rfl) ?_ _
  clear HJ
  go_wp2_with fail
  refine bodyPost_ret (v := .agg #[.int .u64 (a : Int), .int .u64 (b : Int), .int .u64 (c : Int), .int .u64 (d : Int)]) (by rw [results_cell1 rfl]; go_simp) rfl ⟨rfl, ?_⟩
  exact bSet (bSet (bSet (bSet (hbw) _ _ _ HGr.out) _ _ _ HGr.out) _ _ _ HGr.out) _ _ _ HGr.out
theorem plc_half {K : Nat} (hK : K = 1074) : plcN K 4602678819172646912 = 32 := by
  have h := plc_at K 1021 6 0 (by omega) (by omega) rfl hK
  rw [show (1016 + 6) * 4503599627370496 + 0 = 4602678819172646912 by decide] at h
  rw [h]
theorem awake23 (w : World) (hT : TabT w) :
    Calls Tryd.prog 5 #[] w fun en w' => en = .returned (.bool true) ∧ Below w.heap.size w w' := by
  have hSF : ∀ (w : World) (a : Addr) (b : Nat), (store a (Fv b)).run Tryd.prog w = stored Tryd.prog w a (Fv b) .plain := stFs
  have TB : Hid (TabT w) := hT
  obtain ⟨K, hK⟩ : ∃ K, K = 1074 := ⟨_, rfl⟩
  have HP := place_ok hK 13826050856027422720 (by decide) (by decide)
  rw [show 13826050856027422720 % 9223372036854775808 = 4602678819172646912 by decide, plc_half hK, show ((32 : Nat) : Int) = 32 from rfl] at HP
  have HR := row_ok 32 (by omega) (a := 4602308182625945072) (b := 13571467409308189309) (c := 4606079780542709072) (d := 13585268877995206696) (by decide +kernel) (by decide +kernel) (by decide +kernel) (by decide +kernel)
  rw [show ((32 : Nat) : Int) = 32 from rfl] at HR
  have hbw : Below w.heap.size w w := Below.refl _ _
  clear hT hK
  go_enter Tryd.func5, Tryd.ntmps5
  go_wp2_with fail
  refine (HR _ TB.out).mono ?_
  rintro e v1 ⟨rfl, hb1⟩
  replace hbw := Below.on hbw hb1
  clear hb1
  go_wp2_with fail
  obtain ⟨Ws, hWs⟩ : ∃ W9, W9 = ((v1.alloc (.cells #[Fv 4602308182625945072, Fv 13571467409308189309] 37)).alloc (.cells #[Fv 4606079780542709072, Fv 13585268877995206696] 37)) := ⟨_, rfl⟩
  have Xs0 : Hid (Box Ws (v1.heap.size) (Fv 4602308182625945072) (Fv 13571467409308189309)) := by rw [hWs]; exact ⟨by go_simp, by go_simp, by go_simp, by go_simp⟩
  have Xc0 : Hid (Box Ws (v1.heap.size + 1) (Fv 4606079780542709072) (Fv 13585268877995206696)) := by rw [hWs]; exact ⟨by go_simp, by go_simp, by go_simp, by go_simp⟩
  have hbn : Below v1.heap.size v1 Ws := by rw [hWs]; exact below2 v1 _ _
  rw [← hWs]
  clear hWs
  obtain ⟨gc, hgc⟩ : ∃ g, g = v1.heap.size + 1 := ⟨_, rfl⟩
  have HGc : Hid (w.heap.size ≤ gc) := by rw [hgc]; have := hbw.size; show _ ≤ _; omega
  rw [← hgc] at Xc0
  try rw [← hgc]
  obtain ⟨gs, hgs⟩ : ∃ g, g = v1.heap.size := ⟨_, rfl⟩
  have HGs : Hid (w.heap.size ≤ gs) := by rw [hgs]; have := hbw.size; show _ ≤ _; omega
  rw [← hgs] at Xs0
  try rw [← hgs]
  clear hgs hgc
  replace hbw := Below.on hbw hbn
  clear hbn
  have Xs := Xs0
  clear Xs0
  have Xc := Xc0
  clear Xc0
  obtain ⟨cs0, cs1, fs0, fs1⟩ := Xs.out
  have hnes := Xs.out.lt
  obtain ⟨cc0, cc1, fc0, fc1⟩ := Xc.out
  have hnec := Xc.out.lt
  go_wp2_with fail
  clear cs0 cs1 fs0 fs1 hnes
  clear cc0 cc1 fc0 fc1 hnec
  refine (lbits23 4602308182625945072 13571467409308189309 4606079780542709072 13585268877995206696 _).mono ?_
  rintro e v2 ⟨rfl, hb2⟩
  replace Xs : Hid _ := Xs.out.below hb2
  replace Xc : Hid _ := Xc.out.below hb2
  replace hbw := Below.on hbw hb2
  clear hb2
  go_wp2_with fail
  have Xw0 : Hid (B4q (v2.alloc (.cells #[.int .u64 ((4602308182625945072 : Nat) : Int), .int .u64 ((13571467409308189309 : Nat) : Int), .int .u64 ((4606079780542709072 : Nat) : Int), .int .u64 ((13585268877995206696 : Nat) : Int)] 52)) v2.heap.size (.int .u64 ((4602308182625945072 : Nat) : Int)) (.int .u64 ((13571467409308189309 : Nat) : Int)) (.int .u64 ((4606079780542709072 : Nat) : Int)) (.int .u64 ((13585268877995206696 : Nat) : Int))) := B4q.new v2 _ _ _ _ _
  have hbn : Below v2.heap.size v2 (v2.alloc (.cells #[.int .u64 ((4602308182625945072 : Nat) : Int), .int .u64 ((13571467409308189309 : Nat) : Int), .int .u64 ((4606079780542709072 : Nat) : Int), .int .u64 ((13585268877995206696 : Nat) : Int)] 52)) := below1 v2 _
  generalize v2.alloc (.cells #[.int .u64 ((4602308182625945072 : Nat) : Int), .int .u64 ((13571467409308189309 : Nat) : Int), .int .u64 ((4606079780542709072 : Nat) : Int), .int .u64 ((13585268877995206696 : Nat) : Int)] 52) = Ww at *
  have HGw : Hid (w.heap.size ≤ v2.heap.size) := hbw.size
  replace Xs : Hid _ := Xs.out.below hbn
  replace Xc : Hid _ := Xc.out.below hbn
  replace hbw := Below.on hbw hbn
  clear hbn
  generalize v2.heap.size = gw at *
  have Xw := Xw0
  clear Xw0
  go_wp2_with fail
  refine (HP _).mono ?_
  rintro e v3 ⟨rfl, hb3⟩
  replace Xs : Hid _ := Xs.out.below hb3
  replace Xc : Hid _ := Xc.out.below hb3
  replace Xw : Hid _ := Xw.out.below hb3
  replace hbw := Below.on hbw hb3
  clear hb3
  obtain ⟨cw0, cw1, cw2, cw3, fw0, fw1, fw2, fw3⟩ := Xw.out
  have hnew : gw < v3.heap.size := World.block_lt_of_cell? v3 _ cw0
  go_wp2_with fail
  clear cw0 cw1 cw2 cw3 fw0 fw1 fw2 fw3 hnew
  go_ret
  exact ⟨by kernel_rfl, hbw⟩
def finB (x : Nat) : Bool := decide (x % 9223372036854775808 < 9218868437227405312)
theorem ddfinite (x : Nat) (hx : x < 18446744073709551616) (w : World) : Calls Tryd.prog 26 #[Fv x] w fun en w' => en = .returned (.bool (finB x)) ∧ w' = w := by
  have H1 := isinf x hx
  have H2 := isnan x hx
  unfold finB
  generalize x % 9223372036854775808 = y at H1 H2 ⊢
  rcases Nat.lt_trichotomy y 9218868437227405312 with h | h | h
  · rw [decide_eq_true h]
    rw [decide_eq_false (show ¬ y = 9218868437227405312 by omega)] at H1
    rw [decide_eq_false (show ¬ 9218868437227405312 < y by omega)] at H2
    clear h hx
    go_enter Tryd.func26, Tryd.ntmps26
    go_wp2_with fail
    refine (H1 _).mono ?_
    rintro e v9 ⟨rfl, hw⟩
    obtain rfl := hw.symm
    clear hw
    go_wp2_with fail
    refine (H2 _).mono ?_
    rintro e v9 ⟨rfl, hw⟩
    obtain rfl := hw.symm
    clear hw
    go_wp2_with fail
    go_ret
    exact ⟨rfl, rfl⟩
  · rw [decide_eq_false (show ¬ y < 9218868437227405312 by omega)]
    rw [decide_eq_true h] at H1
    clear h hx H2
    go_enter Tryd.func26, Tryd.ntmps26
    go_wp2_with fail
    refine (H1 _).mono ?_
    rintro e v9 ⟨rfl, hw⟩
    obtain rfl := hw.symm
    clear hw
    go_wp2_with fail
    go_ret
    exact ⟨rfl, rfl⟩
  · rw [decide_eq_false (show ¬ y < 9218868437227405312 by omega)]
    rw [decide_eq_false (show ¬ y = 9218868437227405312 by omega)] at H1
    rw [decide_eq_true h] at H2
    clear h hx
    go_enter Tryd.func26, Tryd.ntmps26
    go_wp2_with fail
    refine (H1 _).mono ?_
    rintro e v9 ⟨rfl, hw⟩
    obtain rfl := hw.symm
    clear hw
    go_wp2_with fail
    refine (H2 _).mono ?_
    rintro e v9 ⟨rfl, hw⟩
    obtain rfl := hw.symm
    clear hw
    go_wp2_with fail
    go_ret
    exact ⟨rfl, rfl⟩
theorem finB_iff {x : Nat} (hx : x < 18446744073709551616) : finB x = true ↔ Fin64 x := by
  unfold finB
  rw [decide_eq_true_iff]
  exact ⟨fun h => ⟨hx, h⟩, fun h => h.fin⟩
def ddB (h l : Nat) : Bool := decide (h < 18446744073709551616) && decide (l < 18446744073709551616) && finB h && finB l && decide (rg 0 (ux h + ux l).natAbs < 9218868437227405312) && decide (rv (ux h + ux l) = ux h)
theorem ddB_iff {h l : Nat} : ddB h l = true ↔ DdF h l := by
  unfold ddB finB
  simp only [Bool.and_eq_true, decide_eq_true_iff]
  exact ⟨fun ⟨⟨⟨⟨⟨h1, h2⟩, h3⟩, h4⟩, h5⟩, h6⟩ => ⟨⟨h1, h3⟩, ⟨h2, h4⟩, h5, h6⟩, fun d => ⟨⟨⟨⟨⟨d.hi.lt, d.lo.lt⟩, d.hi.fin⟩, d.lo.fin⟩, d.fit⟩, d.eq⟩⟩
theorem ddB_not {h l : Nat} (hf : finB h = false) : ddB h l = false := by
  cases hb : ddB h l with
  | false => rfl
  | true =>
    have d := ddB_iff.1 hb
    have := (finB_iff d.hi.lt).2 d.hi
    rw [hf] at this
    cases this
theorem belowDn {B : Nat} {a w : World} (h : Below B a w) (n : Nat) : Below B a (w.drewN n) := ⟨h.os, h.tape, h.output, h.size, h.block⟩
theorem ddform (h l : Nat) (hh : h < 18446744073709551616) (hl : l < 18446744073709551616) (w : World) : Calls Tryd.prog 24 #[.agg #[Fv h, Fv l]] w fun en w' => en = .returned (.bool (ddB h l)) ∧ Below w.heap.size w w' := by
  have hSF : ∀ (w : World) (a : Addr) (b : Nat), (store a (Fv b)).run Tryd.prog w = stored Tryd.prog w a (Fv b) .plain := fun w a b => run_store _ w a (Fv b) _ rfl
  have H1 := ddfinite h hh
  cases hfb : finB h with
  | false =>
    rw [ddB_not hfb]
    rw [hfb] at H1
    clear hfb
    go_enter Tryd.func24, Tryd.ntmps24
    go_wp2_with fail
    refine (H1 _).mono ?_
    rintro e v9 ⟨rfl, hw⟩
    obtain rfl := hw.symm
    clear hw
    go_wp2_with fail
    go_ret
    exact ⟨rfl, bwAlloc w _⟩
  | true =>
    rw [hfb] at H1
    have hF := (finB_iff hh).1 hfb
    obtain ⟨r, n, hr, F⟩ := fop (P := Tryd.prog) .add (.inl rfl) 24 h l (w.alloc (Obj.cells #[Fv h, Fv l] 37))
    have hfm := form_iff hF hl F
    obtain ⟨o, ho⟩ : ∃ o, FloatKind.f64.format.order r h = o := ⟨_, rfl⟩
    have hb : ddB h l = (o == some .eq) := by
      rw [Bool.eq_iff_iff, ddB_iff, ← hfm, beq_iff_eq, ← ho]; rfl
    rw [hb]
    clear hb hfm F hF hfb hh hl
    go_enter Tryd.func24, Tryd.ntmps24
    go_wp2_with fail
    refine (H1 _).mono ?_
    rintro e v9 ⟨rfl, hw⟩
    obtain rfl := hw.symm
    clear hw
    rcases o with _ | _ | _ | _
    all_goals
      go_wp2_with fail
      go_ret
      exact ⟨by kernel_rfl, belowDn (bwAlloc w _) n⟩
end Go.Proofs.YtabmdpfmlnnpnaaDoor
namespace Go.Proofs.YtabmdpfmlnnpnaaDoor
open Go.RowKit
set_option maxRecDepth 20000
set_option maxHeartbeats 0
variable {P : Program} {md : Region.Mode} {ops : Array Oper} {Q : Exit → Act → World → Prop} {J : World → Prop} {L : Nat}

def ClosedL (md : Region.Mode) (ops : Array Oper) (listed : Array Bool) : Prop :=
  ∀ (k : Nat) (o : Oper), ops[k]? = some o → listed.getD k false = true → ∀ e ∈ o.after, Region.binds md e = true → listed.getD e.on false = true
theorem ClosedL.step {listed : Array Bool} (h : ClosedL md ops listed) {j : Nat} (hj : j ∈ Region.ready md ops listed) : ClosedL md ops (listed.setIfInBounds j true) := by
  intro k o ho hk e he hb
  obtain ⟨h0, oj, hoj, hall⟩ := mem_ready.1 hj
  by_cases hjk : j = k
  · subst hjk
    rw [hoj] at ho
    obtain rfl := Option.some.inj ho
    exact getD_set_true (hall e he hb)
  · rw [getD_set_ne false hjk] at hk
    exact getD_set_true (h k o ho hk e he hb)
end Go.Proofs.YtabmdpfmlnnpnaaDoor
namespace Go.Proofs.YtabmdpfmlnnpnaaDoor
open Go.RowKit Go.Shelf
set_option maxRecDepth 20000
set_option maxHeartbeats 0
theorem stF (w : World) (a : Addr) (b : Nat) : (store a (Fv b)).run Tryd.prog w = stored Tryd.prog w a (Fv b) .plain := run_store _ w a (Fv b) _ rfl
theorem bwDrewN {B : Nat} {a w : World} (h : Below B a w) (r : Nat) : Below B a (w.drewN r) := ⟨h.os, h.tape, h.output, h.size, h.block⟩
theorem B5q.drewN {W : World} {g : Nat} {v0 v1 v2 v3 v4 : Value} (h : B5q W g v0 v1 v2 v3 v4) (r : Nat) : B5q (W.drewN r) g v0 v1 v2 v3 v4 := ⟨h.c0, h.c1, h.c2, h.c3, h.c4, h.f0, h.f1, h.f2, h.f3, h.f4⟩
def clsN (H I s : Nat) : Int := if s = 0 then 0 else if s < H then 1 else if s < I then 2 else if s = I then 3 else 4
theorem infinity_64v {I : Nat} (hI : I = 9218868437227405312) (w : World) : Calls Tryd.prog 91 #[WV 64 53 (-1074)] w fun e w' => e = .returned (U I) ∧ Below w.heap.size w w' := by
  subst hI
  exact infinity_64 w
theorem class_64 {I : Nat} (hI : I = 9218868437227405312) (neg : Bool) (s : Nat) (w : World) : Calls Tryd.prog 81 #[PV 64 53 (-1074) neg s] w fun e w' => e = .returned (.int .i64 (clsN 4503599627370496 I s)) ∧ Below w.heap.size w w' := by
  obtain ⟨c, hc⟩ : ∃ c, c = clsN 4503599627370496 I s := ⟨_, rfl⟩
  rw [← hc]
  have HC : Hid (c = clsN 4503599627370496 I s) := hc
  have HI : Hid (I = 9218868437227405312) := hI
  have hHI : 4503599627370496 ≤ I := by omega
  clear hc hI
  go_enter Tryd.func81, Tryd.ntmps81
  by_cases h0 : s = 0
  · subst h0
    have HC2 : Hid (c = 0) := HC.out
    go_wp2_with fail
    go_ret
    exact ⟨ret_int HC2.out.symm, bwAlloc w _⟩
  have h0b : ((s : Int) == 0) = false := by simp; omega
  by_cases h1 : s < 4503599627370496
  · have HC2 : Hid (c = 1) := by show _ = _; rw [HC.out]; simp [clsN, h0, h1]
    have h1b : decide ((s : Int) < 4503599627370496) = true := decide_eq_true (by omega)
    go_wp2_with fail
    go_quiet (fail)
    go_wp2_with fail
    go_ret
    exact ⟨ret_int HC2.out.symm, bwDrewN (bwAlloc w _) _⟩
  have h1b : decide ((s : Int) < 4503599627370496) = false := decide_eq_false (by omega)
  go_wp2_with fail
  go_quiet (fail)
  go_wp2_with fail
  clear h0b h1b
  have X := (B5q.new w 106 (.int .i64 64) (.int .i64 53) (.int .i64 (-1074)) (.bool neg) (U s)).drewN nq
  have hb0 := bwDrewN (bwAlloc w (.cells #[.int .i64 64, .int .i64 53, .int .i64 (-1074), .bool neg, U s] 106)) nq
  generalize (w.alloc (.cells #[.int .i64 64, .int .i64 53, .int .i64 (-1074), .bool neg, U s] 106)).drewN nq = W2 at *
  obtain ⟨g, hg⟩ : ∃ g, g = w.heap.size := ⟨_, rfl⟩
  rw [← hg] at X ⊢
  clear hg
  have X2 : Hid (B5q W2.drew g (.int .i64 64) (.int .i64 53) (.int .i64 (-1074)) (.bool neg) (U s)) := X.drew
  have HB2 : Hid (Below w.heap.size w W2.drew) := bwDrew hb0
  obtain ⟨x0, x1, x2, x3, x4, x5, x6, x7, x8, x9⟩ := X
  clear hb0
  by_cases h2 : s < I
  · have HC2 : Hid (c = 2) := by show _ = _; rw [HC.out]; simp [clsN, h0, h1, h2]
    have h2b : decide ((s : Int) < (I : Int)) = true := decide_eq_true (by omega)
    have h2n : decide (s < I) = true := decide_eq_true h2
    clear h0 h1 h2 hHI
    go_region_with (go_at_call 91; (with_reducible refine (infinity_64v HI.out W2.drew).mono ?_); rintro e w3 ⟨rfl, hb3⟩; have X3 : Hid (B5q w3 g (.int .i64 64) (.int .i64 53) (.int .i64 (-1074)) (.bool neg) (U s)) := X2.out.below hb3; obtain ⟨p0, p1, p2, p3, p4, p5, p6, p7, p8, p9⟩ := X3.out; have HB3 : Hid (Below w.heap.size w w3) := bwOn HB2.out hb3; clear hb3)
    all_goals
      (go_wp2_with fail
       go_ret
       exact ⟨ret_int HC2.out.symm, HB3.out⟩)
  have h2b : decide ((s : Int) < (I : Int)) = false := decide_eq_false (by omega)
  have h2n : decide (s < I) = false := decide_eq_false h2
  by_cases h3 : s = I
  · have HC2 : Hid (c = 3) := by show _ = _; rw [HC.out]; unfold clsN; rw [if_neg h0, if_neg h1, if_neg h2, if_pos h3]
    have h3b : ((s : Int) == (I : Int)) = true := by simp; omega
    have h3n : (s == I) = true := by simp [h3]
    have h3m : decide (s = I) = true := decide_eq_true h3
    clear h0 h1 h2 h3 hHI
    go_region_with (go_at_call 91; (with_reducible refine (infinity_64v HI.out W2.drew).mono ?_); rintro e w3 ⟨rfl, hb3⟩; have X3 : Hid (B5q w3 g (.int .i64 64) (.int .i64 53) (.int .i64 (-1074)) (.bool neg) (U s)) := X2.out.below hb3; obtain ⟨p0, p1, p2, p3, p4, p5, p6, p7, p8, p9⟩ := X3.out; have HB3 : Hid (Below w.heap.size w w3) := bwOn HB2.out hb3; clear hb3)
    all_goals
      (clear x0 x1 x2 x3 x4 x5 x6 x7 x8 x9
       go_wp2_with fail
       clear h2b h2n
       go_region_with (go_at_call 91; (with_reducible refine (infinity_64v HI.out w3.drew).mono ?_); rintro e w4 ⟨rfl, hb4⟩; obtain ⟨q0, q1, q2, q3, q4, q5, q6, q7, q8, q9⟩ := X3.out.drew.below hb4; have HB4 : Hid (Below w.heap.size w w4) := bwOn (bwDrew HB3.out) hb4; clear hb4)
       all_goals
         (go_wp2_with fail
          go_ret
          exact ⟨ret_int HC2.out.symm, HB4.out⟩))
  have h3b : ((s : Int) == (I : Int)) = false := by simp; omega
  have h3n : (s == I) = false := by simp [h3]
  have h3m : decide (s = I) = false := decide_eq_false h3
  have HC2 : Hid (c = 4) := by show _ = _; rw [HC.out]; simp [clsN, h0, h1, h2, h3]
  clear h0 h1 h2 h3 hHI
  go_region_with (go_at_call 91; (with_reducible refine (infinity_64v HI.out W2.drew).mono ?_); rintro e w3 ⟨rfl, hb3⟩; have X3 : Hid (B5q w3 g (.int .i64 64) (.int .i64 53) (.int .i64 (-1074)) (.bool neg) (U s)) := X2.out.below hb3; obtain ⟨p0, p1, p2, p3, p4, p5, p6, p7, p8, p9⟩ := X3.out; have HB3 : Hid (Below w.heap.size w w3) := bwOn HB2.out hb3; clear hb3)
  all_goals
    (clear x0 x1 x2 x3 x4 x5 x6 x7 x8 x9
     go_wp2_with fail
     clear h2b h2n
     go_region_with (go_at_call 91; (with_reducible refine (infinity_64v HI.out w3.drew).mono ?_); rintro e w4 ⟨rfl, hb4⟩; obtain ⟨q0, q1, q2, q3, q4, q5, q6, q7, q8, q9⟩ := X3.out.drew.below hb4; have HB4 : Hid (Below w.heap.size w w4) := bwOn (bwDrew HB3.out) hb4; clear hb4)
     all_goals
       (go_wp2_with fail
        go_ret
        exact ⟨ret_int HC2.out.symm, HB4.out⟩))
theorem cls_ne {H I s : Nat} (h : s ≤ I) : clsN H I s ≠ 4 := by
  unfold clsN
  by_cases h0 : s = 0
  · rw [if_pos h0]; decide
  · rw [if_neg h0]
    by_cases h1 : s < H
    · rw [if_pos h1]; decide
    · rw [if_neg h1]
      by_cases h2 : s < I
      · rw [if_pos h2]; decide
      · rw [if_neg h2, if_pos (by omega)]; decide
theorem cls_nan {H I s : Nat} (hH : H ≤ I) (h : I < s) : clsN H I s = 4 := by
  unfold clsN
  rw [if_neg (by omega), if_neg (by omega), if_neg (by omega), if_neg (by omega)]
theorem cls_inf {H I s : Nat} (hH : H ≤ I) (h0 : 0 < I) : (clsN H I s == 3) = decide (s = I) := by
  unfold clsN
  by_cases h3 : s = I
  · rw [if_neg (by omega), if_neg (by omega), if_neg (by omega), if_pos h3]; simp [h3]
  · rw [decide_eq_false h3]
    by_cases h0 : s = 0
    · rw [if_pos h0]; decide
    · rw [if_neg h0]
      by_cases h1 : s < H
      · rw [if_pos h1]; decide
      · rw [if_neg h1]
        by_cases h2 : s < I
        · rw [if_pos h2]; decide
        · rw [if_neg h2, if_neg h3]; decide
theorem parts_64 (s q m : Nat) (hq : q = s / 4503599627370496 - 1) (hm : m = s - q * 4503599627370496) (hs : s < 9223372036854775808) (w : World) : Calls Tryd.prog 70 #[WV 64 53 (-1074), U s] w fun e w' => e = .returned (.tuple #[U m, .int .i64 (-1074 + (q : Int))]) ∧ Below w.heap.size w w' := by
  obtain ⟨r, hr⟩ : ∃ r : Int, r = -1074 + (q : Int) := ⟨_, rfl⟩
  obtain ⟨y, hy⟩ : ∃ y, y = q * 4503599627370496 := ⟨_, rfl⟩
  rw [← hr]
  have e0 : max ((s : Int) / 4503599627370496 - 1) 0 = (q : Int) := by omega
  have e1 : IntKind.u64.wrap (q : Int) = (q : Int) := by rw [IntKind.wrap_u64]; omega
  have e2 : IntKind.u64.wrap ((q : Int) * 4503599627370496) = (y : Int) := by rw [IntKind.wrap_u64]; omega
  have e3 : IntKind.u64.wrap ((s : Int) - (y : Int)) = (m : Int) := by rw [IntKind.wrap_u64]; omega
  have e4 : IntKind.i64.wrap (-1074 + (q : Int)) = r := by rw [hr]; simp [IntKind.wrap, IntKind.signed, IntKind.bits]; omega
  have HS : Hid (s < 9223372036854775808) := hs
  have hs31 : (s : Int) < 9223372036854775808 := by omega
  clear hr hy hq hm hs
  go_enter Tryd.func70, Tryd.ntmps70
  go_wp2_with fail
  have X0 : B3 (w.alloc (.cells #[.int .i64 64, .int .i64 53, .int .i64 (-1074)] 104)) w.heap.size (.int .i64 64) (.int .i64 53) (.int .i64 (-1074)) := B3.new ..
  have hb0 : Below w.heap.size w (w.alloc (.cells #[.int .i64 64, .int .i64 53, .int .i64 (-1074)] 104)) := bwAlloc w _
  generalize w.alloc (.cells #[.int .i64 64, .int .i64 53, .int .i64 (-1074)] 104) = W at *
  obtain ⟨g, hg⟩ : ∃ g, g = w.heap.size := ⟨_, rfl⟩
  rw [← hg] at X0 ⊢
  clear hg
  have XB : Hid (B3 W.drew g (.int .i64 64) (.int .i64 53) (.int .i64 (-1074))) := X0.drew
  have HBW : Hid (Below w.heap.size w W.drew) := bwDrew hb0
  have XW : Hid (B3 W g (.int .i64 64) (.int .i64 53) (.int .i64 (-1074))) := X0
  have HB0 : Hid (Below w.heap.size w W) := hb0
  clear X0 hb0
  refine (stored_64 _).mono ?_
  rintro e w1 ⟨rfl, hb1⟩
  have Xw1 : Hid (B3 w1 g (.int .i64 64) (.int .i64 53) (.int .i64 (-1074))) := XW.out.below hb1
  have HBw1 : Hid (Below w.heap.size w w1) := bwOn HB0.out hb1
  clear hb1
  have c6 := Xw1.out
  obtain ⟨c0, c1, c2, c3, c4, c5⟩ := c6
  go_wp2_with fail
  clear c0 c1 c2 c3 c4 c5 XB HBW XW HB0
  have XB : Hid (B3 w1.drew g (.int .i64 64) (.int .i64 53) (.int .i64 (-1074))) := Xw1.out.drew
  have HBW : Hid (Below w.heap.size w w1.drew) := bwDrew HBw1.out
  refine wp_region_J (fun W' => B3 W' g (.int .i64 64) (.int .i64 53) (.int .i64 (-1074))) (by kernel_rfl) ?_
  refine wpJ_take (i := 0) (v := ?v31x0) rfl (by kernel_rfl) (by kernel_rfl) (by kernel_rfl) (fun _ _ _ h => h) (by rfl) ?hy31x0 XB.out ?rest31x0
  case hy31x0 => (intro W' hJ; obtain ⟨c0, c1, c2, c3, c4, c5⟩ := hJ; go_simp; first | done | with_reducible rfl)
  refine wpJ_take (i := 1) (v := ?v32x1) rfl (by kernel_rfl) (by kernel_rfl) (by kernel_rfl) (fun _ _ _ h => h) (by rfl) ?hy32x1 XB.out ?rest32x1
  case hy32x1 => (intro W' hJ; obtain ⟨c0, c1, c2, c3, c4, c5⟩ := hJ; go_simp; first | done | with_reducible rfl)
  refine wpJ_take (i := 2) (v := ?v33x2) rfl (by kernel_rfl) (by kernel_rfl) (by kernel_rfl) (fun _ _ _ h => h) (by rfl) ?hy33x2 XB.out ?rest33x2
  case hy33x2 => (intro W' hJ; obtain ⟨c0, c1, c2, c3, c4, c5⟩ := hJ; go_simp; first | done | with_reducible rfl)
  refine wpJ_take (i := 3) (v := ?v34x3) rfl (by kernel_rfl) (by kernel_rfl) (by kernel_rfl) (fun _ _ _ h => h) (by rfl) ?hy34x3 XB.out ?rest34x3
  case hy34x3 => (intro W' hJ; obtain ⟨c0, c1, c2, c3, c4, c5⟩ := hJ; go_simp; first | done | with_reducible rfl)
  refine wpJ_take (i := 7) (v := ?v35x7) rfl (by kernel_rfl) (by kernel_rfl) (by kernel_rfl) (fun _ _ _ h => h) (by rfl) ?hy35x7 XB.out ?rest35x7
  case hy35x7 => (intro W' hJ; obtain ⟨c0, c1, c2, c3, c4, c5⟩ := hJ; go_simp; first | done | with_reducible rfl)
  refine wpJ_take (i := 8) (v := ?v36x8) rfl (by kernel_rfl) (by kernel_rfl) (by kernel_rfl) (fun _ _ _ h => h) (by rfl) ?hy36x8 XB.out ?rest36x8
  case hy36x8 => (intro W' hJ; obtain ⟨c0, c1, c2, c3, c4, c5⟩ := hJ; go_simp; first | done | with_reducible rfl)
  refine wpJ_take (i := 9) (v := ?v37x9) rfl (by kernel_rfl) (by kernel_rfl) (by kernel_rfl) (fun _ _ _ h => h) (by rfl) ?hy37x9 XB.out ?rest37x9
  case hy37x9 => (intro W' hJ; obtain ⟨c0, c1, c2, c3, c4, c5⟩ := hJ; go_simp; first | done | with_reducible rfl)
  refine wpJ_take (i := 10) (v := ?v38x10) rfl (by kernel_rfl) (by kernel_rfl) (by kernel_rfl) (fun _ _ _ h => h) (by rfl) ?hy38x10 XB.out ?rest38x10
  case hy38x10 => (intro W' hJ; obtain ⟨c0, c1, c2, c3, c4, c5⟩ := hJ; go_simp; first | done | with_reducible rfl)
  refine wpJ_on 4 rfl fun K hK => ?_
  go_simp
  refine (stored_64 _).mono ?_
  rintro e w2 ⟨rfl, hb2⟩
  have Xw2 : Hid (B3 w2 g (.int .i64 64) (.int .i64 53) (.int .i64 (-1074))) := XB.out.below hb2
  have HBw2 : Hid (Below w.heap.size w w2) := bwOn HBW.out hb2
  clear hb2
  refine hK _ _ Xw2.out ?_
  clear hK
  refine wpJ_take (i := 5) (v := ?v39x5) rfl (by kernel_rfl) (by kernel_rfl) (by kernel_rfl) (fun _ _ _ h => h) (by rfl) ?hy39x5 Xw2.out ?rest39x5
  case hy39x5 => (intro W' hJ; obtain ⟨c0, c1, c2, c3, c4, c5⟩ := hJ; go_simp; first | done | with_reducible rfl)
  refine wpJ_take (i := 6) (v := ?v40x6) rfl (by kernel_rfl) (by kernel_rfl) (by kernel_rfl) (fun _ _ _ h => h) (by rfl) ?hy40x6 Xw2.out ?rest40x6
  case hy40x6 => (intro W' hJ; obtain ⟨c0, c1, c2, c3, c4, c5⟩ := hJ; go_simp; first | done | with_reducible rfl)
  refine wpJ_take (i := 11) (v := ?v41x11) rfl (by kernel_rfl) (by kernel_rfl) (by kernel_rfl) (fun _ _ _ h => h) (by rfl) ?hy41x11 Xw2.out ?rest41x11
  case hy41x11 => (intro W' hJ; obtain ⟨c0, c1, c2, c3, c4, c5⟩ := hJ; go_simp; first | done | with_reducible rfl)
  refine wpJ_take (i := 12) (v := ?v42x12) rfl (by kernel_rfl) (by kernel_rfl) (by kernel_rfl) (fun _ _ _ h => h) (by rfl) ?hy42x12 Xw2.out ?rest42x12
  case hy42x12 => (intro W' hJ; obtain ⟨c0, c1, c2, c3, c4, c5⟩ := hJ; go_simp; first | done | with_reducible rfl)
  refine wpJ_done (by kernel_rfl) ?_ _
  go_wp2_with fail
  go_ret2
  exact ⟨rfl, HBw2.out⟩
end Go.Proofs.YtabmdpfmlnnpnaaDoor
