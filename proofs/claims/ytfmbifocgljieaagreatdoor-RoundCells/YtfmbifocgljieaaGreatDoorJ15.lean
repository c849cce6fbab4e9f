import Derived.Test.YtfmbifocgljieaaGreatDoorJ14
import Derived.Test.YtfmbifocgljieaaGreatDoorJ11
import Derived.Test.YtfmbifocgljieaaGreatDoorJ9
import Derived.Test.YtfmbifocgljieaaGreatDoorJ10
import Derived.Deep.LoopGhost
import Derived.Test.YtfmbifocgljieaaGreatDoorJ12
import Derived.Test.YtfmbifocgljieaaGreatDoorJ13
namespace Go.Proofs.YtfmbifocgljieaaGreatDoor
open Go.RowKit Go.Shelf
set_option maxRecDepth 20000
set_option maxHeartbeats 0
theorem rl_b {w : World} {p : Option Addr} {m a : Nat} (h : RL w p m a) : Calls Tryz.prog 156 #[.slice p m m] w fun e w' => e = .returned (.int .i64 (bitsN a)) ∧ w' = w := by
  obtain ⟨⟨zs, h1, h2⟩, h3⟩ := h
  exact rbits_any h1 h2 (by omega)
theorem rl_cmp {w : World} {p q : Option Addr} {m n a b : Nat} (h : ∃ zs, At32 w p m m zs ∧ Nf B32 zs a) (k : ∃ zs, At32 w q n n zs ∧ Nf B32 zs b) : Calls Tryz.prog 157 #[.slice p m m, .slice q n n] w fun e w' => e = .returned (.int .i64 (cmpN a b)) ∧ Below w.heap.size w w' := by
  obtain ⟨zs, h1, h2⟩ := h
  obtain ⟨us, k1, k2⟩ := k
  refine (rcmp_any h1 k1 h2 k2).mono ?_
  rintro e w' ⟨rfl, r, rfl⟩
  exact ⟨rfl, bDrewN (Below.refl _ _) r⟩
def RX (w : World) (p : Option Addr) (m a : Nat) : Prop := ∃ zs, At32 w p m m zs ∧ Nf B32 zs a
theorem RX.below {w w' : World} {p : Option Addr} {m a : Nat} (h : RX w p m a) (hb : Below w.heap.size w w') : RX w' p m a := by
  obtain ⟨zs, h1, h2⟩ := h
  exact ⟨zs, h1.below hb, h2⟩
theorem rl_shl {w : World} {p : Option Addr} {m a : Nat} (h : RL w p m a) (k : Nat) (hk : k ≤ 524288) : Calls Tryz.prog 129 #[.slice p m m, .int .i64 k] w fun e w' => ∃ p' m', e = .returned (.slice p' m' m') ∧ RX w' p' m' (a * 2 ^ k) ∧ Below w.heap.size w w' := by
  obtain ⟨⟨zs, h1, h2⟩, h3⟩ := h
  refine (rshl_all h1 h2 h3 k (.inl hk)).mono ?_
  rintro e w' ⟨p', m', us, rfl, g1, g2, g3, g4⟩
  exact ⟨p', m', rfl, ⟨us, g1, g2⟩, g4⟩
theorem rl_mul {w : World} {p q : Option Addr} {m n a b : Nat} (h : RL w p m a) (k : RL w q n b) (hl : m + n ≤ 16384) : Calls Tryz.prog 151 #[.slice p m m, .slice q n n] w fun e w' => ∃ p' m', e = .returned (.slice p' m' m') ∧ RL w' p' m' (a * b) ∧ m' ≤ m + n ∧ Below w.heap.size w w' := by
  obtain ⟨⟨zs, h1, h2⟩, h3⟩ := h
  obtain ⟨⟨us, k1, k2⟩, k3⟩ := k
  refine (rmul_any h1 k1 h2 k2 (by omega) (by omega)).mono ?_
  rintro e w' ⟨p', m', vs, rfl, g1, g2, g3, g4⟩
  exact ⟨p', m', rfl, ⟨⟨vs, g1, g2⟩, by omega⟩, g3, g4⟩
theorem rl_word (x : Nat) (hx : x < B64) (w : World) : Calls Tryz.prog 87 #[U x] w fun e w' => ∃ p' m', e = .returned (.slice p' m' m') ∧ RL w' p' m' x ∧ m' ≤ 2 ∧ Below w.heap.size w w' := by
  refine (rword x hx w).mono ?_
  rintro e w' ⟨g, zs, rfl, h1, h2, h3, h4⟩
  exact ⟨_, _, rfl, ⟨⟨zs, h2, h3⟩, by omega⟩, h1, h4⟩
theorem rl_add {w : World} {p q : Option Addr} {m n a b : Nat} (h : RX w p m a) (hm : m ≤ 40000) (k : RL w q n b) {K : Nat} (hK : K ≤ 16384) (hl : a + b < B32 ^ K) : Calls Tryz.prog 106 #[.slice p m m, .slice q n n] w fun e w' => ∃ p' m', e = .returned (.slice p' m' m') ∧ RL w' p' m' (a + b) ∧ m' ≤ K ∧ Below w.heap.size w w' := by
  obtain ⟨zs, h1, h2⟩ := h
  obtain ⟨⟨us, k1, k2⟩, k3⟩ := k
  refine (radd_any h1 k1 h2 k2 (by omega) (by omega)).mono ?_
  rintro e w' ⟨p', m', vs, rfl, g1, g2, g4⟩
  have := rl_len g1 g2 hl
  exact ⟨p', m', rfl, ⟨⟨vs, g1, g2⟩, by omega⟩, this, g4⟩
theorem jx {a : Int} (h1 : -100000000 ≤ a) (h2 : a ≤ 100000000) : IntKind.i64.wrap a = a ∧ wrap64 a = a := ⟨by simp [IntKind.wrap, IntKind.signed, IntKind.bits]; omega, by simp only [wrap64]; omega⟩
theorem ord_mid {a b : Nat} {e f : Int} (_ha : a ≠ 0) (_hb : b ≠ 0) (hA : bitsN a ≤ 524288) (hB : bitsN b ≤ 524288) (he : -2500000 ≤ e ∧ e ≤ 2500000) (hf : -2500000 ≤ f ∧ f ≤ 2500000) (ht : (bitsN a : Int) + e = (bitsN b : Int) + f) :
    ∃ E F : Nat, e = min e f + E ∧ f = min e f + F ∧ E ≤ 524288 ∧ F ≤ 524288 ∧ cmpN (dN a e) (dN b f) = cmpN (a * 2 ^ E) (b * 2 ^ F) := by
  refine ⟨(e - min e f).toNat, (f - min e f).toNat, by omega, by omega, by omega, by omega, ?_⟩
  exact dN_cmp (k := min e f) (by omega) (by omega) (by omega)
theorem order_g {w : World} {p q : Option Addr} {m n a b : Nat} (h : RL w p m a) (k : RL w q n b) (ha : a ≠ 0) (hb : b ≠ 0) (e f : Int) (he : -2500000 ≤ e ∧ e ≤ 2500000) (hf : -2500000 ≤ f ∧ f ≤ 2500000) :
    Calls Tryz.prog 152 #[.slice p m m, .int .i64 e, .slice q n n, .int .i64 f] w fun en w' => en = .returned (.int .i64 (cmpN (dN a e) (dN b f))) ∧ Below w.heap.size w w' := by
  have NA : Hid (RL w p m a) := h
  have NB : Hid (RL w q n b) := k
  obtain ⟨t, ht⟩ : ∃ t : Int, t = (bitsN a : Int) + e := ⟨_, rfl⟩
  obtain ⟨u, hu⟩ : ∃ u : Int, u = (bitsN b : Int) + f := ⟨_, rfl⟩
  have hA : bitsN a ≤ 524288 := by have := rl_bits h; have := h.len; omega
  have hB : bitsN b ≤ 524288 := by have := rl_bits k; have := k.len; omega
  have q1 : -100000000 ≤ (bitsN a : Int) + e ∧ (bitsN a : Int) + e ≤ 100000000 := by omega
  have q2 : -100000000 ≤ (bitsN b : Int) + f ∧ (bitsN b : Int) + f ≤ 100000000 := by omega
  have w1 : wrap64 ((bitsN a : Int) + e) = t := by rw [ht]; exact (jx q1.1 q1.2).2
  have w2 : wrap64 ((bitsN b : Int) + f) = u := by rw [hu]; exact (jx q2.1 q2.2).2
  have w3 : IntKind.i64.wrap ((bitsN a : Int) + e) = t := by rw [ht]; exact (jx q1.1 q1.2).1
  have w4 : IntKind.i64.wrap ((bitsN b : Int) + f) = u := by rw [hu]; exact (jx q2.1 q2.2).1
  obtain ⟨r, hr⟩ : ∃ r, r = cmpN (dN a e) (dN b f) := ⟨_, rfl⟩
  rw [← hr]
  have HC : Hid (a ≠ 0 ∧ b ≠ 0 ∧ (-2500000 ≤ e ∧ e ≤ 2500000) ∧ (-2500000 ≤ f ∧ f ≤ 2500000) ∧ bitsN a ≤ 524288 ∧ bitsN b ≤ 524288 ∧ t = (bitsN a : Int) + e ∧ u = (bitsN b : Int) + f ∧ r = cmpN (dN a e) (dN b f)) := ⟨ha, hb, he, hf, hA, hB, ht, hu, hr⟩
  have hbw : Below w.heap.size w w := Below.refl _ _
  clear h k ha hb he hf hA hB ht hu hr q1 q2
  go_enter Tryz.func152, Tryz.ntmps152
  go_wp2_with fail
  refine (rl_b NA.out).mono ?_
  rintro e9 v9 ⟨rfl, hw⟩
  obtain rfl := hw.symm
  clear hw
  go_wp2_with fail
  refine (rl_b NB.out).mono ?_
  rintro e9 v9 ⟨rfl, hw⟩
  obtain rfl := hw.symm
  clear hw
  rcases Int.lt_trichotomy t u with h1 | h1 | h1
  · have hr1 : r = -1 := by rw [HC.out.2.2.2.2.2.2.2.2]; obtain ⟨c1, c2, c3, c4, c5, c6, c7, c8, _⟩ := HC.out; exact cmpN_lt (dN_bits c2 (by omega) (by omega) (by omega))
    go_wp2_with fail
    rw [hr1]
    go_ret
    exact ⟨rfl, hbw⟩
  · subst h1
    obtain ⟨E, F, y1, y2, y3, y4, y5⟩ := ord_mid HC.out.1 HC.out.2.1 HC.out.2.2.2.2.1 HC.out.2.2.2.2.2.1 HC.out.2.2.1 HC.out.2.2.2.1 (HC.out.2.2.2.2.2.2.1.symm.trans HC.out.2.2.2.2.2.2.2.1)
    obtain ⟨k, hk⟩ : ∃ k : Int, k = min e f := ⟨_, rfl⟩
    rw [← hk] at y1 y2
    have z1 : e - k = (E : Int) := by omega
    have z2 : f - k = (F : Int) := by omega
    have x1 : wrap64 (e - k) = (E : Int) := by rw [z1]; exact (jx (by omega) (by omega)).2
    have x2 : wrap64 (f - k) = (F : Int) := by rw [z2]; exact (jx (by omega) (by omega)).2
    have x3 : IntKind.i64.wrap (e - k) = (E : Int) := by rw [z1]; exact (jx (by omega) (by omega)).1
    have x4 : IntKind.i64.wrap (f - k) = (F : Int) := by rw [z2]; exact (jx (by omega) (by omega)).1
    have HEF : Hid (E ≤ 524288 ∧ F ≤ 524288 ∧ r = cmpN (a * 2 ^ E) (b * 2 ^ F)) := ⟨y3, y4, HC.out.2.2.2.2.2.2.2.2.trans y5⟩
    have hk2 : min e f = k := hk.symm
    clear hk y1 y2 y3 y4 y5 z1 z2
    go_wp2_with fail
    refine (rl_shl NA.out E HEF.out.1).mono ?_
    rintro en v1 ⟨p1, m1, rfl, hn1, hb1⟩
    replace NA : Hid (RL v1 p m a) := NA.out.below hb1
    replace NB : Hid (RL v1 q n b) := NB.out.below hb1
    replace hbw := Below.on hbw hb1
    clear hb1
    have N1 : Hid (RX v1 p1 m1 (a * 2 ^ E)) := hn1
    clear hn1
    go_wp2_with fail
    refine (rl_shl NB.out F HEF.out.2.1).mono ?_
    rintro en v2 ⟨p2, m2, rfl, hn2, hb2⟩
    replace NA : Hid (RL v2 p m a) := NA.out.below hb2
    replace NB : Hid (RL v2 q n b) := NB.out.below hb2
    replace N1 : Hid (RX v2 p1 m1 (a * 2 ^ E)) := N1.out.below hb2
    replace hbw := Below.on hbw hb2
    clear hb2
    have N2 : Hid (RX v2 p2 m2 (b * 2 ^ F)) := hn2
    clear hn2
    go_wp2_with fail
    refine (rl_cmp N1.out N2.out).mono ?_
    rintro e v3 ⟨rfl, hb3⟩
    rw [← HEF.out.2.2]
    replace NA : Hid (RL v3 p m a) := NA.out.below hb3
    replace NB : Hid (RL v3 q n b) := NB.out.below hb3
    replace N1 : Hid (RX v3 p1 m1 (a * 2 ^ E)) := N1.out.below hb3
    replace N2 : Hid (RX v3 p2 m2 (b * 2 ^ F)) := N2.out.below hb3
    replace hbw := Below.on hbw hb3
    clear hb3
    go_wp2_with fail
    go_ret
    exact ⟨rfl, hbw⟩
  · have hr1 : r = 1 := by rw [HC.out.2.2.2.2.2.2.2.2]; obtain ⟨c1, c2, c3, c4, c5, c6, c7, c8, _⟩ := HC.out; exact cmpN_gt (dN_bits c1 (by omega) (by omega) (by omega))
    go_wp2_with fail
    rw [hr1]
    go_ret
    exact ⟨rfl, hbw⟩
theorem holdq_z {w : World} {p p1 p2 : Option Addr} {m m1 m2 a b d : Nat} (h : RL w p m a) (k1 : RL w p1 m1 b) (k2 : RL w p2 m2 d) (hb : b ≠ 0) (hd : d ≠ 0) (e f : Int) (he : -2000 ≤ e ∧ e ≤ 2000) (hf : -2500000 ≤ f ∧ f ≤ 2500000) (hl : m ≤ 2 ∧ m2 ≤ 16000) (ha : m = 0) :
    Calls Tryz.prog 128 #[.agg #[.slice p1 m1 m1, .slice p2 m2 m2, .int .i64 f, .bool false], .slice p m m, .int .i64 e] w fun en w' => en = .returned (.int .i64 (cmpN (dN (a * d) e) (dN b f))) ∧ Below w.heap.size w w' := by
  have NA : Hid (RL w p m a) := h
  have N1 : Hid (RL w p1 m1 b) := k1
  have N2 : Hid (RL w p2 m2 d) := k2
  have HM := h.zero
  obtain ⟨r, hr⟩ : ∃ r, r = cmpN (dN (a * d) e) (dN b f) := ⟨_, rfl⟩
  rw [← hr]
  have HC : Hid (b ≠ 0 ∧ d ≠ 0 ∧ (-2000 ≤ e ∧ e ≤ 2000) ∧ (-2500000 ≤ f ∧ f ≤ 2500000) ∧ (m ≤ 2 ∧ m2 ≤ 16000) ∧ r = cmpN (dN (a * d) e) (dN b f) ∧ (m = 0 ↔ a = 0)) := ⟨hb, hd, he, hf, hl, hr, HM⟩
  clear h k1 k2 hb hd he hf hl hr HM
  have hr1 : r = -1 := by
    rw [HC.out.2.2.2.2.2.1, HC.out.2.2.2.2.2.2.1 ha]
    refine cmpN_lt ?_
    rw [Nat.zero_mul]
    unfold dN
    rw [Nat.zero_mul]
    exact dN_pos HC.out.1 f
  rw [hr1]
  subst ha
  clear HC hr1 NA N1 N2
  go_enter Tryz.func128, Tryz.ntmps128
  go_wp2_with fail
  go_ret
  exact ⟨rfl, below1 w _⟩
theorem holdq_n {w : World} {p p1 p2 : Option Addr} {m m1 m2 a b d : Nat} (h : RL w p m a) (k1 : RL w p1 m1 b) (k2 : RL w p2 m2 d) (hb : b ≠ 0) (hd : d ≠ 0) (e f : Int) (he : -2000 ≤ e ∧ e ≤ 2000) (hf : -2500000 ≤ f ∧ f ≤ 2500000) (hl : m ≤ 2 ∧ m2 ≤ 16000) (ha : m ≠ 0) :
    Calls Tryz.prog 128 #[.agg #[.slice p1 m1 m1, .slice p2 m2 m2, .int .i64 f, .bool false], .slice p m m, .int .i64 e] w fun en w' => en = .returned (.int .i64 (cmpN (dN (a * d) e) (dN b f))) ∧ Below w.heap.size w w' := by
  have NA : Hid (RL w p m a) := h
  have N1 : Hid (RL w p1 m1 b) := k1
  have N2 : Hid (RL w p2 m2 d) := k2
  have HM := h.zero
  obtain ⟨r, hr⟩ : ∃ r, r = cmpN (dN (a * d) e) (dN b f) := ⟨_, rfl⟩
  rw [← hr]
  have HC : Hid (b ≠ 0 ∧ d ≠ 0 ∧ (-2000 ≤ e ∧ e ≤ 2000) ∧ (-2500000 ≤ f ∧ f ≤ 2500000) ∧ (m ≤ 2 ∧ m2 ≤ 16000) ∧ r = cmpN (dN (a * d) e) (dN b f) ∧ (m = 0 ↔ a = 0)) := ⟨hb, hd, he, hf, hl, hr, HM⟩
  clear h k1 k2 hb hd he hf hl hr HM
  have hm0 : ((m : Int) == 0) = false := by simp; omega
  have HA0 : Hid (a ≠ 0) := fun h => ha (HC.out.2.2.2.2.2.2.2 h)
  clear ha
  go_enter Tryz.func128, Tryz.ntmps128
  go_wp2_with fail
  obtain ⟨W0, hW0⟩ : ∃ W0, W0 = (w.alloc (.cells #[.slice p1 m1 m1, .slice p2 m2 m2, .int .i64 f, .bool false] 133)) := ⟨_, rfl⟩
  have Xv : Hid (B4q W0 (w.heap.size) (.slice p1 m1 m1) (.slice p2 m2 m2) (.int .i64 f) (.bool false)) := by rw [hW0]; exact ⟨by go_simp, by go_simp, by go_simp, by go_simp, by go_simp, by go_simp, by go_simp, by go_simp⟩
  have hb0 : Below w.heap.size w W0 := by rw [hW0]; exact below1 w _
  rw [← hW0]
  clear hW0
  have hbw : Below w.heap.size w w := Below.refl _ _
  obtain ⟨gv, hgv⟩ : ∃ g, g = w.heap.size := ⟨_, rfl⟩
  have HGv : Hid (w.heap.size ≤ gv) := by rw [hgv]; show _ ≤ _; omega
  rw [← hgv] at Xv
  try rw [← hgv]
  clear hgv
  replace NA : Hid (RL W0 p m a) := NA.out.below hb0
  replace N1 : Hid (RL W0 p1 m1 b) := N1.out.below hb0
  replace N2 : Hid (RL W0 p2 m2 d) := N2.out.below hb0
  replace hbw := Below.on hbw hb0
  clear hb0
  obtain ⟨V1, hV1⟩ : ∃ W1, W1 = W0.drew := ⟨_, rfl⟩
  have hbd : Below W0.heap.size W0 V1 := by rw [hV1]; exact bDrew1 (Below.refl _ _)
  replace Xv : Hid _ := Xv.out.below hbd
  replace NA : Hid (RL V1 p m a) := NA.out.below hbd
  replace N1 : Hid (RL V1 p1 m1 b) := N1.out.below hbd
  replace N2 : Hid (RL V1 p2 m2 d) := N2.out.below hbd
  replace hbw := Below.on hbw hbd
  clear hbd
  have HJ : Hid ((fun W' : World => W'.cell? ⟨gv, 0, none⟩ = some (.slice p1 m1 m1) ∧ W'.cell? ⟨gv, 1, none⟩ = some (.slice p2 m2 m2) ∧ W'.cell? ⟨gv, 2, none⟩ = some (.int .i64 f)) V1) := ⟨Xv.out.c0, Xv.out.c1, Xv.out.c2⟩
  refine wp_region_J (fun W' => W'.cell? ⟨gv, 0, none⟩ = some (.slice p1 m1 m1) ∧ W'.cell? ⟨gv, 1, none⟩ = some (.slice p2 m2 m2) ∧ W'.cell? ⟨gv, 2, none⟩ = some (.int .i64 f)) (by kernel_rfl) ?_
  rw [← hV1]
  clear hV1
  refine wpJ_tq 0 rfl HJ.out ?_
  refine wpJ_tq 1 rfl HJ.out ?_
  refine wpJ_tq 2 rfl HJ.out ?_
  refine wpJ_tq 4 rfl HJ.out ?_
  refine wpJ_tq 5 rfl HJ.out ?_
  go_simp
  refine wpJ_tq 6 rfl HJ.out ?_
  refine wpJ_tq 7 rfl HJ.out ?_
  refine wpJ_tq 8 rfl HJ.out ?_
  refine wpJ_on 3 rfl fun KJ hK => ?_
  go_simp
  refine (rl_mul NA.out N2.out (by have := HC.out; omega)).mono ?_
  rintro en v3 ⟨p3, m3, rfl, hn3, hl3, hb3⟩
  replace Xv : Hid _ := Xv.out.below hb3
  replace NA : Hid (RL v3 p m a) := NA.out.below hb3
  replace N1 : Hid (RL v3 p1 m1 b) := N1.out.below hb3
  replace N2 : Hid (RL v3 p2 m2 d) := N2.out.below hb3
  replace hbw := Below.on hbw hb3
  clear hb3
  have N3 : Hid (RL v3 p3 m3 (a * d)) := hn3
  have HL3 : Hid (m3 ≤ m + m2) := hl3
  clear hn3 hl3
  refine hK _ _ ⟨Xv.out.c0, Xv.out.c1, Xv.out.c2⟩ ?_
  clear hK
  refine wpJ_on 9 rfl fun KJ hK => ?_
  go_simp
  refine (order_g N3.out N1.out (by have h1 := HA0.out; have h2 := HC.out.2.1; intro h3; rcases Nat.mul_eq_zero.1 h3 with h4 | h4; exact h1 h4; exact h2 h4) HC.out.1 e f (by have := HC.out; omega) HC.out.2.2.2.1).mono ?_
  rintro e v4 ⟨rfl, hb4⟩
  rw [← HC.out.2.2.2.2.2.1]
  replace Xv : Hid _ := Xv.out.below hb4
  replace NA : Hid (RL v4 p m a) := NA.out.below hb4
  replace N1 : Hid (RL v4 p1 m1 b) := N1.out.below hb4
  replace N2 : Hid (RL v4 p2 m2 d) := N2.out.below hb4
  replace N3 : Hid (RL v4 p3 m3 (a * d)) := N3.out.below hb4
  replace hbw := Below.on hbw hb4
  clear hb4
  clear HJ
  have HJ : Hid ((fun W' : World => W'.cell? ⟨gv, 0, none⟩ = some (.slice p1 m1 m1) ∧ W'.cell? ⟨gv, 1, none⟩ = some (.slice p2 m2 m2) ∧ W'.cell? ⟨gv, 2, none⟩ = some (.int .i64 f)) v4) := ⟨Xv.out.c0, Xv.out.c1, Xv.out.c2⟩
  refine hK _ _ HJ.out ?_
  clear hK
  refine wpJ_tq 10 rfl HJ.out ?_
  refine wpJ_done (by kernel_rfl) ?_ _
  clear HJ
  go_wp2_with fail
  go_ret
  exact ⟨rfl, hbw⟩
theorem holdq {w : World} {p p1 p2 : Option Addr} {m m1 m2 a b d : Nat} (h : RL w p m a) (k1 : RL w p1 m1 b) (k2 : RL w p2 m2 d) (hb : b ≠ 0) (hd : d ≠ 0) (e f : Int) (he : -2000 ≤ e ∧ e ≤ 2000) (hf : -2500000 ≤ f ∧ f ≤ 2500000) (hl : m ≤ 2 ∧ m2 ≤ 16000) : Calls Tryz.prog 128 #[.agg #[.slice p1 m1 m1, .slice p2 m2 m2, .int .i64 f, .bool false], .slice p m m, .int .i64 e] w fun en w' => en = .returned (.int .i64 (cmpN (dN (a * d) e) (dN b f))) ∧ Below w.heap.size w w' := by
  by_cases ha : m = 0
  · exact holdq_z h k1 k2 hb hd e f he hf hl ha
  · exact holdq_n h k1 k2 hb hd e f he hf hl ha
structure Sk (S : Nat) (P E G : Int) (I Q H : Nat) : Prop where
  pt : ∀ (s : Nat) w, s < S → Calls Tryz.prog 96 #[FV S P E G I Q, U s] w fun e w' => e = .returned (.tuple #[U (s - (s / H - 1) * H), .int .i64 (E + ((s / H - 1 : Nat) : Int))]) ∧ Below w.heap.size w w'
  hH : 0 < H ∧ H ≤ 4503599627370496
  hI : 2 ≤ I ∧ I < S ∧ S ≤ 9223372036854775808
  qI : ∀ s, s ≤ I → s / H - 1 ≤ 2046
  lo : -1074 ≤ E ∧ E ≤ -149
def HoldF (v : Value) (g : Nat → Nat) (A : Nat) (E : Int) (p1 p2 : Option Addr) (m1 m2 b d : Nat) : Prop :=
  ∀ (mn t : Nat) (e : Int) (W : World) (p : Option Addr) (m : Nat), RL W p m mn → RL W p1 m1 b → RL W p2 m2 d → m ≤ 2 → e = E - 1 + t → t ≤ 2047 → Calls Tryz.prog 128 #[v, .slice p m m, .int .i64 e] W fun en w' => en = .returned (.int .i64 (cmpN (g (mn * 2 ^ t)) A)) ∧ Below W.heap.size W w'
theorem RX.len {w : World} {p : Option Addr} {m a K : Nat} (h : RX w p m a) (hb : a < B32 ^ K) : m ≤ K := by
  obtain ⟨zs, h1, h2⟩ := h
  exact rl_len h1 h2 hb
theorem vs2 {H s q man : Nat} (hq : q = s / H - 1) (hm : man = s - q * H) : man * 2 ^ (q + 1) = 2 * vs H s := by
  unfold vs
  rw [← hq, ← hm, Nat.pow_succ]
  rw [Nat.mul_comm (2 ^ q) 2, Nat.mul_left_comm]
theorem hv2 {H s q man : Nat} (hq : q = s / H - 1) (hm : man = s - q * H) : (2 * man + 1) * 2 ^ q = hv H s := by
  unfold hv vs
  rw [← hq, ← hm, Nat.add_mul, Nat.one_mul, Nat.mul_assoc]
theorem man_lt {H s q man : Nat} (hp : 0 < H) (hq : q = s / H - 1) (hm : man = s - q * H) : man < 2 * H := by
  have h1 := Nat.div_add_mod s H
  have h2 := Nat.mod_lt s hp
  rw [Nat.mul_comm] at h1
  by_cases h3 : s / H ≤ 1
  · have hq0 : q = 0 := by omega
    have h4 : s / H * H ≤ 1 * H := Nat.mul_le_mul_right _ h3
    rw [hq0, Nat.zero_mul] at hm
    omega
  · have h5 : q + 1 = s / H := by omega
    have h6 : q * H + H = s / H * H := by rw [← h5, Nat.add_mul, Nat.one_mul]
    omega
theorem b32_2 {a : Nat} (h : a < 18014398509481984) : a < B32 ^ 2 := Nat.lt_of_lt_of_le h (by decide)
theorem b64_9 {a : Nat} (h : a < 18014398509481984) : a < B64 := Nat.lt_of_lt_of_le h (by decide)
theorem ju9 {a : Nat} (h : a < 18446744073709551616) : IntKind.u64.wrap (a : Int) = (a : Int) := by rw [IntKind.wrap_u64]; omega
theorem ju8 {a b d : Nat} (h : a < 18446744073709551616) (hd : d = a - b) (hb : b ≤ a) : IntKind.u64.wrap ((a : Int) - (b : Int)) = (d : Int) := by rw [show (a : Int) - (b : Int) = (d : Int) by omega]; exact ju9 (by omega)
theorem ju7 {a b d : Nat} (h : d < 18446744073709551616) (hd : d = a + b) : IntKind.u64.wrap ((a : Int) + (b : Int)) = (d : Int) := by rw [show (a : Int) + (b : Int) = (d : Int) by omega]; exact ju9 h
theorem ju6 {a d : Nat} (h : a < 18446744073709551616) (hd : d = a / 2) : IntKind.u64.wrap ((a : Int) / 2) = (d : Int) := by rw [show (a : Int) / 2 = (d : Int) by omega]; exact ju9 (by omega)
theorem ju5 {a d : Nat} (h : d < 18446744073709551616) (hd : d = a + 1) : IntKind.u64.wrap ((a : Int) + 1) = (d : Int) := by rw [show (a : Int) + 1 = (d : Int) by omega]; exact ju9 h
theorem size_g {S : Nat} {P E G : Int} {I Q H : Nat} (K : Sk S P E G I Q H) {w : World} {p1 p2 : Option Addr} {m1 m2 b d : Nat} {ro : Bool} {f : Int} (k1 : RL w p1 m1 b) (k2 : RL w p2 m2 d) {g : Nat → Nat} {A : Nat} (hg : Up g) (hA : g 0 ≤ A) (hold : HoldF (.agg #[.slice p1 m1 m1, .slice p2 m2 m2, .int .i64 f, .bool ro]) g A E p1 p2 m1 m2 b d) :
    Calls Tryz.prog 85 #[FV S P E G I Q, .agg #[.slice p1 m1 m1, .slice p2 m2 m2, .int .i64 f, .bool ro]] w fun en w' => ∃ Z, en = .returned (U Z) ∧ Trc (fun z => cmpN A (g (hv H z))) I Z ∧ Below w.heap.size w w' := by
  have N1 : Hid (RL w p1 m1 b) := k1
  have N2 : Hid (RL w p2 m2 d) := k2
  have HK : Hid (Sk S P E G I Q H) := K
  have HC : Hid (Up g ∧ g 0 ≤ A) := ⟨hg, hA⟩
  have HO : Hid (HoldF (.agg #[.slice p1 m1 m1, .slice p2 m2 m2, .int .i64 f, .bool ro]) g A E p1 p2 m1 m2 b d) := hold
  obtain ⟨I1, hI1⟩ : ∃ I1, I1 = I + 1 := ⟨_, rfl⟩
  have HI1 : Hid (I1 = I + 1 ∧ I < 9223372036854775808) := ⟨hI1, by have := K.hI; omega⟩
  have i1 : IntKind.u64.wrap ((I : Int) + 1) = (I1 : Int) := ju5 (by have := HI1.out; omega) hI1
  clear k1 k2 hg hA hold K hI1
  go_enter Tryz.func85, Tryz.ntmps85
  go_wp2_with fail
  obtain ⟨W0, hW0⟩ : ∃ W0, W0 = ((w.alloc (.cells #[U S, .int .i64 P, .int .i64 E, .int .i64 G, U I, U Q] 126)).alloc (.cells #[.slice p1 m1 m1, .slice p2 m2 m2, .int .i64 f, .bool ro] 133)) := ⟨_, rfl⟩
  have Xfm : Hid (B6q W0 (w.heap.size) (U S) (.int .i64 P) (.int .i64 E) (.int .i64 G) (U I) (U Q)) := by rw [hW0]; exact ⟨by go_simp, by go_simp, by go_simp, by go_simp, by go_simp, by go_simp, by go_simp, by go_simp, by go_simp, by go_simp, by go_simp, by go_simp⟩
  have Xv : Hid (B4q W0 (w.heap.size + 1) (.slice p1 m1 m1) (.slice p2 m2 m2) (.int .i64 f) (.bool ro)) := by rw [hW0]; exact ⟨by go_simp, by go_simp, by go_simp, by go_simp, by go_simp, by go_simp, by go_simp, by go_simp⟩
  have hb0 : Below w.heap.size w W0 := by rw [hW0]; exact below2 w _ _
  rw [← hW0]
  clear hW0
  have hbw : Below w.heap.size w w := Below.refl _ _
  obtain ⟨gv, hgv⟩ : ∃ g, g = w.heap.size + 1 := ⟨_, rfl⟩
  have HGv : Hid (w.heap.size ≤ gv) := by rw [hgv]; show _ ≤ _; omega
  rw [← hgv] at Xv
  try rw [← hgv]
  obtain ⟨gfm, hgfm⟩ : ∃ g, g = w.heap.size := ⟨_, rfl⟩
  have HGfm : Hid (w.heap.size ≤ gfm) := by rw [hgfm]; show _ ≤ _; omega
  rw [← hgfm] at Xfm
  try rw [← hgfm]
  have HGD : Hid (gfm ≠ gv ∧ gv ≠ gfm) := by rw [hgfm, hgv]; exact ⟨by omega, by omega⟩
  clear hgfm hgv
  replace N1 : Hid (RL W0 p1 m1 b) := N1.out.below hb0
  replace N2 : Hid (RL W0 p2 m2 d) := N2.out.below hb0
  replace hbw := Below.on hbw hb0
  clear hb0
  obtain ⟨V1, hV1⟩ : ∃ W1, W1 = W0.drew := ⟨_, rfl⟩
  have hbd : Below W0.heap.size W0 V1 := by rw [hV1]; exact bDrew1 (Below.refl _ _)
  replace Xfm : Hid _ := Xfm.out.below hbd
  replace Xv : Hid _ := Xv.out.below hbd
  replace N1 : Hid (RL V1 p1 m1 b) := N1.out.below hbd
  replace N2 : Hid (RL V1 p2 m2 d) := N2.out.below hbd
  replace hbw := Below.on hbw hbd
  clear hbd
  have HJ : Hid ((fun W' : World => W'.cell? ⟨gfm, 4, none⟩ = some (U I)) V1) := Xfm.out.c4
  refine wp_region_J (fun W' => W'.cell? ⟨gfm, 4, none⟩ = some (U I)) (by kernel_rfl) ?_
  rw [← hV1]
  clear hV1
  refine wpJ_tk 0 (v := ?v1x0) rfl ?hy1x0 HJ.out ?_
  case hy1x0 => (intro W' hJ; have j0 := hJ; go_simp; first | done | with_reducible rfl)
  refine wpJ_tk 1 (v := ?v2x1) rfl ?hy2x1 HJ.out ?_
  case hy2x1 => (intro W' hJ; have j0 := hJ; go_simp; first | done | with_reducible rfl)
  refine wpJ_tk 2 (v := ?v3x2) rfl ?hy3x2 HJ.out ?_
  case hy3x2 => (intro W' hJ; have j0 := hJ; go_simp; first | done | with_reducible rfl)
  refine wpJ_tk 3 (v := ?v4x3) rfl ?hy4x3 HJ.out ?_
  case hy4x3 => (intro W' hJ; have j0 := hJ; go_simp; first | done | with_reducible rfl)
  refine wpJ_tk 4 (v := ?v5x4) rfl ?hy5x4 HJ.out ?_
  case hy5x4 => (intro W' hJ; have j0 := hJ; go_simp; first | done | with_reducible rfl)
  go_simp
  refine wpJ_done (by kernel_rfl) ?_ _
  clear HJ
  go_wp2_with fail
  go_loopg [5, 6] I (fun gk lov hiv wr => ∃ lo hi : Nat, lov = U lo ∧ hiv = U hi ∧ hi = lo + gk + 1 ∧ hi ≤ I + 1 ∧ g (2 * vs H lo) ≤ A ∧ (hi = I + 1 ∨ A < g (2 * vs H hi)) ∧ B6q wr gfm (U S) (.int .i64 P) (.int .i64 E) (.int .i64 G) (U I) (U Q) ∧ B4q wr gv (.slice p1 m1 m1) (.slice p2 m2 m2) (.int .i64 f) (.bool ro) ∧ RL wr p1 m1 b ∧ RL wr p2 m2 d ∧ Below w.heap.size w wr)
  case atStart => exact ⟨0, I1, rfl, rfl, by have := HI1.out; omega, by have := HI1.out; omega, by rw [vs_zero]; exact HC.out.2, .inl HI1.out.1, Xfm.out, Xv.out, N1.out, N2.out, hbw⟩
  case round =>
    clear hbw Xfm Xv N1 N2
    obtain ⟨lo, hi, rfl, rfl, hgk, hi1, hlo, hhi, xk, xv, n1, n2, hbw⟩ := hrel
    have Xfm : Hid (B6q wr gfm (U S) (.int .i64 P) (.int .i64 E) (.int .i64 G) (U I) (U Q)) := xk
    have Xv : Hid (B4q wr gv (.slice p1 m1 m1) (.slice p2 m2 m2) (.int .i64 f) (.bool ro)) := xv
    have N1 : Hid (RL wr p1 m1 b) := n1
    have N2 : Hid (RL wr p2 m2 d) := n2
    clear xk xv n1 n2
    have HLH : Hid (hi ≤ I + 1 ∧ g (2 * vs H lo) ≤ A ∧ (hi = I + 1 ∨ A < g (2 * vs H hi)) ∧ I < 9223372036854775808) := ⟨hi1, hlo, hhi, HI1.out.2⟩
    clear hi1 hlo hhi
    cases gk with
    | zero =>
      obtain rfl : hi = lo + 1 := by omega
      have w1 : IntKind.u64.wrap (((lo + 1 : Nat) : Int) - (lo : Int)) = 1 := ju8 (d := 1) (by have := HLH.out; omega) (by omega) (by omega)
      clear hgk
      by_cases hlo : lo = I
      · have w2 : ((lo : Int) == (I : Int)) = true := by simp [hlo]
        have HLI : Hid (lo = I) := hlo
        clear hlo
        obtain ⟨cfm0, cfm1, cfm2, cfm3, cfm4, cfm5, ffm0, ffm1, ffm2, ffm3, ffm4, ffm5⟩ := Xfm.out
        have hnefm : gfm < wr.heap.size := World.block_lt_of_cell? wr _ cfm0
        go_wp2_with fail
        clear cfm0 cfm1 cfm2 cfm3 cfm4 cfm5 ffm0 ffm1 ffm2 ffm3 ffm4 ffm5 hnefm
        go_ret
        exact ⟨lo, rfl, by rw [HLI.out]; exact trc_top HK.out.hH.1 HC.out.1 (by rw [← HLI.out]; exact HLH.out.2.1), hbw⟩
      · have HLO : Hid (lo < I ∧ A < g (2 * vs H (lo + 1))) := ⟨by have := HLH.out.1; omega, HLH.out.2.2.1.resolve_left (by omega)⟩
        have w2 : ((lo : Int) == (I : Int)) = false := by simp; omega
        clear hlo
        obtain ⟨q, hq⟩ : ∃ q, q = lo / H - 1 := ⟨_, rfl⟩
        obtain ⟨man, hman⟩ : ∃ man, man = lo - q * H := ⟨_, rfl⟩
        obtain ⟨ex, hex⟩ : ∃ ex : Int, ex = E + (q : Int) := ⟨_, rfl⟩
        have HPT := fun w => HK.out.pt lo w (by have := HLO.out; have := HK.out.hI; omega)
        simp only [← hq] at HPT
        simp only [← hman, ← hex] at HPT
        obtain ⟨ex1, hex1⟩ : ∃ ex1 : Int, ex1 = ex - 1 := ⟨_, rfl⟩
        have hq9 : q ≤ 2046 := by rw [hq]; exact HK.out.qI lo (by have := HLO.out; omega)
        have hlo9 := HK.out.lo
        have HM : Hid (man < 9007199254740992 ∧ q ≤ 2046 ∧ ex1 = E - 1 + (q : Int) ∧ (2 * man + 1) * 2 ^ q = hv H lo) := ⟨by have := man_lt HK.out.hH.1 hq hman; have := HK.out.hH; omega, hq9, by omega, hv2 hq hman⟩
        have w3 : wrap64 (ex - 1) = ex1 := by rw [hex1]; exact (jx (by omega) (by omega)).2
        have w4 : IntKind.i64.wrap (ex - 1) = ex1 := by rw [hex1]; exact (jx (by omega) (by omega)).1
        have HPH : Hid (∀ w, Calls Tryz.prog 96 #[FV S P E G I Q, U lo] w fun e w' => e = .returned (.tuple #[U man, .int .i64 ex]) ∧ Below w.heap.size w w') := HPT
        clear hq hman hex hex1 hq9 hlo9 HPT
        obtain ⟨cfm0, cfm1, cfm2, cfm3, cfm4, cfm5, ffm0, ffm1, ffm2, ffm3, ffm4, ffm5⟩ := Xfm.out
        have hnefm : gfm < wr.heap.size := World.block_lt_of_cell? wr _ cfm0
        go_wp2_with fail
        clear cfm0 cfm1 cfm2 cfm3 cfm4 cfm5 ffm0 ffm1 ffm2 ffm3 ffm4 ffm5 hnefm
        refine (HPH.out _).mono ?_
        rintro e v1 ⟨rfl, hb1⟩
        replace Xfm : Hid _ := Xfm.out.below hb1
        replace Xv : Hid _ := Xv.out.below hb1
        replace N1 : Hid (RL v1 p1 m1 b) := N1.out.below hb1
        replace N2 : Hid (RL v1 p2 m2 d) := N2.out.below hb1
        replace hbw := Below.on hbw hb1
        clear hb1
        go_wp2_with fail
        obtain ⟨c, hc⟩ : ∃ c, c = cmpN (g (hv H lo)) A := ⟨_, rfl⟩
        have HCC : Hid (c = cmpN (g (hv H lo)) A) := hc
        clear hc
        obtain ⟨V5, hV5⟩ : ∃ W1, W1 = v1.drew := ⟨_, rfl⟩
        have hbd : Below v1.heap.size v1 V5 := by rw [hV5]; exact bDrew1 (Below.refl _ _)
        replace Xfm : Hid _ := Xfm.out.below hbd
        replace Xv : Hid _ := Xv.out.below hbd
        replace N1 : Hid (RL V5 p1 m1 b) := N1.out.below hbd
        replace N2 : Hid (RL V5 p2 m2 d) := N2.out.below hbd
        replace hbw := Below.on hbw hbd
        clear hbd
        have HJ : Hid ((fun W' : World => W'.cell? ⟨gv, 0, none⟩ = some (.slice p1 m1 m1) ∧ W'.cell? ⟨gv, 1, none⟩ = some (.slice p2 m2 m2) ∧ W'.cell? ⟨gv, 2, none⟩ = some (.int .i64 f) ∧ W'.cell? ⟨gv, 3, none⟩ = some (.bool ro)) V5) := ⟨Xv.out.c0, Xv.out.c1, Xv.out.c2, Xv.out.c3⟩
        refine wp_region_J (fun W' => W'.cell? ⟨gv, 0, none⟩ = some (.slice p1 m1 m1) ∧ W'.cell? ⟨gv, 1, none⟩ = some (.slice p2 m2 m2) ∧ W'.cell? ⟨gv, 2, none⟩ = some (.int .i64 f) ∧ W'.cell? ⟨gv, 3, none⟩ = some (.bool ro)) (by kernel_rfl) ?_
        rw [← hV5]
        clear hV5
        refine wpJ_tq 0 rfl HJ.out ?_
        refine wpJ_tq 1 rfl HJ.out ?_
        refine wpJ_tq 6 rfl HJ.out ?_
        refine wpJ_tq 7 rfl HJ.out ?_
        refine wpJ_on 2 rfl fun KJ hK => ?_
        go_simp
        refine (rl_word man (b64_9 (by have := HM.out.1; omega)) _).mono ?_
        rintro en v12 ⟨p12, m12, rfl, hn12, hl12, hb12⟩
        replace Xfm : Hid _ := Xfm.out.below hb12
        replace Xv : Hid _ := Xv.out.below hb12
        replace N1 : Hid (RL v12 p1 m1 b) := N1.out.below hb12
        replace N2 : Hid (RL v12 p2 m2 d) := N2.out.below hb12
        replace hbw := Below.on hbw hb12
        clear hb12
        have N12 : Hid (RL v12 p12 m12 (man)) := hn12
        have HL12 : Hid (m12 ≤ 2) := hl12
        clear hn12 hl12
        refine hK _ _ ⟨Xv.out.c0, Xv.out.c1, Xv.out.c2, Xv.out.c3⟩ ?_
        clear hK
        refine wpJ_on 3 rfl fun KJ hK => ?_
        go_simp
        refine (rl_shl N12.out 1 (by decide)).mono ?_
        rintro en v13 ⟨p13, m13, rfl, hn13, hb13⟩
        replace Xfm : Hid _ := Xfm.out.below hb13
        replace Xv : Hid _ := Xv.out.below hb13
        replace N1 : Hid (RL v13 p1 m1 b) := N1.out.below hb13
        replace N2 : Hid (RL v13 p2 m2 d) := N2.out.below hb13
        replace N12 : Hid (RL v13 p12 m12 (man)) := N12.out.below hb13
        replace hbw := Below.on hbw hb13
        clear hb13
        have N13 : Hid (RX v13 p13 m13 (man * 2 ^ 1)) := hn13
        clear hn13
        refine hK _ _ ⟨Xv.out.c0, Xv.out.c1, Xv.out.c2, Xv.out.c3⟩ ?_
        clear hK
        refine wpJ_on 4 rfl fun KJ hK => ?_
        go_simp
        refine (rl_word 1 (by decide) _).mono ?_
        rintro en v14 ⟨p14, m14, rfl, hn14, hl14, hb14⟩
        replace Xfm : Hid _ := Xfm.out.below hb14
        replace Xv : Hid _ := Xv.out.below hb14
        replace N1 : Hid (RL v14 p1 m1 b) := N1.out.below hb14
        replace N2 : Hid (RL v14 p2 m2 d) := N2.out.below hb14
        replace N12 : Hid (RL v14 p12 m12 (man)) := N12.out.below hb14
        replace N13 : Hid (RX v14 p13 m13 (man * 2 ^ 1)) := N13.out.below hb14
        replace hbw := Below.on hbw hb14
        clear hb14
        have N14 : Hid (RL v14 p14 m14 (1)) := hn14
        have HL14 : Hid (m14 ≤ 2) := hl14
        clear hn14 hl14
        refine hK _ _ ⟨Xv.out.c0, Xv.out.c1, Xv.out.c2, Xv.out.c3⟩ ?_
        clear hK
        refine wpJ_on 5 rfl fun KJ hK => ?_
        go_simp
        refine (rl_add N13.out (by have := N13.out.len (K := 2) (b32_2 (by have := HM.out.1; omega)); omega) N14.out (K := 2) (by decide) (b32_2 (by have := HM.out.1; omega))).mono ?_
        rintro en v15 ⟨p15, m15, rfl, hn15, hl15, hb15⟩
        replace Xfm : Hid _ := Xfm.out.below hb15
        replace Xv : Hid _ := Xv.out.below hb15
        replace N1 : Hid (RL v15 p1 m1 b) := N1.out.below hb15
        replace N2 : Hid (RL v15 p2 m2 d) := N2.out.below hb15
        replace N12 : Hid (RL v15 p12 m12 (man)) := N12.out.below hb15
        replace N13 : Hid (RX v15 p13 m13 (man * 2 ^ 1)) := N13.out.below hb15
        replace N14 : Hid (RL v15 p14 m14 (1)) := N14.out.below hb15
        replace hbw := Below.on hbw hb15
        clear hb15
        have N15 : Hid (RL v15 p15 m15 (man * 2 ^ 1 + 1)) := hn15
        have HL15 : Hid (m15 ≤ 2) := hl15
        clear hn15 hl15
        refine hK _ _ ⟨Xv.out.c0, Xv.out.c1, Xv.out.c2, Xv.out.c3⟩ ?_
        clear hK
        refine wpJ_on 8 rfl fun KJ hK => ?_
        go_simp
        refine (HO.out (man * 2 ^ 1 + 1) q ex1 _ p15 m15 N15.out N1.out N2.out HL15.out HM.out.2.2.1 (by have := HM.out.2.1; omega)).mono ?_
        rintro e v16 ⟨rfl, hb16⟩
        rw [show (man * 2 ^ 1 + 1) * 2 ^ q = hv H lo by rw [← HM.out.2.2.2]; congr 1; omega, ← HCC.out]
        replace Xfm : Hid _ := Xfm.out.below hb16
        replace Xv : Hid _ := Xv.out.below hb16
        replace N1 : Hid (RL v16 p1 m1 b) := N1.out.below hb16
        replace N2 : Hid (RL v16 p2 m2 d) := N2.out.below hb16
        replace N12 : Hid (RL v16 p12 m12 (man)) := N12.out.below hb16
        replace N13 : Hid (RX v16 p13 m13 (man * 2 ^ 1)) := N13.out.below hb16
        replace N14 : Hid (RL v16 p14 m14 (1)) := N14.out.below hb16
        replace N15 : Hid (RL v16 p15 m15 (man * 2 ^ 1 + 1)) := N15.out.below hb16
        replace hbw := Below.on hbw hb16
        clear hb16
        clear HJ
        have HJ : Hid ((fun W' : World => W'.cell? ⟨gv, 0, none⟩ = some (.slice p1 m1 m1) ∧ W'.cell? ⟨gv, 1, none⟩ = some (.slice p2 m2 m2) ∧ W'.cell? ⟨gv, 2, none⟩ = some (.int .i64 f) ∧ W'.cell? ⟨gv, 3, none⟩ = some (.bool ro)) v16) := ⟨Xv.out.c0, Xv.out.c1, Xv.out.c2, Xv.out.c3⟩
        refine hK _ _ HJ.out ?_
        clear hK
        refine wpJ_tq 9 rfl HJ.out ?_
        go_simp
        refine wpJ_done (by kernel_rfl) ?_ _
        clear HJ
        have HT : Hid (∀ Z, Z = (if c < 0 ∨ (c = 0 ∧ lo % 2 = 1) then lo + 1 else lo) → Trc (fun z => cmpN A (g (hv H z))) I Z) := fun Z hZ => trc_lo HK.out.hH.1 HC.out.1 HLO.out.1 HLH.out.2.1 HLO.out.2 (by rw [← HCC.out]; exact hZ)
        have HC3 : c = -1 ∨ c = 0 ∨ c = 1 := by rw [HCC.out]; unfold cmpN; split; (exact .inl rfl); split; (exact .inr (.inl rfl)); exact .inr (.inr rfl)
        rcases HC3 with h1 | h1 | h1
        · subst h1
          clear HCC
          have w6 : IntKind.u64.wrap ((lo : Int) + 1) = ((lo + 1 : Nat) : Int) := ju5 (by have := HLH.out; omega) rfl
          go_wp2_with fail
          go_ret
          exact ⟨lo + 1, rfl, HT.out _ (by rw [if_pos (.inl (by decide))]), hbw⟩
        · subst h1
          clear HCC
          by_cases hod : lo % 2 = 1
          · have HOD : Hid (lo % 2 = 1) := hod
            have w7 : (lo : Int) % 2 = 1 := by omega
            clear hod
            have w6 : IntKind.u64.wrap ((lo : Int) + 1) = ((lo + 1 : Nat) : Int) := ju5 (by have := HLH.out; omega) rfl
            go_wp2_with fail
            go_ret
            exact ⟨lo + 1, rfl, HT.out _ (by rw [if_pos]; exact .inr ⟨by first | rfl | trivial, HOD.out⟩), hbw⟩
          · have HOD : Hid (¬ lo % 2 = 1) := hod
            have w7 : (lo : Int) % 2 = 0 := by omega
            clear hod
            go_wp2_with fail
            go_ret
            exact ⟨lo, rfl, HT.out _ (by rw [if_neg (by have := HOD.out; omega)]), hbw⟩
        · subst h1
          clear HCC
          go_wp2_with fail
          go_ret
          exact ⟨lo, rfl, HT.out _ (by rw [if_neg (by omega)]), hbw⟩
    | succ gj =>
      obtain ⟨d0, hd⟩ : ∃ d0, d0 = hi - lo := ⟨_, rfl⟩
      obtain ⟨d2, hd2⟩ : ∃ d2, d2 = d0 / 2 := ⟨_, rfl⟩
      obtain ⟨s, hs⟩ : ∃ s, s = lo + d2 := ⟨_, rfl⟩
      have hI9 := HLH.out
      have w1 : IntKind.u64.wrap ((hi : Int) - (lo : Int)) = (d0 : Int) := ju8 (by omega) hd (by omega)
      have w4 : IntKind.u64.wrap ((d0 : Int) / 2) = (d2 : Int) := ju6 (by omega) hd2
      have w2 : IntKind.u64.wrap ((lo : Int) + (d2 : Int)) = (s : Int) := ju7 (by omega) hs
      have w3 : decide ((1 : Int) < (d0 : Int)) = true := decide_eq_true (by omega)
      have HS : Hid (lo < s ∧ s < hi ∧ hi = lo + (gj + 1) + 1) := ⟨by omega, by omega, hgk⟩
      clear hgk hd hs hd2 hI9
      obtain ⟨q, hq⟩ : ∃ q, q = s / H - 1 := ⟨_, rfl⟩
      obtain ⟨man, hman⟩ : ∃ man, man = s - q * H := ⟨_, rfl⟩
      obtain ⟨ex, hex⟩ : ∃ ex : Int, ex = E + (q : Int) := ⟨_, rfl⟩
      have HPT := fun w => HK.out.pt s w (by have := HS.out; have := HLH.out; have := HK.out.hI; omega)
      simp only [← hq] at HPT
      simp only [← hman, ← hex] at HPT
      have HM : Hid (man < 9007199254740992 ∧ q ≤ 2046 ∧ ex = E - 1 + ((q + 1 : Nat) : Int) ∧ man * 2 ^ (q + 1) = 2 * vs H s) := ⟨by have := man_lt HK.out.hH.1 hq hman; have := HK.out.hH; omega, by rw [hq]; exact HK.out.qI s (by have := HS.out; have := HLH.out; omega), by omega, vs2 hq hman⟩
      have HPH : Hid (∀ w, Calls Tryz.prog 96 #[FV S P E G I Q, U s] w fun e w' => e = .returned (.tuple #[U man, .int .i64 ex]) ∧ Below w.heap.size w w') := HPT
      clear hq hman hex HPT
      obtain ⟨cfm0, cfm1, cfm2, cfm3, cfm4, cfm5, ffm0, ffm1, ffm2, ffm3, ffm4, ffm5⟩ := Xfm.out
      have hnefm : gfm < wr.heap.size := World.block_lt_of_cell? wr _ cfm0
      go_wp2_with fail
      clear cfm0 cfm1 cfm2 cfm3 cfm4 cfm5 ffm0 ffm1 ffm2 ffm3 ffm4 ffm5 hnefm
      refine (HPH.out _).mono ?_
      rintro e v1 ⟨rfl, hb1⟩
      replace Xfm : Hid _ := Xfm.out.below hb1
      replace Xv : Hid _ := Xv.out.below hb1
      replace N1 : Hid (RL v1 p1 m1 b) := N1.out.below hb1
      replace N2 : Hid (RL v1 p2 m2 d) := N2.out.below hb1
      replace hbw := Below.on hbw hb1
      clear hb1
      obtain ⟨cfm0, cfm1, cfm2, cfm3, cfm4, cfm5, ffm0, ffm1, ffm2, ffm3, ffm4, ffm5⟩ := Xfm.out
      have hnefm : gfm < v1.heap.size := World.block_lt_of_cell? v1 _ cfm0
      go_wp2_with fail
      clear cfm0 cfm1 cfm2 cfm3 cfm4 cfm5 ffm0 ffm1 ffm2 ffm3 ffm4 ffm5 hnefm
      obtain ⟨c, hc⟩ : ∃ c, c = cmpN (g (2 * vs H s)) A := ⟨_, rfl⟩
      have HCC : Hid (c = cmpN (g (2 * vs H s)) A) := hc
      clear hc
      obtain ⟨V6, hV6⟩ : ∃ W1, W1 = v1.drew := ⟨_, rfl⟩
      have hbd : Below v1.heap.size v1 V6 := by rw [hV6]; exact bDrew1 (Below.refl _ _)
      replace Xfm : Hid _ := Xfm.out.below hbd
      replace Xv : Hid _ := Xv.out.below hbd
      replace N1 : Hid (RL V6 p1 m1 b) := N1.out.below hbd
      replace N2 : Hid (RL V6 p2 m2 d) := N2.out.below hbd
      replace hbw := Below.on hbw hbd
      clear hbd
      have HJ : Hid ((fun W' : World => W'.cell? ⟨gv, 0, none⟩ = some (.slice p1 m1 m1) ∧ W'.cell? ⟨gv, 1, none⟩ = some (.slice p2 m2 m2) ∧ W'.cell? ⟨gv, 2, none⟩ = some (.int .i64 f) ∧ W'.cell? ⟨gv, 3, none⟩ = some (.bool ro)) V6) := ⟨Xv.out.c0, Xv.out.c1, Xv.out.c2, Xv.out.c3⟩
      refine wp_region_J (fun W' => W'.cell? ⟨gv, 0, none⟩ = some (.slice p1 m1 m1) ∧ W'.cell? ⟨gv, 1, none⟩ = some (.slice p2 m2 m2) ∧ W'.cell? ⟨gv, 2, none⟩ = some (.int .i64 f) ∧ W'.cell? ⟨gv, 3, none⟩ = some (.bool ro)) (by kernel_rfl) ?_
      rw [← hV6]
      clear hV6
      refine wpJ_tq 0 rfl HJ.out ?_
      refine wpJ_tq 1 rfl HJ.out ?_
      refine wpJ_tq 3 rfl HJ.out ?_
      refine wpJ_on 2 rfl fun KJ hK => ?_
      go_simp
      refine (rl_word man (b64_9 (by have := HM.out.1; omega)) _).mono ?_
      rintro en v9 ⟨p9, m9, rfl, hn9, hl9, hb9⟩
      replace Xfm : Hid _ := Xfm.out.below hb9
      replace Xv : Hid _ := Xv.out.below hb9
      replace N1 : Hid (RL v9 p1 m1 b) := N1.out.below hb9
      replace N2 : Hid (RL v9 p2 m2 d) := N2.out.below hb9
      replace hbw := Below.on hbw hb9
      clear hb9
      have N9 : Hid (RL v9 p9 m9 (man)) := hn9
      have HL9 : Hid (m9 ≤ 2) := hl9
      clear hn9 hl9
      refine hK _ _ ⟨Xv.out.c0, Xv.out.c1, Xv.out.c2, Xv.out.c3⟩ ?_
      clear hK
      refine wpJ_on 4 rfl fun KJ hK => ?_
      go_simp
      refine (HO.out man (q + 1) ex _ p9 m9 N9.out N1.out N2.out HL9.out HM.out.2.2.1 (by have := HM.out.2.1; omega)).mono ?_
      rintro e v3 ⟨rfl, hb3⟩
      rw [HM.out.2.2.2, ← HCC.out]
      replace Xfm : Hid _ := Xfm.out.below hb3
      replace Xv : Hid _ := Xv.out.below hb3
      replace N1 : Hid (RL v3 p1 m1 b) := N1.out.below hb3
      replace N2 : Hid (RL v3 p2 m2 d) := N2.out.below hb3
      replace N9 : Hid (RL v3 p9 m9 (man)) := N9.out.below hb3
      replace hbw := Below.on hbw hb3
      clear hb3
      clear HJ
      have HJ : Hid ((fun W' : World => W'.cell? ⟨gv, 0, none⟩ = some (.slice p1 m1 m1) ∧ W'.cell? ⟨gv, 1, none⟩ = some (.slice p2 m2 m2) ∧ W'.cell? ⟨gv, 2, none⟩ = some (.int .i64 f) ∧ W'.cell? ⟨gv, 3, none⟩ = some (.bool ro)) v3) := ⟨Xv.out.c0, Xv.out.c1, Xv.out.c2, Xv.out.c3⟩
      refine hK _ _ HJ.out ?_
      clear hK
      refine wpJ_tq 5 rfl HJ.out ?_
      go_simp
      refine wpJ_done (by kernel_rfl) ?_ _
      clear HJ
      by_cases hv : g (2 * vs H s) ≤ A
      · have hc0 : decide (c ≤ 0) = true := decide_eq_true (by rw [HCC.out]; exact (cmpN_le0 _ _).2 hv)
        have hc1 : c ≤ 0 := of_decide_eq_true hc0
        have HV : Hid (g (2 * vs H s) ≤ A) := hv
        clear hv
        go_wp2_with fail
        go_roundg (hi - s - 1)
        case measure => have := HS.out; omega
        case rel => exact ⟨s, hi, rfl, rfl, by have := HS.out; omega, by have := HS.out; have := HLH.out.1; omega, HV.out, HLH.out.2.2.1, Xfm.out, Xv.out, N1.out, N2.out, hbw⟩
      · have hc0 : decide (c ≤ 0) = false := decide_eq_false (by rw [HCC.out, cmpN_le0]; exact hv)
        have hc1 : ¬ c ≤ 0 := of_decide_eq_false hc0
        have HV : Hid (A < g (2 * vs H s)) := Nat.lt_of_not_le hv
        clear hv
        go_wp2_with fail
        go_roundg (s - lo - 1)
        case measure => have := HS.out; omega
        case rel => exact ⟨lo, s, rfl, rfl, by have := HS.out; omega, by have := HS.out; have := HLH.out.1; omega, HLH.out.2.1, (.inr HV.out), Xfm.out, Xv.out, N1.out, N2.out, hbw⟩
structure Jn (f p m l : Int) (S I H sd : Nat) (Be : Int) : Prop where
  jm : Jm f p m l S I H sd Be
  hI : (I : Int) = (Be - l - sd + 1) * ((2 ^ sd : Nat) : Int)
  hB : 0 < Be - l - sd
  hS : S % 2 = 0
  hB9 : Be - l - sd ≤ 2046
  cl : ∀ (b : Nat) w, b < 2 * S → Calls Tryz.prog 18 #[.int .i64 f, U b] w fun en w' => en = .returned (.tuple #[.int .i64 (clsN H I (b % S)), .int .i64 0]) ∧ Below w.heap.size w w'
theorem jn_32 : Jn 32 32 24 (-149) 2147483648 2139095040 8388608 23 128 := ⟨jm_32, by decide, by decide, by decide, by decide, fun b w hb => clsof_32 b hb w⟩
theorem jn_64 : Jn 64 64 53 (-1074) 9223372036854775808 9218868437227405312 4503599627370496 52 1024 := ⟨jm_64, by decide, by decide, by decide, by decide, fun b w hb => clsof_64 b hb w⟩
def rnp (l : Int) (sd : Nat) (Be : Int) (S I : Nat) (x e : Int) : Nat :=
  if x = 0 then 0 else if x < 0 then S + rnz l sd Be I x.natAbs e else rnz l sd Be I x.natAbs e
theorem RNz.nought {H : Nat} {l : Int} {I : Nat} (hH : 0 < H) (hl : -4194303 ≤ l) : RNz H l I 0 0 := by
  have := RNz.exact (H := H) (l := l) (I := I) (Z := 0) hH hl (Nat.zero_le _)
  rwa [vs_zero, show ((0 : Nat) : Int) = 0 from rfl, dv_zero] at this
theorem mid_dv {H : Nat} {l : Int} (z : Nat) (hl : -4194303 ≤ l) : dv ((2 * (z - (z / H - 1) * H) + 1 : Nat) : Int) (l + ((z / H - 1 : Nat) : Int) - 1) = dv (hv H z : Int) (l - 1) := by
  have h1 := dv_up (x := ((2 * (z - (z / H - 1) * H) + 1 : Nat) : Int)) (e := l - 1) (z / H - 1) (by omega)
  rw [show l - 1 + ((z / H - 1 : Nat) : Int) = l + ((z / H - 1 : Nat) : Int) - 1 from by omega] at h1
  rw [h1, ← Int.natCast_mul]
  congr 2
  unfold hv vs
  rw [Nat.add_mul, Nat.one_mul, Nat.mul_assoc]
theorem RNz.cell {H : Nat} {l : Int} {I : Nat} {A : Int} {Z : Nat} (h : RNz H l I A Z) (h0 : Z ≠ 0) (h1 : Z < I) :
    dv (hv H (Z - 1) : Int) (l - 1) ≤ A ∧ A ≤ dv (hv H Z : Int) (l - 1) ∧ (Z % 2 = 1 → dv (hv H (Z - 1) : Int) (l - 1) < A ∧ A < dv (hv H Z : Int) (l - 1)) := by
  have a1 : ¬ A < dv (hv H (Z - 1) : Int) (l - 1) := fun h2 => by have := h.lo _ (by omega) h2; omega
  have a2 : ¬ dv (hv H Z : Int) (l - 1) < A := fun h2 => by have := h.hi _ h1 h2; omega
  refine ⟨by omega, by omega, fun ho => ⟨?_, ?_⟩⟩
  · rcases Int.lt_or_eq_of_le (Int.not_lt.1 a1) with h2 | h2
    · exact h2
    · have := h.eq (Z - 1) (by omega) h2.symm; omega
  · rcases Int.lt_or_eq_of_le (Int.not_lt.1 a2) with h2 | h2
    · exact h2
    · have := h.eq Z h1 h2; omega
theorem RNz.none {H : Nat} {l : Int} {I : Nat} {A : Int} (h : RNz H l I A 0) (hI : 0 < I) : A ≤ dv (hv H 0 : Int) (l - 1) :=
  Int.not_lt.1 fun h2 => by have := h.hi 0 hI h2; omega
theorem RNz.all {H : Nat} {l : Int} {I : Nat} {A : Int} (h : RNz H l I A I) (hI : 0 < I) : dv (hv H (I - 1) : Int) (l - 1) ≤ A :=
  Int.not_lt.1 fun h2 => by have := h.lo (I - 1) (by omega) h2; omega
theorem dv_iv (s : Bool) (n : Nat) (e : Int) : dv (iv s n) e = if s then - dv (n : Int) e else dv (n : Int) e := by
  cases s
  · rfl
  · rw [iv_t, dv_neg]; rfl
theorem rn_of {f p m l : Int} {S I H sd : Nat} {Be : Int} (J : Jn f p m l S I H sd Be) {n : Nat} {e : Int} (hn : n ≠ 0) (he : -4194304 ≤ e) : RNz H l I (dv n e) (rnz l sd Be I n e) := by
  have := rnz_ok J.hI J.jm.sl.1 J.hB (by have := J.jm.pm.lo; omega) hn he
  rwa [← J.jm.hs] at this
theorem rnp_is {f p m l : Int} {S I H sd : Nat} {Be : Int} (J : Jn f p m l S I H sd Be) (x e : Int) (he : -4194304 ≤ e) :
    ∃ Z, Z ≤ I ∧ RNz H l I (dv x.natAbs e) Z ∧ rnp l sd Be S I x e = (if x < 0 then S + Z else Z) ∧ rnp l sd Be S I x e < 2 * S ∧ rnp l sd Be S I x e % S = Z ∧ decide (S ≤ rnp l sd Be S I x e) = decide (x < 0) ∧ rnp l sd Be S I x e % 2 = Z % 2 := by
  have hlt := J.jm.pm.fm.lt
  have hS := J.hS
  by_cases h0 : x = 0
  · refine ⟨0, by omega, ?_, ?_⟩
    · rw [h0]
      have : dv ((0 : Int).natAbs : Int) e = 0 := dv_zero e
      rw [this]
      exact RNz.nought J.jm.pm.hp (by have := J.jm.pm.lo; omega)
    · unfold rnp
      rw [if_pos h0, if_neg (by omega)]
      exact ⟨rfl, by omega, Nat.zero_mod _, by rw [decide_eq_false (by omega), decide_eq_false (by omega)], rfl⟩
  · have hR := rn_of J (n := x.natAbs) (e := e) (by omega) he
    obtain ⟨Z, hZ⟩ : ∃ Z, Z = rnz l sd Be I x.natAbs e := ⟨_, rfl⟩
    rw [← hZ] at hR
    refine ⟨Z, hR.le, hR, ?_⟩
    unfold rnp
    rw [if_neg h0, ← hZ]
    have hle := hR.le
    by_cases hx : x < 0
    · rw [if_pos hx]
      refine ⟨rfl, by omega, ?_, ?_, by omega⟩
      · rw [Nat.add_mod_left, Nat.mod_eq_of_lt (by omega)]
      · rw [decide_eq_true hx, decide_eq_true (by omega)]
    · rw [if_neg hx]
      refine ⟨rfl, by omega, Nat.mod_eq_of_lt (by omega), ?_, rfl⟩
      rw [decide_eq_false hx, decide_eq_false (by omega)]
def cLo (H : Nat) (l : Int) (s : Bool) (z : Nat) : Int := if s then - dv (hv H z : Int) (l - 1) else dv (hv H (z - 1) : Int) (l - 1)
def cHi (H : Nat) (l : Int) (s : Bool) (z : Nat) : Int := if s then - dv (hv H (z - 1) : Int) (l - 1) else dv (hv H z : Int) (l - 1)
theorem Own.word {B : Nat} {w : World} {p : Option Addr} {m y : Nat} {zs : List Nat} (ho : Own B w p m zs) (hn : Nf B64 zs y) (hy : y < B64) :
    (y = 0 ∧ m = 0) ∨ (y ≠ 0 ∧ m = 1 ∧ ∃ g, p = some ⟨g, 0, none⟩ ∧ B ≤ g ∧ w.cell? ⟨g, 0, none⟩ = some (U y)) := by
  have hl := ho.len
  have h1 : zs.length ≤ 1 := (hn.len_le B64_one (k := 1)).2 (by rw [Nat.pow_one]; exact hy)
  rcases Nat.eq_zero_or_pos m with h0 | h0
  · left
    rw [h0] at hl
    have := hn.val
    rw [List.eq_nil_of_length_eq_zero hl] at this
    exact ⟨this.symm, h0⟩
  · right
    have hm1 : m = 1 := by omega
    subst hm1
    obtain ⟨a, rfl⟩ : ∃ a, zs = [a] := List.length_eq_one_iff.1 hl
    have hv : a = y := by have := hn.val; simpa [valB] using this
    obtain ⟨g, hp, hB, hc⟩ := ho.mem.resolve_left (by omega)
    refine ⟨?_, rfl, g, hp, hB, ?_⟩
    · intro h9
      have h8 : ([a] : List Nat) = [] := hn.inj B64_one (by rw [h9]; exact Nf.nil _)
      cases h8
    · have := hc.cell 0 (by omega)
      rw [Nat.add_zero] at this
      rw [this]
      simp [hv]
theorem multiple_n {p : Option Addr} {m c : Nat} {w : World} {x : Int} {s : Bool} (h : ZN w s p m c x) (k r : Nat) (n : Int) (hn : n = -(k : Int)) (hk : 0 < k ∧ k ≤ 4611686018427387904) (hr : r = neN x.natAbs (2 ^ k)) (hl : r < B64) (hT : Tab w) :
    Calls Tryz.prog 50 #[ZV s p m c, .int .i64 n] w fun en w' => en = .returned (U r) ∧ Below w.heap.size w w' := by
  have H : Hid (ZN w s p m c x) := h
  have HV : Hid (r < B64 ∧ r = neN x.natAbs (2 ^ k) ∧ k ≤ 9223372036854775807) := ⟨hl, hr, by omega⟩
  have TB : Hid (Tab w) := hT
  have d1 : decide (n < 0) = true := decide_eq_true (by omega)
  have d2 : wrap64 (-n) = (k : Int) := by rw [hn]; simp only [wrap64]; omega
  have d3 : IntKind.i64.wrap (-n) = (k : Int) := by rw [hn]; simp [IntKind.wrap, IntKind.signed, IntKind.bits]; omega
  clear h hr hl hT hn hk
  go_enter Tryz.func50, Tryz.ntmps50
  go_wp2_with fail
  obtain ⟨W0, hW0⟩ : ∃ W0, W0 = (w.alloc (.cells #[.bool s, .slice p m c] 31)) := ⟨_, rfl⟩
  have Xm : Hid (Box W0 (w.heap.size) (.bool s) (.slice p m c)) := by rw [hW0]; exact ⟨by go_simp, by go_simp, by go_simp, by go_simp⟩
  have hb0 : Below w.heap.size w W0 := by rw [hW0]; exact below1 w _
  rw [← hW0]
  clear hW0
  have hbw : Below w.heap.size w w := Below.refl _ _
  obtain ⟨gm, hgm⟩ : ∃ g, g = w.heap.size := ⟨_, rfl⟩
  have HGm : Hid (w.heap.size ≤ gm) := by rw [hgm]; show _ ≤ _; omega
  rw [← hgm] at Xm
  try rw [← hgm]
  clear hgm
  replace hbw := Below.on hbw hb0
  clear hb0
  have HL : Hid (gm < W0.heap.size) := Xm.out.lt
  obtain ⟨xs, hX⟩ := (H.out.below hbw).ex
  refine (rshr_any s hX H.out.pos k HV.out.2.2 (TB.out.below hbw)).mono ?_
  rintro e2 v1 ⟨v, rfl, hv, hb1⟩
  obtain ⟨p1, m1, z1, rfl, ho1, hn1, hm1⟩ := hv
  rw [show (ne s x.natAbs (2 ^ k)).natAbs = r from by rw [HV.out.2.1]; exact iv_natAbs _ _] at hn1
  generalize decide (ne s x.natAbs (2 ^ k) < 0) = s1
  clear hX
  replace Xm : Hid _ := Xm.out.below hb1
  replace hbw := Below.on hbw hb1
  clear hb1
  have HO : Hid (Own W0.heap.size v1 p1 m1 z1) := ho1
  have HN : Hid (Nf B64 z1 r ∧ m1 ≤ 8192) := ⟨hn1, hm1⟩
  clear ho1 hn1 hm1
  rcases HO.out.word HN.out.1 HV.out.1 with ⟨h0, h1⟩ | ⟨h0, h1, g1, h2, hg1, h3⟩
  · subst h1
    have hr0 : r = 0 := h0
    clear HV
    subst hr0
    obtain ⟨cm0, cm1, fm0, fm1⟩ := Xm.out
    have hnem := Xm.out.lt
    go_wp2_with fail
    go_ret
    exact ⟨rfl, bSet (bSet hbw _ _ _ HGm.out) _ _ _ HGm.out⟩
  · subst h1
    subst h2
    have hgm : gm ≠ g1 := by have := HL.out; omega
    have hgm2 : g1 ≠ gm := fun h => hgm h.symm
    have hg2 : g1 < v1.heap.size := World.block_lt_of_cell? v1 _ h3
    obtain ⟨cm0, cm1, fm0, fm1⟩ := Xm.out
    have hnem := Xm.out.lt
    go_wp2_with fail
    go_ret
    exact ⟨rfl, bSet (bSet hbw _ _ _ HGm.out) _ _ _ HGm.out⟩
theorem multiple_p {p : Option Addr} {m c : Nat} {w : World} {x : Int} {s : Bool} (h : ZN w s p m c x) (k r : Nat) (n : Int) (hn : n = (k : Int)) (hk : k ≤ 4611686018427387904) (hr : r = x.natAbs * 2 ^ k) (hl : r < B64) :
    Calls Tryz.prog 50 #[ZV s p m c, .int .i64 n] w fun en w' => en = .returned (U r) ∧ Below w.heap.size w w' := by
  have H : Hid (ZN w s p m c x) := h
  have HV : Hid (r < B64 ∧ r = x.natAbs * 2 ^ k ∧ k ≤ 9223372036854775807) := ⟨hl, hr, by omega⟩
  have d1 : decide (n < 0) = false := decide_eq_false (by omega)
  subst hn
  clear h hr hl hk
  go_enter Tryz.func50, Tryz.ntmps50
  go_wp2_with fail
  obtain ⟨W0, hW0⟩ : ∃ W0, W0 = (w.alloc (.cells #[.bool s, .slice p m c] 31)) := ⟨_, rfl⟩
  have Xm : Hid (Box W0 (w.heap.size) (.bool s) (.slice p m c)) := by rw [hW0]; exact ⟨by go_simp, by go_simp, by go_simp, by go_simp⟩
  have hb0 : Below w.heap.size w W0 := by rw [hW0]; exact below1 w _
  rw [← hW0]
  clear hW0
  have hbw : Below w.heap.size w w := Below.refl _ _
  obtain ⟨gm, hgm⟩ : ∃ g, g = w.heap.size := ⟨_, rfl⟩
  have HGm : Hid (w.heap.size ≤ gm) := by rw [hgm]; show _ ≤ _; omega
  rw [← hgm] at Xm
  try rw [← hgm]
  clear hgm
  replace hbw := Below.on hbw hb0
  clear hb0
  have HL : Hid (gm < W0.heap.size) := Xm.out.lt
  obtain ⟨xs, hX⟩ := (H.out.below hbw).ex
  refine (nshl_any s hX H.out.pos k HV.out.2.2).mono ?_
  rintro e2 v1 ⟨ha, hb1⟩
  obtain ⟨p1, m1, z1, rfl, ho1, hn1, hm1⟩ := ha.ok (lt_LIM (L := 64) (by rw [iv_natAbs, Nat.mul_comm, ← HV.out.2.1]; exact HV.out.1) (by decide))
  clear ha
  rw [show (iv s (2 ^ k * x.natAbs)).natAbs = r from by rw [iv_natAbs, HV.out.2.1, Nat.mul_comm]] at hn1
  generalize decide (iv s (2 ^ k * x.natAbs) < 0) = s1
  clear hX
  replace Xm : Hid _ := Xm.out.below hb1
  replace hbw := Below.on hbw hb1
  clear hb1
  have HO : Hid (Own W0.heap.size v1 p1 m1 z1) := ho1
  have HN : Hid (Nf B64 z1 r ∧ m1 ≤ 8192) := ⟨hn1, hm1⟩
  clear ho1 hn1 hm1
  rcases HO.out.word HN.out.1 HV.out.1 with ⟨h0, h1⟩ | ⟨h0, h1, g1, h2, hg1, h3⟩
  · subst h1
    have hr0 : r = 0 := h0
    clear HV
    subst hr0
    obtain ⟨cm0, cm1, fm0, fm1⟩ := Xm.out
    have hnem := Xm.out.lt
    go_wp2_with fail
    go_ret
    exact ⟨rfl, bSet (bSet hbw _ _ _ HGm.out) _ _ _ HGm.out⟩
  · subst h1
    subst h2
    have hgm : gm ≠ g1 := by have := HL.out; omega
    have hgm2 : g1 ≠ gm := fun h => hgm h.symm
    have hg2 : g1 < v1.heap.size := World.block_lt_of_cell? v1 _ h3
    obtain ⟨cm0, cm1, fm0, fm1⟩ := Xm.out
    have hnem := Xm.out.lt
    go_wp2_with fail
    go_ret
    exact ⟨rfl, bSet (bSet hbw _ _ _ HGm.out) _ _ _ HGm.out⟩
theorem nearest_z {f p m l : Int} {S I H sd : Nat} {Be : Int} (_J : Jn f p m l S I H sd Be) {q : Option Addr} {n c : Nat} {w : World} {x e : Int} {s : Bool} (h : ZN w s q n c x) (h0 : x = 0) :
    Calls Tryz.prog 23 #[WV p m l, ZV s q n c, .int .i64 e] w fun en w' => en = .returned (U (rnp l sd Be S I x e)) ∧ Below w.heap.size w w' := by
  have HZN : Hid (ZN w s q n c x) := h
  have h1 : rnp l sd Be S I x e = 0 := by unfold rnp; rw [if_pos h0]
  have HS : Hid (sgnI x = 0) := by rw [h0]; rfl
  rw [h1]
  clear _J h h0 h1
  go_enter Tryz.func23, Tryz.ntmps23
  go_wp2_with fail
  obtain ⟨W0, hW0⟩ : ∃ W0, W0 = ((w.alloc (.cells #[.int .i64 p, .int .i64 m, .int .i64 l] 47)).alloc (.cells #[.bool s, .slice q n c] 31)) := ⟨_, rfl⟩
  have Xg : Hid (B3q W0 (w.heap.size) (.int .i64 p) (.int .i64 m) (.int .i64 l)) := by rw [hW0]; exact ⟨by go_simp, by go_simp, by go_simp, by go_simp, by go_simp, by go_simp⟩
  have Xm : Hid (Box W0 (w.heap.size + 1) (.bool s) (.slice q n c)) := by rw [hW0]; exact ⟨by go_simp, by go_simp, by go_simp, by go_simp⟩
  have hb0 : Below w.heap.size w W0 := by rw [hW0]; exact below2 w _ _
  rw [← hW0]
  clear hW0
  have hbw : Below w.heap.size w w := Below.refl _ _
  obtain ⟨gm, hgm⟩ : ∃ g, g = w.heap.size + 1 := ⟨_, rfl⟩
  have HGm : Hid (w.heap.size ≤ gm) := by rw [hgm]; show _ ≤ _; omega
  rw [← hgm] at Xm
  try rw [← hgm]
  obtain ⟨gg, hgg⟩ : ∃ g, g = w.heap.size := ⟨_, rfl⟩
  have HGg : Hid (w.heap.size ≤ gg) := by rw [hgg]; show _ ≤ _; omega
  rw [← hgg] at Xg
  try rw [← hgg]
  have HGD : Hid (gg ≠ gm ∧ gm ≠ gg) := by rw [hgg, hgm]; exact ⟨by omega, by omega⟩
  clear hgg hgm
  replace hbw := Below.on hbw hb0
  clear hb0
  refine (zsign (HZN.out.below hbw)).mono ?_
  rintro e v1 ⟨rfl, hb1⟩
  rw [HS.out]
  replace Xg : Hid _ := Xg.out.below hb1
  replace Xm : Hid _ := Xm.out.below hb1
  replace hbw := Below.on hbw hb1
  clear hb1
  obtain ⟨cm0, cm1, fm0, fm1⟩ := Xm.out
  have hnem := Xm.out.lt
  go_wp2_with fail
  clear cm0 cm1 fm0 fm1 hnem
  go_ret
  exact ⟨rfl, hbw⟩
theorem nearest_b {f p m l : Int} {S I H sd : Nat} {Be : Int} (J : Jn f p m l S I H sd Be) {q : Option Addr} {n c : Nat} {w : World} {x e : Int} {s : Bool} (h : ZN w s q n c x) (he : -4194304 ≤ e ∧ e ≤ 4194304) (h0 : x ≠ 0) (ht : Be ≤ e + bitsN x.natAbs - 1) :
    Calls Tryz.prog 23 #[WV p m l, ZV s q n c, .int .i64 e] w fun en w' => en = .returned (U (rnp l sd Be S I x e)) ∧ Below w.heap.size w w' := by
  have HZN : Hid (ZN w s q n c x) := h
  have HJN : Hid (Jn f p m l S I H sd Be) := J
  have hsg : (sgnI x == 0) = false := by
    have : sgnI x ≠ 0 := by rcases sgn3 x with ⟨_, h2⟩ | ⟨h1, _⟩ | ⟨_, h2⟩ <;> omega
    simp [this]
  obtain ⟨sx, hsx⟩ : ∃ sx, sx = sgnI x := ⟨_, rfl⟩
  rw [← hsx] at hsg
  have HSX : Hid (sgnI x = sx) := hsx.symm
  have hbn := (lim_bits x.natAbs).1 h.lim
  have hb0 := bitsN_pos (a := x.natAbs) (by omega)
  have hB1 := bitsN_lt x.natAbs
  have hB2 := bitsN_le x.natAbs (by omega)
  obtain ⟨L, hL⟩ : ∃ L, L = bitsN x.natAbs := ⟨_, rfl⟩
  rw [← hL] at ht
  have HLB : Hid (bitsN x.natAbs = L) := hL.symm
  obtain ⟨s1, hs1⟩ : ∃ s1 : Int, s1 = e + L := ⟨_, rfl⟩
  obtain ⟨top, htop⟩ : ∃ t : Int, t = s1 - 1 := ⟨_, rfl⟩
  rw [← hL] at hbn hb0 hB1 hB2
  have a1 : wrap64 (e + (L : Int)) = s1 := by rw [hs1]; simp only [wrap64]; omega
  have a2 : IntKind.i64.wrap (e + (L : Int)) = s1 := by rw [hs1]; simp [IntKind.wrap, IntKind.signed, IntKind.bits]; omega
  have a3 : wrap64 (s1 - 1) = top := by rw [htop]; simp only [wrap64]; omega
  have a4 : IntKind.i64.wrap (s1 - 1) = top := by rw [htop]; simp [IntKind.wrap, IntKind.signed, IntKind.bits]; omega
  have hneg : decide (x < 0) = s := h.sg.symm
  have d1 : decide (Be ≤ top) = true := decide_eq_true (by omega)
  obtain ⟨r, hr⟩ : ∃ r, r = rnp l sd Be S I x e := ⟨_, rfl⟩
  have HR : Hid ((if s then S + I else I) = r) := by
    show (if s then S + I else I) = r
    rw [hr]; unfold rnp rnz
    rw [if_neg h0, ← hL, if_pos (show Be ≤ e + L - 1 by omega), ← hneg]
    by_cases hx : x < 0
    · rw [decide_eq_true hx, if_pos rfl, if_pos hx]
    · rw [decide_eq_false hx, if_neg (by simp), if_neg hx]
  have HIS : Hid (I < S) := J.jm.pm.fm.lt
  rw [← hr]
  clear J h h0 hsx hbn hb0 hB1 hB2 hL hs1 htop hneg hr ht he
  go_enter Tryz.func23, Tryz.ntmps23
  go_wp2_with fail
  obtain ⟨W0, hW0⟩ : ∃ W0, W0 = ((w.alloc (.cells #[.int .i64 p, .int .i64 m, .int .i64 l] 47)).alloc (.cells #[.bool s, .slice q n c] 31)) := ⟨_, rfl⟩
  have Xg : Hid (B3q W0 (w.heap.size) (.int .i64 p) (.int .i64 m) (.int .i64 l)) := by rw [hW0]; exact ⟨by go_simp, by go_simp, by go_simp, by go_simp, by go_simp, by go_simp⟩
  have Xm : Hid (Box W0 (w.heap.size + 1) (.bool s) (.slice q n c)) := by rw [hW0]; exact ⟨by go_simp, by go_simp, by go_simp, by go_simp⟩
  have hb0 : Below w.heap.size w W0 := by rw [hW0]; exact below2 w _ _
  rw [← hW0]
  clear hW0
  have hbw : Below w.heap.size w w := Below.refl _ _
  obtain ⟨gm, hgm⟩ : ∃ g, g = w.heap.size + 1 := ⟨_, rfl⟩
  have HGm : Hid (w.heap.size ≤ gm) := by rw [hgm]; show _ ≤ _; omega
  rw [← hgm] at Xm
  try rw [← hgm]
  obtain ⟨gg, hgg⟩ : ∃ g, g = w.heap.size := ⟨_, rfl⟩
  have HGg : Hid (w.heap.size ≤ gg) := by rw [hgg]; show _ ≤ _; omega
  rw [← hgg] at Xg
  try rw [← hgg]
  have HGD : Hid (gg ≠ gm ∧ gm ≠ gg) := by rw [hgg, hgm]; exact ⟨by omega, by omega⟩
  clear hgg hgm
  replace hbw := Below.on hbw hb0
  clear hb0
  refine (zsign (HZN.out.below hbw)).mono ?_
  rintro e v1 ⟨rfl, hb1⟩
  rw [HSX.out]
  replace Xg : Hid _ := Xg.out.below hb1
  replace Xm : Hid _ := Xm.out.below hb1
  replace hbw := Below.on hbw hb1
  clear hb1
  obtain ⟨cm0, cm1, fm0, fm1⟩ := Xm.out
  have hnem := Xm.out.lt
  go_wp2_with fail
  clear cm0 cm1 fm0 fm1 hnem
  obtain ⟨xs, hX⟩ := (HZN.out.below hbw).ex
  refine (bits_any hX.at_ (by have := hX.le; omega)).mono ?_
  rintro e2 v2 ⟨rfl, hw⟩
  obtain rfl := hw.symm
  clear hw
  rw [hX.nf.val, HLB.out]
  clear hX
  obtain ⟨cg0, cg1, cg2, fg0, fg1, fg2⟩ := Xg.out
  have hneg : gg < v1.heap.size := World.block_lt_of_cell? v1 _ cg0
  go_wp2_with fail
  clear cg0 cg1 cg2 fg0 fg1 fg2 hneg
  refine (HJN.out.jm.be _).mono ?_
  rintro e v3 ⟨rfl, hb3⟩
  replace Xg : Hid _ := Xg.out.below hb3
  replace Xm : Hid _ := Xm.out.below hb3
  replace hbw := Below.on hbw hb3
  clear hb3
  obtain ⟨cg0, cg1, cg2, fg0, fg1, fg2⟩ := Xg.out
  have hneg : gg < v3.heap.size := World.block_lt_of_cell? v3 _ cg0
  obtain ⟨cm0, cm1, fm0, fm1⟩ := Xm.out
  have hnem := Xm.out.lt
  go_wp2_with fail
  clear cg0 cg1 cg2 fg0 fg1 fg2 hneg
  clear cm0 cm1 fm0 fm1 hnem
  obtain ⟨W5, hW5⟩ : ∃ W1, W1 = v3.drew := ⟨_, rfl⟩
  have hbd : Below v3.heap.size v3 W5 := by rw [hW5]; exact bDrew1 (Below.refl _ _)
  replace Xg : Hid _ := Xg.out.below hbd
  replace Xm : Hid _ := Xm.out.below hbd
  replace hbw := Below.on hbw hbd
  clear hbd
  have HJ : Hid ((fun W' : World => W'.cell? ⟨gg, 0, none⟩ = some (.int .i64 p) ∧ W'.cell? ⟨gg, 1, none⟩ = some (.int .i64 m) ∧ W'.cell? ⟨gg, 2, none⟩ = some (.int .i64 l) ∧ W'.cell? ⟨gm, 0, none⟩ = some (.bool s)) W5) := ⟨Xg.out.c0, Xg.out.c1, Xg.out.c2, Xm.out.c0⟩
  refine wp_region_J (fun W' => W'.cell? ⟨gg, 0, none⟩ = some (.int .i64 p) ∧ W'.cell? ⟨gg, 1, none⟩ = some (.int .i64 m) ∧ W'.cell? ⟨gg, 2, none⟩ = some (.int .i64 l) ∧ W'.cell? ⟨gm, 0, none⟩ = some (.bool s)) (by kernel_rfl) ?_
  rw [← hW5]
  clear hW5
  refine wpJ_tq 0 rfl HJ.out ?_
  refine wpJ_tq 1 rfl HJ.out ?_
  refine wpJ_tq 2 rfl HJ.out ?_
  refine wpJ_tq 3 rfl HJ.out ?_
  refine wpJ_on 4 rfl fun KJ hK => ?_
  go_simp
  refine (HJN.out.jm.pm.fm.inf _).mono ?_
  rintro e v5 ⟨rfl, hb5⟩
  replace Xg : Hid _ := Xg.out.below hb5
  replace Xm : Hid _ := Xm.out.below hb5
  replace hbw := Below.on hbw hb5
  clear hb5
  refine hK _ _ ⟨Xg.out.c0, Xg.out.c1, Xg.out.c2, Xm.out.c0⟩ ?_
  clear hK
  refine wpJ_on 5 rfl fun KJ hK => ?_
  go_simp
  refine (HJN.out.jm.pm.fm.sgn s I _ HIS.out).mono ?_
  rintro e v6 ⟨rfl, hb6⟩
  rw [HR.out]
  replace Xg : Hid _ := Xg.out.below hb6
  replace Xm : Hid _ := Xm.out.below hb6
  replace hbw := Below.on hbw hb6
  clear hb6
  clear HJ
  have HJ : Hid ((fun W' : World => W'.cell? ⟨gg, 0, none⟩ = some (.int .i64 p) ∧ W'.cell? ⟨gg, 1, none⟩ = some (.int .i64 m) ∧ W'.cell? ⟨gg, 2, none⟩ = some (.int .i64 l) ∧ W'.cell? ⟨gm, 0, none⟩ = some (.bool s)) v6) := ⟨Xg.out.c0, Xg.out.c1, Xg.out.c2, Xm.out.c0⟩
  refine hK _ _ HJ.out ?_
  clear hK
  refine wpJ_tq 6 rfl HJ.out ?_
  refine wpJ_done (by kernel_rfl) ?_ _
  clear HJ
  go_wp2_with fail
  go_ret
  exact ⟨rfl, hbw⟩
theorem nearest_n {f p m l : Int} {S I H sd : Nat} {Be : Int} (J : Jn f p m l S I H sd Be) {q : Option Addr} {n c : Nat} {w : World} {x e : Int} {s : Bool} (h : ZN w s q n c x) (he : -4194304 ≤ e ∧ e ≤ 4194304) (h0 : x ≠ 0) (ht : ¬ Be ≤ e + bitsN x.natAbs - 1) (heu : e < max (e + bitsN x.natAbs - 1 - sd) l) (hT : Tab w) :
    Calls Tryz.prog 23 #[WV p m l, ZV s q n c, .int .i64 e] w fun en w' => en = .returned (U (rnp l sd Be S I x e)) ∧ Below w.heap.size w w' := by
  have HZN : Hid (ZN w s q n c x) := h
  have HJN : Hid (Jn f p m l S I H sd Be) := J
  have hsg : (sgnI x == 0) = false := by
    have : sgnI x ≠ 0 := by rcases sgn3 x with ⟨_, h2⟩ | ⟨h1, _⟩ | ⟨_, h2⟩ <;> omega
    simp [this]
  obtain ⟨sx, hsx⟩ : ∃ sx, sx = sgnI x := ⟨_, rfl⟩
  rw [← hsx] at hsg
  have HSX : Hid (sgnI x = sx) := hsx.symm
  have hbn := (lim_bits x.natAbs).1 h.lim
  have hb0 := bitsN_pos (a := x.natAbs) (by omega)
  have hB1 := bitsN_lt x.natAbs
  have hB2 := bitsN_le x.natAbs (by omega)
  obtain ⟨L, hL⟩ : ∃ L, L = bitsN x.natAbs := ⟨_, rfl⟩
  rw [← hL] at ht heu
  have HLB : Hid (bitsN x.natAbs = L) := hL.symm
  obtain ⟨s1, hs1⟩ : ∃ s1 : Int, s1 = e + L := ⟨_, rfl⟩
  obtain ⟨top, htop⟩ : ∃ t : Int, t = s1 - 1 := ⟨_, rfl⟩
  rw [← hL] at hbn hb0 hB1 hB2
  have a1 : wrap64 (e + (L : Int)) = s1 := by rw [hs1]; simp only [wrap64]; omega
  have a2 : IntKind.i64.wrap (e + (L : Int)) = s1 := by rw [hs1]; simp [IntKind.wrap, IntKind.signed, IntKind.bits]; omega
  have a3 : wrap64 (s1 - 1) = top := by rw [htop]; simp only [wrap64]; omega
  have a4 : IntKind.i64.wrap (s1 - 1) = top := by rw [htop]; simp [IntKind.wrap, IntKind.signed, IntKind.bits]; omega
  have hneg : decide (x < 0) = s := h.sg.symm
  have d1 : decide (Be ≤ top) = false := decide_eq_false (by omega)
  have hRN := rn_of J (n := x.natAbs) (e := e) (by omega) he.1
  have hsl := J.jm.sl
  have hlo := J.jm.pm.lo
  have h9 := J.jm.pm.h9
  have hbu := J.jm.bu
  have hlt := J.jm.pm.fm.lt
  obtain ⟨u, hu⟩ : ∃ u : Int, u = max (top - sd) l := ⟨_, rfl⟩
  obtain ⟨k, hk⟩ : ∃ k : Nat, k = (u - e).toNat := ⟨_, rfl⟩
  obtain ⟨Q, hQ⟩ : ∃ Q : Nat, Q = (u - l).toNat := ⟨_, rfl⟩
  obtain ⟨y, hy⟩ : ∃ y : Nat, y = neN x.natAbs (2 ^ k) := ⟨_, rfl⟩
  obtain ⟨nn, hnn⟩ : ∃ nn : Int, nn = e - u := ⟨_, rfl⟩
  have hrz : rnz l sd Be I x.natAbs e = Q * H + y := by
    unfold rnz
    rw [← hL, if_neg (show ¬ Be ≤ e + L - 1 by omega), show e + (L : Int) - 1 - sd = top - sd from by omega, ← hu, ← hQ, ← J.jm.hs, if_pos (show e < u by omega), ← hk, ← hy]
  have hy2 : y ≤ 2 * H := by
    have g1 := hRN.le
    rw [hrz] at g1
    have g2 : y = x.natAbs / 2 ^ k + (neUp x.natAbs (2 ^ k)).toNat := by rw [hy]; rfl
    have g3 := Bool.toNat_le (neUp x.natAbs (2 ^ k))
    have g4 : x.natAbs / 2 ^ k < 2 * H := by
      refine Nat.div_lt_of_lt_mul (Nat.lt_of_lt_of_le hB1 ?_)
      rw [J.jm.hs, ← Nat.pow_succ', ← Nat.pow_add]
      exact Nat.pow_le_pow_right (by omega) (by omega)
    omega
  obtain ⟨r, hr⟩ : ∃ r, r = rnp l sd Be S I x e := ⟨_, rfl⟩
  have hQB : (Q : Int) < Be - l - sd := by have := J.hB; omega
  have HR : Hid ((if s then S + (Q * H + y) else Q * H + y) = r ∧ Q * H + y < S) := by
    refine ⟨?_, by rw [← hrz]; exact Nat.lt_of_le_of_lt hRN.le hlt⟩
    rw [hr]; unfold rnp
    rw [if_neg h0, hrz, ← hneg]
    by_cases hx : x < 0
    · rw [decide_eq_true hx, if_pos rfl, if_pos hx]
    · rw [decide_eq_false hx, if_neg (by simp), if_neg hx]
  have HTP : Hid (-1000000000000 ≤ top ∧ top ≤ 5000 ∧ max (top - sd) l = u) := ⟨by omega, by omega, hu.symm⟩
  have HSZ : Hid (u = l + Q ∧ Q < 2046 ∧ (Q : Int) < Be - l - sd ∧ y ≤ 2 * H) := ⟨by omega, by have := J.hB9; omega, hQB, hy2⟩
  have HMU : Hid (nn = -(k : Int) ∧ (0 < k ∧ k ≤ 4611686018427387904) ∧ y = neN x.natAbs (2 ^ k) ∧ y < B64) := ⟨by omega, by omega, hy, by rw [B64_eq]; omega⟩
  have a5 : wrap64 (e - u) = nn := by rw [hnn]; simp only [wrap64]; omega
  have a6 : IntKind.i64.wrap (e - u) = nn := by rw [hnn]; simp [IntKind.wrap, IntKind.signed, IntKind.bits]; omega
  rw [← hr]
  have TB : Hid (Tab w) := hT
  clear J h h0 hT hsx hbn hb0 hB1 hB2 hL hs1 htop hneg hr ht he hRN hsl hlo h9 hbu hlt hu hk hQ hy hnn hrz hy2 hQB heu
  go_enter Tryz.func23, Tryz.ntmps23
  go_wp2_with fail
  obtain ⟨W0, hW0⟩ : ∃ W0, W0 = ((w.alloc (.cells #[.int .i64 p, .int .i64 m, .int .i64 l] 47)).alloc (.cells #[.bool s, .slice q n c] 31)) := ⟨_, rfl⟩
  have Xg : Hid (B3q W0 (w.heap.size) (.int .i64 p) (.int .i64 m) (.int .i64 l)) := by rw [hW0]; exact ⟨by go_simp, by go_simp, by go_simp, by go_simp, by go_simp, by go_simp⟩
  have Xm : Hid (Box W0 (w.heap.size + 1) (.bool s) (.slice q n c)) := by rw [hW0]; exact ⟨by go_simp, by go_simp, by go_simp, by go_simp⟩
  have hb0 : Below w.heap.size w W0 := by rw [hW0]; exact below2 w _ _
  rw [← hW0]
  clear hW0
  have hbw : Below w.heap.size w w := Below.refl _ _
  obtain ⟨gm, hgm⟩ : ∃ g, g = w.heap.size + 1 := ⟨_, rfl⟩
  have HGm : Hid (w.heap.size ≤ gm) := by rw [hgm]; show _ ≤ _; omega
  rw [← hgm] at Xm
  try rw [← hgm]
  obtain ⟨gg, hgg⟩ : ∃ g, g = w.heap.size := ⟨_, rfl⟩
  have HGg : Hid (w.heap.size ≤ gg) := by rw [hgg]; show _ ≤ _; omega
  rw [← hgg] at Xg
  try rw [← hgg]
  have HGD : Hid (gg ≠ gm ∧ gm ≠ gg) := by rw [hgg, hgm]; exact ⟨by omega, by omega⟩
  clear hgg hgm
  replace hbw := Below.on hbw hb0
  clear hb0
  refine (zsign (HZN.out.below hbw)).mono ?_
  rintro e v1 ⟨rfl, hb1⟩
  rw [HSX.out]
  replace Xg : Hid _ := Xg.out.below hb1
  replace Xm : Hid _ := Xm.out.below hb1
  replace hbw := Below.on hbw hb1
  clear hb1
  obtain ⟨cm0, cm1, fm0, fm1⟩ := Xm.out
  have hnem := Xm.out.lt
  go_wp2_with fail
  clear cm0 cm1 fm0 fm1 hnem
  obtain ⟨xs, hX⟩ := (HZN.out.below hbw).ex
  refine (bits_any hX.at_ (by have := hX.le; omega)).mono ?_
  rintro e2 v2 ⟨rfl, hw⟩
  obtain rfl := hw.symm
  clear hw
  rw [hX.nf.val, HLB.out]
  clear hX
  obtain ⟨cg0, cg1, cg2, fg0, fg1, fg2⟩ := Xg.out
  have hneg : gg < v1.heap.size := World.block_lt_of_cell? v1 _ cg0
  go_wp2_with fail
  clear cg0 cg1 cg2 fg0 fg1 fg2 hneg
  refine (HJN.out.jm.be _).mono ?_
  rintro e v3 ⟨rfl, hb3⟩
  replace Xg : Hid _ := Xg.out.below hb3
  replace Xm : Hid _ := Xm.out.below hb3
  replace hbw := Below.on hbw hb3
  clear hb3
  obtain ⟨cg0, cg1, cg2, fg0, fg1, fg2⟩ := Xg.out
  have hneg : gg < v3.heap.size := World.block_lt_of_cell? v3 _ cg0
  obtain ⟨cm0, cm1, fm0, fm1⟩ := Xm.out
  have hnem := Xm.out.lt
  go_wp2_with fail
  clear cg0 cg1 cg2 fg0 fg1 fg2 hneg
  clear cm0 cm1 fm0 fm1 hnem
  refine (HJN.out.jm.un top _ HTP.out.1 HTP.out.2.1).mono ?_
  rintro e v4 ⟨rfl, hb4⟩
  rw [HTP.out.2.2]
  replace Xg : Hid _ := Xg.out.below hb4
  replace Xm : Hid _ := Xm.out.below hb4
  replace hbw := Below.on hbw hb4
  clear hb4
  obtain ⟨cg0, cg1, cg2, fg0, fg1, fg2⟩ := Xg.out
  have hneg : gg < v4.heap.size := World.block_lt_of_cell? v4 _ cg0
  obtain ⟨cm0, cm1, fm0, fm1⟩ := Xm.out
  have hnem := Xm.out.lt
  go_wp2_with fail
  clear cg0 cg1 cg2 fg0 fg1 fg2 hneg
  clear cm0 cm1 fm0 fm1 hnem
  obtain ⟨W5, hW5⟩ : ∃ W1, W1 = v4.drew := ⟨_, rfl⟩
  have hbd : Below v4.heap.size v4 W5 := by rw [hW5]; exact bDrew1 (Below.refl _ _)
  replace Xg : Hid _ := Xg.out.below hbd
  replace Xm : Hid _ := Xm.out.below hbd
  replace hbw := Below.on hbw hbd
  clear hbd
  have HJ : Hid ((fun W' : World => W'.cell? ⟨gg, 0, none⟩ = some (.int .i64 p) ∧ W'.cell? ⟨gg, 1, none⟩ = some (.int .i64 m) ∧ W'.cell? ⟨gg, 2, none⟩ = some (.int .i64 l) ∧ W'.cell? ⟨gm, 0, none⟩ = some (.bool s) ∧ W'.cell? ⟨gm, 1, none⟩ = some (.slice q n c)) W5) := ⟨Xg.out.c0, Xg.out.c1, Xg.out.c2, Xm.out.c0, Xm.out.c1⟩
  refine wp_region_J (fun W' => W'.cell? ⟨gg, 0, none⟩ = some (.int .i64 p) ∧ W'.cell? ⟨gg, 1, none⟩ = some (.int .i64 m) ∧ W'.cell? ⟨gg, 2, none⟩ = some (.int .i64 l) ∧ W'.cell? ⟨gm, 0, none⟩ = some (.bool s) ∧ W'.cell? ⟨gm, 1, none⟩ = some (.slice q n c)) (by kernel_rfl) ?_
  rw [← hW5]
  clear hW5
  refine wpJ_tq 0 rfl HJ.out ?_
  refine wpJ_tq 1 rfl HJ.out ?_
  refine wpJ_tq 2 rfl HJ.out ?_
  refine wpJ_tq 3 rfl HJ.out ?_
  refine wpJ_tq 4 rfl HJ.out ?_
  refine wpJ_tq 5 rfl HJ.out ?_
  refine wpJ_tq 6 rfl HJ.out ?_
  refine wpJ_tq 7 rfl HJ.out ?_
  refine wpJ_tq 9 rfl HJ.out ?_
  refine wpJ_on 8 rfl fun KJ hK => ?_
  go_simp
  refine (multiple_n (HZN.out.below hbw) k y nn HMU.out.1 HMU.out.2.1 HMU.out.2.2.1 HMU.out.2.2.2 (TB.out.below hbw)).mono ?_
  rintro e v5 ⟨rfl, hb5⟩
  replace Xg : Hid _ := Xg.out.below hb5
  replace Xm : Hid _ := Xm.out.below hb5
  replace hbw := Below.on hbw hb5
  clear hb5
  refine hK _ _ ⟨Xg.out.c0, Xg.out.c1, Xg.out.c2, Xm.out.c0, Xm.out.c1⟩ ?_
  clear hK
  refine wpJ_on 10 rfl fun KJ hK => ?_
  go_simp
  refine (HJN.out.jm.sz y Q u _ HSZ.out.1 HSZ.out.2.1 HSZ.out.2.2.1 HSZ.out.2.2.2).mono ?_
  rintro e v6 ⟨rfl, hb6⟩
  replace Xg : Hid _ := Xg.out.below hb6
  replace Xm : Hid _ := Xm.out.below hb6
  replace hbw := Below.on hbw hb6
  clear hb6
  refine hK _ _ ⟨Xg.out.c0, Xg.out.c1, Xg.out.c2, Xm.out.c0, Xm.out.c1⟩ ?_
  clear hK
  refine wpJ_on 11 rfl fun KJ hK => ?_
  go_simp
  refine (HJN.out.jm.pm.fm.sgn s (Q * H + y) _ HR.out.2).mono ?_
  rintro e v7 ⟨rfl, hb7⟩
  rw [HR.out.1]
  replace Xg : Hid _ := Xg.out.below hb7
  replace Xm : Hid _ := Xm.out.below hb7
  replace hbw := Below.on hbw hb7
  clear hb7
  clear HJ
  have HJ : Hid ((fun W' : World => W'.cell? ⟨gg, 0, none⟩ = some (.int .i64 p) ∧ W'.cell? ⟨gg, 1, none⟩ = some (.int .i64 m) ∧ W'.cell? ⟨gg, 2, none⟩ = some (.int .i64 l) ∧ W'.cell? ⟨gm, 0, none⟩ = some (.bool s) ∧ W'.cell? ⟨gm, 1, none⟩ = some (.slice q n c)) v7) := ⟨Xg.out.c0, Xg.out.c1, Xg.out.c2, Xm.out.c0, Xm.out.c1⟩
  refine hK _ _ HJ.out ?_
  clear hK
  refine wpJ_tq 12 rfl HJ.out ?_
  refine wpJ_done (by kernel_rfl) ?_ _
  clear HJ
  go_wp2_with fail
  go_ret
  exact ⟨rfl, hbw⟩
theorem nearest_p {f p m l : Int} {S I H sd : Nat} {Be : Int} (J : Jn f p m l S I H sd Be) {q : Option Addr} {n c : Nat} {w : World} {x e : Int} {s : Bool} (h : ZN w s q n c x) (he : -4194304 ≤ e ∧ e ≤ 4194304) (h0 : x ≠ 0) (ht : ¬ Be ≤ e + bitsN x.natAbs - 1) (heu : ¬ e < max (e + bitsN x.natAbs - 1 - sd) l) :
    Calls Tryz.prog 23 #[WV p m l, ZV s q n c, .int .i64 e] w fun en w' => en = .returned (U (rnp l sd Be S I x e)) ∧ Below w.heap.size w w' := by
  have HZN : Hid (ZN w s q n c x) := h
  have HJN : Hid (Jn f p m l S I H sd Be) := J
  have hsg : (sgnI x == 0) = false := by
    have : sgnI x ≠ 0 := by rcases sgn3 x with ⟨_, h2⟩ | ⟨h1, _⟩ | ⟨_, h2⟩ <;> omega
    simp [this]
  obtain ⟨sx, hsx⟩ : ∃ sx, sx = sgnI x := ⟨_, rfl⟩
  rw [← hsx] at hsg
  have HSX : Hid (sgnI x = sx) := hsx.symm
  have hbn := (lim_bits x.natAbs).1 h.lim
  have hb0 := bitsN_pos (a := x.natAbs) (by omega)
  have hB1 := bitsN_lt x.natAbs
  have hB2 := bitsN_le x.natAbs (by omega)
  obtain ⟨L, hL⟩ : ∃ L, L = bitsN x.natAbs := ⟨_, rfl⟩
  rw [← hL] at ht heu
  have HLB : Hid (bitsN x.natAbs = L) := hL.symm
  obtain ⟨s1, hs1⟩ : ∃ s1 : Int, s1 = e + L := ⟨_, rfl⟩
  obtain ⟨top, htop⟩ : ∃ t : Int, t = s1 - 1 := ⟨_, rfl⟩
  rw [← hL] at hbn hb0 hB1 hB2
  have a1 : wrap64 (e + (L : Int)) = s1 := by rw [hs1]; simp only [wrap64]; omega
  have a2 : IntKind.i64.wrap (e + (L : Int)) = s1 := by rw [hs1]; simp [IntKind.wrap, IntKind.signed, IntKind.bits]; omega
  have a3 : wrap64 (s1 - 1) = top := by rw [htop]; simp only [wrap64]; omega
  have a4 : IntKind.i64.wrap (s1 - 1) = top := by rw [htop]; simp [IntKind.wrap, IntKind.signed, IntKind.bits]; omega
  have hneg : decide (x < 0) = s := h.sg.symm
  have d1 : decide (Be ≤ top) = false := decide_eq_false (by omega)
  have hRN := rn_of J (n := x.natAbs) (e := e) (by omega) he.1
  have hsl := J.jm.sl
  have hlo := J.jm.pm.lo
  have h9 := J.jm.pm.h9
  have hbu := J.jm.bu
  have hlt := J.jm.pm.fm.lt
  obtain ⟨u, hu⟩ : ∃ u : Int, u = max (top - sd) l := ⟨_, rfl⟩
  obtain ⟨k, hk⟩ : ∃ k : Nat, k = (e - u).toNat := ⟨_, rfl⟩
  obtain ⟨Q, hQ⟩ : ∃ Q : Nat, Q = (u - l).toNat := ⟨_, rfl⟩
  obtain ⟨y, hy⟩ : ∃ y : Nat, y = x.natAbs * 2 ^ k := ⟨_, rfl⟩
  obtain ⟨nn, hnn⟩ : ∃ nn : Int, nn = e - u := ⟨_, rfl⟩
  have hrz : rnz l sd Be I x.natAbs e = Q * H + y := by
    unfold rnz
    rw [← hL, if_neg (show ¬ Be ≤ e + L - 1 by omega), show e + (L : Int) - 1 - sd = top - sd from by omega, ← hu, ← hQ, ← J.jm.hs, if_neg (show ¬ e < u by omega), ← hk, ← hy]
  have hy2 : y ≤ 2 * H := by
    have g4 : x.natAbs * 2 ^ k < 2 ^ L * 2 ^ k := Nat.mul_lt_mul_of_pos_right hB1 (Nat.pow_pos (by omega))
    have g5 : 2 ^ L * 2 ^ k ≤ 2 * H := by
      rw [J.jm.hs, ← Nat.pow_succ', ← Nat.pow_add]
      exact Nat.pow_le_pow_right (by omega) (by omega)
    omega
  obtain ⟨r, hr⟩ : ∃ r, r = rnp l sd Be S I x e := ⟨_, rfl⟩
  have hQB : (Q : Int) < Be - l - sd := by have := J.hB; omega
  have HR : Hid ((if s then S + (Q * H + y) else Q * H + y) = r ∧ Q * H + y < S) := by
    refine ⟨?_, by rw [← hrz]; exact Nat.lt_of_le_of_lt hRN.le hlt⟩
    rw [hr]; unfold rnp
    rw [if_neg h0, hrz, ← hneg]
    by_cases hx : x < 0
    · rw [decide_eq_true hx, if_pos rfl, if_pos hx]
    · rw [decide_eq_false hx, if_neg (by simp), if_neg hx]
  have HTP : Hid (-1000000000000 ≤ top ∧ top ≤ 5000 ∧ max (top - sd) l = u) := ⟨by omega, by omega, hu.symm⟩
  have HSZ : Hid (u = l + Q ∧ Q < 2046 ∧ (Q : Int) < Be - l - sd ∧ y ≤ 2 * H) := ⟨by omega, by have := J.hB9; omega, hQB, hy2⟩
  have HMU : Hid (nn = (k : Int) ∧ k ≤ 4611686018427387904 ∧ y = x.natAbs * 2 ^ k ∧ y < B64) := ⟨by omega, by omega, hy, by rw [B64_eq]; omega⟩
  have a5 : wrap64 (e - u) = nn := by rw [hnn]; simp only [wrap64]; omega
  have a6 : IntKind.i64.wrap (e - u) = nn := by rw [hnn]; simp [IntKind.wrap, IntKind.signed, IntKind.bits]; omega
  rw [← hr]
  clear J h h0 hsx hbn hb0 hB1 hB2 hL hs1 htop hneg hr ht he hRN hsl hlo h9 hbu hlt hu hk hQ hy hnn hrz hy2 hQB heu
  go_enter Tryz.func23, Tryz.ntmps23
  go_wp2_with fail
  obtain ⟨W0, hW0⟩ : ∃ W0, W0 = ((w.alloc (.cells #[.int .i64 p, .int .i64 m, .int .i64 l] 47)).alloc (.cells #[.bool s, .slice q n c] 31)) := ⟨_, rfl⟩
  have Xg : Hid (B3q W0 (w.heap.size) (.int .i64 p) (.int .i64 m) (.int .i64 l)) := by rw [hW0]; exact ⟨by go_simp, by go_simp, by go_simp, by go_simp, by go_simp, by go_simp⟩
  have Xm : Hid (Box W0 (w.heap.size + 1) (.bool s) (.slice q n c)) := by rw [hW0]; exact ⟨by go_simp, by go_simp, by go_simp, by go_simp⟩
  have hb0 : Below w.heap.size w W0 := by rw [hW0]; exact below2 w _ _
  rw [← hW0]
  clear hW0
  have hbw : Below w.heap.size w w := Below.refl _ _
  obtain ⟨gm, hgm⟩ : ∃ g, g = w.heap.size + 1 := ⟨_, rfl⟩
  have HGm : Hid (w.heap.size ≤ gm) := by rw [hgm]; show _ ≤ _; omega
  rw [← hgm] at Xm
  try rw [← hgm]
  obtain ⟨gg, hgg⟩ : ∃ g, g = w.heap.size := ⟨_, rfl⟩
  have HGg : Hid (w.heap.size ≤ gg) := by rw [hgg]; show _ ≤ _; omega
  rw [← hgg] at Xg
  try rw [← hgg]
  have HGD : Hid (gg ≠ gm ∧ gm ≠ gg) := by rw [hgg, hgm]; exact ⟨by omega, by omega⟩
  clear hgg hgm
  replace hbw := Below.on hbw hb0
  clear hb0
  refine (zsign (HZN.out.below hbw)).mono ?_
  rintro e v1 ⟨rfl, hb1⟩
  rw [HSX.out]
  replace Xg : Hid _ := Xg.out.below hb1
  replace Xm : Hid _ := Xm.out.below hb1
  replace hbw := Below.on hbw hb1
  clear hb1
  obtain ⟨cm0, cm1, fm0, fm1⟩ := Xm.out
  have hnem := Xm.out.lt
  go_wp2_with fail
  clear cm0 cm1 fm0 fm1 hnem
  obtain ⟨xs, hX⟩ := (HZN.out.below hbw).ex
  refine (bits_any hX.at_ (by have := hX.le; omega)).mono ?_
  rintro e2 v2 ⟨rfl, hw⟩
  obtain rfl := hw.symm
  clear hw
  rw [hX.nf.val, HLB.out]
  clear hX
  obtain ⟨cg0, cg1, cg2, fg0, fg1, fg2⟩ := Xg.out
  have hneg : gg < v1.heap.size := World.block_lt_of_cell? v1 _ cg0
  go_wp2_with fail
  clear cg0 cg1 cg2 fg0 fg1 fg2 hneg
  refine (HJN.out.jm.be _).mono ?_
  rintro e v3 ⟨rfl, hb3⟩
  replace Xg : Hid _ := Xg.out.below hb3
  replace Xm : Hid _ := Xm.out.below hb3
  replace hbw := Below.on hbw hb3
  clear hb3
  obtain ⟨cg0, cg1, cg2, fg0, fg1, fg2⟩ := Xg.out
  have hneg : gg < v3.heap.size := World.block_lt_of_cell? v3 _ cg0
  obtain ⟨cm0, cm1, fm0, fm1⟩ := Xm.out
  have hnem := Xm.out.lt
  go_wp2_with fail
  clear cg0 cg1 cg2 fg0 fg1 fg2 hneg
  clear cm0 cm1 fm0 fm1 hnem
  refine (HJN.out.jm.un top _ HTP.out.1 HTP.out.2.1).mono ?_
  rintro e v4 ⟨rfl, hb4⟩
  rw [HTP.out.2.2]
  replace Xg : Hid _ := Xg.out.below hb4
  replace Xm : Hid _ := Xm.out.below hb4
  replace hbw := Below.on hbw hb4
  clear hb4
  obtain ⟨cg0, cg1, cg2, fg0, fg1, fg2⟩ := Xg.out
  have hneg : gg < v4.heap.size := World.block_lt_of_cell? v4 _ cg0
  obtain ⟨cm0, cm1, fm0, fm1⟩ := Xm.out
  have hnem := Xm.out.lt
  go_wp2_with fail
  clear cg0 cg1 cg2 fg0 fg1 fg2 hneg
  clear cm0 cm1 fm0 fm1 hnem
  obtain ⟨W5, hW5⟩ : ∃ W1, W1 = v4.drew := ⟨_, rfl⟩
  have hbd : Below v4.heap.size v4 W5 := by rw [hW5]; exact bDrew1 (Below.refl _ _)
  replace Xg : Hid _ := Xg.out.below hbd
  replace Xm : Hid _ := Xm.out.below hbd
  replace hbw := Below.on hbw hbd
  clear hbd
  have HJ : Hid ((fun W' : World => W'.cell? ⟨gg, 0, none⟩ = some (.int .i64 p) ∧ W'.cell? ⟨gg, 1, none⟩ = some (.int .i64 m) ∧ W'.cell? ⟨gg, 2, none⟩ = some (.int .i64 l) ∧ W'.cell? ⟨gm, 0, none⟩ = some (.bool s) ∧ W'.cell? ⟨gm, 1, none⟩ = some (.slice q n c)) W5) := ⟨Xg.out.c0, Xg.out.c1, Xg.out.c2, Xm.out.c0, Xm.out.c1⟩
  refine wp_region_J (fun W' => W'.cell? ⟨gg, 0, none⟩ = some (.int .i64 p) ∧ W'.cell? ⟨gg, 1, none⟩ = some (.int .i64 m) ∧ W'.cell? ⟨gg, 2, none⟩ = some (.int .i64 l) ∧ W'.cell? ⟨gm, 0, none⟩ = some (.bool s) ∧ W'.cell? ⟨gm, 1, none⟩ = some (.slice q n c)) (by kernel_rfl) ?_
  rw [← hW5]
  clear hW5
  refine wpJ_tq 0 rfl HJ.out ?_
  refine wpJ_tq 1 rfl HJ.out ?_
  refine wpJ_tq 2 rfl HJ.out ?_
  refine wpJ_tq 3 rfl HJ.out ?_
  refine wpJ_tq 4 rfl HJ.out ?_
  refine wpJ_tq 5 rfl HJ.out ?_
  refine wpJ_tq 6 rfl HJ.out ?_
  refine wpJ_tq 7 rfl HJ.out ?_
  refine wpJ_tq 9 rfl HJ.out ?_
  refine wpJ_on 8 rfl fun KJ hK => ?_
  go_simp
  refine (multiple_p (HZN.out.below hbw) k y nn HMU.out.1 HMU.out.2.1 HMU.out.2.2.1 HMU.out.2.2.2).mono ?_
  rintro e v5 ⟨rfl, hb5⟩
  replace Xg : Hid _ := Xg.out.below hb5
  replace Xm : Hid _ := Xm.out.below hb5
  replace hbw := Below.on hbw hb5
  clear hb5
  refine hK _ _ ⟨Xg.out.c0, Xg.out.c1, Xg.out.c2, Xm.out.c0, Xm.out.c1⟩ ?_
  clear hK
  refine wpJ_on 10 rfl fun KJ hK => ?_
  go_simp
  refine (HJN.out.jm.sz y Q u _ HSZ.out.1 HSZ.out.2.1 HSZ.out.2.2.1 HSZ.out.2.2.2).mono ?_
  rintro e v6 ⟨rfl, hb6⟩
  replace Xg : Hid _ := Xg.out.below hb6
  replace Xm : Hid _ := Xm.out.below hb6
  replace hbw := Below.on hbw hb6
  clear hb6
  refine hK _ _ ⟨Xg.out.c0, Xg.out.c1, Xg.out.c2, Xm.out.c0, Xm.out.c1⟩ ?_
  clear hK
  refine wpJ_on 11 rfl fun KJ hK => ?_
  go_simp
  refine (HJN.out.jm.pm.fm.sgn s (Q * H + y) _ HR.out.2).mono ?_
  rintro e v7 ⟨rfl, hb7⟩
  rw [HR.out.1]
  replace Xg : Hid _ := Xg.out.below hb7
  replace Xm : Hid _ := Xm.out.below hb7
  replace hbw := Below.on hbw hb7
  clear hb7
  clear HJ
  have HJ : Hid ((fun W' : World => W'.cell? ⟨gg, 0, none⟩ = some (.int .i64 p) ∧ W'.cell? ⟨gg, 1, none⟩ = some (.int .i64 m) ∧ W'.cell? ⟨gg, 2, none⟩ = some (.int .i64 l) ∧ W'.cell? ⟨gm, 0, none⟩ = some (.bool s) ∧ W'.cell? ⟨gm, 1, none⟩ = some (.slice q n c)) v7) := ⟨Xg.out.c0, Xg.out.c1, Xg.out.c2, Xm.out.c0, Xm.out.c1⟩
  refine hK _ _ HJ.out ?_
  clear hK
  refine wpJ_tq 12 rfl HJ.out ?_
  refine wpJ_done (by kernel_rfl) ?_ _
  clear HJ
  go_wp2_with fail
  go_ret
  exact ⟨rfl, hbw⟩
theorem nearest_ok {f p m l : Int} {S I H sd : Nat} {Be : Int} (J : Jn f p m l S I H sd Be) {q : Option Addr} {n c : Nat} {w : World} {x e : Int} {s : Bool} (h : ZN w s q n c x) (he : -4194304 ≤ e ∧ e ≤ 4194304) (hT : Tab w) :
    Calls Tryz.prog 23 #[WV p m l, ZV s q n c, .int .i64 e] w fun en w' => en = .returned (U (rnp l sd Be S I x e)) ∧ Below w.heap.size w w' := by
  by_cases h0 : x = 0
  · exact nearest_z J h h0
  · by_cases ht : Be ≤ e + bitsN x.natAbs - 1
    · exact nearest_b J h he h0 ht
    · by_cases heu : e < max (e + bitsN x.natAbs - 1 - sd) l
      · exact nearest_n J h he h0 ht heu hT
      · exact nearest_p J h he h0 ht heu
theorem dcmp_fl {p q : Option Addr} {m c n d : Nat} {w : World} {e f : Int} (s t : Bool) {xs : List Nat} (h : At w p m c xs) (hf : formD s xs e = false) :
    Calls Tryz.prog 58 #[DV s p m c e, DV t q n d f] w fun en w' => en = .returned (.tuple #[.int .i64 0, .int .i64 2]) ∧ Below w.heap.size w w' := by
  have A : Hid (At w p m c xs ∧ formD s xs e = false) := ⟨h, hf⟩
  clear h hf
  go_enter Tryz.func58, Tryz.ntmps58
  go_wp2_with fail
  obtain ⟨W0, hW0⟩ : ∃ W0, W0 = ((w.alloc (.cells #[.bool s, .slice p m c, .int .i64 e] 33)).alloc (.cells #[.bool t, .slice q n d, .int .i64 f] 33)) := ⟨_, rfl⟩
  have Xa : Hid (B3q W0 (w.heap.size) (.bool s) (.slice p m c) (.int .i64 e)) := by rw [hW0]; exact ⟨by go_simp, by go_simp, by go_simp, by go_simp, by go_simp, by go_simp⟩
  have Xb : Hid (B3q W0 (w.heap.size + 1) (.bool t) (.slice q n d) (.int .i64 f)) := by rw [hW0]; exact ⟨by go_simp, by go_simp, by go_simp, by go_simp, by go_simp, by go_simp⟩
  have hb0 : Below w.heap.size w W0 := by rw [hW0]; exact below2 w _ _
  rw [← hW0]
  clear hW0
  have hbw : Below w.heap.size w w := Below.refl _ _
  obtain ⟨gb, hgb⟩ : ∃ g, g = w.heap.size + 1 := ⟨_, rfl⟩
  have HGb : Hid (w.heap.size ≤ gb) := by rw [hgb]; show _ ≤ _; omega
  rw [← hgb] at Xb
  try rw [← hgb]
  obtain ⟨ga, hga⟩ : ∃ g, g = w.heap.size := ⟨_, rfl⟩
  have HGa : Hid (w.heap.size ≤ ga) := by rw [hga]; show _ ≤ _; omega
  rw [← hga] at Xa
  try rw [← hga]
  have HGD : Hid (ga ≠ gb ∧ gb ≠ ga) := by rw [hga, hgb]; exact ⟨by omega, by omega⟩
  clear hga hgb
  replace hbw := Below.on hbw hb0
  clear hb0
  refine (dform_f s (A.out.1.below hbw) A.out.2).mono ?_
  rintro e2 v2 ⟨rfl, hb2⟩
  replace Xa : Hid _ := Xa.out.below hb2
  replace Xb : Hid _ := Xb.out.below hb2
  replace hbw := Below.on hbw hb2
  clear hb2
  go_wp2_with fail
  go_ret2
  exact ⟨rfl, hbw⟩
theorem dcmp_fr {p q : Option Addr} {m c n d : Nat} {w : World} {e f : Int} (s t : Bool) {xs : List Nat} {x : Int} (k : DN w s p m c e x) (h : At w q n d xs) (hf : formD t xs f = false) :
    Calls Tryz.prog 58 #[DV s p m c e, DV t q n d f] w fun en w' => en = .returned (.tuple #[.int .i64 0, .int .i64 2]) ∧ Below w.heap.size w w' := by
  have A : Hid (At w q n d xs ∧ formD t xs f = false) := ⟨h, hf⟩
  have K : Hid (DN w s p m c e x) := k
  clear k
  clear h hf
  go_enter Tryz.func58, Tryz.ntmps58
  go_wp2_with fail
  obtain ⟨W0, hW0⟩ : ∃ W0, W0 = ((w.alloc (.cells #[.bool s, .slice p m c, .int .i64 e] 33)).alloc (.cells #[.bool t, .slice q n d, .int .i64 f] 33)) := ⟨_, rfl⟩
  have Xa : Hid (B3q W0 (w.heap.size) (.bool s) (.slice p m c) (.int .i64 e)) := by rw [hW0]; exact ⟨by go_simp, by go_simp, by go_simp, by go_simp, by go_simp, by go_simp⟩
  have Xb : Hid (B3q W0 (w.heap.size + 1) (.bool t) (.slice q n d) (.int .i64 f)) := by rw [hW0]; exact ⟨by go_simp, by go_simp, by go_simp, by go_simp, by go_simp, by go_simp⟩
  have hb0 : Below w.heap.size w W0 := by rw [hW0]; exact below2 w _ _
  rw [← hW0]
  clear hW0
  have hbw : Below w.heap.size w w := Below.refl _ _
  obtain ⟨gb, hgb⟩ : ∃ g, g = w.heap.size + 1 := ⟨_, rfl⟩
  have HGb : Hid (w.heap.size ≤ gb) := by rw [hgb]; show _ ≤ _; omega
  rw [← hgb] at Xb
  try rw [← hgb]
  obtain ⟨ga, hga⟩ : ∃ g, g = w.heap.size := ⟨_, rfl⟩
  have HGa : Hid (w.heap.size ≤ ga) := by rw [hga]; show _ ≤ _; omega
  rw [← hga] at Xa
  try rw [← hga]
  have HGD : Hid (ga ≠ gb ∧ gb ≠ ga) := by rw [hga, hgb]; exact ⟨by omega, by omega⟩
  clear hga hgb
  replace hbw := Below.on hbw hb0
  clear hb0
  refine (dform_t (K.out.below hbw)).mono ?_
  rintro e v1 ⟨rfl, hb1⟩
  replace Xa : Hid _ := Xa.out.below hb1
  replace Xb : Hid _ := Xb.out.below hb1
  replace hbw := Below.on hbw hb1
  clear hb1
  obtain ⟨cb0, cb1, cb2, fb0, fb1, fb2⟩ := Xb.out
  have hneb : gb < v1.heap.size := World.block_lt_of_cell? v1 _ cb0
  go_wp2_with fail
  clear cb0 cb1 cb2 fb0 fb1 fb2 hneb
  refine (dform_f t (A.out.1.below hbw) A.out.2).mono ?_
  rintro e2 v2 ⟨rfl, hb2⟩
  replace Xa : Hid _ := Xa.out.below hb2
  replace Xb : Hid _ := Xb.out.below hb2
  replace hbw := Below.on hbw hb2
  clear hb2
  go_wp2_with fail
  go_ret2
  exact ⟨rfl, hbw⟩
theorem results_ctt {fn : Func} {p t1 t2 : Tmp} {ty : TypeId} (h : fn.results = #[.cell p ty, .tmp t1, .tmp t2]) (tmps : Array Value) (P : Program) (w : World) :
    (results fn tmps).run P w = ((asAddr (tmps.getD p undef)).run P w).andThen fun a w₁ => ((loadVar ty a).run P w₁).andThen fun v w₂ => .ok (.tuple #[v, tmps.getD t1 undef, tmps.getD t2 undef]) w₂ := by
  simp only [results, h]
  simp [Sem.run_bind, Result.andThen]
theorem Own.inn {B : Nat} {w : World} {p : Option Addr} {m : Nat} {zs : List Nat} (h : Own B w p m zs) : ∀ g, p = some ⟨g, 0, none⟩ → 0 < m → B ≤ g ∧ g < w.heap.size := by
  intro g hp hm
  obtain ⟨g2, h1, h2, h3⟩ := h.mem.resolve_left (by omega)
  rw [hp] at h1
  have : g = g2 := by injection h1 with h1; injection h1
  subst this
  exact ⟨h2, World.block_lt_of_cell? w _ (h3.cell 0 hm)⟩
structure DO (B : Nat) (w : World) (s : Bool) (p : Option Addr) (m : Nat) (e z : Int) : Prop where
  own : ∃ zs, Own B w p m zs ∧ Nf B64 zs z.natAbs ∧ m ≤ 8192
  sg : s = decide (z < 0)
  fm : DFm z e
theorem DO.dn {B : Nat} {w : World} {s : Bool} {p : Option Addr} {m : Nat} {e z : Int} (h : DO B w s p m e z) : DN w s p m m e z := by
  obtain ⟨zs, h1, h2, h3⟩ := h.own
  exact ⟨⟨⟨zs, Num.of h1 h2 h3⟩, h.sg⟩, h.fm⟩
theorem DO.below {B : Nat} {w w' : World} {s : Bool} {p : Option Addr} {m : Nat} {e z : Int} (h : DO B w s p m e z) (hb : Below w.heap.size w w') : DO B w' s p m e z := by
  obtain ⟨zs, h1, h2, h3⟩ := h.own
  exact ⟨⟨zs, h1.below hb, h2, h3⟩, h.sg, h.fm⟩
theorem DO.set {B : Nat} {w : World} {s : Bool} {p : Option Addr} {m : Nat} {e z : Int} (h : DO B w s p m e z) (g o : Nat) (v : Value) (hg : g < B) : DO B (w.setCell ⟨g, o, none⟩ v) s p m e z := by
  obtain ⟨zs, h1, h2, h3⟩ := h.own
  exact ⟨⟨zs, h1.setOld _ _ _ hg, h2, h3⟩, h.sg, h.fm⟩
theorem DO.of {B : Nat} {w : World} {v : Value} {e z : Int} (h : AnsD B w v z e) (hf : DFm z e) : ∃ s p m, v = DV s p m m e ∧ DO B w s p m e z := by
  obtain ⟨p, m, zs, rfl, h1, h2, h3⟩ := h
  exact ⟨_, p, m, rfl, ⟨zs, h1, h2, h3⟩, rfl, hf⟩
abbrev SV (s : Bool) (p : Option Addr) (m c : Nat) (e : Int) (t : Bool) (q : Option Addr) (n d : Nat) (f : Int) : Value := .agg #[.bool s, .slice p m c, .int .i64 e, .bool t, .slice q n d, .int .i64 f]
end Go.Proofs.YtfmbifocgljieaaGreatDoor
