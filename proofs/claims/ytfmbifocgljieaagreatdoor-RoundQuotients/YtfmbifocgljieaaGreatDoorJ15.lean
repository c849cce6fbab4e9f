import Derived.Test.YtfmbifocgljieaaGreatDoorJ14
import Derived.Test.YtfmbifocgljieaaGreatDoorJ12
import Derived.Test.YtfmbifocgljieaaGreatDoorJ10
import Derived.Test.YtfmbifocgljieaaGreatDoorJ11
import Derived.Deep.LoopGhost
import Derived.Test.YtfmbifocgljieaaGreatDoorJ13
import Derived.Test.YtfmbifocgljieaaGreatDoorJ8
namespace Go.Proofs.YtfmbifocgljieaaGreatDoor
open Go.RowKit Go.Shelf
set_option maxRecDepth 20000
set_option maxHeartbeats 0
theorem rl_b {w : World} {p : Option Addr} {m a : Nat} (h : RL w p m a) : Calls Tryz.prog 156 #[.slice p m m] w fun e w' => e = .returned (.int .i64 (bitsN a)) ∧ w' = w := by
  obtain ⟨⟨zs, h1, h2⟩, h3⟩ := h
  exact rbits_any h1 h2 (by omega)
theorem rl_cmp {w : World} {p q : Option Addr} {m n a b : Nat} (h : ∃ zs, At32 w p m m zs ∧ Nf B32 zs a) (k : ∃ zs, At32 w q n n zs ∧ Nf B32 zs b) : Calls Tryz.prog 157 #[.slice p m m, .slice q n n] w fun e w' => e = .returned (.int .i64 (cmpN a b)) ∧ Below w.heap.size w w' := by
  obtain ⟨zs, h1, h2⟩ := h
  obtain ⟨us, k1, k2⟩ := k
  refine (rcmp_any h1 k1 h2 k2).mono ?_
  rintro e w' ⟨rfl, r, rfl⟩
  exact ⟨rfl, bDrewN (Below.refl _ _) r⟩
def RX (w : World) (p : Option Addr) (m a : Nat) : Prop := ∃ zs, At32 w p m m zs ∧ Nf B32 zs a
theorem RX.below {w w' : World} {p : Option Addr} {m a : Nat} (h : RX w p m a) (hb : Below w.heap.size w w') : RX w' p m a := by
  obtain ⟨zs, h1, h2⟩ := h
  exact ⟨zs, h1.below hb, h2⟩
theorem rl_shl {w : World} {p : Option Addr} {m a : Nat} (h : RL w p m a) (k : Nat) (hk : k ≤ 524288) : Calls Tryz.prog 129 #[.slice p m m, .int .i64 k] w fun e w' => ∃ p' m', e = .returned (.slice p' m' m') ∧ RX w' p' m' (a * 2 ^ k) ∧ Below w.heap.size w w' := by
  obtain ⟨⟨zs, h1, h2⟩, h3⟩ := h
  refine (rshl_all h1 h2 h3 k (.inl hk)).mono ?_
  rintro e w' ⟨p', m', us, rfl, g1, g2, g3, g4⟩
  exact ⟨p', m', rfl, ⟨us, g1, g2⟩, g4⟩
theorem rl_mul {w : World} {p q : Option Addr} {m n a b : Nat} (h : RL w p m a) (k : RL w q n b) (hl : m + n ≤ 16384) : Calls Tryz.prog 151 #[.slice p m m, .slice q n n] w fun e w' => ∃ p' m', e = .returned (.slice p' m' m') ∧ RL w' p' m' (a * b) ∧ m' ≤ m + n ∧ Below w.heap.size w w' := by
  obtain ⟨⟨zs, h1, h2⟩, h3⟩ := h
  obtain ⟨⟨us, k1, k2⟩, k3⟩ := k
  refine (rmul_any h1 k1 h2 k2 (by omega) (by omega)).mono ?_
  rintro e w' ⟨p', m', vs, rfl, g1, g2, g3, g4⟩
  exact ⟨p', m', rfl, ⟨⟨vs, g1, g2⟩, by omega⟩, g3, g4⟩
theorem rl_word (x : Nat) (hx : x < B64) (w : World) : Calls Tryz.prog 87 #[U x] w fun e w' => ∃ p' m', e = .returned (.slice p' m' m') ∧ RL w' p' m' x ∧ m' ≤ 2 ∧ Below w.heap.size w w' := by
  refine (rword x hx w).mono ?_
  rintro e w' ⟨g, zs, rfl, h1, h2, h3, h4⟩
  exact ⟨_, _, rfl, ⟨⟨zs, h2, h3⟩, by omega⟩, h1, h4⟩
theorem rl_add {w : World} {p q : Option Addr} {m n a b : Nat} (h : RX w p m a) (hm : m ≤ 40000) (k : RL w q n b) {K : Nat} (hK : K ≤ 16384) (hl : a + b < B32 ^ K) : Calls Tryz.prog 106 #[.slice p m m, .slice q n n] w fun e w' => ∃ p' m', e = .returned (.slice p' m' m') ∧ RL w' p' m' (a + b) ∧ m' ≤ K ∧ Below w.heap.size w w' := by
  obtain ⟨zs, h1, h2⟩ := h
  obtain ⟨⟨us, k1, k2⟩, k3⟩ := k
  refine (radd_any h1 k1 h2 k2 (by omega) (by omega)).mono ?_
  rintro e w' ⟨p', m', vs, rfl, g1, g2, g4⟩
  have := rl_len g1 g2 hl
  exact ⟨p', m', rfl, ⟨⟨vs, g1, g2⟩, by omega⟩, this, g4⟩
theorem jx {a : Int} (h1 : -100000000 ≤ a) (h2 : a ≤ 100000000) : IntKind.i64.wrap a = a ∧ wrap64 a = a := ⟨by simp [IntKind.wrap, IntKind.signed, IntKind.bits]; omega, by simp only [wrap64]; omega⟩
theorem ord_mid {a b : Nat} {e f : Int} (_ha : a ≠ 0) (_hb : b ≠ 0) (hA : bitsN a ≤ 524288) (hB : bitsN b ≤ 524288) (he : -2500000 ≤ e ∧ e ≤ 2500000) (hf : -2500000 ≤ f ∧ f ≤ 2500000) (ht : (bitsN a : Int) + e = (bitsN b : Int) + f) :
    ∃ E F : Nat, e = min e f + E ∧ f = min e f + F ∧ E ≤ 524288 ∧ F ≤ 524288 ∧ cmpN (dN a e) (dN b f) = cmpN (a * 2 ^ E) (b * 2 ^ F) := by
  refine ⟨(e - min e f).toNat, (f - min e f).toNat, by omega, by omega, by omega, by omega, ?_⟩
  exact dN_cmp (k := min e f) (by omega) (by omega) (by omega)
theorem order_g {w : World} {p q : Option Addr} {m n a b : Nat} (h : RL w p m a) (k : RL w q n b) (ha : a ≠ 0) (hb : b ≠ 0) (e f : Int) (he : -2500000 ≤ e ∧ e ≤ 2500000) (hf : -2500000 ≤ f ∧ f ≤ 2500000) :
    Calls Tryz.prog 152 #[.slice p m m, .int .i64 e, .slice q n n, .int .i64 f] w fun en w' => en = .returned (.int .i64 (cmpN (dN a e) (dN b f))) ∧ Below w.heap.size w w' := by
  have NA : Hid (RL w p m a) := h
  have NB : Hid (RL w q n b) := k
  obtain ⟨t, ht⟩ : ∃ t : Int, t = (bitsN a : Int) + e := ⟨_, rfl⟩
  obtain ⟨u, hu⟩ : ∃ u : Int, u = (bitsN b : Int) + f := ⟨_, rfl⟩
  have hA : bitsN a ≤ 524288 := by have := rl_bits h; have := h.len; omega
  have hB : bitsN b ≤ 524288 := by have := rl_bits k; have := k.len; omega
  have q1 : -100000000 ≤ (bitsN a : Int) + e ∧ (bitsN a : Int) + e ≤ 100000000 := by omega
  have q2 : -100000000 ≤ (bitsN b : Int) + f ∧ (bitsN b : Int) + f ≤ 100000000 := by omega
  have w1 : wrap64 ((bitsN a : Int) + e) = t := by rw [ht]; exact (jx q1.1 q1.2).2
  have w2 : wrap64 ((bitsN b : Int) + f) = u := by rw [hu]; exact (jx q2.1 q2.2).2
  have w3 : IntKind.i64.wrap ((bitsN a : Int) + e) = t := by rw [ht]; exact (jx q1.1 q1.2).1
  have w4 : IntKind.i64.wrap ((bitsN b : Int) + f) = u := by rw [hu]; exact (jx q2.1 q2.2).1
  obtain ⟨r, hr⟩ : ∃ r, r = cmpN (dN a e) (dN b f) := ⟨_, rfl⟩
  rw [← hr]
  have HC : Hid (a ≠ 0 ∧ b ≠ 0 ∧ (-2500000 ≤ e ∧ e ≤ 2500000) ∧ (-2500000 ≤ f ∧ f ≤ 2500000) ∧ bitsN a ≤ 524288 ∧ bitsN b ≤ 524288 ∧ t = (bitsN a : Int) + e ∧ u = (bitsN b : Int) + f ∧ r = cmpN (dN a e) (dN b f)) := ⟨ha, hb, he, hf, hA, hB, ht, hu, hr⟩
  have hbw : Below w.heap.size w w := Below.refl _ _
  clear h k ha hb he hf hA hB ht hu hr q1 q2
  go_enter Tryz.func152, Tryz.ntmps152
  go_wp2_with fail
  refine (rl_b NA.out).mono ?_
  rintro e9 v9 ⟨rfl, hw⟩
  obtain rfl := hw.symm
  clear hw
  go_wp2_with fail
  refine (rl_b NB.out).mono ?_
  rintro e9 v9 ⟨rfl, hw⟩
  obtain rfl := hw.symm
  clear hw
  rcases Int.lt_trichotomy t u with h1 | h1 | h1
  · have hr1 : r = -1 := by rw [HC.out.2.2.2.2.2.2.2.2]; obtain ⟨c1, c2, c3, c4, c5, c6, c7, c8, _⟩ := HC.out; exact cmpN_lt (dN_bits c2 (by omega) (by omega) (by omega))
    go_wp2_with fail
    rw [hr1]
    go_ret
    exact ⟨rfl, hbw⟩
  · subst h1
    obtain ⟨E, F, y1, y2, y3, y4, y5⟩ := ord_mid HC.out.1 HC.out.2.1 HC.out.2.2.2.2.1 HC.out.2.2.2.2.2.1 HC.out.2.2.1 HC.out.2.2.2.1 (HC.out.2.2.2.2.2.2.1.symm.trans HC.out.2.2.2.2.2.2.2.1)
    obtain ⟨k, hk⟩ : ∃ k : Int, k = min e f := ⟨_, rfl⟩
    rw [← hk] at y1 y2
    have z1 : e - k = (E : Int) := by omega
    have z2 : f - k = (F : Int) := by omega
    have x1 : wrap64 (e - k) = (E : Int) := by rw [z1]; exact (jx (by omega) (by omega)).2
    have x2 : wrap64 (f - k) = (F : Int) := by rw [z2]; exact (jx (by omega) (by omega)).2
    have x3 : IntKind.i64.wrap (e - k) = (E : Int) := by rw [z1]; exact (jx (by omega) (by omega)).1
    have x4 : IntKind.i64.wrap (f - k) = (F : Int) := by rw [z2]; exact (jx (by omega) (by omega)).1
    have HEF : Hid (E ≤ 524288 ∧ F ≤ 524288 ∧ r = cmpN (a * 2 ^ E) (b * 2 ^ F)) := ⟨y3, y4, HC.out.2.2.2.2.2.2.2.2.trans y5⟩
    have hk2 : min e f = k := hk.symm
    clear hk y1 y2 y3 y4 y5 z1 z2
    go_wp2_with fail
    refine (rl_shl NA.out E HEF.out.1).mono ?_
    rintro en v1 ⟨p1, m1, rfl, hn1, hb1⟩
    replace NA : Hid (RL v1 p m a) := NA.out.below hb1
    replace NB : Hid (RL v1 q n b) := NB.out.below hb1
    replace hbw := Below.on hbw hb1
    clear hb1
    have N1 : Hid (RX v1 p1 m1 (a * 2 ^ E)) := hn1
    clear hn1
    go_wp2_with fail
    refine (rl_shl NB.out F HEF.out.2.1).mono ?_
    rintro en v2 ⟨p2, m2, rfl, hn2, hb2⟩
    replace NA : Hid (RL v2 p m a) := NA.out.below hb2
    replace NB : Hid (RL v2 q n b) := NB.out.below hb2
    replace N1 : Hid (RX v2 p1 m1 (a * 2 ^ E)) := N1.out.below hb2
    replace hbw := Below.on hbw hb2
    clear hb2
    have N2 : Hid (RX v2 p2 m2 (b * 2 ^ F)) := hn2
    clear hn2
    go_wp2_with fail
    refine (rl_cmp N1.out N2.out).mono ?_
    rintro e v3 ⟨rfl, hb3⟩
    rw [← HEF.out.2.2]
    replace NA : Hid (RL v3 p m a) := NA.out.below hb3
    replace NB : Hid (RL v3 q n b) := NB.out.below hb3
    replace N1 : Hid (RX v3 p1 m1 (a * 2 ^ E)) := N1.out.below hb3
    replace N2 : Hid (RX v3 p2 m2 (b * 2 ^ F)) := N2.out.below hb3
    replace hbw := Below.on hbw hb3
    clear hb3
    go_wp2_with fail
    go_ret
    exact ⟨rfl, hbw⟩
  · have hr1 : r = 1 := by rw [HC.out.2.2.2.2.2.2.2.2]; obtain ⟨c1, c2, c3, c4, c5, c6, c7, c8, _⟩ := HC.out; exact cmpN_gt (dN_bits c1 (by omega) (by omega) (by omega))
    go_wp2_with fail
    rw [hr1]
    go_ret
    exact ⟨rfl, hbw⟩
theorem holdq_z {w : World} {p p1 p2 : Option Addr} {m m1 m2 a b d : Nat} (h : RL w p m a) (k1 : RL w p1 m1 b) (k2 : RL w p2 m2 d) (hb : b ≠ 0) (hd : d ≠ 0) (e f : Int) (he : -2000 ≤ e ∧ e ≤ 2000) (hf : -2500000 ≤ f ∧ f ≤ 2500000) (hl : m ≤ 2 ∧ m2 ≤ 16000) (ha : m = 0) :
    Calls Tryz.prog 128 #[.agg #[.slice p1 m1 m1, .slice p2 m2 m2, .int .i64 f, .bool false], .slice p m m, .int .i64 e] w fun en w' => en = .returned (.int .i64 (cmpN (dN (a * d) e) (dN b f))) ∧ Below w.heap.size w w' := by
  have NA : Hid (RL w p m a) := h
  have N1 : Hid (RL w p1 m1 b) := k1
  have N2 : Hid (RL w p2 m2 d) := k2
  have HM := h.zero
  obtain ⟨r, hr⟩ : ∃ r, r = cmpN (dN (a * d) e) (dN b f) := ⟨_, rfl⟩
  rw [← hr]
  have HC : Hid (b ≠ 0 ∧ d ≠ 0 ∧ (-2000 ≤ e ∧ e ≤ 2000) ∧ (-2500000 ≤ f ∧ f ≤ 2500000) ∧ (m ≤ 2 ∧ m2 ≤ 16000) ∧ r = cmpN (dN (a * d) e) (dN b f) ∧ (m = 0 ↔ a = 0)) := ⟨hb, hd, he, hf, hl, hr, HM⟩
  clear h k1 k2 hb hd he hf hl hr HM
  have hr1 : r = -1 := by
    rw [HC.out.2.2.2.2.2.1, HC.out.2.2.2.2.2.2.1 ha]
    refine cmpN_lt ?_
    rw [Nat.zero_mul]
    unfold dN
    rw [Nat.zero_mul]
    exact dN_pos HC.out.1 f
  rw [hr1]
  subst ha
  clear HC hr1 NA N1 N2
  go_enter Tryz.func128, Tryz.ntmps128
  go_wp2_with fail
  go_ret
  exact ⟨rfl, below1 w _⟩
theorem holdq_n {w : World} {p p1 p2 : Option Addr} {m m1 m2 a b d : Nat} (h : RL w p m a) (k1 : RL w p1 m1 b) (k2 : RL w p2 m2 d) (hb : b ≠ 0) (hd : d ≠ 0) (e f : Int) (he : -2000 ≤ e ∧ e ≤ 2000) (hf : -2500000 ≤ f ∧ f ≤ 2500000) (hl : m ≤ 2 ∧ m2 ≤ 16000) (ha : m ≠ 0) :
    Calls Tryz.prog 128 #[.agg #[.slice p1 m1 m1, .slice p2 m2 m2, .int .i64 f, .bool false], .slice p m m, .int .i64 e] w fun en w' => en = .returned (.int .i64 (cmpN (dN (a * d) e) (dN b f))) ∧ Below w.heap.size w w' := by
  have NA : Hid (RL w p m a) := h
  have N1 : Hid (RL w p1 m1 b) := k1
  have N2 : Hid (RL w p2 m2 d) := k2
  have HM := h.zero
  obtain ⟨r, hr⟩ : ∃ r, r = cmpN (dN (a * d) e) (dN b f) := ⟨_, rfl⟩
  rw [← hr]
  have HC : Hid (b ≠ 0 ∧ d ≠ 0 ∧ (-2000 ≤ e ∧ e ≤ 2000) ∧ (-2500000 ≤ f ∧ f ≤ 2500000) ∧ (m ≤ 2 ∧ m2 ≤ 16000) ∧ r = cmpN (dN (a * d) e) (dN b f) ∧ (m = 0 ↔ a = 0)) := ⟨hb, hd, he, hf, hl, hr, HM⟩
  clear h k1 k2 hb hd he hf hl hr HM
  have hm0 : ((m : Int) == 0) = false := by simp; omega
  have HA0 : Hid (a ≠ 0) := fun h => ha (HC.out.2.2.2.2.2.2.2 h)
  clear ha
  go_enter Tryz.func128, Tryz.ntmps128
  go_wp2_with fail
  obtain ⟨W0, hW0⟩ : ∃ W0, W0 = (w.alloc (.cells #[.slice p1 m1 m1, .slice p2 m2 m2, .int .i64 f, .bool false] 133)) := ⟨_, rfl⟩
  have Xv : Hid (B4q W0 (w.heap.size) (.slice p1 m1 m1) (.slice p2 m2 m2) (.int .i64 f) (.bool false)) := by rw [hW0]; exact ⟨by go_simp, by go_simp, by go_simp, by go_simp, by go_simp, by go_simp, by go_simp, by go_simp⟩
  have hb0 : Below w.heap.size w W0 := by rw [hW0]; exact below1 w _
  rw [← hW0]
  clear hW0
  have hbw : Below w.heap.size w w := Below.refl _ _
  obtain ⟨gv, hgv⟩ : ∃ g, g = w.heap.size := ⟨_, rfl⟩
  have HGv : Hid (w.heap.size ≤ gv) := by rw [hgv]; show _ ≤ _; omega
  rw [← hgv] at Xv
  try rw [← hgv]
  clear hgv
  replace NA : Hid (RL W0 p m a) := NA.out.below hb0
  replace N1 : Hid (RL W0 p1 m1 b) := N1.out.below hb0
  replace N2 : Hid (RL W0 p2 m2 d) := N2.out.below hb0
  replace hbw := Below.on hbw hb0
  clear hb0
  obtain ⟨V1, hV1⟩ : ∃ W1, W1 = W0.drew := ⟨_, rfl⟩
  have hbd : Below W0.heap.size W0 V1 := by rw [hV1]; exact bDrew1 (Below.refl _ _)
  replace Xv : Hid _ := Xv.out.below hbd
  replace NA : Hid (RL V1 p m a) := NA.out.below hbd
  replace N1 : Hid (RL V1 p1 m1 b) := N1.out.below hbd
  replace N2 : Hid (RL V1 p2 m2 d) := N2.out.below hbd
  replace hbw := Below.on hbw hbd
  clear hbd
  have HJ : Hid ((fun W' : World => W'.cell? ⟨gv, 0, none⟩ = some (.slice p1 m1 m1) ∧ W'.cell? ⟨gv, 1, none⟩ = some (.slice p2 m2 m2) ∧ W'.cell? ⟨gv, 2, none⟩ = some (.int .i64 f)) V1) := ⟨Xv.out.c0, Xv.out.c1, Xv.out.c2⟩
  refine wp_region_J (fun W' => W'.cell? ⟨gv, 0, none⟩ = some (.slice p1 m1 m1) ∧ W'.cell? ⟨gv, 1, none⟩ = some (.slice p2 m2 m2) ∧ W'.cell? ⟨gv, 2, none⟩ = some (.int .i64 f)) (by kernel_rfl) ?_
  rw [← hV1]
  clear hV1
  refine wpJ_tq 0 rfl HJ.out ?_
  refine wpJ_tq 1 rfl HJ.out ?_
  refine wpJ_tq 2 rfl HJ.out ?_
  refine wpJ_tq 4 rfl HJ.out ?_
  refine wpJ_tq 5 rfl HJ.out ?_
  go_simp
  refine wpJ_tq 6 rfl HJ.out ?_
  refine wpJ_tq 7 rfl HJ.out ?_
  refine wpJ_tq 8 rfl HJ.out ?_
  refine wpJ_on 3 rfl fun KJ hK => ?_
  go_simp
  refine (rl_mul NA.out N2.out (by have := HC.out; omega)).mono ?_
  rintro en v3 ⟨p3, m3, rfl, hn3, hl3, hb3⟩
  replace Xv : Hid _ := Xv.out.below hb3
  replace NA : Hid (RL v3 p m a) := NA.out.below hb3
  replace N1 : Hid (RL v3 p1 m1 b) := N1.out.below hb3
  replace N2 : Hid (RL v3 p2 m2 d) := N2.out.below hb3
  replace hbw := Below.on hbw hb3
  clear hb3
  have N3 : Hid (RL v3 p3 m3 (a * d)) := hn3
  have HL3 : Hid (m3 ≤ m + m2) := hl3
  clear hn3 hl3
  refine hK _ _ ⟨Xv.out.c0, Xv.out.c1, Xv.out.c2⟩ ?_
  clear hK
  refine wpJ_on 9 rfl fun KJ hK => ?_
  go_simp
  refine (order_g N3.out N1.out (by have h1 := HA0.out; have h2 := HC.out.2.1; intro h3; rcases Nat.mul_eq_zero.1 h3 with h4 | h4; exact h1 h4; exact h2 h4) HC.out.1 e f (by have := HC.out; omega) HC.out.2.2.2.1).mono ?_
  rintro e v4 ⟨rfl, hb4⟩
  rw [← HC.out.2.2.2.2.2.1]
  replace Xv : Hid _ := Xv.out.below hb4
  replace NA : Hid (RL v4 p m a) := NA.out.below hb4
  replace N1 : Hid (RL v4 p1 m1 b) := N1.out.below hb4
  replace N2 : Hid (RL v4 p2 m2 d) := N2.out.below hb4
  replace N3 : Hid (RL v4 p3 m3 (a * d)) := N3.out.below hb4
  replace hbw := Below.on hbw hb4
  clear hb4
  clear HJ
  have HJ : Hid ((fun W' : World => W'.cell? ⟨gv, 0, none⟩ = some (.slice p1 m1 m1) ∧ W'.cell? ⟨gv, 1, none⟩ = some (.slice p2 m2 m2) ∧ W'.cell? ⟨gv, 2, none⟩ = some (.int .i64 f)) v4) := ⟨Xv.out.c0, Xv.out.c1, Xv.out.c2⟩
  refine hK _ _ HJ.out ?_
  clear hK
  refine wpJ_tq 10 rfl HJ.out ?_
  refine wpJ_done (by kernel_rfl) ?_ _
  clear HJ
  go_wp2_with fail
  go_ret
  exact ⟨rfl, hbw⟩
theorem holdq {w : World} {p p1 p2 : Option Addr} {m m1 m2 a b d : Nat} (h : RL w p m a) (k1 : RL w p1 m1 b) (k2 : RL w p2 m2 d) (hb : b ≠ 0) (hd : d ≠ 0) (e f : Int) (he : -2000 ≤ e ∧ e ≤ 2000) (hf : -2500000 ≤ f ∧ f ≤ 2500000) (hl : m ≤ 2 ∧ m2 ≤ 16000) : Calls Tryz.prog 128 #[.agg #[.slice p1 m1 m1, .slice p2 m2 m2, .int .i64 f, .bool false], .slice p m m, .int .i64 e] w fun en w' => en = .returned (.int .i64 (cmpN (dN (a * d) e) (dN b f))) ∧ Below w.heap.size w w' := by
  by_cases ha : m = 0
  · exact holdq_z h k1 k2 hb hd e f he hf hl ha
  · exact holdq_n h k1 k2 hb hd e f he hf hl ha
theorem holdr_z {w : World} {p p1 p2 : Option Addr} {m m1 m2 a b d : Nat} (h : RL w p m a) (k1 : RL w p1 m1 b) (k2 : RL w p2 m2 d) (hb : b ≠ 0) (hd : d ≠ 0) (e f : Int) (he : -2000 ≤ e ∧ e ≤ 2000) (hf : -2500000 ≤ f ∧ f ≤ 2500000) (hl : m ≤ 2 ∧ m2 ≤ 16000) (ha : m = 0) :
    Calls Tryz.prog 128 #[.agg #[.slice p1 m1 m1, .slice p2 m2 m2, .int .i64 f, .bool true], .slice p m m, .int .i64 e] w fun en w' => en = .returned (.int .i64 (cmpN (dN (a * a * d) (2 * e)) (dN b f))) ∧ Below w.heap.size w w' := by
  have NA : Hid (RL w p m a) := h
  have N1 : Hid (RL w p1 m1 b) := k1
  have N2 : Hid (RL w p2 m2 d) := k2
  have HM := h.zero
  obtain ⟨r, hr⟩ : ∃ r, r = cmpN (dN (a * a * d) (2 * e)) (dN b f) := ⟨_, rfl⟩
  rw [← hr]
  have HC : Hid (b ≠ 0 ∧ d ≠ 0 ∧ (-2000 ≤ e ∧ e ≤ 2000) ∧ (-2500000 ≤ f ∧ f ≤ 2500000) ∧ (m ≤ 2 ∧ m2 ≤ 16000) ∧ r = cmpN (dN (a * a * d) (2 * e)) (dN b f) ∧ (m = 0 ↔ a = 0)) := ⟨hb, hd, he, hf, hl, hr, HM⟩
  obtain ⟨e2, he2⟩ : ∃ e2 : Int, e2 = 2 * e := ⟨_, rfl⟩
  have w1 : IntKind.i64.wrap (2 * e) = e2 := by rw [he2]; exact (jx (by omega) (by omega)).1
  have w2 : wrap64 (2 * e) = e2 := by rw [he2]; exact (jx (by omega) (by omega)).2
  have HE2 : Hid (e2 = 2 * e) := he2
  clear he2
  clear h k1 k2 hb hd he hf hl hr HM
  have hr1 : r = -1 := by
    rw [HC.out.2.2.2.2.2.1, HC.out.2.2.2.2.2.2.1 ha]
    refine cmpN_lt ?_
    rw [show 0 * 0 * d = 0 by simp]
    unfold dN
    rw [Nat.zero_mul]
    exact dN_pos HC.out.1 f
  rw [hr1]
  subst ha
  clear HC hr1 NA N1 N2
  clear w1 w2 HE2
  go_enter Tryz.func128, Tryz.ntmps128
  go_wp2_with fail
  go_ret
  exact ⟨rfl, below1 w _⟩
theorem holdr_n {w : World} {p p1 p2 : Option Addr} {m m1 m2 a b d : Nat} (h : RL w p m a) (k1 : RL w p1 m1 b) (k2 : RL w p2 m2 d) (hb : b ≠ 0) (hd : d ≠ 0) (e f : Int) (he : -2000 ≤ e ∧ e ≤ 2000) (hf : -2500000 ≤ f ∧ f ≤ 2500000) (hl : m ≤ 2 ∧ m2 ≤ 16000) (ha : m ≠ 0) :
    Calls Tryz.prog 128 #[.agg #[.slice p1 m1 m1, .slice p2 m2 m2, .int .i64 f, .bool true], .slice p m m, .int .i64 e] w fun en w' => en = .returned (.int .i64 (cmpN (dN (a * a * d) (2 * e)) (dN b f))) ∧ Below w.heap.size w w' := by
  have NA : Hid (RL w p m a) := h
  have N1 : Hid (RL w p1 m1 b) := k1
  have N2 : Hid (RL w p2 m2 d) := k2
  have HM := h.zero
  obtain ⟨r, hr⟩ : ∃ r, r = cmpN (dN (a * a * d) (2 * e)) (dN b f) := ⟨_, rfl⟩
  rw [← hr]
  have HC : Hid (b ≠ 0 ∧ d ≠ 0 ∧ (-2000 ≤ e ∧ e ≤ 2000) ∧ (-2500000 ≤ f ∧ f ≤ 2500000) ∧ (m ≤ 2 ∧ m2 ≤ 16000) ∧ r = cmpN (dN (a * a * d) (2 * e)) (dN b f) ∧ (m = 0 ↔ a = 0)) := ⟨hb, hd, he, hf, hl, hr, HM⟩
  obtain ⟨e2, he2⟩ : ∃ e2 : Int, e2 = 2 * e := ⟨_, rfl⟩
  have w1 : IntKind.i64.wrap (2 * e) = e2 := by rw [he2]; exact (jx (by omega) (by omega)).1
  have w2 : wrap64 (2 * e) = e2 := by rw [he2]; exact (jx (by omega) (by omega)).2
  have HE2 : Hid (e2 = 2 * e) := he2
  clear he2
  clear h k1 k2 hb hd he hf hl hr HM
  have hm0 : ((m : Int) == 0) = false := by simp; omega
  have HA0 : Hid (a ≠ 0) := fun h => ha (HC.out.2.2.2.2.2.2.2 h)
  clear ha
  go_enter Tryz.func128, Tryz.ntmps128
  go_wp2_with fail
  obtain ⟨W0, hW0⟩ : ∃ W0, W0 = (w.alloc (.cells #[.slice p1 m1 m1, .slice p2 m2 m2, .int .i64 f, .bool true] 133)) := ⟨_, rfl⟩
  have Xv : Hid (B4q W0 (w.heap.size) (.slice p1 m1 m1) (.slice p2 m2 m2) (.int .i64 f) (.bool true)) := by rw [hW0]; exact ⟨by go_simp, by go_simp, by go_simp, by go_simp, by go_simp, by go_simp, by go_simp, by go_simp⟩
  have hb0 : Below w.heap.size w W0 := by rw [hW0]; exact below1 w _
  rw [← hW0]
  clear hW0
  have hbw : Below w.heap.size w w := Below.refl _ _
  obtain ⟨gv, hgv⟩ : ∃ g, g = w.heap.size := ⟨_, rfl⟩
  have HGv : Hid (w.heap.size ≤ gv) := by rw [hgv]; show _ ≤ _; omega
  rw [← hgv] at Xv
  try rw [← hgv]
  clear hgv
  replace NA : Hid (RL W0 p m a) := NA.out.below hb0
  replace N1 : Hid (RL W0 p1 m1 b) := N1.out.below hb0
  replace N2 : Hid (RL W0 p2 m2 d) := N2.out.below hb0
  replace hbw := Below.on hbw hb0
  clear hb0
  obtain ⟨cv0, cv1, cv2, cv3, fv0, fv1, fv2, fv3⟩ := Xv.out
  have hnev : gv < W0.heap.size := World.block_lt_of_cell? W0 _ cv0
  go_wp2_with fail
  clear cv0 cv1 cv2 cv3 fv0 fv1 fv2 fv3 hnev
  refine (rl_mul NA.out NA.out (by have := HC.out; omega)).mono ?_
  rintro en v5 ⟨p5, m5, rfl, hn5, hl5, hb5⟩
  replace Xv : Hid _ := Xv.out.below hb5
  replace NA : Hid (RL v5 p m a) := NA.out.below hb5
  replace N1 : Hid (RL v5 p1 m1 b) := N1.out.below hb5
  replace N2 : Hid (RL v5 p2 m2 d) := N2.out.below hb5
  replace hbw := Below.on hbw hb5
  clear hb5
  have N5 : Hid (RL v5 p5 m5 (a * a)) := hn5
  have HL5 : Hid (m5 ≤ m + m) := hl5
  clear hn5 hl5
  obtain ⟨cv0, cv1, cv2, cv3, fv0, fv1, fv2, fv3⟩ := Xv.out
  have hnev : gv < v5.heap.size := World.block_lt_of_cell? v5 _ cv0
  go_wp2_with fail
  clear cv0 cv1 cv2 cv3 fv0 fv1 fv2 fv3 hnev
  obtain ⟨V1, hV1⟩ : ∃ W1, W1 = v5.drew := ⟨_, rfl⟩
  have hbd : Below v5.heap.size v5 V1 := by rw [hV1]; exact bDrew1 (Below.refl _ _)
  replace Xv : Hid _ := Xv.out.below hbd
  replace NA : Hid (RL V1 p m a) := NA.out.below hbd
  replace N1 : Hid (RL V1 p1 m1 b) := N1.out.below hbd
  replace N2 : Hid (RL V1 p2 m2 d) := N2.out.below hbd
  replace N5 : Hid (RL V1 p5 m5 (a * a)) := N5.out.below hbd
  replace hbw := Below.on hbw hbd
  clear hbd
  have HJ : Hid ((fun W' : World => W'.cell? ⟨gv, 0, none⟩ = some (.slice p1 m1 m1) ∧ W'.cell? ⟨gv, 1, none⟩ = some (.slice p2 m2 m2) ∧ W'.cell? ⟨gv, 2, none⟩ = some (.int .i64 f)) V1) := ⟨Xv.out.c0, Xv.out.c1, Xv.out.c2⟩
  refine wp_region_J (fun W' => W'.cell? ⟨gv, 0, none⟩ = some (.slice p1 m1 m1) ∧ W'.cell? ⟨gv, 1, none⟩ = some (.slice p2 m2 m2) ∧ W'.cell? ⟨gv, 2, none⟩ = some (.int .i64 f)) (by kernel_rfl) ?_
  rw [← hV1]
  clear hV1
  refine wpJ_tq 0 rfl HJ.out ?_
  refine wpJ_tq 1 rfl HJ.out ?_
  refine wpJ_tq 2 rfl HJ.out ?_
  refine wpJ_tq 4 rfl HJ.out ?_
  refine wpJ_tq 5 rfl HJ.out ?_
  go_simp
  refine wpJ_tq 6 rfl HJ.out ?_
  refine wpJ_tq 7 rfl HJ.out ?_
  refine wpJ_tq 8 rfl HJ.out ?_
  refine wpJ_on 3 rfl fun KJ hK => ?_
  go_simp
  refine (rl_mul N5.out N2.out (by have := HC.out; have := HL5.out; omega)).mono ?_
  rintro en v3 ⟨p3, m3, rfl, hn3, hl3, hb3⟩
  replace Xv : Hid _ := Xv.out.below hb3
  replace NA : Hid (RL v3 p m a) := NA.out.below hb3
  replace N1 : Hid (RL v3 p1 m1 b) := N1.out.below hb3
  replace N2 : Hid (RL v3 p2 m2 d) := N2.out.below hb3
  replace N5 : Hid (RL v3 p5 m5 (a * a)) := N5.out.below hb3
  replace hbw := Below.on hbw hb3
  clear hb3
  have N3 : Hid (RL v3 p3 m3 (a * a * d)) := hn3
  have HL3 : Hid (m3 ≤ m5 + m2) := hl3
  clear hn3 hl3
  refine hK _ _ ⟨Xv.out.c0, Xv.out.c1, Xv.out.c2⟩ ?_
  clear hK
  refine wpJ_on 9 rfl fun KJ hK => ?_
  go_simp
  refine (order_g N3.out N1.out (by have h1 := HA0.out; have h2 := HC.out.2.1; intro h3; rcases Nat.mul_eq_zero.1 h3 with h4 | h4; (rcases Nat.mul_eq_zero.1 h4 with h5 | h5 <;> exact h1 h5); exact h2 h4) HC.out.1 e2 f (by have := HC.out; have := HE2.out; omega) HC.out.2.2.2.1).mono ?_
  rintro e v4 ⟨rfl, hb4⟩
  rw [HE2.out, ← HC.out.2.2.2.2.2.1]
  replace Xv : Hid _ := Xv.out.below hb4
  replace NA : Hid (RL v4 p m a) := NA.out.below hb4
  replace N1 : Hid (RL v4 p1 m1 b) := N1.out.below hb4
  replace N2 : Hid (RL v4 p2 m2 d) := N2.out.below hb4
  replace N5 : Hid (RL v4 p5 m5 (a * a)) := N5.out.below hb4
  replace N3 : Hid (RL v4 p3 m3 (a * a * d)) := N3.out.below hb4
  replace hbw := Below.on hbw hb4
  clear hb4
  clear HJ
  have HJ : Hid ((fun W' : World => W'.cell? ⟨gv, 0, none⟩ = some (.slice p1 m1 m1) ∧ W'.cell? ⟨gv, 1, none⟩ = some (.slice p2 m2 m2) ∧ W'.cell? ⟨gv, 2, none⟩ = some (.int .i64 f)) v4) := ⟨Xv.out.c0, Xv.out.c1, Xv.out.c2⟩
  refine hK _ _ HJ.out ?_
  clear hK
  refine wpJ_tq 10 rfl HJ.out ?_
  refine wpJ_done (by kernel_rfl) ?_ _
  clear HJ
  go_wp2_with fail
  go_ret
  exact ⟨rfl, hbw⟩
theorem holdr {w : World} {p p1 p2 : Option Addr} {m m1 m2 a b d : Nat} (h : RL w p m a) (k1 : RL w p1 m1 b) (k2 : RL w p2 m2 d) (hb : b ≠ 0) (hd : d ≠ 0) (e f : Int) (he : -2000 ≤ e ∧ e ≤ 2000) (hf : -2500000 ≤ f ∧ f ≤ 2500000) (hl : m ≤ 2 ∧ m2 ≤ 16000) : Calls Tryz.prog 128 #[.agg #[.slice p1 m1 m1, .slice p2 m2 m2, .int .i64 f, .bool true], .slice p m m, .int .i64 e] w fun en w' => en = .returned (.int .i64 (cmpN (dN (a * a * d) (2 * e)) (dN b f))) ∧ Below w.heap.size w w' := by
  by_cases ha : m = 0
  · exact holdr_z h k1 k2 hb hd e f he hf hl ha
  · exact holdr_n h k1 k2 hb hd e f he hf hl ha
structure Sk (S : Nat) (P E G : Int) (I Q H : Nat) : Prop where
  pt : ∀ (s : Nat) w, s < S → Calls Tryz.prog 96 #[FV S P E G I Q, U s] w fun e w' => e = .returned (.tuple #[U (s - (s / H - 1) * H), .int .i64 (E + ((s / H - 1 : Nat) : Int))]) ∧ Below w.heap.size w w'
  hH : 0 < H ∧ H ≤ 4503599627370496
  hI : 2 ≤ I ∧ I < S ∧ S ≤ 9223372036854775808
  qI : ∀ s, s ≤ I → s / H - 1 ≤ 2046
  lo : -1074 ≤ E ∧ E ≤ -149
def HoldF (v : Value) (g : Nat → Nat) (A : Nat) (E : Int) (p1 p2 : Option Addr) (m1 m2 b d : Nat) : Prop :=
  ∀ (mn t : Nat) (e : Int) (W : World) (p : Option Addr) (m : Nat), RL W p m mn → RL W p1 m1 b → RL W p2 m2 d → m ≤ 2 → e = E - 1 + t → t ≤ 2047 → Calls Tryz.prog 128 #[v, .slice p m m, .int .i64 e] W fun en w' => en = .returned (.int .i64 (cmpN (g (mn * 2 ^ t)) A)) ∧ Below W.heap.size W w'
theorem RX.len {w : World} {p : Option Addr} {m a K : Nat} (h : RX w p m a) (hb : a < B32 ^ K) : m ≤ K := by
  obtain ⟨zs, h1, h2⟩ := h
  exact rl_len h1 h2 hb
theorem vs2 {H s q man : Nat} (hq : q = s / H - 1) (hm : man = s - q * H) : man * 2 ^ (q + 1) = 2 * vs H s := by
  unfold vs
  rw [← hq, ← hm, Nat.pow_succ]
  rw [Nat.mul_comm (2 ^ q) 2, Nat.mul_left_comm]
theorem hv2 {H s q man : Nat} (hq : q = s / H - 1) (hm : man = s - q * H) : (2 * man + 1) * 2 ^ q = hv H s := by
  unfold hv vs
  rw [← hq, ← hm, Nat.add_mul, Nat.one_mul, Nat.mul_assoc]
theorem man_lt {H s q man : Nat} (hp : 0 < H) (hq : q = s / H - 1) (hm : man = s - q * H) : man < 2 * H := by
  have h1 := Nat.div_add_mod s H
  have h2 := Nat.mod_lt s hp
  rw [Nat.mul_comm] at h1
  by_cases h3 : s / H ≤ 1
  · have hq0 : q = 0 := by omega
    have h4 : s / H * H ≤ 1 * H := Nat.mul_le_mul_right _ h3
    rw [hq0, Nat.zero_mul] at hm
    omega
  · have h5 : q + 1 = s / H := by omega
    have h6 : q * H + H = s / H * H := by rw [← h5, Nat.add_mul, Nat.one_mul]
    omega
theorem b32_2 {a : Nat} (h : a < 18014398509481984) : a < B32 ^ 2 := Nat.lt_of_lt_of_le h (by decide)
theorem b64_9 {a : Nat} (h : a < 18014398509481984) : a < B64 := Nat.lt_of_lt_of_le h (by decide)
theorem ju9 {a : Nat} (h : a < 18446744073709551616) : IntKind.u64.wrap (a : Int) = (a : Int) := by rw [IntKind.wrap_u64]; omega
theorem ju8 {a b d : Nat} (h : a < 18446744073709551616) (hd : d = a - b) (hb : b ≤ a) : IntKind.u64.wrap ((a : Int) - (b : Int)) = (d : Int) := by rw [show (a : Int) - (b : Int) = (d : Int) by omega]; exact ju9 (by omega)
theorem ju7 {a b d : Nat} (h : d < 18446744073709551616) (hd : d = a + b) : IntKind.u64.wrap ((a : Int) + (b : Int)) = (d : Int) := by rw [show (a : Int) + (b : Int) = (d : Int) by omega]; exact ju9 h
theorem ju6 {a d : Nat} (h : a < 18446744073709551616) (hd : d = a / 2) : IntKind.u64.wrap ((a : Int) / 2) = (d : Int) := by rw [show (a : Int) / 2 = (d : Int) by omega]; exact ju9 (by omega)
theorem ju5 {a d : Nat} (h : d < 18446744073709551616) (hd : d = a + 1) : IntKind.u64.wrap ((a : Int) + 1) = (d : Int) := by rw [show (a : Int) + 1 = (d : Int) by omega]; exact ju9 h
theorem size_g {S : Nat} {P E G : Int} {I Q H : Nat} (K : Sk S P E G I Q H) {w : World} {p1 p2 : Option Addr} {m1 m2 b d : Nat} {ro : Bool} {f : Int} (k1 : RL w p1 m1 b) (k2 : RL w p2 m2 d) {g : Nat → Nat} {A : Nat} (hg : Up g) (hA : g 0 ≤ A) (hold : HoldF (.agg #[.slice p1 m1 m1, .slice p2 m2 m2, .int .i64 f, .bool ro]) g A E p1 p2 m1 m2 b d) :
    Calls Tryz.prog 85 #[FV S P E G I Q, .agg #[.slice p1 m1 m1, .slice p2 m2 m2, .int .i64 f, .bool ro]] w fun en w' => ∃ Z, en = .returned (U Z) ∧ Trc (fun z => cmpN A (g (hv H z))) I Z ∧ Below w.heap.size w w' := by
  have N1 : Hid (RL w p1 m1 b) := k1
  have N2 : Hid (RL w p2 m2 d) := k2
  have HK : Hid (Sk S P E G I Q H) := K
  have HC : Hid (Up g ∧ g 0 ≤ A) := ⟨hg, hA⟩
  have HO : Hid (HoldF (.agg #[.slice p1 m1 m1, .slice p2 m2 m2, .int .i64 f, .bool ro]) g A E p1 p2 m1 m2 b d) := hold
  obtain ⟨I1, hI1⟩ : ∃ I1, I1 = I + 1 := ⟨_, rfl⟩
  have HI1 : Hid (I1 = I + 1 ∧ I < 9223372036854775808) := ⟨hI1, by have := K.hI; omega⟩
  have i1 : IntKind.u64.wrap ((I : Int) + 1) = (I1 : Int) := ju5 (by have := HI1.out; omega) hI1
  clear k1 k2 hg hA hold K hI1
  go_enter Tryz.func85, Tryz.ntmps85
  go_wp2_with fail
  obtain ⟨W0, hW0⟩ : ∃ W0, W0 = ((w.alloc (.cells #[U S, .int .i64 P, .int .i64 E, .int .i64 G, U I, U Q] 126)).alloc (.cells #[.slice p1 m1 m1, .slice p2 m2 m2, .int .i64 f, .bool ro] 133)) := ⟨_, rfl⟩
  have Xfm : Hid (B6q W0 (w.heap.size) (U S) (.int .i64 P) (.int .i64 E) (.int .i64 G) (U I) (U Q)) := by rw [hW0]; exact ⟨by go_simp, by go_simp, by go_simp, by go_simp, by go_simp, by go_simp, by go_simp, by go_simp, by go_simp, by go_simp, by go_simp, by go_simp⟩
  have Xv : Hid (B4q W0 (w.heap.size + 1) (.slice p1 m1 m1) (.slice p2 m2 m2) (.int .i64 f) (.bool ro)) := by rw [hW0]; exact ⟨by go_simp, by go_simp, by go_simp, by go_simp, by go_simp, by go_simp, by go_simp, by go_simp⟩
  have hb0 : Below w.heap.size w W0 := by rw [hW0]; exact below2 w _ _
  rw [← hW0]
  clear hW0
  have hbw : Below w.heap.size w w := Below.refl _ _
  obtain ⟨gv, hgv⟩ : ∃ g, g = w.heap.size + 1 := ⟨_, rfl⟩
  have HGv : Hid (w.heap.size ≤ gv) := by rw [hgv]; show _ ≤ _; omega
  rw [← hgv] at Xv
  try rw [← hgv]
  obtain ⟨gfm, hgfm⟩ : ∃ g, g = w.heap.size := ⟨_, rfl⟩
  have HGfm : Hid (w.heap.size ≤ gfm) := by rw [hgfm]; show _ ≤ _; omega
  rw [← hgfm] at Xfm
  try rw [← hgfm]
  have HGD : Hid (gfm ≠ gv ∧ gv ≠ gfm) := by rw [hgfm, hgv]; exact ⟨by omega, by omega⟩
  clear hgfm hgv
  replace N1 : Hid (RL W0 p1 m1 b) := N1.out.below hb0
  replace N2 : Hid (RL W0 p2 m2 d) := N2.out.below hb0
  replace hbw := Below.on hbw hb0
  clear hb0
  obtain ⟨V1, hV1⟩ : ∃ W1, W1 = W0.drew := ⟨_, rfl⟩
  have hbd : Below W0.heap.size W0 V1 := by rw [hV1]; exact bDrew1 (Below.refl _ _)
  replace Xfm : Hid _ := Xfm.out.below hbd
  replace Xv : Hid _ := Xv.out.below hbd
  replace N1 : Hid (RL V1 p1 m1 b) := N1.out.below hbd
  replace N2 : Hid (RL V1 p2 m2 d) := N2.out.below hbd
  replace hbw := Below.on hbw hbd
  clear hbd
  have HJ : Hid ((fun W' : World => W'.cell? ⟨gfm, 4, none⟩ = some (U I)) V1) := Xfm.out.c4
  refine wp_region_J (fun W' => W'.cell? ⟨gfm, 4, none⟩ = some (U I)) (by kernel_rfl) ?_
  rw [← hV1]
  clear hV1
  refine wpJ_tk 0 (v := ?v1x0) rfl ?hy1x0 HJ.out ?_
  case hy1x0 => (intro W' hJ; have j0 := hJ; go_simp; first | done | with_reducible rfl)
  refine wpJ_tk 1 (v := ?v2x1) rfl ?hy2x1 HJ.out ?_
  case hy2x1 => (intro W' hJ; have j0 := hJ; go_simp; first | done | with_reducible rfl)
  refine wpJ_tk 2 (v := ?v3x2) rfl ?hy3x2 HJ.out ?_
  case hy3x2 => (intro W' hJ; have j0 := hJ; go_simp; first | done | with_reducible rfl)
  refine wpJ_tk 3 (v := ?v4x3) rfl ?hy4x3 HJ.out ?_
  case hy4x3 => (intro W' hJ; have j0 := hJ; go_simp; first | done | with_reducible rfl)
  refine wpJ_tk 4 (v := ?v5x4) rfl ?hy5x4 HJ.out ?_
  case hy5x4 => (intro W' hJ; have j0 := hJ; go_simp; first | done | with_reducible rfl)
  go_simp
  refine wpJ_done (by kernel_rfl) ?_ _
  clear HJ
  go_wp2_with fail
  go_loopg [5, 6] I (fun gk lov hiv wr => ∃ lo hi : Nat, lov = U lo ∧ hiv = U hi ∧ hi = lo + gk + 1 ∧ hi ≤ I + 1 ∧ g (2 * vs H lo) ≤ A ∧ (hi = I + 1 ∨ A < g (2 * vs H hi)) ∧ B6q wr gfm (U S) (.int .i64 P) (.int .i64 E) (.int .i64 G) (U I) (U Q) ∧ B4q wr gv (.slice p1 m1 m1) (.slice p2 m2 m2) (.int .i64 f) (.bool ro) ∧ RL wr p1 m1 b ∧ RL wr p2 m2 d ∧ Below w.heap.size w wr)
  case atStart => exact ⟨0, I1, rfl, rfl, by have := HI1.out; omega, by have := HI1.out; omega, by rw [vs_zero]; exact HC.out.2, .inl HI1.out.1, Xfm.out, Xv.out, N1.out, N2.out, hbw⟩
  case round =>
    clear hbw Xfm Xv N1 N2
    obtain ⟨lo, hi, rfl, rfl, hgk, hi1, hlo, hhi, xk, xv, n1, n2, hbw⟩ := hrel
    have Xfm : Hid (B6q wr gfm (U S) (.int .i64 P) (.int .i64 E) (.int .i64 G) (U I) (U Q)) := xk
    have Xv : Hid (B4q wr gv (.slice p1 m1 m1) (.slice p2 m2 m2) (.int .i64 f) (.bool ro)) := xv
    have N1 : Hid (RL wr p1 m1 b) := n1
    have N2 : Hid (RL wr p2 m2 d) := n2
    clear xk xv n1 n2
    have HLH : Hid (hi ≤ I + 1 ∧ g (2 * vs H lo) ≤ A ∧ (hi = I + 1 ∨ A < g (2 * vs H hi)) ∧ I < 9223372036854775808) := ⟨hi1, hlo, hhi, HI1.out.2⟩
    clear hi1 hlo hhi
    cases gk with
    | zero =>
      obtain rfl : hi = lo + 1 := by omega
      have w1 : IntKind.u64.wrap (((lo + 1 : Nat) : Int) - (lo : Int)) = 1 := ju8 (d := 1) (by have := HLH.out; omega) (by omega) (by omega)
      clear hgk
      by_cases hlo : lo = I
      · have w2 : ((lo : Int) == (I : Int)) = true := by simp [hlo]
        have HLI : Hid (lo = I) := hlo
        clear hlo
        obtain ⟨cfm0, cfm1, cfm2, cfm3, cfm4, cfm5, ffm0, ffm1, ffm2, ffm3, ffm4, ffm5⟩ := Xfm.out
        have hnefm : gfm < wr.heap.size := World.block_lt_of_cell? wr _ cfm0
        go_wp2_with fail
        clear cfm0 cfm1 cfm2 cfm3 cfm4 cfm5 ffm0 ffm1 ffm2 ffm3 ffm4 ffm5 hnefm
        go_ret
        exact ⟨lo, rfl, by rw [HLI.out]; exact trc_top HK.out.hH.1 HC.out.1 (by rw [← HLI.out]; exact HLH.out.2.1), hbw⟩
      · have HLO : Hid (lo < I ∧ A < g (2 * vs H (lo + 1))) := ⟨by have := HLH.out.1; omega, HLH.out.2.2.1.resolve_left (by omega)⟩
        have w2 : ((lo : Int) == (I : Int)) = false := by simp; omega
        clear hlo
        obtain ⟨q, hq⟩ : ∃ q, q = lo / H - 1 := ⟨_, rfl⟩
        obtain ⟨man, hman⟩ : ∃ man, man = lo - q * H := ⟨_, rfl⟩
        obtain ⟨ex, hex⟩ : ∃ ex : Int, ex = E + (q : Int) := ⟨_, rfl⟩
        have HPT := fun w => HK.out.pt lo w (by have := HLO.out; have := HK.out.hI; omega)
        simp only [← hq] at HPT
        simp only [← hman, ← hex] at HPT
        obtain ⟨ex1, hex1⟩ : ∃ ex1 : Int, ex1 = ex - 1 := ⟨_, rfl⟩
        have hq9 : q ≤ 2046 := by rw [hq]; exact HK.out.qI lo (by have := HLO.out; omega)
        have hlo9 := HK.out.lo
        have HM : Hid (man < 9007199254740992 ∧ q ≤ 2046 ∧ ex1 = E - 1 + (q : Int) ∧ (2 * man + 1) * 2 ^ q = hv H lo) := ⟨by have := man_lt HK.out.hH.1 hq hman; have := HK.out.hH; omega, hq9, by omega, hv2 hq hman⟩
        have w3 : wrap64 (ex - 1) = ex1 := by rw [hex1]; exact (jx (by omega) (by omega)).2
        have w4 : IntKind.i64.wrap (ex - 1) = ex1 := by rw [hex1]; exact (jx (by omega) (by omega)).1
        have HPH : Hid (∀ w, Calls Tryz.prog 96 #[FV S P E G I Q, U lo] w fun e w' => e = .returned (.tuple #[U man, .int .i64 ex]) ∧ Below w.heap.size w w') := HPT
        clear hq hman hex hex1 hq9 hlo9 HPT
        obtain ⟨cfm0, cfm1, cfm2, cfm3, cfm4, cfm5, ffm0, ffm1, ffm2, ffm3, ffm4, ffm5⟩ := Xfm.out
        have hnefm : gfm < wr.heap.size := World.block_lt_of_cell? wr _ cfm0
        go_wp2_with fail
        clear cfm0 cfm1 cfm2 cfm3 cfm4 cfm5 ffm0 ffm1 ffm2 ffm3 ffm4 ffm5 hnefm
        refine (HPH.out _).mono ?_
        rintro e v1 ⟨rfl, hb1⟩
        replace Xfm : Hid _ := Xfm.out.below hb1
        replace Xv : Hid _ := Xv.out.below hb1
        replace N1 : Hid (RL v1 p1 m1 b) := N1.out.below hb1
        replace N2 : Hid (RL v1 p2 m2 d) := N2.out.below hb1
        replace hbw := Below.on hbw hb1
        clear hb1
        go_wp2_with fail
        obtain ⟨c, hc⟩ : ∃ c, c = cmpN (g (hv H lo)) A := ⟨_, rfl⟩
        have HCC : Hid (c = cmpN (g (hv H lo)) A) := hc
        clear hc
        obtain ⟨V5, hV5⟩ : ∃ W1, W1 = v1.drew := ⟨_, rfl⟩
        have hbd : Below v1.heap.size v1 V5 := by rw [hV5]; exact bDrew1 (Below.refl _ _)
        replace Xfm : Hid _ := Xfm.out.below hbd
        replace Xv : Hid _ := Xv.out.below hbd
        replace N1 : Hid (RL V5 p1 m1 b) := N1.out.below hbd
        replace N2 : Hid (RL V5 p2 m2 d) := N2.out.below hbd
        replace hbw := Below.on hbw hbd
        clear hbd
        have HJ : Hid ((fun W' : World => W'.cell? ⟨gv, 0, none⟩ = some (.slice p1 m1 m1) ∧ W'.cell? ⟨gv, 1, none⟩ = some (.slice p2 m2 m2) ∧ W'.cell? ⟨gv, 2, none⟩ = some (.int .i64 f) ∧ W'.cell? ⟨gv, 3, none⟩ = some (.bool ro)) V5) := ⟨Xv.out.c0, Xv.out.c1, Xv.out.c2, Xv.out.c3⟩
        refine wp_region_J (fun W' => W'.cell? ⟨gv, 0, none⟩ = some (.slice p1 m1 m1) ∧ W'.cell? ⟨gv, 1, none⟩ = some (.slice p2 m2 m2) ∧ W'.cell? ⟨gv, 2, none⟩ = some (.int .i64 f) ∧ W'.cell? ⟨gv, 3, none⟩ = some (.bool ro)) (by kernel_rfl) ?_
        rw [← hV5]
        clear hV5
        refine wpJ_tq 0 rfl HJ.out ?_
        refine wpJ_tq 1 rfl HJ.out ?_
        refine wpJ_tq 6 rfl HJ.out ?_
        refine wpJ_tq 7 rfl HJ.out ?_
        refine wpJ_on 2 rfl fun KJ hK => ?_
        go_simp
        refine (rl_word man (b64_9 (by have := HM.out.1; omega)) _).mono ?_
        rintro en v12 ⟨p12, m12, rfl, hn12, hl12, hb12⟩
        replace Xfm : Hid _ := Xfm.out.below hb12
        replace Xv : Hid _ := Xv.out.below hb12
        replace N1 : Hid (RL v12 p1 m1 b) := N1.out.below hb12
        replace N2 : Hid (RL v12 p2 m2 d) := N2.out.below hb12
        replace hbw := Below.on hbw hb12
        clear hb12
        have N12 : Hid (RL v12 p12 m12 (man)) := hn12
        have HL12 : Hid (m12 ≤ 2) := hl12
        clear hn12 hl12
        refine hK _ _ ⟨Xv.out.c0, Xv.out.c1, Xv.out.c2, Xv.out.c3⟩ ?_
        clear hK
        refine wpJ_on 3 rfl fun KJ hK => ?_
        go_simp
        refine (rl_shl N12.out 1 (by decide)).mono ?_
        rintro en v13 ⟨p13, m13, rfl, hn13, hb13⟩
        replace Xfm : Hid _ := Xfm.out.below hb13
        replace Xv : Hid _ := Xv.out.below hb13
        replace N1 : Hid (RL v13 p1 m1 b) := N1.out.below hb13
        replace N2 : Hid (RL v13 p2 m2 d) := N2.out.below hb13
        replace N12 : Hid (RL v13 p12 m12 (man)) := N12.out.below hb13
        replace hbw := Below.on hbw hb13
        clear hb13
        have N13 : Hid (RX v13 p13 m13 (man * 2 ^ 1)) := hn13
        clear hn13
        refine hK _ _ ⟨Xv.out.c0, Xv.out.c1, Xv.out.c2, Xv.out.c3⟩ ?_
        clear hK
        refine wpJ_on 4 rfl fun KJ hK => ?_
        go_simp
        refine (rl_word 1 (by decide) _).mono ?_
        rintro en v14 ⟨p14, m14, rfl, hn14, hl14, hb14⟩
        replace Xfm : Hid _ := Xfm.out.below hb14
        replace Xv : Hid _ := Xv.out.below hb14
        replace N1 : Hid (RL v14 p1 m1 b) := N1.out.below hb14
        replace N2 : Hid (RL v14 p2 m2 d) := N2.out.below hb14
        replace N12 : Hid (RL v14 p12 m12 (man)) := N12.out.below hb14
        replace N13 : Hid (RX v14 p13 m13 (man * 2 ^ 1)) := N13.out.below hb14
        replace hbw := Below.on hbw hb14
        clear hb14
        have N14 : Hid (RL v14 p14 m14 (1)) := hn14
        have HL14 : Hid (m14 ≤ 2) := hl14
        clear hn14 hl14
        refine hK _ _ ⟨Xv.out.c0, Xv.out.c1, Xv.out.c2, Xv.out.c3⟩ ?_
        clear hK
        refine wpJ_on 5 rfl fun KJ hK => ?_
        go_simp
        refine (rl_add N13.out (by have := N13.out.len (K := 2) (b32_2 (by have := HM.out.1; omega)); omega) N14.out (K := 2) (by decide) (b32_2 (by have := HM.out.1; omega))).mono ?_
        rintro en v15 ⟨p15, m15, rfl, hn15, hl15, hb15⟩
        replace Xfm : Hid _ := Xfm.out.below hb15
        replace Xv : Hid _ := Xv.out.below hb15
        replace N1 : Hid (RL v15 p1 m1 b) := N1.out.below hb15
        replace N2 : Hid (RL v15 p2 m2 d) := N2.out.below hb15
        replace N12 : Hid (RL v15 p12 m12 (man)) := N12.out.below hb15
        replace N13 : Hid (RX v15 p13 m13 (man * 2 ^ 1)) := N13.out.below hb15
        replace N14 : Hid (RL v15 p14 m14 (1)) := N14.out.below hb15
        replace hbw := Below.on hbw hb15
        clear hb15
        have N15 : Hid (RL v15 p15 m15 (man * 2 ^ 1 + 1)) := hn15
        have HL15 : Hid (m15 ≤ 2) := hl15
        clear hn15 hl15
        refine hK _ _ ⟨Xv.out.c0, Xv.out.c1, Xv.out.c2, Xv.out.c3⟩ ?_
        clear hK
        refine wpJ_on 8 rfl fun KJ hK => ?_
        go_simp
        refine (HO.out (man * 2 ^ 1 + 1) q ex1 _ p15 m15 N15.out N1.out N2.out HL15.out HM.out.2.2.1 (by have := HM.out.2.1; omega)).mono ?_
        rintro e v16 ⟨rfl, hb16⟩
        rw [show (man * 2 ^ 1 + 1) * 2 ^ q = hv H lo by rw [← HM.out.2.2.2]; congr 1; omega, ← HCC.out]
        replace Xfm : Hid _ := Xfm.out.below hb16
        replace Xv : Hid _ := Xv.out.below hb16
        replace N1 : Hid (RL v16 p1 m1 b) := N1.out.below hb16
        replace N2 : Hid (RL v16 p2 m2 d) := N2.out.below hb16
        replace N12 : Hid (RL v16 p12 m12 (man)) := N12.out.below hb16
        replace N13 : Hid (RX v16 p13 m13 (man * 2 ^ 1)) := N13.out.below hb16
        replace N14 : Hid (RL v16 p14 m14 (1)) := N14.out.below hb16
        replace N15 : Hid (RL v16 p15 m15 (man * 2 ^ 1 + 1)) := N15.out.below hb16
        replace hbw := Below.on hbw hb16
        clear hb16
        clear HJ
        have HJ : Hid ((fun W' : World => W'.cell? ⟨gv, 0, none⟩ = some (.slice p1 m1 m1) ∧ W'.cell? ⟨gv, 1, none⟩ = some (.slice p2 m2 m2) ∧ W'.cell? ⟨gv, 2, none⟩ = some (.int .i64 f) ∧ W'.cell? ⟨gv, 3, none⟩ = some (.bool ro)) v16) := ⟨Xv.out.c0, Xv.out.c1, Xv.out.c2, Xv.out.c3⟩
        refine hK _ _ HJ.out ?_
        clear hK
        refine wpJ_tq 9 rfl HJ.out ?_
        go_simp
        refine wpJ_done (by kernel_rfl) ?_ _
        clear HJ
        have HT : Hid (∀ Z, Z = (if c < 0 ∨ (c = 0 ∧ lo % 2 = 1) then lo + 1 else lo) → Trc (fun z => cmpN A (g (hv H z))) I Z) := fun Z hZ => trc_lo HK.out.hH.1 HC.out.1 HLO.out.1 HLH.out.2.1 HLO.out.2 (by rw [← HCC.out]; exact hZ)
        have HC3 : c = -1 ∨ c = 0 ∨ c = 1 := by rw [HCC.out]; unfold cmpN; split; (exact .inl rfl); split; (exact .inr (.inl rfl)); exact .inr (.inr rfl)
        rcases HC3 with h1 | h1 | h1
        · subst h1
          clear HCC
          have w6 : IntKind.u64.wrap ((lo : Int) + 1) = ((lo + 1 : Nat) : Int) := ju5 (by have := HLH.out; omega) rfl
          go_wp2_with fail
          go_ret
          exact ⟨lo + 1, rfl, HT.out _ (by rw [if_pos (.inl (by decide))]), hbw⟩
        · subst h1
          clear HCC
          by_cases hod : lo % 2 = 1
          · have HOD : Hid (lo % 2 = 1) := hod
            have w7 : (lo : Int) % 2 = 1 := by omega
            clear hod
            have w6 : IntKind.u64.wrap ((lo : Int) + 1) = ((lo + 1 : Nat) : Int) := ju5 (by have := HLH.out; omega) rfl
            go_wp2_with fail
            go_ret
            exact ⟨lo + 1, rfl, HT.out _ (by rw [if_pos]; exact .inr ⟨by first | rfl | trivial, HOD.out⟩), hbw⟩
          · have HOD : Hid (¬ lo % 2 = 1) := hod
            have w7 : (lo : Int) % 2 = 0 := by omega
            clear hod
            go_wp2_with fail
            go_ret
            exact ⟨lo, rfl, HT.out _ (by rw [if_neg (by have := HOD.out; omega)]), hbw⟩
        · subst h1
          clear HCC
          go_wp2_with fail
          go_ret
          exact ⟨lo, rfl, HT.out _ (by rw [if_neg (by omega)]), hbw⟩
    | succ gj =>
      obtain ⟨d0, hd⟩ : ∃ d0, d0 = hi - lo := ⟨_, rfl⟩
      obtain ⟨d2, hd2⟩ : ∃ d2, d2 = d0 / 2 := ⟨_, rfl⟩
      obtain ⟨s, hs⟩ : ∃ s, s = lo + d2 := ⟨_, rfl⟩
      have hI9 := HLH.out
      have w1 : IntKind.u64.wrap ((hi : Int) - (lo : Int)) = (d0 : Int) := ju8 (by omega) hd (by omega)
      have w4 : IntKind.u64.wrap ((d0 : Int) / 2) = (d2 : Int) := ju6 (by omega) hd2
      have w2 : IntKind.u64.wrap ((lo : Int) + (d2 : Int)) = (s : Int) := ju7 (by omega) hs
      have w3 : decide ((1 : Int) < (d0 : Int)) = true := decide_eq_true (by omega)
      have HS : Hid (lo < s ∧ s < hi ∧ hi = lo + (gj + 1) + 1) := ⟨by omega, by omega, hgk⟩
      clear hgk hd hs hd2 hI9
      obtain ⟨q, hq⟩ : ∃ q, q = s / H - 1 := ⟨_, rfl⟩
      obtain ⟨man, hman⟩ : ∃ man, man = s - q * H := ⟨_, rfl⟩
      obtain ⟨ex, hex⟩ : ∃ ex : Int, ex = E + (q : Int) := ⟨_, rfl⟩
      have HPT := fun w => HK.out.pt s w (by have := HS.out; have := HLH.out; have := HK.out.hI; omega)
      simp only [← hq] at HPT
      simp only [← hman, ← hex] at HPT
      have HM : Hid (man < 9007199254740992 ∧ q ≤ 2046 ∧ ex = E - 1 + ((q + 1 : Nat) : Int) ∧ man * 2 ^ (q + 1) = 2 * vs H s) := ⟨by have := man_lt HK.out.hH.1 hq hman; have := HK.out.hH; omega, by rw [hq]; exact HK.out.qI s (by have := HS.out; have := HLH.out; omega), by omega, vs2 hq hman⟩
      have HPH : Hid (∀ w, Calls Tryz.prog 96 #[FV S P E G I Q, U s] w fun e w' => e = .returned (.tuple #[U man, .int .i64 ex]) ∧ Below w.heap.size w w') := HPT
      clear hq hman hex HPT
      obtain ⟨cfm0, cfm1, cfm2, cfm3, cfm4, cfm5, ffm0, ffm1, ffm2, ffm3, ffm4, ffm5⟩ := Xfm.out
      have hnefm : gfm < wr.heap.size := World.block_lt_of_cell? wr _ cfm0
      go_wp2_with fail
      clear cfm0 cfm1 cfm2 cfm3 cfm4 cfm5 ffm0 ffm1 ffm2 ffm3 ffm4 ffm5 hnefm
      refine (HPH.out _).mono ?_
      rintro e v1 ⟨rfl, hb1⟩
      replace Xfm : Hid _ := Xfm.out.below hb1
      replace Xv : Hid _ := Xv.out.below hb1
      replace N1 : Hid (RL v1 p1 m1 b) := N1.out.below hb1
      replace N2 : Hid (RL v1 p2 m2 d) := N2.out.below hb1
      replace hbw := Below.on hbw hb1
      clear hb1
      obtain ⟨cfm0, cfm1, cfm2, cfm3, cfm4, cfm5, ffm0, ffm1, ffm2, ffm3, ffm4, ffm5⟩ := Xfm.out
      have hnefm : gfm < v1.heap.size := World.block_lt_of_cell? v1 _ cfm0
      go_wp2_with fail
      clear cfm0 cfm1 cfm2 cfm3 cfm4 cfm5 ffm0 ffm1 ffm2 ffm3 ffm4 ffm5 hnefm
      obtain ⟨c, hc⟩ : ∃ c, c = cmpN (g (2 * vs H s)) A := ⟨_, rfl⟩
      have HCC : Hid (c = cmpN (g (2 * vs H s)) A) := hc
      clear hc
      obtain ⟨V6, hV6⟩ : ∃ W1, W1 = v1.drew := ⟨_, rfl⟩
      have hbd : Below v1.heap.size v1 V6 := by rw [hV6]; exact bDrew1 (Below.refl _ _)
      replace Xfm : Hid _ := Xfm.out.below hbd
      replace Xv : Hid _ := Xv.out.below hbd
      replace N1 : Hid (RL V6 p1 m1 b) := N1.out.below hbd
      replace N2 : Hid (RL V6 p2 m2 d) := N2.out.below hbd
      replace hbw := Below.on hbw hbd
      clear hbd
      have HJ : Hid ((fun W' : World => W'.cell? ⟨gv, 0, none⟩ = some (.slice p1 m1 m1) ∧ W'.cell? ⟨gv, 1, none⟩ = some (.slice p2 m2 m2) ∧ W'.cell? ⟨gv, 2, none⟩ = some (.int .i64 f) ∧ W'.cell? ⟨gv, 3, none⟩ = some (.bool ro)) V6) := ⟨Xv.out.c0, Xv.out.c1, Xv.out.c2, Xv.out.c3⟩
      refine wp_region_J (fun W' => W'.cell? ⟨gv, 0, none⟩ = some (.slice p1 m1 m1) ∧ W'.cell? ⟨gv, 1, none⟩ = some (.slice p2 m2 m2) ∧ W'.cell? ⟨gv, 2, none⟩ = some (.int .i64 f) ∧ W'.cell? ⟨gv, 3, none⟩ = some (.bool ro)) (by kernel_rfl) ?_
      rw [← hV6]
      clear hV6
      refine wpJ_tq 0 rfl HJ.out ?_
      refine wpJ_tq 1 rfl HJ.out ?_
      refine wpJ_tq 3 rfl HJ.out ?_
      refine wpJ_on 2 rfl fun KJ hK => ?_
      go_simp
      refine (rl_word man (b64_9 (by have := HM.out.1; omega)) _).mono ?_
      rintro en v9 ⟨p9, m9, rfl, hn9, hl9, hb9⟩
      replace Xfm : Hid _ := Xfm.out.below hb9
      replace Xv : Hid _ := Xv.out.below hb9
      replace N1 : Hid (RL v9 p1 m1 b) := N1.out.below hb9
      replace N2 : Hid (RL v9 p2 m2 d) := N2.out.below hb9
      replace hbw := Below.on hbw hb9
      clear hb9
      have N9 : Hid (RL v9 p9 m9 (man)) := hn9
      have HL9 : Hid (m9 ≤ 2) := hl9
      clear hn9 hl9
      refine hK _ _ ⟨Xv.out.c0, Xv.out.c1, Xv.out.c2, Xv.out.c3⟩ ?_
      clear hK
      refine wpJ_on 4 rfl fun KJ hK => ?_
      go_simp
      refine (HO.out man (q + 1) ex _ p9 m9 N9.out N1.out N2.out HL9.out HM.out.2.2.1 (by have := HM.out.2.1; omega)).mono ?_
      rintro e v3 ⟨rfl, hb3⟩
      rw [HM.out.2.2.2, ← HCC.out]
      replace Xfm : Hid _ := Xfm.out.below hb3
      replace Xv : Hid _ := Xv.out.below hb3
      replace N1 : Hid (RL v3 p1 m1 b) := N1.out.below hb3
      replace N2 : Hid (RL v3 p2 m2 d) := N2.out.below hb3
      replace N9 : Hid (RL v3 p9 m9 (man)) := N9.out.below hb3
      replace hbw := Below.on hbw hb3
      clear hb3
      clear HJ
      have HJ : Hid ((fun W' : World => W'.cell? ⟨gv, 0, none⟩ = some (.slice p1 m1 m1) ∧ W'.cell? ⟨gv, 1, none⟩ = some (.slice p2 m2 m2) ∧ W'.cell? ⟨gv, 2, none⟩ = some (.int .i64 f) ∧ W'.cell? ⟨gv, 3, none⟩ = some (.bool ro)) v3) := ⟨Xv.out.c0, Xv.out.c1, Xv.out.c2, Xv.out.c3⟩
      refine hK _ _ HJ.out ?_
      clear hK
      refine wpJ_tq 5 rfl HJ.out ?_
      go_simp
      refine wpJ_done (by kernel_rfl) ?_ _
      clear HJ
      by_cases hv : g (2 * vs H s) ≤ A
      · have hc0 : decide (c ≤ 0) = true := decide_eq_true (by rw [HCC.out]; exact (cmpN_le0 _ _).2 hv)
        have hc1 : c ≤ 0 := of_decide_eq_true hc0
        have HV : Hid (g (2 * vs H s) ≤ A) := hv
        clear hv
        go_wp2_with fail
        go_roundg (hi - s - 1)
        case measure => have := HS.out; omega
        case rel => exact ⟨s, hi, rfl, rfl, by have := HS.out; omega, by have := HS.out; have := HLH.out.1; omega, HV.out, HLH.out.2.2.1, Xfm.out, Xv.out, N1.out, N2.out, hbw⟩
      · have hc0 : decide (c ≤ 0) = false := decide_eq_false (by rw [HCC.out, cmpN_le0]; exact hv)
        have hc1 : ¬ c ≤ 0 := of_decide_eq_false hc0
        have HV : Hid (A < g (2 * vs H s)) := Nat.lt_of_not_le hv
        clear hv
        go_wp2_with fail
        go_roundg (s - lo - 1)
        case measure => have := HS.out; omega
        case rel => exact ⟨lo, s, rfl, rfl, by have := HS.out; omega, by have := HS.out; have := HLH.out.1; omega, HLH.out.2.1, (.inr HV.out), Xfm.out, Xv.out, N1.out, N2.out, hbw⟩
structure Jn (f p m l : Int) (S I H sd : Nat) (Be : Int) : Prop where
  jm : Jm f p m l S I H sd Be
  hI : (I : Int) = (Be - l - sd + 1) * ((2 ^ sd : Nat) : Int)
  hB : 0 < Be - l - sd
  hS : S % 2 = 0
  hB9 : Be - l - sd ≤ 2046
  cl : ∀ (b : Nat) w, b < 2 * S → Calls Tryz.prog 18 #[.int .i64 f, U b] w fun en w' => en = .returned (.tuple #[.int .i64 (clsN H I (b % S)), .int .i64 0]) ∧ Below w.heap.size w w'
theorem jn_32 : Jn 32 32 24 (-149) 2147483648 2139095040 8388608 23 128 := ⟨jm_32, by decide, by decide, by decide, by decide, fun b w hb => clsof_32 b hb w⟩
theorem jn_64 : Jn 64 64 53 (-1074) 9223372036854775808 9218868437227405312 4503599627370496 52 1024 := ⟨jm_64, by decide, by decide, by decide, by decide, fun b w hb => clsof_64 b hb w⟩
def rnp (l : Int) (sd : Nat) (Be : Int) (S I : Nat) (x e : Int) : Nat :=
  if x = 0 then 0 else if x < 0 then S + rnz l sd Be I x.natAbs e else rnz l sd Be I x.natAbs e
theorem RNz.nought {H : Nat} {l : Int} {I : Nat} (hH : 0 < H) (hl : -4194303 ≤ l) : RNz H l I 0 0 := by
  have := RNz.exact (H := H) (l := l) (I := I) (Z := 0) hH hl (Nat.zero_le _)
  rwa [vs_zero, show ((0 : Nat) : Int) = 0 from rfl, dv_zero] at this
theorem mid_dv {H : Nat} {l : Int} (z : Nat) (hl : -4194303 ≤ l) : dv ((2 * (z - (z / H - 1) * H) + 1 : Nat) : Int) (l + ((z / H - 1 : Nat) : Int) - 1) = dv (hv H z : Int) (l - 1) := by
  have h1 := dv_up (x := ((2 * (z - (z / H - 1) * H) + 1 : Nat) : Int)) (e := l - 1) (z / H - 1) (by omega)
  rw [show l - 1 + ((z / H - 1 : Nat) : Int) = l + ((z / H - 1 : Nat) : Int) - 1 from by omega] at h1
  rw [h1, ← Int.natCast_mul]
  congr 2
  unfold hv vs
  rw [Nat.add_mul, Nat.one_mul, Nat.mul_assoc]
theorem RNz.cell {H : Nat} {l : Int} {I : Nat} {A : Int} {Z : Nat} (h : RNz H l I A Z) (h0 : Z ≠ 0) (h1 : Z < I) :
    dv (hv H (Z - 1) : Int) (l - 1) ≤ A ∧ A ≤ dv (hv H Z : Int) (l - 1) ∧ (Z % 2 = 1 → dv (hv H (Z - 1) : Int) (l - 1) < A ∧ A < dv (hv H Z : Int) (l - 1)) := by
  have a1 : ¬ A < dv (hv H (Z - 1) : Int) (l - 1) := fun h2 => by have := h.lo _ (by omega) h2; omega
  have a2 : ¬ dv (hv H Z : Int) (l - 1) < A := fun h2 => by have := h.hi _ h1 h2; omega
  refine ⟨by omega, by omega, fun ho => ⟨?_, ?_⟩⟩
  · rcases Int.lt_or_eq_of_le (Int.not_lt.1 a1) with h2 | h2
    · exact h2
    · have := h.eq (Z - 1) (by omega) h2.symm; omega
  · rcases Int.lt_or_eq_of_le (Int.not_lt.1 a2) with h2 | h2
    · exact h2
    · have := h.eq Z h1 h2; omega
theorem RNz.none {H : Nat} {l : Int} {I : Nat} {A : Int} (h : RNz H l I A 0) (hI : 0 < I) : A ≤ dv (hv H 0 : Int) (l - 1) :=
  Int.not_lt.1 fun h2 => by have := h.hi 0 hI h2; omega
theorem RNz.all {H : Nat} {l : Int} {I : Nat} {A : Int} (h : RNz H l I A I) (hI : 0 < I) : dv (hv H (I - 1) : Int) (l - 1) ≤ A :=
  Int.not_lt.1 fun h2 => by have := h.lo (I - 1) (by omega) h2; omega
theorem rn_of {f p m l : Int} {S I H sd : Nat} {Be : Int} (J : Jn f p m l S I H sd Be) {n : Nat} {e : Int} (hn : n ≠ 0) (he : -4194304 ≤ e) : RNz H l I (dv n e) (rnz l sd Be I n e) := by
  have := rnz_ok J.hI J.jm.sl.1 J.hB (by have := J.jm.pm.lo; omega) hn he
  rwa [← J.jm.hs] at this
theorem rnp_is {f p m l : Int} {S I H sd : Nat} {Be : Int} (J : Jn f p m l S I H sd Be) (x e : Int) (he : -4194304 ≤ e) :
    ∃ Z, Z ≤ I ∧ RNz H l I (dv x.natAbs e) Z ∧ rnp l sd Be S I x e = (if x < 0 then S + Z else Z) ∧ rnp l sd Be S I x e < 2 * S ∧ rnp l sd Be S I x e % S = Z ∧ decide (S ≤ rnp l sd Be S I x e) = decide (x < 0) ∧ rnp l sd Be S I x e % 2 = Z % 2 := by
  have hlt := J.jm.pm.fm.lt
  have hS := J.hS
  by_cases h0 : x = 0
  · refine ⟨0, by omega, ?_, ?_⟩
    · rw [h0]
      have : dv ((0 : Int).natAbs : Int) e = 0 := dv_zero e
      rw [this]
      exact RNz.nought J.jm.pm.hp (by have := J.jm.pm.lo; omega)
    · unfold rnp
      rw [if_pos h0, if_neg (by omega)]
      exact ⟨rfl, by omega, Nat.zero_mod _, by rw [decide_eq_false (by omega), decide_eq_false (by omega)], rfl⟩
  · have hR := rn_of J (n := x.natAbs) (e := e) (by omega) he
    obtain ⟨Z, hZ⟩ : ∃ Z, Z = rnz l sd Be I x.natAbs e := ⟨_, rfl⟩
    rw [← hZ] at hR
    refine ⟨Z, hR.le, hR, ?_⟩
    unfold rnp
    rw [if_neg h0, ← hZ]
    have hle := hR.le
    by_cases hx : x < 0
    · rw [if_pos hx]
      refine ⟨rfl, by omega, ?_, ?_, by omega⟩
      · rw [Nat.add_mod_left, Nat.mod_eq_of_lt (by omega)]
      · rw [decide_eq_true hx, decide_eq_true (by omega)]
    · rw [if_neg hx]
      refine ⟨rfl, by omega, Nat.mod_eq_of_lt (by omega), ?_, rfl⟩
      rw [decide_eq_false hx, decide_eq_false (by omega)]
theorem Own.word {B : Nat} {w : World} {p : Option Addr} {m y : Nat} {zs : List Nat} (ho : Own B w p m zs) (hn : Nf B64 zs y) (hy : y < B64) :
    (y = 0 ∧ m = 0) ∨ (y ≠ 0 ∧ m = 1 ∧ ∃ g, p = some ⟨g, 0, none⟩ ∧ B ≤ g ∧ w.cell? ⟨g, 0, none⟩ = some (U y)) := by
  have hl := ho.len
  have h1 : zs.length ≤ 1 := (hn.len_le B64_one (k := 1)).2 (by rw [Nat.pow_one]; exact hy)
  rcases Nat.eq_zero_or_pos m with h0 | h0
  · left
    rw [h0] at hl
    have := hn.val
    rw [List.eq_nil_of_length_eq_zero hl] at this
    exact ⟨this.symm, h0⟩
  · right
    have hm1 : m = 1 := by omega
    subst hm1
    obtain ⟨a, rfl⟩ : ∃ a, zs = [a] := List.length_eq_one_iff.1 hl
    have hv : a = y := by have := hn.val; simpa [valB] using this
    obtain ⟨g, hp, hB, hc⟩ := ho.mem.resolve_left (by omega)
    refine ⟨?_, rfl, g, hp, hB, ?_⟩
    · intro h9
      have h8 : ([a] : List Nat) = [] := hn.inj B64_one (by rw [h9]; exact Nf.nil _)
      cases h8
    · have := hc.cell 0 (by omega)
      rw [Nat.add_zero] at this
      rw [this]
      simp [hv]
theorem multiple_n {p : Option Addr} {m c : Nat} {w : World} {x : Int} {s : Bool} (h : ZN w s p m c x) (k r : Nat) (n : Int) (hn : n = -(k : Int)) (hk : 0 < k ∧ k ≤ 4611686018427387904) (hr : r = neN x.natAbs (2 ^ k)) (hl : r < B64) (hT : Tab w) :
    Calls Tryz.prog 50 #[ZV s p m c, .int .i64 n] w fun en w' => en = .returned (U r) ∧ Below w.heap.size w w' := by
  have H : Hid (ZN w s p m c x) := h
  have HV : Hid (r < B64 ∧ r = neN x.natAbs (2 ^ k) ∧ k ≤ 9223372036854775807) := ⟨hl, hr, by omega⟩
  have TB : Hid (Tab w) := hT
  have d1 : decide (n < 0) = true := decide_eq_true (by omega)
  have d2 : wrap64 (-n) = (k : Int) := by rw [hn]; simp only [wrap64]; omega
  have d3 : IntKind.i64.wrap (-n) = (k : Int) := by rw [hn]; simp [IntKind.wrap, IntKind.signed, IntKind.bits]; omega
  clear h hr hl hT hn hk
  go_enter Tryz.func50, Tryz.ntmps50
  go_wp2_with fail
  obtain ⟨W0, hW0⟩ : ∃ W0, W0 = (w.alloc (.cells #[.bool s, .slice p m c] 31)) := ⟨_, rfl⟩
  have Xm : Hid (Box W0 (w.heap.size) (.bool s) (.slice p m c)) := by rw [hW0]; exact ⟨by go_simp, by go_simp, by go_simp, by go_simp⟩
  have hb0 : Below w.heap.size w W0 := by rw [hW0]; exact below1 w _
  rw [← hW0]
  clear hW0
  have hbw : Below w.heap.size w w := Below.refl _ _
  obtain ⟨gm, hgm⟩ : ∃ g, g = w.heap.size := ⟨_, rfl⟩
  have HGm : Hid (w.heap.size ≤ gm) := by rw [hgm]; show _ ≤ _; omega
  rw [← hgm] at Xm
  try rw [← hgm]
  clear hgm
  replace hbw := Below.on hbw hb0
  clear hb0
  have HL : Hid (gm < W0.heap.size) := Xm.out.lt
  obtain ⟨xs, hX⟩ := (H.out.below hbw).ex
  refine (rshr_any s hX H.out.pos k HV.out.2.2 (TB.out.below hbw)).mono ?_
  rintro e2 v1 ⟨v, rfl, hv, hb1⟩
  obtain ⟨p1, m1, z1, rfl, ho1, hn1, hm1⟩ := hv
  rw [show (ne s x.natAbs (2 ^ k)).natAbs = r from by rw [HV.out.2.1]; exact iv_natAbs _ _] at hn1
  generalize decide (ne s x.natAbs (2 ^ k) < 0) = s1
  clear hX
  replace Xm : Hid _ := Xm.out.below hb1
  replace hbw := Below.on hbw hb1
  clear hb1
  have HO : Hid (Own W0.heap.size v1 p1 m1 z1) := ho1
  have HN : Hid (Nf B64 z1 r ∧ m1 ≤ 8192) := ⟨hn1, hm1⟩
  clear ho1 hn1 hm1
  rcases HO.out.word HN.out.1 HV.out.1 with ⟨h0, h1⟩ | ⟨h0, h1, g1, h2, hg1, h3⟩
  · subst h1
    have hr0 : r = 0 := h0
    clear HV
    subst hr0
    obtain ⟨cm0, cm1, fm0, fm1⟩ := Xm.out
    have hnem := Xm.out.lt
    go_wp2_with fail
    go_ret
    exact ⟨rfl, bSet (bSet hbw _ _ _ HGm.out) _ _ _ HGm.out⟩
  · subst h1
    subst h2
    have hgm : gm ≠ g1 := by have := HL.out; omega
    have hgm2 : g1 ≠ gm := fun h => hgm h.symm
    have hg2 : g1 < v1.heap.size := World.block_lt_of_cell? v1 _ h3
    obtain ⟨cm0, cm1, fm0, fm1⟩ := Xm.out
    have hnem := Xm.out.lt
    go_wp2_with fail
    go_ret
    exact ⟨rfl, bSet (bSet hbw _ _ _ HGm.out) _ _ _ HGm.out⟩
theorem multiple_p {p : Option Addr} {m c : Nat} {w : World} {x : Int} {s : Bool} (h : ZN w s p m c x) (k r : Nat) (n : Int) (hn : n = (k : Int)) (hk : k ≤ 4611686018427387904) (hr : r = x.natAbs * 2 ^ k) (hl : r < B64) :
    Calls Tryz.prog 50 #[ZV s p m c, .int .i64 n] w fun en w' => en = .returned (U r) ∧ Below w.heap.size w w' := by
  have H : Hid (ZN w s p m c x) := h
  have HV : Hid (r < B64 ∧ r = x.natAbs * 2 ^ k ∧ k ≤ 9223372036854775807) := ⟨hl, hr, by omega⟩
  have d1 : decide (n < 0) = false := decide_eq_false (by omega)
  subst hn
  clear h hr hl hk
  go_enter Tryz.func50, Tryz.ntmps50
  go_wp2_with fail
  obtain ⟨W0, hW0⟩ : ∃ W0, W0 = (w.alloc (.cells #[.bool s, .slice p m c] 31)) := ⟨_, rfl⟩
  have Xm : Hid (Box W0 (w.heap.size) (.bool s) (.slice p m c)) := by rw [hW0]; exact ⟨by go_simp, by go_simp, by go_simp, by go_simp⟩
  have hb0 : Below w.heap.size w W0 := by rw [hW0]; exact below1 w _
  rw [← hW0]
  clear hW0
  have hbw : Below w.heap.size w w := Below.refl _ _
  obtain ⟨gm, hgm⟩ : ∃ g, g = w.heap.size := ⟨_, rfl⟩
  have HGm : Hid (w.heap.size ≤ gm) := by rw [hgm]; show _ ≤ _; omega
  rw [← hgm] at Xm
  try rw [← hgm]
  clear hgm
  replace hbw := Below.on hbw hb0
  clear hb0
  have HL : Hid (gm < W0.heap.size) := Xm.out.lt
  obtain ⟨xs, hX⟩ := (H.out.below hbw).ex
  refine (nshl_any s hX H.out.pos k HV.out.2.2).mono ?_
  rintro e2 v1 ⟨ha, hb1⟩
  obtain ⟨p1, m1, z1, rfl, ho1, hn1, hm1⟩ := ha.ok (lt_LIM (L := 64) (by rw [iv_natAbs, Nat.mul_comm, ← HV.out.2.1]; exact HV.out.1) (by decide))
  clear ha
  rw [show (iv s (2 ^ k * x.natAbs)).natAbs = r from by rw [iv_natAbs, HV.out.2.1, Nat.mul_comm]] at hn1
  generalize decide (iv s (2 ^ k * x.natAbs) < 0) = s1
  clear hX
  replace Xm : Hid _ := Xm.out.below hb1
  replace hbw := Below.on hbw hb1
  clear hb1
  have HO : Hid (Own W0.heap.size v1 p1 m1 z1) := ho1
  have HN : Hid (Nf B64 z1 r ∧ m1 ≤ 8192) := ⟨hn1, hm1⟩
  clear ho1 hn1 hm1
  rcases HO.out.word HN.out.1 HV.out.1 with ⟨h0, h1⟩ | ⟨h0, h1, g1, h2, hg1, h3⟩
  · subst h1
    have hr0 : r = 0 := h0
    clear HV
    subst hr0
    obtain ⟨cm0, cm1, fm0, fm1⟩ := Xm.out
    have hnem := Xm.out.lt
    go_wp2_with fail
    go_ret
    exact ⟨rfl, bSet (bSet hbw _ _ _ HGm.out) _ _ _ HGm.out⟩
  · subst h1
    subst h2
    have hgm : gm ≠ g1 := by have := HL.out; omega
    have hgm2 : g1 ≠ gm := fun h => hgm h.symm
    have hg2 : g1 < v1.heap.size := World.block_lt_of_cell? v1 _ h3
    obtain ⟨cm0, cm1, fm0, fm1⟩ := Xm.out
    have hnem := Xm.out.lt
    go_wp2_with fail
    go_ret
    exact ⟨rfl, bSet (bSet hbw _ _ _ HGm.out) _ _ _ HGm.out⟩
theorem nearest_z {f p m l : Int} {S I H sd : Nat} {Be : Int} (_J : Jn f p m l S I H sd Be) {q : Option Addr} {n c : Nat} {w : World} {x e : Int} {s : Bool} (h : ZN w s q n c x) (h0 : x = 0) :
    Calls Tryz.prog 23 #[WV p m l, ZV s q n c, .int .i64 e] w fun en w' => en = .returned (U (rnp l sd Be S I x e)) ∧ Below w.heap.size w w' := by
  have HZN : Hid (ZN w s q n c x) := h
  have h1 : rnp l sd Be S I x e = 0 := by unfold rnp; rw [if_pos h0]
  have HS : Hid (sgnI x = 0) := by rw [h0]; rfl
  rw [h1]
  clear _J h h0 h1
  go_enter Tryz.func23, Tryz.ntmps23
  go_wp2_with fail
  obtain ⟨W0, hW0⟩ : ∃ W0, W0 = ((w.alloc (.cells #[.int .i64 p, .int .i64 m, .int .i64 l] 47)).alloc (.cells #[.bool s, .slice q n c] 31)) := ⟨_, rfl⟩
  have Xg : Hid (B3q W0 (w.heap.size) (.int .i64 p) (.int .i64 m) (.int .i64 l)) := by rw [hW0]; exact ⟨by go_simp, by go_simp, by go_simp, by go_simp, by go_simp, by go_simp⟩
  have Xm : Hid (Box W0 (w.heap.size + 1) (.bool s) (.slice q n c)) := by rw [hW0]; exact ⟨by go_simp, by go_simp, by go_simp, by go_simp⟩
  have hb0 : Below w.heap.size w W0 := by rw [hW0]; exact below2 w _ _
  rw [← hW0]
  clear hW0
  have hbw : Below w.heap.size w w := Below.refl _ _
  obtain ⟨gm, hgm⟩ : ∃ g, g = w.heap.size + 1 := ⟨_, rfl⟩
  have HGm : Hid (w.heap.size ≤ gm) := by rw [hgm]; show _ ≤ _; omega
  rw [← hgm] at Xm
  try rw [← hgm]
  obtain ⟨gg, hgg⟩ : ∃ g, g = w.heap.size := ⟨_, rfl⟩
  have HGg : Hid (w.heap.size ≤ gg) := by rw [hgg]; show _ ≤ _; omega
  rw [← hgg] at Xg
  try rw [← hgg]
  have HGD : Hid (gg ≠ gm ∧ gm ≠ gg) := by rw [hgg, hgm]; exact ⟨by omega, by omega⟩
  clear hgg hgm
  replace hbw := Below.on hbw hb0
  clear hb0
  refine (zsign (HZN.out.below hbw)).mono ?_
  rintro e v1 ⟨rfl, hb1⟩
  rw [HS.out]
  replace Xg : Hid _ := Xg.out.below hb1
  replace Xm : Hid _ := Xm.out.below hb1
  replace hbw := Below.on hbw hb1
  clear hb1
  obtain ⟨cm0, cm1, fm0, fm1⟩ := Xm.out
  have hnem := Xm.out.lt
  go_wp2_with fail
  clear cm0 cm1 fm0 fm1 hnem
  go_ret
  exact ⟨rfl, hbw⟩
theorem nearest_b {f p m l : Int} {S I H sd : Nat} {Be : Int} (J : Jn f p m l S I H sd Be) {q : Option Addr} {n c : Nat} {w : World} {x e : Int} {s : Bool} (h : ZN w s q n c x) (he : -4194304 ≤ e ∧ e ≤ 4194304) (h0 : x ≠ 0) (ht : Be ≤ e + bitsN x.natAbs - 1) :
    Calls Tryz.prog 23 #[WV p m l, ZV s q n c, .int .i64 e] w fun en w' => en = .returned (U (rnp l sd Be S I x e)) ∧ Below w.heap.size w w' := by
  have HZN : Hid (ZN w s q n c x) := h
  have HJN : Hid (Jn f p m l S I H sd Be) := J
  have hsg : (sgnI x == 0) = false := by
    have : sgnI x ≠ 0 := by rcases sgn3 x with ⟨_, h2⟩ | ⟨h1, _⟩ | ⟨_, h2⟩ <;> omega
    simp [this]
  obtain ⟨sx, hsx⟩ : ∃ sx, sx = sgnI x := ⟨_, rfl⟩
  rw [← hsx] at hsg
  have HSX : Hid (sgnI x = sx) := hsx.symm
  have hbn := (lim_bits x.natAbs).1 h.lim
  have hb0 := bitsN_pos (a := x.natAbs) (by omega)
  have hB1 := bitsN_lt x.natAbs
  have hB2 := bitsN_le x.natAbs (by omega)
  obtain ⟨L, hL⟩ : ∃ L, L = bitsN x.natAbs := ⟨_, rfl⟩
  rw [← hL] at ht
  have HLB : Hid (bitsN x.natAbs = L) := hL.symm
  obtain ⟨s1, hs1⟩ : ∃ s1 : Int, s1 = e + L := ⟨_, rfl⟩
  obtain ⟨top, htop⟩ : ∃ t : Int, t = s1 - 1 := ⟨_, rfl⟩
  rw [← hL] at hbn hb0 hB1 hB2
  have a1 : wrap64 (e + (L : Int)) = s1 := by rw [hs1]; simp only [wrap64]; omega
  have a2 : IntKind.i64.wrap (e + (L : Int)) = s1 := by rw [hs1]; simp [IntKind.wrap, IntKind.signed, IntKind.bits]; omega
  have a3 : wrap64 (s1 - 1) = top := by rw [htop]; simp only [wrap64]; omega
  have a4 : IntKind.i64.wrap (s1 - 1) = top := by rw [htop]; simp [IntKind.wrap, IntKind.signed, IntKind.bits]; omega
  have hneg : decide (x < 0) = s := h.sg.symm
  have d1 : decide (Be ≤ top) = true := decide_eq_true (by omega)
  obtain ⟨r, hr⟩ : ∃ r, r = rnp l sd Be S I x e := ⟨_, rfl⟩
  have HR : Hid ((if s then S + I else I) = r) := by
    show (if s then S + I else I) = r
    rw [hr]; unfold rnp rnz
    rw [if_neg h0, ← hL, if_pos (show Be ≤ e + L - 1 by omega), ← hneg]
    by_cases hx : x < 0
    · rw [decide_eq_true hx, if_pos rfl, if_pos hx]
    · rw [decide_eq_false hx, if_neg (by simp), if_neg hx]
  have HIS : Hid (I < S) := J.jm.pm.fm.lt
  rw [← hr]
  clear J h h0 hsx hbn hb0 hB1 hB2 hL hs1 htop hneg hr ht he
  go_enter Tryz.func23, Tryz.ntmps23
  go_wp2_with fail
  obtain ⟨W0, hW0⟩ : ∃ W0, W0 = ((w.alloc (.cells #[.int .i64 p, .int .i64 m, .int .i64 l] 47)).alloc (.cells #[.bool s, .slice q n c] 31)) := ⟨_, rfl⟩
  have Xg : Hid (B3q W0 (w.heap.size) (.int .i64 p) (.int .i64 m) (.int .i64 l)) := by rw [hW0]; exact ⟨by go_simp, by go_simp, by go_simp, by go_simp, by go_simp, by go_simp⟩
  have Xm : Hid (Box W0 (w.heap.size + 1) (.bool s) (.slice q n c)) := by rw [hW0]; exact ⟨by go_simp, by go_simp, by go_simp, by go_simp⟩
  have hb0 : Below w.heap.size w W0 := by rw [hW0]; exact below2 w _ _
  rw [← hW0]
  clear hW0
  have hbw : Below w.heap.size w w := Below.refl _ _
  obtain ⟨gm, hgm⟩ : ∃ g, g = w.heap.size + 1 := ⟨_, rfl⟩
  have HGm : Hid (w.heap.size ≤ gm) := by rw [hgm]; show _ ≤ _; omega
  rw [← hgm] at Xm
  try rw [← hgm]
  obtain ⟨gg, hgg⟩ : ∃ g, g = w.heap.size := ⟨_, rfl⟩
  have HGg : Hid (w.heap.size ≤ gg) := by rw [hgg]; show _ ≤ _; omega
  rw [← hgg] at Xg
  try rw [← hgg]
  have HGD : Hid (gg ≠ gm ∧ gm ≠ gg) := by rw [hgg, hgm]; exact ⟨by omega, by omega⟩
  clear hgg hgm
  replace hbw := Below.on hbw hb0
  clear hb0
  refine (zsign (HZN.out.below hbw)).mono ?_
  rintro e v1 ⟨rfl, hb1⟩
  rw [HSX.out]
  replace Xg : Hid _ := Xg.out.below hb1
  replace Xm : Hid _ := Xm.out.below hb1
  replace hbw := Below.on hbw hb1
  clear hb1
  obtain ⟨cm0, cm1, fm0, fm1⟩ := Xm.out
  have hnem := Xm.out.lt
  go_wp2_with fail
  clear cm0 cm1 fm0 fm1 hnem
  obtain ⟨xs, hX⟩ := (HZN.out.below hbw).ex
  refine (bits_any hX.at_ (by have := hX.le; omega)).mono ?_
  rintro e2 v2 ⟨rfl, hw⟩
  obtain rfl := hw.symm
  clear hw
  rw [hX.nf.val, HLB.out]
  clear hX
  obtain ⟨cg0, cg1, cg2, fg0, fg1, fg2⟩ := Xg.out
  have hneg : gg < v1.heap.size := World.block_lt_of_cell? v1 _ cg0
  go_wp2_with fail
  clear cg0 cg1 cg2 fg0 fg1 fg2 hneg
  refine (HJN.out.jm.be _).mono ?_
  rintro e v3 ⟨rfl, hb3⟩
  replace Xg : Hid _ := Xg.out.below hb3
  replace Xm : Hid _ := Xm.out.below hb3
  replace hbw := Below.on hbw hb3
  clear hb3
  obtain ⟨cg0, cg1, cg2, fg0, fg1, fg2⟩ := Xg.out
  have hneg : gg < v3.heap.size := World.block_lt_of_cell? v3 _ cg0
  obtain ⟨cm0, cm1, fm0, fm1⟩ := Xm.out
  have hnem := Xm.out.lt
  go_wp2_with fail
  clear cg0 cg1 cg2 fg0 fg1 fg2 hneg
  clear cm0 cm1 fm0 fm1 hnem
  obtain ⟨W5, hW5⟩ : ∃ W1, W1 = v3.drew := ⟨_, rfl⟩
  have hbd : Below v3.heap.size v3 W5 := by rw [hW5]; exact bDrew1 (Below.refl _ _)
  replace Xg : Hid _ := Xg.out.below hbd
  replace Xm : Hid _ := Xm.out.below hbd
  replace hbw := Below.on hbw hbd
  clear hbd
  have HJ : Hid ((fun W' : World => W'.cell? ⟨gg, 0, none⟩ = some (.int .i64 p) ∧ W'.cell? ⟨gg, 1, none⟩ = some (.int .i64 m) ∧ W'.cell? ⟨gg, 2, none⟩ = some (.int .i64 l) ∧ W'.cell? ⟨gm, 0, none⟩ = some (.bool s)) W5) := ⟨Xg.out.c0, Xg.out.c1, Xg.out.c2, Xm.out.c0⟩
  refine wp_region_J (fun W' => W'.cell? ⟨gg, 0, none⟩ = some (.int .i64 p) ∧ W'.cell? ⟨gg, 1, none⟩ = some (.int .i64 m) ∧ W'.cell? ⟨gg, 2, none⟩ = some (.int .i64 l) ∧ W'.cell? ⟨gm, 0, none⟩ = some (.bool s)) (by kernel_rfl) ?_
  rw [← hW5]
  clear hW5
  refine wpJ_tq 0 rfl HJ.out ?_
  refine wpJ_tq 1 rfl HJ.out ?_
  refine wpJ_tq 2 rfl HJ.out ?_
  refine wpJ_tq 3 rfl HJ.out ?_
  refine wpJ_on 4 rfl fun KJ hK => ?_
  go_simp
  refine (HJN.out.jm.pm.fm.inf _).mono ?_
  rintro e v5 ⟨rfl, hb5⟩
  replace Xg : Hid _ := Xg.out.below hb5
  replace Xm : Hid _ := Xm.out.below hb5
  replace hbw := Below.on hbw hb5
  clear hb5
  refine hK _ _ ⟨Xg.out.c0, Xg.out.c1, Xg.out.c2, Xm.out.c0⟩ ?_
  clear hK
  refine wpJ_on 5 rfl fun KJ hK => ?_
  go_simp
  refine (HJN.out.jm.pm.fm.sgn s I _ HIS.out).mono ?_
  rintro e v6 ⟨rfl, hb6⟩
  rw [HR.out]
  replace Xg : Hid _ := Xg.out.below hb6
  replace Xm : Hid _ := Xm.out.below hb6
  replace hbw := Below.on hbw hb6
  clear hb6
  clear HJ
  have HJ : Hid ((fun W' : World => W'.cell? ⟨gg, 0, none⟩ = some (.int .i64 p) ∧ W'.cell? ⟨gg, 1, none⟩ = some (.int .i64 m) ∧ W'.cell? ⟨gg, 2, none⟩ = some (.int .i64 l) ∧ W'.cell? ⟨gm, 0, none⟩ = some (.bool s)) v6) := ⟨Xg.out.c0, Xg.out.c1, Xg.out.c2, Xm.out.c0⟩
  refine hK _ _ HJ.out ?_
  clear hK
  refine wpJ_tq 6 rfl HJ.out ?_
  refine wpJ_done (by kernel_rfl) ?_ _
  clear HJ
  go_wp2_with fail
  go_ret
  exact ⟨rfl, hbw⟩
theorem nearest_n {f p m l : Int} {S I H sd : Nat} {Be : Int} (J : Jn f p m l S I H sd Be) {q : Option Addr} {n c : Nat} {w : World} {x e : Int} {s : Bool} (h : ZN w s q n c x) (he : -4194304 ≤ e ∧ e ≤ 4194304) (h0 : x ≠ 0) (ht : ¬ Be ≤ e + bitsN x.natAbs - 1) (heu : e < max (e + bitsN x.natAbs - 1 - sd) l) (hT : Tab w) :
    Calls Tryz.prog 23 #[WV p m l, ZV s q n c, .int .i64 e] w fun en w' => en = .returned (U (rnp l sd Be S I x e)) ∧ Below w.heap.size w w' := by
  have HZN : Hid (ZN w s q n c x) := h
  have HJN : Hid (Jn f p m l S I H sd Be) := J
  have hsg : (sgnI x == 0) = false := by
    have : sgnI x ≠ 0 := by rcases sgn3 x with ⟨_, h2⟩ | ⟨h1, _⟩ | ⟨_, h2⟩ <;> omega
    simp [this]
  obtain ⟨sx, hsx⟩ : ∃ sx, sx = sgnI x := ⟨_, rfl⟩
  rw [← hsx] at hsg
  have HSX : Hid (sgnI x = sx) := hsx.symm
  have hbn := (lim_bits x.natAbs).1 h.lim
  have hb0 := bitsN_pos (a := x.natAbs) (by omega)
  have hB1 := bitsN_lt x.natAbs
  have hB2 := bitsN_le x.natAbs (by omega)
  obtain ⟨L, hL⟩ : ∃ L, L = bitsN x.natAbs := ⟨_, rfl⟩
  rw [← hL] at ht heu
  have HLB : Hid (bitsN x.natAbs = L) := hL.symm
  obtain ⟨s1, hs1⟩ : ∃ s1 : Int, s1 = e + L := ⟨_, rfl⟩
  obtain ⟨top, htop⟩ : ∃ t : Int, t = s1 - 1 := ⟨_, rfl⟩
  rw [← hL] at hbn hb0 hB1 hB2
  have a1 : wrap64 (e + (L : Int)) = s1 := by rw [hs1]; simp only [wrap64]; omega
  have a2 : IntKind.i64.wrap (e + (L : Int)) = s1 := by rw [hs1]; simp [IntKind.wrap, IntKind.signed, IntKind.bits]; omega
  have a3 : wrap64 (s1 - 1) = top := by rw [htop]; simp only [wrap64]; omega
  have a4 : IntKind.i64.wrap (s1 - 1) = top := by rw [htop]; simp [IntKind.wrap, IntKind.signed, IntKind.bits]; omega
  have hneg : decide (x < 0) = s := h.sg.symm
  have d1 : decide (Be ≤ top) = false := decide_eq_false (by omega)
  have hRN := rn_of J (n := x.natAbs) (e := e) (by omega) he.1
  have hsl := J.jm.sl
  have hlo := J.jm.pm.lo
  have h9 := J.jm.pm.h9
  have hbu := J.jm.bu
  have hlt := J.jm.pm.fm.lt
  obtain ⟨u, hu⟩ : ∃ u : Int, u = max (top - sd) l := ⟨_, rfl⟩
  obtain ⟨k, hk⟩ : ∃ k : Nat, k = (u - e).toNat := ⟨_, rfl⟩
  obtain ⟨Q, hQ⟩ : ∃ Q : Nat, Q = (u - l).toNat := ⟨_, rfl⟩
  obtain ⟨y, hy⟩ : ∃ y : Nat, y = neN x.natAbs (2 ^ k) := ⟨_, rfl⟩
  obtain ⟨nn, hnn⟩ : ∃ nn : Int, nn = e - u := ⟨_, rfl⟩
  have hrz : rnz l sd Be I x.natAbs e = Q * H + y := by
    unfold rnz
    rw [← hL, if_neg (show ¬ Be ≤ e + L - 1 by omega), show e + (L : Int) - 1 - sd = top - sd from by omega, ← hu, ← hQ, ← J.jm.hs, if_pos (show e < u by omega), ← hk, ← hy]
  have hy2 : y ≤ 2 * H := by
    have g1 := hRN.le
    rw [hrz] at g1
    have g2 : y = x.natAbs / 2 ^ k + (neUp x.natAbs (2 ^ k)).toNat := by rw [hy]; rfl
    have g3 := Bool.toNat_le (neUp x.natAbs (2 ^ k))
    have g4 : x.natAbs / 2 ^ k < 2 * H := by
      refine Nat.div_lt_of_lt_mul (Nat.lt_of_lt_of_le hB1 ?_)
      rw [J.jm.hs, ← Nat.pow_succ', ← Nat.pow_add]
      exact Nat.pow_le_pow_right (by omega) (by omega)
    omega
  obtain ⟨r, hr⟩ : ∃ r, r = rnp l sd Be S I x e := ⟨_, rfl⟩
  have hQB : (Q : Int) < Be - l - sd := by have := J.hB; omega
  have HR : Hid ((if s then S + (Q * H + y) else Q * H + y) = r ∧ Q * H + y < S) := by
    refine ⟨?_, by rw [← hrz]; exact Nat.lt_of_le_of_lt hRN.le hlt⟩
    rw [hr]; unfold rnp
    rw [if_neg h0, hrz, ← hneg]
    by_cases hx : x < 0
    · rw [decide_eq_true hx, if_pos rfl, if_pos hx]
    · rw [decide_eq_false hx, if_neg (by simp), if_neg hx]
  have HTP : Hid (-1000000000000 ≤ top ∧ top ≤ 5000 ∧ max (top - sd) l = u) := ⟨by omega, by omega, hu.symm⟩
  have HSZ : Hid (u = l + Q ∧ Q < 2046 ∧ (Q : Int) < Be - l - sd ∧ y ≤ 2 * H) := ⟨by omega, by have := J.hB9; omega, hQB, hy2⟩
  have HMU : Hid (nn = -(k : Int) ∧ (0 < k ∧ k ≤ 4611686018427387904) ∧ y = neN x.natAbs (2 ^ k) ∧ y < B64) := ⟨by omega, by omega, hy, by rw [B64_eq]; omega⟩
  have a5 : wrap64 (e - u) = nn := by rw [hnn]; simp only [wrap64]; omega
  have a6 : IntKind.i64.wrap (e - u) = nn := by rw [hnn]; simp [IntKind.wrap, IntKind.signed, IntKind.bits]; omega
  rw [← hr]
  have TB : Hid (Tab w) := hT
  clear J h h0 hT hsx hbn hb0 hB1 hB2 hL hs1 htop hneg hr ht he hRN hsl hlo h9 hbu hlt hu hk hQ hy hnn hrz hy2 hQB heu
  go_enter Tryz.func23, Tryz.ntmps23
  go_wp2_with fail
  obtain ⟨W0, hW0⟩ : ∃ W0, W0 = ((w.alloc (.cells #[.int .i64 p, .int .i64 m, .int .i64 l] 47)).alloc (.cells #[.bool s, .slice q n c] 31)) := ⟨_, rfl⟩
  have Xg : Hid (B3q W0 (w.heap.size) (.int .i64 p) (.int .i64 m) (.int .i64 l)) := by rw [hW0]; exact ⟨by go_simp, by go_simp, by go_simp, by go_simp, by go_simp, by go_simp⟩
  have Xm : Hid (Box W0 (w.heap.size + 1) (.bool s) (.slice q n c)) := by rw [hW0]; exact ⟨by go_simp, by go_simp, by go_simp, by go_simp⟩
  have hb0 : Below w.heap.size w W0 := by rw [hW0]; exact below2 w _ _
  rw [← hW0]
  clear hW0
  have hbw : Below w.heap.size w w := Below.refl _ _
  obtain ⟨gm, hgm⟩ : ∃ g, g = w.heap.size + 1 := ⟨_, rfl⟩
  have HGm : Hid (w.heap.size ≤ gm) := by rw [hgm]; show _ ≤ _; omega
  rw [← hgm] at Xm
  try rw [← hgm]
  obtain ⟨gg, hgg⟩ : ∃ g, g = w.heap.size := ⟨_, rfl⟩
  have HGg : Hid (w.heap.size ≤ gg) := by rw [hgg]; show _ ≤ _; omega
  rw [← hgg] at Xg
  try rw [← hgg]
  have HGD : Hid (gg ≠ gm ∧ gm ≠ gg) := by rw [hgg, hgm]; exact ⟨by omega, by omega⟩
  clear hgg hgm
  replace hbw := Below.on hbw hb0
  clear hb0
  refine (zsign (HZN.out.below hbw)).mono ?_
  rintro e v1 ⟨rfl, hb1⟩
  rw [HSX.out]
  replace Xg : Hid _ := Xg.out.below hb1
  replace Xm : Hid _ := Xm.out.below hb1
  replace hbw := Below.on hbw hb1
  clear hb1
  obtain ⟨cm0, cm1, fm0, fm1⟩ := Xm.out
  have hnem := Xm.out.lt
  go_wp2_with fail
  clear cm0 cm1 fm0 fm1 hnem
  obtain ⟨xs, hX⟩ := (HZN.out.below hbw).ex
  refine (bits_any hX.at_ (by have := hX.le; omega)).mono ?_
  rintro e2 v2 ⟨rfl, hw⟩
  obtain rfl := hw.symm
  clear hw
  rw [hX.nf.val, HLB.out]
  clear hX
  obtain ⟨cg0, cg1, cg2, fg0, fg1, fg2⟩ := Xg.out
  have hneg : gg < v1.heap.size := World.block_lt_of_cell? v1 _ cg0
  go_wp2_with fail
  clear cg0 cg1 cg2 fg0 fg1 fg2 hneg
  refine (HJN.out.jm.be _).mono ?_
  rintro e v3 ⟨rfl, hb3⟩
  replace Xg : Hid _ := Xg.out.below hb3
  replace Xm : Hid _ := Xm.out.below hb3
  replace hbw := Below.on hbw hb3
  clear hb3
  obtain ⟨cg0, cg1, cg2, fg0, fg1, fg2⟩ := Xg.out
  have hneg : gg < v3.heap.size := World.block_lt_of_cell? v3 _ cg0
  obtain ⟨cm0, cm1, fm0, fm1⟩ := Xm.out
  have hnem := Xm.out.lt
  go_wp2_with fail
  clear cg0 cg1 cg2 fg0 fg1 fg2 hneg
  clear cm0 cm1 fm0 fm1 hnem
  refine (HJN.out.jm.un top _ HTP.out.1 HTP.out.2.1).mono ?_
  rintro e v4 ⟨rfl, hb4⟩
  rw [HTP.out.2.2]
  replace Xg : Hid _ := Xg.out.below hb4
  replace Xm : Hid _ := Xm.out.below hb4
  replace hbw := Below.on hbw hb4
  clear hb4
  obtain ⟨cg0, cg1, cg2, fg0, fg1, fg2⟩ := Xg.out
  have hneg : gg < v4.heap.size := World.block_lt_of_cell? v4 _ cg0
  obtain ⟨cm0, cm1, fm0, fm1⟩ := Xm.out
  have hnem := Xm.out.lt
  go_wp2_with fail
  clear cg0 cg1 cg2 fg0 fg1 fg2 hneg
  clear cm0 cm1 fm0 fm1 hnem
  obtain ⟨W5, hW5⟩ : ∃ W1, W1 = v4.drew := ⟨_, rfl⟩
  have hbd : Below v4.heap.size v4 W5 := by rw [hW5]; exact bDrew1 (Below.refl _ _)
  replace Xg : Hid _ := Xg.out.below hbd
  replace Xm : Hid _ := Xm.out.below hbd
  replace hbw := Below.on hbw hbd
  clear hbd
  have HJ : Hid ((fun W' : World => W'.cell? ⟨gg, 0, none⟩ = some (.int .i64 p) ∧ W'.cell? ⟨gg, 1, none⟩ = some (.int .i64 m) ∧ W'.cell? ⟨gg, 2, none⟩ = some (.int .i64 l) ∧ W'.cell? ⟨gm, 0, none⟩ = some (.bool s) ∧ W'.cell? ⟨gm, 1, none⟩ = some (.slice q n c)) W5) := ⟨Xg.out.c0, Xg.out.c1, Xg.out.c2, Xm.out.c0, Xm.out.c1⟩
  refine wp_region_J (fun W' => W'.cell? ⟨gg, 0, none⟩ = some (.int .i64 p) ∧ W'.cell? ⟨gg, 1, none⟩ = some (.int .i64 m) ∧ W'.cell? ⟨gg, 2, none⟩ = some (.int .i64 l) ∧ W'.cell? ⟨gm, 0, none⟩ = some (.bool s) ∧ W'.cell? ⟨gm, 1, none⟩ = some (.slice q n c)) (by kernel_rfl) ?_
  rw [← hW5]
  clear hW5
  refine wpJ_tq 0 rfl HJ.out ?_
  refine wpJ_tq 1 rfl HJ.out ?_
  refine wpJ_tq 2 rfl HJ.out ?_
  refine wpJ_tq 3 rfl HJ.out ?_
  refine wpJ_tq 4 rfl HJ.out ?_
  refine wpJ_tq 5 rfl HJ.out ?_
  refine wpJ_tq 6 rfl HJ.out ?_
  refine wpJ_tq 7 rfl HJ.out ?_
  refine wpJ_tq 9 rfl HJ.out ?_
  refine wpJ_on 8 rfl fun KJ hK => ?_
  go_simp
  refine (multiple_n (HZN.out.below hbw) k y nn HMU.out.1 HMU.out.2.1 HMU.out.2.2.1 HMU.out.2.2.2 (TB.out.below hbw)).mono ?_
  rintro e v5 ⟨rfl, hb5⟩
  replace Xg : Hid _ := Xg.out.below hb5
  replace Xm : Hid _ := Xm.out.below hb5
  replace hbw := Below.on hbw hb5
  clear hb5
  refine hK _ _ ⟨Xg.out.c0, Xg.out.c1, Xg.out.c2, Xm.out.c0, Xm.out.c1⟩ ?_
  clear hK
  refine wpJ_on 10 rfl fun KJ hK => ?_
  go_simp
  refine (HJN.out.jm.sz y Q u _ HSZ.out.1 HSZ.out.2.1 HSZ.out.2.2.1 HSZ.out.2.2.2).mono ?_
  rintro e v6 ⟨rfl, hb6⟩
  replace Xg : Hid _ := Xg.out.below hb6
  replace Xm : Hid _ := Xm.out.below hb6
  replace hbw := Below.on hbw hb6
  clear hb6
  refine hK _ _ ⟨Xg.out.c0, Xg.out.c1, Xg.out.c2, Xm.out.c0, Xm.out.c1⟩ ?_
  clear hK
  refine wpJ_on 11 rfl fun KJ hK => ?_
  go_simp
  refine (HJN.out.jm.pm.fm.sgn s (Q * H + y) _ HR.out.2).mono ?_
  rintro e v7 ⟨rfl, hb7⟩
  rw [HR.out.1]
  replace Xg : Hid _ := Xg.out.below hb7
  replace Xm : Hid _ := Xm.out.below hb7
  replace hbw := Below.on hbw hb7
  clear hb7
  clear HJ
  have HJ : Hid ((fun W' : World => W'.cell? ⟨gg, 0, none⟩ = some (.int .i64 p) ∧ W'.cell? ⟨gg, 1, none⟩ = some (.int .i64 m) ∧ W'.cell? ⟨gg, 2, none⟩ = some (.int .i64 l) ∧ W'.cell? ⟨gm, 0, none⟩ = some (.bool s) ∧ W'.cell? ⟨gm, 1, none⟩ = some (.slice q n c)) v7) := ⟨Xg.out.c0, Xg.out.c1, Xg.out.c2, Xm.out.c0, Xm.out.c1⟩
  refine hK _ _ HJ.out ?_
  clear hK
  refine wpJ_tq 12 rfl HJ.out ?_
  refine wpJ_done (by kernel_rfl) ?_ _
  clear HJ
  go_wp2_with fail
  go_ret
  exact ⟨rfl, hbw⟩
theorem nearest_p {f p m l : Int} {S I H sd : Nat} {Be : Int} (J : Jn f p m l S I H sd Be) {q : Option Addr} {n c : Nat} {w : World} {x e : Int} {s : Bool} (h : ZN w s q n c x) (he : -4194304 ≤ e ∧ e ≤ 4194304) (h0 : x ≠ 0) (ht : ¬ Be ≤ e + bitsN x.natAbs - 1) (heu : ¬ e < max (e + bitsN x.natAbs - 1 - sd) l) :
    Calls Tryz.prog 23 #[WV p m l, ZV s q n c, .int .i64 e] w fun en w' => en = .returned (U (rnp l sd Be S I x e)) ∧ Below w.heap.size w w' := by
  have HZN : Hid (ZN w s q n c x) := h
  have HJN : Hid (Jn f p m l S I H sd Be) := J
  have hsg : (sgnI x == 0) = false := by
    have : sgnI x ≠ 0 := by rcases sgn3 x with ⟨_, h2⟩ | ⟨h1, _⟩ | ⟨_, h2⟩ <;> omega
    simp [this]
  obtain ⟨sx, hsx⟩ : ∃ sx, sx = sgnI x := ⟨_, rfl⟩
  rw [← hsx] at hsg
  have HSX : Hid (sgnI x = sx) := hsx.symm
  have hbn := (lim_bits x.natAbs).1 h.lim
  have hb0 := bitsN_pos (a := x.natAbs) (by omega)
  have hB1 := bitsN_lt x.natAbs
  have hB2 := bitsN_le x.natAbs (by omega)
  obtain ⟨L, hL⟩ : ∃ L, L = bitsN x.natAbs := ⟨_, rfl⟩
  rw [← hL] at ht heu
  have HLB : Hid (bitsN x.natAbs = L) := hL.symm
  obtain ⟨s1, hs1⟩ : ∃ s1 : Int, s1 = e + L := ⟨_, rfl⟩
  obtain ⟨top, htop⟩ : ∃ t : Int, t = s1 - 1 := ⟨_, rfl⟩
  rw [← hL] at hbn hb0 hB1 hB2
  have a1 : wrap64 (e + (L : Int)) = s1 := by rw [hs1]; simp only [wrap64]; omega
  have a2 : IntKind.i64.wrap (e + (L : Int)) = s1 := by rw [hs1]; simp [IntKind.wrap, IntKind.signed, IntKind.bits]; omega
  have a3 : wrap64 (s1 - 1) = top := by rw [htop]; simp only [wrap64]; omega
  have a4 : IntKind.i64.wrap (s1 - 1) = top := by rw [htop]; simp [IntKind.wrap, IntKind.signed, IntKind.bits]; omega
  have hneg : decide (x < 0) = s := h.sg.symm
  have d1 : decide (Be ≤ top) = false := decide_eq_false (by omega)
  have hRN := rn_of J (n := x.natAbs) (e := e) (by omega) he.1
  have hsl := J.jm.sl
  have hlo := J.jm.pm.lo
  have h9 := J.jm.pm.h9
  have hbu := J.jm.bu
  have hlt := J.jm.pm.fm.lt
  obtain ⟨u, hu⟩ : ∃ u : Int, u = max (top - sd) l := ⟨_, rfl⟩
  obtain ⟨k, hk⟩ : ∃ k : Nat, k = (e - u).toNat := ⟨_, rfl⟩
  obtain ⟨Q, hQ⟩ : ∃ Q : Nat, Q = (u - l).toNat := ⟨_, rfl⟩
  obtain ⟨y, hy⟩ : ∃ y : Nat, y = x.natAbs * 2 ^ k := ⟨_, rfl⟩
  obtain ⟨nn, hnn⟩ : ∃ nn : Int, nn = e - u := ⟨_, rfl⟩
  have hrz : rnz l sd Be I x.natAbs e = Q * H + y := by
    unfold rnz
    rw [← hL, if_neg (show ¬ Be ≤ e + L - 1 by omega), show e + (L : Int) - 1 - sd = top - sd from by omega, ← hu, ← hQ, ← J.jm.hs, if_neg (show ¬ e < u by omega), ← hk, ← hy]
  have hy2 : y ≤ 2 * H := by
    have g4 : x.natAbs * 2 ^ k < 2 ^ L * 2 ^ k := Nat.mul_lt_mul_of_pos_right hB1 (Nat.pow_pos (by omega))
    have g5 : 2 ^ L * 2 ^ k ≤ 2 * H := by
      rw [J.jm.hs, ← Nat.pow_succ', ← Nat.pow_add]
      exact Nat.pow_le_pow_right (by omega) (by omega)
    omega
  obtain ⟨r, hr⟩ : ∃ r, r = rnp l sd Be S I x e := ⟨_, rfl⟩
  have hQB : (Q : Int) < Be - l - sd := by have := J.hB; omega
  have HR : Hid ((if s then S + (Q * H + y) else Q * H + y) = r ∧ Q * H + y < S) := by
    refine ⟨?_, by rw [← hrz]; exact Nat.lt_of_le_of_lt hRN.le hlt⟩
    rw [hr]; unfold rnp
    rw [if_neg h0, hrz, ← hneg]
    by_cases hx : x < 0
    · rw [decide_eq_true hx, if_pos rfl, if_pos hx]
    · rw [decide_eq_false hx, if_neg (by simp), if_neg hx]
  have HTP : Hid (-1000000000000 ≤ top ∧ top ≤ 5000 ∧ max (top - sd) l = u) := ⟨by omega, by omega, hu.symm⟩
  have HSZ : Hid (u = l + Q ∧ Q < 2046 ∧ (Q : Int) < Be - l - sd ∧ y ≤ 2 * H) := ⟨by omega, by have := J.hB9; omega, hQB, hy2⟩
  have HMU : Hid (nn = (k : Int) ∧ k ≤ 4611686018427387904 ∧ y = x.natAbs * 2 ^ k ∧ y < B64) := ⟨by omega, by omega, hy, by rw [B64_eq]; omega⟩
  have a5 : wrap64 (e - u) = nn := by rw [hnn]; simp only [wrap64]; omega
  have a6 : IntKind.i64.wrap (e - u) = nn := by rw [hnn]; simp [IntKind.wrap, IntKind.signed, IntKind.bits]; omega
  rw [← hr]
  clear J h h0 hsx hbn hb0 hB1 hB2 hL hs1 htop hneg hr ht he hRN hsl hlo h9 hbu hlt hu hk hQ hy hnn hrz hy2 hQB heu
  go_enter Tryz.func23, Tryz.ntmps23
  go_wp2_with fail
  obtain ⟨W0, hW0⟩ : ∃ W0, W0 = ((w.alloc (.cells #[.int .i64 p, .int .i64 m, .int .i64 l] 47)).alloc (.cells #[.bool s, .slice q n c] 31)) := ⟨_, rfl⟩
  have Xg : Hid (B3q W0 (w.heap.size) (.int .i64 p) (.int .i64 m) (.int .i64 l)) := by rw [hW0]; exact ⟨by go_simp, by go_simp, by go_simp, by go_simp, by go_simp, by go_simp⟩
  have Xm : Hid (Box W0 (w.heap.size + 1) (.bool s) (.slice q n c)) := by rw [hW0]; exact ⟨by go_simp, by go_simp, by go_simp, by go_simp⟩
  have hb0 : Below w.heap.size w W0 := by rw [hW0]; exact below2 w _ _
  rw [← hW0]
  clear hW0
  have hbw : Below w.heap.size w w := Below.refl _ _
  obtain ⟨gm, hgm⟩ : ∃ g, g = w.heap.size + 1 := ⟨_, rfl⟩
  have HGm : Hid (w.heap.size ≤ gm) := by rw [hgm]; show _ ≤ _; omega
  rw [← hgm] at Xm
  try rw [← hgm]
  obtain ⟨gg, hgg⟩ : ∃ g, g = w.heap.size := ⟨_, rfl⟩
  have HGg : Hid (w.heap.size ≤ gg) := by rw [hgg]; show _ ≤ _; omega
  rw [← hgg] at Xg
  try rw [← hgg]
  have HGD : Hid (gg ≠ gm ∧ gm ≠ gg) := by rw [hgg, hgm]; exact ⟨by omega, by omega⟩
  clear hgg hgm
  replace hbw := Below.on hbw hb0
  clear hb0
  refine (zsign (HZN.out.below hbw)).mono ?_
  rintro e v1 ⟨rfl, hb1⟩
  rw [HSX.out]
  replace Xg : Hid _ := Xg.out.below hb1
  replace Xm : Hid _ := Xm.out.below hb1
  replace hbw := Below.on hbw hb1
  clear hb1
  obtain ⟨cm0, cm1, fm0, fm1⟩ := Xm.out
  have hnem := Xm.out.lt
  go_wp2_with fail
  clear cm0 cm1 fm0 fm1 hnem
  obtain ⟨xs, hX⟩ := (HZN.out.below hbw).ex
  refine (bits_any hX.at_ (by have := hX.le; omega)).mono ?_
  rintro e2 v2 ⟨rfl, hw⟩
  obtain rfl := hw.symm
  clear hw
  rw [hX.nf.val, HLB.out]
  clear hX
  obtain ⟨cg0, cg1, cg2, fg0, fg1, fg2⟩ := Xg.out
  have hneg : gg < v1.heap.size := World.block_lt_of_cell? v1 _ cg0
  go_wp2_with fail
  clear cg0 cg1 cg2 fg0 fg1 fg2 hneg
  refine (HJN.out.jm.be _).mono ?_
  rintro e v3 ⟨rfl, hb3⟩
  replace Xg : Hid _ := Xg.out.below hb3
  replace Xm : Hid _ := Xm.out.below hb3
  replace hbw := Below.on hbw hb3
  clear hb3
  obtain ⟨cg0, cg1, cg2, fg0, fg1, fg2⟩ := Xg.out
  have hneg : gg < v3.heap.size := World.block_lt_of_cell? v3 _ cg0
  obtain ⟨cm0, cm1, fm0, fm1⟩ := Xm.out
  have hnem := Xm.out.lt
  go_wp2_with fail
  clear cg0 cg1 cg2 fg0 fg1 fg2 hneg
  clear cm0 cm1 fm0 fm1 hnem
  refine (HJN.out.jm.un top _ HTP.out.1 HTP.out.2.1).mono ?_
  rintro e v4 ⟨rfl, hb4⟩
  rw [HTP.out.2.2]
  replace Xg : Hid _ := Xg.out.below hb4
  replace Xm : Hid _ := Xm.out.below hb4
  replace hbw := Below.on hbw hb4
  clear hb4
  obtain ⟨cg0, cg1, cg2, fg0, fg1, fg2⟩ := Xg.out
  have hneg : gg < v4.heap.size := World.block_lt_of_cell? v4 _ cg0
  obtain ⟨cm0, cm1, fm0, fm1⟩ := Xm.out
  have hnem := Xm.out.lt
  go_wp2_with fail
  clear cg0 cg1 cg2 fg0 fg1 fg2 hneg
  clear cm0 cm1 fm0 fm1 hnem
  obtain ⟨W5, hW5⟩ : ∃ W1, W1 = v4.drew := ⟨_, rfl⟩
  have hbd : Below v4.heap.size v4 W5 := by rw [hW5]; exact bDrew1 (Below.refl _ _)
  replace Xg : Hid _ := Xg.out.below hbd
  replace Xm : Hid _ := Xm.out.below hbd
  replace hbw := Below.on hbw hbd
  clear hbd
  have HJ : Hid ((fun W' : World => W'.cell? ⟨gg, 0, none⟩ = some (.int .i64 p) ∧ W'.cell? ⟨gg, 1, none⟩ = some (.int .i64 m) ∧ W'.cell? ⟨gg, 2, none⟩ = some (.int .i64 l) ∧ W'.cell? ⟨gm, 0, none⟩ = some (.bool s) ∧ W'.cell? ⟨gm, 1, none⟩ = some (.slice q n c)) W5) := ⟨Xg.out.c0, Xg.out.c1, Xg.out.c2, Xm.out.c0, Xm.out.c1⟩
  refine wp_region_J (fun W' => W'.cell? ⟨gg, 0, none⟩ = some (.int .i64 p) ∧ W'.cell? ⟨gg, 1, none⟩ = some (.int .i64 m) ∧ W'.cell? ⟨gg, 2, none⟩ = some (.int .i64 l) ∧ W'.cell? ⟨gm, 0, none⟩ = some (.bool s) ∧ W'.cell? ⟨gm, 1, none⟩ = some (.slice q n c)) (by kernel_rfl) ?_
  rw [← hW5]
  clear hW5
  refine wpJ_tq 0 rfl HJ.out ?_
  refine wpJ_tq 1 rfl HJ.out ?_
  refine wpJ_tq 2 rfl HJ.out ?_
  refine wpJ_tq 3 rfl HJ.out ?_
  refine wpJ_tq 4 rfl HJ.out ?_
  refine wpJ_tq 5 rfl HJ.out ?_
  refine wpJ_tq 6 rfl HJ.out ?_
  refine wpJ_tq 7 rfl HJ.out ?_
  refine wpJ_tq 9 rfl HJ.out ?_
  refine wpJ_on 8 rfl fun KJ hK => ?_
  go_simp
  refine (multiple_p (HZN.out.below hbw) k y nn HMU.out.1 HMU.out.2.1 HMU.out.2.2.1 HMU.out.2.2.2).mono ?_
  rintro e v5 ⟨rfl, hb5⟩
  replace Xg : Hid _ := Xg.out.below hb5
  replace Xm : Hid _ := Xm.out.below hb5
  replace hbw := Below.on hbw hb5
  clear hb5
  refine hK _ _ ⟨Xg.out.c0, Xg.out.c1, Xg.out.c2, Xm.out.c0, Xm.out.c1⟩ ?_
  clear hK
  refine wpJ_on 10 rfl fun KJ hK => ?_
  go_simp
  refine (HJN.out.jm.sz y Q u _ HSZ.out.1 HSZ.out.2.1 HSZ.out.2.2.1 HSZ.out.2.2.2).mono ?_
  rintro e v6 ⟨rfl, hb6⟩
  replace Xg : Hid _ := Xg.out.below hb6
  replace Xm : Hid _ := Xm.out.below hb6
  replace hbw := Below.on hbw hb6
  clear hb6
  refine hK _ _ ⟨Xg.out.c0, Xg.out.c1, Xg.out.c2, Xm.out.c0, Xm.out.c1⟩ ?_
  clear hK
  refine wpJ_on 11 rfl fun KJ hK => ?_
  go_simp
  refine (HJN.out.jm.pm.fm.sgn s (Q * H + y) _ HR.out.2).mono ?_
  rintro e v7 ⟨rfl, hb7⟩
  rw [HR.out.1]
  replace Xg : Hid _ := Xg.out.below hb7
  replace Xm : Hid _ := Xm.out.below hb7
  replace hbw := Below.on hbw hb7
  clear hb7
  clear HJ
  have HJ : Hid ((fun W' : World => W'.cell? ⟨gg, 0, none⟩ = some (.int .i64 p) ∧ W'.cell? ⟨gg, 1, none⟩ = some (.int .i64 m) ∧ W'.cell? ⟨gg, 2, none⟩ = some (.int .i64 l) ∧ W'.cell? ⟨gm, 0, none⟩ = some (.bool s) ∧ W'.cell? ⟨gm, 1, none⟩ = some (.slice q n c)) v7) := ⟨Xg.out.c0, Xg.out.c1, Xg.out.c2, Xm.out.c0, Xm.out.c1⟩
  refine hK _ _ HJ.out ?_
  clear hK
  refine wpJ_tq 12 rfl HJ.out ?_
  refine wpJ_done (by kernel_rfl) ?_ _
  clear HJ
  go_wp2_with fail
  go_ret
  exact ⟨rfl, hbw⟩
theorem nearest_ok {f p m l : Int} {S I H sd : Nat} {Be : Int} (J : Jn f p m l S I H sd Be) {q : Option Addr} {n c : Nat} {w : World} {x e : Int} {s : Bool} (h : ZN w s q n c x) (he : -4194304 ≤ e ∧ e ≤ 4194304) (hT : Tab w) :
    Calls Tryz.prog 23 #[WV p m l, ZV s q n c, .int .i64 e] w fun en w' => en = .returned (U (rnp l sd Be S I x e)) ∧ Below w.heap.size w w' := by
  by_cases h0 : x = 0
  · exact nearest_z J h h0
  · by_cases ht : Be ≤ e + bitsN x.natAbs - 1
    · exact nearest_b J h he h0 ht
    · by_cases heu : e < max (e + bitsN x.natAbs - 1 - sd) l
      · exact nearest_n J h he h0 ht heu hT
      · exact nearest_p J h he h0 ht heu
structure DO (B : Nat) (w : World) (s : Bool) (p : Option Addr) (m : Nat) (e z : Int) : Prop where
  own : ∃ zs, Own B w p m zs ∧ Nf B64 zs z.natAbs ∧ m ≤ 8192
  sg : s = decide (z < 0)
  fm : DFm z e
theorem DO.dn {B : Nat} {w : World} {s : Bool} {p : Option Addr} {m : Nat} {e z : Int} (h : DO B w s p m e z) : DN w s p m m e z := by
  obtain ⟨zs, h1, h2, h3⟩ := h.own
  exact ⟨⟨⟨zs, Num.of h1 h2 h3⟩, h.sg⟩, h.fm⟩
theorem DO.below {B : Nat} {w w' : World} {s : Bool} {p : Option Addr} {m : Nat} {e z : Int} (h : DO B w s p m e z) (hb : Below w.heap.size w w') : DO B w' s p m e z := by
  obtain ⟨zs, h1, h2, h3⟩ := h.own
  exact ⟨⟨zs, h1.below hb, h2, h3⟩, h.sg, h.fm⟩
theorem DO.set {B : Nat} {w : World} {s : Bool} {p : Option Addr} {m : Nat} {e z : Int} (h : DO B w s p m e z) (g o : Nat) (v : Value) (hg : g < B) : DO B (w.setCell ⟨g, o, none⟩ v) s p m e z := by
  obtain ⟨zs, h1, h2, h3⟩ := h.own
  exact ⟨⟨zs, h1.setOld _ _ _ hg, h2, h3⟩, h.sg, h.fm⟩
theorem DO.of {B : Nat} {w : World} {v : Value} {e z : Int} (h : AnsD B w v z e) (hf : DFm z e) : ∃ s p m, v = DV s p m m e ∧ DO B w s p m e z := by
  obtain ⟨p, m, zs, rfl, h1, h2, h3⟩ := h
  exact ⟨_, p, m, rfl, ⟨zs, h1, h2, h3⟩, rfl, hf⟩
theorem num8 {w : World} (z e : Int) (h0 : -9223372036854775807 ≤ z ∧ z ≤ 9223372036854775807) (hz : z % 2 = 1) (he : -2000 ≤ e ∧ e ≤ 2000) :
    Calls Tryz.prog 11 #[.int .i64 z, .int .i64 e] w fun en w' => ∃ s' g m' c', en = .returned (DV s' (some ⟨g, 0, none⟩) m' c' e) ∧ w.heap.size ≤ g ∧ DN w' s' (some ⟨g, 0, none⟩) m' c' e z ∧ Below w.heap.size w w' := by
  have HZ : Hid (-9223372036854775807 ≤ z ∧ z ≤ 9223372036854775807 ∧ z % 2 = 1 ∧ -2000 ≤ e ∧ e ≤ 2000) := ⟨h0.1, h0.2, hz, he.1, he.2⟩
  clear h0 hz he
  go_enter Tryz.func11, Tryz.ntmps11
  go_wp2_with fail
  obtain ⟨W0, hW0⟩ : ∃ W0, W0 = (w.alloc (.cells #[.bool false, .slice none 0 0, .int .i64 0] 33)) := ⟨_, rfl⟩
  have Xr : Hid (B3q W0 (w.heap.size) (.bool false) (.slice none 0 0) (.int .i64 0)) := by rw [hW0]; exact ⟨by go_simp, by go_simp, by go_simp, by go_simp, by go_simp, by go_simp⟩
  have hb0 : Below w.heap.size w W0 := by rw [hW0]; exact below1 w _
  rw [← hW0]
  clear hW0
  have hbw : Below w.heap.size w w := Below.refl _ _
  obtain ⟨gr, hgr⟩ : ∃ g, g = w.heap.size := ⟨_, rfl⟩
  have HGr : Hid (w.heap.size ≤ gr) := by rw [hgr]; show _ ≤ _; omega
  rw [← hgr] at Xr
  try rw [← hgr]
  clear hgr
  replace hbw := Below.on hbw hb0
  clear hb0
  refine (docof5 z (by have := HZ.out; omega) (by have := HZ.out; omega) HZ.out.2.2.1).mono ?_
  rintro e2 v1 ⟨s1, g1, m1, c1, rfl, hg1, hd1, hb1⟩
  replace Xr : Hid _ := Xr.out.below hb1
  replace hbw := Below.on hbw hb1
  clear hb1
  have D1 : Hid (DN v1 s1 (some ⟨g1, 0, none⟩) m1 c1 0 z) := hd1
  have hm1 : m1 ≤ 4000 := by
    obtain ⟨xs, hX⟩ := hd1.zn.ex
    have := (hX.nf.len_le B64_one (k := 1)).2 (by rw [Nat.pow_one, B64_eq]; have := HZ.out; omega)
    rw [hX.at_.len] at this
    omega
  have HM1 : Hid (m1 ≤ 4000) := hm1
  clear hd1 hg1 hm1
  go_wp2_with fail
  refine (docscale5 D1.out HZ.out.2.2.1 HM1.out (by have := HZ.out; omega) (by omega)).mono ?_
  rw [Int.zero_add]
  rintro e2 v2 ⟨s2, g2, m2, c2, rfl, hg2, hd2, hb2⟩
  have HR2 : Hid (gr < g2 ∧ w.heap.size ≤ g2) := ⟨Nat.lt_of_lt_of_le Xr.out.lt hg2, Nat.le_trans hbw.size hg2⟩
  replace Xr : Hid _ := Xr.out.below hb2
  replace D1 : Hid _ := D1.out.below hb2
  replace hbw := Below.on hbw hb2
  clear hb2
  have D2 : Hid (DN v2 s2 (some ⟨g2, 0, none⟩) m2 c2 e z) := hd2
  clear hd2 hg2
  obtain ⟨cr0, cr1, cr2, fr0, fr1, fr2⟩ := Xr.out
  have hner : gr < v2.heap.size := World.block_lt_of_cell? v2 _ cr0
  go_wp2_with fail
  refine bodyPost_ret (v := DV s2 (some ⟨g2, 0, none⟩) m2 c2 e) (by rw [results_cell1 rfl]; go_simp) rfl ⟨s2, g2, m2, c2, rfl, HR2.out.2, ?_, ?_⟩
  · have := HR2.out.1
    exact (((D2.out.set _ _ _ (by omega)).set _ _ _ (by omega)).set _ _ _ (by omega)).below (below1 _ _)
  · exact Below.on (bSet (bSet (bSet hbw _ _ _ HGr.out) _ _ _ HGr.out) _ _ _ HGr.out) (below1 _ _)
abbrev F32t : Value := FV 2147483648 24 (-149) 104 2139095040 2143289345
abbrev F64t : Value := FV 9223372036854775808 53 (-1074) 971 9218868437227405312 9221120237041090561
theorem rparts_320t (s : Nat) (hs : s < 8388608) (w : World) : Calls Tryz.prog 96 #[F32t, U s] w fun e w' => e = .returned (.tuple #[U s, .int .i64 (-149)]) ∧ Below w.heap.size w w' := by
  obtain ⟨z, hz⟩ : ∃ z, z = s / 8388608 := ⟨_, rfl⟩
  obtain ⟨r, hr⟩ : ∃ r, r = s % 8388608 := ⟨_, rfl⟩
  have d1 : (s : Int).tdiv 8388608 = (z : Int) := by rw [Int.tdiv_eq_ediv_of_nonneg (by omega)]; omega
  have d2 : (s : Int).tmod 8388608 = (r : Int) := by rw [Int.tmod_eq_emod_of_nonneg (by omega)]; omega
  have d3 : IntKind.u64.wrap (z : Int) = (z : Int) := by rw [IntKind.wrap_u64]; omega
  have d4 : IntKind.u64.wrap (r : Int) = (r : Int) := by rw [IntKind.wrap_u64]; omega
  have hz0 : z = 0 := by omega
  have hrs : r = s := by omega
  subst hz0
  subst hrs
  clear hz hr hs
  go_enter Tryz.func96, Tryz.ntmps96
  go_wp2_with fail
  go_quiet (fail)
  go_wp2_with fail
  go_quiet (fail)
  go_wp2_with fail
  go_ret2
  exact ⟨rfl, bwDrewN (bwDrewN (bwAlloc w _) _) _⟩
theorem rparts_32nt (s : Nat) (hs : 8388608 ≤ s) (hs9 : s < 9223372036854775808) (w : World) : Calls Tryz.prog 96 #[F32t, U s] w fun e w' => e = .returned (.tuple #[U (s - (s / 8388608 - 1) * 8388608), .int .i64 ((-149) + ((s / 8388608 - 1 : Nat) : Int))]) ∧ Below w.heap.size w w' := by
  obtain ⟨z, hz⟩ : ∃ z, z = s / 8388608 := ⟨_, rfl⟩
  obtain ⟨r, hr⟩ : ∃ r, r = s % 8388608 := ⟨_, rfl⟩
  have d1 : (s : Int).tdiv 8388608 = (z : Int) := by rw [Int.tdiv_eq_ediv_of_nonneg (by omega)]; omega
  have d2 : (s : Int).tmod 8388608 = (r : Int) := by rw [Int.tmod_eq_emod_of_nonneg (by omega)]; omega
  have d3 : IntKind.u64.wrap (z : Int) = (z : Int) := by rw [IntKind.wrap_u64]; omega
  have d4 : IntKind.u64.wrap (r : Int) = (r : Int) := by rw [IntKind.wrap_u64]; omega
  have hzb : ((z : Int) == 0) = false := by simp; omega
  obtain ⟨y, hy⟩ : ∃ y, y = s - (z - 1) * 8388608 := ⟨_, rfl⟩
  obtain ⟨x, hx⟩ : ∃ x : Int, x = (-149) + ((z - 1 : Nat) : Int) := ⟨_, rfl⟩
  obtain ⟨x1, hx1⟩ : ∃ x1 : Int, x1 = (-149) + (z : Int) := ⟨_, rfl⟩
  rw [← hz, ← hy, ← hx]
  have d5 : IntKind.u64.wrap (8388608 + (r : Int)) = (y : Int) := by rw [IntKind.wrap_u64]; omega
  have d6 : IntKind.i64.wrap (z : Int) = (z : Int) := by simp [IntKind.wrap, IntKind.signed, IntKind.bits]; omega
  have d7 : IntKind.i64.wrap ((-149) + (z : Int)) = x1 := by rw [hx1]; simp [IntKind.wrap, IntKind.signed, IntKind.bits]; omega
  have d8 : IntKind.i64.wrap (x1 - 1) = x := by simp [IntKind.wrap, IntKind.signed, IntKind.bits]; omega
  clear hz hr hs hs9 hy hx hx1
  go_enter Tryz.func96, Tryz.ntmps96
  go_wp2_with fail
  go_quiet (fail)
  go_wp2_with fail
  go_quiet (fail)
  go_wp2_with fail
  go_ret2
  exact ⟨rfl, bwDrewN (bwDrewN (bwAlloc w _) _) _⟩
theorem rparts_64nt (s : Nat) (hs : 4503599627370496 ≤ s) (hs9 : s < 9223372036854775808) (w : World) : Calls Tryz.prog 96 #[F64t, U s] w fun e w' => e = .returned (.tuple #[U (s - (s / 4503599627370496 - 1) * 4503599627370496), .int .i64 ((-1074) + ((s / 4503599627370496 - 1 : Nat) : Int))]) ∧ Below w.heap.size w w' := by
  obtain ⟨z, hz⟩ : ∃ z, z = s / 4503599627370496 := ⟨_, rfl⟩
  obtain ⟨r, hr⟩ : ∃ r, r = s % 4503599627370496 := ⟨_, rfl⟩
  have d1 : (s : Int).tdiv 4503599627370496 = (z : Int) := by rw [Int.tdiv_eq_ediv_of_nonneg (by omega)]; omega
  have d2 : (s : Int).tmod 4503599627370496 = (r : Int) := by rw [Int.tmod_eq_emod_of_nonneg (by omega)]; omega
  have d3 : IntKind.u64.wrap (z : Int) = (z : Int) := by rw [IntKind.wrap_u64]; omega
  have d4 : IntKind.u64.wrap (r : Int) = (r : Int) := by rw [IntKind.wrap_u64]; omega
  have hzb : ((z : Int) == 0) = false := by simp; omega
  obtain ⟨y, hy⟩ : ∃ y, y = s - (z - 1) * 4503599627370496 := ⟨_, rfl⟩
  obtain ⟨x, hx⟩ : ∃ x : Int, x = (-1074) + ((z - 1 : Nat) : Int) := ⟨_, rfl⟩
  obtain ⟨x1, hx1⟩ : ∃ x1 : Int, x1 = (-1074) + (z : Int) := ⟨_, rfl⟩
  rw [← hz, ← hy, ← hx]
  have d5 : IntKind.u64.wrap (4503599627370496 + (r : Int)) = (y : Int) := by rw [IntKind.wrap_u64]; omega
  have d6 : IntKind.i64.wrap (z : Int) = (z : Int) := by simp [IntKind.wrap, IntKind.signed, IntKind.bits]; omega
  have d7 : IntKind.i64.wrap ((-1074) + (z : Int)) = x1 := by rw [hx1]; simp [IntKind.wrap, IntKind.signed, IntKind.bits]; omega
  have d8 : IntKind.i64.wrap (x1 - 1) = x := by simp [IntKind.wrap, IntKind.signed, IntKind.bits]; omega
  clear hz hr hs hs9 hy hx hx1
  go_enter Tryz.func96, Tryz.ntmps96
  go_wp2_with fail
  go_quiet (fail)
  go_wp2_with fail
  go_quiet (fail)
  go_wp2_with fail
  go_ret2
  exact ⟨rfl, bwDrewN (bwDrewN (bwAlloc w _) _) _⟩
theorem rparts_640t (s : Nat) (hs : s < 4503599627370496) (w : World) : Calls Tryz.prog 96 #[F64t, U s] w fun e w' => e = .returned (.tuple #[U s, .int .i64 (-1074)]) ∧ Below w.heap.size w w' := by
  obtain ⟨z, hz⟩ : ∃ z, z = s / 4503599627370496 := ⟨_, rfl⟩
  obtain ⟨r, hr⟩ : ∃ r, r = s % 4503599627370496 := ⟨_, rfl⟩
  have d1 : (s : Int).tdiv 4503599627370496 = (z : Int) := by rw [Int.tdiv_eq_ediv_of_nonneg (by omega)]; omega
  have d2 : (s : Int).tmod 4503599627370496 = (r : Int) := by rw [Int.tmod_eq_emod_of_nonneg (by omega)]; omega
  have d3 : IntKind.u64.wrap (z : Int) = (z : Int) := by rw [IntKind.wrap_u64]; omega
  have d4 : IntKind.u64.wrap (r : Int) = (r : Int) := by rw [IntKind.wrap_u64]; omega
  have hz0 : z = 0 := by omega
  have hrs : r = s := by omega
  subst hz0
  subst hrs
  clear hz hr hs
  go_enter Tryz.func96, Tryz.ntmps96
  go_wp2_with fail
  go_quiet (fail)
  go_wp2_with fail
  go_quiet (fail)
  go_wp2_with fail
  go_ret2
  exact ⟨rfl, bwDrewN (bwDrewN (bwAlloc w _) _) _⟩
theorem rparts_all64 (s : Nat) (hs9 : s < 9223372036854775808) (w : World) : Calls Tryz.prog 96 #[F64t, U s] w fun e w' => e = .returned (.tuple #[U (s - (s / 4503599627370496 - 1) * 4503599627370496), .int .i64 ((-1074) + ((s / 4503599627370496 - 1 : Nat) : Int))]) ∧ Below w.heap.size w w' := by
  by_cases h : s < 4503599627370496
  · have h1 : s / 4503599627370496 = 0 := Nat.div_eq_of_lt h
    rw [h1, show 0 - 1 = 0 from rfl, Nat.zero_mul, Nat.sub_zero, show ((-1074 : Int) + ((0 : Nat) : Int)) = -1074 from rfl]
    exact rparts_640t s h w
  · exact rparts_64nt s (by omega) (by omega) w
theorem rparts_all32 (s : Nat) (hs9 : s < 2147483648) (w : World) : Calls Tryz.prog 96 #[F32t, U s] w fun e w' => e = .returned (.tuple #[U (s - (s / 8388608 - 1) * 8388608), .int .i64 ((-149) + ((s / 8388608 - 1 : Nat) : Int))]) ∧ Below w.heap.size w w' := by
  by_cases h : s < 8388608
  · have h1 : s / 8388608 = 0 := Nat.div_eq_of_lt h
    rw [h1, show 0 - 1 = 0 from rfl, Nat.zero_mul, Nat.sub_zero, show ((-149 : Int) + ((0 : Nat) : Int)) = -149 from rfl]
    exact rparts_320t s h w
  · exact rparts_32nt s (by omega) (by omega) w
theorem signed_f {S : Nat} {P E G : Int} {I Q : Nat} (s : Nat) (_hs : S + s < 18446744073709551616) (w : World) :
    Calls Tryz.prog 88 #[FV S P E G I Q, .bool false, U s] w fun en w' => en = .returned (U (s)) ∧ Below w.heap.size w w' := by
  go_enter Tryz.func88, Tryz.ntmps88
  go_wp2_with fail
  go_ret
  exact ⟨rfl, below1 w _⟩
theorem signed_t {S : Nat} {P E G : Int} {I Q : Nat} (s : Nat) (hs : S + s < 18446744073709551616) (w : World) :
    Calls Tryz.prog 88 #[FV S P E G I Q, .bool true, U s] w fun en w' => en = .returned (U (S + s)) ∧ Below w.heap.size w w' := by
  have w1 : IntKind.u64.wrap ((S : Int) + (s : Int)) = ((S + s : Nat) : Int) := ju7 hs rfl
  clear hs
  go_enter Tryz.func88, Tryz.ntmps88
  go_wp2_with fail
  go_ret
  exact ⟨rfl, below1 w _⟩
theorem rl_from {p : Option Addr} {n c : Nat} {xs : List Nat} {w : World} (h : At w p n c xs) (hn : n ≤ 8192) : Calls Tryz.prog 86 #[.slice p n c] w fun e w' => ∃ p' m', e = .returned (.slice p' m' m') ∧ RL w' p' m' (valB B64 xs) ∧ m' ≤ 2 * n ∧ Below w.heap.size w w' := by
  refine (from_any h (by omega)).mono ?_
  rintro e w' ⟨g, zs, rfl, hg, hblk, hnf, hl, hb⟩
  exact ⟨_, _, rfl, ⟨⟨zs, hblk.at_ hnf.dig rfl (by unfold maxLen; omega), hnf⟩, by omega⟩, hl, hb⟩
theorem signed_g {S : Nat} {P E G : Int} {I Q : Nat} (neg : Bool) (s : Nat) (hs : S + s < 18446744073709551616) (w : World) : Calls Tryz.prog 88 #[FV S P E G I Q, .bool neg, U s] w fun en w' => en = .returned (U (if neg then S + s else s)) ∧ Below w.heap.size w w' := by
  cases neg
  · exact signed_f s hs w
  · exact signed_t s hs w
theorem sk_32 : Sk 2147483648 24 (-149) 104 2139095040 2143289345 8388608 := ⟨fun s w hs => rparts_all32 s hs w, by decide, by decide, fun s hs => by omega, by decide⟩
theorem sk_64 : Sk 9223372036854775808 53 (-1074) 971 9218868437227405312 9221120237041090561 4503599627370496 := ⟨fun s w hs => rparts_all64 s hs w, by decide, by decide, fun s hs => by omega, by decide⟩
theorem hold_quo {p1 p2 : Option Addr} {m1 m2 b d : Nat} {E f : Int} (hb : b ≠ 0) (hd : d ≠ 0) (hE : -1074 ≤ E ∧ E ≤ -149) (hf : -2500000 ≤ f ∧ f ≤ 2500000) (hl : m2 ≤ 16000) : HoldF (.agg #[.slice p1 m1 m1, .slice p2 m2 m2, .int .i64 f, .bool false]) (fun t => dN (t * d) (E - 1)) (dN b f) E p1 p2 m1 m2 b d := by
  intro mn t e W p m h1 h2 h3 h4 h5 h6
  have := holdq h1 h2 h3 hb hd e f (by omega) hf ⟨h4, hl⟩
  rwa [show dN (mn * d) e = dN (mn * 2 ^ t * d) (E - 1) by rw [← dN_up (a := mn * d) (t := t) (e := E - 1) (f := e) (by omega) (by omega)]; congr 1; rw [Nat.mul_assoc, Nat.mul_comm d, ← Nat.mul_assoc]] at this
theorem up_quo {d : Nat} {E : Int} (hd : d ≠ 0) : Up fun t => dN (t * d) (E - 1) := fun _ _ h => dN_mono (Nat.mul_lt_mul_of_pos_right h (by omega)) _
theorem dN_zero (e : Int) : dN 0 e = 0 := by unfold dN; rw [Nat.zero_mul]
theorem RNz.trc {H : Nat} {l : Int} {I : Nat} {n : Nat} {e : Int} {Z : Nat} (h : RNz H l I (dv (n : Int) e) Z) : Trc (fun z => cmpN (dN n e) (dN (hv H z * 1) (l - 1))) I Z := by
  refine ⟨h.le, fun z hz => ?_⟩
  have h1 := h.lo z hz
  have h2 := h.hi z hz
  have h3 := h.eq z hz
  rw [dN_dv, dN_dv] at h1 h2 h3
  simp only [Nat.mul_one]
  refine ⟨fun h4 => h1 ?_, fun h4 => h2 ?_, fun h4 => h3 ?_⟩
  · have := (cmpN_lt0 _ _).1 h4; omega
  · have := (cmpN_gt0 _ _).1 h4; omega
  · have := (cmpN_eq0 _ _).1 h4; omega
theorem nought8_z {p : Option Addr} {c : Nat} {w : World} {e : Int} {s : Bool} :
    Calls Tryz.prog 60 #[DV s p 0 c e] w fun en w' => en = .returned (.bool true) ∧ Below w.heap.size w w' := by
  go_enter Tryz.func60, Tryz.ntmps60
  go_wp2_with fail
  go_ret
  exact ⟨rfl, below1 w _⟩
def MkR (z e zo eo er : Int) : Prop := (z = 0 ∧ zo = 0 ∧ eo = 0 ∧ er = 0) ∨
  (z ≠ 0 ∧ ∃ k : Nat, TzIs z.natAbs k ∧ ((-1048576 ≤ e + k ∧ e + k ≤ 1048576 ∧ zo * ((2 ^ k : Nat) : Int) = z ∧ eo = e + k ∧ er = 0) ∨ (¬ (-1048576 ≤ e + k ∧ e + k ≤ 1048576) ∧ zo = 0 ∧ eo = 0 ∧ er = 5)))
theorem MkR.uniq {z e zo eo er zo' eo' er' : Int} (h : MkR z e zo eo er) (k : MkR z e zo' eo' er') : zo = zo' ∧ eo = eo' ∧ er = er' := by
  rcases h with ⟨h0, rfl, rfl, rfl⟩ | ⟨h0, K, hK, h⟩
  · rcases k with ⟨_, rfl, rfl, rfl⟩ | ⟨k0, _⟩
    · exact ⟨rfl, rfl, rfl⟩
    · exact absurd h0 k0
  · rcases k with ⟨k0, _⟩ | ⟨_, L, hL, k⟩
    · exact absurd k0 h0
    · obtain rfl := hK.inj hL
      rcases h with ⟨h1, h2, h3, rfl, rfl⟩ | ⟨h1, rfl, rfl, rfl⟩
      · rcases k with ⟨_, _, k3, rfl, rfl⟩ | ⟨k1, _⟩
        · exact ⟨Int.eq_of_mul_eq_mul_right (pow_pos_int K) (h3.trans k3.symm), rfl, rfl⟩
        · exact absurd ⟨h1, h2⟩ k1
      · rcases k with ⟨k1, k2, _⟩ | ⟨_, rfl, rfl, rfl⟩
        · exact absurd ⟨k1, k2⟩ h1
        · exact ⟨rfl, rfl, rfl⟩
theorem MkR.zero (e : Int) : MkR 0 e 0 0 0 := .inl ⟨rfl, rfl, rfl, rfl⟩
theorem TzIs.zero_of_odd {v : Nat} (h : v % 2 = 1) : TzIs v 0 := ⟨by simp [Nat.mod_one], by simpa using h⟩
theorem MkR.odd {z e : Int} (hz : z % 2 = 1) (he : -1048576 ≤ e ∧ e ≤ 1048576) : MkR z e z e 0 :=
  .inr ⟨by omega, 0, TzIs.zero_of_odd (by omega), .inl ⟨by omega, by omega, by simp, by omega, rfl⟩⟩
theorem MkR.big {z e : Int} (hz : z % 2 = 1) (he : ¬ (-1048576 ≤ e ∧ e ≤ 1048576)) : MkR z e 0 0 5 :=
  .inr ⟨by omega, 0, TzIs.zero_of_odd (by omega), .inr ⟨by omega, rfl, rfl, rfl⟩⟩
theorem MkR.fm {z e zo eo er : Int} (h : MkR z e zo eo er) : DFm zo eo := by
  rcases h with ⟨_, rfl, rfl, _⟩ | ⟨h0, K, hK, ⟨h1, h2, h3, rfl, _⟩ | ⟨_, rfl, rfl, _⟩⟩
  · exact .inl ⟨rfl, rfl⟩
  · refine .inr ⟨?_, h1, h2⟩
    have h4 : zo.natAbs * 2 ^ K = z.natAbs := by
      have := congrArg Int.natAbs h3
      rw [Int.natAbs_mul] at this
      simpa using this
    have h5 := hK.2
    rw [← h4, Nat.mul_div_cancel _ (Nat.two_pow_pos K)] at h5
    omega
  · exact .inl ⟨rfl, rfl⟩
structure DQ (B : Nat) (w : World) (s : Bool) (p : Option Addr) (m c : Nat) (e z : Int) : Prop where
  dn : DN w s p m c e z
  nw : m = 0 ∨ ∃ g, p = some ⟨g, 0, none⟩ ∧ B ≤ g
theorem DQ.below {B : Nat} {w w' : World} {s : Bool} {p : Option Addr} {m c : Nat} {e z : Int} (h : DQ B w s p m c e z) (hb : Below w.heap.size w w') : DQ B w' s p m c e z := ⟨h.dn.below hb, h.nw⟩
theorem DQ.mono {B B' : Nat} {w : World} {s : Bool} {p : Option Addr} {m c : Nat} {e z : Int} (h : DQ B w s p m c e z) (hB : B' ≤ B) : DQ B' w s p m c e z := ⟨h.dn, h.nw.imp id fun ⟨g, h1, h2⟩ => ⟨g, h1, Nat.le_trans hB h2⟩⟩
theorem DN.setOff {w : World} {s : Bool} {p : Option Addr} {m c g o : Nat} {e z : Int} {v : Value} (h : DN w s p m c e z) (hf : m = 0 ∨ ∃ g', p = some ⟨g', 0, none⟩ ∧ g' ≠ g) : DN (w.setCell ⟨g, o, none⟩ v) s p m c e z := by
  obtain ⟨xs, hX⟩ := h.zn.ex
  refine ⟨⟨⟨xs, ?_, hX.nf, hX.le⟩, h.zn.sg⟩, h.fm⟩
  rcases hf with rfl | ⟨g', rfl, hg⟩
  · obtain rfl : xs = [] := List.eq_nil_of_length_eq_zero hX.at_.len
    exact At.empty _ _ _ hX.at_.big
  · exact hX.at_.setOther _ _ _ hg
theorem DQ.set {B : Nat} {w : World} {s : Bool} {p : Option Addr} {m c : Nat} {e z : Int} (h : DQ B w s p m c e z) (g o : Nat) (v : Value) (hg : g < B) : DQ B (w.setCell ⟨g, o, none⟩ v) s p m c e z :=
  ⟨h.dn.setOff (h.nw.imp id fun ⟨g', h1, h2⟩ => ⟨g', h1, by omega⟩), h.nw⟩
theorem DQ.zero (B : Nat) (w : World) : DQ B w false none 0 0 0 0 :=
  ⟨⟨⟨⟨[], At.empty _ _ _ (by decide), Nf.nil _, by omega⟩, rfl⟩, .inl ⟨rfl, rfl⟩⟩, .inl rfl⟩
theorem AnsD.dq {B : Nat} {w' : World} {v : Value} {z e : Int} (h : AnsD B w' v z e) (hf : DFm z e) : ∃ s p m, v = DV s p m m e ∧ DQ B w' s p m m e z := by
  obtain ⟨p, m, zs, rfl, ho, hn, hm⟩ := h
  exact ⟨_, p, m, rfl, ⟨⟨⟨zs, Num.of ho hn hm⟩, rfl⟩, hf⟩, ho.mem.imp id fun ⟨g, e, hg, _⟩ => ⟨g, e, hg⟩⟩
def SaidD (B : Nat) (w' : World) (en : Ending) (z e er : Int) : Prop := ∃ s p m c, en = .returned (.tuple #[DV s p m c e, .int .i64 er]) ∧ DQ B w' s p m c e z
theorem SaidD.err (B : Nat) (w' : World) (er : Int) : SaidD B w' (.returned (.tuple #[DV false none 0 0 0, .int .i64 er])) 0 0 er := ⟨_, _, _, _, rfl, DQ.zero _ _⟩
theorem SaidD.ans {B : Nat} {w' : World} {v : Value} {z e : Int} (h : AnsD B w' v z e) (hf : DFm z e) : SaidD B w' (.returned (.tuple #[v, .int .i64 0])) z e 0 := by
  obtain ⟨s, p, m, rfl, hd⟩ := h.dq hf
  exact ⟨s, p, m, m, rfl, hd⟩
theorem TzO.is {z : Int} {k : Nat} (hz : z ≠ 0) (h : TzO z.natAbs k) : TzIs z.natAbs k := by
  rcases h with ⟨h0, _⟩ | ⟨_, h1, h2⟩
  · omega
  · exact ⟨h1, h2⟩
theorem MakeP.mk {B : Nat} {w' : World} {en : Ending} {z e : Int} (h : MakeP B w' en z e) (he : -4194304 ≤ e) : ∃ zo eo er, SaidD B w' en zo eo er ∧ MkR z e zo eo er := by
  by_cases hz : z = 0
  · subst hz
    obtain ⟨v, rfl, hv⟩ := h.form (.inl ⟨rfl, rfl⟩) (by rw [dv_zero, dv_zero])
    exact ⟨0, 0, 0, SaidD.ans hv (.inl ⟨rfl, rfl⟩), MkR.zero e⟩
  · obtain ⟨k, hk⟩ := TzO.ex z.natAbs
    have hki := hk.is hz
    obtain ⟨h1, h2, _⟩ := tz_split hz hk
    generalize fl (decide (z < 0)) z.natAbs (2 ^ k) = o at *
    by_cases hr : -1048576 ≤ e + k ∧ e + k ≤ 1048576
    · have hf : DFm o (e + k) := .inr ⟨h1, hr⟩
      obtain ⟨v, rfl, hv⟩ := h.form hf (by rw [dv_up k he, h2])
      exact ⟨o, e + k, 0, SaidD.ans hv hf, .inr ⟨hz, k, hki, .inl ⟨hr.1, hr.2, h2, rfl, rfl⟩⟩⟩
    · rcases h with ⟨v, zo, eo, _, _, h5, h6⟩ | ⟨rfl, _⟩
      · exact absurd h6 (make_no hz hk he (by omega) zo eo h5)
      · exact ⟨0, 0, 5, SaidD.err _ _ _, .inr ⟨hz, k, hki, .inr ⟨hr, rfl, rfl, rfl⟩⟩⟩
def OneD (R : Int → Int → Int → Int → Int → Prop) (sx : Bool) (xx : List Nat) (ex zo eo er : Int) : Prop :=
  (formD sx xx ex = false ∧ zo = 0 ∧ eo = 0 ∧ er = 2) ∨ (formD sx xx ex = true ∧ R (iv sx (valB B64 xx)) ex zo eo er)
def TwoD (R : Int → Int → Int → Int → Int → Int → Int → Prop) (sx : Bool) (xx : List Nat) (ex : Int) (sy : Bool) (yy : List Nat) (ey zo eo er : Int) : Prop :=
  ((formD sx xx ex = false ∨ formD sy yy ey = false) ∧ zo = 0 ∧ eo = 0 ∧ er = 2) ∨ (formD sx xx ex = true ∧ formD sy yy ey = true ∧ R (iv sx (valB B64 xx)) ex (iv sy (valB B64 yy)) ey zo eo er)
theorem OneD.uniq {R : Int → Int → Int → Int → Int → Prop} {sx : Bool} {xx : List Nat} {ex zo eo er zo' eo' er' : Int} (hR : ∀ x e a b c a' b' c', R x e a b c → R x e a' b' c' → a = a' ∧ b = b' ∧ c = c')
    (h : OneD R sx xx ex zo eo er) (k : OneD R sx xx ex zo' eo' er') : zo = zo' ∧ eo = eo' ∧ er = er' := by
  rcases h with ⟨h0, rfl, rfl, rfl⟩ | ⟨h0, h⟩ <;> rcases k with ⟨k0, rfl, rfl, rfl⟩ | ⟨k0, k⟩
  · exact ⟨rfl, rfl, rfl⟩
  · simp_all
  · simp_all
  · exact hR _ _ _ _ _ _ _ _ h k
theorem TwoD.uniq {R : Int → Int → Int → Int → Int → Int → Int → Prop} {sx sy : Bool} {xx yy : List Nat} {ex ey zo eo er zo' eo' er' : Int} (hR : ∀ x e y f a b c a' b' c', R x e y f a b c → R x e y f a' b' c' → a = a' ∧ b = b' ∧ c = c')
    (h : TwoD R sx xx ex sy yy ey zo eo er) (k : TwoD R sx xx ex sy yy ey zo' eo' er') : zo = zo' ∧ eo = eo' ∧ er = er' := by
  rcases h with ⟨h0, rfl, rfl, rfl⟩ | ⟨h0, h1, h⟩ <;> rcases k with ⟨k0, rfl, rfl, rfl⟩ | ⟨k0, k1, k⟩
  · exact ⟨rfl, rfl, rfl⟩
  · rcases h0 with h0 | h0 <;> simp_all
  · rcases k0 with k0 | k0 <;> simp_all
  · exact hR _ _ _ _ _ _ _ _ _ _ h k
def MulR (x e y f zo eo er : Int) : Prop := ((x * y).natAbs < LIM ∧ MkR (x * y) (e + f) zo eo er) ∨ (LIM ≤ (x * y).natAbs ∧ zo = 0 ∧ eo = 0 ∧ er = 5)
theorem MulR.uniq (x e y f a b c a' b' c' : Int) (h : MulR x e y f a b c) (k : MulR x e y f a' b' c') : a = a' ∧ b = b' ∧ c = c' := by
  rcases h with ⟨h0, h⟩ | ⟨h0, rfl, rfl, rfl⟩ <;> rcases k with ⟨k0, k⟩ | ⟨k0, rfl, rfl, rfl⟩
  · exact h.uniq k
  · omega
  · omega
  · exact ⟨rfl, rfl, rfl⟩
def ScaleR (n x e zo eo er : Int) : Prop := (x = 0 ∧ zo = 0 ∧ eo = 0 ∧ er = 0) ∨ (x ≠ 0 ∧ ((-1048576 ≤ e + n ∧ e + n ≤ 1048576 ∧ zo = x ∧ eo = e + n ∧ er = 0) ∨ (¬ (-1048576 ≤ e + n ∧ e + n ≤ 1048576) ∧ zo = 0 ∧ eo = 0 ∧ er = 5)))
theorem ScaleR.uniq (n x e a b c a' b' c' : Int) (h : ScaleR n x e a b c) (k : ScaleR n x e a' b' c') : a = a' ∧ b = b' ∧ c = c' := by
  unfold ScaleR at h k; omega
end Go.Proofs.YtfmbifocgljieaaGreatDoor
