import Derived.Test.YtglkjbkpgfencaaGreatDoorJ17
import Derived.Test.YtglkjbkpgfencaaGreatDoorJ14
import Derived.WalkSmall
import Derived.Laws.Concat
import Derived.Test.YtglkjbkpgfencaaGreatDoorJ15
import Derived.Recover
import Derived.Test.YtglkjbkpgfencaaGreatDoorJ16
namespace Go.Proofs.YtglkjbkpgfencaaGreatDoor
open Go.RowKit Go.Shelf
set_option maxRecDepth 20000
set_option maxHeartbeats 0
theorem bits_leg {n k : Nat} (h : n < 2 ^ k) : bitsN n ≤ k := by
  by_cases h0 : n = 0
  · subst h0; exact Nat.zero_le _
  · have h1 := bitsN_le n h0
    have h2 := bitsN_pos h0
    have := (Nat.pow_lt_pow_iff_right (by omega : 1 < 2)).1 (Nat.lt_of_le_of_lt h1 h)
    omega
theorem gw1 {b : Nat} {e t : Int} (ht : t = (b : Int) + e) (hb : b ≤ 100000) (h1 : -10000000000000 ≤ e) (h2 : e ≤ 10000000000000) : wrap64 ((b : Int) + e) = t ∧ IntKind.i64.wrap ((b : Int) + e) = t := by
  subst ht; refine ⟨?_, ?_⟩
  · simp only [wrap64]; omega
  · simp [IntKind.wrap, IntKind.signed, IntKind.bits]; omega
theorem gw2 {a b : Int} {k : Nat} (hk : a - b = (k : Int)) (h : k ≤ 60000) : wrap64 (a - b) = (k : Int) ∧ IntKind.i64.wrap (a - b) = (k : Int) := by
  rw [hk]; refine ⟨?_, ?_⟩
  · simp only [wrap64]; omega
  · simp [IntKind.wrap, IntKind.signed, IntKind.bits]; omega
theorem gw3 {E : Int} (h1 : -1074 ≤ E) (h2 : E ≤ 0) : wrap64 (E - 1) = E - 1 ∧ IntKind.i64.wrap (E - 1) = E - 1 := by
  refine ⟨?_, ?_⟩
  · simp only [wrap64]; omega
  · simp [IntKind.wrap, IntKind.signed, IntKind.bits]; omega
theorem gw4 {s : Nat} (h : s < 9223372036854775808) : IntKind.u64.wrap ((s : Int) + 1) = ((s + 1 : Nat) : Int) := by rw [IntKind.wrap_u64]; omega
theorem n_of {w : World} {p : Option Addr} {n v : Nat} {zs : List Nat} (h : At32 w p n n zs) (hx : Nf B32 zs v) (hv : v ≠ 0) : n ≠ 0 := fun h0 => by
  subst h0
  have hl := h.len
  have : zs = [] := List.eq_nil_of_length_eq_zero hl
  subst this
  exact hv hx.val.symm
theorem n_of0 {w : World} {p : Option Addr} {n : Nat} {zs : List Nat} (h : At32 w p n n zs) (hx : Nf B32 zs 0) : n = 0 := by
  have h1 := (hx.len_le B32_one (k := 0)).2 (by decide)
  rw [h.len] at h1
  omega
theorem nf_len6 {w : World} {p : Option Addr} {m c : Nat} {zs : List Nat} {v : Nat} (h : At32 w p m c zs) (hN : Nf B32 zs v) {K : Nat} (hb : bl_bitsN v ≤ K) : m ≤ K := by
  have h1 := (hN.len_le B32_one (k := K)).2 (Nat.lt_of_lt_of_le (Nat.lt_of_lt_of_le (bl_bitsN_lt v) (Nat.pow_le_pow_right (by decide) hb)) (Nat.pow_le_pow_left (by decide) K))
  rw [h.len] at h1
  exact h1
theorem min_I {x I : Nat} (h : x ≤ I) : min (x : Int) (I : Int) = (x : Int) := Int.min_eq_left (by omega)
theorem min_I1 {x I : Nat} (h : x < I) : min ((x : Int) + 1) (I : Int) = ((x + 1 : Nat) : Int) := by rw [show (x : Int) + 1 = ((x + 1 : Nat) : Int) from rfl]; exact Int.min_eq_left (by omega)
theorem cmpI_3 (x y : Int) : (cmpI x y = -1 ∧ x < y) ∨ (cmpI x y = 0 ∧ x = y) ∨ (cmpI x y = 1 ∧ y < x) := by
  unfold cmpI
  rcases Int.lt_trichotomy x y with h | h | h
  · exact .inl ⟨if_pos h, h⟩
  · exact .inr (.inl ⟨by rw [if_neg (by omega), if_pos h], h⟩)
  · exact .inr (.inr ⟨by rw [if_neg (by omega), if_neg (by omega)], h⟩)
def UpZ (c : Int) (s Z : Nat) : Prop := (c = -1 ∧ Z = s) ∨ (c = 0 ∧ Z = s + s % 2) ∨ (c = 1 ∧ Z = s + 1)
theorem up_ex (c : Int) (hc : c = -1 ∨ c = 0 ∨ c = 1) (s : Nat) : ∃ Z, UpZ c s Z := by
  rcases hc with h | h | h
  · exact ⟨_, .inl ⟨h, rfl⟩⟩
  · exact ⟨_, .inr (.inl ⟨h, rfl⟩)⟩
  · exact ⟨_, .inr (.inr ⟨h, rfl⟩)⟩
theorem dv_dbl {x l : Int} (hl : -4194303 ≤ l) : dv (2 * x) (l - 1) = dv x l := by
  rw [show dv x l = dv x (l - 1 + ((1 : Nat) : Int)) by congr 1; omega, dv_up 1 (by omega), Int.mul_comm]; rfl
theorem round_g {H sd I s k m Z : Nat} {l e : Int} (hs : H = 2 ^ sd) (hl : -4194303 ≤ l) (hk : e = l + (k : Int)) (hsz : s = szN sd (m * 2 ^ k)) (hsI : s < I)
    (h : UpZ (cmpI ((m : Int) * 2 ^ (k + 1)) ((vs H s : Int) + (vs H (s + 1) : Int))) s Z) : RNz H l I (dv m e) Z := by
  have hp : 0 < H := by rw [hs]; exact Nat.two_pow_pos _
  obtain ⟨b1, b2⟩ := sz_between hs (m * 2 ^ k)
  rw [← hsz] at b1 b2
  have hvs := hv_sum hp s
  have e1 : dv (m : Int) e = dv (2 * ((m * 2 ^ k : Nat) : Int)) (l - 1) := by rw [dv_dbl hl, hk, dv_up k (by omega), Int.natCast_mul]
  have e2 : (m : Int) * 2 ^ (k + 1) = 2 * ((m * 2 ^ k : Nat) : Int) := by
    rw [Int.natCast_mul, Int.natCast_pow, Int.pow_succ]
    show (m : Int) * (2 ^ k * 2) = 2 * ((m : Int) * 2 ^ k)
    rw [← Int.mul_assoc, Int.mul_comm 2]
  rw [e1]
  rw [e2, ← Int.natCast_add, ← hvs] at h
  refine rn_from hp hsI (dv_le _ (by omega)) (dv_lt _ (by omega)) ?_
  rcases cmpI_3 (2 * ((m * 2 ^ k : Nat) : Int)) (hv H s : Int) with ⟨c, d⟩ | ⟨c, d⟩ | ⟨c, d⟩ <;> rw [c] at h
  · exact .inl ⟨dv_lt _ d, by rcases h with h | h | h <;> omega⟩
  · exact .inr (.inl ⟨by rw [d], by rcases h with h | h | h <;> omega⟩)
  · exact .inr (.inr ⟨dv_lt _ d, by rcases h with h | h | h <;> omega⟩)
theorem round_l {H sd I s k m Z : Nat} {l e : Int} (hs : H = 2 ^ sd) (hl : -4194303 ≤ l) (he : -4194304 ≤ e) (hk : l = e + ((k + 1 : Nat) : Int)) (hsz : s = szN sd (m / 2 ^ (k + 1))) (hsI : s < I)
    (h : UpZ (cmpI (m : Int) (((vs H s : Int) + (vs H (s + 1) : Int)) * 2 ^ k)) s Z) : RNz H l I (dv m e) Z := by
  have hp : 0 < H := by rw [hs]; exact Nat.two_pow_pos _
  obtain ⟨b1, b2⟩ := sz_between hs (m / 2 ^ (k + 1))
  rw [← hsz] at b1 b2
  have hvs := hv_sum hp s
  have hd1 : vs H s * 2 ^ (k + 1) ≤ m := Nat.le_trans (Nat.mul_le_mul_right _ b1) (Nat.div_mul_le_self _ _)
  have hd2 : m < vs H (s + 1) * 2 ^ (k + 1) := Nat.lt_of_lt_of_le (lt_up_mul m (k + 1)) (Nat.mul_le_mul_right _ b2)
  have e1 : ∀ x : Nat, dv (2 * (x : Int)) (l - 1) = dv ((x * 2 ^ (k + 1) : Nat) : Int) e := fun x => by rw [dv_dbl hl, hk, dv_up _ he, Int.natCast_mul]
  have e2 : ∀ x : Int, dv x (l - 1) = dv (x * ((2 ^ k : Nat) : Int)) e := fun x => by rw [show l - 1 = e + (k : Int) by omega, dv_up _ he]
  have e3 : ((vs H s : Int) + (vs H (s + 1) : Int)) * 2 ^ k = (hv H s : Int) * ((2 ^ k : Nat) : Int) := by
    rw [← Int.natCast_add, ← hvs, Int.natCast_pow]; rfl
  rw [e3] at h
  refine rn_from hp hsI ?_ ?_ ?_
  · rw [e1]; exact dv_le _ (by omega)
  · rw [e1]; exact dv_lt _ (by omega)
  · rw [e2]
    rcases cmpI_3 (m : Int) ((hv H s : Int) * ((2 ^ k : Nat) : Int)) with ⟨c, d⟩ | ⟨c, d⟩ | ⟨c, d⟩ <;> rw [c] at h
    · exact .inl ⟨dv_lt _ d, by rcases h with h | h | h <;> omega⟩
    · exact .inr (.inl ⟨by rw [← d], by rcases h with h | h | h <;> omega⟩)
    · exact .inr (.inr ⟨dv_lt _ d, by rcases h with h | h | h <;> omega⟩)
theorem sz_ltI {H sd n I u : Nat} (hs : H = 2 ^ sd) (hI : I = (n + 1) * H) (h : bitsN u ≤ sd + n) : szN sd u < I := by
  have hp : 0 < H := by rw [hs]; exact Nat.two_pow_pos _
  refine Nat.lt_of_not_le fun k => ?_
  have h1 := vs_le hp k
  rw [vs_top hs hI] at h1
  have h2 := (sz_between hs u).1
  have h3 : u < 2 ^ (sd + n) := Nat.lt_of_lt_of_le (bitsN_lt u) (Nat.pow_le_pow_right (by decide) h)
  omega
theorem bits_dle (m k : Nat) : bitsN (m / 2 ^ k) ≤ bitsN m - k := by
  refine bits_leg ?_
  rcases Nat.lt_or_ge (bitsN m) k with h | h
  · rw [Nat.div_eq_of_lt (Nat.lt_of_lt_of_le (bitsN_lt m) (Nat.pow_le_pow_right (by decide) (by omega)))]; exact Nat.two_pow_pos _
  · rw [Nat.div_lt_iff_lt_mul (Nat.two_pow_pos k), ← Nat.pow_add, show bitsN m - k + k = bitsN m by omega]; exact bitsN_lt m
theorem dround_z {S : Nat} {P E G : Int} {I Q : Nat} {p : Option Addr} {n : Nat} {zs : List Nat} {e : Int} {w : World} (h : At32 w p n n zs) (hx : Nf B32 zs 0) (hn : n ≤ 4000) (h1 : -10000000000000 ≤ e) (h2 : e ≤ 10000000000000) :
    Calls Tryz.prog 38 #[FV S P E G I Q, .slice p n n, .int .i64 e] w fun en w' => en = .returned (U 0) ∧ Below w.heap.size w w' := by
  obtain rfl := n_of0 h hx
  have w1 := (gw1 (b := 0) (e := e) rfl (by decide) h1 h2).1
  have w1' := (gw1 (b := 0) (e := e) rfl (by decide) h1 h2).2
  have HA : Hid (At32 w p 0 0 zs) := h
  have HX : Hid (Nf B32 zs 0) := hx
  clear h hx h1 h2 hn
  go_enter Tryz.func38, Tryz.ntmps38
  go_wp2_with fail
  obtain ⟨W0, hW0⟩ : ∃ W0, W0 = (w.alloc (.cells #[U S, .int .i64 P, .int .i64 E, .int .i64 G, U I, U Q] 79)) := ⟨_, rfl⟩
  have Xk : Hid (B6q W0 (w.heap.size) (U S) (.int .i64 P) (.int .i64 E) (.int .i64 G) (U I) (U Q)) := by rw [hW0]; exact ⟨by go_simp, by go_simp, by go_simp, by go_simp, by go_simp, by go_simp, by go_simp, by go_simp, by go_simp, by go_simp, by go_simp, by go_simp⟩
  have hb0 : Below w.heap.size w W0 := by rw [hW0]; exact below1 w _
  rw [← hW0]
  clear hW0
  have hbw : Below w.heap.size w w := Below.refl _ _
  obtain ⟨gk, hgk⟩ : ∃ g, g = w.heap.size := ⟨_, rfl⟩
  have HGk : Hid (w.heap.size ≤ gk) := by rw [hgk]; show _ ≤ _; omega
  rw [← hgk] at Xk
  try rw [← hgk]
  clear hgk
  replace HA : Hid _ := HA.out.below hb0
  replace hbw := Below.on hbw hb0
  clear hb0
  refine (rbits_any HA.out HX.out (by omega)).mono ?_
  rintro e1 w1 ⟨rfl, hw⟩
  rw [show ((bitsN 0 : Nat) : Int) = ((0 : Nat) : Int) from rfl]
  obtain rfl := hw.symm
  clear hw
  obtain ⟨ck0, ck1, ck2, ck3, ck4, ck5, fk0, fk1, fk2, fk3, fk4, fk5⟩ := Xk.out
  have hnek : gk < W0.heap.size := World.block_lt_of_cell? W0 _ ck0
  go_wp2_with fail
  clear ck0 ck1 ck2 ck3 ck4 ck5 fk0 fk1 fk2 fk3 fk4 fk5 hnek
  go_ret
  exact ⟨rfl, hbw⟩
theorem dround_lo {S : Nat} {P E G : Int} {I Q H sd N : Nat} {Be f : Int} (R : Rj f S P E G I Q H sd N Be) {p : Option Addr} {n v : Nat} {zs : List Nat} {e : Int} {w : World} (h : At32 w p n n zs) (hx : Nf B32 zs v) (hn : n ≤ 4000) (h1 : -10000000000000 ≤ e) (h2 : e ≤ 10000000000000) (hb : bitsN v ≤ 100000) (hv : v ≠ 0) (ht0 : (bitsN v : Int) + e < E) :
    Calls Tryz.prog 38 #[FV S P E G I Q, .slice p n n, .int .i64 e] w fun en w' => en = .returned (U 0) ∧ Below w.heap.size w w' := by
  obtain ⟨b, hbe⟩ : ∃ b, b = bitsN v := ⟨_, rfl⟩
  obtain ⟨t, ht⟩ : ∃ t : Int, t = (b : Int) + e := ⟨_, rfl⟩
  have w1 := (gw1 ht (by rw [hbe]; exact hb) h1 h2).1
  have w1' := (gw1 ht (by rw [hbe]; exact hb) h1 h2).2
  have c1 : decide (t < E) = true := decide_eq_true (by omega)
  have c1' : t < E := by omega
  skip
  have g1 := (rj_w R.be).1
  have g2 := (rj_w R.be).2
  have n1 : ¬ n = 0 := n_of h hx hv
  have n0 : ((n : Int) == 0) = false := by simp; omega
  have HA : Hid (At32 w p n n zs) := h
  have HX : Hid (Nf B32 zs v ∧ n ≤ 4000 ∧ b = bitsN v) := ⟨hx, hn, hbe⟩
  clear h hx hn h1 h2 hb ht0 ht hbe R hv
  go_enter Tryz.func38, Tryz.ntmps38
  go_wp2_with fail
  obtain ⟨W0, hW0⟩ : ∃ W0, W0 = (w.alloc (.cells #[U S, .int .i64 P, .int .i64 E, .int .i64 G, U I, U Q] 79)) := ⟨_, rfl⟩
  have Xk : Hid (B6q W0 (w.heap.size) (U S) (.int .i64 P) (.int .i64 E) (.int .i64 G) (U I) (U Q)) := by rw [hW0]; exact ⟨by go_simp, by go_simp, by go_simp, by go_simp, by go_simp, by go_simp, by go_simp, by go_simp, by go_simp, by go_simp, by go_simp, by go_simp⟩
  have hb0 : Below w.heap.size w W0 := by rw [hW0]; exact below1 w _
  rw [← hW0]
  clear hW0
  have hbw : Below w.heap.size w w := Below.refl _ _
  obtain ⟨gk, hgk⟩ : ∃ g, g = w.heap.size := ⟨_, rfl⟩
  have HGk : Hid (w.heap.size ≤ gk) := by rw [hgk]; show _ ≤ _; omega
  rw [← hgk] at Xk
  try rw [← hgk]
  clear hgk
  replace HA : Hid _ := HA.out.below hb0
  replace hbw := Below.on hbw hb0
  clear hb0
  refine (rbits_any HA.out HX.out.1 (by have := HX.out.2.1; omega)).mono ?_
  rintro e1 w1 ⟨rfl, hw⟩
  rw [← HX.out.2.2]
  obtain rfl := hw.symm
  clear hw
  obtain ⟨ck0, ck1, ck2, ck3, ck4, ck5, fk0, fk1, fk2, fk3, fk4, fk5⟩ := Xk.out
  have hnek : gk < W0.heap.size := World.block_lt_of_cell? W0 _ ck0
  go_wp2_with fail
  clear ck0 ck1 ck2 ck3 ck4 ck5 fk0 fk1 fk2 fk3 fk4 fk5 hnek
  go_ret
  exact ⟨rfl, hbw⟩
theorem dround_hi {S : Nat} {P E G : Int} {I Q H sd N : Nat} {Be f : Int} (R : Rj f S P E G I Q H sd N Be) {p : Option Addr} {n v : Nat} {zs : List Nat} {e : Int} {w : World} (h : At32 w p n n zs) (hx : Nf B32 zs v) (hn : n ≤ 4000) (h1 : -10000000000000 ≤ e) (h2 : e ≤ 10000000000000) (hb : bitsN v ≤ 100000) (hv : v ≠ 0) (ht0 : Be < (bitsN v : Int) + e) :
    Calls Tryz.prog 38 #[FV S P E G I Q, .slice p n n, .int .i64 e] w fun en w' => en = .returned (U I) ∧ Below w.heap.size w w' := by
  obtain ⟨b, hbe⟩ : ∃ b, b = bitsN v := ⟨_, rfl⟩
  obtain ⟨t, ht⟩ : ∃ t : Int, t = (b : Int) + e := ⟨_, rfl⟩
  have w1 := (gw1 ht (by rw [hbe]; exact hb) h1 h2).1
  have w1' := (gw1 ht (by rw [hbe]; exact hb) h1 h2).2
  have c1 : decide (t < E) = false := decide_eq_false (by have h3 := R.hn; have h4 := R.n1; omega)
  have c2 : decide (Be < t) = true := decide_eq_true (by omega)
  have c2' : Be < t := by omega
  have g1 := (rj_w R.be).1
  have g2 := (rj_w R.be).2
  have n1 : ¬ n = 0 := n_of h hx hv
  have n0 : ((n : Int) == 0) = false := by simp; omega
  have HA : Hid (At32 w p n n zs) := h
  have HX : Hid (Nf B32 zs v ∧ n ≤ 4000 ∧ b = bitsN v) := ⟨hx, hn, hbe⟩
  clear h hx hn h1 h2 hb ht0 ht hbe R hv
  go_enter Tryz.func38, Tryz.ntmps38
  go_wp2_with fail
  obtain ⟨W0, hW0⟩ : ∃ W0, W0 = (w.alloc (.cells #[U S, .int .i64 P, .int .i64 E, .int .i64 G, U I, U Q] 79)) := ⟨_, rfl⟩
  have Xk : Hid (B6q W0 (w.heap.size) (U S) (.int .i64 P) (.int .i64 E) (.int .i64 G) (U I) (U Q)) := by rw [hW0]; exact ⟨by go_simp, by go_simp, by go_simp, by go_simp, by go_simp, by go_simp, by go_simp, by go_simp, by go_simp, by go_simp, by go_simp, by go_simp⟩
  have hb0 : Below w.heap.size w W0 := by rw [hW0]; exact below1 w _
  rw [← hW0]
  clear hW0
  have hbw : Below w.heap.size w w := Below.refl _ _
  obtain ⟨gk, hgk⟩ : ∃ g, g = w.heap.size := ⟨_, rfl⟩
  have HGk : Hid (w.heap.size ≤ gk) := by rw [hgk]; show _ ≤ _; omega
  rw [← hgk] at Xk
  try rw [← hgk]
  clear hgk
  replace HA : Hid _ := HA.out.below hb0
  replace hbw := Below.on hbw hb0
  clear hb0
  refine (rbits_any HA.out HX.out.1 (by have := HX.out.2.1; omega)).mono ?_
  rintro e1 w1 ⟨rfl, hw⟩
  rw [← HX.out.2.2]
  obtain rfl := hw.symm
  clear hw
  obtain ⟨ck0, ck1, ck2, ck3, ck4, ck5, fk0, fk1, fk2, fk3, fk4, fk5⟩ := Xk.out
  have hnek : gk < W0.heap.size := World.block_lt_of_cell? W0 _ ck0
  go_wp2_with fail
  clear ck0 ck1 ck2 ck3 ck4 ck5 fk0 fk1 fk2 fk3 fk4 fk5 hnek
  go_ret
  exact ⟨rfl, hbw⟩
theorem dround_g {S : Nat} {P E G : Int} {I Q H sd N : Nat} {Be f : Int} (R : Rj f S P E G I Q H sd N Be) {p : Option Addr} {n v Z : Nat} {zs : List Nat} {e : Int} {w : World} (h : At32 w p n n zs) (hx : Nf B32 zs v) (hn : n ≤ 4000) (h1 : -10000000000000 ≤ e) (h2 : e ≤ 10000000000000) (hb : bitsN v ≤ 100000) {k0 : Nat} (hv : v ≠ 0) (ht1 : E ≤ (bitsN v : Int) + e) (ht2 : (bitsN v : Int) + e ≤ Be) (hk : e = E + (k0 : Int)) (hZ : RNz H E I (dv v e) Z) :
    Calls Tryz.prog 38 #[FV S P E G I Q, .slice p n n, .int .i64 e] w fun en w' => en = .returned (U Z) ∧ Below w.heap.size w w' := by
  obtain ⟨b, hbe⟩ : ∃ b, b = bitsN v := ⟨_, rfl⟩
  obtain ⟨t, ht⟩ : ∃ t : Int, t = (b : Int) + e := ⟨_, rfl⟩
  have w1 := (gw1 ht (by rw [hbe]; exact hb) h1 h2).1
  have w1' := (gw1 ht (by rw [hbe]; exact hb) h1 h2).2
  have hH0 : 0 < H := by rw [R.hs]; exact Nat.two_pow_pos _
  have hsd := R.hsd
  have hbe2 := R.be
  have hlt := R.lt
  have hb1 := bitsN_pos hv
  obtain ⟨hRn, hRI⟩ : Be = E + sd + N ∧ I = (N + 1) * H := ⟨R.hn, R.hI⟩
  have hk9 : k0 ≤ 34200 := by omega
  obtain ⟨u, hu⟩ : ∃ u, u = v * 2 ^ k0 := ⟨_, rfl⟩
  have hub : bitsN u ≤ sd + N := by
    rw [hu]
    have h3 : bitsN (v * 2 ^ k0) = bitsN v + k0 := by have := bits_shift (t := k0) hv; rw [bb_eq, bb_eq] at this; exact this
    omega
  have hub2 : sd + N ≤ 2100 := by omega
  obtain ⟨s, hs⟩ : ∃ s, s = szN sd u := ⟨_, rfl⟩
  have hsI : s < I := by rw [hs]; exact sz_ltI R.hs R.hI hub
  obtain ⟨c, hc⟩ : ∃ c, c = cmpI ((v : Int) * 2 ^ (k0 + 1)) (svS S H s + svS S H (s + 1)) := ⟨_, rfl⟩
  have hu1 : svS S H s = (vs H s : Int) := rj_sv (by omega)
  have hu2 : svS S H (s + 1) = (vs H (s + 1) : Int) := rj_sv (by omega)
  have hc3 : c = -1 ∨ c = 0 ∨ c = 1 := by rw [hc]; rcases cmpI_3 ((v : Int) * 2 ^ (k0 + 1)) (svS S H s + svS S H (s + 1)) with h | h | h <;> omega
  obtain ⟨Y, hY⟩ := up_ex c hc3 s
  have hYZ : Y = Z := by
    refine RNz.uniq ?_ hZ
    rw [hc, hu1, hu2] at hY
    exact round_g R.hs (by omega) hk (by rw [hs, hu]) hsI hY
  subst hYZ
  have HY : Hid (UpZ c s Y) := hY
  have HTW : Hid (0 < (svS S H s + svS S H (s + 1)) ∧ bitsN ((svS S H s + svS S H (s + 1))).natAbs ≤ 100000 ∧ cmpI ((v : Int) * 2 ^ (k0 + 1)) (svS S H s + svS S H (s + 1)) = c) := by
    refine ⟨?_, ?_, hc.symm⟩
    · have := vs_succ hH0 s
      rw [hu1, hu2]; omega
    · rw [hu1, hu2, ← Int.natCast_add, Int.natAbs_natCast]
      have h3 := vs_le hH0 (show s ≤ I by omega)
      have h4 := vs_le hH0 (show s + 1 ≤ I from hsI)
      rw [vs_top R.hs R.hI] at h3 h4
      have h5 := bits_leg (n := vs H s + vs H (s + 1)) (k := sd + N + 2) (by rw [Nat.pow_succ, Nat.pow_succ]; have := Nat.two_pow_pos (sd + N); omega)
      omega
  have n1 : ¬ n = 0 := n_of h hx hv
  have n0 : ((n : Int) == 0) = false := by simp; omega
  have c1 : decide (t < E) = false := decide_eq_false (by omega)
  have c2 : decide (Be < t) = false := decide_eq_false (by omega)
  have c1' : ¬ t < E := by omega
  have c2' : ¬ Be < t := by omega
  have g1 := (rj_w R.be).1
  have g2 := (rj_w R.be).2
  have c3 : decide (E ≤ e) = true := decide_eq_true (by omega)
  have c3' : E ≤ e := by omega
  have w5 := (gw3 hbe2.2.2.1 hbe2.2.2.2.1).1
  have w5' := (gw3 hbe2.2.2.1 hbe2.2.2.2.1).2
  have w6 := (gw2 (a := e) (b := E) (k := k0) (by omega) (by omega)).1
  have w6' := (gw2 (a := e) (b := E) (k := k0) (by omega) (by omega)).2
  have w3 := gw4 (show s < 9223372036854775808 by omega)
  have HR : Hid (Rj f S P E G I Q H sd N Be) := R
  have HEE : Hid (-40000 ≤ e ∧ e ≤ 40000 ∧ -40000 ≤ E - 1 ∧ E - 1 ≤ 40000) := ⟨by omega, by omega, by omega, by omega⟩
  have HSI : Hid (s < I) := hsI
  have HK3 : Hid (k0 ≤ 34200 ∧ e = E - 1 + ((k0 + 1 : Nat) : Int)) := ⟨hk9, by omega⟩
  have HA : Hid (At32 w p n n zs) := h
  have HX : Hid (Nf B32 zs v ∧ n ≤ 4000 ∧ b = bitsN v ∧ s = szN sd u ∧ v ≠ 0 ∧ bitsN v ≤ 100000 ∧ u = v * 2 ^ k0 ∧ bl_bitsN u ≤ 2300) := ⟨hx, hn, hbe, hs, hv, hb, hu, by rw [bb_eq]; omega⟩
  clear h hx hn hbe hs hv hb hb1 ht hsI hc hu1 hu2 hub hub2 hu hk hk9 ht1 ht2 hZ hY hc3 hH0 hsd hbe2 hlt hRn hRI h1 h2 R
  go_enter Tryz.func38, Tryz.ntmps38
  go_wp2_with fail
  obtain ⟨W0, hW0⟩ : ∃ W0, W0 = (w.alloc (.cells #[U S, .int .i64 P, .int .i64 E, .int .i64 G, U I, U Q] 79)) := ⟨_, rfl⟩
  have Xk : Hid (B6q W0 (w.heap.size) (U S) (.int .i64 P) (.int .i64 E) (.int .i64 G) (U I) (U Q)) := by rw [hW0]; exact ⟨by go_simp, by go_simp, by go_simp, by go_simp, by go_simp, by go_simp, by go_simp, by go_simp, by go_simp, by go_simp, by go_simp, by go_simp⟩
  have hb0 : Below w.heap.size w W0 := by rw [hW0]; exact below1 w _
  rw [← hW0]
  clear hW0
  have hbw : Below w.heap.size w w := Below.refl _ _
  obtain ⟨gk, hgk⟩ : ∃ g, g = w.heap.size := ⟨_, rfl⟩
  have HGk : Hid (w.heap.size ≤ gk) := by rw [hgk]; show _ ≤ _; omega
  rw [← hgk] at Xk
  try rw [← hgk]
  clear hgk
  replace HA : Hid _ := HA.out.below hb0
  replace hbw := Below.on hbw hb0
  clear hb0
  refine (rbits_any HA.out HX.out.1 (by have := HX.out.2.1; omega)).mono ?_
  rintro e1 w1 ⟨rfl, hw⟩
  rw [← HX.out.2.2.1]
  obtain rfl := hw.symm
  clear hw
  obtain ⟨ck0, ck1, ck2, ck3, ck4, ck5, fk0, fk1, fk2, fk3, fk4, fk5⟩ := Xk.out
  have hnek : gk < W0.heap.size := World.block_lt_of_cell? W0 _ ck0
  go_wp2_with fail
  clear ck0 ck1 ck2 ck3 ck4 ck5 fk0 fk1 fk2 fk3 fk4 fk5 hnek
  refine (rshl_all HA.out HX.out.1 (by have := HX.out.2.1; omega) k0 (.inl (by have := HK3.out.1; omega))).mono ?_
  rintro e1 v5 ⟨p5, m5, z5, rfl, hA5, hN5, hm5, hb5⟩
  rw [← HX.out.2.2.2.2.2.2.1] at hN5
  replace Xk : Hid _ := Xk.out.below hb5
  replace HA : Hid _ := HA.out.below hb5
  replace hbw := Below.on hbw hb5
  clear hb5
  have A5 : Hid (At32 v5 p5 m5 m5 z5) := hA5
  have N5 : Hid (Nf B32 z5 u ∧ m5 ≤ 16384) := ⟨hN5, Nat.le_trans (nf_len6 hA5 hN5 HX.out.2.2.2.2.2.2.2) (by decide)⟩
  clear hA5 hN5 hm5
  obtain ⟨ck0, ck1, ck2, ck3, ck4, ck5, fk0, fk1, fk2, fk3, fk4, fk5⟩ := Xk.out
  have hnek : gk < v5.heap.size := World.block_lt_of_cell? v5 _ ck0
  go_wp2_with fail
  clear ck0 ck1 ck2 ck3 ck4 ck5 fk0 fk1 fk2 fk3 fk4 fk5 hnek
  refine (rsize_g HR.out.hP HR.out.hsd A5.out N5.out.1 N5.out.2 HX.out.2.2.2.2.2.2.2).mono ?_
  rintro e v6 ⟨rfl, hb6⟩
  rw [← HX.out.2.2.2.1]
  replace Xk : Hid _ := Xk.out.below hb6
  replace HA : Hid _ := HA.out.below hb6
  replace A5 : Hid _ := A5.out.below hb6
  replace hbw := Below.on hbw hb6
  clear hb6
  clear A5
  clear N5
  obtain ⟨ck0, ck1, ck2, ck3, ck4, ck5, fk0, fk1, fk2, fk3, fk4, fk5⟩ := Xk.out
  have hnek : gk < v6.heap.size := World.block_lt_of_cell? v6 _ ck0
  go_wp2_with fail
  clear ck0 ck1 ck2 ck3 ck4 ck5 fk0 fk1 fk2 fk3 fk4 fk5 hnek
  have HAu : Hid (At32 v6 p n n zs) := HA.out
  have hbu : Below v6.heap.size v6 v6 := Below.refl _ _
  clear HA
  obtain ⟨Wr, hWr⟩ : ∃ W1, W1 = v6.drew := ⟨_, rfl⟩
  have hbd : Below v6.heap.size v6 Wr := by rw [hWr]; exact bDrew1 (Below.refl _ _)
  have hbu' := Below.on hbu hbd
  clear hbu
  have hbu := hbu'
  clear hbu'
  replace Xk : Hid _ := Xk.out.below hbd
  replace hbw := Below.on hbw hbd
  clear hbd
  have HJ : Hid ((fun W' : World => W'.cell? ⟨gk, 0, none⟩ = some (U S) ∧ W'.cell? ⟨gk, 1, none⟩ = some (.int .i64 P) ∧ W'.cell? ⟨gk, 2, none⟩ = some (.int .i64 E) ∧ W'.cell? ⟨gk, 3, none⟩ = some (.int .i64 G) ∧ W'.cell? ⟨gk, 4, none⟩ = some (U I) ∧ W'.cell? ⟨gk, 5, none⟩ = some (U Q)) Wr) := ⟨Xk.out.c0, Xk.out.c1, Xk.out.c2, Xk.out.c3, Xk.out.c4, Xk.out.c5⟩
  refine wp_region_J (fun W' => W'.cell? ⟨gk, 0, none⟩ = some (U S) ∧ W'.cell? ⟨gk, 1, none⟩ = some (.int .i64 P) ∧ W'.cell? ⟨gk, 2, none⟩ = some (.int .i64 E) ∧ W'.cell? ⟨gk, 3, none⟩ = some (.int .i64 G) ∧ W'.cell? ⟨gk, 4, none⟩ = some (U I) ∧ W'.cell? ⟨gk, 5, none⟩ = some (U Q)) (by kernel_rfl) ?_
  rw [← hWr]
  clear hWr
  refine wpJ_tq 0 rfl HJ.out ?_
  refine wpJ_tq 1 rfl HJ.out ?_
  refine wpJ_tq 3 rfl HJ.out ?_
  refine wpJ_tq 4 rfl HJ.out ?_
  refine wpJ_tq 5 rfl HJ.out ?_
  obtain ⟨RQ, HRQ, HRP⟩ : ∃ RQ : Act → Act → World → Prop, Hid (∀ a1 a2 a3, (fun a0 a' W' => ∃ gtw tA kA nA tB kB nB tF kF nF, a' = ((((a0.put (some 58) (.agg #[.bool tA, .slice (some ⟨kA, 0, none⟩) nA nA])).put (some 62) (.agg #[.bool tB, .slice (some ⟨kB, 0, none⟩) nB nB])).put (some 63) (.agg #[.bool tF, .slice (some ⟨kF, 0, none⟩) nF nF])).put (some 10) (.pointer (some ⟨gtw, 0, none⟩))) ∧ Box W' gtw (.bool tF) (.slice (some ⟨kF, 0, none⟩) nF nF) ∧ B6q W' gk (U S) (.int .i64 P) (.int .i64 E) (.int .i64 G) (U I) (U Q) ∧ ZR W' tF (some ⟨kF, 0, none⟩) nF (svS S H s + svS S H (s + 1)) ∧ w.heap.size ≤ gtw ∧ gk ≠ gtw ∧ (nF ≤ 2300) ∧ Below v6.heap.size v6 W' ∧ Below w.heap.size w W') a1 a2 a3 → RQ a1 a2 a3) ∧ Hid (∀ a1 a2 a3, RQ a1 a2 a3 → (fun a0 a' W' => ∃ gtw tA kA nA tB kB nB tF kF nF, a' = ((((a0.put (some 58) (.agg #[.bool tA, .slice (some ⟨kA, 0, none⟩) nA nA])).put (some 62) (.agg #[.bool tB, .slice (some ⟨kB, 0, none⟩) nB nB])).put (some 63) (.agg #[.bool tF, .slice (some ⟨kF, 0, none⟩) nF nF])).put (some 10) (.pointer (some ⟨gtw, 0, none⟩))) ∧ Box W' gtw (.bool tF) (.slice (some ⟨kF, 0, none⟩) nF nF) ∧ B6q W' gk (U S) (.int .i64 P) (.int .i64 E) (.int .i64 G) (U I) (U Q) ∧ ZR W' tF (some ⟨kF, 0, none⟩) nF (svS S H s + svS S H (s + 1)) ∧ w.heap.size ≤ gtw ∧ gk ≠ gtw ∧ (nF ≤ 2300) ∧ Below v6.heap.size v6 W' ∧ Below w.heap.size w W') a1 a2 a3) := ⟨_, fun _ _ _ h => h, fun _ _ _ h => h⟩
  refine wpJ_cutA RQ ?_ ?_
  · intro a' Wc hrq
    obtain ⟨gtw, tA, kA, nA, tB, kB, nB, tF, kF, nF, rfl, xbQ, xk, rr, hg, hdk, hHNF, hbuc, hbc⟩ := HRP.out _ _ _ hrq
    clear hrq HRP HRQ
    clear hbw hbu HJ Xk
    have hbw := hbc
    have hbu := hbuc
    have Xtw : Hid (Box Wc gtw (.bool tF) (.slice (some ⟨kF, 0, none⟩) nF nF)) := xbQ
    have Xk : Hid (B6q Wc gk (U S) (.int .i64 P) (.int .i64 E) (.int .i64 G) (U I) (U Q)) := xk
    have RR : Hid (ZR Wc tF (some ⟨kF, 0, none⟩) nF (svS S H s + svS S H (s + 1))) := rr
    have HGtw : Hid (w.heap.size ≤ gtw) := hg
    have HDktw : Hid (gk ≠ gtw) := hdk
    have HNF : Hid (nF ≤ 2300) := hHNF
    clear xbQ xk rr hg hdk hHNF hbuc hbc
    have HA : Hid (At32 Wc p n n zs) := HAu.out.below hbu
    clear hbu HAu
    obtain ⟨ck0, ck1, ck2, ck3, ck4, ck5, fk0, fk1, fk2, fk3, fk4, fk5⟩ := Xk.out
    have hnek : gk < Wc.heap.size := World.block_lt_of_cell? Wc _ ck0
    obtain ⟨ctw0, ctw1, ftw0, ftw1⟩ := Xtw.out
    have hnetw := Xtw.out.lt
    go_wp2_with fail
    clear ck0 ck1 ck2 ck3 ck4 ck5 fk0 fk1 fk2 fk3 fk4 fk5 hnek
    clear ctw0 ctw1 ftw0 ftw1 hnetw
    obtain ⟨Wy, hWy⟩ : ∃ W1, W1 = Wc.drew := ⟨_, rfl⟩
    have hbd : Below Wc.heap.size Wc Wy := by rw [hWy]; exact bDrew1 (Below.refl _ _)
    replace Xtw : Hid _ := Xtw.out.below hbd
    replace Xk : Hid _ := Xk.out.below hbd
    replace RR : Hid _ := RR.out.below hbd
    replace HA : Hid _ := HA.out.below hbd
    replace hbw := Below.on hbw hbd
    clear hbd
    have HJ : Hid ((fun W' : World => W'.cell? ⟨gk, 2, none⟩ = some (.int .i64 E) ∧ W'.cell? ⟨gtw, 0, none⟩ = some (.bool tF) ∧ W'.cell? ⟨gtw, 1, none⟩ = some (.slice (some ⟨kF, 0, none⟩) nF nF)) Wy) := ⟨Xk.out.c2, Xtw.out.c0, Xtw.out.c1⟩
    refine wp_region_J (fun W' => W'.cell? ⟨gk, 2, none⟩ = some (.int .i64 E) ∧ W'.cell? ⟨gtw, 0, none⟩ = some (.bool tF) ∧ W'.cell? ⟨gtw, 1, none⟩ = some (.slice (some ⟨kF, 0, none⟩) nF nF)) (by kernel_rfl) ?_
    rw [← hWy]
    clear hWy
    refine wpJ_tq 0 rfl HJ.out ?_
    refine wpJ_tq 2 rfl HJ.out ?_
    refine wpJ_tq 3 rfl HJ.out ?_
    refine wpJ_tq 4 rfl HJ.out ?_
    refine wpJ_tq 5 rfl HJ.out ?_
    go_simp
    refine wpJ_tq 6 rfl HJ.out ?_
    refine wpJ_on 1 rfl fun KJ hK => ?_
    go_simp
    have hiv : iv false v = (v : Int) := rfl
    refine (rmk_any false HA.out HX.out.1 (by have := HX.out.2.1; omega)).mono ?_
    rintro e9 uM ⟨v9, rfl, hv, hbM⟩
    obtain ⟨tM, kM, nM, rfl, hgM, hzM, hlM⟩ := hv
    skip
    replace Xtw : Hid _ := Xtw.out.below hbM
    replace Xk : Hid _ := Xk.out.below hbM
    replace RR : Hid _ := RR.out.below hbM
    replace HA : Hid _ := HA.out.below hbM
    replace hbw := Below.on hbw hbM
    clear hbM
    have YM : Hid (ZR uM tM (some ⟨kM, 0, none⟩) nM (iv false v)) := hzM
    have HLM : Hid (nM ≤ n) := hlM
    clear hzM hlM hgM
    rw [hiv] at YM
    clear hiv
    refine hK _ _ ⟨Xk.out.c2, Xtw.out.c0, Xtw.out.c1⟩ ?_
    clear hK
    refine wpJ_on 7 rfl fun KJ hK => ?_
    go_simp
    refine (rholdw_g (k := k0 + 1) (e := e) (f := E - 1) tM tF YM.out RR.out (by have h1 := HLM.out; have h2 := HX.out.2.1; omega) (by have := HNF.out; omega) (by have := HX.out.2.2.2.2.1; omega) HTW.out.1 (by rw [Int.natAbs_natCast]; exact HX.out.2.2.2.2.2.1) HTW.out.2.1 ⟨by omega, by have := HK3.out.1; omega⟩ ⟨HEE.out.1, HEE.out.2.1⟩ ⟨HEE.out.2.2.1, HEE.out.2.2.2⟩ HK3.out.2).mono ?_
    rintro e vH ⟨rfl, hbH⟩
    rw [HTW.out.2.2]
    replace Xtw : Hid _ := Xtw.out.below hbH
    replace Xk : Hid _ := Xk.out.below hbH
    replace RR : Hid _ := RR.out.below hbH
    replace HA : Hid _ := HA.out.below hbH
    replace YM : Hid _ := YM.out.below hbH
    replace hbw := Below.on hbw hbH
    clear hbH
    clear HJ
    have HJ : Hid ((fun W' : World => W'.cell? ⟨gk, 2, none⟩ = some (.int .i64 E) ∧ W'.cell? ⟨gtw, 0, none⟩ = some (.bool tF) ∧ W'.cell? ⟨gtw, 1, none⟩ = some (.slice (some ⟨kF, 0, none⟩) nF nF)) vH) := ⟨Xk.out.c2, Xtw.out.c0, Xtw.out.c1⟩
    refine hK _ _ HJ.out ?_
    clear hK
    refine wpJ_tq 8 rfl HJ.out ?_
    refine wpJ_done (by kernel_rfl) ?_ _
    clear HJ
    rcases HY.out with ⟨hc, hZ⟩ | ⟨hc, hZ⟩ | ⟨hc, hZ⟩
    · rw [hc]
      have HZZ : Hid (Y = s) := hZ
      clear hc hZ
      obtain ⟨ck0, ck1, ck2, ck3, ck4, ck5, fk0, fk1, fk2, fk3, fk4, fk5⟩ := Xk.out
      have hnek : gk < vH.heap.size := World.block_lt_of_cell? vH _ ck0
      go_wp2_with fail
      clear ck0 ck1 ck2 ck3 ck4 ck5 fk0 fk1 fk2 fk3 fk4 fk5 hnek
      go_ret
      refine ⟨congrArg (fun z => Ending.returned (.int .u64 z)) ?_, hbw⟩
      rw [HZZ.out]
      exact min_I (Nat.le_of_lt HSI.out)
    · rw [hc]
      rcases Nat.mod_two_eq_zero_or_one s with hp | hp
      · have p1 : ((s : Int) % 2 == 1) = false := by rw [show (s : Int) % 2 = ((s % 2 : Nat) : Int) by omega, hp]; rfl
        have HZZ : Hid (Y = s) := by rw [hp] at hZ; exact hZ
        have p2 : (s : Int) % 2 = 0 := by omega
        clear hp hc hZ
        obtain ⟨ck0, ck1, ck2, ck3, ck4, ck5, fk0, fk1, fk2, fk3, fk4, fk5⟩ := Xk.out
        have hnek : gk < vH.heap.size := World.block_lt_of_cell? vH _ ck0
        go_wp2_with fail
        clear ck0 ck1 ck2 ck3 ck4 ck5 fk0 fk1 fk2 fk3 fk4 fk5 hnek
        go_ret
        refine ⟨congrArg (fun z => Ending.returned (.int .u64 z)) ?_, hbw⟩
        rw [HZZ.out]
        exact min_I (Nat.le_of_lt HSI.out)
      · have p1 : ((s : Int) % 2 == 1) = true := by rw [show (s : Int) % 2 = ((s % 2 : Nat) : Int) by omega, hp]; rfl
        have HZZ : Hid (Y = s + 1) := by rw [hp] at hZ; exact hZ
        have p2 : (s : Int) % 2 = 1 := by omega
        clear hp hc hZ
        obtain ⟨ck0, ck1, ck2, ck3, ck4, ck5, fk0, fk1, fk2, fk3, fk4, fk5⟩ := Xk.out
        have hnek : gk < vH.heap.size := World.block_lt_of_cell? vH _ ck0
        go_wp2_with fail
        clear ck0 ck1 ck2 ck3 ck4 ck5 fk0 fk1 fk2 fk3 fk4 fk5 hnek
        go_ret
        refine ⟨congrArg (fun z => Ending.returned (.int .u64 z)) ?_, hbw⟩
        rw [HZZ.out]
        exact min_I1 HSI.out
    · rw [hc]
      have HZZ : Hid (Y = s + 1) := hZ
      clear hc hZ
      obtain ⟨ck0, ck1, ck2, ck3, ck4, ck5, fk0, fk1, fk2, fk3, fk4, fk5⟩ := Xk.out
      have hnek : gk < vH.heap.size := World.block_lt_of_cell? vH _ ck0
      go_wp2_with fail
      clear ck0 ck1 ck2 ck3 ck4 ck5 fk0 fk1 fk2 fk3 fk4 fk5 hnek
      go_ret
      refine ⟨congrArg (fun z => Ending.returned (.int .u64 z)) ?_, hbw⟩
      rw [HZZ.out]
      exact min_I1 HSI.out
  · skip
    refine wpJ_two (i := 2) (k := 8) (by kernel_rfl) rfl rfl (by kernel_rfl) (by kernel_rfl) (fun KJ hK => ?_) (fun KJ hK => ?_)
    · go_simp
      refine (HR.out.wh _ _).mono ?_
      rintro e9 uA ⟨v9, rfl, hv, hbA⟩
      obtain ⟨tA, kA, nA, rfl, hgA, hzA, hlA⟩ := hv
      skip
      have hbu' := Below.on hbu hbA
      clear hbu
      have hbu := hbu'
      clear hbu'
      replace Xk : Hid _ := Xk.out.below hbA
      replace hbw := Below.on hbw hbA
      clear hbA
      have YA : Hid (ZR uA tA (some ⟨kA, 0, none⟩) nA (svS S H s)) := hzA
      have HLA : Hid (nA ≤ 2200) := hlA
      clear hzA hlA hgA
      clear HJ
      have HJ : Hid ((fun W' : World => W'.cell? ⟨gk, 0, none⟩ = some (U S) ∧ W'.cell? ⟨gk, 1, none⟩ = some (.int .i64 P) ∧ W'.cell? ⟨gk, 2, none⟩ = some (.int .i64 E) ∧ W'.cell? ⟨gk, 3, none⟩ = some (.int .i64 G) ∧ W'.cell? ⟨gk, 4, none⟩ = some (U I) ∧ W'.cell? ⟨gk, 5, none⟩ = some (U Q)) uA) := ⟨Xk.out.c0, Xk.out.c1, Xk.out.c2, Xk.out.c3, Xk.out.c4, Xk.out.c5⟩
      refine hK _ _ HJ.out ?_
      clear hK
      refine wpJ_two (i := 6) (k := 8) (by kernel_rfl) rfl rfl (by kernel_rfl) (by kernel_rfl) (fun KJ hK => ?_) (fun KJ hK => ?_)
      · go_simp
        refine (HR.out.wh _ _).mono ?_
        rintro e9 uB ⟨v9, rfl, hv, hbB⟩
        obtain ⟨tB, kB, nB, rfl, hgB, hzB, hlB⟩ := hv
        skip
        have hbu' := Below.on hbu hbB
        clear hbu
        have hbu := hbu'
        clear hbu'
        replace Xk : Hid _ := Xk.out.below hbB
        replace YA : Hid _ := YA.out.below hbB
        replace hbw := Below.on hbw hbB
        clear hbB
        have YB : Hid (ZR uB tB (some ⟨kB, 0, none⟩) nB (svS S H (s + 1))) := hzB
        have HLB : Hid (nB ≤ 2200) := hlB
        clear hzB hlB hgB
        clear HJ
        have HJ : Hid ((fun W' : World => W'.cell? ⟨gk, 0, none⟩ = some (U S) ∧ W'.cell? ⟨gk, 1, none⟩ = some (.int .i64 P) ∧ W'.cell? ⟨gk, 2, none⟩ = some (.int .i64 E) ∧ W'.cell? ⟨gk, 3, none⟩ = some (.int .i64 G) ∧ W'.cell? ⟨gk, 4, none⟩ = some (U I) ∧ W'.cell? ⟨gk, 5, none⟩ = some (U Q)) uB) := ⟨Xk.out.c0, Xk.out.c1, Xk.out.c2, Xk.out.c3, Xk.out.c4, Xk.out.c5⟩
        refine hK _ _ HJ.out ?_
        clear hK
        refine wpJ_two (i := 7) (k := 8) (by kernel_rfl) rfl rfl (by kernel_rfl) (by kernel_rfl) (fun KJ hK => ?_) (fun KJ hK => ?_)
        · go_simp
          refine (radd04 tA tB YA.out YB.out (by have := HLA.out; omega) (by have := HLB.out; omega)).mono ?_
          rintro e9 uF ⟨v9, rfl, hv, hbF⟩
          obtain ⟨tF, kF, nF, rfl, hgF, hzF, hlF⟩ := hv
          have HGB : Hid (uB.heap.size ≤ kF) := hgF
          have hbu' := Below.on hbu hbF
          clear hbu
          have hbu := hbu'
          clear hbu'
          replace Xk : Hid _ := Xk.out.below hbF
          replace YA : Hid _ := YA.out.below hbF
          replace YB : Hid _ := YB.out.below hbF
          replace hbw := Below.on hbw hbF
          clear hbF
          have RR : Hid (ZR uF tF (some ⟨kF, 0, none⟩) nF (svS S H s + svS S H (s + 1))) := hzF
          have HLF : Hid (nF ≤ max nA nB + 1) := hlF
          clear hzF hlF hgF
          clear YA
          clear YB
          have HNF : Hid (nF ≤ 2300) := by have h1 := HLA.out; have h2 := HLB.out; have h3 := HLF.out; show _ ≤ _; omega
          refine hK _ _ ⟨Xk.out.c0, Xk.out.c1, Xk.out.c2, Xk.out.c3, Xk.out.c4, Xk.out.c5⟩ ?_
          clear hK
          refine wpJ_on 8 rfl fun KJ hK => ?_
          go_simp
          have HDktw : Hid (gk ≠ uF.heap.size) := Nat.ne_of_lt Xk.out.lt
          have HLS : Hid (∀ v0 v1, ZR (((uF.alloc (.cells #[.bool false, .slice none 0 0] 122)).setCell ⟨uF.heap.size, 0, none⟩ v0).setCell ⟨uF.heap.size, 1, none⟩ v1) tF (some ⟨kF, 0, none⟩) nF (svS S H s + svS S H (s + 1))) := fun v0 v1 => RR.out.below (bSet (bSet (below1 _ _) _ _ _ (Nat.le_refl _)) _ _ _ (Nat.le_refl _))
          have HGU : Hid (v6.heap.size ≤ uF.heap.size) := hbu.size
          have Xtw0 : Hid (Box (uF.alloc (.cells #[.bool false, .slice none 0 0] 122)) uF.heap.size (.bool false) (.slice none 0 0)) := Box.new uF _ _ _
          have hbn : Below uF.heap.size uF (uF.alloc (.cells #[.bool false, .slice none 0 0] 122)) := below1 uF _
          generalize uF.alloc (.cells #[.bool false, .slice none 0 0] 122) = Wn at *
          have HGtw : Hid (w.heap.size ≤ uF.heap.size) := hbw.size
          have hbu' := Below.on hbu hbn
          clear hbu
          have hbu := hbu'
          clear hbu'
          replace Xk : Hid _ := Xk.out.below hbn
          replace RR : Hid _ := RR.out.below hbn
          replace hbw := Below.on hbw hbn
          clear hbn
          generalize uF.heap.size = gtw at *
          have Xtw := Xtw0
          clear Xtw0
          refine hK _ _ ⟨Xk.out.c0, Xk.out.c1, Xk.out.c2, Xk.out.c3, Xk.out.c4, Xk.out.c5⟩ ?_
          clear hK
          obtain ⟨ctw0, ctw1, ftw0, ftw1⟩ := Xtw.out
          have hnetw := Xtw.out.lt
          obtain ⟨ck0, ck1, ck2, ck3, ck4, ck5, fk0, fk1, fk2, fk3, fk4, fk5⟩ := Xk.out
          have hnek : gk < Wn.heap.size := World.block_lt_of_cell? Wn _ ck0
          have qak : gk ≠ gtw := HDktw.out
          have qbk : gtw ≠ gk := fun h => qak h.symm
          refine wpJ_on 9 rfl fun KJ hK => ?_
          go_simp
          have HJ2 : Hid ((fun W' : World => W'.cell? ⟨gk, 0, none⟩ = some (U S) ∧ W'.cell? ⟨gk, 1, none⟩ = some (.int .i64 P) ∧ W'.cell? ⟨gk, 2, none⟩ = some (.int .i64 E) ∧ W'.cell? ⟨gk, 3, none⟩ = some (.int .i64 G) ∧ W'.cell? ⟨gk, 4, none⟩ = some (U I) ∧ W'.cell? ⟨gk, 5, none⟩ = some (U Q)) ((Wn.setCell ⟨gtw, 0, none⟩ (.bool tF)).setCell ⟨gtw, 1, none⟩ (.slice (some ⟨kF, 0, none⟩) nF nF))) := ⟨by go_simp, by go_simp, by go_simp, by go_simp, by go_simp, by go_simp⟩
          have Xtw2 : Hid (Box ((Wn.setCell ⟨gtw, 0, none⟩ (.bool tF)).setCell ⟨gtw, 1, none⟩ (.slice (some ⟨kF, 0, none⟩) nF nF)) gtw (.bool tF) (.slice (some ⟨kF, 0, none⟩) nF nF)) := ⟨by go_simp, by go_simp, by go_simp, by go_simp⟩
          have Xk2 : Hid (B6q ((Wn.setCell ⟨gtw, 0, none⟩ (.bool tF)).setCell ⟨gtw, 1, none⟩ (.slice (some ⟨kF, 0, none⟩) nF nF)) gk (U S) (.int .i64 P) (.int .i64 E) (.int .i64 G) (U I) (U Q)) := ⟨by go_simp, by go_simp, by go_simp, by go_simp, by go_simp, by go_simp, by go_simp, by go_simp, by go_simp, by go_simp, by go_simp, by go_simp⟩
          have RR2 : Hid (ZR ((Wn.setCell ⟨gtw, 0, none⟩ (.bool tF)).setCell ⟨gtw, 1, none⟩ (.slice (some ⟨kF, 0, none⟩) nF nF)) tF (some ⟨kF, 0, none⟩) nF (svS S H s + svS S H (s + 1))) := HLS.out _ _
          have hbu2 : Below v6.heap.size v6 ((Wn.setCell ⟨gtw, 0, none⟩ (.bool tF)).setCell ⟨gtw, 1, none⟩ (.slice (some ⟨kF, 0, none⟩) nF nF)) := bSet (bSet hbu _ _ _ HGU.out) _ _ _ HGU.out
          have hbw2 : Below w.heap.size w ((Wn.setCell ⟨gtw, 0, none⟩ (.bool tF)).setCell ⟨gtw, 1, none⟩ (.slice (some ⟨kF, 0, none⟩) nF nF)) := bSet (bSet hbw _ _ _ HGtw.out) _ _ _ HGtw.out
          refine hK _ _ HJ2.out ?_
          clear hK HJ
          have HJ := HJ2
          clear HJ2
          refine wpJ_done (by kernel_rfl) ?_ _
          exact ⟨rfl, HRQ.out _ _ _ ⟨gtw, tA, kA, nA, tB, kB, nB, tF, kF, nF, by kernel_rfl, Xtw2.out, Xk2.out, RR2.out, HGtw.out, HDktw.out, HNF.out, hbu2, hbw2⟩⟩
        · go_simp
          have HDktw : Hid (gk ≠ uB.heap.size) := Nat.ne_of_lt Xk.out.lt
          have HGU : Hid (v6.heap.size ≤ uB.heap.size) := hbu.size
          have Xtw0 : Hid (Box (uB.alloc (.cells #[.bool false, .slice none 0 0] 122)) uB.heap.size (.bool false) (.slice none 0 0)) := Box.new uB _ _ _
          have hbn : Below uB.heap.size uB (uB.alloc (.cells #[.bool false, .slice none 0 0] 122)) := below1 uB _
          generalize uB.alloc (.cells #[.bool false, .slice none 0 0] 122) = Wn at *
          have HGtw : Hid (w.heap.size ≤ uB.heap.size) := hbw.size
          have hbu' := Below.on hbu hbn
          clear hbu
          have hbu := hbu'
          clear hbu'
          replace Xk : Hid _ := Xk.out.below hbn
          replace YA : Hid _ := YA.out.below hbn
          replace YB : Hid _ := YB.out.below hbn
          replace hbw := Below.on hbw hbn
          clear hbn
          generalize uB.heap.size = gtw at *
          have Xtw := Xtw0
          clear Xtw0
          refine hK _ _ ⟨Xk.out.c0, Xk.out.c1, Xk.out.c2, Xk.out.c3, Xk.out.c4, Xk.out.c5⟩ ?_
          clear hK
          refine wpJ_on 7 rfl fun KJ hK => ?_
          go_simp
          have HLT : Hid (gtw < Wn.heap.size) := Xtw.out.lt
          refine (radd04 tA tB YA.out YB.out (by have := HLA.out; omega) (by have := HLB.out; omega)).mono ?_
          rintro e9 uF ⟨v9, rfl, hv, hbF⟩
          obtain ⟨tF, kF, nF, rfl, hgF, hzF, hlF⟩ := hv
          have HGB : Hid (Wn.heap.size ≤ kF) := hgF
          have hbu' := Below.on hbu hbF
          clear hbu
          have hbu := hbu'
          clear hbu'
          replace Xk : Hid _ := Xk.out.below hbF
          replace Xtw : Hid _ := Xtw.out.below hbF
          replace YA : Hid _ := YA.out.below hbF
          replace YB : Hid _ := YB.out.below hbF
          replace hbw := Below.on hbw hbF
          clear hbF
          have RR : Hid (ZR uF tF (some ⟨kF, 0, none⟩) nF (svS S H s + svS S H (s + 1))) := hzF
          have HLF : Hid (nF ≤ max nA nB + 1) := hlF
          clear hzF hlF hgF
          clear YA
          clear YB
          have HNF : Hid (nF ≤ 2300) := by have h1 := HLA.out; have h2 := HLB.out; have h3 := HLF.out; show _ ≤ _; omega
          have HNE : Hid (kF ≠ gtw) := by have h1 := HLT.out; have h2 := HGB.out; show _ ≠ _; omega
          refine hK _ _ ⟨Xk.out.c0, Xk.out.c1, Xk.out.c2, Xk.out.c3, Xk.out.c4, Xk.out.c5⟩ ?_
          clear hK
          obtain ⟨ctw0, ctw1, ftw0, ftw1⟩ := Xtw.out
          have hnetw := Xtw.out.lt
          obtain ⟨ck0, ck1, ck2, ck3, ck4, ck5, fk0, fk1, fk2, fk3, fk4, fk5⟩ := Xk.out
          have hnek : gk < uF.heap.size := World.block_lt_of_cell? uF _ ck0
          have qak : gk ≠ gtw := HDktw.out
          have qbk : gtw ≠ gk := fun h => qak h.symm
          refine wpJ_on 9 rfl fun KJ hK => ?_
          go_simp
          have HJ2 : Hid ((fun W' : World => W'.cell? ⟨gk, 0, none⟩ = some (U S) ∧ W'.cell? ⟨gk, 1, none⟩ = some (.int .i64 P) ∧ W'.cell? ⟨gk, 2, none⟩ = some (.int .i64 E) ∧ W'.cell? ⟨gk, 3, none⟩ = some (.int .i64 G) ∧ W'.cell? ⟨gk, 4, none⟩ = some (U I) ∧ W'.cell? ⟨gk, 5, none⟩ = some (U Q)) ((uF.setCell ⟨gtw, 0, none⟩ (.bool tF)).setCell ⟨gtw, 1, none⟩ (.slice (some ⟨kF, 0, none⟩) nF nF))) := ⟨by go_simp, by go_simp, by go_simp, by go_simp, by go_simp, by go_simp⟩
          have Xtw2 : Hid (Box ((uF.setCell ⟨gtw, 0, none⟩ (.bool tF)).setCell ⟨gtw, 1, none⟩ (.slice (some ⟨kF, 0, none⟩) nF nF)) gtw (.bool tF) (.slice (some ⟨kF, 0, none⟩) nF nF)) := ⟨by go_simp, by go_simp, by go_simp, by go_simp⟩
          have Xk2 : Hid (B6q ((uF.setCell ⟨gtw, 0, none⟩ (.bool tF)).setCell ⟨gtw, 1, none⟩ (.slice (some ⟨kF, 0, none⟩) nF nF)) gk (U S) (.int .i64 P) (.int .i64 E) (.int .i64 G) (U I) (U Q)) := ⟨by go_simp, by go_simp, by go_simp, by go_simp, by go_simp, by go_simp, by go_simp, by go_simp, by go_simp, by go_simp, by go_simp, by go_simp⟩
          have RR2 : Hid (ZR ((uF.setCell ⟨gtw, 0, none⟩ (.bool tF)).setCell ⟨gtw, 1, none⟩ (.slice (some ⟨kF, 0, none⟩) nF nF)) tF (some ⟨kF, 0, none⟩) nF (svS S H s + svS S H (s + 1))) := (RR.out.set _ _ _ HNE.out).set _ _ _ HNE.out
          have hbu2 : Below v6.heap.size v6 ((uF.setCell ⟨gtw, 0, none⟩ (.bool tF)).setCell ⟨gtw, 1, none⟩ (.slice (some ⟨kF, 0, none⟩) nF nF)) := bSet (bSet hbu _ _ _ HGU.out) _ _ _ HGU.out
          have hbw2 : Below w.heap.size w ((uF.setCell ⟨gtw, 0, none⟩ (.bool tF)).setCell ⟨gtw, 1, none⟩ (.slice (some ⟨kF, 0, none⟩) nF nF)) := bSet (bSet hbw _ _ _ HGtw.out) _ _ _ HGtw.out
          refine hK _ _ HJ2.out ?_
          clear hK HJ
          have HJ := HJ2
          clear HJ2
          refine wpJ_done (by kernel_rfl) ?_ _
          exact ⟨rfl, HRQ.out _ _ _ ⟨gtw, tA, kA, nA, tB, kB, nB, tF, kF, nF, by kernel_rfl, Xtw2.out, Xk2.out, RR2.out, HGtw.out, HDktw.out, HNF.out, hbu2, hbw2⟩⟩
      · go_simp
        have HDktw : Hid (gk ≠ uA.heap.size) := Nat.ne_of_lt Xk.out.lt
        have HGU : Hid (v6.heap.size ≤ uA.heap.size) := hbu.size
        have Xtw0 : Hid (Box (uA.alloc (.cells #[.bool false, .slice none 0 0] 122)) uA.heap.size (.bool false) (.slice none 0 0)) := Box.new uA _ _ _
        have hbn : Below uA.heap.size uA (uA.alloc (.cells #[.bool false, .slice none 0 0] 122)) := below1 uA _
        generalize uA.alloc (.cells #[.bool false, .slice none 0 0] 122) = Wn at *
        have HGtw : Hid (w.heap.size ≤ uA.heap.size) := hbw.size
        have hbu' := Below.on hbu hbn
        clear hbu
        have hbu := hbu'
        clear hbu'
        replace Xk : Hid _ := Xk.out.below hbn
        replace YA : Hid _ := YA.out.below hbn
        replace hbw := Below.on hbw hbn
        clear hbn
        generalize uA.heap.size = gtw at *
        have Xtw := Xtw0
        clear Xtw0
        refine hK _ _ ⟨Xk.out.c0, Xk.out.c1, Xk.out.c2, Xk.out.c3, Xk.out.c4, Xk.out.c5⟩ ?_
        clear hK
        refine wpJ_on 6 rfl fun KJ hK => ?_
        go_simp
        refine (HR.out.wh _ _).mono ?_
        rintro e9 uB ⟨v9, rfl, hv, hbB⟩
        obtain ⟨tB, kB, nB, rfl, hgB, hzB, hlB⟩ := hv
        skip
        have hbu' := Below.on hbu hbB
        clear hbu
        have hbu := hbu'
        clear hbu'
        replace Xk : Hid _ := Xk.out.below hbB
        replace Xtw : Hid _ := Xtw.out.below hbB
        replace YA : Hid _ := YA.out.below hbB
        replace hbw := Below.on hbw hbB
        clear hbB
        have YB : Hid (ZR uB tB (some ⟨kB, 0, none⟩) nB (svS S H (s + 1))) := hzB
        have HLB : Hid (nB ≤ 2200) := hlB
        clear hzB hlB hgB
        refine hK _ _ ⟨Xk.out.c0, Xk.out.c1, Xk.out.c2, Xk.out.c3, Xk.out.c4, Xk.out.c5⟩ ?_
        clear hK
        refine wpJ_on 7 rfl fun KJ hK => ?_
        go_simp
        have HLT : Hid (gtw < uB.heap.size) := Xtw.out.lt
        refine (radd04 tA tB YA.out YB.out (by have := HLA.out; omega) (by have := HLB.out; omega)).mono ?_
        rintro e9 uF ⟨v9, rfl, hv, hbF⟩
        obtain ⟨tF, kF, nF, rfl, hgF, hzF, hlF⟩ := hv
        have HGB : Hid (uB.heap.size ≤ kF) := hgF
        have hbu' := Below.on hbu hbF
        clear hbu
        have hbu := hbu'
        clear hbu'
        replace Xk : Hid _ := Xk.out.below hbF
        replace Xtw : Hid _ := Xtw.out.below hbF
        replace YA : Hid _ := YA.out.below hbF
        replace YB : Hid _ := YB.out.below hbF
        replace hbw := Below.on hbw hbF
        clear hbF
        have RR : Hid (ZR uF tF (some ⟨kF, 0, none⟩) nF (svS S H s + svS S H (s + 1))) := hzF
        have HLF : Hid (nF ≤ max nA nB + 1) := hlF
        clear hzF hlF hgF
        clear YA
        clear YB
        have HNF : Hid (nF ≤ 2300) := by have h1 := HLA.out; have h2 := HLB.out; have h3 := HLF.out; show _ ≤ _; omega
        have HNE : Hid (kF ≠ gtw) := by have h1 := HLT.out; have h2 := HGB.out; show _ ≠ _; omega
        refine hK _ _ ⟨Xk.out.c0, Xk.out.c1, Xk.out.c2, Xk.out.c3, Xk.out.c4, Xk.out.c5⟩ ?_
        clear hK
        obtain ⟨ctw0, ctw1, ftw0, ftw1⟩ := Xtw.out
        have hnetw := Xtw.out.lt
        obtain ⟨ck0, ck1, ck2, ck3, ck4, ck5, fk0, fk1, fk2, fk3, fk4, fk5⟩ := Xk.out
        have hnek : gk < uF.heap.size := World.block_lt_of_cell? uF _ ck0
        have qak : gk ≠ gtw := HDktw.out
        have qbk : gtw ≠ gk := fun h => qak h.symm
        refine wpJ_on 9 rfl fun KJ hK => ?_
        go_simp
        have HJ2 : Hid ((fun W' : World => W'.cell? ⟨gk, 0, none⟩ = some (U S) ∧ W'.cell? ⟨gk, 1, none⟩ = some (.int .i64 P) ∧ W'.cell? ⟨gk, 2, none⟩ = some (.int .i64 E) ∧ W'.cell? ⟨gk, 3, none⟩ = some (.int .i64 G) ∧ W'.cell? ⟨gk, 4, none⟩ = some (U I) ∧ W'.cell? ⟨gk, 5, none⟩ = some (U Q)) ((uF.setCell ⟨gtw, 0, none⟩ (.bool tF)).setCell ⟨gtw, 1, none⟩ (.slice (some ⟨kF, 0, none⟩) nF nF))) := ⟨by go_simp, by go_simp, by go_simp, by go_simp, by go_simp, by go_simp⟩
        have Xtw2 : Hid (Box ((uF.setCell ⟨gtw, 0, none⟩ (.bool tF)).setCell ⟨gtw, 1, none⟩ (.slice (some ⟨kF, 0, none⟩) nF nF)) gtw (.bool tF) (.slice (some ⟨kF, 0, none⟩) nF nF)) := ⟨by go_simp, by go_simp, by go_simp, by go_simp⟩
        have Xk2 : Hid (B6q ((uF.setCell ⟨gtw, 0, none⟩ (.bool tF)).setCell ⟨gtw, 1, none⟩ (.slice (some ⟨kF, 0, none⟩) nF nF)) gk (U S) (.int .i64 P) (.int .i64 E) (.int .i64 G) (U I) (U Q)) := ⟨by go_simp, by go_simp, by go_simp, by go_simp, by go_simp, by go_simp, by go_simp, by go_simp, by go_simp, by go_simp, by go_simp, by go_simp⟩
        have RR2 : Hid (ZR ((uF.setCell ⟨gtw, 0, none⟩ (.bool tF)).setCell ⟨gtw, 1, none⟩ (.slice (some ⟨kF, 0, none⟩) nF nF)) tF (some ⟨kF, 0, none⟩) nF (svS S H s + svS S H (s + 1))) := (RR.out.set _ _ _ HNE.out).set _ _ _ HNE.out
        have hbu2 : Below v6.heap.size v6 ((uF.setCell ⟨gtw, 0, none⟩ (.bool tF)).setCell ⟨gtw, 1, none⟩ (.slice (some ⟨kF, 0, none⟩) nF nF)) := bSet (bSet hbu _ _ _ HGU.out) _ _ _ HGU.out
        have hbw2 : Below w.heap.size w ((uF.setCell ⟨gtw, 0, none⟩ (.bool tF)).setCell ⟨gtw, 1, none⟩ (.slice (some ⟨kF, 0, none⟩) nF nF)) := bSet (bSet hbw _ _ _ HGtw.out) _ _ _ HGtw.out
        refine hK _ _ HJ2.out ?_
        clear hK HJ
        have HJ := HJ2
        clear HJ2
        refine wpJ_done (by kernel_rfl) ?_ _
        exact ⟨rfl, HRQ.out _ _ _ ⟨gtw, tA, kA, nA, tB, kB, nB, tF, kF, nF, by kernel_rfl, Xtw2.out, Xk2.out, RR2.out, HGtw.out, HDktw.out, HNF.out, hbu2, hbw2⟩⟩
    · go_simp
      have HDktw : Hid (gk ≠ Wr.heap.size) := Nat.ne_of_lt Xk.out.lt
      have HGU : Hid (v6.heap.size ≤ Wr.heap.size) := hbu.size
      have Xtw0 : Hid (Box (Wr.alloc (.cells #[.bool false, .slice none 0 0] 122)) Wr.heap.size (.bool false) (.slice none 0 0)) := Box.new Wr _ _ _
      have hbn : Below Wr.heap.size Wr (Wr.alloc (.cells #[.bool false, .slice none 0 0] 122)) := below1 Wr _
      generalize Wr.alloc (.cells #[.bool false, .slice none 0 0] 122) = Wn at *
      have HGtw : Hid (w.heap.size ≤ Wr.heap.size) := hbw.size
      have hbu' := Below.on hbu hbn
      clear hbu
      have hbu := hbu'
      clear hbu'
      replace Xk : Hid _ := Xk.out.below hbn
      replace hbw := Below.on hbw hbn
      clear hbn
      generalize Wr.heap.size = gtw at *
      have Xtw := Xtw0
      clear Xtw0
      refine hK _ _ ⟨Xk.out.c0, Xk.out.c1, Xk.out.c2, Xk.out.c3, Xk.out.c4, Xk.out.c5⟩ ?_
      clear hK
      refine wpJ_on 2 rfl fun KJ hK => ?_
      go_simp
      refine (HR.out.wh _ _).mono ?_
      rintro e9 uA ⟨v9, rfl, hv, hbA⟩
      obtain ⟨tA, kA, nA, rfl, hgA, hzA, hlA⟩ := hv
      skip
      have hbu' := Below.on hbu hbA
      clear hbu
      have hbu := hbu'
      clear hbu'
      replace Xk : Hid _ := Xk.out.below hbA
      replace Xtw : Hid _ := Xtw.out.below hbA
      replace hbw := Below.on hbw hbA
      clear hbA
      have YA : Hid (ZR uA tA (some ⟨kA, 0, none⟩) nA (svS S H s)) := hzA
      have HLA : Hid (nA ≤ 2200) := hlA
      clear hzA hlA hgA
      refine hK _ _ ⟨Xk.out.c0, Xk.out.c1, Xk.out.c2, Xk.out.c3, Xk.out.c4, Xk.out.c5⟩ ?_
      clear hK
      refine wpJ_on 6 rfl fun KJ hK => ?_
      go_simp
      refine (HR.out.wh _ _).mono ?_
      rintro e9 uB ⟨v9, rfl, hv, hbB⟩
      obtain ⟨tB, kB, nB, rfl, hgB, hzB, hlB⟩ := hv
      skip
      have hbu' := Below.on hbu hbB
      clear hbu
      have hbu := hbu'
      clear hbu'
      replace Xk : Hid _ := Xk.out.below hbB
      replace Xtw : Hid _ := Xtw.out.below hbB
      replace YA : Hid _ := YA.out.below hbB
      replace hbw := Below.on hbw hbB
      clear hbB
      have YB : Hid (ZR uB tB (some ⟨kB, 0, none⟩) nB (svS S H (s + 1))) := hzB
      have HLB : Hid (nB ≤ 2200) := hlB
      clear hzB hlB hgB
      refine hK _ _ ⟨Xk.out.c0, Xk.out.c1, Xk.out.c2, Xk.out.c3, Xk.out.c4, Xk.out.c5⟩ ?_
      clear hK
      refine wpJ_on 7 rfl fun KJ hK => ?_
      go_simp
      have HLT : Hid (gtw < uB.heap.size) := Xtw.out.lt
      refine (radd04 tA tB YA.out YB.out (by have := HLA.out; omega) (by have := HLB.out; omega)).mono ?_
      rintro e9 uF ⟨v9, rfl, hv, hbF⟩
      obtain ⟨tF, kF, nF, rfl, hgF, hzF, hlF⟩ := hv
      have HGB : Hid (uB.heap.size ≤ kF) := hgF
      have hbu' := Below.on hbu hbF
      clear hbu
      have hbu := hbu'
      clear hbu'
      replace Xk : Hid _ := Xk.out.below hbF
      replace Xtw : Hid _ := Xtw.out.below hbF
      replace YA : Hid _ := YA.out.below hbF
      replace YB : Hid _ := YB.out.below hbF
      replace hbw := Below.on hbw hbF
      clear hbF
      have RR : Hid (ZR uF tF (some ⟨kF, 0, none⟩) nF (svS S H s + svS S H (s + 1))) := hzF
      have HLF : Hid (nF ≤ max nA nB + 1) := hlF
      clear hzF hlF hgF
      clear YA
      clear YB
      have HNF : Hid (nF ≤ 2300) := by have h1 := HLA.out; have h2 := HLB.out; have h3 := HLF.out; show _ ≤ _; omega
      have HNE : Hid (kF ≠ gtw) := by have h1 := HLT.out; have h2 := HGB.out; show _ ≠ _; omega
      refine hK _ _ ⟨Xk.out.c0, Xk.out.c1, Xk.out.c2, Xk.out.c3, Xk.out.c4, Xk.out.c5⟩ ?_
      clear hK
      obtain ⟨ctw0, ctw1, ftw0, ftw1⟩ := Xtw.out
      have hnetw := Xtw.out.lt
      obtain ⟨ck0, ck1, ck2, ck3, ck4, ck5, fk0, fk1, fk2, fk3, fk4, fk5⟩ := Xk.out
      have hnek : gk < uF.heap.size := World.block_lt_of_cell? uF _ ck0
      have qak : gk ≠ gtw := HDktw.out
      have qbk : gtw ≠ gk := fun h => qak h.symm
      refine wpJ_on 9 rfl fun KJ hK => ?_
      go_simp
      have HJ2 : Hid ((fun W' : World => W'.cell? ⟨gk, 0, none⟩ = some (U S) ∧ W'.cell? ⟨gk, 1, none⟩ = some (.int .i64 P) ∧ W'.cell? ⟨gk, 2, none⟩ = some (.int .i64 E) ∧ W'.cell? ⟨gk, 3, none⟩ = some (.int .i64 G) ∧ W'.cell? ⟨gk, 4, none⟩ = some (U I) ∧ W'.cell? ⟨gk, 5, none⟩ = some (U Q)) ((uF.setCell ⟨gtw, 0, none⟩ (.bool tF)).setCell ⟨gtw, 1, none⟩ (.slice (some ⟨kF, 0, none⟩) nF nF))) := ⟨by go_simp, by go_simp, by go_simp, by go_simp, by go_simp, by go_simp⟩
      have Xtw2 : Hid (Box ((uF.setCell ⟨gtw, 0, none⟩ (.bool tF)).setCell ⟨gtw, 1, none⟩ (.slice (some ⟨kF, 0, none⟩) nF nF)) gtw (.bool tF) (.slice (some ⟨kF, 0, none⟩) nF nF)) := ⟨by go_simp, by go_simp, by go_simp, by go_simp⟩
      have Xk2 : Hid (B6q ((uF.setCell ⟨gtw, 0, none⟩ (.bool tF)).setCell ⟨gtw, 1, none⟩ (.slice (some ⟨kF, 0, none⟩) nF nF)) gk (U S) (.int .i64 P) (.int .i64 E) (.int .i64 G) (U I) (U Q)) := ⟨by go_simp, by go_simp, by go_simp, by go_simp, by go_simp, by go_simp, by go_simp, by go_simp, by go_simp, by go_simp, by go_simp, by go_simp⟩
      have RR2 : Hid (ZR ((uF.setCell ⟨gtw, 0, none⟩ (.bool tF)).setCell ⟨gtw, 1, none⟩ (.slice (some ⟨kF, 0, none⟩) nF nF)) tF (some ⟨kF, 0, none⟩) nF (svS S H s + svS S H (s + 1))) := (RR.out.set _ _ _ HNE.out).set _ _ _ HNE.out
      have hbu2 : Below v6.heap.size v6 ((uF.setCell ⟨gtw, 0, none⟩ (.bool tF)).setCell ⟨gtw, 1, none⟩ (.slice (some ⟨kF, 0, none⟩) nF nF)) := bSet (bSet hbu _ _ _ HGU.out) _ _ _ HGU.out
      have hbw2 : Below w.heap.size w ((uF.setCell ⟨gtw, 0, none⟩ (.bool tF)).setCell ⟨gtw, 1, none⟩ (.slice (some ⟨kF, 0, none⟩) nF nF)) := bSet (bSet hbw _ _ _ HGtw.out) _ _ _ HGtw.out
      refine hK _ _ HJ2.out ?_
      clear hK HJ
      have HJ := HJ2
      clear HJ2
      refine wpJ_done (by kernel_rfl) ?_ _
      exact ⟨rfl, HRQ.out _ _ _ ⟨gtw, tA, kA, nA, tB, kB, nB, tF, kF, nF, by kernel_rfl, Xtw2.out, Xk2.out, RR2.out, HGtw.out, HDktw.out, HNF.out, hbu2, hbw2⟩⟩
theorem dround_l {S : Nat} {P E G : Int} {I Q H sd N : Nat} {Be f : Int} (R : Rj f S P E G I Q H sd N Be) {p : Option Addr} {n v Z : Nat} {zs : List Nat} {e : Int} {w : World} (h : At32 w p n n zs) (hx : Nf B32 zs v) (hn : n ≤ 4000) (h1 : -10000000000000 ≤ e) (h2 : e ≤ 10000000000000) (hb : bitsN v ≤ 100000) {k0 : Nat} (hv : v ≠ 0) (ht1 : E ≤ (bitsN v : Int) + e) (ht2 : (bitsN v : Int) + e ≤ Be) (hk : E = e + ((k0 + 1 : Nat) : Int)) (hb2 : bitsN v ≤ 33000) (hZ : RNz H E I (dv v e) Z) :
    Calls Tryz.prog 38 #[FV S P E G I Q, .slice p n n, .int .i64 e] w fun en w' => en = .returned (U Z) ∧ Below w.heap.size w w' := by
  obtain ⟨b, hbe⟩ : ∃ b, b = bitsN v := ⟨_, rfl⟩
  obtain ⟨t, ht⟩ : ∃ t : Int, t = (b : Int) + e := ⟨_, rfl⟩
  have w1 := (gw1 ht (by rw [hbe]; exact hb) h1 h2).1
  have w1' := (gw1 ht (by rw [hbe]; exact hb) h1 h2).2
  have hH0 : 0 < H := by rw [R.hs]; exact Nat.two_pow_pos _
  have hsd := R.hsd
  have hbe2 := R.be
  have hlt := R.lt
  have hb1 := bitsN_pos hv
  obtain ⟨hRn, hRI⟩ : Be = E + sd + N ∧ I = (N + 1) * H := ⟨R.hn, R.hI⟩
  have hk9 : k0 ≤ 34200 := by omega
  obtain ⟨u, hu⟩ : ∃ u, u = v / 2 ^ (k0 + 1) := ⟨_, rfl⟩
  have hub : bitsN u ≤ sd + N := by
    rw [hu]
    have h3 := bits_dle v (k0 + 1)
    omega
  have hub2 : sd + N ≤ 2100 := by omega
  obtain ⟨s, hs⟩ : ∃ s, s = szN sd u := ⟨_, rfl⟩
  have hsI : s < I := by rw [hs]; exact sz_ltI R.hs R.hI hub
  obtain ⟨c, hc⟩ : ∃ c, c = cmpI (v : Int) ((svS S H s + svS S H (s + 1)) * 2 ^ k0) := ⟨_, rfl⟩
  have hu1 : svS S H s = (vs H s : Int) := rj_sv (by omega)
  have hu2 : svS S H (s + 1) = (vs H (s + 1) : Int) := rj_sv (by omega)
  have hc3 : c = -1 ∨ c = 0 ∨ c = 1 := by rw [hc]; rcases cmpI_3 (v : Int) ((svS S H s + svS S H (s + 1)) * 2 ^ k0) with h | h | h <;> omega
  obtain ⟨Y, hY⟩ := up_ex c hc3 s
  have hYZ : Y = Z := by
    refine RNz.uniq ?_ hZ
    rw [hc, hu1, hu2] at hY
    exact round_l R.hs (by omega) (by omega) hk (by rw [hs, hu]) hsI hY
  subst hYZ
  have HY : Hid (UpZ c s Y) := hY
  have HTW : Hid (0 < (svS S H s + svS S H (s + 1)) ∧ bitsN ((svS S H s + svS S H (s + 1))).natAbs ≤ 100000 ∧ cmpI (v : Int) ((svS S H s + svS S H (s + 1)) * 2 ^ k0) = c) := by
    refine ⟨?_, ?_, hc.symm⟩
    · have := vs_succ hH0 s
      rw [hu1, hu2]; omega
    · rw [hu1, hu2, ← Int.natCast_add, Int.natAbs_natCast]
      have h3 := vs_le hH0 (show s ≤ I by omega)
      have h4 := vs_le hH0 (show s + 1 ≤ I from hsI)
      rw [vs_top R.hs R.hI] at h3 h4
      have h5 := bits_leg (n := vs H s + vs H (s + 1)) (k := sd + N + 2) (by rw [Nat.pow_succ, Nat.pow_succ]; have := Nat.two_pow_pos (sd + N); omega)
      omega
  have n1 : ¬ n = 0 := n_of h hx hv
  have n0 : ((n : Int) == 0) = false := by simp; omega
  have c1 : decide (t < E) = false := decide_eq_false (by omega)
  have c2 : decide (Be < t) = false := decide_eq_false (by omega)
  have c1' : ¬ t < E := by omega
  have c2' : ¬ Be < t := by omega
  have g1 := (rj_w R.be).1
  have g2 := (rj_w R.be).2
  have c3 : decide (E ≤ e) = false := decide_eq_false (by omega)
  have c3' : ¬ E ≤ e := by omega
  have w5 := (gw3 hbe2.2.2.1 hbe2.2.2.2.1).1
  have w5' := (gw3 hbe2.2.2.1 hbe2.2.2.2.1).2
  have w6 := (gw2 (a := E) (b := e) (k := k0 + 1) (by omega) (by omega)).1
  have w6' := (gw2 (a := E) (b := e) (k := k0 + 1) (by omega) (by omega)).2
  have w3 := gw4 (show s < 9223372036854775808 by omega)
  have HR : Hid (Rj f S P E G I Q H sd N Be) := R
  have HEE : Hid (-40000 ≤ e ∧ e ≤ 40000 ∧ -40000 ≤ E - 1 ∧ E - 1 ≤ 40000) := ⟨by omega, by omega, by omega, by omega⟩
  have HSI : Hid (s < I) := hsI
  have HK3 : Hid (k0 ≤ 34200 ∧ E - 1 = e + (k0 : Int)) := ⟨hk9, by omega⟩
  have HA : Hid (At32 w p n n zs) := h
  have HX : Hid (Nf B32 zs v ∧ n ≤ 4000 ∧ b = bitsN v ∧ s = szN sd u ∧ v ≠ 0 ∧ bitsN v ≤ 100000 ∧ u = v / 2 ^ (k0 + 1) ∧ bl_bitsN u ≤ 2300) := ⟨hx, hn, hbe, hs, hv, hb, hu, by rw [bb_eq]; omega⟩
  clear h hx hn hbe hs hv hb hb1 ht hsI hc hu1 hu2 hub hub2 hu hk hk9 ht1 ht2 hZ hY hc3 hH0 hsd hbe2 hlt hRn hRI h1 h2 R hb2
  go_enter Tryz.func38, Tryz.ntmps38
  go_wp2_with fail
  obtain ⟨W0, hW0⟩ : ∃ W0, W0 = (w.alloc (.cells #[U S, .int .i64 P, .int .i64 E, .int .i64 G, U I, U Q] 79)) := ⟨_, rfl⟩
  have Xk : Hid (B6q W0 (w.heap.size) (U S) (.int .i64 P) (.int .i64 E) (.int .i64 G) (U I) (U Q)) := by rw [hW0]; exact ⟨by go_simp, by go_simp, by go_simp, by go_simp, by go_simp, by go_simp, by go_simp, by go_simp, by go_simp, by go_simp, by go_simp, by go_simp⟩
  have hb0 : Below w.heap.size w W0 := by rw [hW0]; exact below1 w _
  rw [← hW0]
  clear hW0
  have hbw : Below w.heap.size w w := Below.refl _ _
  obtain ⟨gk, hgk⟩ : ∃ g, g = w.heap.size := ⟨_, rfl⟩
  have HGk : Hid (w.heap.size ≤ gk) := by rw [hgk]; show _ ≤ _; omega
  rw [← hgk] at Xk
  try rw [← hgk]
  clear hgk
  replace HA : Hid _ := HA.out.below hb0
  replace hbw := Below.on hbw hb0
  clear hb0
  refine (rbits_any HA.out HX.out.1 (by have := HX.out.2.1; omega)).mono ?_
  rintro e1 w1 ⟨rfl, hw⟩
  rw [← HX.out.2.2.1]
  obtain rfl := hw.symm
  clear hw
  obtain ⟨ck0, ck1, ck2, ck3, ck4, ck5, fk0, fk1, fk2, fk3, fk4, fk5⟩ := Xk.out
  have hnek : gk < W0.heap.size := World.block_lt_of_cell? W0 _ ck0
  go_wp2_with fail
  clear ck0 ck1 ck2 ck3 ck4 ck5 fk0 fk1 fk2 fk3 fk4 fk5 hnek
  refine (rshr_alle HA.out HX.out.1 (by have := HX.out.2.1; omega) (k0 + 1) (by have := HK3.out.1; omega)).mono ?_
  rintro e1 v5 ⟨p5, m5, z5, rfl, hA5, hN5, hm5, hb5⟩
  rw [← HX.out.2.2.2.2.2.2.1] at hN5
  replace Xk : Hid _ := Xk.out.below hb5
  replace HA : Hid _ := HA.out.below hb5
  replace hbw := Below.on hbw hb5
  clear hb5
  have A5 : Hid (At32 v5 p5 m5 m5 z5) := hA5
  have N5 : Hid (Nf B32 z5 u ∧ m5 ≤ 16384) := ⟨hN5, by have := HX.out.2.1; omega⟩
  clear hA5 hN5 hm5
  obtain ⟨ck0, ck1, ck2, ck3, ck4, ck5, fk0, fk1, fk2, fk3, fk4, fk5⟩ := Xk.out
  have hnek : gk < v5.heap.size := World.block_lt_of_cell? v5 _ ck0
  go_wp2_with fail
  clear ck0 ck1 ck2 ck3 ck4 ck5 fk0 fk1 fk2 fk3 fk4 fk5 hnek
  refine (rsize_g HR.out.hP HR.out.hsd A5.out N5.out.1 N5.out.2 HX.out.2.2.2.2.2.2.2).mono ?_
  rintro e v6 ⟨rfl, hb6⟩
  rw [← HX.out.2.2.2.1]
  replace Xk : Hid _ := Xk.out.below hb6
  replace HA : Hid _ := HA.out.below hb6
  replace A5 : Hid _ := A5.out.below hb6
  replace hbw := Below.on hbw hb6
  clear hb6
  clear A5
  clear N5
  obtain ⟨ck0, ck1, ck2, ck3, ck4, ck5, fk0, fk1, fk2, fk3, fk4, fk5⟩ := Xk.out
  have hnek : gk < v6.heap.size := World.block_lt_of_cell? v6 _ ck0
  go_wp2_with fail
  clear ck0 ck1 ck2 ck3 ck4 ck5 fk0 fk1 fk2 fk3 fk4 fk5 hnek
  have HAu : Hid (At32 v6 p n n zs) := HA.out
  have hbu : Below v6.heap.size v6 v6 := Below.refl _ _
  clear HA
  obtain ⟨Wr, hWr⟩ : ∃ W1, W1 = v6.drew := ⟨_, rfl⟩
  have hbd : Below v6.heap.size v6 Wr := by rw [hWr]; exact bDrew1 (Below.refl _ _)
  have hbu' := Below.on hbu hbd
  clear hbu
  have hbu := hbu'
  clear hbu'
  replace Xk : Hid _ := Xk.out.below hbd
  replace hbw := Below.on hbw hbd
  clear hbd
  have HJ : Hid ((fun W' : World => W'.cell? ⟨gk, 0, none⟩ = some (U S) ∧ W'.cell? ⟨gk, 1, none⟩ = some (.int .i64 P) ∧ W'.cell? ⟨gk, 2, none⟩ = some (.int .i64 E) ∧ W'.cell? ⟨gk, 3, none⟩ = some (.int .i64 G) ∧ W'.cell? ⟨gk, 4, none⟩ = some (U I) ∧ W'.cell? ⟨gk, 5, none⟩ = some (U Q)) Wr) := ⟨Xk.out.c0, Xk.out.c1, Xk.out.c2, Xk.out.c3, Xk.out.c4, Xk.out.c5⟩
  refine wp_region_J (fun W' => W'.cell? ⟨gk, 0, none⟩ = some (U S) ∧ W'.cell? ⟨gk, 1, none⟩ = some (.int .i64 P) ∧ W'.cell? ⟨gk, 2, none⟩ = some (.int .i64 E) ∧ W'.cell? ⟨gk, 3, none⟩ = some (.int .i64 G) ∧ W'.cell? ⟨gk, 4, none⟩ = some (U I) ∧ W'.cell? ⟨gk, 5, none⟩ = some (U Q)) (by kernel_rfl) ?_
  rw [← hWr]
  clear hWr
  refine wpJ_tq 0 rfl HJ.out ?_
  refine wpJ_tq 1 rfl HJ.out ?_
  refine wpJ_tq 3 rfl HJ.out ?_
  refine wpJ_tq 4 rfl HJ.out ?_
  refine wpJ_tq 5 rfl HJ.out ?_
  obtain ⟨RQ, HRQ, HRP⟩ : ∃ RQ : Act → Act → World → Prop, Hid (∀ a1 a2 a3, (fun a0 a' W' => ∃ gtw tA kA nA tB kB nB tF kF nF, a' = ((((a0.put (some 58) (.agg #[.bool tA, .slice (some ⟨kA, 0, none⟩) nA nA])).put (some 62) (.agg #[.bool tB, .slice (some ⟨kB, 0, none⟩) nB nB])).put (some 63) (.agg #[.bool tF, .slice (some ⟨kF, 0, none⟩) nF nF])).put (some 10) (.pointer (some ⟨gtw, 0, none⟩))) ∧ Box W' gtw (.bool tF) (.slice (some ⟨kF, 0, none⟩) nF nF) ∧ B6q W' gk (U S) (.int .i64 P) (.int .i64 E) (.int .i64 G) (U I) (U Q) ∧ ZR W' tF (some ⟨kF, 0, none⟩) nF (svS S H s + svS S H (s + 1)) ∧ w.heap.size ≤ gtw ∧ gk ≠ gtw ∧ (nF ≤ 2300) ∧ Below v6.heap.size v6 W' ∧ Below w.heap.size w W') a1 a2 a3 → RQ a1 a2 a3) ∧ Hid (∀ a1 a2 a3, RQ a1 a2 a3 → (fun a0 a' W' => ∃ gtw tA kA nA tB kB nB tF kF nF, a' = ((((a0.put (some 58) (.agg #[.bool tA, .slice (some ⟨kA, 0, none⟩) nA nA])).put (some 62) (.agg #[.bool tB, .slice (some ⟨kB, 0, none⟩) nB nB])).put (some 63) (.agg #[.bool tF, .slice (some ⟨kF, 0, none⟩) nF nF])).put (some 10) (.pointer (some ⟨gtw, 0, none⟩))) ∧ Box W' gtw (.bool tF) (.slice (some ⟨kF, 0, none⟩) nF nF) ∧ B6q W' gk (U S) (.int .i64 P) (.int .i64 E) (.int .i64 G) (U I) (U Q) ∧ ZR W' tF (some ⟨kF, 0, none⟩) nF (svS S H s + svS S H (s + 1)) ∧ w.heap.size ≤ gtw ∧ gk ≠ gtw ∧ (nF ≤ 2300) ∧ Below v6.heap.size v6 W' ∧ Below w.heap.size w W') a1 a2 a3) := ⟨_, fun _ _ _ h => h, fun _ _ _ h => h⟩
  refine wpJ_cutA RQ ?_ ?_
  · intro a' Wc hrq
    obtain ⟨gtw, tA, kA, nA, tB, kB, nB, tF, kF, nF, rfl, xbQ, xk, rr, hg, hdk, hHNF, hbuc, hbc⟩ := HRP.out _ _ _ hrq
    clear hrq HRP HRQ
    clear hbw hbu HJ Xk
    have hbw := hbc
    have hbu := hbuc
    have Xtw : Hid (Box Wc gtw (.bool tF) (.slice (some ⟨kF, 0, none⟩) nF nF)) := xbQ
    have Xk : Hid (B6q Wc gk (U S) (.int .i64 P) (.int .i64 E) (.int .i64 G) (U I) (U Q)) := xk
    have RR : Hid (ZR Wc tF (some ⟨kF, 0, none⟩) nF (svS S H s + svS S H (s + 1))) := rr
    have HGtw : Hid (w.heap.size ≤ gtw) := hg
    have HDktw : Hid (gk ≠ gtw) := hdk
    have HNF : Hid (nF ≤ 2300) := hHNF
    clear xbQ xk rr hg hdk hHNF hbuc hbc
    have HA : Hid (At32 Wc p n n zs) := HAu.out.below hbu
    clear hbu HAu
    obtain ⟨ck0, ck1, ck2, ck3, ck4, ck5, fk0, fk1, fk2, fk3, fk4, fk5⟩ := Xk.out
    have hnek : gk < Wc.heap.size := World.block_lt_of_cell? Wc _ ck0
    obtain ⟨ctw0, ctw1, ftw0, ftw1⟩ := Xtw.out
    have hnetw := Xtw.out.lt
    go_wp2_with fail
    clear ck0 ck1 ck2 ck3 ck4 ck5 fk0 fk1 fk2 fk3 fk4 fk5 hnek
    clear ctw0 ctw1 ftw0 ftw1 hnetw
    obtain ⟨Wy, hWy⟩ : ∃ W1, W1 = Wc.drew := ⟨_, rfl⟩
    have hbd : Below Wc.heap.size Wc Wy := by rw [hWy]; exact bDrew1 (Below.refl _ _)
    replace Xtw : Hid _ := Xtw.out.below hbd
    replace Xk : Hid _ := Xk.out.below hbd
    replace RR : Hid _ := RR.out.below hbd
    replace HA : Hid _ := HA.out.below hbd
    replace hbw := Below.on hbw hbd
    clear hbd
    have HJ : Hid ((fun W' : World => W'.cell? ⟨gk, 2, none⟩ = some (.int .i64 E) ∧ W'.cell? ⟨gtw, 0, none⟩ = some (.bool tF) ∧ W'.cell? ⟨gtw, 1, none⟩ = some (.slice (some ⟨kF, 0, none⟩) nF nF)) Wy) := ⟨Xk.out.c2, Xtw.out.c0, Xtw.out.c1⟩
    refine wp_region_J (fun W' => W'.cell? ⟨gk, 2, none⟩ = some (.int .i64 E) ∧ W'.cell? ⟨gtw, 0, none⟩ = some (.bool tF) ∧ W'.cell? ⟨gtw, 1, none⟩ = some (.slice (some ⟨kF, 0, none⟩) nF nF)) (by kernel_rfl) ?_
    rw [← hWy]
    clear hWy
    refine wpJ_tq 0 rfl HJ.out ?_
    refine wpJ_tq 2 rfl HJ.out ?_
    refine wpJ_tq 3 rfl HJ.out ?_
    refine wpJ_tq 4 rfl HJ.out ?_
    refine wpJ_tq 5 rfl HJ.out ?_
    go_simp
    refine wpJ_tq 6 rfl HJ.out ?_
    refine wpJ_on 1 rfl fun KJ hK => ?_
    go_simp
    have hiv : iv false v = (v : Int) := rfl
    refine (rmk_any false HA.out HX.out.1 (by have := HX.out.2.1; omega)).mono ?_
    rintro e9 uM ⟨v9, rfl, hv, hbM⟩
    obtain ⟨tM, kM, nM, rfl, hgM, hzM, hlM⟩ := hv
    skip
    replace Xtw : Hid _ := Xtw.out.below hbM
    replace Xk : Hid _ := Xk.out.below hbM
    replace RR : Hid _ := RR.out.below hbM
    replace HA : Hid _ := HA.out.below hbM
    replace hbw := Below.on hbw hbM
    clear hbM
    have YM : Hid (ZR uM tM (some ⟨kM, 0, none⟩) nM (iv false v)) := hzM
    have HLM : Hid (nM ≤ n) := hlM
    clear hzM hlM hgM
    rw [hiv] at YM
    clear hiv
    refine hK _ _ ⟨Xk.out.c2, Xtw.out.c0, Xtw.out.c1⟩ ?_
    clear hK
    refine wpJ_on 7 rfl fun KJ hK => ?_
    go_simp
    refine (rholdw_l (k := k0) (e := e) (f := E - 1) tM tF YM.out RR.out (by have h1 := HLM.out; have h2 := HX.out.2.1; omega) (by have := HNF.out; omega) (by have := HX.out.2.2.2.2.1; omega) HTW.out.1 (by rw [Int.natAbs_natCast]; exact HX.out.2.2.2.2.2.1) HTW.out.2.1 (by have := HK3.out.1; omega) ⟨HEE.out.1, HEE.out.2.1⟩ ⟨HEE.out.2.2.1, HEE.out.2.2.2⟩ HK3.out.2).mono ?_
    rintro e vH ⟨rfl, hbH⟩
    rw [HTW.out.2.2]
    replace Xtw : Hid _ := Xtw.out.below hbH
    replace Xk : Hid _ := Xk.out.below hbH
    replace RR : Hid _ := RR.out.below hbH
    replace HA : Hid _ := HA.out.below hbH
    replace YM : Hid _ := YM.out.below hbH
    replace hbw := Below.on hbw hbH
    clear hbH
    clear HJ
    have HJ : Hid ((fun W' : World => W'.cell? ⟨gk, 2, none⟩ = some (.int .i64 E) ∧ W'.cell? ⟨gtw, 0, none⟩ = some (.bool tF) ∧ W'.cell? ⟨gtw, 1, none⟩ = some (.slice (some ⟨kF, 0, none⟩) nF nF)) vH) := ⟨Xk.out.c2, Xtw.out.c0, Xtw.out.c1⟩
    refine hK _ _ HJ.out ?_
    clear hK
    refine wpJ_tq 8 rfl HJ.out ?_
    refine wpJ_done (by kernel_rfl) ?_ _
    clear HJ
    rcases HY.out with ⟨hc, hZ⟩ | ⟨hc, hZ⟩ | ⟨hc, hZ⟩
    · rw [hc]
      have HZZ : Hid (Y = s) := hZ
      clear hc hZ
      obtain ⟨ck0, ck1, ck2, ck3, ck4, ck5, fk0, fk1, fk2, fk3, fk4, fk5⟩ := Xk.out
      have hnek : gk < vH.heap.size := World.block_lt_of_cell? vH _ ck0
      go_wp2_with fail
      clear ck0 ck1 ck2 ck3 ck4 ck5 fk0 fk1 fk2 fk3 fk4 fk5 hnek
      go_ret
      refine ⟨congrArg (fun z => Ending.returned (.int .u64 z)) ?_, hbw⟩
      rw [HZZ.out]
      exact min_I (Nat.le_of_lt HSI.out)
    · rw [hc]
      rcases Nat.mod_two_eq_zero_or_one s with hp | hp
      · have p1 : ((s : Int) % 2 == 1) = false := by rw [show (s : Int) % 2 = ((s % 2 : Nat) : Int) by omega, hp]; rfl
        have HZZ : Hid (Y = s) := by rw [hp] at hZ; exact hZ
        have p2 : (s : Int) % 2 = 0 := by omega
        clear hp hc hZ
        obtain ⟨ck0, ck1, ck2, ck3, ck4, ck5, fk0, fk1, fk2, fk3, fk4, fk5⟩ := Xk.out
        have hnek : gk < vH.heap.size := World.block_lt_of_cell? vH _ ck0
        go_wp2_with fail
        clear ck0 ck1 ck2 ck3 ck4 ck5 fk0 fk1 fk2 fk3 fk4 fk5 hnek
        go_ret
        refine ⟨congrArg (fun z => Ending.returned (.int .u64 z)) ?_, hbw⟩
        rw [HZZ.out]
        exact min_I (Nat.le_of_lt HSI.out)
      · have p1 : ((s : Int) % 2 == 1) = true := by rw [show (s : Int) % 2 = ((s % 2 : Nat) : Int) by omega, hp]; rfl
        have HZZ : Hid (Y = s + 1) := by rw [hp] at hZ; exact hZ
        have p2 : (s : Int) % 2 = 1 := by omega
        clear hp hc hZ
        obtain ⟨ck0, ck1, ck2, ck3, ck4, ck5, fk0, fk1, fk2, fk3, fk4, fk5⟩ := Xk.out
        have hnek : gk < vH.heap.size := World.block_lt_of_cell? vH _ ck0
        go_wp2_with fail
        clear ck0 ck1 ck2 ck3 ck4 ck5 fk0 fk1 fk2 fk3 fk4 fk5 hnek
        go_ret
        refine ⟨congrArg (fun z => Ending.returned (.int .u64 z)) ?_, hbw⟩
        rw [HZZ.out]
        exact min_I1 HSI.out
    · rw [hc]
      have HZZ : Hid (Y = s + 1) := hZ
      clear hc hZ
      obtain ⟨ck0, ck1, ck2, ck3, ck4, ck5, fk0, fk1, fk2, fk3, fk4, fk5⟩ := Xk.out
      have hnek : gk < vH.heap.size := World.block_lt_of_cell? vH _ ck0
      go_wp2_with fail
      clear ck0 ck1 ck2 ck3 ck4 ck5 fk0 fk1 fk2 fk3 fk4 fk5 hnek
      go_ret
      refine ⟨congrArg (fun z => Ending.returned (.int .u64 z)) ?_, hbw⟩
      rw [HZZ.out]
      exact min_I1 HSI.out
  · skip
    refine wpJ_two (i := 2) (k := 8) (by kernel_rfl) rfl rfl (by kernel_rfl) (by kernel_rfl) (fun KJ hK => ?_) (fun KJ hK => ?_)
    · go_simp
      refine (HR.out.wh _ _).mono ?_
      rintro e9 uA ⟨v9, rfl, hv, hbA⟩
      obtain ⟨tA, kA, nA, rfl, hgA, hzA, hlA⟩ := hv
      skip
      have hbu' := Below.on hbu hbA
      clear hbu
      have hbu := hbu'
      clear hbu'
      replace Xk : Hid _ := Xk.out.below hbA
      replace hbw := Below.on hbw hbA
      clear hbA
      have YA : Hid (ZR uA tA (some ⟨kA, 0, none⟩) nA (svS S H s)) := hzA
      have HLA : Hid (nA ≤ 2200) := hlA
      clear hzA hlA hgA
      clear HJ
      have HJ : Hid ((fun W' : World => W'.cell? ⟨gk, 0, none⟩ = some (U S) ∧ W'.cell? ⟨gk, 1, none⟩ = some (.int .i64 P) ∧ W'.cell? ⟨gk, 2, none⟩ = some (.int .i64 E) ∧ W'.cell? ⟨gk, 3, none⟩ = some (.int .i64 G) ∧ W'.cell? ⟨gk, 4, none⟩ = some (U I) ∧ W'.cell? ⟨gk, 5, none⟩ = some (U Q)) uA) := ⟨Xk.out.c0, Xk.out.c1, Xk.out.c2, Xk.out.c3, Xk.out.c4, Xk.out.c5⟩
      refine hK _ _ HJ.out ?_
      clear hK
      refine wpJ_two (i := 6) (k := 8) (by kernel_rfl) rfl rfl (by kernel_rfl) (by kernel_rfl) (fun KJ hK => ?_) (fun KJ hK => ?_)
      · go_simp
        refine (HR.out.wh _ _).mono ?_
        rintro e9 uB ⟨v9, rfl, hv, hbB⟩
        obtain ⟨tB, kB, nB, rfl, hgB, hzB, hlB⟩ := hv
        skip
        have hbu' := Below.on hbu hbB
        clear hbu
        have hbu := hbu'
        clear hbu'
        replace Xk : Hid _ := Xk.out.below hbB
        replace YA : Hid _ := YA.out.below hbB
        replace hbw := Below.on hbw hbB
        clear hbB
        have YB : Hid (ZR uB tB (some ⟨kB, 0, none⟩) nB (svS S H (s + 1))) := hzB
        have HLB : Hid (nB ≤ 2200) := hlB
        clear hzB hlB hgB
        clear HJ
        have HJ : Hid ((fun W' : World => W'.cell? ⟨gk, 0, none⟩ = some (U S) ∧ W'.cell? ⟨gk, 1, none⟩ = some (.int .i64 P) ∧ W'.cell? ⟨gk, 2, none⟩ = some (.int .i64 E) ∧ W'.cell? ⟨gk, 3, none⟩ = some (.int .i64 G) ∧ W'.cell? ⟨gk, 4, none⟩ = some (U I) ∧ W'.cell? ⟨gk, 5, none⟩ = some (U Q)) uB) := ⟨Xk.out.c0, Xk.out.c1, Xk.out.c2, Xk.out.c3, Xk.out.c4, Xk.out.c5⟩
        refine hK _ _ HJ.out ?_
        clear hK
        refine wpJ_two (i := 7) (k := 8) (by kernel_rfl) rfl rfl (by kernel_rfl) (by kernel_rfl) (fun KJ hK => ?_) (fun KJ hK => ?_)
        · go_simp
          refine (radd04 tA tB YA.out YB.out (by have := HLA.out; omega) (by have := HLB.out; omega)).mono ?_
          rintro e9 uF ⟨v9, rfl, hv, hbF⟩
          obtain ⟨tF, kF, nF, rfl, hgF, hzF, hlF⟩ := hv
          have HGB : Hid (uB.heap.size ≤ kF) := hgF
          have hbu' := Below.on hbu hbF
          clear hbu
          have hbu := hbu'
          clear hbu'
          replace Xk : Hid _ := Xk.out.below hbF
          replace YA : Hid _ := YA.out.below hbF
          replace YB : Hid _ := YB.out.below hbF
          replace hbw := Below.on hbw hbF
          clear hbF
          have RR : Hid (ZR uF tF (some ⟨kF, 0, none⟩) nF (svS S H s + svS S H (s + 1))) := hzF
          have HLF : Hid (nF ≤ max nA nB + 1) := hlF
          clear hzF hlF hgF
          clear YA
          clear YB
          have HNF : Hid (nF ≤ 2300) := by have h1 := HLA.out; have h2 := HLB.out; have h3 := HLF.out; show _ ≤ _; omega
          refine hK _ _ ⟨Xk.out.c0, Xk.out.c1, Xk.out.c2, Xk.out.c3, Xk.out.c4, Xk.out.c5⟩ ?_
          clear hK
          refine wpJ_on 8 rfl fun KJ hK => ?_
          go_simp
          have HDktw : Hid (gk ≠ uF.heap.size) := Nat.ne_of_lt Xk.out.lt
          have HLS : Hid (∀ v0 v1, ZR (((uF.alloc (.cells #[.bool false, .slice none 0 0] 122)).setCell ⟨uF.heap.size, 0, none⟩ v0).setCell ⟨uF.heap.size, 1, none⟩ v1) tF (some ⟨kF, 0, none⟩) nF (svS S H s + svS S H (s + 1))) := fun v0 v1 => RR.out.below (bSet (bSet (below1 _ _) _ _ _ (Nat.le_refl _)) _ _ _ (Nat.le_refl _))
          have HGU : Hid (v6.heap.size ≤ uF.heap.size) := hbu.size
          have Xtw0 : Hid (Box (uF.alloc (.cells #[.bool false, .slice none 0 0] 122)) uF.heap.size (.bool false) (.slice none 0 0)) := Box.new uF _ _ _
          have hbn : Below uF.heap.size uF (uF.alloc (.cells #[.bool false, .slice none 0 0] 122)) := below1 uF _
          generalize uF.alloc (.cells #[.bool false, .slice none 0 0] 122) = Wn at *
          have HGtw : Hid (w.heap.size ≤ uF.heap.size) := hbw.size
          have hbu' := Below.on hbu hbn
          clear hbu
          have hbu := hbu'
          clear hbu'
          replace Xk : Hid _ := Xk.out.below hbn
          replace RR : Hid _ := RR.out.below hbn
          replace hbw := Below.on hbw hbn
          clear hbn
          generalize uF.heap.size = gtw at *
          have Xtw := Xtw0
          clear Xtw0
          refine hK _ _ ⟨Xk.out.c0, Xk.out.c1, Xk.out.c2, Xk.out.c3, Xk.out.c4, Xk.out.c5⟩ ?_
          clear hK
          obtain ⟨ctw0, ctw1, ftw0, ftw1⟩ := Xtw.out
          have hnetw := Xtw.out.lt
          obtain ⟨ck0, ck1, ck2, ck3, ck4, ck5, fk0, fk1, fk2, fk3, fk4, fk5⟩ := Xk.out
          have hnek : gk < Wn.heap.size := World.block_lt_of_cell? Wn _ ck0
          have qak : gk ≠ gtw := HDktw.out
          have qbk : gtw ≠ gk := fun h => qak h.symm
          refine wpJ_on 9 rfl fun KJ hK => ?_
          go_simp
          have HJ2 : Hid ((fun W' : World => W'.cell? ⟨gk, 0, none⟩ = some (U S) ∧ W'.cell? ⟨gk, 1, none⟩ = some (.int .i64 P) ∧ W'.cell? ⟨gk, 2, none⟩ = some (.int .i64 E) ∧ W'.cell? ⟨gk, 3, none⟩ = some (.int .i64 G) ∧ W'.cell? ⟨gk, 4, none⟩ = some (U I) ∧ W'.cell? ⟨gk, 5, none⟩ = some (U Q)) ((Wn.setCell ⟨gtw, 0, none⟩ (.bool tF)).setCell ⟨gtw, 1, none⟩ (.slice (some ⟨kF, 0, none⟩) nF nF))) := ⟨by go_simp, by go_simp, by go_simp, by go_simp, by go_simp, by go_simp⟩
          have Xtw2 : Hid (Box ((Wn.setCell ⟨gtw, 0, none⟩ (.bool tF)).setCell ⟨gtw, 1, none⟩ (.slice (some ⟨kF, 0, none⟩) nF nF)) gtw (.bool tF) (.slice (some ⟨kF, 0, none⟩) nF nF)) := ⟨by go_simp, by go_simp, by go_simp, by go_simp⟩
          have Xk2 : Hid (B6q ((Wn.setCell ⟨gtw, 0, none⟩ (.bool tF)).setCell ⟨gtw, 1, none⟩ (.slice (some ⟨kF, 0, none⟩) nF nF)) gk (U S) (.int .i64 P) (.int .i64 E) (.int .i64 G) (U I) (U Q)) := ⟨by go_simp, by go_simp, by go_simp, by go_simp, by go_simp, by go_simp, by go_simp, by go_simp, by go_simp, by go_simp, by go_simp, by go_simp⟩
          have RR2 : Hid (ZR ((Wn.setCell ⟨gtw, 0, none⟩ (.bool tF)).setCell ⟨gtw, 1, none⟩ (.slice (some ⟨kF, 0, none⟩) nF nF)) tF (some ⟨kF, 0, none⟩) nF (svS S H s + svS S H (s + 1))) := HLS.out _ _
          have hbu2 : Below v6.heap.size v6 ((Wn.setCell ⟨gtw, 0, none⟩ (.bool tF)).setCell ⟨gtw, 1, none⟩ (.slice (some ⟨kF, 0, none⟩) nF nF)) := bSet (bSet hbu _ _ _ HGU.out) _ _ _ HGU.out
          have hbw2 : Below w.heap.size w ((Wn.setCell ⟨gtw, 0, none⟩ (.bool tF)).setCell ⟨gtw, 1, none⟩ (.slice (some ⟨kF, 0, none⟩) nF nF)) := bSet (bSet hbw _ _ _ HGtw.out) _ _ _ HGtw.out
          refine hK _ _ HJ2.out ?_
          clear hK HJ
          have HJ := HJ2
          clear HJ2
          refine wpJ_done (by kernel_rfl) ?_ _
          exact ⟨rfl, HRQ.out _ _ _ ⟨gtw, tA, kA, nA, tB, kB, nB, tF, kF, nF, by kernel_rfl, Xtw2.out, Xk2.out, RR2.out, HGtw.out, HDktw.out, HNF.out, hbu2, hbw2⟩⟩
        · go_simp
          have HDktw : Hid (gk ≠ uB.heap.size) := Nat.ne_of_lt Xk.out.lt
          have HGU : Hid (v6.heap.size ≤ uB.heap.size) := hbu.size
          have Xtw0 : Hid (Box (uB.alloc (.cells #[.bool false, .slice none 0 0] 122)) uB.heap.size (.bool false) (.slice none 0 0)) := Box.new uB _ _ _
          have hbn : Below uB.heap.size uB (uB.alloc (.cells #[.bool false, .slice none 0 0] 122)) := below1 uB _
          generalize uB.alloc (.cells #[.bool false, .slice none 0 0] 122) = Wn at *
          have HGtw : Hid (w.heap.size ≤ uB.heap.size) := hbw.size
          have hbu' := Below.on hbu hbn
          clear hbu
          have hbu := hbu'
          clear hbu'
          replace Xk : Hid _ := Xk.out.below hbn
          replace YA : Hid _ := YA.out.below hbn
          replace YB : Hid _ := YB.out.below hbn
          replace hbw := Below.on hbw hbn
          clear hbn
          generalize uB.heap.size = gtw at *
          have Xtw := Xtw0
          clear Xtw0
          refine hK _ _ ⟨Xk.out.c0, Xk.out.c1, Xk.out.c2, Xk.out.c3, Xk.out.c4, Xk.out.c5⟩ ?_
          clear hK
          refine wpJ_on 7 rfl fun KJ hK => ?_
          go_simp
          have HLT : Hid (gtw < Wn.heap.size) := Xtw.out.lt
          refine (radd04 tA tB YA.out YB.out (by have := HLA.out; omega) (by have := HLB.out; omega)).mono ?_
          rintro e9 uF ⟨v9, rfl, hv, hbF⟩
          obtain ⟨tF, kF, nF, rfl, hgF, hzF, hlF⟩ := hv
          have HGB : Hid (Wn.heap.size ≤ kF) := hgF
          have hbu' := Below.on hbu hbF
          clear hbu
          have hbu := hbu'
          clear hbu'
          replace Xk : Hid _ := Xk.out.below hbF
          replace Xtw : Hid _ := Xtw.out.below hbF
          replace YA : Hid _ := YA.out.below hbF
          replace YB : Hid _ := YB.out.below hbF
          replace hbw := Below.on hbw hbF
          clear hbF
          have RR : Hid (ZR uF tF (some ⟨kF, 0, none⟩) nF (svS S H s + svS S H (s + 1))) := hzF
          have HLF : Hid (nF ≤ max nA nB + 1) := hlF
          clear hzF hlF hgF
          clear YA
          clear YB
          have HNF : Hid (nF ≤ 2300) := by have h1 := HLA.out; have h2 := HLB.out; have h3 := HLF.out; show _ ≤ _; omega
          have HNE : Hid (kF ≠ gtw) := by have h1 := HLT.out; have h2 := HGB.out; show _ ≠ _; omega
          refine hK _ _ ⟨Xk.out.c0, Xk.out.c1, Xk.out.c2, Xk.out.c3, Xk.out.c4, Xk.out.c5⟩ ?_
          clear hK
          obtain ⟨ctw0, ctw1, ftw0, ftw1⟩ := Xtw.out
          have hnetw := Xtw.out.lt
          obtain ⟨ck0, ck1, ck2, ck3, ck4, ck5, fk0, fk1, fk2, fk3, fk4, fk5⟩ := Xk.out
          have hnek : gk < uF.heap.size := World.block_lt_of_cell? uF _ ck0
          have qak : gk ≠ gtw := HDktw.out
          have qbk : gtw ≠ gk := fun h => qak h.symm
          refine wpJ_on 9 rfl fun KJ hK => ?_
          go_simp
          have HJ2 : Hid ((fun W' : World => W'.cell? ⟨gk, 0, none⟩ = some (U S) ∧ W'.cell? ⟨gk, 1, none⟩ = some (.int .i64 P) ∧ W'.cell? ⟨gk, 2, none⟩ = some (.int .i64 E) ∧ W'.cell? ⟨gk, 3, none⟩ = some (.int .i64 G) ∧ W'.cell? ⟨gk, 4, none⟩ = some (U I) ∧ W'.cell? ⟨gk, 5, none⟩ = some (U Q)) ((uF.setCell ⟨gtw, 0, none⟩ (.bool tF)).setCell ⟨gtw, 1, none⟩ (.slice (some ⟨kF, 0, none⟩) nF nF))) := ⟨by go_simp, by go_simp, by go_simp, by go_simp, by go_simp, by go_simp⟩
          have Xtw2 : Hid (Box ((uF.setCell ⟨gtw, 0, none⟩ (.bool tF)).setCell ⟨gtw, 1, none⟩ (.slice (some ⟨kF, 0, none⟩) nF nF)) gtw (.bool tF) (.slice (some ⟨kF, 0, none⟩) nF nF)) := ⟨by go_simp, by go_simp, by go_simp, by go_simp⟩
          have Xk2 : Hid (B6q ((uF.setCell ⟨gtw, 0, none⟩ (.bool tF)).setCell ⟨gtw, 1, none⟩ (.slice (some ⟨kF, 0, none⟩) nF nF)) gk (U S) (.int .i64 P) (.int .i64 E) (.int .i64 G) (U I) (U Q)) := ⟨by go_simp, by go_simp, by go_simp, by go_simp, by go_simp, by go_simp, by go_simp, by go_simp, by go_simp, by go_simp, by go_simp, by go_simp⟩
          have RR2 : Hid (ZR ((uF.setCell ⟨gtw, 0, none⟩ (.bool tF)).setCell ⟨gtw, 1, none⟩ (.slice (some ⟨kF, 0, none⟩) nF nF)) tF (some ⟨kF, 0, none⟩) nF (svS S H s + svS S H (s + 1))) := (RR.out.set _ _ _ HNE.out).set _ _ _ HNE.out
          have hbu2 : Below v6.heap.size v6 ((uF.setCell ⟨gtw, 0, none⟩ (.bool tF)).setCell ⟨gtw, 1, none⟩ (.slice (some ⟨kF, 0, none⟩) nF nF)) := bSet (bSet hbu _ _ _ HGU.out) _ _ _ HGU.out
          have hbw2 : Below w.heap.size w ((uF.setCell ⟨gtw, 0, none⟩ (.bool tF)).setCell ⟨gtw, 1, none⟩ (.slice (some ⟨kF, 0, none⟩) nF nF)) := bSet (bSet hbw _ _ _ HGtw.out) _ _ _ HGtw.out
          refine hK _ _ HJ2.out ?_
          clear hK HJ
          have HJ := HJ2
          clear HJ2
          refine wpJ_done (by kernel_rfl) ?_ _
          exact ⟨rfl, HRQ.out _ _ _ ⟨gtw, tA, kA, nA, tB, kB, nB, tF, kF, nF, by kernel_rfl, Xtw2.out, Xk2.out, RR2.out, HGtw.out, HDktw.out, HNF.out, hbu2, hbw2⟩⟩
      · go_simp
        have HDktw : Hid (gk ≠ uA.heap.size) := Nat.ne_of_lt Xk.out.lt
        have HGU : Hid (v6.heap.size ≤ uA.heap.size) := hbu.size
        have Xtw0 : Hid (Box (uA.alloc (.cells #[.bool false, .slice none 0 0] 122)) uA.heap.size (.bool false) (.slice none 0 0)) := Box.new uA _ _ _
        have hbn : Below uA.heap.size uA (uA.alloc (.cells #[.bool false, .slice none 0 0] 122)) := below1 uA _
        generalize uA.alloc (.cells #[.bool false, .slice none 0 0] 122) = Wn at *
        have HGtw : Hid (w.heap.size ≤ uA.heap.size) := hbw.size
        have hbu' := Below.on hbu hbn
        clear hbu
        have hbu := hbu'
        clear hbu'
        replace Xk : Hid _ := Xk.out.below hbn
        replace YA : Hid _ := YA.out.below hbn
        replace hbw := Below.on hbw hbn
        clear hbn
        generalize uA.heap.size = gtw at *
        have Xtw := Xtw0
        clear Xtw0
        refine hK _ _ ⟨Xk.out.c0, Xk.out.c1, Xk.out.c2, Xk.out.c3, Xk.out.c4, Xk.out.c5⟩ ?_
        clear hK
        refine wpJ_on 6 rfl fun KJ hK => ?_
        go_simp
        refine (HR.out.wh _ _).mono ?_
        rintro e9 uB ⟨v9, rfl, hv, hbB⟩
        obtain ⟨tB, kB, nB, rfl, hgB, hzB, hlB⟩ := hv
        skip
        have hbu' := Below.on hbu hbB
        clear hbu
        have hbu := hbu'
        clear hbu'
        replace Xk : Hid _ := Xk.out.below hbB
        replace Xtw : Hid _ := Xtw.out.below hbB
        replace YA : Hid _ := YA.out.below hbB
        replace hbw := Below.on hbw hbB
        clear hbB
        have YB : Hid (ZR uB tB (some ⟨kB, 0, none⟩) nB (svS S H (s + 1))) := hzB
        have HLB : Hid (nB ≤ 2200) := hlB
        clear hzB hlB hgB
        refine hK _ _ ⟨Xk.out.c0, Xk.out.c1, Xk.out.c2, Xk.out.c3, Xk.out.c4, Xk.out.c5⟩ ?_
        clear hK
        refine wpJ_on 7 rfl fun KJ hK => ?_
        go_simp
        have HLT : Hid (gtw < uB.heap.size) := Xtw.out.lt
        refine (radd04 tA tB YA.out YB.out (by have := HLA.out; omega) (by have := HLB.out; omega)).mono ?_
        rintro e9 uF ⟨v9, rfl, hv, hbF⟩
        obtain ⟨tF, kF, nF, rfl, hgF, hzF, hlF⟩ := hv
        have HGB : Hid (uB.heap.size ≤ kF) := hgF
        have hbu' := Below.on hbu hbF
        clear hbu
        have hbu := hbu'
        clear hbu'
        replace Xk : Hid _ := Xk.out.below hbF
        replace Xtw : Hid _ := Xtw.out.below hbF
        replace YA : Hid _ := YA.out.below hbF
        replace YB : Hid _ := YB.out.below hbF
        replace hbw := Below.on hbw hbF
        clear hbF
        have RR : Hid (ZR uF tF (some ⟨kF, 0, none⟩) nF (svS S H s + svS S H (s + 1))) := hzF
        have HLF : Hid (nF ≤ max nA nB + 1) := hlF
        clear hzF hlF hgF
        clear YA
        clear YB
        have HNF : Hid (nF ≤ 2300) := by have h1 := HLA.out; have h2 := HLB.out; have h3 := HLF.out; show _ ≤ _; omega
        have HNE : Hid (kF ≠ gtw) := by have h1 := HLT.out; have h2 := HGB.out; show _ ≠ _; omega
        refine hK _ _ ⟨Xk.out.c0, Xk.out.c1, Xk.out.c2, Xk.out.c3, Xk.out.c4, Xk.out.c5⟩ ?_
        clear hK
        obtain ⟨ctw0, ctw1, ftw0, ftw1⟩ := Xtw.out
        have hnetw := Xtw.out.lt
        obtain ⟨ck0, ck1, ck2, ck3, ck4, ck5, fk0, fk1, fk2, fk3, fk4, fk5⟩ := Xk.out
        have hnek : gk < uF.heap.size := World.block_lt_of_cell? uF _ ck0
        have qak : gk ≠ gtw := HDktw.out
        have qbk : gtw ≠ gk := fun h => qak h.symm
        refine wpJ_on 9 rfl fun KJ hK => ?_
        go_simp
        have HJ2 : Hid ((fun W' : World => W'.cell? ⟨gk, 0, none⟩ = some (U S) ∧ W'.cell? ⟨gk, 1, none⟩ = some (.int .i64 P) ∧ W'.cell? ⟨gk, 2, none⟩ = some (.int .i64 E) ∧ W'.cell? ⟨gk, 3, none⟩ = some (.int .i64 G) ∧ W'.cell? ⟨gk, 4, none⟩ = some (U I) ∧ W'.cell? ⟨gk, 5, none⟩ = some (U Q)) ((uF.setCell ⟨gtw, 0, none⟩ (.bool tF)).setCell ⟨gtw, 1, none⟩ (.slice (some ⟨kF, 0, none⟩) nF nF))) := ⟨by go_simp, by go_simp, by go_simp, by go_simp, by go_simp, by go_simp⟩
        have Xtw2 : Hid (Box ((uF.setCell ⟨gtw, 0, none⟩ (.bool tF)).setCell ⟨gtw, 1, none⟩ (.slice (some ⟨kF, 0, none⟩) nF nF)) gtw (.bool tF) (.slice (some ⟨kF, 0, none⟩) nF nF)) := ⟨by go_simp, by go_simp, by go_simp, by go_simp⟩
        have Xk2 : Hid (B6q ((uF.setCell ⟨gtw, 0, none⟩ (.bool tF)).setCell ⟨gtw, 1, none⟩ (.slice (some ⟨kF, 0, none⟩) nF nF)) gk (U S) (.int .i64 P) (.int .i64 E) (.int .i64 G) (U I) (U Q)) := ⟨by go_simp, by go_simp, by go_simp, by go_simp, by go_simp, by go_simp, by go_simp, by go_simp, by go_simp, by go_simp, by go_simp, by go_simp⟩
        have RR2 : Hid (ZR ((uF.setCell ⟨gtw, 0, none⟩ (.bool tF)).setCell ⟨gtw, 1, none⟩ (.slice (some ⟨kF, 0, none⟩) nF nF)) tF (some ⟨kF, 0, none⟩) nF (svS S H s + svS S H (s + 1))) := (RR.out.set _ _ _ HNE.out).set _ _ _ HNE.out
        have hbu2 : Below v6.heap.size v6 ((uF.setCell ⟨gtw, 0, none⟩ (.bool tF)).setCell ⟨gtw, 1, none⟩ (.slice (some ⟨kF, 0, none⟩) nF nF)) := bSet (bSet hbu _ _ _ HGU.out) _ _ _ HGU.out
        have hbw2 : Below w.heap.size w ((uF.setCell ⟨gtw, 0, none⟩ (.bool tF)).setCell ⟨gtw, 1, none⟩ (.slice (some ⟨kF, 0, none⟩) nF nF)) := bSet (bSet hbw _ _ _ HGtw.out) _ _ _ HGtw.out
        refine hK _ _ HJ2.out ?_
        clear hK HJ
        have HJ := HJ2
        clear HJ2
        refine wpJ_done (by kernel_rfl) ?_ _
        exact ⟨rfl, HRQ.out _ _ _ ⟨gtw, tA, kA, nA, tB, kB, nB, tF, kF, nF, by kernel_rfl, Xtw2.out, Xk2.out, RR2.out, HGtw.out, HDktw.out, HNF.out, hbu2, hbw2⟩⟩
    · go_simp
      have HDktw : Hid (gk ≠ Wr.heap.size) := Nat.ne_of_lt Xk.out.lt
      have HGU : Hid (v6.heap.size ≤ Wr.heap.size) := hbu.size
      have Xtw0 : Hid (Box (Wr.alloc (.cells #[.bool false, .slice none 0 0] 122)) Wr.heap.size (.bool false) (.slice none 0 0)) := Box.new Wr _ _ _
      have hbn : Below Wr.heap.size Wr (Wr.alloc (.cells #[.bool false, .slice none 0 0] 122)) := below1 Wr _
      generalize Wr.alloc (.cells #[.bool false, .slice none 0 0] 122) = Wn at *
      have HGtw : Hid (w.heap.size ≤ Wr.heap.size) := hbw.size
      have hbu' := Below.on hbu hbn
      clear hbu
      have hbu := hbu'
      clear hbu'
      replace Xk : Hid _ := Xk.out.below hbn
      replace hbw := Below.on hbw hbn
      clear hbn
      generalize Wr.heap.size = gtw at *
      have Xtw := Xtw0
      clear Xtw0
      refine hK _ _ ⟨Xk.out.c0, Xk.out.c1, Xk.out.c2, Xk.out.c3, Xk.out.c4, Xk.out.c5⟩ ?_
      clear hK
      refine wpJ_on 2 rfl fun KJ hK => ?_
      go_simp
      refine (HR.out.wh _ _).mono ?_
      rintro e9 uA ⟨v9, rfl, hv, hbA⟩
      obtain ⟨tA, kA, nA, rfl, hgA, hzA, hlA⟩ := hv
      skip
      have hbu' := Below.on hbu hbA
      clear hbu
      have hbu := hbu'
      clear hbu'
      replace Xk : Hid _ := Xk.out.below hbA
      replace Xtw : Hid _ := Xtw.out.below hbA
      replace hbw := Below.on hbw hbA
      clear hbA
      have YA : Hid (ZR uA tA (some ⟨kA, 0, none⟩) nA (svS S H s)) := hzA
      have HLA : Hid (nA ≤ 2200) := hlA
      clear hzA hlA hgA
      refine hK _ _ ⟨Xk.out.c0, Xk.out.c1, Xk.out.c2, Xk.out.c3, Xk.out.c4, Xk.out.c5⟩ ?_
      clear hK
      refine wpJ_on 6 rfl fun KJ hK => ?_
      go_simp
      refine (HR.out.wh _ _).mono ?_
      rintro e9 uB ⟨v9, rfl, hv, hbB⟩
      obtain ⟨tB, kB, nB, rfl, hgB, hzB, hlB⟩ := hv
      skip
      have hbu' := Below.on hbu hbB
      clear hbu
      have hbu := hbu'
      clear hbu'
      replace Xk : Hid _ := Xk.out.below hbB
      replace Xtw : Hid _ := Xtw.out.below hbB
      replace YA : Hid _ := YA.out.below hbB
      replace hbw := Below.on hbw hbB
      clear hbB
      have YB : Hid (ZR uB tB (some ⟨kB, 0, none⟩) nB (svS S H (s + 1))) := hzB
      have HLB : Hid (nB ≤ 2200) := hlB
      clear hzB hlB hgB
      refine hK _ _ ⟨Xk.out.c0, Xk.out.c1, Xk.out.c2, Xk.out.c3, Xk.out.c4, Xk.out.c5⟩ ?_
      clear hK
      refine wpJ_on 7 rfl fun KJ hK => ?_
      go_simp
      have HLT : Hid (gtw < uB.heap.size) := Xtw.out.lt
      refine (radd04 tA tB YA.out YB.out (by have := HLA.out; omega) (by have := HLB.out; omega)).mono ?_
      rintro e9 uF ⟨v9, rfl, hv, hbF⟩
      obtain ⟨tF, kF, nF, rfl, hgF, hzF, hlF⟩ := hv
      have HGB : Hid (uB.heap.size ≤ kF) := hgF
      have hbu' := Below.on hbu hbF
      clear hbu
      have hbu := hbu'
      clear hbu'
      replace Xk : Hid _ := Xk.out.below hbF
      replace Xtw : Hid _ := Xtw.out.below hbF
      replace YA : Hid _ := YA.out.below hbF
      replace YB : Hid _ := YB.out.below hbF
      replace hbw := Below.on hbw hbF
      clear hbF
      have RR : Hid (ZR uF tF (some ⟨kF, 0, none⟩) nF (svS S H s + svS S H (s + 1))) := hzF
      have HLF : Hid (nF ≤ max nA nB + 1) := hlF
      clear hzF hlF hgF
      clear YA
      clear YB
      have HNF : Hid (nF ≤ 2300) := by have h1 := HLA.out; have h2 := HLB.out; have h3 := HLF.out; show _ ≤ _; omega
      have HNE : Hid (kF ≠ gtw) := by have h1 := HLT.out; have h2 := HGB.out; show _ ≠ _; omega
      refine hK _ _ ⟨Xk.out.c0, Xk.out.c1, Xk.out.c2, Xk.out.c3, Xk.out.c4, Xk.out.c5⟩ ?_
      clear hK
      obtain ⟨ctw0, ctw1, ftw0, ftw1⟩ := Xtw.out
      have hnetw := Xtw.out.lt
      obtain ⟨ck0, ck1, ck2, ck3, ck4, ck5, fk0, fk1, fk2, fk3, fk4, fk5⟩ := Xk.out
      have hnek : gk < uF.heap.size := World.block_lt_of_cell? uF _ ck0
      have qak : gk ≠ gtw := HDktw.out
      have qbk : gtw ≠ gk := fun h => qak h.symm
      refine wpJ_on 9 rfl fun KJ hK => ?_
      go_simp
      have HJ2 : Hid ((fun W' : World => W'.cell? ⟨gk, 0, none⟩ = some (U S) ∧ W'.cell? ⟨gk, 1, none⟩ = some (.int .i64 P) ∧ W'.cell? ⟨gk, 2, none⟩ = some (.int .i64 E) ∧ W'.cell? ⟨gk, 3, none⟩ = some (.int .i64 G) ∧ W'.cell? ⟨gk, 4, none⟩ = some (U I) ∧ W'.cell? ⟨gk, 5, none⟩ = some (U Q)) ((uF.setCell ⟨gtw, 0, none⟩ (.bool tF)).setCell ⟨gtw, 1, none⟩ (.slice (some ⟨kF, 0, none⟩) nF nF))) := ⟨by go_simp, by go_simp, by go_simp, by go_simp, by go_simp, by go_simp⟩
      have Xtw2 : Hid (Box ((uF.setCell ⟨gtw, 0, none⟩ (.bool tF)).setCell ⟨gtw, 1, none⟩ (.slice (some ⟨kF, 0, none⟩) nF nF)) gtw (.bool tF) (.slice (some ⟨kF, 0, none⟩) nF nF)) := ⟨by go_simp, by go_simp, by go_simp, by go_simp⟩
      have Xk2 : Hid (B6q ((uF.setCell ⟨gtw, 0, none⟩ (.bool tF)).setCell ⟨gtw, 1, none⟩ (.slice (some ⟨kF, 0, none⟩) nF nF)) gk (U S) (.int .i64 P) (.int .i64 E) (.int .i64 G) (U I) (U Q)) := ⟨by go_simp, by go_simp, by go_simp, by go_simp, by go_simp, by go_simp, by go_simp, by go_simp, by go_simp, by go_simp, by go_simp, by go_simp⟩
      have RR2 : Hid (ZR ((uF.setCell ⟨gtw, 0, none⟩ (.bool tF)).setCell ⟨gtw, 1, none⟩ (.slice (some ⟨kF, 0, none⟩) nF nF)) tF (some ⟨kF, 0, none⟩) nF (svS S H s + svS S H (s + 1))) := (RR.out.set _ _ _ HNE.out).set _ _ _ HNE.out
      have hbu2 : Below v6.heap.size v6 ((uF.setCell ⟨gtw, 0, none⟩ (.bool tF)).setCell ⟨gtw, 1, none⟩ (.slice (some ⟨kF, 0, none⟩) nF nF)) := bSet (bSet hbu _ _ _ HGU.out) _ _ _ HGU.out
      have hbw2 : Below w.heap.size w ((uF.setCell ⟨gtw, 0, none⟩ (.bool tF)).setCell ⟨gtw, 1, none⟩ (.slice (some ⟨kF, 0, none⟩) nF nF)) := bSet (bSet hbw _ _ _ HGtw.out) _ _ _ HGtw.out
      refine hK _ _ HJ2.out ?_
      clear hK HJ
      have HJ := HJ2
      clear HJ2
      refine wpJ_done (by kernel_rfl) ?_ _
      exact ⟨rfl, HRQ.out _ _ _ ⟨gtw, tA, kA, nA, tB, kB, nB, tF, kF, nF, by kernel_rfl, Xtw2.out, Xk2.out, RR2.out, HGtw.out, HDktw.out, HNF.out, hbu2, hbw2⟩⟩
theorem parse_x {f : Int} (h1 : f ≠ 32) (h2 : f ≠ 64) (s : ByteArray) (w : World) :
    Calls Tryz.prog 9 #[.int .i64 f, .string s] w fun en w' => en = .returned (.tuple #[U 0, .int .i64 1]) ∧ Below w.heap.size w w' := by
  have H : Hid (f ≠ 32 ∧ f ≠ 64) := ⟨h1, h2⟩
  clear h1 h2
  have hmf : ∀ (fn : Fn) (first cap : Array Value) (w : World), (Instr.makeFunc fn first cap).run Tryz.prog w = .ok (.func fn first cap) w := fun _ _ _ _ => rfl
  go_enter_defers Tryz.func9, Tryz.ntmps9
  go_wp2_with fail
  obtain ⟨W0, hW0⟩ : ∃ W0, W0 = (w.alloc (.cells #[.int .u64 0] 25)).alloc (.cells #[.int .i64 0] 31) := ⟨_, rfl⟩
  have hb0 : Below w.heap.size w W0 := by rw [hW0]; exact below2 w _ _
  have XB : Hid (B1t W0 w.heap.size (.int .u64 0)) := by rw [hW0]; exact (B1t.new w _ _).below (below1 _ _)
  have XE : Hid (B1t W0 (w.heap.size + 1) (.int .i64 0)) := by rw [hW0]; have h := B1t.new (w.alloc (.cells #[.int .u64 0] 25)) 31 (.int .i64 0); rwa [show (w.alloc (.cells #[.int .u64 0] 25)).heap.size = w.heap.size + 1 by simp] at h
  obtain ⟨gb, hgb⟩ : ∃ gb, gb = w.heap.size := ⟨_, rfl⟩
  obtain ⟨ge, hge⟩ : ∃ ge, ge = w.heap.size + 1 := ⟨_, rfl⟩
  rw [← hW0]
  rw [← hge]
  rw [← hge] at XE
  rw [← hgb] at XB
  rw [← hgb]
  have HN : Hid (gb ≠ ge ∧ gb = w.heap.size ∧ w.heap.size ≤ gb ∧ w.heap.size ≤ ge) := ⟨by omega, hgb, by omega, by omega⟩
  have HB : Hid (Below w.heap.size w W0) := hb0
  clear hW0 hb0 hgb hge
  refine (of_x f H.out.1 H.out.2 _).mono ?_
  rintro e V1 ⟨rfl, hb1⟩
  have XB1 : Hid (B1t V1 gb (.int .u64 0)) := XB.out.below hb1
  have XE1 : Hid (B1t V1 ge (.int .i64 0)) := XE.out.below hb1
  have HB1 : Hid (Below w.heap.size w V1) := Below.on HB.out hb1
  clear XB XE HB hb1
  obtain ⟨ce, fe⟩ := XE1.out
  obtain ⟨cb, fb⟩ := XB1.out
  have lte : ge < V1.heap.size := XE1.out.lt
  have ltb : gb < V1.heap.size := XB1.out.lt
  have n1 : gb ≠ ge := HN.out.1
  have n2 : ge ≠ gb := Ne.symm n1
  go_wp2_with fail
  obtain ⟨V2, hV2⟩ : ∃ W9, W9 = ((V1.setCell ⟨ge, 0, none⟩ (.int .i64 1)).alloc (.cells #[.int .i64 0, .int .i64 0, .int .i64 0] 46)) := ⟨_, rfl⟩
  have XB2 : Hid (B1t V2 gb (.int .u64 0)) := by rw [hV2]; exact (XB1.out.setOff HN.out.1).below (below1 _ _)
  have XE2 : Hid (B1t V2 ge (.int .i64 1)) := by rw [hV2]; exact (XE1.out.put _).below (below1 _ _)
  have HB2 : Hid (Below w.heap.size w V2) := by rw [hV2]; exact Below.on (bSet HB1.out _ _ _ HN.out.2.2.2) (below1 _ _)
  rw [← hV2]
  clear hV2 ce fe cb fb lte ltb XB1 XE1 HB1
  obtain ⟨V3, hV3⟩ : ∃ W1, W1 = V2.drew := ⟨_, rfl⟩
  have hbd : Below V2.heap.size V2 V3 := by rw [hV3]; exact bDrew1 (Below.refl _ _)
  have XB3 : Hid (B1t V3 gb (.int .u64 0)) := XB2.out.below hbd
  have XE3 : Hid (B1t V3 ge (.int .i64 1)) := XE2.out.below hbd
  have HB3 : Hid (Below w.heap.size w V3) := Below.on HB2.out hbd
  have HJ : Hid ((fun W' : World => W'.cell? ⟨ge, 0, none⟩ = some (.int .i64 1)) V3) := XE3.out.c0
  refine wp_region_J (fun W' => W'.cell? ⟨ge, 0, none⟩ = some (.int .i64 1)) (by kernel_rfl) ?_
  rw [← hV3]
  clear hV3 hbd XB2 XE2 HB2
  refine wpJ_take (i := 0) (v := ?vq) rfl (by kernel_rfl) (by kernel_rfl) (by kernel_rfl) (fun _ _ _ h => putP 16 (by decide) (by decide) h) (by kernel_rfl) ?hyq HJ.out ?restq
  case hyq => (intro W' hJ; have j0 := hJ; go_simp; first | done | with_reducible rfl)
  obtain ⟨ce, fe⟩ := XE3.out
  obtain ⟨cb, fb⟩ := XB3.out
  have lte : ge < V3.heap.size := XE3.out.lt
  have ltb : gb < V3.heap.size := XB3.out.lt
  refine wpJ_on 1 rfl fun KJ hK => ?_
  go_simp
  have HJ2 : Hid ((fun W' : World => W'.cell? ⟨ge, 0, none⟩ = some (.int .i64 1)) (V3.setCell ⟨gb, 0, none⟩ (.int .u64 0))) := by show _ = _; go_simp
  refine hK _ _ HJ2.out ?_
  clear hK
  refine wpJ_on 2 rfl fun KJ hK => ?_
  go_simp
  have HJ3 : Hid ((fun W' : World => W'.cell? ⟨ge, 0, none⟩ = some (.int .i64 1)) ((V3.setCell ⟨gb, 0, none⟩ (.int .u64 0)).setCell ⟨ge, 0, none⟩ (.int .i64 1))) := by show _ = _; go_simp
  refine hK _ _ HJ3.out ?_
  clear hK
  refine wpJ_done (by kernel_rfl) ?_ _
  clear HJ HJ2 HJ3
  go_wp2_with fail
  refine ⟨_, res_P rfl rfl (((XB3.out.put _).setOff n1).below (Below.refl _ _)) ((XE3.out.setOff n2).put _), rfl, bSet (bSet HB3.out _ _ _ HN.out.2.2.1) _ _ _ HN.out.2.2.2⟩
theorem rds_rnp {f p m E : Int} {S I H sd N Q : Nat} {P G Be : Int} (J : Jn f p m E S I H sd Be) (R : Rj f S P E G I Q H sd N Be) {ex Ed : Int} {be v Z : Nat} (hF : FarR ex Ed) (hbe : be ≤ 8000) (hb : bitsN v ≤ 33000) (h : RdS E H I Be v (Ed - 4 * ((be : Nat) : Int)) Z) : rnp E sd Be S I (v : Int) (ex - 4 * ((be : Nat) : Int)) = Z := by
  have hp : 0 < H := by rw [R.hs]; exact Nat.two_pow_pos _
  have hB := R.be
  have hx : -4194304 ≤ ex - 4 * ((be : Nat) : Int) := by rcases hF with h | h | h <;> omega
  by_cases h0 : v = 0
  · have hZ : Z = 0 := by rcases h with h | h | h | h; exact h.2; all_goals exact absurd h0 h.1
    subst h0; rw [hZ]
    refine rnp_eq J (Int.le_refl _) hx ?_
    rw [show dv ((0 : Nat) : Int) (ex - 4 * ((be : Nat) : Int)) = 0 from dv_zero _]
    exact RNz.nought hp (by omega)
  have hb0 := bitsN_pos h0
  refine rnp_eq J (Int.natCast_nonneg _) hx ?_
  rcases hF with ⟨f1, f2, f3⟩ | ⟨f1, f2, f3⟩ | ⟨f1, f2, f3⟩
  · rw [f1] at hx ⊢
    rcases h with h | ⟨_, k, rfl⟩ | ⟨_, k, rfl⟩ | ⟨_, _, _, k⟩
    · exact absurd h.1 h0
    · exact rn_low hp hx k
    · exact rn_high R.hs R.hI R.hn (by omega) hx h0 k
    · exact k
  · have hZ : Z = I := by
      rcases h with h | ⟨_, k, _⟩ | ⟨_, _, k⟩ | ⟨_, _, k, _⟩
      · exact absurd h.1 h0
      · omega
      · exact k
      · omega
    rw [hZ]
    exact rn_high R.hs R.hI R.hn (by omega) hx h0 (by omega)
  · have hZ : Z = 0 := by
      rcases h with h | ⟨_, _, k⟩ | ⟨_, k, _⟩ | ⟨_, k, _, _⟩
      · exact absurd h.1 h0
      · exact k
      · omega
      · omega
    rw [hZ]
    exact rn_low hp hx (by omega)
theorem rds_ex {H sd I N : Nat} {l Be : Int} (hs : H = 2 ^ sd) (hn : Be = l + sd + N) (hN : 1 ≤ N) (hsd : 1 ≤ sd) (hI : I = (N + 1) * H) (hl : -4000000 ≤ l) (hbe : Be ≤ 1024) (v : Nat) (hb : bitsN v ≤ 33000) (e : Int) : ∃ Z, RdS l H I Be v e Z ∧ Z ≤ I := by
  by_cases h0 : v = 0
  · exact ⟨0, .inl ⟨h0, rfl⟩, Nat.zero_le _⟩
  by_cases h1 : (bitsN v : Int) + e < l
  · exact ⟨0, .inr (.inl ⟨h0, h1, rfl⟩), Nat.zero_le _⟩
  by_cases h2 : Be < (bitsN v : Int) + e
  · exact ⟨I, .inr (.inr (.inl ⟨h0, h2, rfl⟩)), Nat.le_refl _⟩
  have h3 := rnz_ok (l := l) (sd := sd) (Be := Be) (I := I) (m := v) (e := e) (by rw [hI, hs, show Be - l - sd + 1 = ((N + 1 : Nat) : Int) by omega, Int.natCast_mul]) hsd (by omega) (by omega) h0 (by omega)
  rw [← hs] at h3
  exact ⟨_, .inr (.inr (.inr ⟨h0, by omega, by omega, h3⟩)), h3.le⟩
theorem dround_all {S : Nat} {P E G : Int} {I Q H sd N : Nat} {Be f : Int} (R : Rj f S P E G I Q H sd N Be) {p : Option Addr} {n v Z : Nat} {e : Int} {w : World} (h : RN w p n v) (h1 : -10000000000000 ≤ e) (h2 : e ≤ 10000000000000) (hb : bitsN v ≤ 33000) (hZ : RdS E H I Be v e Z) :
    Calls Tryz.prog 38 #[FV S P E G I Q, .slice p n n, .int .i64 e] w fun en w' => en = .returned (U Z) ∧ Below w.heap.size w w' := by
  obtain ⟨⟨zs, hA, hN⟩, hl⟩ := h
  have hE := R.be
  rcases hZ with ⟨rfl, rfl⟩ | ⟨h0, k, rfl⟩ | ⟨h0, k, rfl⟩ | ⟨h0, k1, k2, k3⟩
  · exact dround_z hA hN hl h1 h2
  · exact dround_lo R hA hN hl h1 h2 (by omega) h0 k
  · exact dround_hi R hA hN hl h1 h2 (by omega) h0 k
  · rcases Int.lt_or_le e E with h | h
    · exact dround_l R hA hN hl h1 h2 (by omega) (k0 := (E - e - 1).toNat) h0 k1 k2 (by omega) hb k3
    · exact dround_g R hA hN hl h1 h2 (by omega) (k0 := (e - E).toNat) h0 k1 k2 (by omega) k3
theorem docF_v {l : List UInt8} {v : Nat} {e : Int} (h : docF l = some (v, e)) (hl : l.length ≤ 4000) : ∃ ds be ex Ed, numF l = some (ds, be, ex) ∧ v = hexF 0 ds ∧ e = Ed - 4 * ((be : Nat) : Int) ∧ FarR ex Ed ∧ be ≤ 8000 ∧ bitsN v ≤ 33000 := by
  obtain ⟨t, ht⟩ := num_of_doc h
  obtain ⟨ds, be, ex⟩ := t
  obtain ⟨D, Ed, k1, k2, k3⟩ := doc_of_num ht
  rw [h] at k2
  have k4 := Option.some.inj k2
  have k5 := congrArg Prod.fst k4
  have k6 := congrArg Prod.snd k4
  obtain ⟨d, s1, s2, s3, s4, _⟩ := numF_spec ht
  have hv : v = hexF 0 ds := by rw [k1, hexF_trim]; exact k5
  refine ⟨ds, be, ex, Ed, ht, hv, k6, k3, by omega, ?_⟩
  have h5 := hexF_lt d 0 s2
  rw [sixteen, Nat.zero_add, Nat.one_mul] at h5
  rw [hv, s1, hexF_trim]
  exact Nat.le_trans (bits_leg h5) (by omega)
theorem minus_len (l : List UInt8) : (minusF l).2.length ≤ l.length := by
  unfold minusF
  split
  · show (l.drop 1).length ≤ _; rw [List.length_drop]; omega
  · split
    · show (l.drop 1).length ≤ _; rw [List.length_drop]; omega
    · exact Nat.le_refl _
theorem doc_none {l : List UInt8} (h : docF l = none) : numF l = none := by
  cases hn : numF l with
  | none => rfl
  | some t =>
    obtain ⟨ds, be, ex⟩ := t
    obtain ⟨D, Ed, _, k2, _⟩ := doc_of_num hn
    rw [h] at k2; cases k2
theorem docparse_x {f : Int} (h1 : f ≠ 32) (h2 : f ≠ 64) (s : ByteArray) (w : World) :
    Calls Tryz.prog 12 #[.int .i64 f, .string s] w fun en w' => en = .returned (.tuple #[U 0, .int .i64 1]) ∧ Below w.heap.size w w' := by
  have H : Hid (f ≠ 32 ∧ f ≠ 64) := ⟨h1, h2⟩
  clear h1 h2
  go_enter Tryz.func12, Tryz.ntmps12
  go_wp2_with fail
  refine (rof_x _ H.out.1 H.out.2 _).mono ?_
  rintro en w1 ⟨rfl, hb⟩
  have HB := hm9 hb
  clear hb
  go_wp2_with fail
  go_ret2
  exact ⟨rfl, Below.on HB.out (below1 _ _)⟩
theorem docparse_long {f E : Int} {S I H sd N Q : Nat} {P G Be : Int} (R : Rj f S P E G I Q H sd N Be) {l : List UInt8} {x : Nat} {er : Int} (hp : parseF E sd Be S I Q l = (x, er)) (hl : 4000 < l.length) {w : World} :
    Calls Tryz.prog 12 #[.int .i64 f, .string (bs l)] w fun en w' => en = .returned (.tuple #[U x, .int .i64 er]) ∧ Below w.heap.size w w' := by
  have HR := hm9 R
  have hs : (bs l).size = l.length := bs_size l
  have hl2 : (4000 : Int) < (l.length : Int) := by omega
  have HX : Hid ((0, 7) = (x, er)) := by rw [← hp]; exact (parseF_long hl).symm
  clear R hp hl
  go_enter Tryz.func12, Tryz.ntmps12
  go_wp2_with fail
  refine (HR.out.rf.of _).mono ?_
  rintro en w1 ⟨rfl, hb1⟩
  have HB := hm9 hb1
  clear hb1
  go_wp2_with fail
  obtain ⟨rfl, rfl⟩ := Prod.mk.inj HX.out
  go_ret2
  exact ⟨rfl, Below.on HB.out (below1 _ _)⟩
theorem docparse_nan {f E : Int} {S I H sd N Q : Nat} {P G Be : Int} (R : Rj f S P E G I Q H sd N Be) {l : List UInt8} {x : Nat} {er : Int} (hp : parseF E sd Be S I Q l = (x, er)) (hl : ¬ 4000 < l.length) (hn : l = [110, 97, 110]) {w : World} :
    Calls Tryz.prog 12 #[.int .i64 f, .string (bs l)] w fun en w' => en = .returned (.tuple #[U x, .int .i64 er]) ∧ Below w.heap.size w w' := by
  have HR := hm9 R
  have hs : (bs l).size = l.length := bs_size l
  have hl2 : ¬ (4000 : Int) < (l.length : Int) := by omega
  have he0 := bs_eqL l [110, 97, 110]
  rw [decide_eq_true hn] at he0
  have HX : Hid ((Q, 0) = (x, er)) := by rw [← hp]; exact (parseF_nan hl hn).symm
  clear R hp hl hn
  go_enter Tryz.func12, Tryz.ntmps12
  go_wp2_with fail
  refine (HR.out.rf.of _).mono ?_
  rintro en w1 ⟨rfl, hb1⟩
  have HB := hm9 hb1
  clear hb1
  go_wp2_with fail
  obtain ⟨rfl, rfl⟩ := Prod.mk.inj HX.out
  go_ret2
  exact ⟨rfl, Below.on HB.out (below1 _ _)⟩
theorem docparse_r {f p m E : Int} {S I H sd N Q : Nat} {P G Be : Int} (J : Jn f p m E S I H sd Be) (R : Rj f S P E G I Q H sd N Be) {l : List UInt8} {x : Nat} {er : Int} (hp : parseF E sd Be S I Q l = (x, er)) (hl : ¬ 4000 < l.length) (hn : l ≠ [110, 97, 110]) {w : World} :
    Calls Tryz.prog 12 #[.int .i64 f, .string (bs l)] w fun en w' => en = .returned (.tuple #[U x, .int .i64 er]) ∧ Below w.heap.size w w' := by
  have HJ := hm9 J
  have HR := hm9 R
  have HP := hm9 hp
  have HL := hm9 hl
  have HN := hm9 hn
  have hs : (bs l).size = l.length := bs_size l
  have hl2 : ¬ (4000 : Int) < (l.length : Int) := by omega
  have he0 := bs_eqL l [110, 97, 110]
  rw [decide_eq_false hn] at he0
  clear J R hp hl hn
  go_enter Tryz.func12, Tryz.ntmps12
  go_wp2_with fail
  refine (HR.out.rf.of _).mono ?_
  rintro en w1 ⟨rfl, hb1⟩
  have hbw : Below w.heap.size w w1 := hb1
  clear hb1
  go_wp2_with fail
  have Xfm0 : Hid (B6q (w1.alloc (.cells #[U S, .int .i64 P, .int .i64 E, .int .i64 G, U I, U Q] 79)) w1.heap.size (U S) (.int .i64 P) (.int .i64 E) (.int .i64 G) (U I) (U Q)) := B6q.new w1 _ _ _ _ _ _ _
  have hbn : Below w1.heap.size w1 (w1.alloc (.cells #[U S, .int .i64 P, .int .i64 E, .int .i64 G, U I, U Q] 79)) := below1 w1 _
  generalize w1.alloc (.cells #[U S, .int .i64 P, .int .i64 E, .int .i64 G, U I, U Q] 79) = W2 at *
  have HGfm : Hid (w.heap.size ≤ w1.heap.size) := hbw.size
  replace hbw := Below.on hbw hbn
  clear hbn
  generalize w1.heap.size = gfm at *
  have Xfm := Xfm0
  clear Xfm0
  refine (rsigned_c l _).mono ?_
  rintro e v3 ⟨rfl, hb3⟩
  replace Xfm : Hid _ := Xfm.out.below hb3
  replace hbw := Below.on hbw hb3
  clear hb3
  obtain ⟨mi, hmi⟩ : ∃ mi, mi = (minusF l).1 := ⟨_, rfl⟩
  obtain ⟨r, hr⟩ : ∃ r, r = (minusF l).2 := ⟨_, rfl⟩
  rw [← hmi, ← hr]
  have HM : Hid (mi = (minusF l).1 ∧ r = (minusF l).2 ∧ r.length ≤ 4000) := ⟨hmi, hr, by rw [hr]; have h := HL.out; have h2 := minus_len l; omega⟩
  clear hmi hr he0 hl2 hs
  have he1 := bs_eqL r [105, 110, 102]
  obtain ⟨sg, hsg⟩ : ∃ sg : Nat, sg = if mi then S else 0 := ⟨_, rfl⟩
  have HSQ : Hid (∀ Z, Z ≤ I → sgq S (minusF l).1 Z = sg + Z ∧ IntKind.u64.wrap ((sg : Int) + (Z : Int)) = ((sg + Z : Nat) : Int)) := by
    intro Z hZ
    have h1 := HR.out.lt
    rw [← HM.out.1, hsg]
    refine ⟨by cases mi <;> simp [sgq], ?_⟩
    rw [IntKind.wrap_u64]
    cases mi <;> simp <;> omega
  cases mi with
  | false =>
    have hsg2 : sg = 0 := hsg
    skip
    by_cases hi : r = [105, 110, 102]
    · have hw0 : IntKind.u64.wrap (I : Int) = (I : Int) := by have h := (HSQ.out I (Nat.le_refl _)).2; rw [hsg2] at h; simpa using h
      have HX : Hid ((sg + I, 0) = (x, er)) := by show _ = _; rw [← HP.out, parseF_inf HL.out HN.out (by rw [← HM.out.2.1]; exact hi), (HSQ.out I (Nat.le_refl _)).1]
      rw [hsg2, Nat.zero_add] at HX
      rw [decide_eq_true hi] at he1
      clear hi hsg2 hsg HSQ
      obtain ⟨cfm0, cfm1, cfm2, cfm3, cfm4, cfm5, ffm0, ffm1, ffm2, ffm3, ffm4, ffm5⟩ := Xfm.out
      have hnefm : gfm < v3.heap.size := World.block_lt_of_cell? v3 _ cfm0
      go_wp2_with fail
      clear cfm0 cfm1 cfm2 cfm3 cfm4 cfm5 ffm0 ffm1 ffm2 ffm3 ffm4 ffm5 hnefm
      obtain ⟨rfl, rfl⟩ := Prod.mk.inj HX.out
      go_ret2
      exact ⟨rfl, hbw⟩
    have HI := hm9 hi
    rw [decide_eq_false hi] at he1
    clear hi
    have HSG := hm9 hsg2
    clear hsg hsg2
    obtain ⟨cfm0, cfm1, cfm2, cfm3, cfm4, cfm5, ffm0, ffm1, ffm2, ffm3, ffm4, ffm5⟩ := Xfm.out
    have hnefm : gfm < v3.heap.size := World.block_lt_of_cell? v3 _ cfm0
    go_wp2_with fail
    clear cfm0 cfm1 cfm2 cfm3 cfm4 cfm5 ffm0 ffm1 ffm2 ffm3 ffm4 ffm5 hnefm
    refine (rnumber_c r (by have := HM.out.2.2; omega) _).mono ?_
    rintro en w5 (⟨hd, rfl, hb5⟩ | ⟨v, e, pv, mv, hd, rfl, hrn, hb5⟩)
    · replace Xfm : Hid _ := Xfm.out.below hb5
      replace hbw := Below.on hbw hb5
      clear hb5
      have HX : Hid ((0, 8) = (x, er)) := by rw [← HP.out]; exact (parseF_no HL.out HN.out (by rw [← HM.out.2.1]; exact HI.out) (by rw [← HM.out.2.1]; exact doc_none hd)).symm
      clear hd
      obtain ⟨cfm0, cfm1, cfm2, cfm3, cfm4, cfm5, ffm0, ffm1, ffm2, ffm3, ffm4, ffm5⟩ := Xfm.out
      have hnefm : gfm < w5.heap.size := World.block_lt_of_cell? w5 _ cfm0
      go_wp2_with fail
      clear cfm0 cfm1 cfm2 cfm3 cfm4 cfm5 ffm0 ffm1 ffm2 ffm3 ffm4 ffm5 hnefm
      obtain ⟨rfl, rfl⟩ := Prod.mk.inj HX.out
      go_ret2
      exact ⟨rfl, hbw⟩
    have HD := hm9 hd
    have HRN : Hid (RN w5 pv mv v) := hrn
    clear hd hrn
    replace Xfm : Hid _ := Xfm.out.below hb5
    replace hbw := Below.on hbw hb5
    clear hb5
    obtain ⟨cfm0, cfm1, cfm2, cfm3, cfm4, cfm5, ffm0, ffm1, ffm2, ffm3, ffm4, ffm5⟩ := Xfm.out
    have hnefm : gfm < w5.heap.size := World.block_lt_of_cell? w5 _ cfm0
    go_wp2_with fail
    clear cfm0 cfm1 cfm2 cfm3 cfm4 cfm5 ffm0 ffm1 ffm2 ffm3 ffm4 ffm5 hnefm
    obtain ⟨Z, hZ⟩ : ∃ Z, RdS E H I Be v e Z ∧ Z ≤ I := by
      obtain ⟨ds, be, ex, Ed, k1, k2, k3, k4, k5, k6⟩ := docF_v HD.out HM.out.2.2
      exact rds_ex HR.out.hs HR.out.hn HR.out.n1.1 HR.out.hsd.1 HR.out.hI (by have := HR.out.be; omega) HR.out.be.2.1 v k6 e
    have HZ := hm9 hZ
    clear hZ
    have HX : Hid ((sg + Z, 0) = (x, er) ∧ bitsN v ≤ 33000 ∧ -10000000000000 ≤ e ∧ e ≤ 10000000000000) := by
      obtain ⟨ds, be, ex, Ed, k1, k2, k3, k4, k5, k6⟩ := docF_v HD.out HM.out.2.2
      refine ⟨?_, k6, by rcases k4 with h | h | h <;> omega, by rcases k4 with h | h | h <;> omega⟩
      have h3 := rds_rnp HJ.out HR.out k4 k5 k6 (by rw [← k3]; exact HZ.out.1)
      rw [← HP.out, parseF_num HL.out HN.out (by rw [← HM.out.2.1]; exact HI.out) (by rw [← HM.out.2.1]; exact k1), (HSQ.out _ (by rw [← k2, h3]; exact HZ.out.2)).1, ← k2, h3]
    have hw1 : IntKind.u64.wrap (Z : Int) = (Z : Int) := by have h := (HSQ.out Z HZ.out.2).2; rw [HSG.out] at h; simpa using h
    rw [HSG.out, Nat.zero_add] at HX
    refine (dround_all HR.out (HRN.out) HX.out.2.2.1 HX.out.2.2.2 HX.out.2.1 HZ.out.1).mono ?_
    rintro e v6 ⟨rfl, hb6⟩
    replace Xfm : Hid _ := Xfm.out.below hb6
    replace hbw := Below.on hbw hb6
    clear hb6
    obtain ⟨cfm0, cfm1, cfm2, cfm3, cfm4, cfm5, ffm0, ffm1, ffm2, ffm3, ffm4, ffm5⟩ := Xfm.out
    have hnefm : gfm < v6.heap.size := World.block_lt_of_cell? v6 _ cfm0
    go_wp2_with fail
    clear cfm0 cfm1 cfm2 cfm3 cfm4 cfm5 ffm0 ffm1 ffm2 ffm3 ffm4 ffm5 hnefm
    obtain ⟨rfl, rfl⟩ := Prod.mk.inj HX.out.1
    go_ret2
    exact ⟨rfl, hbw⟩
  | true =>
    have hsg2 : sg = S := hsg
    skip
    by_cases hi : r = [105, 110, 102]
    · have hw0 : IntKind.u64.wrap ((S : Int) + (I : Int)) = ((S + I : Nat) : Int) := by have h := (HSQ.out I (Nat.le_refl _)).2; rwa [hsg2] at h
      have HX : Hid ((sg + I, 0) = (x, er)) := by show _ = _; rw [← HP.out, parseF_inf HL.out HN.out (by rw [← HM.out.2.1]; exact hi), (HSQ.out I (Nat.le_refl _)).1]
      rw [hsg2] at HX
      rw [decide_eq_true hi] at he1
      clear hi hsg2 hsg HSQ
      obtain ⟨cfm0, cfm1, cfm2, cfm3, cfm4, cfm5, ffm0, ffm1, ffm2, ffm3, ffm4, ffm5⟩ := Xfm.out
      have hnefm : gfm < v3.heap.size := World.block_lt_of_cell? v3 _ cfm0
      go_wp2_with fail
      clear cfm0 cfm1 cfm2 cfm3 cfm4 cfm5 ffm0 ffm1 ffm2 ffm3 ffm4 ffm5 hnefm
      obtain ⟨rfl, rfl⟩ := Prod.mk.inj HX.out
      go_ret2
      exact ⟨rfl, hbw⟩
    have HI := hm9 hi
    rw [decide_eq_false hi] at he1
    clear hi
    have HSG := hm9 hsg2
    clear hsg hsg2
    obtain ⟨cfm0, cfm1, cfm2, cfm3, cfm4, cfm5, ffm0, ffm1, ffm2, ffm3, ffm4, ffm5⟩ := Xfm.out
    have hnefm : gfm < v3.heap.size := World.block_lt_of_cell? v3 _ cfm0
    go_wp2_with fail
    clear cfm0 cfm1 cfm2 cfm3 cfm4 cfm5 ffm0 ffm1 ffm2 ffm3 ffm4 ffm5 hnefm
    refine (rnumber_c r (by have := HM.out.2.2; omega) _).mono ?_
    rintro en w5 (⟨hd, rfl, hb5⟩ | ⟨v, e, pv, mv, hd, rfl, hrn, hb5⟩)
    · replace Xfm : Hid _ := Xfm.out.below hb5
      replace hbw := Below.on hbw hb5
      clear hb5
      have HX : Hid ((0, 8) = (x, er)) := by rw [← HP.out]; exact (parseF_no HL.out HN.out (by rw [← HM.out.2.1]; exact HI.out) (by rw [← HM.out.2.1]; exact doc_none hd)).symm
      clear hd
      obtain ⟨cfm0, cfm1, cfm2, cfm3, cfm4, cfm5, ffm0, ffm1, ffm2, ffm3, ffm4, ffm5⟩ := Xfm.out
      have hnefm : gfm < w5.heap.size := World.block_lt_of_cell? w5 _ cfm0
      go_wp2_with fail
      clear cfm0 cfm1 cfm2 cfm3 cfm4 cfm5 ffm0 ffm1 ffm2 ffm3 ffm4 ffm5 hnefm
      obtain ⟨rfl, rfl⟩ := Prod.mk.inj HX.out
      go_ret2
      exact ⟨rfl, hbw⟩
    have HD := hm9 hd
    have HRN : Hid (RN w5 pv mv v) := hrn
    clear hd hrn
    replace Xfm : Hid _ := Xfm.out.below hb5
    replace hbw := Below.on hbw hb5
    clear hb5
    obtain ⟨cfm0, cfm1, cfm2, cfm3, cfm4, cfm5, ffm0, ffm1, ffm2, ffm3, ffm4, ffm5⟩ := Xfm.out
    have hnefm : gfm < w5.heap.size := World.block_lt_of_cell? w5 _ cfm0
    go_wp2_with fail
    clear cfm0 cfm1 cfm2 cfm3 cfm4 cfm5 ffm0 ffm1 ffm2 ffm3 ffm4 ffm5 hnefm
    obtain ⟨Z, hZ⟩ : ∃ Z, RdS E H I Be v e Z ∧ Z ≤ I := by
      obtain ⟨ds, be, ex, Ed, k1, k2, k3, k4, k5, k6⟩ := docF_v HD.out HM.out.2.2
      exact rds_ex HR.out.hs HR.out.hn HR.out.n1.1 HR.out.hsd.1 HR.out.hI (by have := HR.out.be; omega) HR.out.be.2.1 v k6 e
    have HZ := hm9 hZ
    clear hZ
    have HX : Hid ((sg + Z, 0) = (x, er) ∧ bitsN v ≤ 33000 ∧ -10000000000000 ≤ e ∧ e ≤ 10000000000000) := by
      obtain ⟨ds, be, ex, Ed, k1, k2, k3, k4, k5, k6⟩ := docF_v HD.out HM.out.2.2
      refine ⟨?_, k6, by rcases k4 with h | h | h <;> omega, by rcases k4 with h | h | h <;> omega⟩
      have h3 := rds_rnp HJ.out HR.out k4 k5 k6 (by rw [← k3]; exact HZ.out.1)
      rw [← HP.out, parseF_num HL.out HN.out (by rw [← HM.out.2.1]; exact HI.out) (by rw [← HM.out.2.1]; exact k1), (HSQ.out _ (by rw [← k2, h3]; exact HZ.out.2)).1, ← k2, h3]
    have hw1 : IntKind.u64.wrap ((S : Int) + (Z : Int)) = ((S + Z : Nat) : Int) := by have h := (HSQ.out Z HZ.out.2).2; rwa [HSG.out] at h
    rw [HSG.out] at HX
    refine (dround_all HR.out (HRN.out) HX.out.2.2.1 HX.out.2.2.2 HX.out.2.1 HZ.out.1).mono ?_
    rintro e v6 ⟨rfl, hb6⟩
    replace Xfm : Hid _ := Xfm.out.below hb6
    replace hbw := Below.on hbw hb6
    clear hb6
    obtain ⟨cfm0, cfm1, cfm2, cfm3, cfm4, cfm5, ffm0, ffm1, ffm2, ffm3, ffm4, ffm5⟩ := Xfm.out
    have hnefm : gfm < v6.heap.size := World.block_lt_of_cell? v6 _ cfm0
    go_wp2_with fail
    clear cfm0 cfm1 cfm2 cfm3 cfm4 cfm5 ffm0 ffm1 ffm2 ffm3 ffm4 ffm5 hnefm
    obtain ⟨rfl, rfl⟩ := Prod.mk.inj HX.out.1
    go_ret2
    exact ⟨rfl, hbw⟩
theorem docparse_c {f p m E : Int} {S I H sd N Q : Nat} {P G Be : Int} (J : Jn f p m E S I H sd Be) (R : Rj f S P E G I Q H sd N Be) {l : List UInt8} {x : Nat} {er : Int} (hp : parseF E sd Be S I Q l = (x, er)) {w : World} : Calls Tryz.prog 12 #[.int .i64 f, .string (bs l)] w fun en w' => en = .returned (.tuple #[U x, .int .i64 er]) ∧ Below w.heap.size w w' := by
  by_cases hl : 4000 < l.length
  · exact docparse_long R hp hl
  by_cases hn : l = [110, 97, 110]
  · exact docparse_nan R hp hl hn
  exact docparse_r J R hp hl hn
end Go.Proofs.YtglkjbkpgfencaaGreatDoor
