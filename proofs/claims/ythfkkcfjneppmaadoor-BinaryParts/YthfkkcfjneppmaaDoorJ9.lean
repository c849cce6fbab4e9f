import Derived.Test.YthfkkcfjneppmaaDoorJ8
import Derived.Deep.LoopGhost
import Derived.Shelf.Spec.TrailingZeros
import Derived.Deep.RegionWith
import Derived.Test.YthfkkcfjneppmaaDoorMem
namespace Go.Proofs.YthfkkcfjneppmaaDoor
open Go.RowKit Go.Shelf
set_option maxRecDepth 20000
set_option maxHeartbeats 0
theorem to04_f {p : Option Addr} {n : Nat} {zs : List Nat} {a : Nat} {w : World} (h : At32 w p n n zs) (hx : Nf B32 zs a) (hn : n ≤ 35184372088832) :
    Calls Tryd.prog 72 #[.agg #[.bool false, .slice p n n]] w fun e w' => ∃ g k N us, e = .returned (ZV (false && decide (0 < n)) (some ⟨g, 0, none⟩) k N) ∧ At w' (some ⟨g, 0, none⟩) k N us ∧ Nf B64 us a ∧ w.heap.size ≤ g ∧ Below w.heap.size w w' := by
  have HX : Hid (Nf B32 zs a) := hx
  clear hx
  obtain ⟨sb, esb⟩ : ∃ sb, sb = (false && decide (0 < n)) := ⟨_, rfl⟩
  rw [← esb]
  have HSB : Hid (sb = (false && decide (0 < n))) := esb
  clear esb
  go_enter Tryd.func72, Tryd.ntmps72
  go_wp2_with fail
  have B0 : Box ((w.alloc (.cells #[.bool false, .slice p n n] 99)).alloc (.cells #[.bool false, .slice none 0 0] 33)) w.heap.size (.bool false) (.slice p n n) := ⟨by go_simp, by go_simp, by go_simp, by go_simp⟩
  have B1 : Box ((w.alloc (.cells #[.bool false, .slice p n n] 99)).alloc (.cells #[.bool false, .slice none 0 0] 33)) (w.heap.size + 1) (.bool false) (.slice none 0 0) := ⟨by go_simp, by go_simp, by go_simp, by go_simp⟩
  have hbw : Below w.heap.size w ((w.alloc (.cells #[.bool false, .slice p n n] 99)).alloc (.cells #[.bool false, .slice none 0 0] 33)) := below2 w _ _
  have hsW : ((w.alloc (.cells #[.bool false, .slice p n n] 99)).alloc (.cells #[.bool false, .slice none 0 0] 33)).heap.size = w.heap.size + 1 + 1 := by simp
  generalize ((w.alloc (.cells #[.bool false, .slice p n n] 99)).alloc (.cells #[.bool false, .slice none 0 0] 33)) = W at *
  obtain ⟨hs, ehs⟩ : ∃ hs, hs = w.heap.size := ⟨_, rfl⟩
  have HHS : Hid (hs = w.heap.size) := ehs
  rw [← ehs] at B0 B1 hsW ⊢
  have HSW : Hid (W.heap.size = hs + 1 + 1) := hsW
  have HBW : Hid (Below w.heap.size w W.drew) := bDrew hbw
  have HAT : Hid (At32 W.drew p n n zs) := (h.below hbw).drewN 1
  have X0 : Hid (Box W.drew hs (.bool false) (.slice p n n)) := ⟨B0.c0, B0.c1, B0.f0, B0.f1⟩
  have X1 : Hid (Box W.drew (hs + 1) (.bool false) (.slice none 0 0)) := ⟨B1.c0, B1.c1, B1.f0, B1.f1⟩
  obtain ⟨c00, c01, f00, f01⟩ := B0
  obtain ⟨c10, c11, f10, f11⟩ := B1
  clear ehs hsW hbw h
  have HF : Hid (sb = false) := by show _ = _; rw [HSB.out]; simp
  first | (go_region_with ((go_at_call 88; refine (rto_any HAT.out hn).mono ?_; rintro e w1 ⟨g1, k1, N1, us, rfl, hg1, hA1, hnf1, hb1⟩; obtain ⟨d00, d01, e00, e01⟩ := X0.out.below hb1; obtain ⟨d10, d11, e10, e11⟩ := X1.out.below hb1; have HA1 : Hid (At w1 (some ⟨g1, 0, none⟩) k1 N1 us) := hA1; have HN1 : Hid (Nf B64 us (valB B32 zs)) := hnf1; have HB1 : Hid (Below w.heap.size w w1) := Below.on HBW.out hb1; have HG1 : Hid (hs + 1 + 1 ≤ g1) := Nat.le_trans (Nat.le_of_eq HSW.out.symm) hg1; clear hA1 hnf1 hb1 hg1))) | fail
  all_goals
    (go_wp2_with fail
     refine bodyPost_ret (v := ZV false (some ⟨g1, 0, none⟩) k1 N1) (by rw [results_cell1 rfl]; go_simp) rfl ⟨g1, k1, N1, us, by rw [HF.out], (HA1.out.setOther _ _ _ (by have := HG1.out; omega)).setOther _ _ _ (by have := HG1.out; omega), ?_, by have := HG1.out; have := HHS.out; omega, bSet (bSet HB1.out _ _ _ (by have := HHS.out; omega)) _ _ _ (by have := HHS.out; omega)⟩
     have hq := HN1.out
     rw [HX.out.val] at hq; exact hq)
theorem to04_p {p : Option Addr} {n : Nat} {zs : List Nat} {a : Nat} {w : World} (h : At32 w p n n zs) (hx : Nf B32 zs a) (hn : n ≤ 35184372088832) (h0 : 0 < n) :
    Calls Tryd.prog 72 #[.agg #[.bool true, .slice p n n]] w fun e w' => ∃ g k N us, e = .returned (ZV (true && decide (0 < n)) (some ⟨g, 0, none⟩) k N) ∧ At w' (some ⟨g, 0, none⟩) k N us ∧ Nf B64 us a ∧ w.heap.size ≤ g ∧ Below w.heap.size w w' := by
  have HX : Hid (Nf B32 zs a) := hx
  clear hx
  obtain ⟨sb, esb⟩ : ∃ sb, sb = (true && decide (0 < n)) := ⟨_, rfl⟩
  rw [← esb]
  have HSB : Hid (sb = (true && decide (0 < n))) := esb
  clear esb
  go_enter Tryd.func72, Tryd.ntmps72
  go_wp2_with fail
  have B0 : Box ((w.alloc (.cells #[.bool true, .slice p n n] 99)).alloc (.cells #[.bool false, .slice none 0 0] 33)) w.heap.size (.bool true) (.slice p n n) := ⟨by go_simp, by go_simp, by go_simp, by go_simp⟩
  have B1 : Box ((w.alloc (.cells #[.bool true, .slice p n n] 99)).alloc (.cells #[.bool false, .slice none 0 0] 33)) (w.heap.size + 1) (.bool false) (.slice none 0 0) := ⟨by go_simp, by go_simp, by go_simp, by go_simp⟩
  have hbw : Below w.heap.size w ((w.alloc (.cells #[.bool true, .slice p n n] 99)).alloc (.cells #[.bool false, .slice none 0 0] 33)) := below2 w _ _
  have hsW : ((w.alloc (.cells #[.bool true, .slice p n n] 99)).alloc (.cells #[.bool false, .slice none 0 0] 33)).heap.size = w.heap.size + 1 + 1 := by simp
  generalize ((w.alloc (.cells #[.bool true, .slice p n n] 99)).alloc (.cells #[.bool false, .slice none 0 0] 33)) = W at *
  obtain ⟨hs, ehs⟩ : ∃ hs, hs = w.heap.size := ⟨_, rfl⟩
  have HHS : Hid (hs = w.heap.size) := ehs
  rw [← ehs] at B0 B1 hsW ⊢
  have HSW : Hid (W.heap.size = hs + 1 + 1) := hsW
  have HBW : Hid (Below w.heap.size w W.drew) := bDrew hbw
  have HAT : Hid (At32 W.drew p n n zs) := (h.below hbw).drewN 1
  have X0 : Hid (Box W.drew hs (.bool true) (.slice p n n)) := ⟨B0.c0, B0.c1, B0.f0, B0.f1⟩
  have X1 : Hid (Box W.drew (hs + 1) (.bool false) (.slice none 0 0)) := ⟨B1.c0, B1.c1, B1.f0, B1.f1⟩
  obtain ⟨c00, c01, f00, f01⟩ := B0
  obtain ⟨c10, c11, f10, f11⟩ := B1
  clear ehs hsW hbw h
  have HF : Hid (sb = true) := by show _ = _; rw [HSB.out]; simp [h0]
  have hd0 : decide ((0 : Int) < (n : Int)) = true := decide_eq_true (by omega)
  first | (go_region_with ((go_at_call 88; refine (rto_any HAT.out hn).mono ?_; rintro e w1 ⟨g1, k1, N1, us, rfl, hg1, hA1, hnf1, hb1⟩; obtain ⟨d00, d01, e00, e01⟩ := X0.out.below hb1; obtain ⟨d10, d11, e10, e11⟩ := X1.out.below hb1; have HA1 : Hid (At w1 (some ⟨g1, 0, none⟩) k1 N1 us) := hA1; have HN1 : Hid (Nf B64 us (valB B32 zs)) := hnf1; have HB1 : Hid (Below w.heap.size w w1) := Below.on HBW.out hb1; have HG1 : Hid (hs + 1 + 1 ≤ g1) := Nat.le_trans (Nat.le_of_eq HSW.out.symm) hg1; clear hA1 hnf1 hb1 hg1))) | fail
  all_goals
    (go_wp2_with fail
     refine bodyPost_ret (v := ZV true (some ⟨g1, 0, none⟩) k1 N1) (by rw [results_cell1 rfl]; go_simp) rfl ⟨g1, k1, N1, us, by rw [HF.out], (HA1.out.setOther _ _ _ (by have := HG1.out; omega)).setOther _ _ _ (by have := HG1.out; omega), ?_, by have := HG1.out; have := HHS.out; omega, bSet (bSet HB1.out _ _ _ (by have := HHS.out; omega)) _ _ _ (by have := HHS.out; omega)⟩
     have hq := HN1.out
     rw [HX.out.val] at hq; exact hq)
def Told (z : Int) (s : Bool) (m : Nat) (zs : List Nat) (er : Int) : Prop :=
  (z.natAbs < LIM ∧ s = decide (z < 0) ∧ Nf B64 zs z.natAbs ∧ m ≤ 8192 ∧ er = 0) ∨ (LIM ≤ z.natAbs ∧ s = false ∧ zs = [] ∧ m = 0 ∧ er = 5)
theorem AnsI.any {B : Nat} {w' : World} {e : Ending} {z : Int} (h : AnsI B w' e z) : ∃ s p m zs er, e = .returned (.tuple #[ZV s p m m, .int .i64 er]) ∧ At w' p m m zs ∧ Told z s m zs er := by
  rcases h with ⟨hz, p, m, zs, rfl, ho, hn, hm⟩ | ⟨hz, rfl⟩
  · exact ⟨_, p, m, zs, 0, rfl, ho.at_ hm, .inl ⟨hz, rfl, hn, hm, rfl⟩⟩
  · exact ⟨false, none, 0, [], 5, rfl, At.empty _ none 0 (by decide), .inr ⟨hz, rfl, rfl, rfl, rfl⟩⟩
theorem Told.inj {z : Int} {s s' : Bool} {m m' : Nat} {zs zs' : List Nat} {er er' : Int} (h : Told z s m zs er) (k : Told z s' m' zs' er') : s = s' ∧ zs = zs' ∧ er = er' := by
  rcases h with ⟨hz, rfl, hn, hm, rfl⟩ | ⟨hz, rfl, rfl, rfl, rfl⟩ <;> rcases k with ⟨kz, rfl, kn, km, rfl⟩ | ⟨kz, rfl, rfl, rfl, rfl⟩
  · exact ⟨rfl, hn.inj B64_one kn, rfl⟩
  · omega
  · omega
  · exact ⟨rfl, rfl, rfl⟩
theorem Told.er {z : Int} {s : Bool} {m : Nat} {zs : List Nat} {er : Int} (h : Told z s m zs er) : er = 0 ∨ er = 5 := by
  rcases h with ⟨_, _, _, _, rfl⟩ | ⟨_, _, _, _, rfl⟩
  · exact .inl rfl
  · exact .inr rfl
theorem Told.ok {z : Int} {s : Bool} {m : Nat} {zs : List Nat} {w : World} {p : Option Addr} (h : Told z s m zs 0) (a : At w p m m zs) : Num w p m m zs z.natAbs ∧ s = decide (z < 0) := by
  rcases h with ⟨_, h1, h2, h3, _⟩ | ⟨_, _, _, _, h⟩
  · exact ⟨⟨a, h2, h3⟩, h1⟩
  · exact absurd h (by decide)
theorem Told.no {z : Int} {s : Bool} {m : Nat} {zs : List Nat} (h : Told z s m zs 5) : LIM ≤ z.natAbs := by
  rcases h with ⟨_, _, _, _, h⟩ | ⟨h, _⟩
  · exact absurd h (by decide)
  · exact h
theorem iv_abs (z : Int) : iv (decide (z < 0)) z.natAbs = z := by
  unfold iv
  by_cases h : z < 0
  · simp only [h, decide_true, if_true]; omega
  · simp only [h, decide_false, Bool.false_eq_true, if_false]; omega
theorem iv_natAbs (s : Bool) (a : Nat) : (iv s a).natAbs = a := by cases s <;> simp [iv]
theorem sgn_pos (z : Int) : decide (z < 0) = true → 0 < z.natAbs := by intro h; have := of_decide_eq_true h; omega

theorem to04_any {p : Option Addr} {n : Nat} {zs : List Nat} {a : Nat} {w : World} (b : Bool) (h : At32 w p n n zs) (hx : Nf B32 zs a) (hn : n ≤ 35184372088832) (h0 : b = true → 0 < n) :
    Calls Tryd.prog 72 #[.agg #[.bool b, .slice p n n]] w fun e w' => ∃ g k N us, e = .returned (ZV b (some ⟨g, 0, none⟩) k N) ∧ At w' (some ⟨g, 0, none⟩) k N us ∧ Nf B64 us a ∧ w.heap.size ≤ g ∧ Below w.heap.size w w' := by
  cases b
  · exact to04_f h hx hn
  · have := to04_p h hx hn (h0 rfl)
    rwa [decide_eq_true (h0 rfl)] at this
-- the document's side
theorem nf32_lt {zs : List Nat} {v K : Nat} (h : Nf B32 zs v) (hl : zs.length ≤ K) : v < B32 ^ K := by
  rw [← h.val]
  exact Nat.lt_of_lt_of_le (valB_lt B32_pos h.dig) (Nat.pow_le_pow_right B32_pos hl)
theorem B32_pow (k : Nat) : B32 ^ k = 2 ^ (32 * k) := by rw [show B32 = 2 ^ 32 from rfl, ← Nat.pow_mul]
theorem bitsN_list32 {us : List Nat} {m x : Nat} (hd : Dig B32 us) (ht : Top us) (hl : us.length = m) (hm : m ≠ 0) (hx : x = us.getD (m - 1) 0) : bitsN (valB B32 us) = 32 * (m - 1) + bitsN x := by
  have h1 := valB_lt B32_pos (hd.take (m - 1))
  rw [List.length_take, hl, Nat.min_eq_left (by omega), B32_pow] at h1
  have hx0 : x ≠ 0 := by
    rw [hx]
    refine ht _ ?_
    rw [List.getLast?_eq_getElem?, hl, List.getD_eq_getElem?_getD, List.getElem?_eq_getElem (by omega)]; rfl
  have e : valB B32 us = valB B32 (us.take (m - 1)) + B32 ^ (m - 1) * x := by
    have := valB_take_succ B32 us (m - 1) (by omega)
    rw [show m - 1 + 1 = m by omega, List.take_of_length_le (by omega), ← hx] at this
    exact this
  rw [e, B32_pow]
  exact bitsN_top h1 (bitsN_lt x) (bitsN_le x hx0) (by unfold bitsN; rw [if_neg hx0]; omega)
theorem half_int (g : Nat) : (g : Int).tdiv 2 = ((g / 2 : Nat) : Int) := by
  rw [Int.tdiv_eq_ediv_of_nonneg (Int.natCast_nonneg g)]; omega

theorem rbits_any {p : Option Addr} {n c : Nat} {zs : List Nat} {v : Nat} {w : World} (h : At32 w p n c zs) (hx : Nf B32 zs v) (hn : n ≤ 35184372088832) :
    Calls Tryd.prog 91 #[.slice p n c] w fun e w' => e = .returned (.int .i64 (bitsN v)) ∧ w' = w := by
  have hl := h.len; have hcap := h.cap; have hbig := h.big
  unfold maxLen at hbig
  by_cases h0 : n = 0
  · subst h0
    have hv : v = 0 := by rw [← hx.val]; rw [List.eq_nil_of_length_eq_zero hl]; rfl
    subst hv
    clear hx
    go_enter Tryd.func91, Tryd.ntmps91
    go_wp2_with fail
    go_ret
    exact ⟨rfl, rfl⟩
  · obtain ⟨g, off, rfl, hc⟩ := h.cells.resolve_left h0
    obtain ⟨x, hx0⟩ : ∃ x, x = zs.getD (n - 1) 0 := ⟨_, rfl⟩
    have hcx : w.cell? ⟨g, off + (n - 1), none⟩ = some (V x) := by rw [hx0]; exact hc _ (by omega)
    have hxl : x < B32 := by
      rw [hx0, List.getD_eq_getElem?_getD, List.getElem?_eq_getElem (by omega)]
      exact h.dig _ (List.getElem_mem _)
    obtain ⟨T, hT⟩ : ∃ T, T = 32 * (n - 1) + bitsN x := ⟨_, rfl⟩
    have HT : Hid (bitsN v = T) := by show _ = _; rw [← hx.val, hT]; exact bitsN_list32 hx.dig hx.top hl h0 hx0
    have HX : Hid (x < B32) := hxl
    have HTT : Hid (T = 32 * (n - 1) + bitsN x) := hT
    obtain ⟨M, hM⟩ : ∃ M, M = n - 1 := ⟨_, rfl⟩
    have hn1 : (n : Int) - 1 = (M : Int) := by omega
    have h0' : ((n : Int) == 0) = false := by simp; omega
    rw [← hM] at hcx
    have HM : Hid (M = n - 1) := hM
    have hMl : M < n := by omega
    clear hx hl hc hx0 hxl hT h hM
    go_enter Tryd.func91, Tryd.ntmps91
    go_wp2_with fail
    have hTb : T ≤ 1200000000000000 := by
      have h1 := HTT.out
      have h2 : bitsN x ≤ 32 := by
        rcases Nat.lt_or_ge 32 (bitsN x) with e | e
        · exfalso
          have h3 : x ≠ 0 := by intro e0; rw [e0, bitsN_zero] at e; omega
          have h4 := bitsN_le x h3
          have h5 : (2:Nat) ^ 32 ≤ 2 ^ (bitsN x - 1) := Nat.pow_le_pow_right (by decide) (by omega)
          have h6 := HX.out
          rw [B32_eq] at h6
          omega
        · exact e
      omega
    go_loopg [3, 4] x (fun gk nv wv wr => ∃ N : Nat, nv = .int .i64 N ∧ wv = .int .u32 gk ∧ N + bitsN gk = T ∧ gk < B32 ∧ wr = w)
    case atStart => exact ⟨32 * M, by first | rfl | (congr 1; omega) | (simp; omega), rfl, by rw [HTT.out, HM.out], HX.out, rfl⟩
    case round =>
      obtain ⟨N, rfl, rfl, hNT, hgB, hwr⟩ := hrel
      obtain rfl := hwr.symm
      clear hwr
      by_cases hg0 : gk = 0
      · subst hg0
        rw [bitsN_zero] at hNT
        have HNT : Hid (N = T) := by show _ = _; omega
        clear hNT hgB
        go_wp2_with fail
        go_ret
        exact ⟨by rw [HT.out, ← HNT.out]; rfl, rfl⟩
      · have hb := bitsN_half gk hg0
        have hN1 : N + 1 ≤ 1200000000000000 := by omega
        have hgp : (0 : Int) < (gk : Int) := by omega
        have hh := half_int gk
        obtain ⟨k2, hk2⟩ : ∃ k2, k2 = gk / 2 := ⟨_, rfl⟩
        rw [← hk2] at hh hb
        have HK2 : Hid (k2 < gk ∧ N + 1 + bitsN k2 = T ∧ k2 < B32) := ⟨by omega, by omega, by omega⟩
        have hw2 : IntKind.u32.wrap (k2 : Int) = (k2 : Int) := wrap32 k2 (by omega)
        clear hb hNT hgB hk2 hg0
        go_wp2_with fail
        go_roundg k2
        case measure => exact HK2.out.1
        case rel => exact ⟨N + 1, by first | rfl | simp, by first | rfl | simp, HK2.out.2.1, HK2.out.2.2, rfl⟩

def DocIs (v : Nat) (us : List Nat) (f : Int) : Prop := (v < LIM ∧ Nf B64 us v ∧ f = 0) ∨ (LIM ≤ v ∧ us = [] ∧ f = 5)
theorem digit_bit {b e : Nat} (hb : b = 2 ^ e) {xs : List Nat} (hd : Dig b xs) {D R : Nat} (hD : D < xs.length) (hR : R < e) : xs.getD D 0 / 2 ^ R % 2 = valB b xs / 2 ^ (e * D + R) % 2 := by
  have hbp : 0 < b := by rw [hb]; exact Nat.pow_pos (by decide)
  have h1 : valB b (xs.drop D) = valB b xs / b ^ D := by
    have h2 := valB_split b xs D (Nat.le_of_lt hD)
    have h3 := valB_lt hbp (hd.take D)
    rw [List.length_take, Nat.min_eq_left (Nat.le_of_lt hD)] at h3
    rw [h2, Nat.add_mul_div_left _ _ (Nat.pow_pos hbp), Nat.div_eq_of_lt h3, Nat.zero_add]
  have h4 := valB_drop b xs D hD
  have h5 : b ^ D = 2 ^ (e * D) := by rw [hb, ← Nat.pow_mul]
  rw [Nat.pow_add, ← Nat.div_div_eq_div_mul, ← h5, ← h1, h4]
  obtain ⟨k, hk⟩ : ∃ k, e = R + 1 + k := ⟨e - R - 1, by omega⟩
  have h6 : b = 2 ^ R * (2 * 2 ^ k) := by rw [hb, hk, Nat.pow_add, Nat.pow_add, Nat.pow_one, Nat.mul_assoc]
  rw [h6, Nat.mul_assoc (2 ^ R), Nat.add_mul_div_left _ _ (Nat.pow_pos (by decide)), Nat.mul_assoc 2, Nat.add_mul_mod_self_left]
theorem and_one_u64q (i : Nat) (_hi : i < B64) : bits BinOp.and IntKind.u64 (i : Int) 1 = ((i % 2 : Nat) : Int) := by
  have h1 : (BitVec.ofInt 64 1).toNat = 2 ^ 1 - 1 := by decide
  have key : (BitVec.ofInt 64 (i : Int) &&& BitVec.ofInt 64 1).toNat = ((i : Int) % ((2 ^ 64 : Nat) : Int)).toNat % 2 ^ 1 := by
    rw [BitVec.toNat_and, BitVec.toNat_ofInt, h1, Nat.and_two_pow_sub_one_eq_mod]
  show IntKind.u64.wrap ((BitVec.ofInt 64 (i : Int) &&& BitVec.ofInt 64 1).toNat : Nat) = _
  rw [key]
  simp only [IntKind.wrap, IntKind.signed, IntKind.bits]
  simp
  omega

theorem bit_any {p : Option Addr} {n c : Nat} {xs : List Nat} {w : World} (h : At w p n c xs) (_hn : n ≤ 17592186044416) (i : Nat) (hi : i ≤ 9223372036854775807) :
    Calls Tryd.prog 85 #[.slice p n c, .int .i64 i] w fun e w' => e = .returned (.bool (decide (valB B64 xs / 2 ^ i % 2 = 1))) ∧ w' = w := by
  have hl := h.len
  have cap := h.cap
  have big := h.big
  unfold maxLen at big
  obtain ⟨D, hD⟩ : ∃ D, D = i / 64 := ⟨_, rfl⟩
  obtain ⟨R, hR⟩ : ∃ R, R = i % 64 := ⟨_, rfl⟩
  have d1 : (i : Int).tdiv 64 = (D : Int) := by rw [Int.tdiv_eq_ediv_of_nonneg (by omega)]; omega
  have d2 : (i : Int).tmod 64 = (R : Int) := by rw [Int.tmod_eq_emod_of_nonneg (by omega)]; omega
  have hneg : ¬ (i : Int) < 0 := by omega
  have hDb : D ≤ 144115188075855871 := by omega
  have hR64 : R < 64 := by omega
  have hei : i = 64 * D + R := by omega
  obtain ⟨r, hr⟩ : ∃ r, r = decide (valB B64 xs / 2 ^ i % 2 = 1) := ⟨_, rfl⟩
  rw [← hr]
  by_cases hc : n ≤ D
  · have HR0 : Hid (r = false) := by
      show _ = _
      rw [hr]
      refine decide_eq_false ?_
      have h1 : valB B64 xs < 2 ^ i := by
        have h2 := valB_lt B64_pos h.dig
        rw [hl] at h2
        refine Nat.lt_of_lt_of_le h2 ?_
        rw [B64_pow]
        exact Nat.pow_le_pow_right (by decide) (by omega)
      rw [Nat.div_eq_of_lt h1]
      decide
    have hci : (n : Int) ≤ (D : Int) := by omega
    have hcb : decide (n ≤ D) = true := decide_eq_true hc
    clear hr hei hD hR h hl
    go_enter Tryd.func85, Tryd.ntmps85
    go_wp2_with fail
    go_ret
    exact ⟨by rw [HR0.out]; rfl, rfl⟩
  · have hDn : D < n := by omega
    have hcb : decide (n ≤ D) = false := decide_eq_false hc
    obtain ⟨g, off, rfl, hcs⟩ := h.cells.resolve_left (by omega)
    obtain ⟨x, hx⟩ : ∃ x, x = xs.getD D 0 := ⟨_, rfl⟩
    have hcx : w.cell? ⟨g, off + D, none⟩ = some (U x) := by rw [hx]; exact hcs D hDn
    have hxb : x < B64 := by rw [hx]; exact h.dig.getD B64_pos D
    obtain ⟨y, hy⟩ : ∃ y, y = x / 2 ^ R := ⟨_, rfl⟩
    have hyI : (x : Int) / 2 ^ R = (y : Int) := by rw [hy]; norm_cast
    have hyb : y < B64 := by rw [hy]; exact Nat.lt_of_le_of_lt (Nat.div_le_self _ _) hxb
    obtain ⟨z, hz⟩ : ∃ z, z = y % 2 := ⟨_, rfl⟩
    have hand : bits BinOp.and IntKind.u64 (y : Int) 1 = (z : Int) := by rw [hz]; exact and_one_u64q y hyb
    have HR1 : Hid (r = decide (z = 1)) := by
      show _ = _
      rw [hr, hz, hy, hx, digit_bit B64_two_pow h.dig (by rw [hl]; exact hDn) hR64, ← hei]
    have hwD : IntKind.i64.wrap (D : Int) = (D : Int) := by simp [IntKind.wrap, IntKind.signed, IntKind.bits]; omega
    clear hr hei hD hR h hl hcs hx hy hz hxb hyb
    go_enter Tryd.func85, Tryd.ntmps85
    go_wp2_with fail
    go_ret
    have hzz : ((z : Int) == 1) = decide (z = 1) := by rw [Bool.eq_iff_iff]; simp; omega
    exact ⟨by rw [HR1.out, ← hzz]; rfl, rfl⟩
theorem and_one_u32q (i : Nat) (_hi : i < B32) : bits BinOp.and IntKind.u32 (i : Int) 1 = ((i % 2 : Nat) : Int) := by
  have h1 : (BitVec.ofInt 32 1).toNat = 2 ^ 1 - 1 := by decide
  have key : (BitVec.ofInt 32 (i : Int) &&& BitVec.ofInt 32 1).toNat = ((i : Int) % ((2 ^ 32 : Nat) : Int)).toNat % 2 ^ 1 := by
    rw [BitVec.toNat_and, BitVec.toNat_ofInt, h1, Nat.and_two_pow_sub_one_eq_mod]
  show IntKind.u32.wrap ((BitVec.ofInt 32 (i : Int) &&& BitVec.ofInt 32 1).toNat : Nat) = _
  rw [key]
  simp only [IntKind.wrap, IntKind.signed, IntKind.bits]
  simp
  omega
theorem rbit_any {p : Option Addr} {n c : Nat} {xs : List Nat} {w : World} (h : At32 w p n c xs) (_hn : n ≤ 35184372088832) (i : Nat) (hi : i ≤ 9223372036854775807) :
    Calls Tryd.prog 87 #[.slice p n c, .int .i64 i] w fun e w' => e = .returned (.int .i64 (valB B32 xs / 2 ^ i % 2 : Nat)) ∧ w' = w := by
  have hl := h.len
  have cap := h.cap
  have big := h.big
  unfold maxLen at big
  obtain ⟨D, hD⟩ : ∃ D, D = i / 32 := ⟨_, rfl⟩
  obtain ⟨R, hR⟩ : ∃ R, R = i % 32 := ⟨_, rfl⟩
  have d1 : (i : Int).tdiv 32 = (D : Int) := by rw [Int.tdiv_eq_ediv_of_nonneg (by omega)]; omega
  have d2 : (i : Int).tmod 32 = (R : Int) := by rw [Int.tmod_eq_emod_of_nonneg (by omega)]; omega
  have hneg : ¬ (i : Int) < 0 := by omega
  have hDb : D ≤ 288230376151711743 := by omega
  have hR64 : R < 32 := by omega
  have hei : i = 32 * D + R := by omega
  obtain ⟨r, hr⟩ : ∃ r, r = valB B32 xs / 2 ^ i % 2 := ⟨_, rfl⟩
  rw [← hr]
  by_cases hc : n ≤ D
  · have HR0 : Hid (r = 0) := by
      show _ = _
      rw [hr]
      have h1 : valB B32 xs < 2 ^ i := by
        have h2 := valB_lt B32_pos h.dig
        rw [hl] at h2
        refine Nat.lt_of_lt_of_le h2 ?_
        rw [B32_pow]
        exact Nat.pow_le_pow_right (by decide) (by omega)
      rw [Nat.div_eq_of_lt h1]
    have hci : (n : Int) ≤ (D : Int) := by omega
    have hcb : decide (n ≤ D) = true := decide_eq_true hc
    clear hr hei hD hR h hl
    go_enter Tryd.func87, Tryd.ntmps87
    go_wp2_with fail
    go_ret
    exact ⟨by rw [HR0.out]; rfl, rfl⟩
  · have hDn : D < n := by omega
    have hcb : decide (n ≤ D) = false := decide_eq_false hc
    obtain ⟨g, off, rfl, hcs⟩ := h.cells.resolve_left (by omega)
    obtain ⟨x, hx⟩ : ∃ x, x = xs.getD D 0 := ⟨_, rfl⟩
    have hcx : w.cell? ⟨g, off + D, none⟩ = some (V x) := by rw [hx]; exact hcs D hDn
    have hxb : x < B32 := by rw [hx]; exact h.dig.getD B32_pos D
    obtain ⟨y, hy⟩ : ∃ y, y = x / 2 ^ R := ⟨_, rfl⟩
    have hyI : (x : Int) / 2 ^ R = (y : Int) := by rw [hy]; norm_cast
    have hyb : y < B32 := by rw [hy]; exact Nat.lt_of_le_of_lt (Nat.div_le_self _ _) hxb
    obtain ⟨z, hz⟩ : ∃ z, z = y % 2 := ⟨_, rfl⟩
    have hand : bits BinOp.and IntKind.u32 (y : Int) 1 = (z : Int) := by rw [hz]; exact and_one_u32q y hyb
    have HR1 : Hid (r = z) := by
      show _ = _
      rw [hr, hz, hy, hx, digit_bit (show B32 = 2 ^ 32 from rfl) h.dig (by rw [hl]; exact hDn) hR64, ← hei]
    have hz2 : z < 2 := by omega
    have hzw : IntKind.i64.wrap (z : Int) = (z : Int) := by simp [IntKind.wrap, IntKind.signed, IntKind.bits]; omega
    have hwD : IntKind.i64.wrap (D : Int) = (D : Int) := by simp [IntKind.wrap, IntKind.signed, IntKind.bits]; omega
    clear hr hei hD hR h hl hcs hx hy hz hxb hyb
    go_enter Tryd.func87, Tryd.ntmps87
    go_wp2_with fail
    go_ret
    exact ⟨by rw [HR1.out]; rfl, rfl⟩
def TzIs (v k : Nat) : Prop := v % 2 ^ k = 0 ∧ v / 2 ^ k % 2 = 1
theorem TzIs.inj {v k l : Nat} (h : TzIs v k) (h' : TzIs v l) : k = l := by
  have aux : ∀ {a b : Nat}, TzIs v a → TzIs v b → ¬ a < b := by
    intro a b ha hb hab
    obtain ⟨d, hd⟩ : ∃ d, b = a + (d + 1) := ⟨b - a - 1, by omega⟩
    have h1 := Nat.dvd_of_mod_eq_zero hb.1
    obtain ⟨q, hq⟩ := h1
    have h2 := ha.2
    rw [hq, hd, Nat.pow_add, Nat.mul_assoc, Nat.mul_div_cancel_left _ (Nat.pow_pos (by decide)), Nat.pow_succ, Nat.mul_comm (2 ^ d) 2, Nat.mul_assoc, Nat.mul_mod_right] at h2
    exact absurd h2 (by decide)
  rcases Nat.lt_trichotomy k l with e | e | e
  · exact absurd e (aux h h')
  · exact e
  · exact absurd e (aux h' h)
theorem TzIs.ex : ∀ (v : Nat), 0 < v → ∃ k, TzIs v k := by
  intro v
  induction v using Nat.strongRecOn with
  | _ v ih =>
    intro hv
    rcases Nat.mod_two_eq_zero_or_one v with h | h
    · obtain ⟨k, h1, h2⟩ := ih (v / 2) (by omega) (by omega)
      refine ⟨k + 1, ?_, ?_⟩
      · rw [Nat.pow_succ, Nat.mul_comm, Nat.mod_mul, h, h1]
      · rw [Nat.pow_succ, Nat.mul_comm, ← Nat.div_div_eq_div_mul]; exact h2
    · exact ⟨0, by rw [Nat.pow_zero, Nat.mod_one], by rw [Nat.pow_zero, Nat.div_one]; exact h⟩
theorem TzIs.ge {v k n : Nat} (h : TzIs v k) (hn : v % 2 ^ n = 0) : n ≤ k := by
  rcases Nat.lt_or_ge k n with e | e
  · exfalso
    obtain ⟨d, hd⟩ : ∃ d, n = k + (d + 1) := ⟨n - k - 1, by omega⟩
    obtain ⟨q, hq⟩ := Nat.dvd_of_mod_eq_zero hn
    have h2 := h.2
    rw [hq, hd, Nat.pow_add, Nat.mul_assoc, Nat.mul_div_cancel_left _ (Nat.pow_pos (by decide)), Nat.pow_succ, Nat.mul_comm (2 ^ d) 2, Nat.mul_assoc, Nat.mul_mod_right] at h2
    exact absurd h2 (by decide)
  · exact e
theorem tz_step {v n : Nat} (h : v % 2 ^ n = 0) (hb : v / 2 ^ n % 2 = 0) : v % 2 ^ (n + 1) = 0 := by
  rw [Nat.pow_succ, Nat.mod_mul, h, hb, Nat.mul_zero]

theorem rzeros_any {p : Option Addr} {n c : Nat} {xs : List Nat} {v k : Nat} {w : World} (h : At32 w p n c xs) (hx : Nf B32 xs v) (hn : n ≤ 35184372088832) (hk : TzIs v k) (hv : 0 < v) :
    Calls Tryd.prog 71 #[.slice p n c] w fun e w' => e = .returned (.int .i64 k) ∧ w' = w := by
  have HX : Hid (Nf B32 xs v) := hx
  have HA : Hid (At32 w p n c xs) := h
  have HK : Hid (TzIs v k) := hk
  have HV : Hid (0 < v) := hv
  have hl := h.len
  have cap := h.cap
  have big := h.big
  unfold maxLen at big
  have hn0 : 0 < n := by
    rcases Nat.eq_zero_or_pos n with e | e
    · exfalso
      rw [e] at hl
      have := hx.val
      rw [List.eq_nil_of_length_eq_zero hl] at this
      simp [valB] at this
      omega
    · exact e
  have hkb : k < 32 * n := by
    rcases Nat.lt_or_ge k (32 * n) with e | e
    · exact e
    · exfalso
      have h1 : v < 2 ^ k := by
        have h2 := valB_lt B32_pos hx.dig
        rw [hx.val, hl, B32_pow] at h2
        exact Nat.lt_of_lt_of_le h2 (Nat.pow_le_pow_right (by decide) e)
      have h3 := hk.2
      rw [Nat.div_eq_of_lt h1] at h3
      exact absurd h3 (by decide)
  have hne : ((n : Int) == 0) = false := by simp; omega
  have HL : Hid (xs.length = n) := hl
  obtain ⟨g, off, rfl, hcs⟩ := h.cells.resolve_left (by omega)
  have HCS : Hid (∀ j, j < n → w.cell? ⟨g, off + j, none⟩ = some (V (xs.getD j 0))) := hcs
  clear hx h hk hv hl hcs
  go_enter Tryd.func71, Tryd.ntmps71
  go_wp2_with fail
  go_loopg [3] n (fun gk nv wr => ∃ j M : Nat, j + gk = n ∧ nv = .int .i64 M ∧ M = 32 * j ∧ Hid (valB B32 (xs.take j) = 0) ∧ wr = w)
  case atStart => exact ⟨0, 0, by omega, rfl, rfl, by show _ = _; simp [valB], rfl⟩
  case round =>
    obtain ⟨j, M, hjg, rfl, hMj, HZ, hwr⟩ := hrel
    obtain rfl := hwr.symm
    clear hwr
    cases gk with
    | zero =>
      exfalso
      obtain rfl : j = n := by omega
      have h1 := HZ.out
      rw [List.take_of_length_le (by rw [HL.out]; omega), HX.out.val] at h1
      have h2 := HV.out
      omega
    | succ gg =>
      have hjn : j < n := by omega
      obtain ⟨x, hx⟩ : ∃ x, x = xs.getD j 0 := ⟨_, rfl⟩
      have hcx : w.cell? ⟨g, off + j, none⟩ = some (V x) := by rw [hx]; exact HCS.out j hjn
      have d1 : (M : Int).tdiv 32 = (j : Int) := by rw [Int.tdiv_eq_ediv_of_nonneg (by omega)]; omega
      have hjI : (j : Int) < (n : Int) := by omega
      have hwj : IntKind.i64.wrap (j : Int) = (j : Int) := by simp [IntKind.wrap, IntKind.signed, IntKind.bits]; omega
      have hMb : M ≤ 1125899906842624 := by omega
      have hjb : j ≤ 35184372088832 := by omega
      have HMj : Hid (M = 32 * j) := hMj
      clear hMj
      by_cases hx0 : x = 0
      · have HZ1 : Hid (valB B32 (xs.take (j + 1)) = 0) := by
          show _ = _
          rw [valB_take_any, HZ.out, ← hx, hx0, Nat.mul_zero]
        subst hx0
        clear hx HZ
        go_wp2_with fail
        go_roundg gg
        case measure => omega
        case rel => exact ⟨j + 1, M + 32, by omega, by go_num, by have := HMj.out; omega, HZ1, rfl⟩
      · have hxI : ((x : Int) == 0) = false := by simp; omega
        have HM0 : Hid (v % 2 ^ M = 0) := by
          show _ = _
          have h1 := valB_split B32 xs j (by rw [HL.out]; omega)
          rw [HMj.out, ← B32_pow, ← HX.out.val, h1, HZ.out, Nat.zero_add, Nat.mul_mod_right]
        have hMk : M ≤ k := HK.out.ge HM0.out
        clear hx HZ
        go_wp2_with fail
        go_loopg [3] (k - M) (fun gm nv wr => ∃ m : Nat, nv = .int .i64 m ∧ m + gm = k ∧ Hid (v % 2 ^ m = 0) ∧ wr = w)
        case atStart => exact ⟨M, rfl, by omega, HM0, rfl⟩
        case round =>
          obtain ⟨m, rfl, hmk, HB, hwr⟩ := hrel
          obtain rfl := hwr.symm
          clear hwr
          have hmb : m ≤ 1125899906842624 := by omega
          cases gk with
          | zero =>
            obtain rfl : m = k := by omega
            have hb1 := HK.out.2
            go_wp2_with fail
            refine (rbit_any HA.out hn m (by omega)).mono ?_
            rintro e w1 ⟨rfl, hw⟩
            rw [HX.out.val, hb1]
            obtain rfl := hw.symm
            clear hw hb1
            go_wp2_with fail
            go_ret
            exact ⟨rfl, rfl⟩
          | succ gg2 =>
            have hb0 : v / 2 ^ m % 2 = 0 := by
              rcases Nat.mod_two_eq_zero_or_one (v / 2 ^ m) with e | e
              · exact e
              · have := HK.out.inj ⟨HB.out, e⟩; omega
            have HB1 : Hid (v % 2 ^ (m + 1) = 0) := tz_step HB.out hb0
            go_wp2_with fail
            refine (rbit_any HA.out hn m (by omega)).mono ?_
            rintro e w1 ⟨rfl, hw⟩
            rw [HX.out.val, hb0]
            obtain rfl := hw.symm
            clear hw hb0
            go_wp2_with fail
            go_roundg gg2
            case measure => omega
            case rel => exact ⟨m + 1, by go_num, by omega, HB1, rfl⟩
def renTz : Ren := ⟨fun x => match x with | 29 => 14 | n => n, fun x => match x with | 0 => 0 | 3 => 3 | 4 => 4 | 5 => 5 | 22 => 26 | 25 => 79 | 54 => 78 | n => n, fun x => match x with | 1 => 0 | n => n⟩
theorem laysTz : Lays7.n29 Tryd.prog renTz :=
  { mixed := by kernel_rfl, f29 := Tryd.func14.trans (congrArg some (by kernel_rfl)),
    t0 := by kernel_rfl, a0 := fun w => by kernel_rfl, z0 := fun w => by kernel_rfl, v0 := fun w => by kernel_rfl, i0 := by kernel_rfl,
    t3 := Tryd.underlying3, a3 := Tryd.isAgg3, z3 := Tryd.sizeOf3, v3 := Tryd.zeroValue3, i3 := by kernel_rfl,
    t4 := Tryd.underlying4, a4 := Tryd.isAgg4, z4 := Tryd.sizeOf4, v4 := Tryd.zeroValue4, i4 := by kernel_rfl,
    t5 := Tryd.underlying5, a5 := Tryd.isAgg5, z5 := Tryd.sizeOf5, v5 := Tryd.zeroValue5, i5 := by kernel_rfl,
    t22 := Tryd.underlying26, a22 := Tryd.isAgg26, z22 := Tryd.sizeOf26, v22 := Tryd.zeroValue26, i22 := by kernel_rfl,
    t25 := Tryd.underlying79, a25 := Tryd.isAgg79, z25 := Tryd.sizeOf79, v25 := Tryd.zeroValue79, i25 := by kernel_rfl,
    t54 := Tryd.underlying78, a54 := Tryd.isAgg78, z54 := Tryd.sizeOf78, g1 := by kernel_rfl }

def Tab (w : World) : Prop := TabAt 0 Lib.deBruijn64tab w
theorem Tab.below {w w' : World} (h : Tab w) (hb : Below w.heap.size w w') : Tab w' := by
  intro j hj
  have h1 := h j hj
  have hl : 0 < w.heap.size := World.block_lt_of_cell? w _ h1
  exact (hb.cell (p := ⟨0, j, none⟩) hl).trans h1
theorem ctz_is {x : Nat} (h0 : x ≠ 0) (hx : x < B64) : TzIs x (Lib.ctz 64 x) ∧ Lib.ctz 64 x < 64 := by
  rw [B64_two_pow] at hx
  unfold Lib.ctz
  rw [if_neg h0]
  obtain ⟨m, hm, hk⟩ := Lib.ctzFrom_spec 64 x (by omega) hx
  generalize Lib.ctzFrom 64 x = k at *
  refine ⟨⟨?_, ?_⟩, hk⟩
  · rw [hm, Nat.mul_mod_right]
  · rw [hm, Nat.mul_div_cancel_left _ (Nat.pow_pos (by decide))]; omega
theorem tz_any {x r : Nat} (h0 : x ≠ 0) (hx : x < B64) (hr : TzIs x r) {w : World} (hT : Tab w) : Calls Tryd.prog 14 #[U x] w fun e w' => e = .returned (.int .i64 r) ∧ w' = w := by
  obtain ⟨h1, _⟩ := ctz_is h0 hx
  obtain rfl := hr.inj h1
  exact Any7.bits_TrailingZeros64 laysTz x (by rw [B64_eq] at hx; exact hx) w (fun _ => hT)

theorem tz_lift {xs : List Nat} (hd : Dig B64 xs) {j r : Nat} (hj : j < xs.length) (hz : valB B64 (xs.take j) = 0) (hr : TzIs (xs.getD j 0) r) (hr64 : r < 64) : TzIs (valB B64 xs) (64 * j + r) := by
  constructor
  · have h1 := valB_split B64 xs j (Nat.le_of_lt hj)
    have h2 := valB_drop B64 xs j hj
    rw [hz, Nat.zero_add, h2] at h1
    rw [h1, B64_pow, Nat.pow_add, Nat.mul_mod_mul_left]
    obtain ⟨k, hk⟩ : ∃ k, 64 = r + k := ⟨64 - r, by omega⟩
    have h3 : B64 = 2 ^ r * 2 ^ k := by rw [← Nat.pow_add, ← hk]; rfl
    rw [h3, Nat.mul_assoc, Nat.add_mul_mod_self_left, hr.1, Nat.mul_zero]
  · have h1 := digit_bit (b := B64) (e := 64) rfl hd hj hr64
    rw [← h1]
    exact hr.2

def TzO (v k : Nat) : Prop := (v = 0 ∧ k = 0) ∨ (v ≠ 0 ∧ TzIs v k)
theorem TzO.inj {v k l : Nat} (h : TzO v k) (h' : TzO v l) : k = l := by
  rcases h with ⟨h1, rfl⟩ | ⟨h1, h2⟩ <;> rcases h' with ⟨h3, rfl⟩ | ⟨h3, h4⟩
  · rfl
  · exact absurd h1 h3
  · exact absurd h3 h1
  · exact h2.inj h4
theorem TzO.ex (v : Nat) : ∃ k, TzO v k := by
  by_cases h : v = 0
  · exact ⟨0, .inl ⟨h, rfl⟩⟩
  · obtain ⟨k, hk⟩ := TzIs.ex v (by omega)
    exact ⟨k, .inr ⟨h, hk⟩⟩

theorem trail_any {p : Option Addr} {n c : Nat} {xs : List Nat} {k : Nat} {w : World} (h : At w p n c xs) (hn : n ≤ 17592186044416) (hk : TzO (valB B64 xs) k) (hT : Tab w) :
    Calls Tryd.prog 41 #[.slice p n c] w fun e w' => e = .returned (.int .i64 k) ∧ w' = w := by
  have HT : Hid (Tab w) := hT
  have HK : Hid (TzO (valB B64 xs) k) := hk
  have HD : Hid (Dig B64 xs) := h.dig
  have HL : Hid (xs.length = n) := h.len
  have cap := h.cap
  have big := h.big
  unfold maxLen at big
  have HC : Hid (n = 0 ∨ ∃ g off, p = some ⟨g, off, none⟩ ∧ ∀ j, j < n → w.cell? ⟨g, off + j, none⟩ = some (U (xs.getD j 0))) := h.cells
  clear h hk hT
  go_enter Tryd.func41, Tryd.ntmps41
  go_wp2_with fail
  go_loopg [6] n (fun gk iv wr => ∃ j : Nat, j + gk = n ∧ iv = .int .i64 j ∧ Hid (valB B64 (xs.take j) = 0) ∧ wr = w)
  case atStart => exact ⟨0, by omega, rfl, by show _ = _; simp [valB], rfl⟩
  case round =>
    obtain ⟨j, hjg, rfl, HZ, hwr⟩ := hrel
    obtain rfl := hwr.symm
    clear hwr
    cases gk with
    | zero =>
      obtain rfl : j = n := by omega
      have hnk : ¬ (j : Int) < (j : Int) := by omega
      have HK0 : Hid (k = 0) := by
        show _ = _
        have h1 := HZ.out
        rw [List.take_of_length_le (by rw [HL.out]; omega)] at h1
        exact HK.out.inj (.inl ⟨h1, rfl⟩)
      go_wp2_with fail
      go_ret
      exact ⟨ret_int (by have := HK0.out; omega), rfl⟩
    | succ gg =>
      have hjn : j < n := by omega
      obtain ⟨g, off, rfl, hcs⟩ := HC.out.resolve_left (by omega)
      obtain ⟨x, hx⟩ : ∃ x, x = xs.getD j 0 := ⟨_, rfl⟩
      have hcx : w.cell? ⟨g, off + j, none⟩ = some (U x) := by rw [hx]; exact hcs j hjn
      have hjI : (j : Int) < (n : Int) := by omega
      have hwj : IntKind.i64.wrap (j : Int) = (j : Int) := by simp [IntKind.wrap, IntKind.signed, IntKind.bits]; omega
      have hjb : j ≤ 17592186044416 := by omega
      have HXB : Hid (x < B64) := by show _ < _; rw [hx]; exact HD.out.getD B64_pos _
      clear hcs
      by_cases hx0 : x = 0
      · have HZ1 : Hid (valB B64 (xs.take (j + 1)) = 0) := by
          show _ = _
          rw [valB_take_any, HZ.out, ← hx, hx0, Nat.mul_zero]
        subst hx0
        clear hx HZ
        go_wp2_with fail
        go_roundg gg
        case measure => omega
        case rel => exact ⟨j + 1, by omega, by go_num, HZ1, rfl⟩
      · have hxI : ((x : Int) == 0) = false := by simp; omega
        obtain ⟨hr1, hr2⟩ := ctz_is hx0 HXB.out
        generalize Lib.ctz 64 x = r at *
        have HR : Hid (TzIs x r) := hr1
        have HKR : Hid (k = 64 * j + r) := by
          show _ = _
          have h1 := tz_lift HD.out (by rw [HL.out]; omega) HZ.out (hx ▸ hr1) hr2
          refine HK.out.inj (.inr ⟨fun e => ?_, h1⟩)
          have h2 := h1.2
          rw [e, Nat.zero_div] at h2
          exact absurd h2 (by decide)
        clear hr1 hx HZ
        go_wp2_with (go_at_call 14; refine (tz_any hx0 HXB.out HR.out HT.out).mono ?_; rintro e w' ⟨rfl, hw⟩; obtain rfl := hw.symm; clear hw)
        go_ret
        exact ⟨ret_int (by have := HKR.out; omega), rfl⟩
structure SubMulRel (w : World) (g off m : Nat) (zs ys : List Nat) (v k cy : Nat) (dk : List Nat) (wr : World) : Prop where
  wrs : Wr g off m w wr
  row : Row wr g off m dk
  hi : dk.drop k = zs.drop k
  car : cy < B64
  sum : valB B64 (zs.take k) + B64 ^ k * cy = valB B64 (dk.take k) + valB B64 (ys.take k) * v

theorem SubMulRel.step {w : World} {g off m : Nat} {zs ys : List Nat} {v k cy : Nat} {dk : List Nat} {wr : World} (h : SubMulRel w g off m zs ys v k cy dk wr) (hk : k < m)
    {x z l d : Nat} (hz : z = dk.getD k 0) (hx : x = ys.getD k 0) (hs : l + x * v + cy = z + B64 * d) (hl : l < B64) (hd : d < B64) :
    SubMulRel w g off m zs ys v (k + 1) d (dk.set k l) (wr.setCell ⟨g, off + k, none⟩ (U l)) := by
  have hlen := h.row.len
  refine ⟨h.wrs.setCell (off + k) ⟨by omega, by omega⟩ _, h.row.set k l hk hl, ?_, hd, ?_⟩
  · rw [drop_set_lt]; exact drop_succ_of_drop h.hi
  · have hzz : z = zs.getD k 0 := hz.trans (getD_of_drop h.hi)
    rw [take_set_succ dk k l (by omega), valB_snoc, List.length_take, hlen, Nat.min_eq_left (by omega), valB_take_any _ zs k, valB_take_any _ ys k, ← hzz, ← hx, Nat.pow_succ, Nat.add_mul]
    have e1 := h.sum
    have e2 : B64 ^ k * (l + x * v + cy) = B64 ^ k * (z + B64 * d) := by rw [hs]
    rw [Nat.mul_add, Nat.mul_add, Nat.mul_add, ← Nat.mul_assoc] at e2
    have e3 : B64 ^ k * x * v = B64 ^ k * (x * v) := Nat.mul_assoc _ _ _
    have e4 : B64 ^ k * B64 * d = B64 ^ k * (B64 * d) := Nat.mul_assoc _ _ _
    rw [e3, e4]
    rw [← Nat.mul_assoc] at e2
    generalize B64 ^ k * x * v = X0 at *
    generalize B64 ^ k * (x * v) = X1 at *
    generalize B64 ^ k * B64 * d = X2 at *
    generalize B64 ^ k * (B64 * d) = X3 at *
    generalize B64 ^ k * z = X4 at *
    generalize B64 ^ k * cy = X5 at *
    generalize B64 ^ k * l = X6 at *
    omega
theorem trial_step {q d l f s w0 w1 w2 : Nat} (h : q * (s + B64 * f) ≤ w0 + B64 * (w1 + B64 * w2)) (hi : d * f + l = w1 + B64 * w2) (hg : l * B64 + w0 < d * s) : q < d := by
  have h1 : d * (s + B64 * f) = d * s + B64 * (d * f) := by rw [Nat.mul_add, Nat.mul_left_comm]
  have h2 : B64 * (d * f) + B64 * l = B64 * (w1 + B64 * w2) := by rw [← Nat.mul_add, hi]
  have h3 : l * B64 = B64 * l := Nat.mul_comm _ _
  have h4 : q * (s + B64 * f) < d * (s + B64 * f) := by omega
  exact Nat.lt_of_mul_lt_mul_right h4
structure TrialC (ws ds : List Nat) (n w0 w1 w2 s f q : Nat) : Prop where
  e0 : w0 = ws.getD (n - 2) 0
  e1 : w1 = ws.getD (n - 1) 0
  e2 : w2 = ws.getD n 0
  es : s = ds.getD (n - 2) 0
  ef : f = ds.getD (n - 1) 0
  b0 : w0 < B64
  b1 : w1 < B64
  b2 : w2 < B64
  bs : s < B64
  bf : f < B64
  top : q * (s + B64 * f) ≤ w0 + B64 * (w1 + B64 * w2)
  le : w2 ≤ f
  qb : q < B64
theorem At.cellAt {w : World} {g off n c : Nat} {xs : List Nat} (h : At w (some ⟨g, off, none⟩) n c xs) (j : Nat) (hj : j < n) : w.cell? ⟨g, off + j, none⟩ = some (U (xs.getD j 0)) := by
  obtain ⟨g', o', he, hcell⟩ := h.cells.resolve_left (by omega)
  simp only [Option.some.injEq, Addr.mk.injEq, and_true] at he
  obtain ⟨rfl, rfl⟩ := he
  exact hcell j hj

structure TrialR (w1 w2 f q d l o : Nat) : Prop where
  qd : q ≤ d
  db : d < B64
  lb : l < B64
  ob : o ≤ 1
  sum : o = 0 → d * f + l = w1 + B64 * w2
theorem TrialR.down {w0 w1 w2 s f q d l o l' o' : Nat} (h : TrialR w1 w2 f q d l o) {ws ds : List Nat} {n : Nat} (c : TrialC ws ds n w0 w1 w2 s f q) (ho : o = 0) (hg : l * B64 + w0 < d * s) (ha : l + f + 0 = l' + B64 * o') (hl' : l' < B64) (ho' : o' ≤ 1) : 1 ≤ d ∧ TrialR w1 w2 f q (d - 1) l' o' := by
  have h1 := trial_step c.top (h.sum ho) hg
  have h2 := h.db
  refine ⟨by omega, by omega, by omega, hl', ho', fun h0 => ?_⟩
  subst h0
  have h3 := h.sum ho
  have h4 : d * f = (d - 1) * f + f := by rw [← Nat.succ_mul, show (d - 1).succ = d by omega]
  omega
end Go.Proofs.YthfkkcfjneppmaaDoor
namespace Go.Proofs.YthfkkcfjneppmaaDoor
open Go.RowKit
set_option maxRecDepth 20000
set_option maxHeartbeats 0
theorem val_lt_len32 {xs ys : List Nat} (hx : Dig B32 xs) (ty : Top ys) (h : xs.length < ys.length) : valB B32 xs < valB B32 ys := by
  have h1 := valB_lt B32_pos hx
  have h2 := valB_pos B32_pos (show ys ≠ [] by intro e; subst e; simp at h) ty
  have h3 : B32 ^ xs.length ≤ B32 ^ (ys.length - 1) := Nat.pow_le_pow_right B32_pos (by omega)
  omega
theorem val_lt_top32 {xs ys : List Nat} (hx : Dig B32 xs) {n t x y : Nat} (lx : xs.length = n) (ly : ys.length = n) (ht : t < n) (hd : xs.drop (t + 1) = ys.drop (t + 1)) (ex : x = xs.getD t 0) (ey : y = ys.getD t 0) (h : x < y) : valB B32 xs < valB B32 ys := by
  have h1 := valB_lt B32_pos (hx.take t)
  rw [List.length_take, lx, Nat.min_eq_left (by omega)] at h1
  rw [valB_split B32 xs t (by omega), valB_split B32 ys t (by omega), valB_drop _ xs t (by omega), valB_drop _ ys t (by omega), hd, ← ex, ← ey]
  have h2 : B32 ^ t * (x + 1) ≤ B32 ^ t * y := Nat.mul_le_mul_left _ h
  rw [Nat.mul_add] at h2
  rw [Nat.mul_add, Nat.mul_add]
  omega

theorem rcmp_any {p q : Option Addr} {n m c d : Nat} {xs ys : List Nat} {a b : Nat} {w : World} (h : At32 w p n c xs) (k : At32 w q m d ys) (hx : Nf B32 xs a) (hy : Nf B32 ys b) :
    Calls Tryd.prog 77 #[.slice p n c, .slice q m d] w fun e w' => e = .returned (.int .i64 (cmpN a b)) ∧ ∃ r, w' = w.drewN r := by
  obtain ⟨res, hres⟩ : ∃ res, res = cmpN a b := ⟨_, rfl⟩
  rw [← hres]
  have HRES : Hid (res = cmpN a b) := hres
  have HX : Hid (Nf B32 xs a) := hx
  have HY : Hid (Nf B32 ys b) := hy
  have HLX : Hid (xs.length = n) := h.len
  have HLY : Hid (ys.length = m) := k.len
  have cap := h.cap; have big := h.big; have kcap := k.cap; have kbig := k.big
  unfold maxLen at big kbig
  clear hres hx hy
  by_cases hnm : n = m
  · subst hnm
    go_enter Tryd.func77, Tryd.ntmps77
    go_wp2_with fail
    go_loopg [5] n (fun gk iv wr => iv = .int .i64 ((gk : Int) - 1) ∧ gk ≤ n ∧ Hid (xs.drop gk = ys.drop gk) ∧ ∃ r, wr = w.drewN r)
    case atStart => exact ⟨rfl, Nat.le_refl _, by show _ = _; rw [List.drop_of_length_le (by rw [HLX.out]; omega), List.drop_of_length_le (by rw [HLY.out]; omega)], 0, by first | rfl | simp⟩
    case round =>
      obtain ⟨rfl, hgn, HD, r, rfl⟩ := hrel
      by_cases hg0 : gk = 0
      · have hr : res = 0 := HRES.out.trans (cmpN_eq (by have h0 := HD.out; rw [hg0, List.drop_zero, List.drop_zero] at h0; rw [← HX.out.val, ← HY.out.val, h0]))
        have HR : Hid (res = 0) := hr
        have hdec : decide ((0 : Int) ≤ (gk : Int) - 1) = false := decide_eq_false (by omega)
        have hdec' : ¬ 1 ≤ gk := by omega
        clear hr
        go_wp2_with fail
        go_ret
        exact ⟨ret_int HR.out.symm, r, rfl⟩
      · obtain ⟨g, off, rfl, hc⟩ := h.cells.resolve_left (by omega)
        obtain ⟨g2, off2, rfl, hc2⟩ := k.cells.resolve_left (by omega)
        obtain ⟨x, hx⟩ : ∃ x, x = xs.getD (gk - 1) 0 := ⟨_, rfl⟩
        obtain ⟨y, hy⟩ : ∃ y, y = ys.getD (gk - 1) 0 := ⟨_, rfl⟩
        have cx : w.cell? ⟨g, off + (gk - 1), none⟩ = some (V x) := by rw [hx]; exact hc _ (by omega)
        have cy : w.cell? ⟨g2, off2 + (gk - 1), none⟩ = some (V y) := by rw [hy]; exact hc2 _ (by omega)
        have hdec : decide ((0 : Int) ≤ (gk : Int) - 1) = true := decide_eq_true (by omega)
        have hdec' : 1 ≤ gk := by omega
        have hix : 1 ≤ (gk : Int) ∧ (gk : Int) - 1 < (n : Int) := by omega
        have HXE : Hid (x = xs.getD (gk - 1) 0) := hx
        have HYE : Hid (y = ys.getD (gk - 1) 0) := hy
        have HD1 : Hid (xs.drop (gk - 1 + 1) = ys.drop (gk - 1 + 1)) := by rw [show gk - 1 + 1 = gk by omega]; exact HD.out
        clear hc hc2 hx hy
        rcases Nat.lt_trichotomy x y with hlt | heq | hgt
        · have hr : res = -1 := HRES.out.trans (cmpN_lt (by have := val_lt_top32 HX.out.dig HLX.out HLY.out (t := gk - 1) (by omega) HD1.out HXE.out HYE.out hlt; rw [HX.out.val, HY.out.val] at this; exact this))
          have HR : Hid (res = -1) := hr
          have hl' : (x : Int) < (y : Int) := by omega
          clear hr
          go_wp2_with fail
          go_quiet (fail)
          go_wp2_with fail
          go_ret
          exact ⟨ret_int HR.out.symm, _, by first | rfl | (rw [drewN_two])⟩
        · subst heq
          have hl' : ¬ (x : Int) < (x : Int) := by omega
          go_wp2_with fail
          go_quiet (fail)
          go_wp2_with fail
          go_quiet (fail)
          go_wp2_with fail
          go_roundg (gk - 1)
          case measure => omega
          case rel =>
            refine ⟨by go_num, by omega, ?_, _, by first | rfl | (rw [drewN_two, drewN_two]) | (rw [drewN_two])⟩
            exact drop_step HLX.out HLY.out (by omega) HD1.out (by rw [← HXE.out, ← HYE.out])
        · have hr : res = 1 := HRES.out.trans (cmpN_gt (by have := val_lt_top32 HY.out.dig HLY.out HLX.out (t := gk - 1) (by omega) HD1.out.symm HYE.out HXE.out hgt; rw [HX.out.val, HY.out.val] at this; exact this))
          have HR : Hid (res = 1) := hr
          have hl' : ¬ (x : Int) < (y : Int) := by omega
          have hl2 : (y : Int) < (x : Int) := by omega
          clear hr
          go_wp2_with fail
          go_quiet (fail)
          go_wp2_with fail
          go_quiet (fail)
          go_wp2_with fail
          go_ret
          exact ⟨ret_int HR.out.symm, _, by first | rfl | (rw [drewN_two, drewN_two]) | (rw [drewN_two])⟩
  · have hnm' : ((n : Int) != (m : Int)) = true := by simp; omega
    by_cases hlt : n < m
    · have hr : res = -1 := HRES.out.trans (cmpN_lt (by have := val_lt_len32 HX.out.dig HY.out.top (by rw [HLX.out, HLY.out]; exact hlt); rw [HX.out.val, HY.out.val] at this; exact this))
      have HR : Hid (res = -1) := hr
      have hlt' : (n : Int) < (m : Int) := by omega
      clear hr
      go_enter Tryd.func77, Tryd.ntmps77
      go_wp2_with fail
      go_ret
      exact ⟨ret_int HR.out.symm, 0, by first | rfl | simp⟩
    · have hr : res = 1 := HRES.out.trans (cmpN_gt (by have := val_lt_len32 HY.out.dig HX.out.top (by rw [HLX.out, HLY.out]; omega); rw [HX.out.val, HY.out.val] at this; exact this))
      have HR : Hid (res = 1) := hr
      have hlt' : ¬ (n : Int) < (m : Int) := by omega
      clear hr
      go_enter Tryd.func77, Tryd.ntmps77
      go_wp2_with fail
      go_ret
      exact ⟨ret_int HR.out.symm, 0, by first | rfl | simp⟩
end Go.Proofs.YthfkkcfjneppmaaDoor
namespace Go.Proofs.YthfkkcfjneppmaaDoor
open Go.RowKit Go.Shelf
set_option maxRecDepth 20000
set_option maxHeartbeats 0
theorem bit_neg (p : Option Addr) (n c : Nat) (i : Int) (hi : i < 0) (w : World) : Calls Tryd.prog 85 #[.slice p n c, .int .i64 i] w fun e w' => e = .returned (.bool false) ∧ w' = w := by
  have hb : decide (i < 0) = true := decide_eq_true hi
  go_enter Tryd.func85, Tryd.ntmps85
  go_wp2_with fail
  go_ret
  exact ⟨rfl, rfl⟩
def bitO (v : Nat) (i : Int) : Bool := if i < 0 then false else decide (v / 2 ^ i.toNat % 2 = 1)
theorem bit_int {p : Option Addr} {n c : Nat} {xs : List Nat} {w : World} (h : At w p n c xs) (hn : n ≤ 17592186044416) (i : Int) (hi : i ≤ 9223372036854775807) :
    Calls Tryd.prog 85 #[.slice p n c, .int .i64 i] w fun e w' => e = .returned (.bool (bitO (valB B64 xs) i)) ∧ w' = w := by
  by_cases h0 : i < 0
  · unfold bitO
    rw [if_pos h0]
    exact bit_neg p n c i h0 w
  · obtain ⟨m, rfl⟩ := Int.eq_ofNat_of_zero_le (by omega : 0 ≤ i)
    unfold bitO
    rw [if_neg h0, Int.toNat_natCast]
    exact bit_any h hn m (by omega)
def fl (s : Bool) (a d : Nat) : Int := iv s (a / d + (s && decide (a % d ≠ 0)).toNat)
def neUp (a d : Nat) : Bool := decide (d < 2 * (a % d)) || (decide (2 * (a % d) = d) && decide (a / d % 2 = 1))
def HfIs (r d : Nat) (h : Int) : Prop := (2 * r < d ∧ h = -1) ∨ (2 * r = d ∧ h = 0) ∨ (d < 2 * r ∧ h = 1)
theorem HfIs.up {a d : Nat} {h : Int} (k : HfIs (a % d) d h) : neUp a d = (decide (0 < h) || (decide (h = 0) && decide (a / d % 2 = 1))) := by
  unfold neUp
  rcases k with ⟨k, rfl⟩ | ⟨k, rfl⟩ | ⟨k, rfl⟩
  · rw [decide_eq_false (by omega), decide_eq_false (p := 2 * (a % d) = d) (by omega)]; rfl
  · rw [decide_eq_false (by omega), decide_eq_true (p := 2 * (a % d) = d) (by omega)]; rfl
  · rw [decide_eq_true (by omega)]; rfl
theorem ce_le {a d : Nat} (h : a % d ≠ 0) : a / d + 1 ≤ a := by
  rcases Nat.lt_or_ge d 2 with hd | hd
  · have : d = 0 ∨ d = 1 := by omega
    rcases this with rfl | rfl
    · rw [Nat.div_zero]; rw [Nat.mod_zero] at h; omega
    · omega
  · have h1 : a / d ≤ a / 2 := Nat.div_le_div_left hd (by omega)
    rcases Nat.lt_or_ge a 2 with ha | ha
    · have h2 : a ≠ 0 := fun e => h (by rw [e, Nat.zero_mod])
      omega
    · omega
theorem bit_half {a n : Nat} (hn : 0 < n) : (a / 2 ^ (n - 1) % 2 = 1) ↔ 2 ^ n ≤ 2 * (a % 2 ^ n) := by
  obtain ⟨k, rfl⟩ : ∃ k, n = k + 1 := ⟨n - 1, by omega⟩
  rw [Nat.add_sub_cancel, Nat.pow_succ, Nat.mod_mul]
  have h1 : a % 2 ^ k < 2 ^ k := Nat.mod_lt _ (Nat.pow_pos (by omega))
  have h2 : a / 2 ^ k % 2 < 2 := Nat.mod_lt _ (by omega)
  generalize a / 2 ^ k % 2 = b at *
  rcases (by omega : b = 0 ∨ b = 1) with rfl | rfl
  · simp; omega
  · simp; omega
theorem half_eq {a n : Nat} (hn : 0 < n) (h : a / 2 ^ (n - 1) % 2 = 1) : (a % 2 ^ (n - 1) = 0 ↔ 2 * (a % 2 ^ n) = 2 ^ n) := by
  obtain ⟨k, rfl⟩ : ∃ k, n = k + 1 := ⟨n - 1, by omega⟩
  rw [Nat.add_sub_cancel] at *
  rw [Nat.pow_succ, Nat.mod_mul, h]
  omega
def mo (s t : Bool) (a b : Nat) : Int := iv t (if ((s != t) && decide (a % b ≠ 0)) = true then b - a % b else a % b)
theorem bitO_half (a n : Nat) : bitO a ((n : Int) - 1) = decide (2 ^ n ≤ 2 * (a % 2 ^ n)) := by
  unfold bitO
  rcases Nat.eq_zero_or_pos n with rfl | hn
  · rw [if_pos (by omega)]
    exact (decide_eq_false (by omega)).symm
  · rw [if_neg (by omega), show ((n : Int) - 1).toNat = n - 1 from by omega]
    exact decide_eq_decide.2 (bit_half hn)
def AnsZ (B : Nat) (w' : World) (v : Value) (z : Int) : Prop :=
  ∃ p m zs, v = ZV (decide (z < 0)) p m m ∧ Own B w' p m zs ∧ Nf B64 zs z.natAbs ∧ m ≤ 8192
theorem iv_lt (s : Bool) (n : Nat) : decide (iv s n < 0) = (s && decide (0 < n)) := by
  cases s
  · simp [iv]
  · simp only [iv, if_true, Bool.true_and]; exact decide_eq_decide.2 (by omega)
theorem AnsZ.mk {B : Nat} {w' : World} {p : Option Addr} {m : Nat} {zs : List Nat} {q : Nat} (s : Bool) (ho : Own B w' p m zs) (hn : Nf B64 zs q) (hm : m ≤ 8192) : AnsZ B w' (ZV (s && decide (0 < m)) p m m) (iv s q) :=
  ⟨p, m, zs, by rw [iv_lt, hn.lenpos ho.len], ho, by rw [iv_natAbs]; exact hn, hm⟩
theorem own_set2 {B b : Nat} {w' : World} {p : Option Addr} {m : Nat} {zs : List Nat} (h : Own B w' p m zs) {r : Nat} (hr : r < B) (hb : b ≤ B) (v0 v1 : Value) : Own b ((w'.setCell ⟨r, 0, none⟩ v0).setCell ⟨r, 1, none⟩ v1) p m zs :=
  ((h.setOld _ _ _ hr).setOld _ _ _ hr).mono hb
theorem AnsZ.below {B : Nat} {w w' : World} {v : Value} {z : Int} (h : AnsZ B w v z) (hb : Below w.heap.size w w') : AnsZ B w' v z := by
  obtain ⟨p, m, zs, rfl, ho, hn, hm⟩ := h
  exact ⟨p, m, zs, rfl, ho.below hb, hn, hm⟩
abbrev FR (s : Bool) (p : Option Addr) (m c : Nat) (x : Bool) (h : Int) : Value := .agg #[.bool s, .slice p m c, .bool x, .int .i64 h]
structure B4q (W : World) (g : Nat) (v0 v1 v2 v3 : Value) : Prop where
  c0 : W.cell? ⟨g, 0, none⟩ = some v0
  c1 : W.cell? ⟨g, 1, none⟩ = some v1
  c2 : W.cell? ⟨g, 2, none⟩ = some v2
  c3 : W.cell? ⟨g, 3, none⟩ = some v3
  f0 : W.frozen? ⟨g, 0, none⟩ = false
  f1 : W.frozen? ⟨g, 1, none⟩ = false
  f2 : W.frozen? ⟨g, 2, none⟩ = false
  f3 : W.frozen? ⟨g, 3, none⟩ = false
theorem B4q.below {W W' : World} {g : Nat} {v0 v1 v2 v3 : Value} (h : B4q W g v0 v1 v2 v3) (hb : Below W.heap.size W W') : B4q W' g v0 v1 v2 v3 := by
  have hl : g < W.heap.size := World.block_lt_of_cell? W _ h.c0
  exact ⟨(hb.cell (p := ⟨g, 0, none⟩) hl).trans h.c0, (hb.cell (p := ⟨g, 1, none⟩) hl).trans h.c1, (hb.cell (p := ⟨g, 2, none⟩) hl).trans h.c2, (hb.cell (p := ⟨g, 3, none⟩) hl).trans h.c3,
    (hb.frozen (p := ⟨g, 0, none⟩) hl).trans h.f0, (hb.frozen (p := ⟨g, 1, none⟩) hl).trans h.f1, (hb.frozen (p := ⟨g, 2, none⟩) hl).trans h.f2, (hb.frozen (p := ⟨g, 3, none⟩) hl).trans h.f3⟩
theorem B4q.new (w : World) (ty : TypeId) (v0 v1 v2 v3 : Value) : B4q (w.alloc (.cells #[v0, v1, v2, v3] ty)) w.heap.size v0 v1 v2 v3 :=
  ⟨by go_simp, by go_simp, by go_simp, by go_simp, by go_simp, by go_simp, by go_simp, by go_simp⟩
theorem Box.lt {W : World} {g : Nat} {v0 v1 : Value} (h : Box W g v0 v1) : g < W.heap.size := World.block_lt_of_cell? W _ h.c0
theorem B4q.lt {W : World} {g : Nat} {v0 v1 v2 v3 : Value} (h : B4q W g v0 v1 v2 v3) : g < W.heap.size := World.block_lt_of_cell? W _ h.c0
theorem tz_lt {a k n : Nat} (h : TzIs a k) : decide (k < n) = decide (a % 2 ^ n ≠ 0) := by
  by_cases hk : k < n
  · rw [decide_eq_true hk, decide_eq_true]
    intro e
    have := h.ge e
    omega
  · rw [decide_eq_false hk, decide_eq_false]
    intro e
    apply e
    have h1 := Nat.dvd_of_mod_eq_zero h.1
    exact Nat.mod_eq_zero_of_dvd (Nat.dvd_trans (Nat.pow_dvd_pow 2 (by omega)) h1)
theorem Own.setNot {B : Nat} {w : World} {p : Option Addr} {m : Nat} {zs : List Nat} (h : Own B w p m zs) (g2 o2 : Nat) (v : Value) (hne : ∀ g, p = some ⟨g, 0, none⟩ → 0 < m → g ≠ g2) : Own B (w.setCell ⟨g2, o2, none⟩ v) p m zs := by
  refine ⟨h.len, h.dig, ?_⟩
  rcases h.mem with h0 | ⟨g, hp, hB, hr⟩
  · exact .inl h0
  · by_cases hm : m = 0
    · exact .inl hm
    · exact .inr ⟨g, hp, hB, hr.oth g2 o2 v (hne g hp (by omega))⟩
theorem half_lt {a n : Nat} {h : Int} (hb : false = bitO a ((n : Int) - 1)) (hh : h = -1) : HfIs (a % 2 ^ n) (2 ^ n) h := by
  rw [bitO_half] at hb
  have := of_decide_eq_false hb.symm
  exact .inl ⟨by omega, hh⟩
theorem half_ge {a n k : Nat} {h : Int} (hb : true = bitO a ((n : Int) - 1)) (ht : TzIs a k) (hh : h = if (k : Int) < (n : Int) - 1 then 1 else 0) : HfIs (a % 2 ^ n) (2 ^ n) h := by
  have h0 : 0 < n := by
    rcases Nat.eq_zero_or_pos n with rfl | h
    · unfold bitO at hb; rw [if_pos (by omega)] at hb; cases hb
    · exact h
  have h2 : a / 2 ^ (n - 1) % 2 = 1 := by
    unfold bitO at hb
    rw [if_neg (by omega), show ((n : Int) - 1).toNat = n - 1 from by omega] at hb
    exact of_decide_eq_true hb.symm
  have h1 := of_decide_eq_true ((bitO_half a n).symm.trans hb.symm)
  have h3 := half_eq h0 h2
  have h4 := tz_lt (n := n - 1) ht
  by_cases hk : k < n - 1
  · rw [if_pos (by omega)] at hh
    rw [decide_eq_true hk] at h4
    have := of_decide_eq_true h4.symm
    have : 2 * (a % 2 ^ n) ≠ 2 ^ n := fun e => this (h3.2 e)
    exact .inr (.inr ⟨by omega, hh⟩)
  · rw [if_neg (by omega)] at hh
    rw [decide_eq_false hk] at h4
    have := of_decide_eq_false h4.symm
    have : 2 * (a % 2 ^ n) = 2 ^ n := h3.1 (by omega)
    exact .inr (.inl ⟨this, hh⟩)
end Go.Proofs.YthfkkcfjneppmaaDoor
namespace Go.Proofs.YthfkkcfjneppmaaDoor
open Go.RowKit
set_option maxRecDepth 20000
set_option maxHeartbeats 0
variable {P : Program} {md : Region.Mode} {ops : Array Oper} {Q : Exit → Act → World → Prop} {J : World → Prop}

def wpJ (P : Program) (md : Region.Mode) (ops : Array Oper) (Q : Exit → Act → World → Prop) (J : World → Prop) : Nat → Array Bool → Act → World → Prop
  | 0, listed, a, w => Region.ready md ops listed = [] ∧ Q .normal a w
  | fuel + 1, listed, a, w =>
    (Region.ready md ops listed = [] → Q .normal a w) ∧
    ∀ i ∈ Region.ready md ops listed, wpOp P ops Q i (fun a' w' => J w' ∧ wpJ P md ops Q J fuel (listed.setIfInBounds i true) a' w') a w
theorem wpJ_any : ∀ (fuel : Nat) (listed : Array Bool) (a : Act) (w : World), wpJ P md ops Q J fuel listed a w → wpAny P md ops Q fuel listed a w
  | 0, _, _, _, h => h
  | fuel + 1, _, _, _, h => ⟨h.1, fun i hi => wpOp_mono (fun a' w' h' => wpJ_any fuel _ a' w' h'.2) (h.2 i hi)⟩

def YieldsJ (P : Program) (ops : Array Oper) (J : World → Prop) (o : Oper) (v : Value) (a : Act) : Prop :=
  (Region.wanted o (yielded ops a.tmps) = true ∧ ∀ w, J w → (execOp a.eval o).run P w = .ok (.value v) w) ∨ (Region.wanted o (yielded ops a.tmps) = false ∧ v = undef)
theorem YieldsJ.wpOp {i : Nat} {o : Oper} {v : Value} {a : Act} (hi : ops[i]? = some o) (hy : YieldsJ P ops J o v a)
    {K : Act → World → Prop} {w : World} (hJ : J w) (h : K (a.put o.dst v) w) : wpOp P ops Q i K a w := by
  unfold Go.wpOp
  simp only [hi]
  rcases hy with ⟨hw, hv⟩ | ⟨hw, rfl⟩
  · simp only [hw, if_true, Oper.wp, hv w hJ, Oper.upon]
    exact .inl h
  · simp only [hw]
    exact h
theorem YieldsJ.of_same {o : Oper} {v : Value} {a a' : Act} (hy : YieldsJ P ops J o v a) (he : execOp a'.eval o = execOp a.eval o)
    (hw : Region.wanted o (yielded ops a'.tmps) = Region.wanted o (yielded ops a.tmps)) : YieldsJ P ops J o v a' := by
  unfold YieldsJ at *
  rw [he, hw]
  exact hy
theorem wpOpJ_put {j : Nat} {oi oj : Oper} {v : Value} (hj : ops[j]? = some oj) (hap : oi.apart ops oj = true)
    (hsi : ∀ cs b, oi.op ≠ .select cs b) (hsj : ∀ cs b, oj.op ≠ .select cs b)
    (hQ : ∀ c a w, Q (.panic c) (a.put oi.dst v) w → Q (.panic c) a w) {K : Act → World → Prop} {a : Act} {w : World}
    (hy : YieldsJ P ops J oi v a) (h : wpOp P ops Q j K (a.put oi.dst v) w) :
    wpOp P ops Q j (fun a' w' => YieldsJ P ops J oi v a' ∧ K (a'.put oi.dst v) w') a w := by
  obtain ⟨h1, h2, h3⟩ := Oper.apart_spec hap
  have keep : ∀ (a : Act), YieldsJ P ops J oi v a → ∀ u, YieldsJ P ops J oi v (a.put oj.dst u) := fun a hy u =>
    hy.of_same (execOp_put oi hsi a oj.dst u h3) (wanted_put oi a oj.dst u h3)
  have keepD : ∀ d, YieldsJ P ops J oi v { a with defers := d :: a.defers } := fun d => hy.of_same rfl rfl
  unfold wpOp at *
  simp only [hj] at *
  rw [wanted_put oj a oi.dst v h1] at h
  split
  · rename_i hw
    simp only [hw, if_true] at h
    rcases h with h | ⟨hasks, hlets⟩
    case inr => exact .inr ⟨by unfold Oper.asks at *; rw [execOp_put oj hsj a oi.dst v h1] at hasks; exact hasks, hlets⟩
    refine .inl ?_
    unfold Oper.wp at *
    rw [execOp_put oj hsj a oi.dst v h1] at h
    generalize (execOp a.eval oj).run P w = r at *
    cases r with
    | ok n w' =>
      cases n <;> simp only [Oper.upon] at h ⊢
      case value u => exact ⟨keep a hy u, by rw [← Act.put_comm a v u h2]; exact h⟩
      case skip => exact ⟨keep a hy _, by rw [← Act.put_comm a v undef h2]; exact h⟩
      case defer d =>
        refine ⟨keep _ (keepD d) _, ?_⟩
        rw [← Act.put_comm _ v undef h2, ← Act.put_defers]
        exact h
      case enter f args =>
        refine Calls.mono h fun e w'' he => ?_
        cases e with
        | returned u => exact ⟨keep a hy u, by rw [← Act.put_comm a v u h2]; exact he⟩
        | panicked c => exact hQ _ _ _ he
        | outgrown => exact he
      case row row args => exact Rows.mono h fun u w'' he => ⟨keep a hy u, by rw [← Act.put_comm a v u h2]; exact he⟩
    | halt x w' =>
      cases x <;> simp only [Oper.upon] at h ⊢
      case panic u => exact hQ _ _ _ h
  · rename_i hw
    simp only [hw] at h
    exact ⟨keep a hy _, by rw [← Act.put_comm a v undef h2]; exact h⟩

theorem wpJ_first {i : Nat} {oi : Oper} {v : Value} (hi : ops[i]? = some oi) (hsel : ∀ (j : Nat) (o : Oper) cs b, ops[j]? = some o → o.op ≠ .select cs b)
    (hQ : ∀ c a w, Q (.panic c) (a.put oi.dst v) w → Q (.panic c) a w) :
    ∀ (fuel : Nat) (listed : Array Bool) (a : Act) (w : World),
      (∀ j oj, ops[j]? = some oj → j ≠ i → listed.getD j true = false → (∀ e ∈ oj.after, Region.binds md e = true → e.on ≠ i) → oi.apart ops oj = true) →
      i ∈ Region.ready md ops listed → YieldsJ P ops J oi v a → J w →
      wpJ P md ops Q J fuel (listed.setIfInBounds i true) (a.put oi.dst v) w → wpJ P md ops Q J (fuel + 1) listed a w := by
  intro fuel
  induction fuel with
  | zero =>
    intro listed a w _ hr hy hJ H
    refine ⟨fun h => (by rw [h] at hr; cases hr), fun j hj => ?_⟩
    by_cases hji : j = i
    · subst hji; exact hy.wpOp hi hJ ⟨hJ, H⟩
    · have := ready_mono hj hji
      rw [H.1] at this
      cases this
  | succ fuel ih =>
    intro listed a w hfree hr hy hJ H
    refine ⟨fun h => (by rw [h] at hr; cases hr), fun j hj => ?_⟩
    by_cases hji : j = i
    · subst hji; exact hy.wpOp hi hJ ⟨hJ, H⟩
    · have h1 := H.2 j (ready_mono hj hji)
      obtain ⟨hjun, oj, hoj, hall⟩ := mem_ready.1 hj
      have hnot : ∀ e ∈ oj.after, Region.binds md e = true → e.on ≠ i := fun e he hb heq => by
        have h1 := hall e he hb
        have h0 := (mem_ready.1 hr).1
        rw [heq] at h1
        rcases Nat.lt_or_ge i listed.size with h' | h'
        · simp [h'] at h0 h1; rw [h0] at h1; cases h1
        · simp [Array.getElem?_eq_none h'] at h1
      have h2 := wpOpJ_put hoj (hfree j oj hoj hji hjun hnot) (fun cs b => hsel i oi cs b hi) (fun cs b => hsel j oj cs b hoj) hQ hy h1
      have hfree' : ∀ k ok, ops[k]? = some ok → k ≠ i → (listed.setIfInBounds j true).getD k true = false →
          (∀ e ∈ ok.after, Region.binds md e = true → e.on ≠ i) → oi.apart ops ok = true := fun k ok hk hki hun hno => by
        refine hfree k ok hk hki ?_ hno
        by_cases hjk : j = k
        · subst hjk; exact hjun
        · rw [getD_set_ne true hjk] at hun; exact hun
      refine wpOp_mono (fun a' w' h3 => ⟨h3.2.1, ih (listed.setIfInBounds j true) a' w' hfree' (ready_mono hr (Ne.symm hji)) h3.1 h3.2.1 ?_⟩) h2
      rw [Array.setIfInBounds_comm _ _ hji]
      exact h3.2.2

theorem wpJ_take {i : Nat} {oi : Oper} {v : Value} {fuel : Nat} {listed : Array Bool} {a : Act} {w : World} (hi : ops[i]? = some oi)
    (hs : Region.noSelect ops = true) (hf : Region.free md ops listed i = true) (hr : (Region.ready md ops listed).contains i = true)
    (hQ : ∀ c a w, Q (.panic c) (a.put oi.dst v) w → Q (.panic c) a w) (hw : Region.wanted oi (yielded ops a.tmps) = true)
    (hy : ∀ w, J w → (execOp a.eval oi).run P w = .ok (.value v) w) (hJ : J w)
    (h : wpJ P md ops Q J fuel (listed.setIfInBounds i true) (a.put oi.dst v) w) : wpJ P md ops Q J (fuel + 1) listed a w :=
  wpJ_first hi (Region.noSelect_spec hs) hQ fuel listed a w (Region.free_spec hi hf) (by simpa using hr) (.inl ⟨hw, hy⟩) hJ h
theorem wpJ_tk (i : Nat) {oi : Oper} {v : Value} {fuel : Nat} {listed : Array Bool} {a : Act} {w : World} (hi : ops[i]? = some oi)
    (hy : ∀ w, J w → (execOp a.eval oi).run P w = .ok (.value v) w) (hJ : J w)
    (h : wpJ P md ops Q J fuel (listed.setIfInBounds i true) (a.put oi.dst v) w) (hs : Region.noSelect ops = true := by kernel_rfl) (hf : Region.free md ops listed i = true := by kernel_rfl)
    (hr : (Region.ready md ops listed).contains i = true := by kernel_rfl) (hQ : ∀ c a w, Q (.panic c) (a.put oi.dst v) w → Q (.panic c) a w := by exact fun _ _ _ h => h)
    (hw : Region.wanted oi (yielded ops a.tmps) = true := by kernel_rfl) : wpJ P md ops Q J (fuel + 1) listed a w := wpJ_take hi hs hf hr hQ hw hy hJ h
theorem wpJ_tq (i : Nat) {oi : Oper} {v : Value} {fuel : Nat} {listed : Array Bool} {a : Act} {w : World} (hi : ops[i]? = some oi) (hJ : J w)
    (h : wpJ P md ops Q J fuel (listed.setIfInBounds i true) (a.put oi.dst v) w)
    (hy : ∀ w, J w → (execOp a.eval oi).run P w = .ok (.value v) w := by (intro W' hJ; repeat (obtain ⟨_, hJ⟩ := hJ); go_simp; first | done | with_reducible rfl)) (hs : Region.noSelect ops = true := by kernel_rfl) (hf : Region.free md ops listed i = true := by kernel_rfl)
    (hr : (Region.ready md ops listed).contains i = true := by kernel_rfl) (hQ : ∀ c a w, Q (.panic c) (a.put oi.dst v) w → Q (.panic c) a w := by exact fun _ _ _ h => h)
    (hw : Region.wanted oi (yielded ops a.tmps) = true := by kernel_rfl) : wpJ P md ops Q J (fuel + 1) listed a w := wpJ_take hi hs hf hr hQ hw hy hJ h
theorem wpJ_one {i : Nat} {o : Oper} {fuel : Nat} {listed : Array Bool} {a : Act} {w : World} (hr : Region.ready md ops listed = [i]) (ho : ops[i]? = some o)
    (hw : Region.wanted o (yielded ops a.tmps) = true)
    (h : ∀ K : Act → World → Prop, (∀ a' w', J w' → wpJ P md ops Q J fuel (listed.setIfInBounds i true) a' w' → K a' w') → Oper.wp P o a w K Q) : wpJ P md ops Q J (fuel + 1) listed a w := by
  refine ⟨fun h => (by rw [hr] at h; cases h), fun j hj => ?_⟩
  rw [hr] at hj
  obtain rfl : j = i := by simpa using hj
  unfold wpOp
  simp only [ho, hw, if_true]
  exact .inl (h _ fun a' w' h1 h2 => ⟨h1, h2⟩)
theorem wpJ_on (i : Nat) {o : Oper} {fuel : Nat} {listed : Array Bool} {a : Act} {w : World} (ho : ops[i]? = some o)
    (h : ∀ K : Act → World → Prop, (∀ a' w', J w' → wpJ P md ops Q J fuel (listed.setIfInBounds i true) a' w' → K a' w') → Oper.wp P o a w K Q) (hr : Region.ready md ops listed = [i] := by kernel_rfl)
    (hw : Region.wanted o (yielded ops a.tmps) = true := by kernel_rfl) : wpJ P md ops Q J (fuel + 1) listed a w := wpJ_one hr ho hw h
theorem wpJ_done {listed : Array Bool} {a : Act} {w : World} (hr : Region.ready md ops listed = []) (h : Q .normal a w) : ∀ fuel, wpJ P md ops Q J fuel listed a w
  | 0 => ⟨hr, h⟩
  | _ + 1 => ⟨fun _ => h, by rw [hr]; simp⟩
theorem wp_region_J (J : World → Prop) {id : Nat} {a : Act} {w : World} (hm : P.follows .mixedOrders = true)
    (h : wpJ P .any ops Q J ops.size (Array.replicate ops.size false) a w.drew) : (Code.region id ops true).wp P Q a w :=
  wp_region_any hm (wpJ_any _ _ _ _ h)
end Go.Proofs.YthfkkcfjneppmaaDoor
namespace Go.Proofs.YthfkkcfjneppmaaDoor
open Go.RowKit Go.Shelf
set_option maxRecDepth 20000
set_option maxHeartbeats 0
theorem Own.drewq {B : Nat} {w : World} {p : Option Addr} {m : Nat} {zs : List Nat} (h : Own B w p m zs) : Own B w.drew p m zs := by
  refine ⟨h.len, h.dig, ?_⟩
  rcases h.mem with h0 | ⟨g, hp, hB, hr⟩
  · exact .inl h0
  · exact .inr ⟨g, hp, hB, hr.drew⟩
theorem rounded_f (p : Option Addr) (m : Nat) (s x : Bool) (hf : Int) (w : World) :
    Calls Tryd.prog 86 #[FR s p m m x hf, .bool false] w fun e w' => e = .returned (ZV (s && decide (0 < m)) p m m) ∧ Below w.heap.size w w' := by
  go_enter Tryd.func86, Tryd.ntmps86
  go_wp2_with fail
  obtain ⟨W0, hW0⟩ : ∃ W0, W0 = ((w.alloc (.cells #[.bool s, .slice p m m, .bool x, .int .i64 hf] 113)).alloc (.cells #[.bool false, .slice none 0 0] 33)) := ⟨_, rfl⟩
  have Xf : Hid (B4q W0 (w.heap.size) (.bool s) (.slice p m m) (.bool x) (.int .i64 hf)) := by rw [hW0]; exact ⟨by go_simp, by go_simp, by go_simp, by go_simp, by go_simp, by go_simp, by go_simp, by go_simp⟩
  have Xr : Hid (Box W0 (w.heap.size + 1) (.bool false) (.slice none 0 0)) := by rw [hW0]; exact ⟨by go_simp, by go_simp, by go_simp, by go_simp⟩
  have hb0 : Below w.heap.size w W0 := by rw [hW0]; exact below2 w _ _
  rw [← hW0]
  clear hW0
  have hbw : Below w.heap.size w w := Below.refl _ _
  obtain ⟨gr, hgr⟩ : ∃ g, g = w.heap.size + 1 := ⟨_, rfl⟩
  have HGr : Hid (w.heap.size ≤ gr) := by rw [hgr]; show _ ≤ _; omega
  rw [← hgr] at Xr
  try rw [← hgr]
  obtain ⟨gf, hgf⟩ : ∃ g, g = w.heap.size := ⟨_, rfl⟩
  have HGf : Hid (w.heap.size ≤ gf) := by rw [hgf]; show _ ≤ _; omega
  rw [← hgf] at Xf
  try rw [← hgf]
  have HGD : Hid (gf ≠ gr ∧ gr ≠ gf) := by rw [hgf, hgr]; exact ⟨by omega, by omega⟩
  clear hgf hgr
  replace hbw := Below.on hbw hb0
  clear hb0
  refine (signed_any s p m m W0).mono ?_
  rintro e w1 ⟨rfl, hb1⟩
  replace Xf : Hid _ := Xf.out.below hb1
  replace Xr : Hid _ := Xr.out.below hb1
  replace hbw := Below.on hbw hb1
  clear hb1
  obtain ⟨b, hb⟩ : ∃ b, b = (s && decide (0 < m)) := ⟨_, rfl⟩
  rw [← hb]
  have HBB : Hid (b = (s && decide (0 < m))) := hb
  clear hb
  obtain ⟨cr0, cr1, fr0, fr1⟩ := Xr.out
  have hner := Xr.out.lt
  go_wp2_with fail
  refine bodyPost_ret (v := ZV b p m m) (by rw [results_cell1 rfl]; go_simp) rfl ⟨by rw [HBB.out], ?_⟩
  exact bSet (bSet hbw _ _ _ HGr.out) _ _ _ HGr.out

theorem rounded_t {B : Nat} {p : Option Addr} {m : Nat} {zs : List Nat} {q : Nat} {w : World} (s x : Bool) (hf : Int) (ho : Own B w p m zs) (hn : Nf B64 zs q) (hm : m ≤ 8192) (hq : q + 1 < LIM) :
    Calls Tryd.prog 86 #[FR s p m m x hf, .bool true] w fun e w' => ∃ v, e = .returned v ∧ AnsZ w.heap.size w' v (iv s (q + 1)) ∧ Below w.heap.size w w' := by
  have HO : Hid (Own B w p m zs) := ho
  have HN : Hid (Nf B64 zs q ∧ m ≤ 8192 ∧ q + 1 < LIM) := ⟨hn, hm, hq⟩
  clear ho hn hm hq
  go_enter Tryd.func86, Tryd.ntmps86
  go_wp2_with fail
  obtain ⟨W0, hW0⟩ : ∃ W0, W0 = ((w.alloc (.cells #[.bool s, .slice p m m, .bool x, .int .i64 hf] 113)).alloc (.cells #[.bool false, .slice none 0 0] 33)) := ⟨_, rfl⟩
  have Xf : Hid (B4q W0 (w.heap.size) (.bool s) (.slice p m m) (.bool x) (.int .i64 hf)) := by rw [hW0]; exact ⟨by go_simp, by go_simp, by go_simp, by go_simp, by go_simp, by go_simp, by go_simp, by go_simp⟩
  have Xr : Hid (Box W0 (w.heap.size + 1) (.bool false) (.slice none 0 0)) := by rw [hW0]; exact ⟨by go_simp, by go_simp, by go_simp, by go_simp⟩
  have hb0 : Below w.heap.size w W0 := by rw [hW0]; exact below2 w _ _
  rw [← hW0]
  clear hW0
  have hbw : Below w.heap.size w w := Below.refl _ _
  obtain ⟨gr, hgr⟩ : ∃ g, g = w.heap.size + 1 := ⟨_, rfl⟩
  have HGr : Hid (w.heap.size ≤ gr) := by rw [hgr]; show _ ≤ _; omega
  rw [← hgr] at Xr
  try rw [← hgr]
  obtain ⟨gf, hgf⟩ : ∃ g, g = w.heap.size := ⟨_, rfl⟩
  have HGf : Hid (w.heap.size ≤ gf) := by rw [hgf]; show _ ≤ _; omega
  rw [← hgf] at Xf
  try rw [← hgf]
  have HGD : Hid (gf ≠ gr ∧ gr ≠ gf) := by rw [hgf, hgr]; exact ⟨by omega, by omega⟩
  clear hgf hgr
  replace HO : Hid (Own B W0 p m zs) := HO.out.below hb0
  replace hbw := Below.on hbw hb0
  clear hb0
  have XfD : Hid (B4q W0.drew gf (.bool s) (.slice p m m) (.bool x) (.int .i64 hf)) := ⟨Xf.out.c0, Xf.out.c1, Xf.out.c2, Xf.out.c3, Xf.out.f0, Xf.out.f1, Xf.out.f2, Xf.out.f3⟩
  have XrD : Hid (Box W0.drew gr (.bool false) (.slice none 0 0)) := ⟨Xr.out.c0, Xr.out.c1, Xr.out.f0, Xr.out.f1⟩
  have HOD : Hid (Own B W0.drew p m zs) := HO.out.drewq
  have hbw2 := bDrew1 hbw
  clear Xf Xr HO hbw
  have Xf := XfD
  have Xr := XrD
  have HO := HOD
  have hbw := hbw2
  clear XfD XrD HOD hbw2
  have HJ : Hid ((fun W' : World => W'.cell? ⟨gf, 1, none⟩ = some (.slice p m m)) W0.drew) := Xf.out.c1
  refine wp_region_J (fun W' => W'.cell? ⟨gf, 1, none⟩ = some (.slice p m m)) (by kernel_rfl) ?_
  refine wpJ_tk 0 (v := ?v1x0) rfl ?hy1x0 HJ.out ?_
  case hy1x0 => (intro W' hJ; have j1 := hJ; go_simp; first | done | with_reducible rfl)
  refine wpJ_tk 1 (v := ?v2x1) rfl ?hy2x1 HJ.out ?_
  case hy2x1 => (intro W' hJ; have j1 := hJ; go_simp; first | done | with_reducible rfl)
  generalize W0.drew = W1 at *
  refine wpJ_on 2 rfl fun K hK => ?_
  go_simp
  rw [show Value.int IntKind.u64 1 = U 1 from rfl]
  refine (word_any 1 W1 (by decide)).mono ?_
  rintro e w2 ⟨p2, m2, z2, rfl, ho2, hn2, hm2, hb2⟩
  replace Xf : Hid _ := Xf.out.below hb2
  replace Xr : Hid _ := Xr.out.below hb2
  replace HO : Hid (Own B w2 p m zs) := HO.out.below hb2
  replace hbw := Below.on hbw hb2
  clear hb2
  have N2 : Hid (Num w2 p2 m2 m2 z2 1) := Num.of ho2 hn2 (by omega)
  clear ho2 hn2 HJ
  have HJ : Hid ((fun W' : World => W'.cell? ⟨gf, 1, none⟩ = some (.slice p m m)) w2) := Xf.out.c1
  refine hK _ _ HJ.out ?_
  clear hK
  have HRL : Hid (gr < w2.heap.size ∧ w.heap.size ≤ w2.heap.size) := ⟨Xr.out.lt, hbw.size⟩
  refine wpJ_on 3 rfl fun K hK => ?_
  go_simp
  have M : Num w2 p m m zs q := Num.of HO.out HN.out.1 HN.out.2.1
  refine (add_ord M.at_ N2.out.at_ M.nf N2.out.nf M.le N2.out.le).mono ?_
  rintro e w3 ⟨ha, hb3⟩
  clear M
  obtain ⟨p3, m3, z3, rfl, ho3, hn3, hm3⟩ := ha.ok HN.out.2.2
  clear ha
  replace Xf : Hid _ := Xf.out.below hb3
  replace Xr : Hid _ := Xr.out.below hb3
  replace HO : Hid (Own B w3 p m zs) := HO.out.below hb3
  replace N2 : Hid _ := N2.out.below hb3
  replace hbw := Below.on hbw hb3
  clear hb3
  have HO3 : Hid (Own w2.heap.size w3 p3 m3 z3) := ho3
  have HN3 : Hid (Nf B64 z3 (q + 1) ∧ m3 ≤ 8192) := ⟨hn3, hm3⟩
  clear ho3 hn3 hm3 HJ
  have HJ : Hid ((fun W' : World => W'.cell? ⟨gf, 1, none⟩ = some (.slice p m m)) w3) := Xf.out.c1
  refine hK _ _ HJ.out ?_
  clear hK
  refine wpJ_tk 4 (v := ?v3x4) rfl ?hy3x4 HJ.out ?_
  case hy3x4 => (intro W' hJ; have j1 := hJ; go_simp; first | done | with_reducible rfl)
  refine wpJ_tk 5 (v := ?v4x5) rfl ?hy4x5 HJ.out ?_
  case hy4x5 => (intro W' hJ; have j1 := hJ; go_simp; first | done | with_reducible rfl)
  refine wpJ_tk 6 (v := ?v5x6) rfl ?hy5x6 HJ.out ?_
  case hy5x6 => (intro W' hJ; have j1 := hJ; go_simp; first | done | with_reducible rfl)
  refine wpJ_tk 7 (v := ?v6x7) rfl ?hy6x7 HJ.out ?_
  case hy6x7 => (intro W' hJ; have j1 := hJ; go_simp; first | done | with_reducible rfl)
  refine wpJ_done (by kernel_rfl) ?_ _
  clear HJ
  obtain ⟨cf0, cf1, cf2, cf3, ff0, ff1, ff2, ff3⟩ := Xf.out
  have hnef : gf < w3.heap.size := World.block_lt_of_cell? w3 _ cf0
  go_wp2_with fail
  clear cf0 cf1 cf2 cf3 ff0 ff1 ff2 ff3 hnef
  refine (signed_any s p3 m3 m3 w3).mono ?_
  rintro e w4 ⟨rfl, hb4⟩
  replace Xf : Hid _ := Xf.out.below hb4
  replace Xr : Hid _ := Xr.out.below hb4
  replace HO : Hid (Own B w4 p m zs) := HO.out.below hb4
  replace N2 : Hid _ := N2.out.below hb4
  replace HO3 : Hid (Own w2.heap.size w4 p3 m3 z3) := HO3.out.below hb4
  replace hbw := Below.on hbw hb4
  clear hb4
  obtain ⟨b, hb⟩ : ∃ b, b = (s && decide (0 < m3)) := ⟨_, rfl⟩
  rw [← hb]
  have HBB : Hid (b = (s && decide (0 < m3))) := hb
  clear hb
  obtain ⟨cr0, cr1, fr0, fr1⟩ := Xr.out
  have hner := Xr.out.lt
  go_wp2_with fail
  refine bodyPost_ret (v := ZV b p3 m3 m3) (by rw [results_cell1 rfl]; go_simp) rfl ⟨_, rfl, ?_, ?_⟩
  · rw [HBB.out]
    exact AnsZ.mk s (own_set2 HO3.out HRL.out.1 HRL.out.2 _ _) HN3.out.1 HN3.out.2
  · exact bSet (bSet hbw _ _ _ HGr.out) _ _ _ HGr.out
structure FrIs (B : Nat) (w : World) (s : Bool) (a d : Nat) (p : Option Addr) (m : Nat) (zs : List Nat) (x : Bool) (hf : Int) : Prop where
  own : Own B w p m zs
  nf : Nf B64 zs (a / d)
  le : m ≤ 8192
  ex : x = decide (a % d ≠ 0)
  hf : HfIs (a % d) d hf
  lim : a < LIM
theorem own_off {B : Nat} {w : World} {p : Option Addr} {m : Nat} {zs : List Nat} (h : Own B w p m zs) {gg : Nat} (hg : w.heap.size ≤ gg) : ∀ g, p = some ⟨g, 0, none⟩ → 0 < m → g ≠ gg := by
  intro g hp h0
  rcases h.mem with h1 | ⟨g3, hp3, hB3, hr3⟩
  · omega
  · rw [hp] at hp3
    simp only [Option.some.injEq, Addr.mk.injEq, and_true] at hp3
    have := hr3.lt h0
    omega
theorem FrIs.below {B : Nat} {w w' : World} {s : Bool} {a d : Nat} {p : Option Addr} {m : Nat} {zs : List Nat} {x : Bool} {hf : Int} (h : FrIs B w s a d p m zs x hf) (hb : Below w.heap.size w w') : FrIs B w' s a d p m zs x hf :=
  ⟨h.own.below hb, h.nf, h.le, h.ex, h.hf, h.lim⟩
theorem FrIs.up {B : Nat} {w : World} {s : Bool} {a d : Nat} {p : Option Addr} {m : Nat} {zs : List Nat} {hf : Int} (h : FrIs B w s a d p m zs true hf) : a / d + 1 < LIM := by
  have := ce_le (of_decide_eq_true h.ex.symm)
  have := h.lim
  omega
theorem FrIs.half {B : Nat} {w : World} {s : Bool} {a d : Nat} {p : Option Addr} {m : Nat} {zs : List Nat} {x : Bool} {hf : Int} (h : FrIs B w s a d p m zs x hf) (hd : 0 < d) (h0 : 0 ≤ hf) : x = true := by
  rw [h.ex]
  refine decide_eq_true ?_
  rcases h.hf with ⟨_, e⟩ | ⟨e, _⟩ | ⟨e, _⟩ <;> omega

theorem floor_any00 {B : Nat} {p : Option Addr} {m : Nat} {zs : List Nat} {a d : Nat} {w : World} (hf : Int) (h : FrIs B w false a d p m zs false hf) (hB : B ≤ w.heap.size) :
    Calls Tryd.prog 69 #[FR false p m m false hf] w fun e w' => ∃ v, e = .returned v ∧ AnsZ B w' v (fl false a d) ∧ Below w.heap.size w w' := by
  have H : Hid (FrIs B w false a d p m zs false hf) := h
  have HB : Hid (B ≤ w.heap.size) := hB
  have HVAL : Hid (fl false a d = iv false (a / d)) := by
    have e := h.ex
    show _ = _
    unfold fl
    rw [← e]; rfl
  clear h hB
  rw [HVAL.out]
  clear HVAL
  have HOF : Hid (∀ gg, w.heap.size ≤ gg → ∀ g, p = some ⟨g, 0, none⟩ → 0 < m → g ≠ gg) := fun gg hg => own_off H.out.own hg
  go_enter Tryd.func69, Tryd.ntmps69
  go_wp2_with fail
  obtain ⟨W0, hW0⟩ : ∃ W0, W0 = ((w.alloc (.cells #[.bool false, .slice p m m, .bool false, .int .i64 hf] 113)).alloc (.cells #[.bool false, .slice none 0 0] 33)) := ⟨_, rfl⟩
  have Xf : Hid (B4q W0 (w.heap.size) (.bool false) (.slice p m m) (.bool false) (.int .i64 hf)) := by rw [hW0]; exact ⟨by go_simp, by go_simp, by go_simp, by go_simp, by go_simp, by go_simp, by go_simp, by go_simp⟩
  have Xr : Hid (Box W0 (w.heap.size + 1) (.bool false) (.slice none 0 0)) := by rw [hW0]; exact ⟨by go_simp, by go_simp, by go_simp, by go_simp⟩
  have hb0 : Below w.heap.size w W0 := by rw [hW0]; exact below2 w _ _
  rw [← hW0]
  clear hW0
  have hbw : Below w.heap.size w w := Below.refl _ _
  obtain ⟨gr, hgr⟩ : ∃ g, g = w.heap.size + 1 := ⟨_, rfl⟩
  have HGr : Hid (w.heap.size ≤ gr) := by rw [hgr]; show _ ≤ _; omega
  rw [← hgr] at Xr
  try rw [← hgr]
  obtain ⟨gf, hgf⟩ : ∃ g, g = w.heap.size := ⟨_, rfl⟩
  have HGf : Hid (w.heap.size ≤ gf) := by rw [hgf]; show _ ≤ _; omega
  rw [← hgf] at Xf
  try rw [← hgf]
  have HGD : Hid (gf ≠ gr ∧ gr ≠ gf) := by rw [hgf, hgr]; exact ⟨by omega, by omega⟩
  clear hgf hgr
  replace H : Hid _ := H.out.below hb0
  replace hbw := Below.on hbw hb0
  clear hb0
  refine (rounded_f p m false false hf W0).mono ?_
  rintro e w9 ⟨rfl, hb9⟩
  replace Xf : Hid _ := Xf.out.below hb9
  replace Xr : Hid _ := Xr.out.below hb9
  replace H : Hid _ := H.out.below hb9
  replace hbw := Below.on hbw hb9
  clear hb9
  obtain ⟨b9, hb9⟩ : ∃ b, b = (false && decide (0 < m)) := ⟨_, rfl⟩
  rw [← hb9]
  have HB9 : Hid (b9 = (false && decide (0 < m))) := hb9
  clear hb9
  obtain ⟨cr0, cr1, fr0, fr1⟩ := Xr.out
  have hner := Xr.out.lt
  go_wp2_with fail
  refine bodyPost_ret (v := ZV b9 p m m) (by rw [results_cell1 rfl]; go_simp) rfl ⟨_, rfl, ?_, ?_⟩
  · rw [HB9.out]
    exact AnsZ.mk _ ((H.out.own.setNot _ _ _ (HOF.out _ HGr.out)).setNot _ _ _ (HOF.out _ HGr.out)) H.out.nf H.out.le
  · exact bSet (bSet hbw _ _ _ HGr.out) _ _ _ HGr.out
theorem floor_any01 {B : Nat} {p : Option Addr} {m : Nat} {zs : List Nat} {a d : Nat} {w : World} (hf : Int) (h : FrIs B w false a d p m zs true hf) (hB : B ≤ w.heap.size) :
    Calls Tryd.prog 69 #[FR false p m m true hf] w fun e w' => ∃ v, e = .returned v ∧ AnsZ B w' v (fl false a d) ∧ Below w.heap.size w w' := by
  have H : Hid (FrIs B w false a d p m zs true hf) := h
  have HB : Hid (B ≤ w.heap.size) := hB
  have HVAL : Hid (fl false a d = iv false (a / d)) := by
    have e := h.ex
    show _ = _
    unfold fl
    rw [← e]; rfl
  clear h hB
  rw [HVAL.out]
  clear HVAL
  have HOF : Hid (∀ gg, w.heap.size ≤ gg → ∀ g, p = some ⟨g, 0, none⟩ → 0 < m → g ≠ gg) := fun gg hg => own_off H.out.own hg
  go_enter Tryd.func69, Tryd.ntmps69
  go_wp2_with fail
  obtain ⟨W0, hW0⟩ : ∃ W0, W0 = ((w.alloc (.cells #[.bool false, .slice p m m, .bool true, .int .i64 hf] 113)).alloc (.cells #[.bool false, .slice none 0 0] 33)) := ⟨_, rfl⟩
  have Xf : Hid (B4q W0 (w.heap.size) (.bool false) (.slice p m m) (.bool true) (.int .i64 hf)) := by rw [hW0]; exact ⟨by go_simp, by go_simp, by go_simp, by go_simp, by go_simp, by go_simp, by go_simp, by go_simp⟩
  have Xr : Hid (Box W0 (w.heap.size + 1) (.bool false) (.slice none 0 0)) := by rw [hW0]; exact ⟨by go_simp, by go_simp, by go_simp, by go_simp⟩
  have hb0 : Below w.heap.size w W0 := by rw [hW0]; exact below2 w _ _
  rw [← hW0]
  clear hW0
  have hbw : Below w.heap.size w w := Below.refl _ _
  obtain ⟨gr, hgr⟩ : ∃ g, g = w.heap.size + 1 := ⟨_, rfl⟩
  have HGr : Hid (w.heap.size ≤ gr) := by rw [hgr]; show _ ≤ _; omega
  rw [← hgr] at Xr
  try rw [← hgr]
  obtain ⟨gf, hgf⟩ : ∃ g, g = w.heap.size := ⟨_, rfl⟩
  have HGf : Hid (w.heap.size ≤ gf) := by rw [hgf]; show _ ≤ _; omega
  rw [← hgf] at Xf
  try rw [← hgf]
  have HGD : Hid (gf ≠ gr ∧ gr ≠ gf) := by rw [hgf, hgr]; exact ⟨by omega, by omega⟩
  clear hgf hgr
  replace H : Hid _ := H.out.below hb0
  replace hbw := Below.on hbw hb0
  clear hb0
  refine (rounded_f p m false true hf W0).mono ?_
  rintro e w9 ⟨rfl, hb9⟩
  replace Xf : Hid _ := Xf.out.below hb9
  replace Xr : Hid _ := Xr.out.below hb9
  replace H : Hid _ := H.out.below hb9
  replace hbw := Below.on hbw hb9
  clear hb9
  obtain ⟨b9, hb9⟩ : ∃ b, b = (false && decide (0 < m)) := ⟨_, rfl⟩
  rw [← hb9]
  have HB9 : Hid (b9 = (false && decide (0 < m))) := hb9
  clear hb9
  obtain ⟨cr0, cr1, fr0, fr1⟩ := Xr.out
  have hner := Xr.out.lt
  go_wp2_with fail
  refine bodyPost_ret (v := ZV b9 p m m) (by rw [results_cell1 rfl]; go_simp) rfl ⟨_, rfl, ?_, ?_⟩
  · rw [HB9.out]
    exact AnsZ.mk _ ((H.out.own.setNot _ _ _ (HOF.out _ HGr.out)).setNot _ _ _ (HOF.out _ HGr.out)) H.out.nf H.out.le
  · exact bSet (bSet hbw _ _ _ HGr.out) _ _ _ HGr.out
theorem floor_any10 {B : Nat} {p : Option Addr} {m : Nat} {zs : List Nat} {a d : Nat} {w : World} (hf : Int) (h : FrIs B w true a d p m zs false hf) (hB : B ≤ w.heap.size) :
    Calls Tryd.prog 69 #[FR true p m m false hf] w fun e w' => ∃ v, e = .returned v ∧ AnsZ B w' v (fl true a d) ∧ Below w.heap.size w w' := by
  have H : Hid (FrIs B w true a d p m zs false hf) := h
  have HB : Hid (B ≤ w.heap.size) := hB
  have HVAL : Hid (fl true a d = iv true (a / d)) := by
    have e := h.ex
    show _ = _
    unfold fl
    rw [← e]; rfl
  clear h hB
  rw [HVAL.out]
  clear HVAL
  have HOF : Hid (∀ gg, w.heap.size ≤ gg → ∀ g, p = some ⟨g, 0, none⟩ → 0 < m → g ≠ gg) := fun gg hg => own_off H.out.own hg
  go_enter Tryd.func69, Tryd.ntmps69
  go_wp2_with fail
  obtain ⟨W0, hW0⟩ : ∃ W0, W0 = ((w.alloc (.cells #[.bool true, .slice p m m, .bool false, .int .i64 hf] 113)).alloc (.cells #[.bool false, .slice none 0 0] 33)) := ⟨_, rfl⟩
  have Xf : Hid (B4q W0 (w.heap.size) (.bool true) (.slice p m m) (.bool false) (.int .i64 hf)) := by rw [hW0]; exact ⟨by go_simp, by go_simp, by go_simp, by go_simp, by go_simp, by go_simp, by go_simp, by go_simp⟩
  have Xr : Hid (Box W0 (w.heap.size + 1) (.bool false) (.slice none 0 0)) := by rw [hW0]; exact ⟨by go_simp, by go_simp, by go_simp, by go_simp⟩
  have hb0 : Below w.heap.size w W0 := by rw [hW0]; exact below2 w _ _
  rw [← hW0]
  clear hW0
  have hbw : Below w.heap.size w w := Below.refl _ _
  obtain ⟨gr, hgr⟩ : ∃ g, g = w.heap.size + 1 := ⟨_, rfl⟩
  have HGr : Hid (w.heap.size ≤ gr) := by rw [hgr]; show _ ≤ _; omega
  rw [← hgr] at Xr
  try rw [← hgr]
  obtain ⟨gf, hgf⟩ : ∃ g, g = w.heap.size := ⟨_, rfl⟩
  have HGf : Hid (w.heap.size ≤ gf) := by rw [hgf]; show _ ≤ _; omega
  rw [← hgf] at Xf
  try rw [← hgf]
  have HGD : Hid (gf ≠ gr ∧ gr ≠ gf) := by rw [hgf, hgr]; exact ⟨by omega, by omega⟩
  clear hgf hgr
  replace H : Hid _ := H.out.below hb0
  replace hbw := Below.on hbw hb0
  clear hb0
  refine (rounded_f p m true false hf W0).mono ?_
  rintro e w9 ⟨rfl, hb9⟩
  replace Xf : Hid _ := Xf.out.below hb9
  replace Xr : Hid _ := Xr.out.below hb9
  replace H : Hid _ := H.out.below hb9
  replace hbw := Below.on hbw hb9
  clear hb9
  obtain ⟨b9, hb9⟩ : ∃ b, b = (true && decide (0 < m)) := ⟨_, rfl⟩
  rw [← hb9]
  have HB9 : Hid (b9 = (true && decide (0 < m))) := hb9
  clear hb9
  obtain ⟨cr0, cr1, fr0, fr1⟩ := Xr.out
  have hner := Xr.out.lt
  go_wp2_with fail
  refine bodyPost_ret (v := ZV b9 p m m) (by rw [results_cell1 rfl]; go_simp) rfl ⟨_, rfl, ?_, ?_⟩
  · rw [HB9.out]
    exact AnsZ.mk _ ((H.out.own.setNot _ _ _ (HOF.out _ HGr.out)).setNot _ _ _ (HOF.out _ HGr.out)) H.out.nf H.out.le
  · exact bSet (bSet hbw _ _ _ HGr.out) _ _ _ HGr.out
theorem floor_any11 {B : Nat} {p : Option Addr} {m : Nat} {zs : List Nat} {a d : Nat} {w : World} (hf : Int) (h : FrIs B w true a d p m zs true hf) (hB : B ≤ w.heap.size) :
    Calls Tryd.prog 69 #[FR true p m m true hf] w fun e w' => ∃ v, e = .returned v ∧ AnsZ B w' v (fl true a d) ∧ Below w.heap.size w w' := by
  have H : Hid (FrIs B w true a d p m zs true hf) := h
  have HB : Hid (B ≤ w.heap.size) := hB
  have HVAL : Hid (fl true a d = iv true (a / d + 1)) := by
    have e := h.ex
    show _ = _
    unfold fl
    rw [← e]; rfl
  clear h hB
  rw [HVAL.out]
  clear HVAL
  have HOF : Hid (∀ gg, w.heap.size ≤ gg → ∀ g, p = some ⟨g, 0, none⟩ → 0 < m → g ≠ gg) := fun gg hg => own_off H.out.own hg
  go_enter Tryd.func69, Tryd.ntmps69
  go_wp2_with fail
  obtain ⟨W0, hW0⟩ : ∃ W0, W0 = ((w.alloc (.cells #[.bool true, .slice p m m, .bool true, .int .i64 hf] 113)).alloc (.cells #[.bool false, .slice none 0 0] 33)) := ⟨_, rfl⟩
  have Xf : Hid (B4q W0 (w.heap.size) (.bool true) (.slice p m m) (.bool true) (.int .i64 hf)) := by rw [hW0]; exact ⟨by go_simp, by go_simp, by go_simp, by go_simp, by go_simp, by go_simp, by go_simp, by go_simp⟩
  have Xr : Hid (Box W0 (w.heap.size + 1) (.bool false) (.slice none 0 0)) := by rw [hW0]; exact ⟨by go_simp, by go_simp, by go_simp, by go_simp⟩
  have hb0 : Below w.heap.size w W0 := by rw [hW0]; exact below2 w _ _
  rw [← hW0]
  clear hW0
  have hbw : Below w.heap.size w w := Below.refl _ _
  obtain ⟨gr, hgr⟩ : ∃ g, g = w.heap.size + 1 := ⟨_, rfl⟩
  have HGr : Hid (w.heap.size ≤ gr) := by rw [hgr]; show _ ≤ _; omega
  rw [← hgr] at Xr
  try rw [← hgr]
  obtain ⟨gf, hgf⟩ : ∃ g, g = w.heap.size := ⟨_, rfl⟩
  have HGf : Hid (w.heap.size ≤ gf) := by rw [hgf]; show _ ≤ _; omega
  rw [← hgf] at Xf
  try rw [← hgf]
  have HGD : Hid (gf ≠ gr ∧ gr ≠ gf) := by rw [hgf, hgr]; exact ⟨by omega, by omega⟩
  clear hgf hgr
  replace H : Hid _ := H.out.below hb0
  replace hbw := Below.on hbw hb0
  clear hb0
  have HRL : Hid (gr < W0.heap.size ∧ w.heap.size ≤ W0.heap.size) := ⟨Xr.out.lt, hbw.size⟩
  refine (rounded_t _ _ _ H.out.own H.out.nf H.out.le H.out.up).mono ?_
  rintro e w9 ⟨v, rfl, hv, hb9⟩
  replace Xf : Hid _ := Xf.out.below hb9
  replace Xr : Hid _ := Xr.out.below hb9
  replace H : Hid _ := H.out.below hb9
  replace hbw := Below.on hbw hb9
  clear hb9
  obtain ⟨p9, m9, z9, rfl, ho, hn, hm⟩ := hv
  have HO9 : Hid (Own W0.heap.size w9 p9 m9 z9) := ho
  have HN9 : Hid (Nf B64 z9 (iv true (a / d + 1)).natAbs ∧ m9 ≤ 8192) := ⟨hn, hm⟩
  clear ho hn hm
  obtain ⟨b9, hb9⟩ : ∃ b, b = decide (iv true (a / d + 1) < 0) := ⟨_, rfl⟩
  rw [← hb9]
  have HB9 : Hid (b9 = decide (iv true (a / d + 1) < 0)) := hb9
  clear hb9
  obtain ⟨cr0, cr1, fr0, fr1⟩ := Xr.out
  have hner := Xr.out.lt
  go_wp2_with fail
  refine bodyPost_ret (v := ZV b9 p9 m9 m9) (by rw [results_cell1 rfl]; go_simp) rfl ⟨_, rfl, ⟨p9, m9, z9, by rw [HB9.out], ?_, HN9.out.1, HN9.out.2⟩, ?_⟩
  · exact own_set2 HO9.out HRL.out.1 (Nat.le_trans HB.out HRL.out.2) _ _
  · exact bSet (bSet hbw _ _ _ HGr.out) _ _ _ HGr.out
theorem floor_any {B : Nat} {p : Option Addr} {m : Nat} {zs : List Nat} {a d : Nat} {w : World} (s x : Bool) (hf : Int) (h : FrIs B w s a d p m zs x hf) (hB : B ≤ w.heap.size) :
    Calls Tryd.prog 69 #[FR s p m m x hf] w fun e w' => ∃ v, e = .returned v ∧ AnsZ B w' v (fl s a d) ∧ Below w.heap.size w w' := by
  cases s <;> cases x
  · exact floor_any00 hf h hB
  · exact floor_any01 hf h hB
  · exact floor_any10 hf h hB
  · exact floor_any11 hf h hB
end Go.Proofs.YthfkkcfjneppmaaDoor
namespace Go.Proofs.YthfkkcfjneppmaaDoor
open Go.RowKit
set_option maxRecDepth 20000
set_option maxHeartbeats 0
structure UpRel (w : World) (g n : Nat) (zs : List Nat) (s ov k : Nat) (dk : List Nat) (wr : World) : Prop where
  wrs : Wr g 0 n w wr
  row : Row wr g 0 n dk
  lo : dk.take (n - k) = zs.take (n - k)
  sum : valB B64 (dk.drop (n - k)) + B64 ^ k * ov = 2 ^ s * valB B64 (zs.drop (n - k)) + cin zs s (n - k)

theorem getD_of_take {dk zs : List Nat} {m j : Nat} (h : dk.take m = zs.take m) (hj : j < m) : dk.getD j 0 = zs.getD j 0 := by
  have := congrArg (fun l : List Nat => l[j]?) h
  simp only [List.getElem?_take, hj, if_true] at this
  rw [List.getD_eq_getElem?_getD, List.getD_eq_getElem?_getD, this]
theorem drop_set_at (dk : List Nat) (a y : Nat) (ha : a < dk.length) : (dk.set a y).drop a = y :: dk.drop (a + 1) := by
  rw [drop_getD _ a (by simpa using ha), getD_set dk a y a ha, if_pos rfl, drop_set_lt]
theorem take_set_at (dk : List Nat) (a y : Nat) : (dk.set a y).take a = dk.take a := by
  rw [List.take_set, List.set_eq_of_length_le (by simp; omega)]
theorem take_of_take {dk zs : List Nat} {m j : Nat} (h : dk.take m = zs.take m) (hj : j ≤ m) : dk.take j = zs.take j := by
  have := congrArg (List.take j) h
  rw [List.take_take, List.take_take, Nat.min_eq_left hj] at this
  exact this

theorem UpRel.step {w : World} {g n : Nat} {zs : List Nat} {s ov k : Nat} {dk : List Nat} {wr wr' : World} (h : UpRel w g n zs s ov k dk wr) (hk : k < n) (hz : zs.length = n) {d : Nat}
    (hd : d = shlW (dk.getD (n - 1 - k) 0) s + cin zs s (n - 1 - k)) (hw : Wr g 0 n w wr') (hr : Row wr' g 0 n (dk.set (n - 1 - k) d)) : UpRel w g n zs s ov (k + 1) (dk.set (n - 1 - k) d) wr' := by
  have hl := h.row.len
  have e : n - (k + 1) = n - 1 - k := by omega
  have e2 : n - 1 - k + 1 = n - k := by omega
  refine ⟨hw, hr, ?_, ?_⟩
  · rw [e, take_set_at]; exact take_of_take h.lo (by omega)
  · rw [e, drop_set_at dk _ d (by omega), e2]
    have h1 := h.sum
    rw [← e2] at h1
    have hdz : d = shlW (zs.getD (n - 1 - k) 0) s + cin zs s (n - 1 - k) := by rw [hd, getD_of_take h.lo (by omega)]
    rw [← e2]
    exact up_step (by omega) hdz h1
structure DnRel (w : World) (g n : Nat) (zs : List Nat) (s k : Nat) (dk : List Nat) (wr : World) : Prop where
  wrs : Wr g 0 n w wr
  row : Row wr g 0 n dk
  hi : dk.drop k = zs.drop k
  sum : 2 ^ s * valB B64 (dk.take k) + cout zs s 0 = valB B64 (zs.take k) + B64 ^ k * cout zs s k

theorem DnRel.step {w : World} {g n : Nat} {zs : List Nat} {s k : Nat} {dk : List Nat} {wr wr' : World} (h : DnRel w g n zs s k dk wr) (hk : k < n) (hz : zs.length = n) (hs : s ≤ 64) {d : Nat}
    (hd : d = dk.getD k 0 / 2 ^ s + 2 ^ (64 - s) * cout zs s (k + 1)) (hw : Wr g 0 n w wr') (hr : Row wr' g 0 n (dk.set k d)) : DnRel w g n zs s (k + 1) (dk.set k d) wr' := by
  have hl := h.row.len
  refine ⟨hw, hr, ?_, ?_⟩
  · rw [drop_set_lt]; exact drop_succ_of_drop h.hi
  · rw [take_set_succ dk k d (by omega), valB_snoc, List.length_take, hl, Nat.min_eq_left (by omega)]
    exact down_step hs (by rw [hd, getD_of_drop h.hi]) h.sum (by omega)

theorem sdn_any (g n c s : Nat) (zs : List Nat) (w : World) (hz : Row w g 0 n zs) (hnc : n ≤ c) (hbig : c ≤ 9223372036854775807) (hs : s < 64) :
    Calls Tryd.prog 95 #[.slice (some ⟨g, 0, none⟩) n c, .int .i64 s] w fun e w' =>
      ∃ zs', e = .returned (.tuple #[]) ∧ Wr g 0 n w w' ∧ Row w' g 0 n zs' ∧ valB B64 zs' = valB B64 zs / 2 ^ s := by
  have hl := hz.len
  go_enter Tryd.func95, Tryd.ntmps95
  go_wp2
  go_loopw [4, 7] (fun _ i wr => ∃ (k : Nat) (dk : List Nat), k ≤ n ∧ i = .int .i64 k ∧ DnRel w g n zs s k dk wr) (fun _ i _ => n - (intOf i).toNat)
  case atStart => exact ⟨0, zs, Nat.zero_le _, rfl, Wr.refl _ _ _ _, hz, rfl, by simp [valB]⟩
  case round =>
    obtain ⟨k, dk, hk, rfl, hR⟩ := hrel
    by_cases hlt : k < n
    · obtain ⟨x, hx⟩ : ∃ x, x = dk.getD k 0 := ⟨_, rfl⟩
      have HR : Hid (DnRel w g n zs s k dk wr) := hR
      have HX : Hid (x = dk.getD k 0) := hx
      have hxb : x < B64 := by rw [hx]; exact hR.row.dig.getD B64_pos _
      have hcx : wr.cell? ⟨g, k, none⟩ = some (U x) := by
        have := hR.row.cell k hlt
        rw [← hx, Nat.zero_add] at this; exact this
      have hfx : wr.frozen? ⟨g, k, none⟩ = false := by
        have := hR.row.frozen k hlt
        rw [Nat.zero_add] at this; exact this
      by_cases hlast : n ≤ k + 1
      · clear hR hx
        go_wp2
        go_roundw
        case rel =>
          have hh := HR.out
          have hxx := HX.out
          rw [walk_shr]
          refine ⟨k + 1, dk.set k (x / 2 ^ s), by omega, by go_num, ?_⟩
          refine hh.step hlt hl (by omega) ?_ (hh.wrs.setCell k ⟨by omega, by omega⟩ _) ?_
          · rw [← hxx]; unfold cout
            rw [List.getD_eq_getElem?_getD, List.getElem?_eq_none (by omega)]; simp
          · have h1 := hh.row.set k (x / 2 ^ s) hlt (Nat.lt_of_le_of_lt (Nat.div_le_self _ _) hxb)
            rw [Nat.zero_add] at h1; exact h1
        case measure => simp [intOf]; omega
      · obtain ⟨z, hy⟩ : ∃ z, z = dk.getD (k + 1) 0 := ⟨_, rfl⟩
        have hcz : wr.cell? ⟨g, k + 1, none⟩ = some (U z) := by
          have := hR.row.cell (k + 1) (by omega)
          rw [← hy, Nat.zero_add] at this; exact this
        have HY : Hid (z = dk.getD (k + 1) 0) := hy
        clear hR hx hy
        go_wp2
        go_region
        go_wp2
        go_roundw
        case rel =>
          have hh := HR.out
          have hxx := HX.out
          have hyy := HY.out
          have hxd : x / 2 ^ s < B64 := Nat.lt_of_le_of_lt (Nat.div_le_self _ _) hxb
          rw [walk_down x z s (by omega) hxb, walk_shr]
          refine ⟨k + 1, dk.set k (x / 2 ^ s + 2 ^ (64 - s) * (z % 2 ^ s)), by omega, by go_num, ?_⟩
          refine hh.step hlt hl (by omega) ?_ (((hh.wrs.setCell k ⟨by omega, by omega⟩ _).setCell k ⟨by omega, by omega⟩ _).drew) ?_
          · rw [← hxx]; unfold cout
            rw [hyy, getD_of_drop (drop_succ_of_drop hh.hi)]
          · have h1 := (hh.row.set k (x / 2 ^ s) hlt hxd).set k _ hlt (down_lt x z s (by omega) hxb)
            rw [Nat.zero_add, List.set_set] at h1
            exact h1.drew
        case measure => simp [intOf]; omega
    · obtain rfl : k = n := by omega
      have HR : Hid (DnRel w g k zs s k dk wr) := hR
      clear hR
      go_wp2
      go_end0
      have hh := HR.out
      refine ⟨dk, rfl, hh.wrs, hh.row, ?_⟩
      have h1 := hh.sum
      have hlk := hh.row.len
      rw [List.take_of_length_le (by omega), List.take_of_length_le (by omega)] at h1
      have h2 : cout zs s k = 0 := by unfold cout; rw [List.getD_eq_getElem?_getD, List.getElem?_eq_none (by omega)]; simp
      have h3 : cout zs s 0 < 2 ^ s := Nat.mod_lt _ (Nat.two_pow_pos _)
      rw [h2, Nat.mul_zero, Nat.add_zero] at h1
      rw [← h1, Nat.mul_add_div (Nat.two_pow_pos _), Nat.div_eq_of_lt h3, Nat.add_zero]
theorem lt_pow_bits (x K : Nat) : x < 2 ^ K ↔ bitsN x ≤ K := by
  constructor
  · intro h
    by_cases h0 : x = 0
    · subst h0; simp [bitsN]
    · have h1 := bitsN_le x h0
      have h2 : bitsN x - 1 < K := (Nat.pow_lt_pow_iff_right (by decide : 1 < 2)).1 (Nat.lt_of_le_of_lt h1 h)
      omega
  · intro h
    exact Nat.lt_of_lt_of_le (bitsN_lt x) (Nat.pow_le_pow_right (by decide) h)
theorem LIM_two (k : Nat) (hk : k = 524288) : LIM = 2 ^ k := by
  obtain ⟨K, hK⟩ : ∃ K, K = 8192 := ⟨_, rfl⟩
  rw [LIM_eq K hK, B64_pow, show 64 * K = k by omega]
theorem lim_bits (x : Nat) : x < LIM ↔ bitsN x ≤ 524288 := by
  obtain ⟨K, hK⟩ : ∃ K, K = 524288 := ⟨_, rfl⟩
  rw [LIM_two K hK, lt_pow_bits, hK]
theorem div_pow_zero {a n : Nat} (h : bitsN a ≤ n) : a / 2 ^ n = 0 := Nat.div_eq_of_lt ((lt_pow_bits a n).2 h)
theorem len_bits {xs : List Nat} {a m : Nat} (hx : Nf B64 xs a) (hl : xs.length = m) : bitsN a ≤ 64 * m := by
  rw [← lt_pow_bits, ← B64_pow]; exact (hx.len_le B64_one).1 (by omega)
theorem drop_div {xs : List Nat} {a k : Nat} (hx : Nf B64 xs a) (hk : k ≤ xs.length) : valB B64 (xs.drop k) = a / B64 ^ k := by
  have h1 := valB_split B64 xs k hk
  have h2 := valB_lt B64_pos (hx.dig.take k)
  rw [List.length_take, Nat.min_eq_left hk] at h2
  rw [hx.val] at h1
  rw [h1, Nat.add_mul_div_left _ _ (Nat.pow_pos B64_pos), Nat.div_eq_of_lt h2, Nat.zero_add]
theorem shr_split (n a : Nat) : a / B64 ^ (n / 64) / 2 ^ (n % 64) = a / 2 ^ n := by
  rw [B64_pow, Nat.div_div_eq_div_mul, ← Nat.pow_add, Nat.div_add_mod]
theorem Own.empty (B : Nat) (w : World) (p : Option Addr) : Own B w p 0 [] := ⟨rfl, Dig.nil _, .inl rfl⟩
theorem At.drop {w : World} {g off n c : Nat} {xs : List Nat} (h : At w (some ⟨g, off, none⟩) n c xs) (k : Nat) (hk : k < n) : At w (some ⟨g, off + k, none⟩) (n - k) (n - k) (xs.drop k) := by
  have h1 := h.len; have h2 := h.cap; have h3 := h.big
  refine ⟨by rw [List.length_drop, h1], Nat.le_refl _, by omega, h.dig.drop k, .inr ⟨g, off + k, rfl, fun j hj => ?_⟩⟩
  obtain ⟨g', off', hp, hc⟩ := h.cells.resolve_left (by omega)
  simp only [Option.some.injEq, Addr.mk.injEq, and_true] at hp
  obtain ⟨rfl, rfl⟩ := hp
  have e : (xs.drop k).getD j 0 = xs.getD (k + j) 0 := by rw [List.getD_eq_getElem?_getD, List.getD_eq_getElem?_getD, List.getElem?_drop]
  rw [e, Nat.add_assoc]; exact hc (k + j) (by omega)

theorem shr_nf {p : Option Addr} {m c : Nat} {xs : List Nat} {a : Nat} {w : World} (h : At w p m c xs) (hx : Nf B64 xs a) (hm : m ≤ 8192) (n : Nat) (hn : n ≤ 9223372036854775807) :
    Calls Tryd.prog 84 #[.slice p m c, .int .i64 n] w fun e w' =>
      (∃ p' m' zs, e = .returned (.tuple #[.slice p' m' m', .int .i64 0]) ∧ Own w.heap.size w' p' m' zs ∧ Nf B64 zs (a / 2 ^ n) ∧ m' ≤ 8192) ∧ Below w.heap.size w w' := by
  have fx := hx.form (by rw [h.len]; exact hm)
  have hl := h.len
  have hcap := h.cap
  have HX : Hid (Nf B64 xs a) := hx
  have hbm := len_bits hx hl
  clear hx
  go_enter Tryd.func84, Tryd.ntmps84
  go_wp2_with fail
  refine (form_true h fx).mono ?_
  rintro e w' ⟨rfl, hw⟩
  obtain rfl := hw.symm
  clear hw fx
  go_wp2_with fail
  refine (bits_any h (by omega)).mono ?_
  rintro e w' ⟨rfl, hw⟩
  obtain rfl := hw.symm
  clear hw
  rw [HX.out.val]
  by_cases hbig : bitsN a ≤ n
  · have HZ : Hid (a / 2 ^ n = 0) := div_pow_zero hbig
    go_wp2_with fail
    go_ret2
    exact ⟨⟨none, 0, [], rfl, Own.empty _ _ _, by rw [HZ.out]; exact Nf.nil _, by omega⟩, Below.refl _ _⟩
  · obtain ⟨g, off, rfl, _⟩ := h.cells.resolve_left (by omega)
    have hkm : n / 64 < m := by omega
    go_wp2_with fail
    rw [show ((n : Int) / 64) = ((n / 64 : Nat) : Int) by omega]
    refine (cut_row g off m c (n / 64) _ hcap (by omega)).mono ?_
    rintro e w1 ⟨rfl, r, hw⟩
    obtain rfl := hw.symm
    clear hw
    rw [cutOff_lt hkm]
    have A1 := (h.drop (n / 64) hkm).drewN r
    go_wp2_with fail
    refine (copied_any A1 (m - n / 64) (Nat.le_refl _) (by omega)).mono ?_
    rintro e w2 ⟨g2, rfl, hg, hblk, hb⟩
    rw [Nat.sub_self, List.replicate_zero, List.append_nil] at hblk
    have hr := hblk.row A1.dig
    rw [A1.len] at hr
    go_wp2_with fail
    rw [show ((n : Int) % 64) = ((n % 64 : Nat) : Int) by omega]
    refine (sdn_any g2 (m - n / 64) (m - n / 64) (n % 64) _ _ hr (Nat.le_refl _) (by omega) (by omega)).mono ?_
    rintro e w3 ⟨zs, rfl, hwr, hrow, hval⟩
    rw [drop_div HX.out (by omega), shr_split] at hval
    have A3 := hrow.at_ (Nat.le_refl _) (by unfold maxLen; omega)
    have hN := Nf.trim hrow.dig
    rw [hval] at hN
    have HV : Hid (Nf B64 (trimL zs) (a / 2 ^ n)) := hN
    have hb3 : Below w.heap.size w w3 := (bDrewN (Below.refl _ _) r).trans (hb.trans (hwr.below hg))
    clear hval hN hblk hr hb A1
    go_wp2_with fail
    refine (trim_any A3).mono ?_
    rintro e w4 ⟨p', m', rfl, hm', hp', hw⟩
    obtain rfl := hw.symm
    have HM : Hid (m' = (trimL zs).length) := hm'
    clear hw hm'
    go_wp2_with fail
    go_ret2
    have e1 := HM.out
    have e2 := trimL_length_le zs
    have e3 := hrow.len
    exact ⟨⟨p', m', trimL zs, rfl, hrow.own hg e1 hp', HV.out, by omega⟩, hb3⟩
end Go.Proofs.YthfkkcfjneppmaaDoor
