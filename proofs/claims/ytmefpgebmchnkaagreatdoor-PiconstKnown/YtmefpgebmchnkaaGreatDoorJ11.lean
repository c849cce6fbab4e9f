import Derived.Test.YtmefpgebmchnkaaGreatDoorJ10
import Derived.Deep.RegionWith
import Derived.Test.YtmefpgebmchnkaaGreatDoorJ8
import Derived.Deep.LoopGhost
import Derived.Shelf.Spec.TrailingZeros
import Derived.Test.YtmefpgebmchnkaaGreatDoorJ9
import Derived.Laws.EntriesVeiled
namespace Go.Proofs.YtmefpgebmchnkaaGreatDoor
open Go.RowKit Go.Shelf
set_option maxRecDepth 20000
set_option maxHeartbeats 0
theorem At32.setOther {w : World} {g off n c : Nat} {xs : List Nat} (h : At32 w (some ⟨g, off, none⟩) n c xs) (g2 o2 : Nat) (v : Value) (hne : g ≠ g2) : At32 (w.setCell ⟨g2, o2, none⟩ v) (some ⟨g, off, none⟩) n c xs := by
  refine ⟨h.len, h.cap, h.big, h.dig, ?_⟩
  rcases h.cells with h0 | ⟨g', o', he, hcl⟩
  · exact .inl h0
  · refine .inr ⟨g', o', he, fun j hj => ?_⟩
    simp only [Option.some.injEq, Addr.mk.injEq, and_true] at he
    rw [World.cell?_setCell_other _ _ _ _ (by intro e; apply hne; have := congrArg Addr.block e; simp at this; omega)]
    exact hcl j hj
theorem At.setOther {w : World} {g off n c : Nat} {xs : List Nat} (h : At w (some ⟨g, off, none⟩) n c xs) (g2 o2 : Nat) (v : Value) (hne : g ≠ g2) : At (w.setCell ⟨g2, o2, none⟩ v) (some ⟨g, off, none⟩) n c xs := by
  refine ⟨h.len, h.cap, h.big, h.dig, ?_⟩
  rcases h.cells with h0 | ⟨g', o', he, hcl⟩
  · exact .inl h0
  · refine .inr ⟨g', o', he, fun j hj => ?_⟩
    simp only [Option.some.injEq, Addr.mk.injEq, and_true] at he
    rw [World.cell?_setCell_other _ _ _ _ (by intro e; apply hne; have := congrArg Addr.block e; simp at this; omega)]
    exact hcl j hj

theorem mk04 {p : Option Addr} {n c : Nat} {xs : List Nat} {w : World} (s : Bool) (h : At32 w p n c xs) (hn : n ≤ 35184372088832) :
    Calls Tryz.prog 26 #[.bool s, .slice p n c] w fun e w' => ∃ g m, m = (trimL xs).length ∧ e = .returned (.agg #[.bool (s && decide (0 < m)), .slice (some ⟨g, 0, none⟩) m m]) ∧ w.heap.size ≤ g ∧ At32 w' (some ⟨g, 0, none⟩) m m (trimL xs) ∧ Below w.heap.size w w' := by
  have hd := h.dig.trimL
  have hle := trimL_length_le xs
  have hlx := h.len
  obtain ⟨zs, hzs⟩ : ∃ zs, zs = trimL xs := ⟨_, rfl⟩
  rw [← hzs] at hd hle
  rw [← hzs]
  have HZS : Hid (zs = trimL xs) := hzs
  clear hzs
  go_enter Tryz.func26, Tryz.ntmps26
  go_wp2_with fail
  have B0 : Box (w.alloc (.cells #[.bool false, .slice none 0 0] 51)) w.heap.size (.bool false) (.slice none 0 0) := ⟨by go_simp, by go_simp, by go_simp, by go_simp⟩
  refine (rnorm_any (h.alloc _) hn).mono ?_
  rintro e w1 ⟨g, rfl, hg, hblk, hb⟩
  rw [← HZS.out] at hblk ⊢
  obtain ⟨c0, c1, f0, f1⟩ := B0.below hb
  have hbw := Below.on (below1 w _) hb
  have HA : Hid (At32 w1 (some ⟨g, 0, none⟩) zs.length zs.length zs) := hblk.at_ hd rfl (by unfold maxLen; omega)
  have hg1 : w.heap.size + 1 ≤ g := by simp at hg; exact hg
  clear B0 hb hblk hg hle hlx h
  obtain ⟨m, hm⟩ : ∃ m, m = zs.length := ⟨_, rfl⟩
  rw [← hm] at HA ⊢
  have HM : Hid (m = zs.length) := hm
  clear hm
  have key : ∀ r : Bool, Hid (At32 ((w1.setCell ⟨w.heap.size, 0, none⟩ (.bool r)).setCell ⟨w.heap.size, 1, none⟩ (.slice (some ⟨g, 0, none⟩) m m)) (some ⟨g, 0, none⟩) m m zs) := by
    intro r
    have hA := HA.out
    refine ⟨hA.len, hA.cap, hA.big, hA.dig, ?_⟩
    rcases hA.cells with h0 | ⟨g', o', he, hcl⟩
    · exact .inl h0
    · refine .inr ⟨g', o', he, fun j hj => ?_⟩
      simp only [Option.some.injEq, Addr.mk.injEq, and_true] at he
      have hne : g' ≠ w.heap.size := by omega
      rw [World.cell?_setCell_other _ _ _ _ (by intro e; apply hne; have := congrArg Addr.block e; simp at this; omega), World.cell?_setCell_other _ _ _ _ (by intro e; apply hne; have := congrArg Addr.block e; simp at this; omega)]
      exact hcl j hj
  cases s
  · go_wp2_with fail
    exact bodyPost_ret (v := .agg #[.bool false, .slice (some ⟨g, 0, none⟩) m m]) (by rw [results_cell1 rfl]; go_simp) rfl ⟨g, m, HM.out, rfl, by omega, (key false).out, bSet (bSet hbw _ _ _ (Nat.le_refl _)) _ _ _ (Nat.le_refl _)⟩
  · by_cases hm0 : 0 < m
    · have hd0 : decide ((0 : Int) < (m : Int)) = true := decide_eq_true (by omega)
      go_wp2_with fail
      exact bodyPost_ret (v := .agg #[.bool true, .slice (some ⟨g, 0, none⟩) m m]) (by rw [results_cell1 rfl]; go_simp) rfl ⟨g, m, HM.out, by simp [hm0], by omega, (key true).out, bSet (bSet hbw _ _ _ (Nat.le_refl _)) _ _ _ (Nat.le_refl _)⟩
    · have hd0 : decide ((0 : Int) < (m : Int)) = false := decide_eq_false (by omega)
      go_wp2_with fail
      exact bodyPost_ret (v := .agg #[.bool false, .slice (some ⟨g, 0, none⟩) m m]) (by rw [results_cell1 rfl]; go_simp) rfl ⟨g, m, HM.out, by simp [hm0], by omega, (key false).out, bSet (bSet hbw _ _ _ (Nat.le_refl _)) _ _ _ (Nat.le_refl _)⟩

theorem from04 {p : Option Addr} {n c : Nat} {xs : List Nat} {w : World} (s : Bool) (h : At w p n c xs) (hn : n ≤ 17592186044416) :
    Calls Tryz.prog 43 #[ZV s p n c] w fun e w' => ∃ p' m zs, e = .returned (.agg #[.bool (s && decide (0 < m)), .slice p' m m]) ∧ At32 w' p' m m zs ∧ Nf B32 zs (valB B64 xs) ∧ m ≤ 2 * n ∧ Below w.heap.size w w' := by
  go_enter Tryz.func43, Tryz.ntmps43
  go_wp2_with fail
  have B0 : Box ((w.alloc (.cells #[.bool s, .slice p n c] 30)).alloc (.cells #[.bool false, .slice none 0 0] 51)) w.heap.size (.bool s) (.slice p n c) := ⟨by go_simp, by go_simp, by go_simp, by go_simp⟩
  have B1 : Box ((w.alloc (.cells #[.bool s, .slice p n c] 30)).alloc (.cells #[.bool false, .slice none 0 0] 51)) (w.heap.size + 1) (.bool false) (.slice none 0 0) := ⟨by go_simp, by go_simp, by go_simp, by go_simp⟩
  have hbw : Below w.heap.size w ((w.alloc (.cells #[.bool s, .slice p n c] 30)).alloc (.cells #[.bool false, .slice none 0 0] 51)) := below2 w _ _
  have hsW : ((w.alloc (.cells #[.bool s, .slice p n c] 30)).alloc (.cells #[.bool false, .slice none 0 0] 51)).heap.size = w.heap.size + 1 + 1 := by simp
  generalize ((w.alloc (.cells #[.bool s, .slice p n c] 30)).alloc (.cells #[.bool false, .slice none 0 0] 51)) = W at *
  obtain ⟨hs, ehs⟩ : ∃ hs, hs = w.heap.size := ⟨_, rfl⟩
  have HHS : Hid (hs = w.heap.size) := ehs
  rw [← ehs] at B0 B1 hsW ⊢
  have HSW : Hid (W.heap.size = hs + 1 + 1) := hsW
  have HBW : Hid (Below w.heap.size w W.drew) := bDrew hbw
  have HAT : Hid (At W.drew p n c xs) := (h.below hbw).drewN 1
  have X0 : Hid (Box W.drew hs (.bool s) (.slice p n c)) := ⟨B0.c0, B0.c1, B0.f0, B0.f1⟩
  have X1 : Hid (Box W.drew (hs + 1) (.bool false) (.slice none 0 0)) := ⟨B1.c0, B1.c1, B1.f0, B1.f1⟩
  obtain ⟨c00, c01, f00, f01⟩ := B0
  obtain ⟨c10, c11, f10, f11⟩ := B1
  clear ehs hsW hbw h
  go_region_with (first
    | (go_at_call 75; refine (from_any HAT.out hn).mono ?_; rintro e w1 ⟨g1, zs, rfl, hg1, hblk1, hnf1, hl1, hb1⟩; obtain ⟨d00, d01, e00, e01⟩ := X0.out.below hb1; have Y1 : Hid (Box w1 (hs + 1) (.bool false) (.slice none 0 0)) := X1.out.below hb1; have HA1 : Hid (At32 w1 (some ⟨g1, 0, none⟩) zs.length zs.length zs) := hblk1.at_ hnf1.dig rfl (by unfold maxLen; omega); have HN1 : Hid (Nf B32 zs (valB B64 xs)) := hnf1; have HL1 : Hid (zs.length ≤ 2 * n) := hl1; have HB1 : Hid (Below w.heap.size w w1) := Below.on HBW.out hb1; have HS1 : Hid (hs + 1 + 1 ≤ w1.heap.size) := Nat.le_trans (Nat.le_of_eq HSW.out.symm) hb1.size; clear hblk1 hnf1 hl1 hb1 hg1)
    | (go_at_call 26; refine (mk04 s HA1.out (by have := HL1.out; omega)).mono ?_; rintro e w2 ⟨g2, m2, hm2, rfl, hg2, hA2, hb2⟩; obtain ⟨c10, c11, f10, f11⟩ := Y1.out.below hb2; have HM2 : Hid (m2 = (trimL zs).length) := hm2; have HA2 : Hid (At32 w2 (some ⟨g2, 0, none⟩) m2 m2 (trimL zs)) := hA2; have HB2 : Hid (Below w.heap.size w w2) := Below.on HB1.out hb2; have HG2 : Hid (hs + 1 + 1 ≤ g2) := Nat.le_trans HS1.out hg2; clear hm2 hA2 hb2 hg2))
  all_goals
    (obtain ⟨sb, esb⟩ : ∃ sb, sb = (s && decide (0 < m2)) := ⟨_, rfl⟩
     rw [← esb]
     have HSB : Hid (sb = (s && decide (0 < m2))) := esb
     clear esb
     go_wp2_with fail
     refine bodyPost_ret (v := .agg #[.bool sb, .slice (some ⟨g2, 0, none⟩) m2 m2]) (by rw [results_cell1 rfl]; go_simp) rfl ⟨_, m2, trimL zs, by rw [HSB.out], (HA2.out.setOther _ _ _ (by have := HG2.out; omega)).setOther _ _ _ (by have := HG2.out; omega), ?_, ?_, bSet (bSet HB2.out _ _ _ (by have := HHS.out; omega)) _ _ _ (by have := HHS.out; omega)⟩
     · rw [trimL_of_Top HN1.out.top]; exact HN1.out
     · have h1 := HM2.out; have h2 := HL1.out; rw [trimL_of_Top HN1.out.top] at h1; omega)
def Told (z : Int) (s : Bool) (m : Nat) (zs : List Nat) (er : Int) : Prop :=
  (z.natAbs < LIM ∧ s = decide (z < 0) ∧ Nf B64 zs z.natAbs ∧ m ≤ 8192 ∧ er = 0) ∨ (LIM ≤ z.natAbs ∧ s = false ∧ zs = [] ∧ m = 0 ∧ er = 5)
theorem AnsI.any {B : Nat} {w' : World} {e : Ending} {z : Int} (h : AnsI B w' e z) : ∃ s p m zs er, e = .returned (.tuple #[ZV s p m m, .int .i64 er]) ∧ At w' p m m zs ∧ Told z s m zs er := by
  rcases h with ⟨hz, p, m, zs, rfl, ho, hn, hm⟩ | ⟨hz, rfl⟩
  · exact ⟨_, p, m, zs, 0, rfl, ho.at_ hm, .inl ⟨hz, rfl, hn, hm, rfl⟩⟩
  · exact ⟨false, none, 0, [], 5, rfl, At.empty _ none 0 (by decide), .inr ⟨hz, rfl, rfl, rfl, rfl⟩⟩
theorem Told.inj {z : Int} {s s' : Bool} {m m' : Nat} {zs zs' : List Nat} {er er' : Int} (h : Told z s m zs er) (k : Told z s' m' zs' er') : s = s' ∧ zs = zs' ∧ er = er' := by
  rcases h with ⟨hz, rfl, hn, hm, rfl⟩ | ⟨hz, rfl, rfl, rfl, rfl⟩ <;> rcases k with ⟨kz, rfl, kn, km, rfl⟩ | ⟨kz, rfl, rfl, rfl, rfl⟩
  · exact ⟨rfl, hn.inj B64_one kn, rfl⟩
  · omega
  · omega
  · exact ⟨rfl, rfl, rfl⟩
theorem Told.er {z : Int} {s : Bool} {m : Nat} {zs : List Nat} {er : Int} (h : Told z s m zs er) : er = 0 ∨ er = 5 := by
  rcases h with ⟨_, _, _, _, rfl⟩ | ⟨_, _, _, _, rfl⟩
  · exact .inl rfl
  · exact .inr rfl
theorem Told.ok {z : Int} {s : Bool} {m : Nat} {zs : List Nat} {w : World} {p : Option Addr} (h : Told z s m zs 0) (a : At w p m m zs) : Num w p m m zs z.natAbs ∧ s = decide (z < 0) := by
  rcases h with ⟨_, h1, h2, h3, _⟩ | ⟨_, _, _, _, h⟩
  · exact ⟨⟨a, h2, h3⟩, h1⟩
  · exact absurd h (by decide)
theorem Told.no {z : Int} {s : Bool} {m : Nat} {zs : List Nat} (h : Told z s m zs 5) : LIM ≤ z.natAbs := by
  rcases h with ⟨_, _, _, _, h⟩ | ⟨h, _⟩
  · exact absurd h (by decide)
  · exact h
theorem iv_abs (z : Int) : iv (decide (z < 0)) z.natAbs = z := by
  unfold iv
  by_cases h : z < 0
  · simp only [h, decide_true, if_true]; omega
  · simp only [h, decide_false, Bool.false_eq_true, if_false]; omega
theorem iv_natAbs (s : Bool) (a : Nat) : (iv s a).natAbs = a := by cases s <;> simp [iv]
theorem sgn_pos (z : Int) : decide (z < 0) = true → 0 < z.natAbs := by intro h; have := of_decide_eq_true h; omega
-- the document's side
theorem nf32_lt {zs : List Nat} {v K : Nat} (h : Nf B32 zs v) (hl : zs.length ≤ K) : v < B32 ^ K := by
  rw [← h.val]
  exact Nat.lt_of_lt_of_le (valB_lt B32_pos h.dig) (Nat.pow_le_pow_right B32_pos hl)
theorem nf32_ge {zs : List Nat} {v K : Nat} (h : Nf B32 zs v) (hl : K < zs.length) : B32 ^ K ≤ v := by
  rw [← h.val]
  exact Nat.le_trans (Nat.pow_le_pow_right B32_pos (by omega)) (valB_pos B32_pos (by intro e; rw [e] at hl; simp at hl) h.top)

def DocIs (v : Nat) (us : List Nat) (f : Int) : Prop := (v < LIM ∧ Nf B64 us v ∧ f = 0) ∨ (LIM ≤ v ∧ us = [] ∧ f = 5)
theorem digit_bit {b e : Nat} (hb : b = 2 ^ e) {xs : List Nat} (hd : Dig b xs) {D R : Nat} (hD : D < xs.length) (hR : R < e) : xs.getD D 0 / 2 ^ R % 2 = valB b xs / 2 ^ (e * D + R) % 2 := by
  have hbp : 0 < b := by rw [hb]; exact Nat.pow_pos (by decide)
  have h1 : valB b (xs.drop D) = valB b xs / b ^ D := by
    have h2 := valB_split b xs D (Nat.le_of_lt hD)
    have h3 := valB_lt hbp (hd.take D)
    rw [List.length_take, Nat.min_eq_left (Nat.le_of_lt hD)] at h3
    rw [h2, Nat.add_mul_div_left _ _ (Nat.pow_pos hbp), Nat.div_eq_of_lt h3, Nat.zero_add]
  have h4 := valB_drop b xs D hD
  have h5 : b ^ D = 2 ^ (e * D) := by rw [hb, ← Nat.pow_mul]
  rw [Nat.pow_add, ← Nat.div_div_eq_div_mul, ← h5, ← h1, h4]
  obtain ⟨k, hk⟩ : ∃ k, e = R + 1 + k := ⟨e - R - 1, by omega⟩
  have h6 : b = 2 ^ R * (2 * 2 ^ k) := by rw [hb, hk, Nat.pow_add, Nat.pow_add, Nat.pow_one, Nat.mul_assoc]
  rw [h6, Nat.mul_assoc (2 ^ R), Nat.add_mul_div_left _ _ (Nat.pow_pos (by decide)), Nat.mul_assoc 2, Nat.add_mul_mod_self_left]
theorem and_one_u64q (i : Nat) (_hi : i < B64) : bits BinOp.and IntKind.u64 (i : Int) 1 = ((i % 2 : Nat) : Int) := by
  have h1 : (BitVec.ofInt 64 1).toNat = 2 ^ 1 - 1 := by decide
  have key : (BitVec.ofInt 64 (i : Int) &&& BitVec.ofInt 64 1).toNat = ((i : Int) % ((2 ^ 64 : Nat) : Int)).toNat % 2 ^ 1 := by
    rw [BitVec.toNat_and, BitVec.toNat_ofInt, h1, Nat.and_two_pow_sub_one_eq_mod]
  show IntKind.u64.wrap ((BitVec.ofInt 64 (i : Int) &&& BitVec.ofInt 64 1).toNat : Nat) = _
  rw [key]
  simp only [IntKind.wrap, IntKind.signed, IntKind.bits]
  simp
  omega

theorem bit_any {p : Option Addr} {n c : Nat} {xs : List Nat} {w : World} (h : At w p n c xs) (_hn : n ≤ 17592186044416) (i : Nat) (hi : i ≤ 9223372036854775807) :
    Calls Tryz.prog 101 #[.slice p n c, .int .i64 i] w fun e w' => e = .returned (.bool (decide (valB B64 xs / 2 ^ i % 2 = 1))) ∧ w' = w := by
  have hl := h.len
  have cap := h.cap
  have big := h.big
  unfold maxLen at big
  obtain ⟨D, hD⟩ : ∃ D, D = i / 64 := ⟨_, rfl⟩
  obtain ⟨R, hR⟩ : ∃ R, R = i % 64 := ⟨_, rfl⟩
  have d1 : (i : Int).tdiv 64 = (D : Int) := by rw [Int.tdiv_eq_ediv_of_nonneg (by omega)]; omega
  have d2 : (i : Int).tmod 64 = (R : Int) := by rw [Int.tmod_eq_emod_of_nonneg (by omega)]; omega
  have hneg : ¬ (i : Int) < 0 := by omega
  have hDb : D ≤ 144115188075855871 := by omega
  have hR64 : R < 64 := by omega
  have hei : i = 64 * D + R := by omega
  obtain ⟨r, hr⟩ : ∃ r, r = decide (valB B64 xs / 2 ^ i % 2 = 1) := ⟨_, rfl⟩
  rw [← hr]
  by_cases hc : n ≤ D
  · have HR0 : Hid (r = false) := by
      show _ = _
      rw [hr]
      refine decide_eq_false ?_
      have h1 : valB B64 xs < 2 ^ i := by
        have h2 := valB_lt B64_pos h.dig
        rw [hl] at h2
        refine Nat.lt_of_lt_of_le h2 ?_
        rw [B64_pow]
        exact Nat.pow_le_pow_right (by decide) (by omega)
      rw [Nat.div_eq_of_lt h1]
      decide
    have hci : (n : Int) ≤ (D : Int) := by omega
    have hcb : decide (n ≤ D) = true := decide_eq_true hc
    clear hr hei hD hR h hl
    go_enter Tryz.func101, Tryz.ntmps101
    go_wp2_with fail
    go_ret
    exact ⟨by rw [HR0.out]; rfl, rfl⟩
  · have hDn : D < n := by omega
    have hcb : decide (n ≤ D) = false := decide_eq_false hc
    obtain ⟨g, off, rfl, hcs⟩ := h.cells.resolve_left (by omega)
    obtain ⟨x, hx⟩ : ∃ x, x = xs.getD D 0 := ⟨_, rfl⟩
    have hcx : w.cell? ⟨g, off + D, none⟩ = some (U x) := by rw [hx]; exact hcs D hDn
    have hxb : x < B64 := by rw [hx]; exact h.dig.getD B64_pos D
    obtain ⟨y, hy⟩ : ∃ y, y = x / 2 ^ R := ⟨_, rfl⟩
    have hyI : (x : Int) / 2 ^ R = (y : Int) := by rw [hy]; norm_cast
    have hyb : y < B64 := by rw [hy]; exact Nat.lt_of_le_of_lt (Nat.div_le_self _ _) hxb
    obtain ⟨z, hz⟩ : ∃ z, z = y % 2 := ⟨_, rfl⟩
    have hand : bits BinOp.and IntKind.u64 (y : Int) 1 = (z : Int) := by rw [hz]; exact and_one_u64q y hyb
    have HR1 : Hid (r = decide (z = 1)) := by
      show _ = _
      rw [hr, hz, hy, hx, digit_bit B64_two_pow h.dig (by rw [hl]; exact hDn) hR64, ← hei]
    have hwD : IntKind.i64.wrap (D : Int) = (D : Int) := by simp [IntKind.wrap, IntKind.signed, IntKind.bits]; omega
    clear hr hei hD hR h hl hcs hx hy hz hxb hyb
    go_enter Tryz.func101, Tryz.ntmps101
    go_wp2_with fail
    go_ret
    have hzz : ((z : Int) == 1) = decide (z = 1) := by rw [Bool.eq_iff_iff]; simp; omega
    exact ⟨by rw [HR1.out, ← hzz]; rfl, rfl⟩
def TzIs (v k : Nat) : Prop := v % 2 ^ k = 0 ∧ v / 2 ^ k % 2 = 1
theorem TzIs.inj {v k l : Nat} (h : TzIs v k) (h' : TzIs v l) : k = l := by
  have aux : ∀ {a b : Nat}, TzIs v a → TzIs v b → ¬ a < b := by
    intro a b ha hb hab
    obtain ⟨d, hd⟩ : ∃ d, b = a + (d + 1) := ⟨b - a - 1, by omega⟩
    have h1 := Nat.dvd_of_mod_eq_zero hb.1
    obtain ⟨q, hq⟩ := h1
    have h2 := ha.2
    rw [hq, hd, Nat.pow_add, Nat.mul_assoc, Nat.mul_div_cancel_left _ (Nat.pow_pos (by decide)), Nat.pow_succ, Nat.mul_comm (2 ^ d) 2, Nat.mul_assoc, Nat.mul_mod_right] at h2
    exact absurd h2 (by decide)
  rcases Nat.lt_trichotomy k l with e | e | e
  · exact absurd e (aux h h')
  · exact e
  · exact absurd e (aux h' h)
theorem TzIs.ex : ∀ (v : Nat), 0 < v → ∃ k, TzIs v k := by
  intro v
  induction v using Nat.strongRecOn with
  | _ v ih =>
    intro hv
    rcases Nat.mod_two_eq_zero_or_one v with h | h
    · obtain ⟨k, h1, h2⟩ := ih (v / 2) (by omega) (by omega)
      refine ⟨k + 1, ?_, ?_⟩
      · rw [Nat.pow_succ, Nat.mul_comm, Nat.mod_mul, h, h1]
      · rw [Nat.pow_succ, Nat.mul_comm, ← Nat.div_div_eq_div_mul]; exact h2
    · exact ⟨0, by rw [Nat.pow_zero, Nat.mod_one], by rw [Nat.pow_zero, Nat.div_one]; exact h⟩
theorem TzIs.ge {v k n : Nat} (h : TzIs v k) (hn : v % 2 ^ n = 0) : n ≤ k := by
  rcases Nat.lt_or_ge k n with e | e
  · exfalso
    obtain ⟨d, hd⟩ : ∃ d, n = k + (d + 1) := ⟨n - k - 1, by omega⟩
    obtain ⟨q, hq⟩ := Nat.dvd_of_mod_eq_zero hn
    have h2 := h.2
    rw [hq, hd, Nat.pow_add, Nat.mul_assoc, Nat.mul_div_cancel_left _ (Nat.pow_pos (by decide)), Nat.pow_succ, Nat.mul_comm (2 ^ d) 2, Nat.mul_assoc, Nat.mul_mod_right] at h2
    exact absurd h2 (by decide)
  · exact e
def renTz : Ren := ⟨fun x => match x with | 29 => 92 | n => n, fun x => match x with | 0 => 0 | 3 => 3 | 4 => 4 | 5 => 5 | 22 => 28 | 25 => 105 | 54 => 125 | n => n, fun x => match x with | 1 => 2 | n => n⟩
theorem laysTz : Lays7.n29 Tryz.prog renTz :=
  { mixed := by kernel_rfl, f29 := Tryz.func92.trans (congrArg some (by kernel_rfl)),
    t0 := by kernel_rfl, a0 := fun w => by kernel_rfl, z0 := fun w => by kernel_rfl, v0 := fun w => by kernel_rfl, i0 := by kernel_rfl,
    t3 := Tryz.underlying3, a3 := Tryz.isAgg3, z3 := Tryz.sizeOf3, v3 := Tryz.zeroValue3, i3 := by kernel_rfl,
    t4 := Tryz.underlying4, a4 := Tryz.isAgg4, z4 := Tryz.sizeOf4, v4 := Tryz.zeroValue4, i4 := by kernel_rfl,
    t5 := Tryz.underlying5, a5 := Tryz.isAgg5, z5 := Tryz.sizeOf5, v5 := Tryz.zeroValue5, i5 := by kernel_rfl,
    t22 := Tryz.underlying28, a22 := Tryz.isAgg28, z22 := Tryz.sizeOf28, v22 := Tryz.zeroValue28, i22 := by kernel_rfl,
    t25 := Tryz.underlying105, a25 := Tryz.isAgg105, z25 := Tryz.sizeOf105, v25 := Tryz.zeroValue105, i25 := by kernel_rfl,
    t54 := Tryz.underlying125, a54 := Tryz.isAgg125, z54 := Tryz.sizeOf125, g1 := by kernel_rfl }

def Tab (w : World) : Prop := TabAt 2 Lib.deBruijn64tab w
theorem Tab.below {w w' : World} (h : Tab w) (hb : Below w.heap.size w w') : Tab w' := by
  intro j hj
  have h1 := h j hj
  have hl : 2 < w.heap.size := World.block_lt_of_cell? w _ h1
  exact (hb.cell (p := ⟨2, j, none⟩) hl).trans h1
theorem ctz_is {x : Nat} (h0 : x ≠ 0) (hx : x < B64) : TzIs x (Lib.ctz 64 x) ∧ Lib.ctz 64 x < 64 := by
  rw [B64_two_pow] at hx
  unfold Lib.ctz
  rw [if_neg h0]
  obtain ⟨m, hm, hk⟩ := Lib.ctzFrom_spec 64 x (by omega) hx
  generalize Lib.ctzFrom 64 x = k at *
  refine ⟨⟨?_, ?_⟩, hk⟩
  · rw [hm, Nat.mul_mod_right]
  · rw [hm, Nat.mul_div_cancel_left _ (Nat.pow_pos (by decide))]; omega
theorem tz_any {x r : Nat} (h0 : x ≠ 0) (hx : x < B64) (hr : TzIs x r) {w : World} (hT : Tab w) : Calls Tryz.prog 92 #[U x] w fun e w' => e = .returned (.int .i64 r) ∧ w' = w := by
  obtain ⟨h1, _⟩ := ctz_is h0 hx
  obtain rfl := hr.inj h1
  exact Any7.bits_TrailingZeros64 laysTz x (by rw [B64_eq] at hx; exact hx) w (fun _ => hT)

theorem tz_lift {xs : List Nat} (hd : Dig B64 xs) {j r : Nat} (hj : j < xs.length) (hz : valB B64 (xs.take j) = 0) (hr : TzIs (xs.getD j 0) r) (hr64 : r < 64) : TzIs (valB B64 xs) (64 * j + r) := by
  constructor
  · have h1 := valB_split B64 xs j (Nat.le_of_lt hj)
    have h2 := valB_drop B64 xs j hj
    rw [hz, Nat.zero_add, h2] at h1
    rw [h1, B64_pow, Nat.pow_add, Nat.mul_mod_mul_left]
    obtain ⟨k, hk⟩ : ∃ k, 64 = r + k := ⟨64 - r, by omega⟩
    have h3 : B64 = 2 ^ r * 2 ^ k := by rw [← Nat.pow_add, ← hk]; rfl
    rw [h3, Nat.mul_assoc, Nat.add_mul_mod_self_left, hr.1, Nat.mul_zero]
  · have h1 := digit_bit (b := B64) (e := 64) rfl hd hj hr64
    rw [← h1]
    exact hr.2

def TzO (v k : Nat) : Prop := (v = 0 ∧ k = 0) ∨ (v ≠ 0 ∧ TzIs v k)
theorem TzO.inj {v k l : Nat} (h : TzO v k) (h' : TzO v l) : k = l := by
  rcases h with ⟨h1, rfl⟩ | ⟨h1, h2⟩ <;> rcases h' with ⟨h3, rfl⟩ | ⟨h3, h4⟩
  · rfl
  · exact absurd h1 h3
  · exact absurd h3 h1
  · exact h2.inj h4
theorem TzO.ex (v : Nat) : ∃ k, TzO v k := by
  by_cases h : v = 0
  · exact ⟨0, .inl ⟨h, rfl⟩⟩
  · obtain ⟨k, hk⟩ := TzIs.ex v (by omega)
    exact ⟨k, .inr ⟨h, hk⟩⟩

theorem trail_any {p : Option Addr} {n c : Nat} {xs : List Nat} {k : Nat} {w : World} (h : At w p n c xs) (hn : n ≤ 17592186044416) (hk : TzO (valB B64 xs) k) (hT : Tab w) :
    Calls Tryz.prog 71 #[.slice p n c] w fun e w' => e = .returned (.int .i64 k) ∧ w' = w := by
  have HT : Hid (Tab w) := hT
  have HK : Hid (TzO (valB B64 xs) k) := hk
  have HD : Hid (Dig B64 xs) := h.dig
  have HL : Hid (xs.length = n) := h.len
  have cap := h.cap
  have big := h.big
  unfold maxLen at big
  have HC : Hid (n = 0 ∨ ∃ g off, p = some ⟨g, off, none⟩ ∧ ∀ j, j < n → w.cell? ⟨g, off + j, none⟩ = some (U (xs.getD j 0))) := h.cells
  clear h hk hT
  go_enter Tryz.func71, Tryz.ntmps71
  go_wp2_with fail
  go_loopg [6] n (fun gk iv wr => ∃ j : Nat, j + gk = n ∧ iv = .int .i64 j ∧ Hid (valB B64 (xs.take j) = 0) ∧ wr = w)
  case atStart => exact ⟨0, by omega, rfl, by show _ = _; simp [valB], rfl⟩
  case round =>
    obtain ⟨j, hjg, rfl, HZ, hwr⟩ := hrel
    obtain rfl := hwr.symm
    clear hwr
    cases gk with
    | zero =>
      obtain rfl : j = n := by omega
      have hnk : ¬ (j : Int) < (j : Int) := by omega
      have HK0 : Hid (k = 0) := by
        show _ = _
        have h1 := HZ.out
        rw [List.take_of_length_le (by rw [HL.out]; omega)] at h1
        exact HK.out.inj (.inl ⟨h1, rfl⟩)
      go_wp2_with fail
      go_ret
      exact ⟨ret_int (by have := HK0.out; omega), rfl⟩
    | succ gg =>
      have hjn : j < n := by omega
      obtain ⟨g, off, rfl, hcs⟩ := HC.out.resolve_left (by omega)
      obtain ⟨x, hx⟩ : ∃ x, x = xs.getD j 0 := ⟨_, rfl⟩
      have hcx : w.cell? ⟨g, off + j, none⟩ = some (U x) := by rw [hx]; exact hcs j hjn
      have hjI : (j : Int) < (n : Int) := by omega
      have hwj : IntKind.i64.wrap (j : Int) = (j : Int) := by simp [IntKind.wrap, IntKind.signed, IntKind.bits]; omega
      have hjb : j ≤ 17592186044416 := by omega
      have HXB : Hid (x < B64) := by show _ < _; rw [hx]; exact HD.out.getD B64_pos _
      clear hcs
      by_cases hx0 : x = 0
      · have HZ1 : Hid (valB B64 (xs.take (j + 1)) = 0) := by
          show _ = _
          rw [valB_take_any, HZ.out, ← hx, hx0, Nat.mul_zero]
        subst hx0
        clear hx HZ
        go_wp2_with fail
        go_roundg gg
        case measure => omega
        case rel => exact ⟨j + 1, by omega, by go_num, HZ1, rfl⟩
      · have hxI : ((x : Int) == 0) = false := by simp; omega
        obtain ⟨hr1, hr2⟩ := ctz_is hx0 HXB.out
        generalize Lib.ctz 64 x = r at *
        have HR : Hid (TzIs x r) := hr1
        have HKR : Hid (k = 64 * j + r) := by
          show _ = _
          have h1 := tz_lift HD.out (by rw [HL.out]; omega) HZ.out (hx ▸ hr1) hr2
          refine HK.out.inj (.inr ⟨fun e => ?_, h1⟩)
          have h2 := h1.2
          rw [e, Nat.zero_div] at h2
          exact absurd h2 (by decide)
        clear hr1 hx HZ
        go_wp2_with (go_at_call 92; refine (tz_any hx0 HXB.out HR.out HT.out).mono ?_; rintro e w' ⟨rfl, hw⟩; obtain rfl := hw.symm; clear hw)
        go_ret
        exact ⟨ret_int (by have := HKR.out; omega), rfl⟩
end Go.Proofs.YtmefpgebmchnkaaGreatDoor
namespace Go.Proofs.YtmefpgebmchnkaaGreatDoor
open Go.RowKit
set_option maxRecDepth 20000
set_option maxHeartbeats 0
theorem val_lt_len32 {xs ys : List Nat} (hx : Dig B32 xs) (ty : Top ys) (h : xs.length < ys.length) : valB B32 xs < valB B32 ys := by
  have h1 := valB_lt B32_pos hx
  have h2 := valB_pos B32_pos (show ys ≠ [] by intro e; subst e; simp at h) ty
  have h3 : B32 ^ xs.length ≤ B32 ^ (ys.length - 1) := Nat.pow_le_pow_right B32_pos (by omega)
  omega
theorem val_lt_top32 {xs ys : List Nat} (hx : Dig B32 xs) {n t x y : Nat} (lx : xs.length = n) (ly : ys.length = n) (ht : t < n) (hd : xs.drop (t + 1) = ys.drop (t + 1)) (ex : x = xs.getD t 0) (ey : y = ys.getD t 0) (h : x < y) : valB B32 xs < valB B32 ys := by
  have h1 := valB_lt B32_pos (hx.take t)
  rw [List.length_take, lx, Nat.min_eq_left (by omega)] at h1
  rw [valB_split B32 xs t (by omega), valB_split B32 ys t (by omega), valB_drop _ xs t (by omega), valB_drop _ ys t (by omega), hd, ← ex, ← ey]
  have h2 : B32 ^ t * (x + 1) ≤ B32 ^ t * y := Nat.mul_le_mul_left _ h
  rw [Nat.mul_add] at h2
  rw [Nat.mul_add, Nat.mul_add]
  omega

theorem docform_any {p : Option Addr} {n c : Nat} {xs : List Nat} {w : World} (h : At w p n c xs) :
    Calls Tryz.prog 41 #[.slice p n c] w fun e w' => e = .returned (.bool (formB xs)) ∧ w' = w := by
  have hl := h.len; have hcap := h.cap; have hbig := h.big
  unfold maxLen at hbig
  by_cases h1 : n ≤ 8192
  · by_cases h0 : n = 0
    · subst h0
      have hf : formB xs = true := by unfold formB; rw [decide_eq_true_iff]; omega
      have HF : Hid (formB xs = true) := hf
      clear hf hl
      go_enter Tryz.func41, Tryz.ntmps41
      go_wp2
      go_ret
      exact ⟨ret_bool HF.out.symm, rfl⟩
    · obtain ⟨g, off, rfl, hc⟩ := h.cells.resolve_left h0
      obtain ⟨x, hx⟩ : ∃ x, x = xs.getD (n - 1) 0 := ⟨_, rfl⟩
      have hcx : w.cell? ⟨g, off + (n - 1), none⟩ = some (U x) := by rw [hx]; exact hc _ (by omega)
      have h0' : ((n : Int) == 0) = false := by simp; omega
      have hf : formB xs = ((x : Int) != 0) := by
        unfold formB
        rw [hl, ← hx]
        by_cases e : x = 0
        · simp [e, h0]
        · simp [e, h1]
      have HF : Hid (formB xs = ((x : Int) != 0)) := hf
      clear hf hl hx hc
      go_enter Tryz.func41, Tryz.ntmps41
      go_wp2
      go_ret
      exact ⟨ret_bool HF.out.symm, rfl⟩
  · have hf : formB xs = false := by unfold formB; rw [decide_eq_false_iff_not]; omega
    have HF : Hid (formB xs = false) := hf
    clear hf hl
    go_enter Tryz.func41, Tryz.ntmps41
    go_wp2
    go_ret
    exact ⟨ret_bool HF.out.symm, rfl⟩

theorem rcmp_any {p q : Option Addr} {n m c d : Nat} {xs ys : List Nat} {a b : Nat} {w : World} (h : At32 w p n c xs) (k : At32 w q m d ys) (hx : Nf B32 xs a) (hy : Nf B32 ys b) :
    Calls Tryz.prog 52 #[.slice p n c, .slice q m d] w fun e w' => e = .returned (.int .i64 (cmpN a b)) ∧ ∃ r, w' = w.drewN r := by
  obtain ⟨res, hres⟩ : ∃ res, res = cmpN a b := ⟨_, rfl⟩
  rw [← hres]
  have HRES : Hid (res = cmpN a b) := hres
  have HX : Hid (Nf B32 xs a) := hx
  have HY : Hid (Nf B32 ys b) := hy
  have HLX : Hid (xs.length = n) := h.len
  have HLY : Hid (ys.length = m) := k.len
  have cap := h.cap; have big := h.big; have kcap := k.cap; have kbig := k.big
  unfold maxLen at big kbig
  clear hres hx hy
  by_cases hnm : n = m
  · subst hnm
    go_enter Tryz.func52, Tryz.ntmps52
    go_wp2_with fail
    go_loopg [5] n (fun gk iv wr => iv = .int .i64 ((gk : Int) - 1) ∧ gk ≤ n ∧ Hid (xs.drop gk = ys.drop gk) ∧ ∃ r, wr = w.drewN r)
    case atStart => exact ⟨rfl, Nat.le_refl _, by show _ = _; rw [List.drop_of_length_le (by rw [HLX.out]; omega), List.drop_of_length_le (by rw [HLY.out]; omega)], 0, by first | rfl | simp⟩
    case round =>
      obtain ⟨rfl, hgn, HD, r, rfl⟩ := hrel
      by_cases hg0 : gk = 0
      · have hr : res = 0 := HRES.out.trans (cmpN_eq (by have h0 := HD.out; rw [hg0, List.drop_zero, List.drop_zero] at h0; rw [← HX.out.val, ← HY.out.val, h0]))
        have HR : Hid (res = 0) := hr
        have hdec : decide ((0 : Int) ≤ (gk : Int) - 1) = false := decide_eq_false (by omega)
        have hdec' : ¬ 1 ≤ gk := by omega
        clear hr
        go_wp2_with fail
        go_ret
        exact ⟨ret_int HR.out.symm, r, rfl⟩
      · obtain ⟨g, off, rfl, hc⟩ := h.cells.resolve_left (by omega)
        obtain ⟨g2, off2, rfl, hc2⟩ := k.cells.resolve_left (by omega)
        obtain ⟨x, hx⟩ : ∃ x, x = xs.getD (gk - 1) 0 := ⟨_, rfl⟩
        obtain ⟨y, hy⟩ : ∃ y, y = ys.getD (gk - 1) 0 := ⟨_, rfl⟩
        have cx : w.cell? ⟨g, off + (gk - 1), none⟩ = some (V x) := by rw [hx]; exact hc _ (by omega)
        have cy : w.cell? ⟨g2, off2 + (gk - 1), none⟩ = some (V y) := by rw [hy]; exact hc2 _ (by omega)
        have hdec : decide ((0 : Int) ≤ (gk : Int) - 1) = true := decide_eq_true (by omega)
        have hdec' : 1 ≤ gk := by omega
        have hix : 1 ≤ (gk : Int) ∧ (gk : Int) - 1 < (n : Int) := by omega
        have HXE : Hid (x = xs.getD (gk - 1) 0) := hx
        have HYE : Hid (y = ys.getD (gk - 1) 0) := hy
        have HD1 : Hid (xs.drop (gk - 1 + 1) = ys.drop (gk - 1 + 1)) := by rw [show gk - 1 + 1 = gk by omega]; exact HD.out
        clear hc hc2 hx hy
        rcases Nat.lt_trichotomy x y with hlt | heq | hgt
        · have hr : res = -1 := HRES.out.trans (cmpN_lt (by have := val_lt_top32 HX.out.dig HLX.out HLY.out (t := gk - 1) (by omega) HD1.out HXE.out HYE.out hlt; rw [HX.out.val, HY.out.val] at this; exact this))
          have HR : Hid (res = -1) := hr
          have hl' : (x : Int) < (y : Int) := by omega
          clear hr
          go_wp2_with fail
          go_quiet (fail)
          go_wp2_with fail
          go_ret
          exact ⟨ret_int HR.out.symm, _, by first | rfl | (rw [drewN_two])⟩
        · subst heq
          have hl' : ¬ (x : Int) < (x : Int) := by omega
          go_wp2_with fail
          go_quiet (fail)
          go_wp2_with fail
          go_quiet (fail)
          go_wp2_with fail
          go_roundg (gk - 1)
          case measure => omega
          case rel =>
            refine ⟨by go_num, by omega, ?_, _, by first | rfl | (rw [drewN_two, drewN_two]) | (rw [drewN_two])⟩
            exact drop_step HLX.out HLY.out (by omega) HD1.out (by rw [← HXE.out, ← HYE.out])
        · have hr : res = 1 := HRES.out.trans (cmpN_gt (by have := val_lt_top32 HY.out.dig HLY.out HLX.out (t := gk - 1) (by omega) HD1.out.symm HYE.out HXE.out hgt; rw [HX.out.val, HY.out.val] at this; exact this))
          have HR : Hid (res = 1) := hr
          have hl' : ¬ (x : Int) < (y : Int) := by omega
          have hl2 : (y : Int) < (x : Int) := by omega
          clear hr
          go_wp2_with fail
          go_quiet (fail)
          go_wp2_with fail
          go_quiet (fail)
          go_wp2_with fail
          go_ret
          exact ⟨ret_int HR.out.symm, _, by first | rfl | (rw [drewN_two, drewN_two]) | (rw [drewN_two])⟩
  · have hnm' : ((n : Int) != (m : Int)) = true := by simp; omega
    by_cases hlt : n < m
    · have hr : res = -1 := HRES.out.trans (cmpN_lt (by have := val_lt_len32 HX.out.dig HY.out.top (by rw [HLX.out, HLY.out]; exact hlt); rw [HX.out.val, HY.out.val] at this; exact this))
      have HR : Hid (res = -1) := hr
      have hlt' : (n : Int) < (m : Int) := by omega
      clear hr
      go_enter Tryz.func52, Tryz.ntmps52
      go_wp2_with fail
      go_ret
      exact ⟨ret_int HR.out.symm, 0, by first | rfl | simp⟩
    · have hr : res = 1 := HRES.out.trans (cmpN_gt (by have := val_lt_len32 HY.out.dig HX.out.top (by rw [HLX.out, HLY.out]; omega); rw [HX.out.val, HY.out.val] at this; exact this))
      have HR : Hid (res = 1) := hr
      have hlt' : ¬ (n : Int) < (m : Int) := by omega
      clear hr
      go_enter Tryz.func52, Tryz.ntmps52
      go_wp2_with fail
      go_ret
      exact ⟨ret_int HR.out.symm, 0, by first | rfl | simp⟩
end Go.Proofs.YtmefpgebmchnkaaGreatDoor
namespace Go.Proofs.YtmefpgebmchnkaaGreatDoor
open Go.RowKit Go.Shelf
set_option maxRecDepth 20000
set_option maxHeartbeats 0
theorem bit_neg (p : Option Addr) (n c : Nat) (i : Int) (hi : i < 0) (w : World) : Calls Tryz.prog 101 #[.slice p n c, .int .i64 i] w fun e w' => e = .returned (.bool false) ∧ w' = w := by
  have hb : decide (i < 0) = true := decide_eq_true hi
  go_enter Tryz.func101, Tryz.ntmps101
  go_wp2_with fail
  go_ret
  exact ⟨rfl, rfl⟩
def bitO (v : Nat) (i : Int) : Bool := if i < 0 then false else decide (v / 2 ^ i.toNat % 2 = 1)
theorem bit_int {p : Option Addr} {n c : Nat} {xs : List Nat} {w : World} (h : At w p n c xs) (hn : n ≤ 17592186044416) (i : Int) (hi : i ≤ 9223372036854775807) :
    Calls Tryz.prog 101 #[.slice p n c, .int .i64 i] w fun e w' => e = .returned (.bool (bitO (valB B64 xs) i)) ∧ w' = w := by
  by_cases h0 : i < 0
  · unfold bitO
    rw [if_pos h0]
    exact bit_neg p n c i h0 w
  · obtain ⟨m, rfl⟩ := Int.eq_ofNat_of_zero_le (by omega : 0 ≤ i)
    unfold bitO
    rw [if_neg h0, Int.toNat_natCast]
    exact bit_any h hn m (by omega)
def fl (s : Bool) (a d : Nat) : Int := iv s (a / d + (s && decide (a % d ≠ 0)).toNat)
def neUp (a d : Nat) : Bool := decide (d < 2 * (a % d)) || (decide (2 * (a % d) = d) && decide (a / d % 2 = 1))
def HfIs (r d : Nat) (h : Int) : Prop := (2 * r < d ∧ h = -1) ∨ (2 * r = d ∧ h = 0) ∨ (d < 2 * r ∧ h = 1)
theorem HfIs.up {a d : Nat} {h : Int} (k : HfIs (a % d) d h) : neUp a d = (decide (0 < h) || (decide (h = 0) && decide (a / d % 2 = 1))) := by
  unfold neUp
  rcases k with ⟨k, rfl⟩ | ⟨k, rfl⟩ | ⟨k, rfl⟩
  · rw [decide_eq_false (by omega), decide_eq_false (p := 2 * (a % d) = d) (by omega)]; rfl
  · rw [decide_eq_false (by omega), decide_eq_true (p := 2 * (a % d) = d) (by omega)]; rfl
  · rw [decide_eq_true (by omega)]; rfl
theorem ce_le {a d : Nat} (h : a % d ≠ 0) : a / d + 1 ≤ a := by
  rcases Nat.lt_or_ge d 2 with hd | hd
  · have : d = 0 ∨ d = 1 := by omega
    rcases this with rfl | rfl
    · rw [Nat.div_zero]; rw [Nat.mod_zero] at h; omega
    · omega
  · have h1 : a / d ≤ a / 2 := Nat.div_le_div_left hd (by omega)
    rcases Nat.lt_or_ge a 2 with ha | ha
    · have h2 : a ≠ 0 := fun e => h (by rw [e, Nat.zero_mod])
      omega
    · omega
theorem bit_half {a n : Nat} (hn : 0 < n) : (a / 2 ^ (n - 1) % 2 = 1) ↔ 2 ^ n ≤ 2 * (a % 2 ^ n) := by
  obtain ⟨k, rfl⟩ : ∃ k, n = k + 1 := ⟨n - 1, by omega⟩
  rw [Nat.add_sub_cancel, Nat.pow_succ, Nat.mod_mul]
  have h1 : a % 2 ^ k < 2 ^ k := Nat.mod_lt _ (Nat.pow_pos (by omega))
  have h2 : a / 2 ^ k % 2 < 2 := Nat.mod_lt _ (by omega)
  generalize a / 2 ^ k % 2 = b at *
  rcases (by omega : b = 0 ∨ b = 1) with rfl | rfl
  · simp; omega
  · simp; omega
theorem half_eq {a n : Nat} (hn : 0 < n) (h : a / 2 ^ (n - 1) % 2 = 1) : (a % 2 ^ (n - 1) = 0 ↔ 2 * (a % 2 ^ n) = 2 ^ n) := by
  obtain ⟨k, rfl⟩ : ∃ k, n = k + 1 := ⟨n - 1, by omega⟩
  rw [Nat.add_sub_cancel] at *
  rw [Nat.pow_succ, Nat.mod_mul, h]
  omega
theorem bitO_half (a n : Nat) : bitO a ((n : Int) - 1) = decide (2 ^ n ≤ 2 * (a % 2 ^ n)) := by
  unfold bitO
  rcases Nat.eq_zero_or_pos n with rfl | hn
  · rw [if_pos (by omega)]
    exact (decide_eq_false (by omega)).symm
  · rw [if_neg (by omega), show ((n : Int) - 1).toNat = n - 1 from by omega]
    exact decide_eq_decide.2 (bit_half hn)
def AnsZ (B : Nat) (w' : World) (v : Value) (z : Int) : Prop :=
  ∃ p m zs, v = ZV (decide (z < 0)) p m m ∧ Own B w' p m zs ∧ Nf B64 zs z.natAbs ∧ m ≤ 8192
theorem iv_lt (s : Bool) (n : Nat) : decide (iv s n < 0) = (s && decide (0 < n)) := by
  cases s
  · simp [iv]
  · simp only [iv, if_true, Bool.true_and]; exact decide_eq_decide.2 (by omega)
theorem AnsZ.mk {B : Nat} {w' : World} {p : Option Addr} {m : Nat} {zs : List Nat} {q : Nat} (s : Bool) (ho : Own B w' p m zs) (hn : Nf B64 zs q) (hm : m ≤ 8192) : AnsZ B w' (ZV (s && decide (0 < m)) p m m) (iv s q) :=
  ⟨p, m, zs, by rw [iv_lt, hn.lenpos ho.len], ho, by rw [iv_natAbs]; exact hn, hm⟩
theorem own_set2 {B b : Nat} {w' : World} {p : Option Addr} {m : Nat} {zs : List Nat} (h : Own B w' p m zs) {r : Nat} (hr : r < B) (hb : b ≤ B) (v0 v1 : Value) : Own b ((w'.setCell ⟨r, 0, none⟩ v0).setCell ⟨r, 1, none⟩ v1) p m zs :=
  ((h.setOld _ _ _ hr).setOld _ _ _ hr).mono hb
theorem AnsZ.below {B : Nat} {w w' : World} {v : Value} {z : Int} (h : AnsZ B w v z) (hb : Below w.heap.size w w') : AnsZ B w' v z := by
  obtain ⟨p, m, zs, rfl, ho, hn, hm⟩ := h
  exact ⟨p, m, zs, rfl, ho.below hb, hn, hm⟩
abbrev FR (s : Bool) (p : Option Addr) (m c : Nat) (x : Bool) (h : Int) : Value := .agg #[.bool s, .slice p m c, .bool x, .int .i64 h]
structure B4q (W : World) (g : Nat) (v0 v1 v2 v3 : Value) : Prop where
  c0 : W.cell? ⟨g, 0, none⟩ = some v0
  c1 : W.cell? ⟨g, 1, none⟩ = some v1
  c2 : W.cell? ⟨g, 2, none⟩ = some v2
  c3 : W.cell? ⟨g, 3, none⟩ = some v3
  f0 : W.frozen? ⟨g, 0, none⟩ = false
  f1 : W.frozen? ⟨g, 1, none⟩ = false
  f2 : W.frozen? ⟨g, 2, none⟩ = false
  f3 : W.frozen? ⟨g, 3, none⟩ = false
theorem B4q.below {W W' : World} {g : Nat} {v0 v1 v2 v3 : Value} (h : B4q W g v0 v1 v2 v3) (hb : Below W.heap.size W W') : B4q W' g v0 v1 v2 v3 := by
  have hl : g < W.heap.size := World.block_lt_of_cell? W _ h.c0
  exact ⟨(hb.cell (p := ⟨g, 0, none⟩) hl).trans h.c0, (hb.cell (p := ⟨g, 1, none⟩) hl).trans h.c1, (hb.cell (p := ⟨g, 2, none⟩) hl).trans h.c2, (hb.cell (p := ⟨g, 3, none⟩) hl).trans h.c3,
    (hb.frozen (p := ⟨g, 0, none⟩) hl).trans h.f0, (hb.frozen (p := ⟨g, 1, none⟩) hl).trans h.f1, (hb.frozen (p := ⟨g, 2, none⟩) hl).trans h.f2, (hb.frozen (p := ⟨g, 3, none⟩) hl).trans h.f3⟩
theorem B4q.new (w : World) (ty : TypeId) (v0 v1 v2 v3 : Value) : B4q (w.alloc (.cells #[v0, v1, v2, v3] ty)) w.heap.size v0 v1 v2 v3 :=
  ⟨by go_simp, by go_simp, by go_simp, by go_simp, by go_simp, by go_simp, by go_simp, by go_simp⟩
theorem Box.lt {W : World} {g : Nat} {v0 v1 : Value} (h : Box W g v0 v1) : g < W.heap.size := World.block_lt_of_cell? W _ h.c0
theorem B4q.lt {W : World} {g : Nat} {v0 v1 v2 v3 : Value} (h : B4q W g v0 v1 v2 v3) : g < W.heap.size := World.block_lt_of_cell? W _ h.c0
theorem tz_lt {a k n : Nat} (h : TzIs a k) : decide (k < n) = decide (a % 2 ^ n ≠ 0) := by
  by_cases hk : k < n
  · rw [decide_eq_true hk, decide_eq_true]
    intro e
    have := h.ge e
    omega
  · rw [decide_eq_false hk, decide_eq_false]
    intro e
    apply e
    have h1 := Nat.dvd_of_mod_eq_zero h.1
    exact Nat.mod_eq_zero_of_dvd (Nat.dvd_trans (Nat.pow_dvd_pow 2 (by omega)) h1)
theorem Own.setNot {B : Nat} {w : World} {p : Option Addr} {m : Nat} {zs : List Nat} (h : Own B w p m zs) (g2 o2 : Nat) (v : Value) (hne : ∀ g, p = some ⟨g, 0, none⟩ → 0 < m → g ≠ g2) : Own B (w.setCell ⟨g2, o2, none⟩ v) p m zs := by
  refine ⟨h.len, h.dig, ?_⟩
  rcases h.mem with h0 | ⟨g, hp, hB, hr⟩
  · exact .inl h0
  · by_cases hm : m = 0
    · exact .inl hm
    · exact .inr ⟨g, hp, hB, hr.oth g2 o2 v (hne g hp (by omega))⟩
theorem half_lt {a n : Nat} {h : Int} (hb : false = bitO a ((n : Int) - 1)) (hh : h = -1) : HfIs (a % 2 ^ n) (2 ^ n) h := by
  rw [bitO_half] at hb
  have := of_decide_eq_false hb.symm
  exact .inl ⟨by omega, hh⟩
theorem half_ge {a n k : Nat} {h : Int} (hb : true = bitO a ((n : Int) - 1)) (ht : TzIs a k) (hh : h = if (k : Int) < (n : Int) - 1 then 1 else 0) : HfIs (a % 2 ^ n) (2 ^ n) h := by
  have h0 : 0 < n := by
    rcases Nat.eq_zero_or_pos n with rfl | h
    · unfold bitO at hb; rw [if_pos (by omega)] at hb; cases hb
    · exact h
  have h2 : a / 2 ^ (n - 1) % 2 = 1 := by
    unfold bitO at hb
    rw [if_neg (by omega), show ((n : Int) - 1).toNat = n - 1 from by omega] at hb
    exact of_decide_eq_true hb.symm
  have h1 := of_decide_eq_true ((bitO_half a n).symm.trans hb.symm)
  have h3 := half_eq h0 h2
  have h4 := tz_lt (n := n - 1) ht
  by_cases hk : k < n - 1
  · rw [if_pos (by omega)] at hh
    rw [decide_eq_true hk] at h4
    have := of_decide_eq_true h4.symm
    have : 2 * (a % 2 ^ n) ≠ 2 ^ n := fun e => this (h3.2 e)
    exact .inr (.inr ⟨by omega, hh⟩)
  · rw [if_neg (by omega)] at hh
    rw [decide_eq_false hk] at h4
    have := of_decide_eq_false h4.symm
    have : 2 * (a % 2 ^ n) = 2 ^ n := h3.1 (by omega)
    exact .inr (.inl ⟨this, hh⟩)
structure GN (w : World) (p : Option Addr) (m a : Nat) : Prop where
  mem : ∃ xs, At w p m m xs ∧ Nf B64 xs a
  len : m ≤ 8192
theorem GN.below {w w' : World} {p : Option Addr} {m a : Nat} (h : GN w p m a) (hb : Below w.heap.size w w') : GN w' p m a := by
  obtain ⟨⟨zs, h1, h2⟩, h3⟩ := h
  exact ⟨⟨zs, h1.below hb, h2⟩, h3⟩
theorem GN.cast {w : World} {p : Option Addr} {m a b : Nat} (h : GN w p m a) (e : a = b) : GN w p m b := e ▸ h
theorem GN.zero {w : World} {p : Option Addr} {m a : Nat} (h : GN w p m a) : m = 0 ↔ a = 0 := by
  obtain ⟨⟨zs, h1, h2⟩, h3⟩ := h
  rw [← h2.zero_iff B64_one, ← h1.len]
  exact List.length_eq_zero_iff
theorem GN.nil (w : World) (p : Option Addr) : GN w p 0 0 := ⟨⟨[], At.empty w p 0 (Nat.zero_le _), Nf.nil _⟩, by omega⟩
theorem GN.own {B : Nat} {w : World} {p : Option Addr} {m a : Nat} {zs : List Nat} (h : Own B w p m zs) (k : Nf B64 zs a) (l : m ≤ 8192) : GN w p m a := ⟨⟨zs, h.at_ l, k⟩, l⟩
structure GO (B : Nat) (w : World) (p : Option Addr) (m a : Nat) : Prop where
  mem : ∃ xs, Own B w p m xs ∧ Nf B64 xs a
  len : m ≤ 8192
theorem GO.gn {B : Nat} {w : World} {p : Option Addr} {m a : Nat} (h : GO B w p m a) : GN w p m a := by
  obtain ⟨⟨zs, h1, h2⟩, h3⟩ := h
  exact GN.own h1 h2 h3
theorem GO.below {B : Nat} {w w' : World} {p : Option Addr} {m a : Nat} (h : GO B w p m a) (hb : Below w.heap.size w w') : GO B w' p m a := by
  obtain ⟨⟨zs, h1, h2⟩, h3⟩ := h
  exact ⟨⟨zs, h1.below hb, h2⟩, h3⟩
theorem GO.mono {B B' : Nat} {w : World} {p : Option Addr} {m a : Nat} (h : GO B w p m a) (hB : B' ≤ B) : GO B' w p m a := by
  obtain ⟨⟨zs, h1, h2⟩, h3⟩ := h
  exact ⟨⟨zs, h1.mono hB, h2⟩, h3⟩
theorem GO.set {B : Nat} {w : World} {p : Option Addr} {m a : Nat} (h : GO B w p m a) (g2 o2 : Nat) (v : Value) (hg : g2 < B) : GO B (w.setCell ⟨g2, o2, none⟩ v) p m a := by
  obtain ⟨⟨zs, h1, h2⟩, h3⟩ := h
  refine ⟨⟨zs, h1.setNot g2 o2 v (fun g hp hm => ?_), h2⟩, h3⟩
  obtain ⟨g3, e1, e2, _⟩ := h1.mem.resolve_left (by omega)
  rw [hp] at e1
  simp only [Option.some.injEq, Addr.mk.injEq, and_true] at e1
  omega
theorem GO.cast {B : Nat} {w : World} {p : Option Addr} {m a b : Nat} (h : GO B w p m a) (e : a = b) : GO B w p m b := e ▸ h
def GNs (w w' : World) (e : Ending) (a : Nat) : Prop := ∃ p m, e = .returned (.tuple #[.slice p m m, .int .i64 0]) ∧ GO w.heap.size w' p m a ∧ Below w.heap.size w w'
theorem glim_of {a K : Nat} (hK : K ≤ 100000) (h : a < 2 ^ K) : a < LIM := by
  obtain ⟨k, hk⟩ : ∃ k, k = 8192 := ⟨_, rfl⟩
  rw [LIM_eq k hk, show B64 = 2 ^ 64 from rfl, ← Nat.pow_mul]
  exact Nat.lt_of_lt_of_le h (Nat.pow_le_pow_right (by decide) (by omega))
theorem Ans.gn {w w' : World} {e : Ending} {a K : Nat} (h : Ans w.heap.size w' e a) (hb : Below w.heap.size w w') (hK : K ≤ 100000) (hl : a < 2 ^ K) : GNs w w' e a := by
  rcases h with ⟨_, p, m, zs, rfl, h1, h2, h3⟩ | ⟨h1, _⟩
  · exact ⟨_, _, rfl, ⟨⟨zs, h1, h2⟩, h3⟩, hb⟩
  · exact absurd (glim_of hK hl) (Nat.not_lt.2 h1)
theorem gn_add {w : World} {p : Option Addr} {m a : Nat} (h : GN w p m a) {q : Option Addr} {n b : Nat} (k : GN w q n b) {K : Nat} (hK : K ≤ 100000) (hb : a + b < 2 ^ K) : Calls Tryz.prog 38 #[.slice p m m, .slice q n n] w fun e w' => GNs w w' e (a + b) := by
  obtain ⟨⟨zs, h1, h2⟩, h3⟩ := h
  obtain ⟨⟨ys, k1, k2⟩, k3⟩ := k
  refine (add_ord h1 k1 h2 k2 h3 k3).mono ?_
  rintro e w' ⟨g, hb2⟩
  exact g.gn hb2 hK hb
theorem gn_sub {w : World} {p : Option Addr} {m a : Nat} (h : GN w p m a) {q : Option Addr} {n b : Nat} (k : GN w q n b) (hle : b ≤ a) : Calls Tryz.prog 31 #[.slice p m m, .slice q n n] w fun e w' => GNs w w' e (a - b) := by
  obtain ⟨⟨zs, h1, h2⟩, h3⟩ := h
  obtain ⟨⟨ys, k1, k2⟩, k3⟩ := k
  refine (sub_okN h1 k1 h2 k2 h3 k3 hle).mono ?_
  rintro e w' ⟨⟨p', m', z, rfl, g1, g2, g3⟩, hb2⟩
  exact ⟨_, _, rfl, ⟨⟨z, g1, g2⟩, g3⟩, hb2⟩
theorem gn_mulw {w : World} {p : Option Addr} {m a : Nat} (h : GN w p m a) (v : Nat) (hv : v < B64) {K : Nat} (hK : K ≤ 100000) (hb : a * v < 2 ^ K) : Calls Tryz.prog 60 #[.slice p m m, U v] w fun e w' => GNs w w' e (a * v) := by
  obtain ⟨⟨zs, h1, h2⟩, h3⟩ := h
  refine (mulw_nf h1 h2 h3 v hv).mono ?_
  rintro e w' ⟨g, hb2⟩
  exact g.gn hb2 hK hb
theorem gn_sqr {w : World} {p : Option Addr} {m a : Nat} (h : GN w p m a) {K : Nat} (hK : K ≤ 100000) (hb : a * a < 2 ^ K) : Calls Tryz.prog 35 #[.slice p m m] w fun e w' => GNs w w' e (a * a) := by
  obtain ⟨⟨zs, h1, h2⟩, h3⟩ := h
  refine (sqr_any h1 h2 h3).mono ?_
  rintro e w' ⟨g, hb2⟩
  exact g.gn hb2 hK hb
theorem gn_shl {w : World} {p : Option Addr} {m a : Nat} (h : GN w p m a) (N : Nat) (hN : N ≤ 100000) {K : Nat} (hK : K ≤ 100000) (hb : 2 ^ N * a < 2 ^ K) : Calls Tryz.prog 62 #[.slice p m m, .int .i64 N] w fun e w' => GNs w w' e (2 ^ N * a) := by
  obtain ⟨⟨zs, h1, h2⟩, h3⟩ := h
  refine (shl_nf h1 h2 h3 N (by omega)).mono ?_
  rintro e w' ⟨g, hb2⟩
  exact g.gn hb2 hK hb
theorem gn_shr {w : World} {p : Option Addr} {m a : Nat} (h : GN w p m a) (N : Nat) (hN : N ≤ 100000) : Calls Tryz.prog 28 #[.slice p m m, .int .i64 N] w fun e w' => GNs w w' e (a / 2 ^ N) := by
  obtain ⟨⟨zs, h1, h2⟩, h3⟩ := h
  refine (shr_nf h1 h2 h3 N (by omega)).mono ?_
  rintro e w' ⟨⟨p', m', z, rfl, g1, g2, g3⟩, hb2⟩
  exact ⟨_, _, rfl, ⟨⟨z, g1, g2⟩, g3⟩, hb2⟩
theorem gn_word {w : World} (v : Nat) (hv : v < B64) : Calls Tryz.prog 36 #[U v] w fun e w' => ∃ p m, e = .returned (.slice p m m) ∧ GN w' p m v ∧ Below w.heap.size w w' := by
  refine (word_any v w hv).mono ?_
  rintro e w' ⟨p, m, zs, rfl, g1, g2, g3, hb⟩
  exact ⟨_, _, rfl, GN.own g1 g2 (by omega), hb⟩
theorem gn_divw {w : World} {p : Option Addr} {m a : Nat} (h : GN w p m a) (v : Nat) (hv : v < B64) (hv0 : v ≠ 0) : Calls Tryz.prog 37 #[.slice p m m, U v] w fun e w' => ∃ p' m' r, e = .returned (.tuple #[.slice p' m' m', U r, .int .i64 0]) ∧ GN w' p' m' (a / v) ∧ Below w.heap.size w w' := by
  obtain ⟨⟨zs, h1, h2⟩, h3⟩ := h
  refine (divw_nf h1 h2 h3 v hv hv0).mono ?_
  rintro e w' ⟨⟨p', m', z, rfl, g1, g2, g3⟩, hb2⟩
  exact ⟨_, _, _, rfl, GN.own g1 g2 g3, hb2⟩
theorem gn_quo {w : World} {p q : Option Addr} {m n a b : Nat} (h : GN w p m a) (k : GN w q n b) (hb : b ≠ 0) : Calls Tryz.prog 33 #[.slice p m m, .slice q n n] w fun e w' => ∃ p1 m1 p2 m2, e = .returned (.tuple #[.slice p1 m1 m1, .slice p2 m2 m2, .int .i64 0]) ∧ GN w' p1 m1 (a / b) ∧ Below w.heap.size w w' := by
  obtain ⟨⟨zs, h1, h2⟩, h3⟩ := h
  obtain ⟨⟨ys, k1, k2⟩, k3⟩ := k
  refine (quorem_any h1 k1 h2 k2 h3 k3 hb).mono ?_
  rintro e w' ⟨v1, v2, rfl, hd⟩
  obtain ⟨p1, m1, z1, rfl, g1, g2, g3⟩ := hd.quo
  obtain ⟨p2, m2, z2, rfl, _, _, _⟩ := hd.rem
  exact ⟨_, _, _, _, rfl, GN.own g1 g2 g3, hd.bel⟩
theorem gn_quoO {w : World} {p q : Option Addr} {m n a b : Nat} (h : GN w p m a) (k : GN w q n b) (hb : b ≠ 0) : Calls Tryz.prog 33 #[.slice p m m, .slice q n n] w fun e w' => ∃ p1 m1 p2 m2, e = .returned (.tuple #[.slice p1 m1 m1, .slice p2 m2 m2, .int .i64 0]) ∧ GO w.heap.size w' p1 m1 (a / b) ∧ Below w.heap.size w w' := by
  obtain ⟨⟨zs, h1, h2⟩, h3⟩ := h
  obtain ⟨⟨ys, k1, k2⟩, k3⟩ := k
  refine (quorem_any h1 k1 h2 k2 h3 k3 hb).mono ?_
  rintro e w' ⟨v1, v2, rfl, hd⟩
  obtain ⟨p1, m1, z1, rfl, g1, g2, g3⟩ := hd.quo
  obtain ⟨p2, m2, z2, rfl, _, _, _⟩ := hd.rem
  exact ⟨_, _, _, _, rfl, ⟨⟨z1, g1, g2⟩, g3⟩, hd.bel⟩
theorem gn_cmp {w : World} {p q : Option Addr} {m n a b : Nat} (h : GN w p m a) (k : GN w q n b) : Calls Tryz.prog 29 #[.slice p m m, .slice q n n] w fun e w' => e = .returned (.int .i64 (cmpN a b)) ∧ Below w.heap.size w w' := by
  obtain ⟨⟨zs, h1, h2⟩, h3⟩ := h
  obtain ⟨⟨ys, k1, k2⟩, k3⟩ := k
  refine (cmp_wN h1 k1 h2 k2).mono ?_
  rintro e w' ⟨rfl, r, rfl⟩
  exact ⟨rfl, bDrewN (Below.refl _ _) r⟩
end Go.Proofs.YtmefpgebmchnkaaGreatDoor
namespace Go.Proofs.YtmefpgebmchnkaaGreatDoor
open Go.RowKit
set_option maxRecDepth 20000
set_option maxHeartbeats 0
variable {P : Program} {md : Region.Mode} {ops : Array Oper} {Q : Exit → Act → World → Prop} {J : World → Prop} {L : Nat}

def ClosedL (md : Region.Mode) (ops : Array Oper) (listed : Array Bool) : Prop :=
  ∀ (k : Nat) (o : Oper), ops[k]? = some o → listed.getD k false = true → ∀ e ∈ o.after, Region.binds md e = true → listed.getD e.on false = true
theorem ClosedL.step {listed : Array Bool} (h : ClosedL md ops listed) {j : Nat} (hj : j ∈ Region.ready md ops listed) : ClosedL md ops (listed.setIfInBounds j true) := by
  intro k o ho hk e he hb
  obtain ⟨h0, oj, hoj, hall⟩ := mem_ready.1 hj
  by_cases hjk : j = k
  · subst hjk
    rw [hoj] at ho
    obtain rfl := Option.some.inj ho
    exact getD_set_true (hall e he hb)
  · rw [getD_set_ne false hjk] at hk
    exact getD_set_true (h k o ho hk e he hb)
end Go.Proofs.YtmefpgebmchnkaaGreatDoor
namespace Go.Proofs.YtmefpgebmchnkaaGreatDoor
open Go.RowKit Go.Shelf
set_option maxRecDepth 20000
set_option maxHeartbeats 0
def arkN (s : Nat) : Nat → Nat → Nat → Nat → Nat × Nat
  | 0, j, _, S => (S, j)
  | f + 1, j, P, S => bif Nat.beq P 0 then (S, j) else bif Nat.beq (j % 2) 0 then arkN s f (j + 1) (P / s) (S + P / (2 * j + 1)) else arkN s f (j + 1) (P / s) (S - P / (2 * j + 1))
def ark0 (n p : Nat) : Nat × Nat := arkN (n * n) p 0 (2 ^ p / n) 0
theorem arkN_zero (s f j S : Nat) : arkN s f j 0 S = (S, j) := by cases f <;> rfl
theorem arkN_even (s f j P S : Nat) (h : P ≠ 0) (hn : j % 2 = 0) : arkN s (f + 1) j P S = arkN s f (j + 1) (P / s) (S + P / (2 * j + 1)) := by
  show (bif Nat.beq P 0 then _ else bif Nat.beq (j % 2) 0 then _ else _) = _
  rw [show Nat.beq P 0 = false by cases P with | zero => exact absurd rfl h | succ n => rfl, hn]
  rfl
theorem arkN_odd (s f j P S : Nat) (h : P ≠ 0) (hn : j % 2 = 1) : arkN s (f + 1) j P S = arkN s f (j + 1) (P / s) (S - P / (2 * j + 1)) := by
  show (bif Nat.beq P 0 then _ else bif Nat.beq (j % 2) 0 then _ else _) = _
  rw [show Nat.beq P 0 = false by cases P with | zero => exact absurd rfl h | succ n => rfl, hn]
  rfl
theorem ak_next {P s g : Nat} (hs : 2 ≤ s) (h : P < 2 ^ (g + 1)) : P / s < 2 ^ g := by
  have h1 : P / s ≤ P / 2 := Nat.div_le_div_left hs (by decide)
  rw [Nat.pow_succ] at h
  omega
theorem ak_b {P S j p g : Nat} (h1 : P < 2 ^ (g + 1)) (h2 : j + (g + 1) = p) (h3 : S ≤ j * 2 ^ p) : S + P / (2 * j + 1) ≤ (j + 1) * 2 ^ p := by
  have h4 : P / (2 * j + 1) ≤ P := Nat.div_le_self _ _
  have h5 : P < 2 ^ p := Nat.lt_of_lt_of_le h1 (Nat.pow_le_pow_right (by decide) (by omega))
  rw [show (j + 1) * 2 ^ p = j * 2 ^ p + 2 ^ p from Nat.succ_mul j _]
  generalize P / (2 * j + 1) = z at *
  omega
theorem ak_k {S j p : Nat} (h : S ≤ j * 2 ^ p) (hn : j ≤ 1500) : S + (2 * j + 1) < 2 ^ (p + 20) := by
  have hp := Nat.two_pow_pos p
  have h4 : j * 2 ^ p ≤ 1500 * 2 ^ p := Nat.mul_le_mul_right _ hn
  rw [Nat.pow_add, show (2 : Nat) ^ 20 = 1048576 by decide]
  generalize 2 ^ p = X at *
  omega
theorem ak_o {P S j s : Nat} : P / s / (2 * (j + 1) + 1) ≤ S + P / (2 * j + 1) :=
  Nat.le_trans (Nat.le_trans (Nat.div_le_div_right (Nat.div_le_self _ _)) (Nat.div_le_div_left (by omega) (by omega))) (Nat.le_add_left _ _)
theorem kk1 {j i x : Nat} (h : i = 2 * j + 1) (h2 : x = 2 * (j + 1) + 1) (hb : j ≤ 1500) : IntKind.u64.wrap ((i : Int) + 2) = (x : Int) := by rw [IntKind.wrap_u64]; omega
theorem twoTo_ok (p : Nat) (hp : p < 100000) {w : World} :
    Calls Tryz.prog 32 #[.int .i64 p] w fun en w' => ∃ q l, en = .returned (.slice q l l) ∧ GO w.heap.size w' q l (2 ^ p) ∧ Below w.heap.size w w' := by
  have HP : Hid (p < 100000) := hp
  clear hp
  go_enter Tryz.func32, Tryz.ntmps32
  go_wp2_with fail
  have hbw : Below w.heap.size w w := Below.refl _ _
  refine (gn_word 1 (by decide)).mono ?_
  rintro e v1 ⟨p1, m1, rfl, hR, hb1⟩
  have GN1 : Hid (GN v1 p1 m1 1) := hR
  clear hR
  replace hbw := Below.on hbw hb1
  clear hb1
  go_wp2_with fail
  have HS1 : Hid (w.heap.size ≤ v1.heap.size) := hbw.size
  refine (gn_shl GN1.out p (by have := HP.out; omega) (K := p + 1) (by have := HP.out; omega) (by rw [Nat.mul_one]; exact Nat.pow_lt_pow_right (by decide) (by omega))).mono ?_
  rintro e v2 ⟨p2, m2, rfl, hR, hb2⟩
  have GN2 : Hid (GN v2 p2 m2 (2 ^ p * 1)) := hR.gn
  have GO2 : Hid (GO v1.heap.size v2 p2 m2 (2 ^ p * 1)) := hR
  clear hR
  replace GN1 : Hid (GN v2 p1 m1 1) := GN1.out.below hb2
  replace hbw := Below.on hbw hb2
  clear hb2
  go_wp2_with fail
  go_ret
  exact ⟨_, _, rfl, (GO2.out.mono HS1.out).cast (Nat.mul_one _), hbw⟩
theorem more_ok {p : Option Addr} {m a : Nat} {w : World} (h : GN w p m a) (x : Nat) (hx : x < B64) {K : Nat} (hK : K ≤ 100000) (hb : a + x < 2 ^ K) :
    Calls Tryz.prog 34 #[.slice p m m, U x] w fun en w' => ∃ q l, en = .returned (.slice q l l) ∧ GO w.heap.size w' q l (a + x) ∧ Below w.heap.size w w' := by
  have HA : Hid (GN w p m a) := h
  have HX : Hid (x < B64 ∧ K ≤ 100000 ∧ a + x < 2 ^ K) := ⟨hx, hK, hb⟩
  clear h hx hb hK
  go_enter Tryz.func34, Tryz.ntmps34
  go_wp2_with fail
  have hbw : Below w.heap.size w w := Below.refl _ _
  refine (gn_word x HX.out.1).mono ?_
  rintro e v1 ⟨p1, m1, rfl, hR, hb1⟩
  have GN1 : Hid (GN v1 p1 m1 x) := hR
  clear hR
  replace HA : Hid (GN v1 p m a) := HA.out.below hb1
  replace hbw := Below.on hbw hb1
  clear hb1
  go_wp2_with fail
  have HS1 : Hid (w.heap.size ≤ v1.heap.size) := hbw.size
  refine (gn_add HA.out GN1.out HX.out.2.1 HX.out.2.2).mono ?_
  rintro e v2 ⟨p2, m2, rfl, hR, hb2⟩
  have GN2 : Hid (GN v2 p2 m2 (a + x)) := hR.gn
  have GO2 : Hid (GO v1.heap.size v2 p2 m2 (a + x)) := hR
  clear hR
  replace HA : Hid (GN v2 p m a) := HA.out.below hb2
  replace GN1 : Hid (GN v2 p1 m1 x) := GN1.out.below hb2
  replace hbw := Below.on hbw hb2
  clear hb2
  go_wp2_with fail
  go_ret
  exact ⟨_, _, rfl, GO2.out.mono HS1.out, hbw⟩
theorem less_ok {p : Option Addr} {m a : Nat} {w : World} (h : GN w p m a) (x : Nat) (hx : x < B64) (hb : x ≤ a) :
    Calls Tryz.prog 39 #[.slice p m m, U x] w fun en w' => ∃ q l, en = .returned (.slice q l l) ∧ GO w.heap.size w' q l (a - x) ∧ Below w.heap.size w w' := by
  have HA : Hid (GN w p m a) := h
  have HX : Hid (x < B64 ∧ x ≤ a) := ⟨hx, hb⟩
  clear h hx hb
  go_enter Tryz.func39, Tryz.ntmps39
  go_wp2_with fail
  have hbw : Below w.heap.size w w := Below.refl _ _
  refine (gn_word x HX.out.1).mono ?_
  rintro e v1 ⟨p1, m1, rfl, hR, hb1⟩
  have GN1 : Hid (GN v1 p1 m1 x) := hR
  clear hR
  replace HA : Hid (GN v1 p m a) := HA.out.below hb1
  replace hbw := Below.on hbw hb1
  clear hb1
  go_wp2_with fail
  have HS1 : Hid (w.heap.size ≤ v1.heap.size) := hbw.size
  refine (gn_sub HA.out GN1.out HX.out.2).mono ?_
  rintro e v2 ⟨p2, m2, rfl, hR, hb2⟩
  have GN2 : Hid (GN v2 p2 m2 (a - x)) := hR.gn
  have GO2 : Hid (GO v1.heap.size v2 p2 m2 (a - x)) := hR
  clear hR
  replace HA : Hid (GN v2 p m a) := HA.out.below hb2
  replace GN1 : Hid (GN v2 p1 m1 x) := GN1.out.below hb2
  replace hbw := Below.on hbw hb2
  clear hb2
  go_wp2_with fail
  go_ret
  exact ⟨_, _, rfl, GO2.out.mono HS1.out, hbw⟩
theorem ark_ok (n p : Nat) (hn : 2 ≤ n) (hn2 : n ≤ 4294967296) (hp : p ≤ 1400) (hle : 2 * (ark0 n p).2 + 1 ≤ (ark0 n p).1) {w : World} : Calls Tryz.prog 17 #[U n, .int .i64 p] w fun en w' => ∃ p1 m1 p2 m2, en = .returned (.agg #[.slice p1 m1 m1, .slice p2 m2 m2]) ∧ GN w' p1 m1 ((ark0 n p).1 - (2 * (ark0 n p).2 + 1)) ∧ GN w' p2 m2 ((ark0 n p).1 + (2 * (ark0 n p).2 + 1)) ∧ (ark0 n p).1 + (2 * (ark0 n p).2 + 1) < 2 ^ (p + 20) ∧ Below w.heap.size w w' := by
  have HK : Hid (2 ≤ n ∧ n ≤ 4294967296 ∧ p ≤ 1400 ∧ 2 * (ark0 n p).2 + 1 ≤ (ark0 n p).1) := ⟨hn, hn2, hp, hle⟩
  have HNB : Hid (n < B64 ∧ n ≠ 0 ∧ n * n < 2 ^ 80 ∧ n * n ≠ 0 ∧ 2 ≤ n * n) := ⟨by show n < 18446744073709551616; omega, by omega, Nat.lt_of_le_of_lt (Nat.mul_le_mul hn2 hn2) (by decide), by have := Nat.mul_le_mul hn hn; omega, by have := Nat.mul_le_mul hn hn; omega⟩
  clear hn hn2 hp hle
  go_enter Tryz.func17, Tryz.ntmps17
  go_wp2_with fail
  obtain ⟨W0, hW0⟩ : ∃ W0, W0 = (w.alloc (.cells #[.slice none 0 0, .slice none 0 0] 44)) := ⟨_, rfl⟩
  have Xr : Hid (Box W0 (w.heap.size) (.slice none 0 0) (.slice none 0 0)) := by rw [hW0]; exact ⟨by go_simp, by go_simp, by go_simp, by go_simp⟩
  have hb0 : Below w.heap.size w W0 := by rw [hW0]; exact below1 w _
  rw [← hW0]
  clear hW0
  have hbw : Below w.heap.size w w := Below.refl _ _
  obtain ⟨gr, hgr⟩ : ∃ g, g = w.heap.size := ⟨_, rfl⟩
  have HGr : Hid (w.heap.size ≤ gr) := by rw [hgr]; show _ ≤ _; omega
  rw [← hgr] at Xr
  try rw [← hgr]
  clear hgr
  replace hbw := Below.on hbw hb0
  clear hb0
  refine (gn_word n HNB.out.1).mono ?_
  rintro e v1 ⟨p1, m1, rfl, hR, hb1⟩
  have GN1 : Hid (GN v1 p1 m1 n) := hR
  clear hR
  replace Xr : Hid _ := Xr.out.below hb1
  replace hbw := Below.on hbw hb1
  clear hb1
  go_wp2_with fail
  refine (gn_sqr GN1.out (K := 80) (by decide) HNB.out.2.2.1).mono ?_
  rintro e v2 ⟨p2, m2, rfl, hR, hb2⟩
  have GN2 : Hid (GN v2 p2 m2 (n * n)) := hR.gn
  clear hR
  replace Xr : Hid _ := Xr.out.below hb2
  replace GN1 : Hid (GN v2 p1 m1 n) := GN1.out.below hb2
  replace hbw := Below.on hbw hb2
  clear hb2
  go_wp2_with fail
  refine (twoTo_ok p (by have := HK.out.2.2.1; omega)).mono ?_
  rintro e v3 ⟨p3, m3, rfl, hR, hb3⟩
  have GN3 : Hid (GN v3 p3 m3 (2 ^ p)) := hR.gn
  clear hR
  replace Xr : Hid _ := Xr.out.below hb3
  replace GN1 : Hid (GN v3 p1 m1 n) := GN1.out.below hb3
  replace GN2 : Hid (GN v3 p2 m2 (n * n)) := GN2.out.below hb3
  replace hbw := Below.on hbw hb3
  clear hb3
  go_wp2_with fail
  refine (gn_divw GN3.out n HNB.out.1 HNB.out.2.1).mono ?_
  rintro e v4 ⟨p4, m4, r4, rfl, hR, hb4⟩
  have GN4 : Hid (GN v4 p4 m4 (2 ^ p / n)) := hR
  clear hR
  replace Xr : Hid _ := Xr.out.below hb4
  replace GN1 : Hid (GN v4 p1 m1 n) := GN1.out.below hb4
  replace GN2 : Hid (GN v4 p2 m2 (n * n)) := GN2.out.below hb4
  replace GN3 : Hid (GN v4 p3 m3 (2 ^ p)) := GN3.out.below hb4
  replace hbw := Below.on hbw hb4
  clear hb4
  clear GN1
  clear GN3
  go_wp2_with fail
  obtain ⟨pq, hpq⟩ : ∃ x, x = p2 := ⟨_, rfl⟩
  obtain ⟨mq, hmq⟩ : ∃ x, x = m2 := ⟨_, rfl⟩
  rw [← hpq, ← hmq] at GN2
  rw [← hpq, ← hmq]
  clear hpq hmq
  go_loopg [7, 10, 11] p (fun gk pv sv ov wr => ∃ (j P S : Nat) (p1 p2 : Option Addr) (a b : Nat), j + gk = p ∧ pv = .slice p1 a a ∧ sv = .slice p2 b b ∧ ov = .int .u64 ((2 * j + 1 : Nat) : Int) ∧ GN wr p1 a P ∧ GN wr p2 b S ∧ GN wr pq mq (n * n) ∧ arkN (n * n) gk j P S = ark0 n p ∧ P < 2 ^ gk ∧ S ≤ j * 2 ^ p ∧ (j % 2 = 1 → P / (2 * j + 1) ≤ S) ∧ Box wr gr (.slice none 0 0) (.slice none 0 0) ∧ Below w.heap.size w wr)
  case atStart => exact ⟨0, 2 ^ p / n, 0, p4, none, m4, 0, by omega, rfl, rfl, rfl, GN4.out, GN.nil _ _, GN2.out, rfl, Nat.div_lt_self (Nat.two_pow_pos p) (by have := HK.out.1; omega), Nat.zero_le _, fun h => by omega, Xr.out, hbw⟩
  case round =>
    obtain ⟨j, P, S, p1, p2, a, b, hig, rfl, rfl, rfl, xp, xs, xq, har, hPb, hSb, hod, xr, hbr⟩ := hrel
    clear GN2 GN4 Xr hbw
    have GNP : Hid (GN wr p1 a P) := xp
    have GNS : Hid (GN wr p2 b S) := xs
    have GNQ : Hid (GN wr pq mq (n * n)) := xq
    have Xr : Hid (Box wr gr (.slice none 0 0) (.slice none 0 0)) := xr
    have hbw := hbr
    have hz := xp.zero
    clear xp xs xq xr hbr
    by_cases ht : P = 0
    · obtain rfl : a = 0 := hz.2 ht
      subst ht
      rw [arkN_zero] at har
      have hjp : j ≤ 1400 := by have := HK.out; omega
      have HF : Hid (ark0 n p = (S, j) ∧ S + (2 * j + 1) < 2 ^ (p + 20) ∧ j ≤ 1400) := ⟨har.symm, ak_k hSb (by omega), hjp⟩
      have HB9 : Hid (2 * j + 1 < B64) := by show 2 * j + 1 < 18446744073709551616; omega
      obtain ⟨od, hodd⟩ : ∃ x, x = 2 * j + 1 := ⟨_, rfl⟩
      rw [← hodd]
      have HOD : Hid (od = 2 * j + 1) := hodd
      clear GNP GNQ hz har hPb hSb hig hod hjp hodd
      go_wp2_with fail
      have HW9 : Hid (w.heap.size ≤ wr.heap.size ∧ gr < wr.heap.size) := ⟨hbw.size, Xr.out.lt⟩
      have HLE : Hid (od ≤ S) := by have h1 := HK.out.2.2.2; rw [HF.out.1] at h1; rw [HOD.out]; exact h1
      have HSO : Hid (S + od < 2 ^ (p + 20) ∧ od < B64) := by rw [HOD.out]; exact ⟨HF.out.2.1, HB9.out⟩
      refine (less_ok GNS.out od HSO.out.2 HLE.out).mono ?_
      rintro e v20 ⟨p20, m20, rfl, hR, hb20⟩
      have HQ20 : Hid (wr.heap.size ≤ wr.heap.size) := Nat.le_refl _
      have GO20 : Hid (GO wr.heap.size v20 p20 m20 (S - od)) := hR.mono HQ20.out
      have HB20 : Hid (wr.heap.size ≤ v20.heap.size) := Nat.le_trans HQ20.out hb20.size
      clear hR
      replace Xr : Hid _ := Xr.out.below hb20
      replace GNS : Hid (GN v20 p2 b S) := GNS.out.below hb20
      replace hbw := Below.on hbw hb20
      clear hb20
      go_wp2_with fail
      refine (more_ok GNS.out od HSO.out.2 (K := p + 20) (by have := HK.out.2.2.1; omega) HSO.out.1).mono ?_
      rintro e v21 ⟨p21, m21, rfl, hR, hb21⟩
      have HQ21 : Hid (wr.heap.size ≤ v20.heap.size) := HB20.out
      have GO21 : Hid (GO wr.heap.size v21 p21 m21 (S + od)) := hR.mono HQ21.out
      have HB21 : Hid (wr.heap.size ≤ v21.heap.size) := Nat.le_trans HQ21.out hb21.size
      clear hR
      replace Xr : Hid _ := Xr.out.below hb21
      replace GNS : Hid (GN v21 p2 b S) := GNS.out.below hb21
      replace GO20 : Hid (GO wr.heap.size v21 p20 m20 (S - od)) := GO20.out.below hb21
      replace hbw := Below.on hbw hb21
      clear hb21
      obtain ⟨cr0, cr1, fr0, fr1⟩ := Xr.out
      have hner := Xr.out.lt
      go_wp2_with fail
      refine bodyPost_ret (v := .agg #[.slice p20 m20 m20, .slice p21 m21 m21]) (by rw [results_cell1 rfl]; go_simp) rfl ?_
      rw [HF.out.1]
      refine ⟨_, _, _, _, rfl, ?_, ?_, ?_, ?_⟩
      · rw [← HOD.out]; exact ((GO20.out.set _ _ _ HW9.out.2).set _ _ _ HW9.out.2).gn
      · rw [← HOD.out]; exact ((GO21.out.set _ _ _ HW9.out.2).set _ _ _ HW9.out.2).gn
      · rw [← HOD.out]; exact HSO.out.1
      · exact bSet (bSet (hbw) _ _ _ HGr.out) _ _ _ HGr.out
    · cases gk with
      | zero => rw [Nat.pow_zero] at hPb; omega
      | succ g =>
        have ha1 : (0 : Int) < (a : Int) := by have : a ≠ 0 := fun e => ht (hz.1 e); omega
        have hn9 := HK.out
        have hn13 : j ≤ 1400 := by omega
        obtain ⟨i2, hi2⟩ : ∃ i, i = 2 * j + 1 := ⟨_, rfl⟩
        obtain ⟨i3, hi3⟩ : ∃ i, i = 2 * (j + 1) + 1 := ⟨_, rfl⟩
        rw [← hi2]
        have HT : Hid (j + (g + 1) = p ∧ P < 2 ^ (g + 1) ∧ S ≤ j * 2 ^ p ∧ (j % 2 = 1 → P / (2 * j + 1) ≤ S) ∧ j ≤ 1400 ∧ i2 = 2 * j + 1 ∧ i3 = 2 * (j + 1) + 1 ∧ P ≠ 0) := ⟨hig, hPb, hSb, hod, hn13, hi2, hi3, ht⟩
        have HR : Hid (arkN (n * n) (g + 1) j P S = ark0 n p) := har
        have KQ : Hid (IntKind.u64.wrap ((i2 : Int) + 2) = (i3 : Int)) := kk1 hi2 hi3 (by omega)
        have hm4 : i2 % 4 = 1 ∨ i2 % 4 = 3 := by omega
        have HM4 : Hid (i2 % 4 = 1 → j % 2 = 0) := by show _ → _; omega
        have HM5 : Hid (i2 % 4 = 3 → j % 2 = 1) := by show _ → _; omega
        have HI9 : Hid (i2 < B64 ∧ i2 ≠ 0) := ⟨by show i2 < 18446744073709551616; omega, by omega⟩
        clear hz hPb hSb hod hig har hn9 hn13 hi2 hi3 ht
        go_wp2_with fail
        refine (gn_divw GNP.out i2 HI9.out.1 HI9.out.2).mono ?_
        rintro e v21 ⟨p21, m21, r21, rfl, hR, hb21⟩
        have GN21 : Hid (GN v21 p21 m21 (P / i2)) := hR
        clear hR
        replace Xr : Hid _ := Xr.out.below hb21
        replace GNP : Hid (GN v21 p1 a P) := GNP.out.below hb21
        replace GNS : Hid (GN v21 p2 b S) := GNS.out.below hb21
        replace GNQ : Hid (GN v21 pq mq (n * n)) := GNQ.out.below hb21
        replace hbw := Below.on hbw hb21
        clear hb21
        rcases hm4 with hm | hm
        · have h4 : (i2 : Int) % 4 = 1 := by omega
          have HMM : Hid (j % 2 = 0) := HM4.out hm
          clear hm
          go_wp2_with fail
          refine (gn_add GNS.out GN21.out (K := p + 20) (by have := HK.out.2.2.1; omega) (by have h1 := HT.out; have h2 := ak_k (ak_b h1.2.1 h1.1 h1.2.2.1) (by have := h1.2.2.2.2.1; omega); rw [h1.2.2.2.2.2.1]; exact Nat.lt_of_le_of_lt (Nat.le_add_right _ _) h2)).mono ?_
          rintro e v22 ⟨p22, m22, rfl, hR, hb22⟩
          have GN22 : Hid (GN v22 p22 m22 (S + P / i2)) := hR.gn
          clear hR
          replace Xr : Hid _ := Xr.out.below hb22
          replace GNP : Hid (GN v22 p1 a P) := GNP.out.below hb22
          replace GNS : Hid (GN v22 p2 b S) := GNS.out.below hb22
          replace GNQ : Hid (GN v22 pq mq (n * n)) := GNQ.out.below hb22
          replace GN21 : Hid (GN v22 p21 m21 (P / i2)) := GN21.out.below hb22
          replace hbw := Below.on hbw hb22
          clear hb22
          go_wp2_with fail
          refine (gn_quo GNP.out GNQ.out HNB.out.2.2.2.1).mono ?_
          rintro e v23 ⟨p23, m23, p23x, m23x, rfl, hR, hb23⟩
          have GN23 : Hid (GN v23 p23 m23 (P / (n * n))) := hR
          clear hR
          replace Xr : Hid _ := Xr.out.below hb23
          replace GNP : Hid (GN v23 p1 a P) := GNP.out.below hb23
          replace GNS : Hid (GN v23 p2 b S) := GNS.out.below hb23
          replace GNQ : Hid (GN v23 pq mq (n * n)) := GNQ.out.below hb23
          replace GN21 : Hid (GN v23 p21 m21 (P / i2)) := GN21.out.below hb23
          replace GN22 : Hid (GN v23 p22 m22 (S + P / i2)) := GN22.out.below hb23
          replace hbw := Below.on hbw hb23
          clear hb23
          have kq := KQ.out
          go_wp2_with fail
          clear kq h4
          go_roundg g
          case measure => omega
          case rel =>
            have h1 := HT.out
            rw [h1.2.2.2.2.2.1] at GN22
            refine ⟨j + 1, P / (n * n), S + P / (2 * j + 1), p23, p22, m23, m22, by omega, rfl, rfl, congrArg (Value.int .u64) (by rw [h1.2.2.2.2.2.2.1]), GN23.out, GN22.out, GNQ.out, ?_, ak_next HNB.out.2.2.2.2 h1.2.1, ak_b h1.2.1 h1.1 h1.2.2.1, fun _ => ak_o, Xr.out, hbw⟩
            rw [← arkN_even (n * n) g j P S h1.2.2.2.2.2.2.2 HMM.out]
            exact HR.out
        · have h4 : (i2 : Int) % 4 = 3 := by omega
          have HMM : Hid (j % 2 = 1) := HM5.out hm
          clear hm
          go_wp2_with fail
          refine (gn_sub GNS.out GN21.out (by have h1 := HT.out; rw [h1.2.2.2.2.2.1]; exact h1.2.2.2.1 HMM.out)).mono ?_
          rintro e v22 ⟨p22, m22, rfl, hR, hb22⟩
          have GN22 : Hid (GN v22 p22 m22 (S - P / i2)) := hR.gn
          clear hR
          replace Xr : Hid _ := Xr.out.below hb22
          replace GNP : Hid (GN v22 p1 a P) := GNP.out.below hb22
          replace GNS : Hid (GN v22 p2 b S) := GNS.out.below hb22
          replace GNQ : Hid (GN v22 pq mq (n * n)) := GNQ.out.below hb22
          replace GN21 : Hid (GN v22 p21 m21 (P / i2)) := GN21.out.below hb22
          replace hbw := Below.on hbw hb22
          clear hb22
          go_wp2_with fail
          refine (gn_quo GNP.out GNQ.out HNB.out.2.2.2.1).mono ?_
          rintro e v23 ⟨p23, m23, p23x, m23x, rfl, hR, hb23⟩
          have GN23 : Hid (GN v23 p23 m23 (P / (n * n))) := hR
          clear hR
          replace Xr : Hid _ := Xr.out.below hb23
          replace GNP : Hid (GN v23 p1 a P) := GNP.out.below hb23
          replace GNS : Hid (GN v23 p2 b S) := GNS.out.below hb23
          replace GNQ : Hid (GN v23 pq mq (n * n)) := GNQ.out.below hb23
          replace GN21 : Hid (GN v23 p21 m21 (P / i2)) := GN21.out.below hb23
          replace GN22 : Hid (GN v23 p22 m22 (S - P / i2)) := GN22.out.below hb23
          replace hbw := Below.on hbw hb23
          clear hb23
          have kq := KQ.out
          go_wp2_with fail
          clear kq h4
          go_roundg g
          case measure => omega
          case rel =>
            have h1 := HT.out
            rw [h1.2.2.2.2.2.1] at GN22
            refine ⟨j + 1, P / (n * n), S - P / (2 * j + 1), p23, p22, m23, m22, by omega, rfl, rfl, congrArg (Value.int .u64) (by rw [h1.2.2.2.2.2.2.1]), GN23.out, GN22.out, GNQ.out, ?_, ak_next HNB.out.2.2.2.2 h1.2.1, Nat.le_trans (Nat.sub_le _ _) (Nat.le_trans h1.2.2.1 (Nat.mul_le_mul_right _ (by omega))), fun h => by have := HMM.out; omega, Xr.out, hbw⟩
            rw [← arkN_odd (n * n) g j P S h1.2.2.2.2.2.2.2 HMM.out]
            exact HR.out
theorem times_ok {p q : Option Addr} {m n a b : Nat} {w : World} (h : GN w p m a) (k : GN w q n b) (v : Nat) (hv : v < B64) {K : Nat} (hK : K ≤ 100000) (h1 : a * v < 2 ^ K) (h2 : b * v < 2 ^ K) :
    Calls Tryz.prog 30 #[.agg #[.slice p m m, .slice q n n], U v] w fun en w' => ∃ p1 m1 p2 m2, en = .returned (.agg #[.slice p1 m1 m1, .slice p2 m2 m2]) ∧ GN w' p1 m1 (a * v) ∧ GN w' p2 m2 (b * v) ∧ Below w.heap.size w w' := by
  have HA : Hid (GN w p m a) := h
  have HB : Hid (GN w q n b) := k
  have HX : Hid (v < B64 ∧ K ≤ 100000 ∧ a * v < 2 ^ K ∧ b * v < 2 ^ K) := ⟨hv, hK, h1, h2⟩
  clear h k hv hK h1 h2
  go_enter Tryz.func30, Tryz.ntmps30
  go_wp2_with fail
  obtain ⟨W0, hW0⟩ : ∃ W0, W0 = ((w.alloc (.cells #[.slice p m m, .slice q n n] 44)).alloc (.cells #[.slice none 0 0, .slice none 0 0] 44)) := ⟨_, rfl⟩
  have Xb : Hid (Box W0 (w.heap.size) (.slice p m m) (.slice q n n)) := by rw [hW0]; exact ⟨by go_simp, by go_simp, by go_simp, by go_simp⟩
  have Xr : Hid (Box W0 (w.heap.size + 1) (.slice none 0 0) (.slice none 0 0)) := by rw [hW0]; exact ⟨by go_simp, by go_simp, by go_simp, by go_simp⟩
  have hb0 : Below w.heap.size w W0 := by rw [hW0]; exact below2 w _ _
  rw [← hW0]
  clear hW0
  have hbw : Below w.heap.size w w := Below.refl _ _
  obtain ⟨gr, hgr⟩ : ∃ g, g = w.heap.size + 1 := ⟨_, rfl⟩
  have HGr : Hid (w.heap.size ≤ gr) := by rw [hgr]; show _ ≤ _; omega
  rw [← hgr] at Xr
  try rw [← hgr]
  obtain ⟨gb, hgb⟩ : ∃ g, g = w.heap.size := ⟨_, rfl⟩
  have HGb : Hid (w.heap.size ≤ gb) := by rw [hgb]; show _ ≤ _; omega
  rw [← hgb] at Xb
  try rw [← hgb]
  have HGD : Hid (gb ≠ gr ∧ gr ≠ gb) := by rw [hgb, hgr]; exact ⟨by omega, by omega⟩
  clear hgb hgr
  replace HA : Hid (GN W0 p m a) := HA.out.below hb0
  replace HB : Hid (GN W0 q n b) := HB.out.below hb0
  replace hbw := Below.on hbw hb0
  clear hb0
  obtain ⟨hgd0, hgd1⟩ := HGD.out
  have HW9 : Hid (gr < W0.heap.size) := Xr.out.lt
  refine (gn_mulw HA.out v HX.out.1 HX.out.2.1 HX.out.2.2.1).mono ?_
  rintro e v1 ⟨p1, m1, rfl, hR, hb1⟩
  have GO1 : Hid (GO W0.heap.size v1 p1 m1 (a * v)) := hR.mono (Nat.le_refl _)
  have HB1 : Hid (W0.heap.size ≤ v1.heap.size) := Nat.le_trans (Nat.le_refl _) hb1.size
  clear hR
  replace Xb : Hid _ := Xb.out.below hb1
  replace Xr : Hid _ := Xr.out.below hb1
  replace HA : Hid (GN v1 p m a) := HA.out.below hb1
  replace HB : Hid (GN v1 q n b) := HB.out.below hb1
  replace hbw := Below.on hbw hb1
  clear hb1
  obtain ⟨cb0, cb1, fb0, fb1⟩ := Xb.out
  have hneb := Xb.out.lt
  go_wp2_with fail
  clear cb0 cb1 fb0 fb1 hneb
  refine (gn_mulw HB.out v HX.out.1 HX.out.2.1 HX.out.2.2.2).mono ?_
  rintro e v2 ⟨p2, m2, rfl, hR, hb2⟩
  have GO2 : Hid (GO W0.heap.size v2 p2 m2 (b * v)) := hR.mono HB1.out
  have HB2 : Hid (W0.heap.size ≤ v2.heap.size) := Nat.le_trans HB1.out hb2.size
  clear hR
  replace Xb : Hid _ := Xb.out.below hb2
  replace Xr : Hid _ := Xr.out.below hb2
  replace HA : Hid (GN v2 p m a) := HA.out.below hb2
  replace HB : Hid (GN v2 q n b) := HB.out.below hb2
  replace GO1 : Hid (GO W0.heap.size v2 p1 m1 (a * v)) := GO1.out.below hb2
  replace hbw := Below.on hbw hb2
  clear hb2
  obtain ⟨cr0, cr1, fr0, fr1⟩ := Xr.out
  have hner := Xr.out.lt
  go_wp2_with fail
  refine bodyPost_ret (v := .agg #[.slice p1 m1 m1, .slice p2 m2 m2]) (by rw [results_cell1 rfl]; go_simp) rfl ⟨_, _, _, _, rfl, ((GO1.out.set _ _ _ HW9.out).set _ _ _ HW9.out).gn, ((GO2.out.set _ _ _ HW9.out).set _ _ _ HW9.out).gn, ?_⟩
  exact bSet (bSet (hbw) _ _ _ HGr.out) _ _ _ HGr.out
def kA1 (w : Nat) : Nat := (ark0 5 w).1 - (2 * (ark0 5 w).2 + 1)
def kA2 (w : Nat) : Nat := (ark0 5 w).1 + (2 * (ark0 5 w).2 + 1)
def kC1 (w : Nat) : Nat := (ark0 239 w).1 - (2 * (ark0 239 w).2 + 1)
def kC2 (w : Nat) : Nat := (ark0 239 w).1 + (2 * (ark0 239 w).2 + 1)
def kLo (w : Nat) : Nat := kA1 w * 16 - kC2 w * 4
def kHi (w : Nat) : Nat := kA2 w * 16 - kC1 w * 4
structure KPi (w : Nat) : Prop where
  c5 : 2 * (ark0 5 w).2 + 1 ≤ (ark0 5 w).1
  c9 : 2 * (ark0 239 w).2 + 1 ≤ (ark0 239 w).1
  lo : kC2 w * 4 ≤ kA1 w * 16
  hi : kC1 w * 4 ≤ kA2 w * 16
theorem kAle (w : Nat) : kA1 w ≤ kA2 w := by unfold kA1 kA2; omega
theorem kCle (w : Nat) : kC1 w ≤ kC2 w := by unfold kC1 kC2; omega
theorem kb {x a w : Nat} (v : Nat) (hv : v ≤ 16) (h : a < 2 ^ (w + 20)) (hx : x ≤ a) : x * v < 2 ^ (w + 26) := by
  rw [show w + 26 = w + 20 + 6 by omega, Nat.pow_add _ (w + 20) 6]
  refine Nat.lt_of_le_of_lt (Nat.mul_le_mul hx hv) ?_
  generalize 2 ^ (w + 20) = X at *
  omega
theorem pi_ok (n : Nat) (hn : n ≤ 1400) (hP : KPi n) {w : World} :
    Calls Tryz.prog 14 #[.int .i64 n] w fun en w' => ∃ p1 m1 p2 m2, en = .returned (.agg #[.slice p1 m1 m1, .slice p2 m2 m2]) ∧ GN w' p1 m1 (kLo n) ∧ GN w' p2 m2 (kHi n) ∧ Below w.heap.size w w' := by
  have HN : Hid (n ≤ 1400 ∧ KPi n) := ⟨hn, hP⟩
  clear hn hP
  go_enter Tryz.func14, Tryz.ntmps14
  go_wp2_with fail
  obtain ⟨W0, hW0⟩ : ∃ W0, W0 = (w.alloc (.cells #[.slice none 0 0, .slice none 0 0] 44)) := ⟨_, rfl⟩
  have Xr : Hid (Box W0 (w.heap.size) (.slice none 0 0) (.slice none 0 0)) := by rw [hW0]; exact ⟨by go_simp, by go_simp, by go_simp, by go_simp⟩
  have hb0 : Below w.heap.size w W0 := by rw [hW0]; exact below1 w _
  rw [← hW0]
  clear hW0
  have hbw : Below w.heap.size w w := Below.refl _ _
  obtain ⟨gr, hgr⟩ : ∃ g, g = w.heap.size := ⟨_, rfl⟩
  have HGr : Hid (w.heap.size ≤ gr) := by rw [hgr]; show _ ≤ _; omega
  rw [← hgr] at Xr
  try rw [← hgr]
  clear hgr
  replace hbw := Below.on hbw hb0
  clear hb0
  refine (ark_ok 5 n (by decide) (by decide) HN.out.1 HN.out.2.c5).mono ?_
  rintro e v1 ⟨p1, m1, q1, l1, rfl, hR1, hR2, hR3, hb1⟩
  have GNa1 : Hid (GN v1 p1 m1 (kA1 n)) := hR1
  have GNb1 : Hid (GN v1 q1 l1 (kA2 n)) := hR2
  have HB1 : Hid (kA2 n < 2 ^ (n + 20)) := hR3
  clear hR3
  clear hR1 hR2
  replace Xr : Hid _ := Xr.out.below hb1
  replace hbw := Below.on hbw hb1
  clear hb1
  go_wp2_with fail
  refine (times_ok GNa1.out GNb1.out 16 (by decide) (K := n + 26) (by have := HN.out.1; omega) (kb 16 (by decide) HB1.out (kAle n)) (kb 16 (by decide) HB1.out (Nat.le_refl _))).mono ?_
  rintro e v2 ⟨p2, m2, q2, l2, rfl, hR1, hR2, hb2⟩
  have GNa2 : Hid (GN v2 p2 m2 (kA1 n * 16)) := hR1
  have GNb2 : Hid (GN v2 q2 l2 (kA2 n * 16)) := hR2
  clear hR1 hR2
  replace Xr : Hid _ := Xr.out.below hb2
  replace GNa1 : Hid (GN v2 p1 m1 (kA1 n)) := GNa1.out.below hb2
  replace GNb1 : Hid (GN v2 q1 l1 (kA2 n)) := GNb1.out.below hb2
  replace hbw := Below.on hbw hb2
  clear hb2
  go_wp2_with fail
  refine (ark_ok 239 n (by decide) (by decide) HN.out.1 HN.out.2.c9).mono ?_
  rintro e v3 ⟨p3, m3, q3, l3, rfl, hR1, hR2, hR3, hb3⟩
  have GNa3 : Hid (GN v3 p3 m3 (kC1 n)) := hR1
  have GNb3 : Hid (GN v3 q3 l3 (kC2 n)) := hR2
  have HB3 : Hid (kC2 n < 2 ^ (n + 20)) := hR3
  clear hR3
  clear hR1 hR2
  replace Xr : Hid _ := Xr.out.below hb3
  replace GNa1 : Hid (GN v3 p1 m1 (kA1 n)) := GNa1.out.below hb3
  replace GNb1 : Hid (GN v3 q1 l1 (kA2 n)) := GNb1.out.below hb3
  replace GNa2 : Hid (GN v3 p2 m2 (kA1 n * 16)) := GNa2.out.below hb3
  replace GNb2 : Hid (GN v3 q2 l2 (kA2 n * 16)) := GNb2.out.below hb3
  replace hbw := Below.on hbw hb3
  clear hb3
  go_wp2_with fail
  refine (times_ok GNa3.out GNb3.out 4 (by decide) (K := n + 26) (by have := HN.out.1; omega) (kb 4 (by decide) HB3.out (kCle n)) (kb 4 (by decide) HB3.out (Nat.le_refl _))).mono ?_
  rintro e v4 ⟨p4, m4, q4, l4, rfl, hR1, hR2, hb4⟩
  have GNa4 : Hid (GN v4 p4 m4 (kC1 n * 4)) := hR1
  have GNb4 : Hid (GN v4 q4 l4 (kC2 n * 4)) := hR2
  clear hR1 hR2
  replace Xr : Hid _ := Xr.out.below hb4
  replace GNa1 : Hid (GN v4 p1 m1 (kA1 n)) := GNa1.out.below hb4
  replace GNb1 : Hid (GN v4 q1 l1 (kA2 n)) := GNb1.out.below hb4
  replace GNa2 : Hid (GN v4 p2 m2 (kA1 n * 16)) := GNa2.out.below hb4
  replace GNb2 : Hid (GN v4 q2 l2 (kA2 n * 16)) := GNb2.out.below hb4
  replace GNa3 : Hid (GN v4 p3 m3 (kC1 n)) := GNa3.out.below hb4
  replace GNb3 : Hid (GN v4 q3 l3 (kC2 n)) := GNb3.out.below hb4
  replace hbw := Below.on hbw hb4
  clear hb4
  go_wp2_with fail
  obtain ⟨Wg, hWg⟩ : ∃ W9, W9 = ((v4.alloc (.cells #[.slice p2 m2 m2, .slice q2 l2 l2] 44)).alloc (.cells #[.slice p4 m4 m4, .slice q4 l4 l4] 44)) := ⟨_, rfl⟩
  have Xg0 : Hid (Box Wg (v4.heap.size) (.slice p2 m2 m2) (.slice q2 l2 l2)) := by rw [hWg]; exact ⟨by go_simp, by go_simp, by go_simp, by go_simp⟩
  have Xs0 : Hid (Box Wg (v4.heap.size + 1) (.slice p4 m4 m4) (.slice q4 l4 l4)) := by rw [hWg]; exact ⟨by go_simp, by go_simp, by go_simp, by go_simp⟩
  have hbn : Below v4.heap.size v4 Wg := by rw [hWg]; exact below2 v4 _ _
  rw [← hWg]
  clear hWg
  obtain ⟨gs, hgs⟩ : ∃ g, g = v4.heap.size + 1 := ⟨_, rfl⟩
  have HGs : Hid (w.heap.size ≤ gs) := by rw [hgs]; have := hbw.size; show _ ≤ _; omega
  rw [← hgs] at Xs0
  try rw [← hgs]
  obtain ⟨gg, hgg⟩ : ∃ g, g = v4.heap.size := ⟨_, rfl⟩
  have HGg : Hid (w.heap.size ≤ gg) := by rw [hgg]; have := hbw.size; show _ ≤ _; omega
  rw [← hgg] at Xg0
  try rw [← hgg]
  clear hgg hgs
  replace Xr : Hid _ := Xr.out.below hbn
  replace GNa1 : Hid (GN Wg p1 m1 (kA1 n)) := GNa1.out.below hbn
  replace GNb1 : Hid (GN Wg q1 l1 (kA2 n)) := GNb1.out.below hbn
  replace GNa2 : Hid (GN Wg p2 m2 (kA1 n * 16)) := GNa2.out.below hbn
  replace GNb2 : Hid (GN Wg q2 l2 (kA2 n * 16)) := GNb2.out.below hbn
  replace GNa3 : Hid (GN Wg p3 m3 (kC1 n)) := GNa3.out.below hbn
  replace GNb3 : Hid (GN Wg q3 l3 (kC2 n)) := GNb3.out.below hbn
  replace GNa4 : Hid (GN Wg p4 m4 (kC1 n * 4)) := GNa4.out.below hbn
  replace GNb4 : Hid (GN Wg q4 l4 (kC2 n * 4)) := GNb4.out.below hbn
  replace hbw := Below.on hbw hbn
  clear hbn
  have Xg := Xg0
  clear Xg0
  have Xs := Xs0
  clear Xs0
  clear GNa1
  clear GNb1
  clear GNa3
  clear GNb3
  have HW9 : Hid (gr < Wg.heap.size) := Xr.out.lt
  refine (gn_sub GNa2.out GNb4.out HN.out.2.lo).mono ?_
  rintro e v5 ⟨p5, m5, rfl, hR, hb5⟩
  have GO5 : Hid (GO Wg.heap.size v5 p5 m5 (kLo n)) := hR.mono (Nat.le_refl _)
  have HB5 : Hid (Wg.heap.size ≤ v5.heap.size) := Nat.le_trans (Nat.le_refl _) hb5.size
  clear hR
  replace Xr : Hid _ := Xr.out.below hb5
  replace Xg : Hid _ := Xg.out.below hb5
  replace Xs : Hid _ := Xs.out.below hb5
  replace GNa2 : Hid (GN v5 p2 m2 (kA1 n * 16)) := GNa2.out.below hb5
  replace GNb2 : Hid (GN v5 q2 l2 (kA2 n * 16)) := GNb2.out.below hb5
  replace GNa4 : Hid (GN v5 p4 m4 (kC1 n * 4)) := GNa4.out.below hb5
  replace GNb4 : Hid (GN v5 q4 l4 (kC2 n * 4)) := GNb4.out.below hb5
  replace hbw := Below.on hbw hb5
  clear hb5
  obtain ⟨cg0, cg1, fg0, fg1⟩ := Xg.out
  have hneg := Xg.out.lt
  obtain ⟨cs0, cs1, fs0, fs1⟩ := Xs.out
  have hnes := Xs.out.lt
  go_wp2_with fail
  clear cg0 cg1 fg0 fg1 hneg
  clear cs0 cs1 fs0 fs1 hnes
  refine (gn_sub GNb2.out GNa4.out HN.out.2.hi).mono ?_
  rintro e v6 ⟨p6, m6, rfl, hR, hb6⟩
  have GO6 : Hid (GO Wg.heap.size v6 p6 m6 (kHi n)) := hR.mono HB5.out
  have HB6 : Hid (Wg.heap.size ≤ v6.heap.size) := Nat.le_trans HB5.out hb6.size
  clear hR
  replace Xr : Hid _ := Xr.out.below hb6
  replace Xg : Hid _ := Xg.out.below hb6
  replace Xs : Hid _ := Xs.out.below hb6
  replace GNa2 : Hid (GN v6 p2 m2 (kA1 n * 16)) := GNa2.out.below hb6
  replace GNb2 : Hid (GN v6 q2 l2 (kA2 n * 16)) := GNb2.out.below hb6
  replace GNa4 : Hid (GN v6 p4 m4 (kC1 n * 4)) := GNa4.out.below hb6
  replace GNb4 : Hid (GN v6 q4 l4 (kC2 n * 4)) := GNb4.out.below hb6
  replace GO5 : Hid (GO Wg.heap.size v6 p5 m5 (kLo n)) := GO5.out.below hb6
  replace hbw := Below.on hbw hb6
  clear hb6
  obtain ⟨cr0, cr1, fr0, fr1⟩ := Xr.out
  have hner := Xr.out.lt
  go_wp2_with fail
  refine bodyPost_ret (v := .agg #[.slice p5 m5 m5, .slice p6 m6 m6]) (by rw [results_cell1 rfl]; go_simp) rfl ⟨_, _, _, _, rfl, ((GO5.out.set _ _ _ HW9.out).set _ _ _ HW9.out).gn, ((GO6.out.set _ _ _ HW9.out).set _ _ _ HW9.out).gn, ?_⟩
  exact bSet (bSet (hbw) _ _ _ HGr.out) _ _ _ HGr.out
structure KInv (p V : Nat) : Prop where
  pi : KPi (p + 64)
  l0 : kLo (p + 64) ≠ 0
  h0 : kHi (p + 64) ≠ 0
  fl : 2 ^ (2 * (p + 64) + 1) / kHi (p + 64) / 2 ^ 64 = V
  fh : (2 ^ (2 * (p + 64) + 1) / kLo (p + 64) + 1) / 2 ^ 64 = V
theorem ky1 {n x : Nat} (h : x = 2 * n) (hb : n ≤ 1400) : wrap64 (2 * (n : Int)) = (x : Int) := by subst h; simp only [wrap64]; omega
theorem ky2 {x y : Nat} (h : y = x + 1) (hb : x ≤ 2800) : wrap64 ((x : Int) + 1) = (y : Int) := by subst h; simp only [wrap64]; omega
theorem ky3 {p n : Nat} (h : n = p + 64) (hb : p ≤ 1300) : wrap64 ((p : Int) + 64) = (n : Int) := by subst h; simp only [wrap64]; omega
theorem kq {x y : Nat} (h3 : 1 ≤ x) : 2 ^ x / y + 1 < 2 ^ (x + 1) := by
  have h1 : 2 ^ x / y ≤ 2 ^ x := Nat.div_le_self _ _
  have h2 := Nat.two_pow_pos x
  rw [Nat.pow_succ]
  have : 2 ≤ 2 ^ x := by
    have := Nat.pow_le_pow_right (show 1 ≤ 2 by decide) h3
    omega
  omega
theorem inverse_ok (n : Nat) (hn : n ≤ 1400) (hP : KPi n) (hl : kLo n ≠ 0) (hh : kHi n ≠ 0) {w : World} :
    Calls Tryz.prog 15 #[.int .i64 n] w fun en w' => ∃ p1 m1 p2 m2, en = .returned (.agg #[.slice p1 m1 m1, .slice p2 m2 m2]) ∧ GN w' p1 m1 (2 ^ (2 * n + 1) / kHi n) ∧ GN w' p2 m2 (2 ^ (2 * n + 1) / kLo n + 1) ∧ Below w.heap.size w w' := by
  have HN : Hid (n ≤ 1400 ∧ KPi n ∧ kLo n ≠ 0 ∧ kHi n ≠ 0) := ⟨hn, hP, hl, hh⟩
  obtain ⟨x, hx⟩ : ∃ x, x = 2 * n := ⟨_, rfl⟩
  obtain ⟨y, hy⟩ : ∃ y, y = x + 1 := ⟨_, rfl⟩
  have HXY : Hid (y = 2 * n + 1) := by show y = _; omega
  have hx2 : x ≤ 2800 := by omega
  have k1 := ky1 hx hn
  have k2 := ky2 hy hx2
  clear hn hP hl hh hx hy hx2
  go_enter Tryz.func15, Tryz.ntmps15
  go_wp2_with fail
  obtain ⟨W0, hW0⟩ : ∃ W0, W0 = (w.alloc (.cells #[.slice none 0 0, .slice none 0 0] 44)) := ⟨_, rfl⟩
  have Xr : Hid (Box W0 (w.heap.size) (.slice none 0 0) (.slice none 0 0)) := by rw [hW0]; exact ⟨by go_simp, by go_simp, by go_simp, by go_simp⟩
  have hb0 : Below w.heap.size w W0 := by rw [hW0]; exact below1 w _
  rw [← hW0]
  clear hW0
  have hbw : Below w.heap.size w w := Below.refl _ _
  obtain ⟨gr, hgr⟩ : ∃ g, g = w.heap.size := ⟨_, rfl⟩
  have HGr : Hid (w.heap.size ≤ gr) := by rw [hgr]; show _ ≤ _; omega
  rw [← hgr] at Xr
  try rw [← hgr]
  clear hgr
  replace hbw := Below.on hbw hb0
  clear hb0
  refine (pi_ok n HN.out.1 HN.out.2.1).mono ?_
  rintro e v1 ⟨p1, m1, q1, l1, rfl, hR1, hR2, hb1⟩
  have GNa1 : Hid (GN v1 p1 m1 (kLo n)) := hR1
  have GNb1 : Hid (GN v1 q1 l1 (kHi n)) := hR2
  clear hR1 hR2
  replace Xr : Hid _ := Xr.out.below hb1
  replace hbw := Below.on hbw hb1
  clear hb1
  go_wp2_with fail
  have Xb0 : Hid (Box (v1.alloc (.cells #[.slice p1 m1 m1, .slice q1 l1 l1] 44)) v1.heap.size (.slice p1 m1 m1) (.slice q1 l1 l1)) := Box.new v1 _ _ _
  have hbn : Below v1.heap.size v1 (v1.alloc (.cells #[.slice p1 m1 m1, .slice q1 l1 l1] 44)) := below1 v1 _
  generalize v1.alloc (.cells #[.slice p1 m1 m1, .slice q1 l1 l1] 44) = Wb at *
  have HGb : Hid (w.heap.size ≤ v1.heap.size) := hbw.size
  replace Xr : Hid _ := Xr.out.below hbn
  replace GNa1 : Hid (GN Wb p1 m1 (kLo n)) := GNa1.out.below hbn
  replace GNb1 : Hid (GN Wb q1 l1 (kHi n)) := GNb1.out.below hbn
  replace hbw := Below.on hbw hbn
  clear hbn
  generalize v1.heap.size = gb at *
  have Xb := Xb0
  clear Xb0
  refine (twoTo_ok y (by have h1 := HXY.out; have h2 := HN.out.1; clear k1 k2; omega)).mono ?_
  rintro e v2 ⟨p2, m2, rfl, hR, hb2⟩
  have GN2 : Hid (GN v2 p2 m2 (2 ^ y)) := hR.gn
  clear hR
  replace Xr : Hid _ := Xr.out.below hb2
  replace Xb : Hid _ := Xb.out.below hb2
  replace GNa1 : Hid (GN v2 p1 m1 (kLo n)) := GNa1.out.below hb2
  replace GNb1 : Hid (GN v2 q1 l1 (kHi n)) := GNb1.out.below hb2
  replace hbw := Below.on hbw hb2
  clear hb2
  obtain ⟨cb0, cb1, fb0, fb1⟩ := Xb.out
  have hneb := Xb.out.lt
  go_wp2_with fail
  clear cb0 cb1 fb0 fb1 hneb
  have HW9 : Hid (gr < v2.heap.size) := Xr.out.lt
  refine (gn_quoO GN2.out GNb1.out HN.out.2.2.2).mono ?_
  rintro e v3 ⟨p3, m3, p3x, m3x, rfl, hR, hb3⟩
  have GO3 : Hid (GO v2.heap.size v3 p3 m3 (2 ^ y / kHi n)) := hR.mono (Nat.le_refl _)
  have HB3 : Hid (v2.heap.size ≤ v3.heap.size) := Nat.le_trans (Nat.le_refl _) hb3.size
  clear hR
  replace Xr : Hid _ := Xr.out.below hb3
  replace Xb : Hid _ := Xb.out.below hb3
  replace GNa1 : Hid (GN v3 p1 m1 (kLo n)) := GNa1.out.below hb3
  replace GNb1 : Hid (GN v3 q1 l1 (kHi n)) := GNb1.out.below hb3
  replace GN2 : Hid (GN v3 p2 m2 (2 ^ y)) := GN2.out.below hb3
  replace hbw := Below.on hbw hb3
  clear hb3
  obtain ⟨cb0, cb1, fb0, fb1⟩ := Xb.out
  have hneb := Xb.out.lt
  go_wp2_with fail
  clear cb0 cb1 fb0 fb1 hneb
  refine (gn_quoO GN2.out GNa1.out HN.out.2.2.1).mono ?_
  rintro e v4 ⟨p4, m4, p4x, m4x, rfl, hR, hb4⟩
  have GO4 : Hid (GO v2.heap.size v4 p4 m4 (2 ^ y / kLo n)) := hR.mono HB3.out
  have HB4 : Hid (v2.heap.size ≤ v4.heap.size) := Nat.le_trans HB3.out hb4.size
  clear hR
  replace Xr : Hid _ := Xr.out.below hb4
  replace Xb : Hid _ := Xb.out.below hb4
  replace GNa1 : Hid (GN v4 p1 m1 (kLo n)) := GNa1.out.below hb4
  replace GNb1 : Hid (GN v4 q1 l1 (kHi n)) := GNb1.out.below hb4
  replace GN2 : Hid (GN v4 p2 m2 (2 ^ y)) := GN2.out.below hb4
  replace GO3 : Hid (GO v2.heap.size v4 p3 m3 (2 ^ y / kHi n)) := GO3.out.below hb4
  replace hbw := Below.on hbw hb4
  clear hb4
  obtain ⟨cb0, cb1, fb0, fb1⟩ := Xb.out
  have hneb := Xb.out.lt
  go_wp2_with fail
  clear cb0 cb1 fb0 fb1 hneb
  refine (more_ok GO4.out.gn 1 (by decide) (K := y + 1) (by have h1 := HXY.out; have h2 := HN.out.1; clear k1 k2; omega) (kq (by have h1 := HXY.out; clear k1 k2; omega))).mono ?_
  rintro e v5 ⟨p5, m5, rfl, hR, hb5⟩
  have GO5 : Hid (GO v2.heap.size v5 p5 m5 (2 ^ y / kLo n + 1)) := hR.mono HB4.out
  have HB5 : Hid (v2.heap.size ≤ v5.heap.size) := Nat.le_trans HB4.out hb5.size
  clear hR
  replace Xr : Hid _ := Xr.out.below hb5
  replace Xb : Hid _ := Xb.out.below hb5
  replace GNa1 : Hid (GN v5 p1 m1 (kLo n)) := GNa1.out.below hb5
  replace GNb1 : Hid (GN v5 q1 l1 (kHi n)) := GNb1.out.below hb5
  replace GN2 : Hid (GN v5 p2 m2 (2 ^ y)) := GN2.out.below hb5
  replace GO3 : Hid (GO v2.heap.size v5 p3 m3 (2 ^ y / kHi n)) := GO3.out.below hb5
  replace GO4 : Hid (GO v2.heap.size v5 p4 m4 (2 ^ y / kLo n)) := GO4.out.below hb5
  replace hbw := Below.on hbw hb5
  clear hb5
  obtain ⟨cr0, cr1, fr0, fr1⟩ := Xr.out
  have hner := Xr.out.lt
  go_wp2_with fail
  refine bodyPost_ret (v := .agg #[.slice p3 m3 m3, .slice p5 m5 m5]) (by rw [results_cell1 rfl]; go_simp) rfl ?_
  rw [← HXY.out]
  refine ⟨_, _, _, _, rfl, ((GO3.out.set _ _ _ HW9.out).set _ _ _ HW9.out).gn, ((GO5.out.set _ _ _ HW9.out).set _ _ _ HW9.out).gn, ?_⟩
  exact bSet (bSet (hbw) _ _ _ HGr.out) _ _ _ HGr.out
theorem wrong_ok (p : Nat) (h1 : 1 ≤ p) (h2 : p ≤ 70000) (w : World) : Calls Tryz.prog 12 #[.int .i64 p] w fun en w' => en = .returned (.bool false) ∧ w' = w := by
  have k1 : decide ((p : Int) < 1) = false := decide_eq_false (by omega)
  have k2 : decide ((70000 : Int) < (p : Int)) = false := decide_eq_false (by omega)
  have k3 : ¬ (p : Int) < 1 := by omega
  have k4 : ¬ (p : Int) ≤ 0 := by omega
  clear h1 h2
  go_enter Tryz.func12, Tryz.ntmps12
  go_wp2_with fail
  go_ret
  first | exact ⟨rfl, rfl⟩ | (refine ⟨?_, rfl⟩; congr 2; simp; omega)
theorem floor_ok (p V : Nat) (hp : p ≤ 1300) (hK : KInv p V) {w : World} : Calls Tryz.prog 13 #[.int .i64 p, .func (.func 15) #[] #[]] w fun en w' => ∃ q m, en = .returned (.slice q m m) ∧ GN w' q m V ∧ Below w.heap.size w w' := by
  have HN : Hid (p ≤ 1300 ∧ KInv p V) := ⟨hp, hK⟩
  obtain ⟨n, hn⟩ : ∃ n, n = p + 64 := ⟨_, rfl⟩
  have HE : Hid (n = p + 64) := hn
  have k1 := ky3 hn hp
  clear hp hK hn
  go_enter Tryz.func13, Tryz.ntmps13
  go_wp2_with fail
  have hbw : Below w.heap.size w w := Below.refl _ _
  refine wp_loop_rounds 1 ?_
  rw [rounds_succ]
  go_wp2_with fail
  have HI : Hid (n ≤ 1400 ∧ KPi n ∧ kLo n ≠ 0 ∧ kHi n ≠ 0) := by have h1 := HN.out; rw [HE.out]; exact ⟨by clear k1; omega, h1.2.pi, h1.2.l0, h1.2.h0⟩
  refine (inverse_ok n HI.out.1 HI.out.2.1 HI.out.2.2.1 HI.out.2.2.2).mono ?_
  rintro e v1 ⟨p1, m1, q1, l1, rfl, hR1, hR2, hb1⟩
  have GNa1 : Hid (GN v1 p1 m1 (2 ^ (2 * n + 1) / kHi n)) := hR1
  have GNb1 : Hid (GN v1 q1 l1 (2 ^ (2 * n + 1) / kLo n + 1)) := hR2
  clear hR1 hR2
  replace hbw := Below.on hbw hb1
  clear hb1
  go_wp2_with fail
  have Xb0 : Hid (Box (v1.alloc (.cells #[.slice p1 m1 m1, .slice q1 l1 l1] 44)) v1.heap.size (.slice p1 m1 m1) (.slice q1 l1 l1)) := Box.new v1 _ _ _
  have hbn : Below v1.heap.size v1 (v1.alloc (.cells #[.slice p1 m1 m1, .slice q1 l1 l1] 44)) := below1 v1 _
  generalize v1.alloc (.cells #[.slice p1 m1 m1, .slice q1 l1 l1] 44) = Wb at *
  have HGb : Hid (w.heap.size ≤ v1.heap.size) := hbw.size
  replace GNa1 : Hid (GN Wb p1 m1 (2 ^ (2 * n + 1) / kHi n)) := GNa1.out.below hbn
  replace GNb1 : Hid (GN Wb q1 l1 (2 ^ (2 * n + 1) / kLo n + 1)) := GNb1.out.below hbn
  replace hbw := Below.on hbw hbn
  clear hbn
  generalize v1.heap.size = gb at *
  have Xb := Xb0
  clear Xb0
  refine (gn_shr GNa1.out 64 (by decide)).mono ?_
  rintro e v2 ⟨p2, m2, rfl, hR, hb2⟩
  have GN2 : Hid (GN v2 p2 m2 (2 ^ (2 * n + 1) / kHi n / 2 ^ 64)) := hR.gn
  clear hR
  replace Xb : Hid _ := Xb.out.below hb2
  replace GNa1 : Hid (GN v2 p1 m1 (2 ^ (2 * n + 1) / kHi n)) := GNa1.out.below hb2
  replace GNb1 : Hid (GN v2 q1 l1 (2 ^ (2 * n + 1) / kLo n + 1)) := GNb1.out.below hb2
  replace hbw := Below.on hbw hb2
  clear hb2
  obtain ⟨cb0, cb1, fb0, fb1⟩ := Xb.out
  have hneb := Xb.out.lt
  go_wp2_with fail
  clear cb0 cb1 fb0 fb1 hneb
  refine (gn_shr GNb1.out 64 (by decide)).mono ?_
  rintro e v3 ⟨p3, m3, rfl, hR, hb3⟩
  have GN3 : Hid (GN v3 p3 m3 ((2 ^ (2 * n + 1) / kLo n + 1) / 2 ^ 64)) := hR.gn
  clear hR
  replace Xb : Hid _ := Xb.out.below hb3
  replace GNa1 : Hid (GN v3 p1 m1 (2 ^ (2 * n + 1) / kHi n)) := GNa1.out.below hb3
  replace GNb1 : Hid (GN v3 q1 l1 (2 ^ (2 * n + 1) / kLo n + 1)) := GNb1.out.below hb3
  replace GN2 : Hid (GN v3 p2 m2 (2 ^ (2 * n + 1) / kHi n / 2 ^ 64)) := GN2.out.below hb3
  replace hbw := Below.on hbw hb3
  clear hb3
  obtain ⟨cb0, cb1, fb0, fb1⟩ := Xb.out
  have hneb := Xb.out.lt
  go_wp2_with fail
  clear cb0 cb1 fb0 fb1 hneb
  have HV : Hid (2 ^ (2 * n + 1) / kHi n / 2 ^ 64 = V ∧ (2 ^ (2 * n + 1) / kLo n + 1) / 2 ^ 64 = V) := by rw [HE.out]; exact ⟨HN.out.2.fl, HN.out.2.fh⟩
  rw [HV.out.1] at GN2
  rw [HV.out.2] at GN3
  refine (gn_cmp GN2.out GN3.out).mono ?_
  rintro e v4 ⟨rfl, hb4⟩
  rw [cmpN_eq (rfl : V = V)]
  replace Xb : Hid _ := Xb.out.below hb4
  replace GNa1 : Hid (GN v4 p1 m1 (2 ^ (2 * n + 1) / kHi n)) := GNa1.out.below hb4
  replace GNb1 : Hid (GN v4 q1 l1 (2 ^ (2 * n + 1) / kLo n + 1)) := GNb1.out.below hb4
  replace GN2 : Hid (GN v4 p2 m2 V) := GN2.out.below hb4
  replace GN3 : Hid (GN v4 p3 m3 V) := GN3.out.below hb4
  replace hbw := Below.on hbw hb4
  clear hb4
  go_wp2_with fail
  go_ret
  exact ⟨_, _, rfl, GN2.out, hbw⟩
theorem floorInv_ok (p V : Nat) (h1 : 1 ≤ p) (hp : p ≤ 1300) (hK : KInv p V) {w : World} : Calls Tryz.prog 6 #[.int .i64 p] w fun en w' => ∃ q m, en = .returned (.tuple #[.slice q m m, .int .i64 0]) ∧ GN w' q m V ∧ Below w.heap.size w w' := by
  have HN : Hid (1 ≤ p ∧ p ≤ 1300 ∧ KInv p V) := ⟨h1, hp, hK⟩
  clear h1 hp hK
  go_enter Tryz.func6, Tryz.ntmps6
  go_wp2_with fail
  have hbw : Below w.heap.size w w := Below.refl _ _
  refine (wrong_ok p HN.out.1 (by have := HN.out.2.1; omega) _).mono ?_
  rintro e v9 ⟨rfl, hw⟩
  obtain rfl := hw.symm
  clear hw
  go_wp2_with fail
  refine (floor_ok p V HN.out.2.1 HN.out.2.2).mono ?_
  rintro e v1 ⟨p1, m1, rfl, hR, hb1⟩
  have GN1 : Hid (GN v1 p1 m1 V) := hR
  clear hR
  replace hbw := Below.on hbw hb1
  clear hb1
  go_wp2_with fail
  go_ret2
  exact ⟨_, _, rfl, GN1.out, hbw⟩
theorem Own.drewq {B : Nat} {w : World} {p : Option Addr} {m : Nat} {zs : List Nat} (h : Own B w p m zs) : Own B w.drew p m zs := by
  refine ⟨h.len, h.dig, ?_⟩
  rcases h.mem with h0 | ⟨g, hp, hB, hr⟩
  · exact .inl h0
  · exact .inr ⟨g, hp, hB, hr.drew⟩
theorem rounded_f (p : Option Addr) (m : Nat) (s x : Bool) (hf : Int) (w : World) :
    Calls Tryz.prog 102 #[FR s p m m x hf, .bool false] w fun e w' => e = .returned (ZV (s && decide (0 < m)) p m m) ∧ Below w.heap.size w w' := by
  go_enter Tryz.func102, Tryz.ntmps102
  go_wp2_with fail
  obtain ⟨W0, hW0⟩ : ∃ W0, W0 = ((w.alloc (.cells #[.bool s, .slice p m m, .bool x, .int .i64 hf] 118)).alloc (.cells #[.bool false, .slice none 0 0] 30)) := ⟨_, rfl⟩
  have Xf : Hid (B4q W0 (w.heap.size) (.bool s) (.slice p m m) (.bool x) (.int .i64 hf)) := by rw [hW0]; exact ⟨by go_simp, by go_simp, by go_simp, by go_simp, by go_simp, by go_simp, by go_simp, by go_simp⟩
  have Xr : Hid (Box W0 (w.heap.size + 1) (.bool false) (.slice none 0 0)) := by rw [hW0]; exact ⟨by go_simp, by go_simp, by go_simp, by go_simp⟩
  have hb0 : Below w.heap.size w W0 := by rw [hW0]; exact below2 w _ _
  rw [← hW0]
  clear hW0
  have hbw : Below w.heap.size w w := Below.refl _ _
  obtain ⟨gr, hgr⟩ : ∃ g, g = w.heap.size + 1 := ⟨_, rfl⟩
  have HGr : Hid (w.heap.size ≤ gr) := by rw [hgr]; show _ ≤ _; omega
  rw [← hgr] at Xr
  try rw [← hgr]
  obtain ⟨gf, hgf⟩ : ∃ g, g = w.heap.size := ⟨_, rfl⟩
  have HGf : Hid (w.heap.size ≤ gf) := by rw [hgf]; show _ ≤ _; omega
  rw [← hgf] at Xf
  try rw [← hgf]
  have HGD : Hid (gf ≠ gr ∧ gr ≠ gf) := by rw [hgf, hgr]; exact ⟨by omega, by omega⟩
  clear hgf hgr
  replace hbw := Below.on hbw hb0
  clear hb0
  refine (signed_any s p m m W0).mono ?_
  rintro e w1 ⟨rfl, hb1⟩
  replace Xf : Hid _ := Xf.out.below hb1
  replace Xr : Hid _ := Xr.out.below hb1
  replace hbw := Below.on hbw hb1
  clear hb1
  obtain ⟨b, hb⟩ : ∃ b, b = (s && decide (0 < m)) := ⟨_, rfl⟩
  rw [← hb]
  have HBB : Hid (b = (s && decide (0 < m))) := hb
  clear hb
  obtain ⟨cr0, cr1, fr0, fr1⟩ := Xr.out
  have hner := Xr.out.lt
  go_wp2_with fail
  refine bodyPost_ret (v := ZV b p m m) (by rw [results_cell1 rfl]; go_simp) rfl ⟨by rw [HBB.out], ?_⟩
  exact bSet (bSet hbw _ _ _ HGr.out) _ _ _ HGr.out

theorem rounded_t {B : Nat} {p : Option Addr} {m : Nat} {zs : List Nat} {q : Nat} {w : World} (s x : Bool) (hf : Int) (ho : Own B w p m zs) (hn : Nf B64 zs q) (hm : m ≤ 8192) (hq : q + 1 < LIM) :
    Calls Tryz.prog 102 #[FR s p m m x hf, .bool true] w fun e w' => ∃ v, e = .returned v ∧ AnsZ w.heap.size w' v (iv s (q + 1)) ∧ Below w.heap.size w w' := by
  have HO : Hid (Own B w p m zs) := ho
  have HN : Hid (Nf B64 zs q ∧ m ≤ 8192 ∧ q + 1 < LIM) := ⟨hn, hm, hq⟩
  clear ho hn hm hq
  go_enter Tryz.func102, Tryz.ntmps102
  go_wp2_with fail
  obtain ⟨W0, hW0⟩ : ∃ W0, W0 = ((w.alloc (.cells #[.bool s, .slice p m m, .bool x, .int .i64 hf] 118)).alloc (.cells #[.bool false, .slice none 0 0] 30)) := ⟨_, rfl⟩
  have Xf : Hid (B4q W0 (w.heap.size) (.bool s) (.slice p m m) (.bool x) (.int .i64 hf)) := by rw [hW0]; exact ⟨by go_simp, by go_simp, by go_simp, by go_simp, by go_simp, by go_simp, by go_simp, by go_simp⟩
  have Xr : Hid (Box W0 (w.heap.size + 1) (.bool false) (.slice none 0 0)) := by rw [hW0]; exact ⟨by go_simp, by go_simp, by go_simp, by go_simp⟩
  have hb0 : Below w.heap.size w W0 := by rw [hW0]; exact below2 w _ _
  rw [← hW0]
  clear hW0
  have hbw : Below w.heap.size w w := Below.refl _ _
  obtain ⟨gr, hgr⟩ : ∃ g, g = w.heap.size + 1 := ⟨_, rfl⟩
  have HGr : Hid (w.heap.size ≤ gr) := by rw [hgr]; show _ ≤ _; omega
  rw [← hgr] at Xr
  try rw [← hgr]
  obtain ⟨gf, hgf⟩ : ∃ g, g = w.heap.size := ⟨_, rfl⟩
  have HGf : Hid (w.heap.size ≤ gf) := by rw [hgf]; show _ ≤ _; omega
  rw [← hgf] at Xf
  try rw [← hgf]
  have HGD : Hid (gf ≠ gr ∧ gr ≠ gf) := by rw [hgf, hgr]; exact ⟨by omega, by omega⟩
  clear hgf hgr
  replace HO : Hid (Own B W0 p m zs) := HO.out.below hb0
  replace hbw := Below.on hbw hb0
  clear hb0
  have XfD : Hid (B4q W0.drew gf (.bool s) (.slice p m m) (.bool x) (.int .i64 hf)) := ⟨Xf.out.c0, Xf.out.c1, Xf.out.c2, Xf.out.c3, Xf.out.f0, Xf.out.f1, Xf.out.f2, Xf.out.f3⟩
  have XrD : Hid (Box W0.drew gr (.bool false) (.slice none 0 0)) := ⟨Xr.out.c0, Xr.out.c1, Xr.out.f0, Xr.out.f1⟩
  have HOD : Hid (Own B W0.drew p m zs) := HO.out.drewq
  have hbw2 := bDrew1 hbw
  clear Xf Xr HO hbw
  have Xf := XfD
  have Xr := XrD
  have HO := HOD
  have hbw := hbw2
  clear XfD XrD HOD hbw2
  have HJ : Hid ((fun W' : World => W'.cell? ⟨gf, 1, none⟩ = some (.slice p m m)) W0.drew) := Xf.out.c1
  refine wp_region_J (fun W' => W'.cell? ⟨gf, 1, none⟩ = some (.slice p m m)) (by kernel_rfl) ?_
  refine wpJ_tk 0 (v := ?v1x0) rfl ?hy1x0 HJ.out ?_
  case hy1x0 => (intro W' hJ; have j1 := hJ; go_simp; first | done | with_reducible rfl)
  refine wpJ_tk 1 (v := ?v2x1) rfl ?hy2x1 HJ.out ?_
  case hy2x1 => (intro W' hJ; have j1 := hJ; go_simp; first | done | with_reducible rfl)
  generalize W0.drew = W1 at *
  refine wpJ_on 2 rfl fun K hK => ?_
  go_simp
  rw [show Value.int IntKind.u64 1 = U 1 from rfl]
  refine (word_any 1 W1 (by decide)).mono ?_
  rintro e w2 ⟨p2, m2, z2, rfl, ho2, hn2, hm2, hb2⟩
  replace Xf : Hid _ := Xf.out.below hb2
  replace Xr : Hid _ := Xr.out.below hb2
  replace HO : Hid (Own B w2 p m zs) := HO.out.below hb2
  replace hbw := Below.on hbw hb2
  clear hb2
  have N2 : Hid (Num w2 p2 m2 m2 z2 1) := Num.of ho2 hn2 (by omega)
  clear ho2 hn2 HJ
  have HJ : Hid ((fun W' : World => W'.cell? ⟨gf, 1, none⟩ = some (.slice p m m)) w2) := Xf.out.c1
  refine hK _ _ HJ.out ?_
  clear hK
  have HRL : Hid (gr < w2.heap.size ∧ w.heap.size ≤ w2.heap.size) := ⟨Xr.out.lt, hbw.size⟩
  refine wpJ_on 3 rfl fun K hK => ?_
  go_simp
  have M : Num w2 p m m zs q := Num.of HO.out HN.out.1 HN.out.2.1
  refine (add_ord M.at_ N2.out.at_ M.nf N2.out.nf M.le N2.out.le).mono ?_
  rintro e w3 ⟨ha, hb3⟩
  clear M
  obtain ⟨p3, m3, z3, rfl, ho3, hn3, hm3⟩ := ha.ok HN.out.2.2
  clear ha
  replace Xf : Hid _ := Xf.out.below hb3
  replace Xr : Hid _ := Xr.out.below hb3
  replace HO : Hid (Own B w3 p m zs) := HO.out.below hb3
  replace N2 : Hid _ := N2.out.below hb3
  replace hbw := Below.on hbw hb3
  clear hb3
  have HO3 : Hid (Own w2.heap.size w3 p3 m3 z3) := ho3
  have HN3 : Hid (Nf B64 z3 (q + 1) ∧ m3 ≤ 8192) := ⟨hn3, hm3⟩
  clear ho3 hn3 hm3 HJ
  have HJ : Hid ((fun W' : World => W'.cell? ⟨gf, 1, none⟩ = some (.slice p m m)) w3) := Xf.out.c1
  refine hK _ _ HJ.out ?_
  clear hK
  refine wpJ_tk 4 (v := ?v3x4) rfl ?hy3x4 HJ.out ?_
  case hy3x4 => (intro W' hJ; have j1 := hJ; go_simp; first | done | with_reducible rfl)
  refine wpJ_tk 5 (v := ?v4x5) rfl ?hy4x5 HJ.out ?_
  case hy4x5 => (intro W' hJ; have j1 := hJ; go_simp; first | done | with_reducible rfl)
  refine wpJ_tk 6 (v := ?v5x6) rfl ?hy5x6 HJ.out ?_
  case hy5x6 => (intro W' hJ; have j1 := hJ; go_simp; first | done | with_reducible rfl)
  refine wpJ_tk 7 (v := ?v6x7) rfl ?hy6x7 HJ.out ?_
  case hy6x7 => (intro W' hJ; have j1 := hJ; go_simp; first | done | with_reducible rfl)
  refine wpJ_done (by kernel_rfl) ?_ _
  clear HJ
  obtain ⟨cf0, cf1, cf2, cf3, ff0, ff1, ff2, ff3⟩ := Xf.out
  have hnef : gf < w3.heap.size := World.block_lt_of_cell? w3 _ cf0
  go_wp2_with fail
  clear cf0 cf1 cf2 cf3 ff0 ff1 ff2 ff3 hnef
  refine (signed_any s p3 m3 m3 w3).mono ?_
  rintro e w4 ⟨rfl, hb4⟩
  replace Xf : Hid _ := Xf.out.below hb4
  replace Xr : Hid _ := Xr.out.below hb4
  replace HO : Hid (Own B w4 p m zs) := HO.out.below hb4
  replace N2 : Hid _ := N2.out.below hb4
  replace HO3 : Hid (Own w2.heap.size w4 p3 m3 z3) := HO3.out.below hb4
  replace hbw := Below.on hbw hb4
  clear hb4
  obtain ⟨b, hb⟩ : ∃ b, b = (s && decide (0 < m3)) := ⟨_, rfl⟩
  rw [← hb]
  have HBB : Hid (b = (s && decide (0 < m3))) := hb
  clear hb
  obtain ⟨cr0, cr1, fr0, fr1⟩ := Xr.out
  have hner := Xr.out.lt
  go_wp2_with fail
  refine bodyPost_ret (v := ZV b p3 m3 m3) (by rw [results_cell1 rfl]; go_simp) rfl ⟨_, rfl, ?_, ?_⟩
  · rw [HBB.out]
    exact AnsZ.mk s (own_set2 HO3.out HRL.out.1 HRL.out.2 _ _) HN3.out.1 HN3.out.2
  · exact bSet (bSet hbw _ _ _ HGr.out) _ _ _ HGr.out
end Go.Proofs.YtmefpgebmchnkaaGreatDoor
