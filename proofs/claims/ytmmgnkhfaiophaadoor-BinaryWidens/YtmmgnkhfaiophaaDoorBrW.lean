import Derived.Test.YtmmgnkhfaiophaaDoorBr1
import Derived.Test.YtmmgnkhfaiophaaDoorBjW
import Derived.Test.YtmmgnkhfaiophaaDoorShAll
import Derived.Test.YtmmgnkhfaiophaaDoorCmp32
import Derived.Deep.LoopGhost
namespace Go.Proofs.YtmmgnkhfaiophaaDoor
open Go.RowKit Go.Shelf

-- Br3
abbrev F32 : Value := FV 2147483648 24 (-149) 104 2139095040 2143289345
abbrev F64 : Value := FV 9223372036854775808 53 (-1074) 971 9218868437227405312 9221120237041090561
set_option maxRecDepth 20000 in
set_option maxHeartbeats 4000000 in
theorem rparts_320 (s : Nat) (hs : s < 8388608) (w : World) : Calls Tryd.prog 50 #[F32, U s] w fun e w' => e = .returned (.tuple #[U s, .int .i64 (-149)]) ∧ Below w.heap.size w w' := by
  obtain ⟨z, hz⟩ : ∃ z, z = s / 8388608 := ⟨_, rfl⟩
  obtain ⟨r, hr⟩ : ∃ r, r = s % 8388608 := ⟨_, rfl⟩
  have d1 : (s : Int).tdiv 8388608 = (z : Int) := by rw [Int.tdiv_eq_ediv_of_nonneg (by omega)]; omega
  have d2 : (s : Int).tmod 8388608 = (r : Int) := by rw [Int.tmod_eq_emod_of_nonneg (by omega)]; omega
  have d3 : IntKind.u64.wrap (z : Int) = (z : Int) := by rw [IntKind.wrap_u64]; omega
  have d4 : IntKind.u64.wrap (r : Int) = (r : Int) := by rw [IntKind.wrap_u64]; omega
  have hz0 : z = 0 := by omega
  have hrs : r = s := by omega
  subst hz0
  subst hrs
  clear hz hr hs
  go_enter Tryd.func50, Tryd.ntmps50
  go_wp2_with fail
  go_quiet (fail)
  go_wp2_with fail
  go_quiet (fail)
  go_wp2_with fail
  go_ret2
  exact ⟨rfl, bwDrewN (bwDrewN (bwAlloc w _) _) _⟩
set_option maxRecDepth 20000 in
set_option maxHeartbeats 4000000 in
theorem rparts_32n (s : Nat) (hs : 8388608 ≤ s) (hs9 : s < 9223372036854775808) (w : World) : Calls Tryd.prog 50 #[F32, U s] w fun e w' => e = .returned (.tuple #[U (s - (s / 8388608 - 1) * 8388608), .int .i64 ((-149) + ((s / 8388608 - 1 : Nat) : Int))]) ∧ Below w.heap.size w w' := by
  obtain ⟨z, hz⟩ : ∃ z, z = s / 8388608 := ⟨_, rfl⟩
  obtain ⟨r, hr⟩ : ∃ r, r = s % 8388608 := ⟨_, rfl⟩
  have d1 : (s : Int).tdiv 8388608 = (z : Int) := by rw [Int.tdiv_eq_ediv_of_nonneg (by omega)]; omega
  have d2 : (s : Int).tmod 8388608 = (r : Int) := by rw [Int.tmod_eq_emod_of_nonneg (by omega)]; omega
  have d3 : IntKind.u64.wrap (z : Int) = (z : Int) := by rw [IntKind.wrap_u64]; omega
  have d4 : IntKind.u64.wrap (r : Int) = (r : Int) := by rw [IntKind.wrap_u64]; omega
  have hzb : ((z : Int) == 0) = false := by simp; omega
  obtain ⟨y, hy⟩ : ∃ y, y = s - (z - 1) * 8388608 := ⟨_, rfl⟩
  obtain ⟨x, hx⟩ : ∃ x : Int, x = (-149) + ((z - 1 : Nat) : Int) := ⟨_, rfl⟩
  obtain ⟨x1, hx1⟩ : ∃ x1 : Int, x1 = (-149) + (z : Int) := ⟨_, rfl⟩
  rw [← hz, ← hy, ← hx]
  have d5 : IntKind.u64.wrap (8388608 + (r : Int)) = (y : Int) := by rw [IntKind.wrap_u64]; omega
  have d6 : IntKind.i64.wrap (z : Int) = (z : Int) := by simp [IntKind.wrap, IntKind.signed, IntKind.bits]; omega
  have d7 : IntKind.i64.wrap ((-149) + (z : Int)) = x1 := by rw [hx1]; simp [IntKind.wrap, IntKind.signed, IntKind.bits]; omega
  have d8 : IntKind.i64.wrap (x1 - 1) = x := by simp [IntKind.wrap, IntKind.signed, IntKind.bits]; omega
  clear hz hr hs hs9 hy hx hx1
  go_enter Tryd.func50, Tryd.ntmps50
  go_wp2_with fail
  go_quiet (fail)
  go_wp2_with fail
  go_quiet (fail)
  go_wp2_with fail
  go_ret2
  exact ⟨rfl, bwDrewN (bwDrewN (bwAlloc w _) _) _⟩
set_option maxRecDepth 20000 in
set_option maxHeartbeats 4000000 in
theorem rparts_64n (s : Nat) (hs : 4503599627370496 ≤ s) (hs9 : s < 9223372036854775808) (w : World) : Calls Tryd.prog 50 #[F64, U s] w fun e w' => e = .returned (.tuple #[U (s - (s / 4503599627370496 - 1) * 4503599627370496), .int .i64 ((-1074) + ((s / 4503599627370496 - 1 : Nat) : Int))]) ∧ Below w.heap.size w w' := by
  obtain ⟨z, hz⟩ : ∃ z, z = s / 4503599627370496 := ⟨_, rfl⟩
  obtain ⟨r, hr⟩ : ∃ r, r = s % 4503599627370496 := ⟨_, rfl⟩
  have d1 : (s : Int).tdiv 4503599627370496 = (z : Int) := by rw [Int.tdiv_eq_ediv_of_nonneg (by omega)]; omega
  have d2 : (s : Int).tmod 4503599627370496 = (r : Int) := by rw [Int.tmod_eq_emod_of_nonneg (by omega)]; omega
  have d3 : IntKind.u64.wrap (z : Int) = (z : Int) := by rw [IntKind.wrap_u64]; omega
  have d4 : IntKind.u64.wrap (r : Int) = (r : Int) := by rw [IntKind.wrap_u64]; omega
  have hzb : ((z : Int) == 0) = false := by simp; omega
  obtain ⟨y, hy⟩ : ∃ y, y = s - (z - 1) * 4503599627370496 := ⟨_, rfl⟩
  obtain ⟨x, hx⟩ : ∃ x : Int, x = (-1074) + ((z - 1 : Nat) : Int) := ⟨_, rfl⟩
  obtain ⟨x1, hx1⟩ : ∃ x1 : Int, x1 = (-1074) + (z : Int) := ⟨_, rfl⟩
  rw [← hz, ← hy, ← hx]
  have d5 : IntKind.u64.wrap (4503599627370496 + (r : Int)) = (y : Int) := by rw [IntKind.wrap_u64]; omega
  have d6 : IntKind.i64.wrap (z : Int) = (z : Int) := by simp [IntKind.wrap, IntKind.signed, IntKind.bits]; omega
  have d7 : IntKind.i64.wrap ((-1074) + (z : Int)) = x1 := by rw [hx1]; simp [IntKind.wrap, IntKind.signed, IntKind.bits]; omega
  have d8 : IntKind.i64.wrap (x1 - 1) = x := by simp [IntKind.wrap, IntKind.signed, IntKind.bits]; omega
  clear hz hr hs hs9 hy hx hx1
  go_enter Tryd.func50, Tryd.ntmps50
  go_wp2_with fail
  go_quiet (fail)
  go_wp2_with fail
  go_quiet (fail)
  go_wp2_with fail
  go_ret2
  exact ⟨rfl, bwDrewN (bwDrewN (bwAlloc w _) _) _⟩
theorem At32.setOtherQ {w : World} {g off n c : Nat} {xs : List Nat} (h : At32 w (some ⟨g, off, none⟩) n c xs) (g2 o2 : Nat) (v : Value) (hne : g ≠ g2) : At32 (w.setCell ⟨g2, o2, none⟩ v) (some ⟨g, off, none⟩) n c xs := by
  refine ⟨h.len, h.cap, h.big, h.dig, ?_⟩
  rcases h.cells with h0 | ⟨g', o', he, hcl⟩
  · exact .inl h0
  · refine .inr ⟨g', o', he, fun j hj => ?_⟩
    simp only [Option.some.injEq, Addr.mk.injEq, and_true] at he
    rw [World.cell?_setCell_other _ _ _ _ (by intro e; apply hne; have := congrArg Addr.block e; simp at this; omega)]
    exact hcl j hj
structure Bx2 (W : World) (g : Nat) (v0 v1 : Value) : Prop where
  c0 : W.cell? ⟨g, 0, none⟩ = some v0
  c1 : W.cell? ⟨g, 1, none⟩ = some v1
  f0 : W.frozen? ⟨g, 0, none⟩ = false
  f1 : W.frozen? ⟨g, 1, none⟩ = false
theorem Bx2.below {W W' : World} {g : Nat} {v0 v1 : Value} (h : Bx2 W g v0 v1) (hb : Below W.heap.size W W') : Bx2 W' g v0 v1 := by
  have hl : g < W.heap.size := World.block_lt_of_cell? W _ h.c0
  exact ⟨(hb.cell (p := ⟨g, 0, none⟩) hl).trans h.c0, (hb.cell (p := ⟨g, 1, none⟩) hl).trans h.c1, (hb.frozen (p := ⟨g, 0, none⟩) hl).trans h.f0, (hb.frozen (p := ⟨g, 1, none⟩) hl).trans h.f1⟩
theorem lit_at32 (w : World) (x y : Nat) (hx : x < B32) (hy : y < B32) : At32 (w.alloc (.cells #[V x, V y] 127)) (some ⟨w.heap.size, 0, none⟩) 2 2 [x, y] := by
  refine ⟨rfl, Nat.le_refl _, by decide, ?_, .inr ⟨w.heap.size, 0, rfl, ?_⟩⟩
  · intro z hz
    simp at hz
    rcases hz with rfl | rfl <;> assumption
  · intro j hj
    match j, hj with
    | 0, _ => exact World.cell?_alloc_new ..
    | 1, _ => exact World.cell?_alloc_new ..
/-- ref.Word. -/
theorem qword (x : Nat) (hx : x < B64) (w : World) : Calls Tryd.prog 74 #[U x] w fun e w' => ∃ g zs, e = .returned (.slice (some ⟨g, 0, none⟩) zs.length zs.length) ∧ zs.length ≤ 2 ∧ At32 w' (some ⟨g, 0, none⟩) zs.length zs.length zs ∧ Nf B32 zs x ∧ Below w.heap.size w w' := by
  obtain ⟨lo, hlo⟩ : ∃ lo, lo = x % B32 := ⟨_, rfl⟩
  obtain ⟨hi, hhi⟩ : ∃ hi, hi = x / B32 := ⟨_, rfl⟩
  have hlb : lo < B32 := by rw [hlo]; exact Nat.mod_lt _ B32_pos
  have hhb : hi < B32 := by rw [hhi]; refine Nat.div_lt_of_lt_mul ?_; rw [B32_two]; exact hx
  have e1 : bits .and .u64 (x : Int) 4294967295 = (lo : Int) := by rw [hlo, B32_eq]; exact and32 x (by rw [← B64_eq]; exact hx)
  have e2 : (x : Int) / 4294967296 = (hi : Int) := by rw [hhi, B32_eq]; exact div32 x
  have e3 : IntKind.u32.wrap (lo : Int) = (lo : Int) := wrap32 lo hlb
  have e4 : IntKind.u32.wrap (hi : Int) = (hi : Int) := wrap32 hi hhb
  have HV : Hid (valB B32 [lo, hi] = x) := by show _ = _; simp only [valB, hlo, hhi]; have := Nat.mod_add_div x B32; omega
  have HLB : Hid (lo < B32 ∧ hi < B32) := ⟨hlb, hhb⟩
  clear hlo hhi hlb hhb
  go_enter Tryd.func74, Tryd.ntmps74
  go_wp2_with fail
  refine (rnorm_any (lit_at32 w lo hi HLB.out.1 HLB.out.2) (by omega)).mono ?_
  rintro e w1 ⟨g, rfl, hg, hb, hbl⟩
  have hl := trimL_length_le [lo, hi]
  have hA : At32 w1 (some ⟨g, 0, none⟩) (trimL [lo, hi]).length (trimL [lo, hi]).length (trimL [lo, hi]) := hb.at_ (Dig.trimL (lit_at32 w lo hi HLB.out.1 HLB.out.2).dig) rfl (by unfold maxLen; simp at hl; omega)
  have hN : Nf B32 (trimL [lo, hi]) x := ⟨Dig.trimL (lit_at32 w lo hi HLB.out.1 HLB.out.2).dig, Top_trimL _, by rw [valB_trimL]; exact HV.out⟩
  have HH : Hid (At32 w1 (some ⟨g, 0, none⟩) (trimL [lo, hi]).length (trimL [lo, hi]).length (trimL [lo, hi]) ∧ Nf B32 (trimL [lo, hi]) x ∧ (trimL [lo, hi]).length ≤ 2) := ⟨hA, hN, by simpa using hl⟩
  have hbw := Below.on (below1 w _) hbl
  generalize trimL [lo, hi] = zs at *
  clear hA hN hl hb hbl hg
  go_wp2_with fail
  go_ret
  exact ⟨g, zs, rfl, HH.out.2.2, HH.out.1, HH.out.2.1, hbw⟩
set_option maxRecDepth 20000 in
/-- ref.Fits, of a number of one word. -/
theorem qfits {p : Option Addr} {n c : Nat} {zs : List Nat} {v : Nat} {w : World} (h : At32 w p n c zs) (hx : Nf B32 zs v) (hn : n ≤ 16384) (h0 : 0 < v) (h9 : v < B64) :
    Calls Tryd.prog 89 #[.slice p n c] w fun e w' => e = .returned (.tuple #[U v, .bool true]) ∧ Below w.heap.size w w' := by
  have HA : Hid (At32 w p n c zs) := h
  have HX : Hid (Nf B32 zs v) := hx
  have H0 : Hid (0 < v ∧ v < B64) := ⟨h0, h9⟩
  clear h hx h0 h9
  go_enter Tryd.func89, Tryd.ntmps89
  go_wp2_with fail
  refine (rto_any HA.out (by omega)).mono ?_
  rintro e w1 ⟨g, k, N, us, rfl, hg, hA1, hN1, hb1⟩
  have hus : us = [v] := by
    rw [HX.out.val] at hN1
    exact hN1.inj B64_one ⟨dig1 H0.out.2, by intro y hy; simp at hy; have := H0.out.1; omega, by simp [valB]⟩
  have hk : k = 1 := by rw [← hA1.len, hus]; rfl
  subst hk
  subst hus
  obtain ⟨g', off, hg', hc⟩ := hA1.cells.resolve_left (by decide)
  simp only [Option.some.injEq, Addr.mk.injEq] at hg'
  obtain ⟨rfl, rfl, _⟩ := hg'
  have hc0 : w1.cell? ⟨g, 0, none⟩ = some (U v) := hc 0 (by decide)
  have hcap := hA1.cap
  have HB1 : Hid (Below w.heap.size w w1) := hb1
  clear hA1 hN1 hc hb1 hg
  go_wp2_with fail
  go_ret2
  exact ⟨rfl, HB1.out⟩
set_option maxRecDepth 20000 in
/-- ref.Mk, of a number without a sign. -/
theorem qmk {p : Option Addr} {n c : Nat} {zs : List Nat} {v : Nat} {w : World} (h : At32 w p n c zs) (hx : Nf B32 zs v) (hn : n ≤ 40000) :
    Calls Tryd.prog 57 #[.bool false, .slice p n c] w fun e w' => ∃ gq m' zs', e = .returned (.agg #[.bool false, .slice (some ⟨gq, 0, none⟩) m' m']) ∧ w.heap.size ≤ gq ∧ At32 w' (some ⟨gq, 0, none⟩) m' m' zs' ∧ Nf B32 zs' v ∧ m' ≤ 40000 ∧ Below w.heap.size w w' := by
  have HA : Hid (At32 w p n c zs) := h
  have HX : Hid (Nf B32 zs v) := hx
  clear h hx
  go_enter Tryd.func57, Tryd.ntmps57
  go_wp2_with fail
  have B0 : Bx2 (w.alloc (.cells #[.bool false, .slice none 0 0] 97)) w.heap.size (.bool false) (.slice none 0 0) := ⟨by go_simp, by go_simp, by go_simp, by go_simp⟩
  refine (rnorm_any (HA.out.alloc _) (by omega)).mono ?_
  rintro e w1 ⟨g, rfl, hg, hblk, hb⟩
  rw [trimL_of_Top HX.out.top] at hblk ⊢
  obtain ⟨c0, c1, f0, f1⟩ := B0.below hb
  have HBW : Hid (Below w.heap.size w w1) := Below.on (below1 w _) hb
  have hlz : zs.length ≤ 40000 := by rw [HA.out.len]; exact hn
  have HA1 : Hid (At32 w1 (some ⟨g, 0, none⟩) zs.length zs.length zs) := hblk.at_ HX.out.dig rfl (by unfold maxLen; omega)
  have hg1 : w.heap.size + 1 ≤ g := by simp at hg; exact hg
  clear B0 hb hblk hg
  obtain ⟨m, hm⟩ : ∃ m, m = zs.length := ⟨_, rfl⟩
  rw [← hm] at HA1 hlz ⊢
  clear hm
  have key : Hid (At32 ((w1.setCell ⟨w.heap.size, 0, none⟩ (.bool false)).setCell ⟨w.heap.size, 1, none⟩ (.slice (some ⟨g, 0, none⟩) m m)) (some ⟨g, 0, none⟩) m m zs) := by
    have hA := HA1.out
    refine ⟨hA.len, hA.cap, hA.big, hA.dig, ?_⟩
    rcases hA.cells with h0 | ⟨g', o', he, hcl⟩
    · exact .inl h0
    · refine .inr ⟨g', o', he, fun j hj => ?_⟩
      simp only [Option.some.injEq, Addr.mk.injEq, and_true] at he
      have hne : g' ≠ w.heap.size := by omega
      rw [World.cell?_setCell_other _ _ _ _ (by intro e; apply hne; have := congrArg Addr.block e; simp at this; omega), World.cell?_setCell_other _ _ _ _ (by intro e; apply hne; have := congrArg Addr.block e; simp at this; omega)]
      exact hcl j hj
  go_wp2_with fail
  exact bodyPost_ret (v := .agg #[.bool false, .slice (some ⟨g, 0, none⟩) m m]) (by rw [results_c1 rfl]; go_simp) rfl ⟨g, m, zs, rfl, by omega, key.out, HX.out, hlz, bwSet (bwSet HBW.out _ _ _ (Nat.le_refl _)) _ _ _ (Nat.le_refl _)⟩

-- Br4
set_option maxRecDepth 20000 in
set_option maxHeartbeats 4000000 in
/-- ref.Size, of a number of more than 53 bits. -/
theorem rsize {p : Option Addr} {n c : Nat} {zs : List Nat} {v t d m : Nat} {w : World} (h : At32 w p n c zs) (hx : Nf B32 zs v) (hn : n ≤ 16384) (ht : t = bl_bitsN v) (hd : t = 53 + d) (hd1 : 1 ≤ d) (hd2 : d < 2047) (hm : m = v / 2 ^ d) (hm0 : 0 < m) (hm9 : m < 9007199254740992) :
    Calls Tryd.prog 79 #[F64, .slice p n c] w fun e w' => e = .returned (U (d * 4503599627370496 + m)) ∧ Below w.heap.size w w' := by
  have HA : Hid (At32 w p n c zs) := h
  have HX : Hid (Nf B32 zs v) := hx
  have HT : Hid (t = bl_bitsN v) := ht
  have HM : Hid (m = v / 2 ^ d) := hm
  have HM0 : Hid (0 < m ∧ m < 9007199254740992) := ⟨hm0, hm9⟩
  have HD : Hid (1 ≤ d ∧ d ≤ 9223372036854775807) := ⟨hd1, by omega⟩
  obtain ⟨y, hy⟩ : ∃ y, y = d * 4503599627370496 := ⟨_, rfl⟩
  obtain ⟨r, hr⟩ : ∃ r, r = y + m := ⟨_, rfl⟩
  rw [← hy, ← hr]
  have c1 : decide ((t : Int) < 53) = false := decide_eq_false (by omega)
  have e1 : IntKind.i64.wrap ((t : Int) - 53) = (d : Int) := by simp [IntKind.wrap, IntKind.signed, IntKind.bits]; omega
  have e2 : IntKind.u64.wrap (d : Int) = (d : Int) := by rw [IntKind.wrap_u64]; omega
  have e3 : IntKind.u64.wrap ((d : Int) * 4503599627370496) = (y : Int) := by rw [IntKind.wrap_u64]; omega
  have e4 : IntKind.u64.wrap ((y : Int) + (m : Int)) = (r : Int) := by rw [IntKind.wrap_u64]; omega
  clear h hx ht hd hd1 hd2 hm hm0 hm9 hy hr
  go_enter Tryd.func79, Tryd.ntmps79
  go_wp2_with fail
  have Y := B6q.new w 85 (U 9223372036854775808) (.int .i64 53) (.int .i64 (-1074)) (.int .i64 971) (U 9218868437227405312) (U 9221120237041090561)
  have hb0 := bwAlloc w (.cells #[U 9223372036854775808, .int .i64 53, .int .i64 (-1074), .int .i64 971, U 9218868437227405312, U 9221120237041090561] 85)
  generalize w.alloc (.cells #[U 9223372036854775808, .int .i64 53, .int .i64 (-1074), .int .i64 971, U 9218868437227405312, U 9221120237041090561] 85) = W at *
  obtain ⟨h, hh⟩ : ∃ h, h = w.heap.size := ⟨_, rfl⟩
  rw [← hh] at Y ⊢
  clear hh
  have HA1 : Hid (At32 W p n c zs) := HA.out.below hb0
  have HB1 : Hid (Below w.heap.size w W) := hb0
  have YW : Hid (B6q W h (U 9223372036854775808) (.int .i64 53) (.int .i64 (-1074)) (.int .i64 971) (U 9218868437227405312) (U 9221120237041090561)) := Y
  clear hb0 HA Y
  refine (rbits_any HA1.out HX.out (by omega)).mono ?_
  rintro e w1 ⟨rfl, hw⟩
  rw [show bitsN v = t from HT.out.symm]
  obtain rfl := hw.symm
  clear hw
  obtain ⟨y0, y1, y2, y3, y4, y5, y6, y7, y8, y9, y10, y11⟩ := YW.out
  go_wp2_with fail
  refine (rshr_any HA1.out HX.out (by omega) d HD.out.1 HD.out.2).mono ?_
  rintro e w2 ⟨p2, m2, z2, rfl, hA2, hN2, hm2, hb2⟩
  rw [← HM.out] at hN2
  have A2 : Hid (At32 w2 p2 m2 m2 z2) := hA2
  have N2 : Hid (Nf B32 z2 m) := hN2
  have Y2 : Hid (B6q w2 h (U 9223372036854775808) (.int .i64 53) (.int .i64 (-1074)) (.int .i64 971) (U 9218868437227405312) (U 9221120237041090561)) := YW.out.below hb2
  have HB2 : Hid (Below w.heap.size w w2) := bwOn HB1.out hb2
  clear hA2 hN2 hb2 HA1 HX y0 y1 y2 y3 y4 y5 y6 y7 y8 y9 y10 y11 YW HB1
  go_wp2_with fail
  refine (qfits A2.out N2.out (by omega) HM0.out.1 (by have := HM0.out.2; rw [B64_eq]; omega)).mono ?_
  rintro e w3 ⟨rfl, hb3⟩
  have HB3 : Hid (Below w.heap.size w w3) := bwOn HB2.out hb3
  obtain ⟨y0, y1, y2, y3, y4, y5, y6, y7, y8, y9, y10, y11⟩ := Y2.out.below hb3
  clear hb3 A2 N2 HB2
  go_wp2_with fail
  go_ret
  exact ⟨rfl, HB3.out⟩
set_option maxRecDepth 20000 in
set_option maxHeartbeats 4000000 in
/-- ref.Whole, of a normal size without a sign. -/
theorem rwhole (s d m u : Nat) (hs : s = d * 4503599627370496 + m) (hm1 : 4503599627370496 ≤ m) (hm2 : m < 9007199254740992) (hd : d < 2046) (hu : u = m * 2 ^ d) (w : World) :
    Calls Tryd.prog 54 #[F64, U s] w fun e w' => ∃ p' m' zs', e = .returned (.agg #[.bool false, .slice p' m' m']) ∧ At32 w' p' m' m' zs' ∧ Nf B32 zs' u ∧ m' ≤ 40000 ∧ Below w.heap.size w w' := by
  have hdiv : s / 4503599627370496 = d + 1 := by omega
  have hpa := rparts_64n s (by omega) (by omega)
  rw [hdiv, show s - (d + 1 - 1) * 4503599627370496 = m by omega, show d + 1 - 1 = d by omega] at hpa
  have hcu := fun w => cut_any (S := 9223372036854775808) (I := 9218868437227405312) (Q := 9221120237041090561) (P := 53) (E := -1074) (G := 971) (by decide) (by decide) s w
  rw [show decide (9223372036854775808 ≤ s) = false from decide_eq_false (by omega), show s % 9223372036854775808 = s by omega] at hcu
  obtain ⟨ex, hex⟩ : ∃ ex : Int, ex = -1074 + (d : Int) := ⟨_, rfl⟩
  rw [← hex] at hpa
  have HPA : Hid (∀ w : World, Calls Tryd.prog 50 #[F64, U s] w fun e w' => e = .returned (.tuple #[U m, .int .i64 ex]) ∧ Below w.heap.size w w') := hpa
  have HCU : Hid (∀ w : World, Calls Tryd.prog 46 #[F64, U s] w fun e w' => e = .returned (.tuple #[.bool false, U s]) ∧ Below w.heap.size w w') := hcu
  have e1 : IntKind.i64.wrap (ex - -1074) = (d : Int) := by simp [IntKind.wrap, IntKind.signed, IntKind.bits]; omega
  have e1' : IntKind.i64.wrap (ex + 1074) = (d : Int) := by simp [IntKind.wrap, IntKind.signed, IntKind.bits]; omega
  have HM : Hid (0 < m ∧ m < B64) := ⟨by omega, by rw [B64_eq]; omega⟩
  have HU : Hid (u = m * 2 ^ d) := hu
  have HD : Hid (d ≤ 524288) := by show _ ≤ _; omega
  clear hs hm1 hm2 hd hu hdiv hpa hcu hex
  go_enter Tryd.func54, Tryd.ntmps54
  go_wp2_with fail
  have Y0 := B6q.new w 85 (U 9223372036854775808) (.int .i64 53) (.int .i64 (-1074)) (.int .i64 971) (U 9218868437227405312) (U 9221120237041090561)
  have hb0 := bwAlloc w (.cells #[U 9223372036854775808, .int .i64 53, .int .i64 (-1074), .int .i64 971, U 9218868437227405312, U 9221120237041090561] 85)
  have hsz : (w.alloc (.cells #[U 9223372036854775808, .int .i64 53, .int .i64 (-1074), .int .i64 971, U 9218868437227405312, U 9221120237041090561] 85)).heap.size = w.heap.size + 1 := by simp
  generalize w.alloc (.cells #[U 9223372036854775808, .int .i64 53, .int .i64 (-1074), .int .i64 971, U 9218868437227405312, U 9221120237041090561] 85) = W1 at *
  obtain ⟨h, hh⟩ : ∃ h, h = w.heap.size := ⟨_, rfl⟩
  have hhw : w.heap.size ≤ h := by omega
  rw [← hh] at Y0 hsz ⊢
  clear hh
  have Z0 : Bx2 (W1.alloc (.cells #[.bool false, .slice none 0 0] 97)) W1.heap.size (.bool false) (.slice none 0 0) := ⟨by go_simp, by go_simp, by go_simp, by go_simp⟩
  have hb1 := bwAlloc W1 (.cells #[.bool false, .slice none 0 0] 97)
  generalize W1.alloc (.cells #[.bool false, .slice none 0 0] 97) = W at *
  obtain ⟨g, hg⟩ : ∃ g, g = h + 1 := ⟨_, rfl⟩
  have HG : Hid (w.heap.size ≤ g) := by show _ ≤ _; omega
  have HGH : Hid (g ≠ h) := by show _ ≠ _; omega
  rw [hsz, ← hg] at Z0
  rw [← hg]
  clear hg hsz hhw
  have HBW : Hid (Below w.heap.size w W) := bwOn hb0 hb1
  have YZ : Hid (B6q W h (U 9223372036854775808) (.int .i64 53) (.int .i64 (-1074)) (.int .i64 971) (U 9218868437227405312) (U 9221120237041090561) ∧ Bx2 W g (.bool false) (.slice none 0 0)) := ⟨Y0.below hb1, Z0⟩
  clear Y0 Z0 hb0 hb1
  refine (HCU.out _).mono ?_
  rintro e w3 ⟨rfl, hb3⟩
  have YZ3 : Hid (B6q w3 h (U 9223372036854775808) (.int .i64 53) (.int .i64 (-1074)) (.int .i64 971) (U 9218868437227405312) (U 9221120237041090561) ∧ Bx2 w3 g (.bool false) (.slice none 0 0)) := ⟨YZ.out.1.below hb3, YZ.out.2.below hb3⟩
  have HB3 : Hid (Below w.heap.size w w3) := bwOn HBW.out hb3
  clear hb3 YZ HBW
  obtain ⟨⟨y0, y1, y2, y3, y4, y5, y6, y7, y8, y9, y10, y11⟩, ⟨z0, z1, z2, z3⟩⟩ := YZ3.out
  go_wp2_with fail
  refine (HPA.out _).mono ?_
  rintro e w4 ⟨rfl, hb4⟩
  have YZ4 : Hid (B6q w4 h (U 9223372036854775808) (.int .i64 53) (.int .i64 (-1074)) (.int .i64 971) (U 9218868437227405312) (U 9221120237041090561) ∧ Bx2 w4 g (.bool false) (.slice none 0 0)) := ⟨YZ3.out.1.below hb4, YZ3.out.2.below hb4⟩
  have HB4 : Hid (Below w.heap.size w w4) := bwOn HB3.out hb4
  clear hb4 YZ3 HB3 y0 y1 y2 y3 y4 y5 y6 y7 y8 y9 y10 y11 z0 z1 z2 z3
  obtain ⟨⟨y0, y1, y2, y3, y4, y5, y6, y7, y8, y9, y10, y11⟩, ⟨z0, z1, z2, z3⟩⟩ := YZ4.out
  go_wp2_with fail
  clear y0 y1 y2 y3 y4 y5 y6 y7 y8 y9 y10 y11 z0 z1 z2 z3
  have YD : Hid (B6q w4.drew h (U 9223372036854775808) (.int .i64 53) (.int .i64 (-1074)) (.int .i64 971) (U 9218868437227405312) (U 9221120237041090561) ∧ Bx2 w4.drew g (.bool false) (.slice none 0 0)) := ⟨YZ4.out.1.drew, ⟨YZ4.out.2.c0, YZ4.out.2.c1, YZ4.out.2.f0, YZ4.out.2.f1⟩⟩
  have HBD : Hid (Below w.heap.size w w4.drew) := bwDrew HB4.out
  have HJ : Hid ((fun W' : World => W'.cell? ⟨h, 2, none⟩ = some (.int .i64 (-1074))) w4.drew) := YD.out.1.c2
  clear YZ4 HB4
  refine wp_region_J (fun W' => W'.cell? ⟨h, 2, none⟩ = some (.int .i64 (-1074))) (by kernel_rfl) ?_
  refine wpJ_take (i := 0) (v := ?v1x0) rfl (by kernel_rfl) (by kernel_rfl) (by kernel_rfl) (fun _ _ _ h => h) (by rfl) ?hy1x0 HJ.out ?rest1x0
  case hy1x0 => (intro W' hJ; obtain j2 := hJ; go_simp; first | done | with_reducible rfl)
  refine wpJ_take (i := 1) (v := ?v2x1) rfl (by kernel_rfl) (by kernel_rfl) (by kernel_rfl) (fun _ _ _ h => h) (by rfl) ?hy2x1 HJ.out ?rest2x1
  case hy2x1 => (intro W' hJ; obtain j2 := hJ; go_simp; first | done | with_reducible rfl)
  refine wpJ_take (i := 3) (v := ?v3x3) rfl (by kernel_rfl) (by kernel_rfl) (by kernel_rfl) (fun _ _ _ h => h) (by rfl) ?hy3x3 HJ.out ?rest3x3
  case hy3x3 => (intro W' hJ; obtain j2 := hJ; go_simp; first | done | with_reducible rfl)
  refine wpJ_take (i := 4) (v := ?v4x4) rfl (by kernel_rfl) (by kernel_rfl) (by kernel_rfl) (fun _ _ _ h => h) (by rfl) ?hy4x4 HJ.out ?rest4x4
  case hy4x4 => (intro W' hJ; obtain j2 := hJ; go_simp; first | done | with_reducible rfl)
  refine wpJ_take (i := 5) (v := ?v5x5) rfl (by kernel_rfl) (by kernel_rfl) (by kernel_rfl) (fun _ _ _ h => h) (by rfl) ?hy5x5 HJ.out ?rest5x5
  case hy5x5 => (intro W' hJ; obtain j2 := hJ; go_simp; first | done | with_reducible rfl)
  refine wpJ_take (i := 6) (v := ?v6x6) rfl (by kernel_rfl) (by kernel_rfl) (by kernel_rfl) (fun _ _ _ h => h) (by rfl) ?hy6x6 HJ.out ?rest6x6
  case hy6x6 => (intro W' hJ; obtain j2 := hJ; go_simp; first | done | with_reducible rfl)
  refine wpJ_one (i := 2) (by kernel_rfl) rfl (by rfl) (fun K hK => ?_)
  go_simp
  refine (qword m HM.out.2 _).mono ?_
  rintro e w5 ⟨g5, z5, rfl, hl5, hA5, hN5, hb5⟩
  have Y5 : Hid (B6q w5 h (U 9223372036854775808) (.int .i64 53) (.int .i64 (-1074)) (.int .i64 971) (U 9218868437227405312) (U 9221120237041090561) ∧ Bx2 w5 g (.bool false) (.slice none 0 0)) := ⟨YD.out.1.below hb5, YD.out.2.below hb5⟩
  have HJ5 : Hid ((fun W' : World => W'.cell? ⟨h, 2, none⟩ = some (.int .i64 (-1074))) w5) := Y5.out.1.c2
  have A5 : Hid (At32 w5 (some ⟨g5, 0, none⟩) z5.length z5.length z5) := hA5
  have N5 : Hid (Nf B32 z5 m) := hN5
  have HB5 : Hid (Below w.heap.size w w5) := bwOn HBD.out hb5
  have hl0 : 0 < z5.length := by
    rcases Nat.eq_zero_or_pos z5.length with e | e
    · exfalso
      have h1 := hN5.val
      rw [List.eq_nil_of_length_eq_zero e] at h1
      have h2 := HM.out.1
      simp [valB] at h1
      omega
    · exact e
  obtain ⟨l5, hl5e⟩ : ∃ l5, l5 = z5.length := ⟨_, rfl⟩
  rw [← hl5e] at A5 hl5 hl0 ⊢
  clear hA5 hN5 hb5 hl5e
  refine hK _ _ HJ5.out ?_
  clear hK
  refine wpJ_one (i := 7) (by kernel_rfl) rfl (by rfl) (fun K hK => ?_)
  go_simp
  refine (rshl_any A5.out N5.out hl0 (by omega) d HD.out).mono ?_
  rintro e w6 ⟨p6, m6, z6, rfl, hA6, hN6, hm6, hb6⟩
  rw [← HU.out] at hN6
  have Y6 : Hid (B6q w6 h (U 9223372036854775808) (.int .i64 53) (.int .i64 (-1074)) (.int .i64 971) (U 9218868437227405312) (U 9221120237041090561) ∧ Bx2 w6 g (.bool false) (.slice none 0 0)) := ⟨Y5.out.1.below hb6, Y5.out.2.below hb6⟩
  have HJ6 : Hid ((fun W' : World => W'.cell? ⟨h, 2, none⟩ = some (.int .i64 (-1074))) w6) := Y6.out.1.c2
  have A6 : Hid (At32 w6 p6 m6 m6 z6) := hA6
  have N6 : Hid (Nf B32 z6 u) := hN6
  have HB6 : Hid (Below w.heap.size w w6) := bwOn HB5.out hb6
  have hg6 : g < w6.heap.size := World.block_lt_of_cell? _ _ Y6.out.2.c0
  clear hA6 hN6 hb6 A5 N5
  refine hK _ _ HJ6.out ?_
  clear hK
  refine wpJ_one (i := 8) (by kernel_rfl) rfl (by rfl) (fun K hK => ?_)
  go_simp
  refine (qmk A6.out N6.out hm6).mono ?_
  rintro e w7 ⟨g7, m7, z7, rfl, hg7, hA7, hN7, hm7, hb7⟩
  have Y7 : Hid (B6q w7 h (U 9223372036854775808) (.int .i64 53) (.int .i64 (-1074)) (.int .i64 971) (U 9218868437227405312) (U 9221120237041090561) ∧ Bx2 w7 g (.bool false) (.slice none 0 0)) := ⟨Y6.out.1.below hb7, Y6.out.2.below hb7⟩
  have HJ7 : Hid ((fun W' : World => W'.cell? ⟨h, 2, none⟩ = some (.int .i64 (-1074))) w7) := Y7.out.1.c2
  have A7 : Hid (At32 w7 (some ⟨g7, 0, none⟩) m7 m7 z7) := hA7
  have N7 : Hid (Nf B32 z7 u) := hN7
  have HB7 : Hid (Below w.heap.size w w7) := bwOn HB6.out hb7
  have HNE : Hid (g7 ≠ g) := by show _ ≠ _; omega
  clear hA7 hN7 hb7 A6 N6 hg7 hg6
  refine hK _ _ HJ7.out ?_
  clear hK
  obtain ⟨z0, z1, z2, z3⟩ := Y7.out.2
  refine wpJ_one (i := 9) (by kernel_rfl) rfl (by rfl) (fun K hK => ?_)
  go_simp
  have hJs : ((w7.setCell ⟨g, 0, none⟩ (.bool false)).setCell ⟨g, 1, none⟩ (.slice (some ⟨g7, 0, none⟩) m7 m7)).cell? ⟨h, 2, none⟩ = some (.int .i64 (-1074)) := by
    have hne : h ≠ g := fun e => HGH.out e.symm
    rw [World.cell?_setCell_other _ _ _ _ (by intro e; apply hne; have := congrArg Addr.block e; simpa using this.symm), World.cell?_setCell_other _ _ _ _ (by intro e; apply hne; have := congrArg Addr.block e; simpa using this.symm)]
    exact Y7.out.1.c2
  refine hK _ _ hJs ?_
  clear hK hJs
  refine wpJ_done (by kernel_rfl) ?_ _
  go_wp2_with fail
  have fin : ∃ p' m' zs', Ending.returned (.agg #[.bool false, .slice (some ⟨g7, 0, none⟩) m7 m7]) = .returned (.agg #[.bool false, .slice p' m' m']) ∧ At32 ((w7.setCell ⟨g, 0, none⟩ (.bool false)).setCell ⟨g, 1, none⟩ (.slice (some ⟨g7, 0, none⟩) m7 m7)) p' m' m' zs' ∧ Nf B32 zs' u ∧ m' ≤ 40000 ∧ Below w.heap.size w ((w7.setCell ⟨g, 0, none⟩ (.bool false)).setCell ⟨g, 1, none⟩ (.slice (some ⟨g7, 0, none⟩) m7 m7)) :=
    ⟨_, m7, z7, rfl, (A7.out.setOtherQ _ _ _ HNE.out).setOtherQ _ _ _ HNE.out, N7.out, hm7, bwSet (bwSet HB7.out _ _ _ HG.out) _ _ _ HG.out⟩
  refine bodyPost_ret (v := .agg #[.bool false, .slice (some ⟨g7, 0, none⟩) m7 m7]) (by rw [results_c1 rfl]; go_simp) rfl ?_
  first | exact fin | simpa using fin

-- Br5
theorem fldZ (p : Option Addr) (m : Nat) (w : World) : (Instr.field 97 (.agg #[.bool false, .slice p m m]) 1).run Tryd.prog w = .ok (.slice p m m) w := by kernel_rfl
theorem ret2u {a b : Nat} {v : Value} (h : a = b) : Ending.returned (.tuple #[U a, v]) = .returned (.tuple #[U b, v]) := by rw [h]
theorem len_small {zs : List Nat} {u : Nat} (h : Nf B32 zs u) {K : Nat} (hK : K = 2200) (hu : u < 2 ^ K) : zs.length ≤ 71 := by
  rcases Nat.lt_or_ge 71 zs.length with e | e
  · exfalso
    have hd : Dig B32 (List.replicate 70 0 ++ [1]) := by
      intro x hx
      simp at hx
      rcases hx with rfl | rfl <;> decide
    have h1 := val_lt_len32 hd h.top (by simp; omega)
    rw [h.val] at h1
    have h2 : ¬ valB B32 (List.replicate 70 0 ++ [1]) < 2 ^ K := by subst hK; decide +kernel
    exact h2 (Nat.lt_trans h1 hu)
  · exact e
set_option maxRecDepth 20000 in
set_option maxHeartbeats 4000000 in
theorem docjoin_zero_false (exp : Int) (w : World) : Calls Tryd.prog 59 #[.int .i64 64, .bool false, .int .u64 0, .int .i64 exp] w fun e w' => e = .returned (.tuple #[.int .u64 0, .int .i64 0]) ∧ Below w.heap.size w w' := by
  go_enter Tryd.func59, Tryd.ntmps59
  go_wp2_with fail
  refine (rof_64 _).mono ?_
  rintro e w1 ⟨rfl, hb1⟩
  have hbw := bwOn hb1 (bwAlloc w1 (.cells #[U 9223372036854775808, .int .i64 53, .int .i64 (-1074), .int .i64 971, U 9218868437227405312, U 9221120237041090561] 85))
  clear hb1
  go_wp2_with fail
  go_ret2
  exact ⟨rfl, hbw⟩
set_option maxRecDepth 20000 in
set_option maxHeartbeats 4000000 in
theorem docjoin_norm_false (m E L d mm : Nat) (exp : Int) (hm0 : 0 < m) (hL : L = bl_bitsN m) (hL53 : L ≤ 53) (hexp : exp = (E : Int) - 1074) (hE : E ≤ 2000) (hd : d + 53 = L + E) (hd1 : 1 ≤ d) (hd2 : d < 2046) (hmm : mm = m * 2 ^ (53 - L)) (w : World) :
    Calls Tryd.prog 59 #[.int .i64 64, .bool false, U m, .int .i64 exp] w fun e w' => e = .returned (.tuple #[U (0 + (d * 4503599627370496 + mm)), .int .i64 0]) ∧ Below w.heap.size w w' := by
  have hLL := bl_bitsN_le m (by omega)
  have hLU := bl_bitsN_lt m
  rw [← hL] at hLL hLU
  have hL1 : 1 ≤ L := by rw [hL]; unfold bl_bitsN; rw [if_neg (by omega)]; omega
  have hm9 : m < B64 := Nat.lt_of_lt_of_le hLU (by rw [show B64 = 2 ^ 64 from rfl]; exact Nat.pow_le_pow_right (by decide) (by omega))
  obtain ⟨u, hu⟩ : ∃ u, u = m * 2 ^ E := ⟨_, rfl⟩
  obtain ⟨K22, hK22⟩ : ∃ K, K = 2200 := ⟨_, rfl⟩
  have HK22 : Hid (K22 = 2200) := hK22
  have huS : u < 2 ^ K22 := by
    rw [hu]
    have h1 := Nat.mul_lt_mul_of_pos_right hLU (Nat.two_pow_pos E)
    rw [← Nat.pow_add] at h1
    exact Nat.lt_of_lt_of_le h1 (Nat.pow_le_pow_right (by decide) (by omega))
  have HUS : Hid (u < 2 ^ K22) := huS
  have hbu : L + E = bl_bitsN u := by rw [hu, bits_shift (by omega), hL]
  have hum : u = mm * 2 ^ d := by rw [hu, hmm, Nat.mul_assoc, ← Nat.pow_add, show 53 - L + d = E by omega]
  have hdv : mm = u / 2 ^ d := by rw [hum, Nat.mul_div_cancel _ (Nat.two_pow_pos d)]
  have hmm1 : 4503599627370496 ≤ mm := by
    have h1 := Nat.mul_le_mul_right (2 ^ (53 - L)) hLL
    rw [← Nat.pow_add, show L - 1 + (53 - L) = 52 by omega] at h1
    rw [hmm]
    exact Nat.le_trans (by decide) h1
  have hmm2 : mm < 9007199254740992 := by
    have h1 := Nat.mul_lt_mul_of_pos_right hLU (Nat.two_pow_pos (53 - L))
    rw [← Nat.pow_add, show L + (53 - L) = 53 by omega] at h1
    rw [hmm]
    exact Nat.lt_of_lt_of_le h1 (by decide)
  obtain ⟨s, hs⟩ : ∃ s, s = d * 4503599627370496 + mm := ⟨_, rfl⟩
  obtain ⟨r, hr⟩ : ∃ r, r = 0 + s := ⟨_, rfl⟩
  rw [← hs, ← hr]
  have hmb : ((m : Int) == 0) = false := by simp; omega
  have c1 : decide (exp < -1074) = false := decide_eq_false (by omega)
  have c2 : decide (1024 < exp) = false := decide_eq_false (by omega)
  have c3 : decide ((9218868437227405312 : Int) ≤ (s : Int)) = false := decide_eq_false (by omega)
  have c3' : decide (9218868437227405312 ≤ s) = false := decide_eq_false (by omega)
  have e1 : IntKind.i64.wrap (exp - -1074) = (E : Int) := by simp [IntKind.wrap, IntKind.signed, IntKind.bits]; omega
  have e1' : IntKind.i64.wrap (exp + 1074) = (E : Int) := by simp [IntKind.wrap, IntKind.signed, IntKind.bits]; omega
  have e2 : IntKind.u64.wrap (0 + (s : Int)) = (r : Int) := by rw [IntKind.wrap_u64]; omega
  have e2' : IntKind.u64.wrap (s : Int) = (s : Int) := by rw [IntKind.wrap_u64]; omega
  have HM : Hid (0 < m ∧ m < B64) := ⟨hm0, hm9⟩
  have HU : Hid (u = m * 2 ^ E) := hu
  have HE : Hid (E ≤ 524288) := by show _ ≤ _; omega
  have HRS : Hid (r = 0 + s) := hr
  have HSZ : Hid (∀ (p : Option Addr) (n c : Nat) (zs : List Nat) (w : World), At32 w p n c zs → Nf B32 zs u → n ≤ 16384 → Calls Tryd.prog 79 #[F64, .slice p n c] w fun e w' => e = .returned (U s) ∧ Below w.heap.size w w') := by
    intro p n c zs w h1 h2 h3
    rw [hs]
    exact rsize (t := L + E) h1 h2 h3 hbu (by omega) hd1 (by omega) hdv (by omega) hmm2
  have HWH : Hid (∀ w : World, Calls Tryd.prog 54 #[F64, U s] w fun e w' => ∃ p' m' zs', e = .returned (.agg #[.bool false, .slice p' m' m']) ∧ At32 w' p' m' m' zs' ∧ Nf B32 zs' u ∧ m' ≤ 40000 ∧ Below w.heap.size w w') := fun w => rwhole s d mm u hs hmm1 hmm2 hd2 hum w
  clear hK22 huS hLL hLU hL1 hm9 hbu hum hdv hmm1 hmm2 hs hr hu hm0 hL hL53 hexp hE hd hd1 hd2 hmm
  go_enter Tryd.func59, Tryd.ntmps59
  go_wp2_with fail
  refine (rof_64 _).mono ?_
  rintro e w1 ⟨rfl, hb1⟩
  go_wp2_with fail
  have Y0 := B6q.new w1 85 (U 9223372036854775808) (.int .i64 53) (.int .i64 (-1074)) (.int .i64 971) (U 9218868437227405312) (U 9221120237041090561)
  have hb0 := bwAlloc w1 (.cells #[U 9223372036854775808, .int .i64 53, .int .i64 (-1074), .int .i64 971, U 9218868437227405312, U 9221120237041090561] 85)
  generalize w1.alloc (.cells #[U 9223372036854775808, .int .i64 53, .int .i64 (-1074), .int .i64 971, U 9218868437227405312, U 9221120237041090561] 85) = W at *
  obtain ⟨h, hh⟩ : ∃ h, h = w1.heap.size := ⟨_, rfl⟩
  rw [← hh] at Y0 ⊢
  clear hh
  have HBW : Hid (Below w.heap.size w W) := bwOn hb1 hb0
  have YW : Hid (B6q W h (U 9223372036854775808) (.int .i64 53) (.int .i64 (-1074)) (.int .i64 971) (U 9218868437227405312) (U 9221120237041090561)) := Y0
  clear Y0 hb0 hb1
  go_loopg [2, 3] 0 (fun gk a b wr => a = U m ∧ b = .int .i64 exp ∧ wr = W)
  case atStart => exact ⟨rfl, rfl, rfl⟩
  case round =>
    obtain ⟨rfl, rfl, hwr⟩ := hrel
    obtain rfl := hwr.symm
    clear hwr
    obtain ⟨y0, y1, y2, y3, y4, y5, y6, y7, y8, y9, y10, y11⟩ := YW.out
    go_wp2_with fail
    clear y0 y1 y2 y3 y4 y5 y6 y7 y8 y9 y10 y11 c1 c2
    have YD : Hid (B6q W.drew h (U 9223372036854775808) (.int .i64 53) (.int .i64 (-1074)) (.int .i64 971) (U 9218868437227405312) (U 9221120237041090561)) := YW.out.drew
    have HBD : Hid (Below w.heap.size w W.drew) := bwDrew HBW.out
    have HJ : Hid ((fun W' : World => W'.cell? ⟨h, 2, none⟩ = some (.int .i64 (-1074))) W.drew) := YD.out.c2
    refine wp_region_J (fun W' => W'.cell? ⟨h, 2, none⟩ = some (.int .i64 (-1074))) (by kernel_rfl) ?_
    refine wpJ_take (i := 0) (v := ?v1x0) rfl (by kernel_rfl) (by kernel_rfl) (by kernel_rfl) (fun _ _ _ h => h) (by rfl) ?hy1x0 HJ.out ?rest1x0
    case hy1x0 => (intro W' hJ; obtain j2 := hJ; go_simp; first | done | with_reducible rfl)
    refine wpJ_take (i := 2) (v := ?v2x2) rfl (by kernel_rfl) (by kernel_rfl) (by kernel_rfl) (fun _ _ _ h => h) (by rfl) ?hy2x2 HJ.out ?rest2x2
    case hy2x2 => (intro W' hJ; obtain j2 := hJ; go_simp; first | done | with_reducible rfl)
    refine wpJ_take (i := 3) (v := ?v3x3) rfl (by kernel_rfl) (by kernel_rfl) (by kernel_rfl) (fun _ _ _ h => h) (by rfl) ?hy3x3 HJ.out ?rest3x3
    case hy3x3 => (intro W' hJ; obtain j2 := hJ; go_simp; first | done | with_reducible rfl)
    refine wpJ_take (i := 4) (v := ?v4x4) rfl (by kernel_rfl) (by kernel_rfl) (by kernel_rfl) (fun _ _ _ h => h) (by rfl) ?hy4x4 HJ.out ?rest4x4
    case hy4x4 => (intro W' hJ; obtain j2 := hJ; go_simp; first | done | with_reducible rfl)
    refine wpJ_take (i := 5) (v := ?v5x5) rfl (by kernel_rfl) (by kernel_rfl) (by kernel_rfl) (fun _ _ _ h => h) (by rfl) ?hy5x5 HJ.out ?rest5x5
    case hy5x5 => (intro W' hJ; obtain j2 := hJ; go_simp; first | done | with_reducible rfl)
    refine wpJ_one (i := 1) (by kernel_rfl) rfl (by rfl) (fun K hK => ?_)
    go_simp
    refine (qword m HM.out.2 _).mono ?_
    rintro e w5 ⟨g5, z5, rfl, hl5, hA5, hN5, hb5⟩
    have Y5 : Hid (B6q w5 h (U 9223372036854775808) (.int .i64 53) (.int .i64 (-1074)) (.int .i64 971) (U 9218868437227405312) (U 9221120237041090561)) := YD.out.below hb5
    have HJ5 : Hid ((fun W' : World => W'.cell? ⟨h, 2, none⟩ = some (.int .i64 (-1074))) w5) := Y5.out.c2
    have A5 : Hid (At32 w5 (some ⟨g5, 0, none⟩) z5.length z5.length z5) := hA5
    have N5 : Hid (Nf B32 z5 m) := hN5
    have HB5 : Hid (Below w.heap.size w w5) := bwOn HBD.out hb5
    have hl0 : 0 < z5.length := by
      rcases Nat.eq_zero_or_pos z5.length with e | e
      · exfalso
        have h1 := hN5.val
        rw [List.eq_nil_of_length_eq_zero e] at h1
        have h2 := HM.out.1
        simp [valB] at h1
        omega
      · exact e
    obtain ⟨l5, hl5e⟩ : ∃ l5, l5 = z5.length := ⟨_, rfl⟩
    rw [← hl5e] at A5 hl5 hl0 ⊢
    clear hA5 hN5 hb5 hl5e
    refine hK _ _ HJ5.out ?_
    clear hK
    refine wpJ_one (i := 6) (by kernel_rfl) rfl (by rfl) (fun K hK => ?_)
    go_simp
    refine (rshl_any A5.out N5.out hl0 (by omega) E HE.out).mono ?_
    rintro e w6 ⟨p6, m6, z6, rfl, hA6, hN6, hm6, hb6⟩
    rw [← HU.out] at hN6
    have Y6 : Hid (B6q w6 h (U 9223372036854775808) (.int .i64 53) (.int .i64 (-1074)) (.int .i64 971) (U 9218868437227405312) (U 9221120237041090561)) := Y5.out.below hb6
    have HJ6 : Hid ((fun W' : World => W'.cell? ⟨h, 2, none⟩ = some (.int .i64 (-1074))) w6) := Y6.out.c2
    have A6 : Hid (At32 w6 p6 m6 m6 z6) := hA6
    have N6 : Hid (Nf B32 z6 u) := hN6
    have HB6 : Hid (Below w.heap.size w w6) := bwOn HB5.out hb6
    clear hA6 hN6 hb6 A5 N5
    refine hK _ _ HJ6.out ?_
    clear hK
    refine wpJ_take (i := 7) (v := ?v6x7) rfl (by kernel_rfl) (by kernel_rfl) (by kernel_rfl) (fun _ _ _ h => h) (by rfl) ?hy6x7 HJ6.out ?rest6x7
    case hy6x7 => (intro W' hJ; obtain j2 := hJ; go_simp; first | done | with_reducible rfl)
    refine wpJ_done (by kernel_rfl) ?_ _
    clear YD HBD HJ HJ5 HB5 Y5 YW HBW
    obtain ⟨y0, y1, y2, y3, y4, y5, y6, y7, y8, y9, y10, y11⟩ := Y6.out
    go_wp2_with fail
    have hm6b : m6 ≤ 16384 := by have h1 := len_small N6.out HK22.out HUS.out; rw [A6.out.len] at h1; omega
    refine (HSZ.out p6 m6 m6 z6 _ A6.out N6.out hm6b).mono ?_
    rintro e w7 ⟨rfl, hb7⟩
    have Y7 : Hid (B6q w7 h (U 9223372036854775808) (.int .i64 53) (.int .i64 (-1074)) (.int .i64 971) (U 9218868437227405312) (U 9221120237041090561)) := Y6.out.below hb7
    have A7 : Hid (At32 w7 p6 m6 m6 z6) := A6.out.below hb7
    have HB7 : Hid (Below w.heap.size w w7) := bwOn HB6.out hb7
    clear hb7 Y6 A6 HB6 HJ6 y0 y1 y2 y3 y4 y5 y6 y7 y8 y9 y10 y11
    obtain ⟨y0, y1, y2, y3, y4, y5, y6, y7, y8, y9, y10, y11⟩ := Y7.out
    go_wp2_with fail
    refine (HWH.out _).mono ?_
    rintro e w8 ⟨p8, m8, z8, rfl, hA8, hN8, hm8, hb8⟩
    have Y8 : Hid (B6q w8 h (U 9223372036854775808) (.int .i64 53) (.int .i64 (-1074)) (.int .i64 971) (U 9218868437227405312) (U 9221120237041090561)) := Y7.out.below hb8
    have A8 : Hid (At32 w8 p8 m8 m8 z8) := hA8
    have N8 : Hid (Nf B32 z8 u) := hN8
    have A6' : Hid (At32 w8 p6 m6 m6 z6) := A7.out.below hb8
    have HB8 : Hid (Below w.heap.size w w8) := bwOn HB7.out hb8
    have hfl := fldZ p8 m8 w8
    clear hb8 hA8 hN8 Y7 A7 HB7 y0 y1 y2 y3 y4 y5 y6 y7 y8 y9 y10 y11
    go_wp2_with fail
    refine (rcmp_any A8.out A6'.out N8.out N6.out).mono ?_
    rintro e w9 ⟨rfl, rr, hw⟩
    rw [cmpN_eq rfl]
    have HB9 : Hid (Below w.heap.size w w9) := by rw [hw]; exact bwDrewN HB8.out rr
    clear hw A8 A6' N8 N6 HB8
    go_wp2_with fail
    go_ret2
    exact ⟨ret2u (by have := HRS.out; omega), HB9.out⟩
set_option maxRecDepth 20000 in
set_option maxHeartbeats 4000000 in
theorem docjoin_zero_true (exp : Int) (w : World) : Calls Tryd.prog 59 #[.int .i64 64, .bool true, .int .u64 0, .int .i64 exp] w fun e w' => e = .returned (.tuple #[.int .u64 9223372036854775808, .int .i64 0]) ∧ Below w.heap.size w w' := by
  go_enter Tryd.func59, Tryd.ntmps59
  go_wp2_with fail
  refine (rof_64 _).mono ?_
  rintro e w1 ⟨rfl, hb1⟩
  have hbw := bwOn hb1 (bwAlloc w1 (.cells #[U 9223372036854775808, .int .i64 53, .int .i64 (-1074), .int .i64 971, U 9218868437227405312, U 9221120237041090561] 85))
  clear hb1
  go_wp2_with fail
  go_ret2
  exact ⟨rfl, hbw⟩
set_option maxRecDepth 20000 in
set_option maxHeartbeats 4000000 in
theorem docjoin_norm_true (m E L d mm : Nat) (exp : Int) (hm0 : 0 < m) (hL : L = bl_bitsN m) (hL53 : L ≤ 53) (hexp : exp = (E : Int) - 1074) (hE : E ≤ 2000) (hd : d + 53 = L + E) (hd1 : 1 ≤ d) (hd2 : d < 2046) (hmm : mm = m * 2 ^ (53 - L)) (w : World) :
    Calls Tryd.prog 59 #[.int .i64 64, .bool true, U m, .int .i64 exp] w fun e w' => e = .returned (.tuple #[U (9223372036854775808 + (d * 4503599627370496 + mm)), .int .i64 0]) ∧ Below w.heap.size w w' := by
  have hLL := bl_bitsN_le m (by omega)
  have hLU := bl_bitsN_lt m
  rw [← hL] at hLL hLU
  have hL1 : 1 ≤ L := by rw [hL]; unfold bl_bitsN; rw [if_neg (by omega)]; omega
  have hm9 : m < B64 := Nat.lt_of_lt_of_le hLU (by rw [show B64 = 2 ^ 64 from rfl]; exact Nat.pow_le_pow_right (by decide) (by omega))
  obtain ⟨u, hu⟩ : ∃ u, u = m * 2 ^ E := ⟨_, rfl⟩
  obtain ⟨K22, hK22⟩ : ∃ K, K = 2200 := ⟨_, rfl⟩
  have HK22 : Hid (K22 = 2200) := hK22
  have huS : u < 2 ^ K22 := by
    rw [hu]
    have h1 := Nat.mul_lt_mul_of_pos_right hLU (Nat.two_pow_pos E)
    rw [← Nat.pow_add] at h1
    exact Nat.lt_of_lt_of_le h1 (Nat.pow_le_pow_right (by decide) (by omega))
  have HUS : Hid (u < 2 ^ K22) := huS
  have hbu : L + E = bl_bitsN u := by rw [hu, bits_shift (by omega), hL]
  have hum : u = mm * 2 ^ d := by rw [hu, hmm, Nat.mul_assoc, ← Nat.pow_add, show 53 - L + d = E by omega]
  have hdv : mm = u / 2 ^ d := by rw [hum, Nat.mul_div_cancel _ (Nat.two_pow_pos d)]
  have hmm1 : 4503599627370496 ≤ mm := by
    have h1 := Nat.mul_le_mul_right (2 ^ (53 - L)) hLL
    rw [← Nat.pow_add, show L - 1 + (53 - L) = 52 by omega] at h1
    rw [hmm]
    exact Nat.le_trans (by decide) h1
  have hmm2 : mm < 9007199254740992 := by
    have h1 := Nat.mul_lt_mul_of_pos_right hLU (Nat.two_pow_pos (53 - L))
    rw [← Nat.pow_add, show L + (53 - L) = 53 by omega] at h1
    rw [hmm]
    exact Nat.lt_of_lt_of_le h1 (by decide)
  obtain ⟨s, hs⟩ : ∃ s, s = d * 4503599627370496 + mm := ⟨_, rfl⟩
  obtain ⟨r, hr⟩ : ∃ r, r = 9223372036854775808 + s := ⟨_, rfl⟩
  rw [← hs, ← hr]
  have hmb : ((m : Int) == 0) = false := by simp; omega
  have c1 : decide (exp < -1074) = false := decide_eq_false (by omega)
  have c2 : decide (1024 < exp) = false := decide_eq_false (by omega)
  have c3 : decide ((9218868437227405312 : Int) ≤ (s : Int)) = false := decide_eq_false (by omega)
  have c3' : decide (9218868437227405312 ≤ s) = false := decide_eq_false (by omega)
  have e1 : IntKind.i64.wrap (exp - -1074) = (E : Int) := by simp [IntKind.wrap, IntKind.signed, IntKind.bits]; omega
  have e1' : IntKind.i64.wrap (exp + 1074) = (E : Int) := by simp [IntKind.wrap, IntKind.signed, IntKind.bits]; omega
  have e2 : IntKind.u64.wrap (9223372036854775808 + (s : Int)) = (r : Int) := by rw [IntKind.wrap_u64]; omega
  have e2' : IntKind.u64.wrap (s : Int) = (s : Int) := by rw [IntKind.wrap_u64]; omega
  have HM : Hid (0 < m ∧ m < B64) := ⟨hm0, hm9⟩
  have HU : Hid (u = m * 2 ^ E) := hu
  have HE : Hid (E ≤ 524288) := by show _ ≤ _; omega
  have HRS : Hid (r = 9223372036854775808 + s) := hr
  have HSZ : Hid (∀ (p : Option Addr) (n c : Nat) (zs : List Nat) (w : World), At32 w p n c zs → Nf B32 zs u → n ≤ 16384 → Calls Tryd.prog 79 #[F64, .slice p n c] w fun e w' => e = .returned (U s) ∧ Below w.heap.size w w') := by
    intro p n c zs w h1 h2 h3
    rw [hs]
    exact rsize (t := L + E) h1 h2 h3 hbu (by omega) hd1 (by omega) hdv (by omega) hmm2
  have HWH : Hid (∀ w : World, Calls Tryd.prog 54 #[F64, U s] w fun e w' => ∃ p' m' zs', e = .returned (.agg #[.bool false, .slice p' m' m']) ∧ At32 w' p' m' m' zs' ∧ Nf B32 zs' u ∧ m' ≤ 40000 ∧ Below w.heap.size w w') := fun w => rwhole s d mm u hs hmm1 hmm2 hd2 hum w
  clear hK22 huS hLL hLU hL1 hm9 hbu hum hdv hmm1 hmm2 hs hr hu hm0 hL hL53 hexp hE hd hd1 hd2 hmm
  go_enter Tryd.func59, Tryd.ntmps59
  go_wp2_with fail
  refine (rof_64 _).mono ?_
  rintro e w1 ⟨rfl, hb1⟩
  go_wp2_with fail
  have Y0 := B6q.new w1 85 (U 9223372036854775808) (.int .i64 53) (.int .i64 (-1074)) (.int .i64 971) (U 9218868437227405312) (U 9221120237041090561)
  have hb0 := bwAlloc w1 (.cells #[U 9223372036854775808, .int .i64 53, .int .i64 (-1074), .int .i64 971, U 9218868437227405312, U 9221120237041090561] 85)
  generalize w1.alloc (.cells #[U 9223372036854775808, .int .i64 53, .int .i64 (-1074), .int .i64 971, U 9218868437227405312, U 9221120237041090561] 85) = W at *
  obtain ⟨h, hh⟩ : ∃ h, h = w1.heap.size := ⟨_, rfl⟩
  rw [← hh] at Y0 ⊢
  clear hh
  have HBW : Hid (Below w.heap.size w W) := bwOn hb1 hb0
  have YW : Hid (B6q W h (U 9223372036854775808) (.int .i64 53) (.int .i64 (-1074)) (.int .i64 971) (U 9218868437227405312) (U 9221120237041090561)) := Y0
  clear Y0 hb0 hb1
  go_loopg [2, 3] 0 (fun gk a b wr => a = U m ∧ b = .int .i64 exp ∧ wr = W)
  case atStart => exact ⟨rfl, rfl, rfl⟩
  case round =>
    obtain ⟨rfl, rfl, hwr⟩ := hrel
    obtain rfl := hwr.symm
    clear hwr
    obtain ⟨y0, y1, y2, y3, y4, y5, y6, y7, y8, y9, y10, y11⟩ := YW.out
    go_wp2_with fail
    clear y0 y1 y2 y3 y4 y5 y6 y7 y8 y9 y10 y11 c1 c2
    have YD : Hid (B6q W.drew h (U 9223372036854775808) (.int .i64 53) (.int .i64 (-1074)) (.int .i64 971) (U 9218868437227405312) (U 9221120237041090561)) := YW.out.drew
    have HBD : Hid (Below w.heap.size w W.drew) := bwDrew HBW.out
    have HJ : Hid ((fun W' : World => W'.cell? ⟨h, 2, none⟩ = some (.int .i64 (-1074))) W.drew) := YD.out.c2
    refine wp_region_J (fun W' => W'.cell? ⟨h, 2, none⟩ = some (.int .i64 (-1074))) (by kernel_rfl) ?_
    refine wpJ_take (i := 0) (v := ?v7x0) rfl (by kernel_rfl) (by kernel_rfl) (by kernel_rfl) (fun _ _ _ h => h) (by rfl) ?hy7x0 HJ.out ?rest7x0
    case hy7x0 => (intro W' hJ; obtain j2 := hJ; go_simp; first | done | with_reducible rfl)
    refine wpJ_take (i := 2) (v := ?v8x2) rfl (by kernel_rfl) (by kernel_rfl) (by kernel_rfl) (fun _ _ _ h => h) (by rfl) ?hy8x2 HJ.out ?rest8x2
    case hy8x2 => (intro W' hJ; obtain j2 := hJ; go_simp; first | done | with_reducible rfl)
    refine wpJ_take (i := 3) (v := ?v9x3) rfl (by kernel_rfl) (by kernel_rfl) (by kernel_rfl) (fun _ _ _ h => h) (by rfl) ?hy9x3 HJ.out ?rest9x3
    case hy9x3 => (intro W' hJ; obtain j2 := hJ; go_simp; first | done | with_reducible rfl)
    refine wpJ_take (i := 4) (v := ?v10x4) rfl (by kernel_rfl) (by kernel_rfl) (by kernel_rfl) (fun _ _ _ h => h) (by rfl) ?hy10x4 HJ.out ?rest10x4
    case hy10x4 => (intro W' hJ; obtain j2 := hJ; go_simp; first | done | with_reducible rfl)
    refine wpJ_take (i := 5) (v := ?v11x5) rfl (by kernel_rfl) (by kernel_rfl) (by kernel_rfl) (fun _ _ _ h => h) (by rfl) ?hy11x5 HJ.out ?rest11x5
    case hy11x5 => (intro W' hJ; obtain j2 := hJ; go_simp; first | done | with_reducible rfl)
    refine wpJ_one (i := 1) (by kernel_rfl) rfl (by rfl) (fun K hK => ?_)
    go_simp
    refine (qword m HM.out.2 _).mono ?_
    rintro e w5 ⟨g5, z5, rfl, hl5, hA5, hN5, hb5⟩
    have Y5 : Hid (B6q w5 h (U 9223372036854775808) (.int .i64 53) (.int .i64 (-1074)) (.int .i64 971) (U 9218868437227405312) (U 9221120237041090561)) := YD.out.below hb5
    have HJ5 : Hid ((fun W' : World => W'.cell? ⟨h, 2, none⟩ = some (.int .i64 (-1074))) w5) := Y5.out.c2
    have A5 : Hid (At32 w5 (some ⟨g5, 0, none⟩) z5.length z5.length z5) := hA5
    have N5 : Hid (Nf B32 z5 m) := hN5
    have HB5 : Hid (Below w.heap.size w w5) := bwOn HBD.out hb5
    have hl0 : 0 < z5.length := by
      rcases Nat.eq_zero_or_pos z5.length with e | e
      · exfalso
        have h1 := hN5.val
        rw [List.eq_nil_of_length_eq_zero e] at h1
        have h2 := HM.out.1
        simp [valB] at h1
        omega
      · exact e
    obtain ⟨l5, hl5e⟩ : ∃ l5, l5 = z5.length := ⟨_, rfl⟩
    rw [← hl5e] at A5 hl5 hl0 ⊢
    clear hA5 hN5 hb5 hl5e
    refine hK _ _ HJ5.out ?_
    clear hK
    refine wpJ_one (i := 6) (by kernel_rfl) rfl (by rfl) (fun K hK => ?_)
    go_simp
    refine (rshl_any A5.out N5.out hl0 (by omega) E HE.out).mono ?_
    rintro e w6 ⟨p6, m6, z6, rfl, hA6, hN6, hm6, hb6⟩
    rw [← HU.out] at hN6
    have Y6 : Hid (B6q w6 h (U 9223372036854775808) (.int .i64 53) (.int .i64 (-1074)) (.int .i64 971) (U 9218868437227405312) (U 9221120237041090561)) := Y5.out.below hb6
    have HJ6 : Hid ((fun W' : World => W'.cell? ⟨h, 2, none⟩ = some (.int .i64 (-1074))) w6) := Y6.out.c2
    have A6 : Hid (At32 w6 p6 m6 m6 z6) := hA6
    have N6 : Hid (Nf B32 z6 u) := hN6
    have HB6 : Hid (Below w.heap.size w w6) := bwOn HB5.out hb6
    clear hA6 hN6 hb6 A5 N5
    refine hK _ _ HJ6.out ?_
    clear hK
    refine wpJ_take (i := 7) (v := ?v12x7) rfl (by kernel_rfl) (by kernel_rfl) (by kernel_rfl) (fun _ _ _ h => h) (by rfl) ?hy12x7 HJ6.out ?rest12x7
    case hy12x7 => (intro W' hJ; obtain j2 := hJ; go_simp; first | done | with_reducible rfl)
    refine wpJ_done (by kernel_rfl) ?_ _
    clear YD HBD HJ HJ5 HB5 Y5 YW HBW
    obtain ⟨y0, y1, y2, y3, y4, y5, y6, y7, y8, y9, y10, y11⟩ := Y6.out
    go_wp2_with fail
    have hm6b : m6 ≤ 16384 := by have h1 := len_small N6.out HK22.out HUS.out; rw [A6.out.len] at h1; omega
    refine (HSZ.out p6 m6 m6 z6 _ A6.out N6.out hm6b).mono ?_
    rintro e w7 ⟨rfl, hb7⟩
    have Y7 : Hid (B6q w7 h (U 9223372036854775808) (.int .i64 53) (.int .i64 (-1074)) (.int .i64 971) (U 9218868437227405312) (U 9221120237041090561)) := Y6.out.below hb7
    have A7 : Hid (At32 w7 p6 m6 m6 z6) := A6.out.below hb7
    have HB7 : Hid (Below w.heap.size w w7) := bwOn HB6.out hb7
    clear hb7 Y6 A6 HB6 HJ6 y0 y1 y2 y3 y4 y5 y6 y7 y8 y9 y10 y11
    obtain ⟨y0, y1, y2, y3, y4, y5, y6, y7, y8, y9, y10, y11⟩ := Y7.out
    go_wp2_with fail
    refine (HWH.out _).mono ?_
    rintro e w8 ⟨p8, m8, z8, rfl, hA8, hN8, hm8, hb8⟩
    have Y8 : Hid (B6q w8 h (U 9223372036854775808) (.int .i64 53) (.int .i64 (-1074)) (.int .i64 971) (U 9218868437227405312) (U 9221120237041090561)) := Y7.out.below hb8
    have A8 : Hid (At32 w8 p8 m8 m8 z8) := hA8
    have N8 : Hid (Nf B32 z8 u) := hN8
    have A6' : Hid (At32 w8 p6 m6 m6 z6) := A7.out.below hb8
    have HB8 : Hid (Below w.heap.size w w8) := bwOn HB7.out hb8
    have hfl := fldZ p8 m8 w8
    clear hb8 hA8 hN8 Y7 A7 HB7 y0 y1 y2 y3 y4 y5 y6 y7 y8 y9 y10 y11
    go_wp2_with fail
    refine (rcmp_any A8.out A6'.out N8.out N6.out).mono ?_
    rintro e w9 ⟨rfl, rr, hw⟩
    rw [cmpN_eq rfl]
    have HB9 : Hid (Below w.heap.size w w9) := by rw [hw]; exact bwDrewN HB8.out rr
    clear hw A8 A6' N8 N6 HB8
    go_wp2_with fail
    go_ret2
    exact ⟨rfl, HB9.out⟩

-- Br6
theorem rparts_32q (s q m : Nat) (hq : q = s / 8388608 - 1) (hm : m = s - q * 8388608) (hs : s < 2147483648) (w : World) : Calls Tryd.prog 50 #[F32, U s] w fun e w' => e = .returned (.tuple #[U m, .int .i64 (-149 + (q : Int))]) ∧ Below w.heap.size w w' := by
  by_cases h : s < 8388608
  · have h1 := rparts_320 s h w
    have hq0 : q = 0 := by omega
    have hms : m = s := by omega
    rw [hq0, hms]
    exact h1
  · have h1 := rparts_32n s (by omega) (by omega) w
    rw [← hq, ← hm] at h1
    exact h1
theorem docjoin_wide (neg : Bool) (z q m : Nat) (hq : q = z / 8388608 - 1) (hm : m = z - q * 8388608) (hz : z < 2139095040) (w : World) :
    Calls Tryd.prog 59 #[.int .i64 64, .bool neg, U m, .int .i64 (-149 + (q : Int))] w fun e w' => e = .returned (.tuple #[U (if neg then 9223372036854775808 + wV z else wV z), .int .i64 0]) ∧ Below w.heap.size w w' := by
  by_cases z0 : z = 0
  · subst z0
    have hm0 : m = 0 := by omega
    subst hm0
    have hv : wV 0 = 0 := rfl
    rw [hv]
    cases neg
    · exact docjoin_zero_false _ w
    · exact docjoin_zero_true _ w
  · have hm0 : 0 < m := by omega
    have hb24 : bl_bitsN m ≤ 24 := bl_le (show m < 2 ^ 24 by omega)
    have hb1 : 1 ≤ bl_bitsN m := by unfold bl_bitsN; rw [if_neg (by omega)]; omega
    have hv : wV z = (872 + q + bl_bitsN m) * 4503599627370496 + m * 2 ^ (53 - bl_bitsN m) := by
      unfold wV
      rw [if_neg z0, ← hq, ← hm]
    rw [hv]
    cases neg
    · have h1 := docjoin_norm_false m (925 + q) (bl_bitsN m) (872 + q + bl_bitsN m) (m * 2 ^ (53 - bl_bitsN m)) (-149 + (q : Int)) hm0 rfl (by omega) (by omega) (by omega) (by omega) (by omega) (by omega) rfl w
      rw [Nat.zero_add] at h1
      exact h1
    · exact docjoin_norm_true m (925 + q) (bl_bitsN m) (872 + q + bl_bitsN m) (m * 2 ^ (53 - bl_bitsN m)) (-149 + (q : Int)) hm0 rfl (by omega) (by omega) (by omega) (by omega) (by omega) (by omega) rfl w
set_option maxRecDepth 20000 in
theorem docwiden_big (b : Nat) (hb : b < B64) (hg : 4294967296 ≤ b) (w : World) : Calls Tryd.prog 63 #[U b] w fun e w' => e = .returned (.tuple #[.int .u64 0, .int .i64 2]) ∧ Below w.heap.size w w' := by
  have HC : Hid (∀ w, Calls Tryd.prog 44 #[.int .i64 32, U b] w fun e w' => e = .returned (.int .i64 2) ∧ Below w.heap.size w w') := fun w => check_big rf_32 b hb (by omega) w
  clear hb hg
  go_enter Tryd.func63, Tryd.ntmps63
  go_wp2_with fail
  refine (HC.out _).mono ?_
  rintro e w1 ⟨rfl, hb1⟩
  go_wp2_with fail
  go_ret2
  exact ⟨rfl, hb1⟩
set_option maxRecDepth 20000 in
set_option maxHeartbeats 4000000 in
theorem docwiden_nan (b : Nat) (hb : b < 4294967296) (hz : 2139095040 < b % 2147483648) (w : World) : Calls Tryd.prog 63 #[U b] w fun e w' => e = .returned (.tuple #[.int .u64 9221120237041090561, .int .i64 0]) ∧ Below w.heap.size w w' := by
  have HC : Hid (∀ w, Calls Tryd.prog 44 #[.int .i64 32, U b] w fun e w' => e = .returned (.int .i64 0) ∧ Below w.heap.size w w') := fun w => check_ok rf_32 b (by omega) w
  have HK := fun w => cut_any (S := 2147483648) (I := 2139095040) (Q := 2143289345) (P := 24) (E := -149) (G := 104) (by decide) (by decide) b w
  obtain ⟨z, hzz⟩ : ∃ z, z = b % 2147483648 := ⟨_, rfl⟩
  obtain ⟨s, hs⟩ : ∃ s, s = decide (2147483648 ≤ b) := ⟨_, rfl⟩
  simp only [← hzz, ← hs] at HK hz ⊢
  have HKH : Hid (∀ w : World, Calls Tryd.prog 46 #[F32, U b] w fun e w' => e = .returned (.tuple #[.bool s, U z]) ∧ Below w.heap.size w w') := HK
  have c1 : decide ((2139095040 : Int) < (z : Int)) = true := decide_eq_true (by omega)
  have c1' : decide (2139095040 < z) = true := decide_eq_true (by omega)
  clear HK hzz hs hz hb
  go_enter Tryd.func63, Tryd.ntmps63
  go_wp2_with fail
  refine (HC.out _).mono ?_
  rintro e w1 ⟨rfl, hb1⟩
  go_wp2_with fail
  refine (rof_32 _).mono ?_
  rintro e w2 ⟨rfl, hb2⟩
  go_wp2_with fail
  have hbA := bwOn hb1 hb2
  have K2 := B6q.new w2 85 (U 2147483648) (.int .i64 24) (.int .i64 (-149)) (.int .i64 104) (U 2139095040) (U 2143289345)
  have hb3 := bwAlloc w2 (.cells #[U 2147483648, .int .i64 24, .int .i64 (-149), .int .i64 104, U 2139095040, U 2143289345] 85)
  generalize w2.alloc (.cells #[U 2147483648, .int .i64 24, .int .i64 (-149), .int .i64 104, U 2139095040, U 2143289345] 85) = W3 at *
  obtain ⟨g, hg⟩ : ∃ g, g = w2.heap.size := ⟨_, rfl⟩
  rw [← hg] at K2 ⊢
  clear hg
  have HB3 : Hid (Below w.heap.size w W3) := bwOn hbA hb3
  have HK3 : Hid (B6q W3 g (U 2147483648) (.int .i64 24) (.int .i64 (-149)) (.int .i64 104) (U 2139095040) (U 2143289345)) := K2
  clear hb1 hb2 hb3 hbA K2
  refine (rof_64 _).mono ?_
  rintro e w4 ⟨rfl, hb4⟩
  have HK4 : Hid (B6q w4 g (U 2147483648) (.int .i64 24) (.int .i64 (-149)) (.int .i64 104) (U 2139095040) (U 2143289345)) := HK3.out.below hb4
  have HB4 : Hid (Below w.heap.size w w4) := bwOn HB3.out hb4
  clear hb4 HK3 HB3
  obtain ⟨x0, x1, x2, x3, x4, x5, x6, x7, x8, x9, x10, x11⟩ := HK4.out
  have hgl := HK4.out.lt
  go_wp2_with fail
  clear x0 x1 x2 x3 x4 x5 x6 x7 x8 x9 x10 x11
  have L5 := B6q.new w4 85 (U 9223372036854775808) (.int .i64 53) (.int .i64 (-1074)) (.int .i64 971) (U 9218868437227405312) (U 9221120237041090561)
  have hb5 := bwAlloc w4 (.cells #[U 9223372036854775808, .int .i64 53, .int .i64 (-1074), .int .i64 971, U 9218868437227405312, U 9221120237041090561] 85)
  generalize w4.alloc (.cells #[U 9223372036854775808, .int .i64 53, .int .i64 (-1074), .int .i64 971, U 9218868437227405312, U 9221120237041090561] 85) = W5 at *
  obtain ⟨h, hh⟩ : ∃ h, h = w4.heap.size := ⟨_, rfl⟩
  rw [← hh] at L5 ⊢
  clear hh hgl
  have HKL : Hid (B6q W5 g (U 2147483648) (.int .i64 24) (.int .i64 (-149)) (.int .i64 104) (U 2139095040) (U 2143289345) ∧ B6q W5 h (U 9223372036854775808) (.int .i64 53) (.int .i64 (-1074)) (.int .i64 971) (U 9218868437227405312) (U 9221120237041090561)) := ⟨HK4.out.below hb5, L5⟩
  have HB5 : Hid (Below w.heap.size w W5) := bwOn HB4.out hb5
  clear hb5 L5 HK4 HB4
  refine (HKH.out _).mono ?_
  rintro e w6 ⟨rfl, hb6⟩
  have HKL6 : Hid (B6q w6 g (U 2147483648) (.int .i64 24) (.int .i64 (-149)) (.int .i64 104) (U 2139095040) (U 2143289345) ∧ B6q w6 h (U 9223372036854775808) (.int .i64 53) (.int .i64 (-1074)) (.int .i64 971) (U 9218868437227405312) (U 9221120237041090561)) := ⟨HKL.out.1.below hb6, HKL.out.2.below hb6⟩
  have HB6 : Hid (Below w.heap.size w w6) := bwOn HB5.out hb6
  clear hb6 HKL HB5
  obtain ⟨⟨x0, x1, x2, x3, x4, x5, x6, x7, x8, x9, x10, x11⟩, ⟨y0, y1, y2, y3, y4, y5, y6, y7, y8, y9, y10, y11⟩⟩ := HKL6.out
  go_wp2_with fail
  go_ret2
  exact ⟨rfl, HB6.out⟩
set_option maxRecDepth 20000 in
set_option maxHeartbeats 4000000 in
theorem docwiden_inf (b : Nat) (hb : b < 4294967296) (hz : b % 2147483648 = 2139095040) (w : World) : Calls Tryd.prog 63 #[U b] w fun e w' => e = .returned (.tuple #[U (if decide (2147483648 ≤ b) then 9223372036854775808 + 9218868437227405312 else 9218868437227405312), .int .i64 0]) ∧ Below w.heap.size w w' := by
  have HC : Hid (∀ w, Calls Tryd.prog 44 #[.int .i64 32, U b] w fun e w' => e = .returned (.int .i64 0) ∧ Below w.heap.size w w') := fun w => check_ok rf_32 b (by omega) w
  have HK := fun w => cut_any (S := 2147483648) (I := 2139095040) (Q := 2143289345) (P := 24) (E := -149) (G := 104) (by decide) (by decide) b w
  obtain ⟨z, hzz⟩ : ∃ z, z = b % 2147483648 := ⟨_, rfl⟩
  obtain ⟨s, hs⟩ : ∃ s, s = decide (2147483648 ≤ b) := ⟨_, rfl⟩
  simp only [← hzz, ← hs] at HK hz ⊢
  have HKH : Hid (∀ w : World, Calls Tryd.prog 46 #[F32, U b] w fun e w' => e = .returned (.tuple #[.bool s, U z]) ∧ Below w.heap.size w w') := HK
  subst hz
  clear HK hzz hs hb
  go_enter Tryd.func63, Tryd.ntmps63
  go_wp2_with fail
  refine (HC.out _).mono ?_
  rintro e w1 ⟨rfl, hb1⟩
  go_wp2_with fail
  refine (rof_32 _).mono ?_
  rintro e w2 ⟨rfl, hb2⟩
  go_wp2_with fail
  have hbA := bwOn hb1 hb2
  have K2 := B6q.new w2 85 (U 2147483648) (.int .i64 24) (.int .i64 (-149)) (.int .i64 104) (U 2139095040) (U 2143289345)
  have hb3 := bwAlloc w2 (.cells #[U 2147483648, .int .i64 24, .int .i64 (-149), .int .i64 104, U 2139095040, U 2143289345] 85)
  generalize w2.alloc (.cells #[U 2147483648, .int .i64 24, .int .i64 (-149), .int .i64 104, U 2139095040, U 2143289345] 85) = W3 at *
  obtain ⟨g, hg⟩ : ∃ g, g = w2.heap.size := ⟨_, rfl⟩
  rw [← hg] at K2 ⊢
  clear hg
  have HB3 : Hid (Below w.heap.size w W3) := bwOn hbA hb3
  have HK3 : Hid (B6q W3 g (U 2147483648) (.int .i64 24) (.int .i64 (-149)) (.int .i64 104) (U 2139095040) (U 2143289345)) := K2
  clear hb1 hb2 hb3 hbA K2
  refine (rof_64 _).mono ?_
  rintro e w4 ⟨rfl, hb4⟩
  have HK4 : Hid (B6q w4 g (U 2147483648) (.int .i64 24) (.int .i64 (-149)) (.int .i64 104) (U 2139095040) (U 2143289345)) := HK3.out.below hb4
  have HB4 : Hid (Below w.heap.size w w4) := bwOn HB3.out hb4
  clear hb4 HK3 HB3
  obtain ⟨x0, x1, x2, x3, x4, x5, x6, x7, x8, x9, x10, x11⟩ := HK4.out
  have hgl := HK4.out.lt
  go_wp2_with fail
  clear x0 x1 x2 x3 x4 x5 x6 x7 x8 x9 x10 x11
  have L5 := B6q.new w4 85 (U 9223372036854775808) (.int .i64 53) (.int .i64 (-1074)) (.int .i64 971) (U 9218868437227405312) (U 9221120237041090561)
  have hb5 := bwAlloc w4 (.cells #[U 9223372036854775808, .int .i64 53, .int .i64 (-1074), .int .i64 971, U 9218868437227405312, U 9221120237041090561] 85)
  generalize w4.alloc (.cells #[U 9223372036854775808, .int .i64 53, .int .i64 (-1074), .int .i64 971, U 9218868437227405312, U 9221120237041090561] 85) = W5 at *
  obtain ⟨h, hh⟩ : ∃ h, h = w4.heap.size := ⟨_, rfl⟩
  rw [← hh] at L5 ⊢
  clear hh hgl
  have HKL : Hid (B6q W5 g (U 2147483648) (.int .i64 24) (.int .i64 (-149)) (.int .i64 104) (U 2139095040) (U 2143289345) ∧ B6q W5 h (U 9223372036854775808) (.int .i64 53) (.int .i64 (-1074)) (.int .i64 971) (U 9218868437227405312) (U 9221120237041090561)) := ⟨HK4.out.below hb5, L5⟩
  have HB5 : Hid (Below w.heap.size w W5) := bwOn HB4.out hb5
  clear hb5 L5 HK4 HB4
  refine (HKH.out _).mono ?_
  rintro e w6 ⟨rfl, hb6⟩
  have HKL6 : Hid (B6q w6 g (U 2147483648) (.int .i64 24) (.int .i64 (-149)) (.int .i64 104) (U 2139095040) (U 2143289345) ∧ B6q w6 h (U 9223372036854775808) (.int .i64 53) (.int .i64 (-1074)) (.int .i64 971) (U 9218868437227405312) (U 9221120237041090561)) := ⟨HKL.out.1.below hb6, HKL.out.2.below hb6⟩
  have HB6 : Hid (Below w.heap.size w w6) := bwOn HB5.out hb6
  clear hb6 HKL HB5
  obtain ⟨⟨x0, x1, x2, x3, x4, x5, x6, x7, x8, x9, x10, x11⟩, ⟨y0, y1, y2, y3, y4, y5, y6, y7, y8, y9, y10, y11⟩⟩ := HKL6.out
  cases s
  · go_wp2_with fail
    go_ret2
    exact ⟨rfl, HB6.out⟩
  · go_wp2_with fail
    go_ret2
    exact ⟨rfl, HB6.out⟩
set_option maxRecDepth 20000 in
set_option maxHeartbeats 4000000 in
theorem docwiden_fin (b : Nat) (hb : b < 4294967296) (hz : b % 2147483648 < 2139095040) (w : World) : Calls Tryd.prog 63 #[U b] w fun e w' => e = .returned (.tuple #[U (if decide (2147483648 ≤ b) then 9223372036854775808 + wV (b % 2147483648) else wV (b % 2147483648)), .int .i64 0]) ∧ Below w.heap.size w w' := by
  have HC : Hid (∀ w, Calls Tryd.prog 44 #[.int .i64 32, U b] w fun e w' => e = .returned (.int .i64 0) ∧ Below w.heap.size w w') := fun w => check_ok rf_32 b (by omega) w
  have HK := fun w => cut_any (S := 2147483648) (I := 2139095040) (Q := 2143289345) (P := 24) (E := -149) (G := 104) (by decide) (by decide) b w
  obtain ⟨z, hzz⟩ : ∃ z, z = b % 2147483648 := ⟨_, rfl⟩
  obtain ⟨s, hs⟩ : ∃ s, s = decide (2147483648 ≤ b) := ⟨_, rfl⟩
  simp only [← hzz, ← hs] at HK hz ⊢
  have HKH : Hid (∀ w : World, Calls Tryd.prog 46 #[F32, U b] w fun e w' => e = .returned (.tuple #[.bool s, U z]) ∧ Below w.heap.size w w') := HK
  have c1 : decide ((2139095040 : Int) < (z : Int)) = false := decide_eq_false (by omega)
  have c1' : decide (2139095040 < z) = false := decide_eq_false (by omega)
  have c2 : ((z : Int) == 2139095040) = false := by simp; omega
  have c2' : (z == 2139095040) = false := by simp; omega
  obtain ⟨q, hq⟩ : ∃ q, q = z / 8388608 - 1 := ⟨_, rfl⟩
  obtain ⟨m, hm⟩ : ∃ m, m = z - q * 8388608 := ⟨_, rfl⟩
  obtain ⟨r, hr⟩ : ∃ r, r = (if s then 9223372036854775808 + wV z else wV z) := ⟨_, rfl⟩
  obtain ⟨ex, hex⟩ : ∃ ex : Int, ex = -149 + (q : Int) := ⟨_, rfl⟩
  have HPA : Hid (∀ w : World, Calls Tryd.prog 50 #[F32, U z] w fun e w' => e = .returned (.tuple #[U m, .int .i64 ex]) ∧ Below w.heap.size w w') := fun w => by rw [hex]; exact rparts_32q z q m hq hm (by omega) w
  have HJO : Hid (∀ w : World, Calls Tryd.prog 59 #[.int .i64 64, .bool s, U m, .int .i64 ex] w fun e w' => e = .returned (.tuple #[U r, .int .i64 0]) ∧ Below w.heap.size w w') := fun w => by rw [hr, hex]; exact docjoin_wide s z q m hq hm hz w
  rw [← hr]
  clear HK hzz hs hz hb hq hm hr hex
  go_enter Tryd.func63, Tryd.ntmps63
  go_wp2_with fail
  refine (HC.out _).mono ?_
  rintro e w1 ⟨rfl, hb1⟩
  go_wp2_with fail
  refine (rof_32 _).mono ?_
  rintro e w2 ⟨rfl, hb2⟩
  go_wp2_with fail
  have hbA := bwOn hb1 hb2
  have K2 := B6q.new w2 85 (U 2147483648) (.int .i64 24) (.int .i64 (-149)) (.int .i64 104) (U 2139095040) (U 2143289345)
  have hb3 := bwAlloc w2 (.cells #[U 2147483648, .int .i64 24, .int .i64 (-149), .int .i64 104, U 2139095040, U 2143289345] 85)
  generalize w2.alloc (.cells #[U 2147483648, .int .i64 24, .int .i64 (-149), .int .i64 104, U 2139095040, U 2143289345] 85) = W3 at *
  obtain ⟨g, hg⟩ : ∃ g, g = w2.heap.size := ⟨_, rfl⟩
  rw [← hg] at K2 ⊢
  clear hg
  have HB3 : Hid (Below w.heap.size w W3) := bwOn hbA hb3
  have HK3 : Hid (B6q W3 g (U 2147483648) (.int .i64 24) (.int .i64 (-149)) (.int .i64 104) (U 2139095040) (U 2143289345)) := K2
  clear hb1 hb2 hb3 hbA K2
  refine (rof_64 _).mono ?_
  rintro e w4 ⟨rfl, hb4⟩
  have HK4 : Hid (B6q w4 g (U 2147483648) (.int .i64 24) (.int .i64 (-149)) (.int .i64 104) (U 2139095040) (U 2143289345)) := HK3.out.below hb4
  have HB4 : Hid (Below w.heap.size w w4) := bwOn HB3.out hb4
  clear hb4 HK3 HB3
  obtain ⟨x0, x1, x2, x3, x4, x5, x6, x7, x8, x9, x10, x11⟩ := HK4.out
  have hgl := HK4.out.lt
  go_wp2_with fail
  clear x0 x1 x2 x3 x4 x5 x6 x7 x8 x9 x10 x11
  have L5 := B6q.new w4 85 (U 9223372036854775808) (.int .i64 53) (.int .i64 (-1074)) (.int .i64 971) (U 9218868437227405312) (U 9221120237041090561)
  have hb5 := bwAlloc w4 (.cells #[U 9223372036854775808, .int .i64 53, .int .i64 (-1074), .int .i64 971, U 9218868437227405312, U 9221120237041090561] 85)
  generalize w4.alloc (.cells #[U 9223372036854775808, .int .i64 53, .int .i64 (-1074), .int .i64 971, U 9218868437227405312, U 9221120237041090561] 85) = W5 at *
  obtain ⟨h, hh⟩ : ∃ h, h = w4.heap.size := ⟨_, rfl⟩
  rw [← hh] at L5 ⊢
  clear hh hgl
  have HKL : Hid (B6q W5 g (U 2147483648) (.int .i64 24) (.int .i64 (-149)) (.int .i64 104) (U 2139095040) (U 2143289345) ∧ B6q W5 h (U 9223372036854775808) (.int .i64 53) (.int .i64 (-1074)) (.int .i64 971) (U 9218868437227405312) (U 9221120237041090561)) := ⟨HK4.out.below hb5, L5⟩
  have HB5 : Hid (Below w.heap.size w W5) := bwOn HB4.out hb5
  clear hb5 L5 HK4 HB4
  refine (HKH.out _).mono ?_
  rintro e w6 ⟨rfl, hb6⟩
  have HKL6 : Hid (B6q w6 g (U 2147483648) (.int .i64 24) (.int .i64 (-149)) (.int .i64 104) (U 2139095040) (U 2143289345) ∧ B6q w6 h (U 9223372036854775808) (.int .i64 53) (.int .i64 (-1074)) (.int .i64 971) (U 9218868437227405312) (U 9221120237041090561)) := ⟨HKL.out.1.below hb6, HKL.out.2.below hb6⟩
  have HB6 : Hid (Below w.heap.size w w6) := bwOn HB5.out hb6
  clear hb6 HKL HB5
  obtain ⟨⟨x0, x1, x2, x3, x4, x5, x6, x7, x8, x9, x10, x11⟩, ⟨y0, y1, y2, y3, y4, y5, y6, y7, y8, y9, y10, y11⟩⟩ := HKL6.out
  go_wp2_with fail
  refine (HPA.out _).mono ?_
  rintro e w7 ⟨rfl, hb7⟩
  have HB7 : Hid (Below w.heap.size w w7) := bwOn HB6.out hb7
  clear hb7 x0 x1 x2 x3 x4 x5 x6 x7 x8 x9 x10 x11 y0 y1 y2 y3 y4 y5 y6 y7 y8 y9 y10 y11
  go_wp2_with fail
  refine (HJO.out _).mono ?_
  rintro e w8 ⟨rfl, hb8⟩
  have HB8 : Hid (Below w.heap.size w w8) := bwOn HB7.out hb8
  clear hb8
  go_wp2_with fail
  go_ret2
  exact ⟨rfl, HB8.out⟩

end Go.Proofs.YtmmgnkhfaiophaaDoor
