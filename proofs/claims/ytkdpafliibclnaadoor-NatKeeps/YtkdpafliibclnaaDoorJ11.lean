import Derived.Test.YtkdpafliibclnaaDoorJ9
import Derived.Test.YtkdpafliibclnaaDoorJ10
import Derived.Laws.Cover1
import Derived.Test.YtkdpafliibclnaaDoorJ8
import Derived.Deep.RegionWith
import Derived.Test.YtkdpafliibclnaaDoorMem
namespace Go.Proofs.YtkdpafliibclnaaDoor
open Go.RowKit Go.Shelf
set_option maxRecDepth 20000
set_option maxHeartbeats 0
structure WinRel32 (w : World) (g off n : Nat) (W D d b : Nat) (ws : List Nat) (wr : World) : Prop where
  wrs : Wr g off (n + 1) w wr
  row : Row32 wr g off (n + 1) ws
  db : d < B32
  bb : b ≤ 1
  ge : W / D ≤ d
  sum : valB B32 ws + D * d = W + B32 ^ (n + 1) * b
theorem WinRel32.done {w : World} {g off n W D d : Nat} {ws : List Nat} {wr : World} (h : WinRel32 w g off n W D d 0 ws wr) (hD : 0 < D) : d = W / D ∧ valB B32 ws = W % D := by
  have h1 := h.sum; have h2 := h.ge
  rw [Nat.mul_zero, Nat.add_zero] at h1
  have h3 : d ≤ W / D := (Nat.le_div_iff_mul_le hD).2 (by rw [Nat.mul_comm]; omega)
  have h4 : d = W / D := by omega
  refine ⟨h4, ?_⟩
  have h5 := Nat.div_add_mod W D
  rw [← h4] at h5
  omega
theorem WinRel32.more {w : World} {g off n W D d : Nat} {ws : List Nat} {wr wr' : World} (h : WinRel32 w g off n W D d 1 ws wr) {cy : Nat} {ws' : List Nat} (hcy : cy ≤ 1) (hwr : Wr g off (n + 1) wr wr') (hrow : Row32 wr' g off (n + 1) ws') (hs : valB B32 ws' + B32 ^ (n + 1) * cy = valB B32 ws + D) :
    1 ≤ d ∧ WinRel32 w g off n W D (d - 1) (1 - cy) ws' wr' := by
  have h1 := h.sum; have h2 := h.ge; have h3 := h.db
  have hl := valB_lt B32_pos h.row.dig
  rw [h.row.len] at hl
  rw [Nat.mul_one] at h1
  have hgt : W < D * d := by omega
  have hd : 1 ≤ d := by
    rcases Nat.eq_zero_or_pos d with e | e
    · subst e; simp at hgt
    · exact e
  have hlt : W / D < d := Nat.div_lt_of_lt_mul hgt
  have e4 : D * d = D * (d - 1) + D := by rw [← Nat.mul_succ, show (d - 1).succ = d by omega]
  refine ⟨hd, h.wrs.trans hwr, hrow, by omega, by omega, by omega, ?_⟩
  rcases Nat.eq_zero_or_pos cy with e | e
  · subst e; rw [Nat.mul_zero, Nat.add_zero] at hs; rw [Nat.sub_zero, Nat.mul_one]; omega
  · obtain rfl : cy = 1 := by omega
    rw [Nat.mul_one] at hs; rw [Nat.sub_self, Nat.mul_zero]; omega
structure DgS (w : World) (g off n : Nat) (us vs : List Nat) (q k cy ow : Nat) (dk : List Nat) (wr : World) : Prop where
  wrs : Wr g off (n + 1) w wr
  row : Row32 wr g off (n + 1) dk
  hi : dk.drop k = us.drop k
  car : cy < B32
  owb : ow ≤ 1
  fin : k = n + 1 → cy = 0
  sum : valB B32 (dk.take k) + valB B32 (vs.take k) * q = valB B32 (us.take k) + B32 ^ k * (ow + cy)
theorem dgs_abs {P B S V U q d y u o c o' c' : Nat} (h : S + V * q = U + P * (o + c)) (hs : o + c + d + y * q = u + B * (o' + c')) : S + P * d + (V + P * y) * q = U + P * u + P * B * (o' + c') := by
  have e1 : P * (o + c + d + y * q) = P * (u + B * (o' + c')) := by rw [hs]
  rw [Nat.mul_add P (o + c + d) (y * q), Nat.mul_add P (o + c) d, Nat.mul_add P u] at e1
  have e2 : P * (y * q) = P * y * q := (Nat.mul_assoc _ _ _).symm
  have e3 : P * (B * (o' + c')) = P * B * (o' + c') := (Nat.mul_assoc _ _ _).symm
  rw [e2, e3] at e1
  rw [Nat.add_mul]
  generalize P * y * q = X1 at *
  generalize P * B * (o' + c') = X2 at *
  generalize P * (o + c) = X3 at *
  generalize P * d = X4 at *
  generalize P * u = X5 at *
  omega
theorem DgS.step {w : World} {g off n : Nat} {us vs : List Nat} {q k cy ow : Nat} {dk : List Nat} {wr : World} (h : DgS w g off n us vs q k cy ow dk wr) (hk : k < n + 1) (hvl : vs.length = n)
    {y u c1 lo cy' ow' d : Nat} (hy : y = vs.getD k 0) (hu : u = dk.getD k 0) (hc1 : c1 = cy + y * q) (hlo : c1 = lo + B32 * cy') (hcy' : cy' < B32) (how' : ow' ≤ 1) (hd : d + lo + ow = u + B32 * ow') (hdb : d < B32) :
    DgS w g off n us vs q (k + 1) cy' ow' (dk.set k d) (wr.setCell ⟨g, off + k, none⟩ (V d)) := by
  have hlen := h.row.len
  refine ⟨h.wrs.setCell (off + k) ⟨by omega, by omega⟩ _, h.row.set k d hk hdb, ?_, hcy', how', ?_, ?_⟩
  · rw [drop_set_lt]; exact drop_succ_of_drop h.hi
  · intro hkn
    have h0 : y = 0 := by
      rw [hy, List.getD_eq_getElem?_getD, List.getElem?_eq_none (by omega)]; rfl
    rw [h0, Nat.zero_mul] at hc1
    have := h.car
    rcases Nat.eq_zero_or_pos cy' with e | e
    · exact e
    · have : B32 * 1 ≤ B32 * cy' := Nat.mul_le_mul_left _ e
      omega
  · have huu : u = us.getD k 0 := hu.trans (getD_of_drop h.hi)
    rw [take_set_succ dk k d (by omega), valB_snoc, List.length_take, hlen, Nat.min_eq_left (by omega), valB_take_any _ us k, valB_take_any _ vs k, ← huu, ← hy, Nat.pow_succ]
    refine dgs_abs h.sum ?_
    rw [Nat.mul_add]
    omega
structure DgA (w : World) (g off n : Nat) (ws vs : List Nat) (k cy : Nat) (dk : List Nat) (wr : World) : Prop where
  wrs : Wr g off (n + 1) w wr
  row : Row32 wr g off (n + 1) dk
  hi : dk.drop k = ws.drop k
  car : cy ≤ 1
  sum : valB B32 (dk.take k) + B32 ^ k * cy = valB B32 (ws.take k) + valB B32 (vs.take k)
theorem DgA.step {w : World} {g off n : Nat} {ws vs : List Nat} {k cy : Nat} {dk : List Nat} {wr : World} (h : DgA w g off n ws vs k cy dk wr) (hk : k < n + 1)
    {y u lo cy' : Nat} (hy : y = vs.getD k 0) (hu : u = dk.getD k 0) (hs : cy + u + y = lo + B32 * cy') (hlo : lo < B32) (hcy' : cy' ≤ 1) :
    DgA w g off n ws vs (k + 1) cy' (dk.set k lo) (wr.setCell ⟨g, off + k, none⟩ (V lo)) := by
  have hlen := h.row.len
  refine ⟨h.wrs.setCell (off + k) ⟨by omega, by omega⟩ _, h.row.set k lo hk hlo, ?_, hcy', ?_⟩
  · rw [drop_set_lt]; exact drop_succ_of_drop h.hi
  · have huu : u = ws.getD k 0 := hu.trans (getD_of_drop h.hi)
    rw [take_set_succ dk k lo (by omega), valB_snoc, List.length_take, hlen, Nat.min_eq_left (by omega), valB_take_any _ ws k, valB_take_any _ vs k, ← huu, ← hy, Nat.pow_succ]
    have e1 := h.sum
    have e2 : B32 ^ k * (cy + u + y) = B32 ^ k * (lo + B32 * cy') := by rw [hs]
    rw [Nat.mul_add, Nat.mul_add, Nat.mul_add, ← Nat.mul_assoc] at e2
    omega
theorem dg_guess {n : Nat} {us vs : List Nat} (hn : 1 ≤ n) (lu : us.length = n + 1) (lv : vs.length = n) (du : Dig B32 us) (hlt : valB B32 us < B32 * valB B32 vs) (hv0 : 0 < vs.getD (n - 1) 0) :
    valB B32 us / valB B32 vs ≤ min ((us.getD n 0 * B32 + us.getD (n - 1) 0) / vs.getD (n - 1) 0) (B32 - 1) := by
  obtain ⟨m, rfl⟩ : ∃ m, n = m + 1 := ⟨n - 1, by omega⟩
  rw [Nat.add_sub_cancel] at *
  have hU : valB B32 us = valB B32 (us.take m) + B32 ^ m * (us.getD m 0 + B32 * us.getD (m + 1) 0) := by
    rw [valB_split B32 us m (by omega), valB_drop B32 us m (by omega), valB_drop B32 us (m + 1) (by omega), List.drop_of_length_le (by omega), valB_nil, Nat.mul_zero, Nat.add_zero]
  have hV : valB B32 vs = valB B32 (vs.take m) + B32 ^ m * vs.getD m 0 := by
    rw [valB_split B32 vs m (by omega), valB_drop B32 vs m (by omega), List.drop_of_length_le (by omega), valB_nil, Nat.mul_zero, Nat.add_zero]
  have hP : 0 < B32 ^ m := Nat.pow_pos B32_pos
  have hL : valB B32 (us.take m) < B32 ^ m := by
    have := valB_lt B32_pos (du.take m)
    rwa [List.length_take, Nat.min_eq_left (by omega)] at this
  have hVpos : 0 < valB B32 vs := by
    rw [hV]
    have := Nat.mul_pos hP hv0
    omega
  obtain ⟨Q, hQ⟩ : ∃ Q, Q = valB B32 us / valB B32 vs := ⟨_, rfl⟩
  rw [← hQ]
  have hQb : Q < B32 := by rw [hQ]; exact Nat.div_lt_of_lt_mul (by rw [Nat.mul_comm]; exact hlt)
  have hQV : Q * valB B32 vs ≤ valB B32 us := by rw [hQ]; exact Nat.div_mul_le_self _ _
  refine Nat.le_min.2 ⟨?_, by omega⟩
  refine (Nat.le_div_iff_mul_le hv0).2 ?_
  have h1 : B32 ^ m * (Q * vs.getD m 0) ≤ Q * valB B32 vs := by
    rw [hV, Nat.mul_add]
    have : B32 ^ m * (Q * vs.getD m 0) = Q * (B32 ^ m * vs.getD m 0) := by rw [← Nat.mul_assoc, ← Nat.mul_assoc, Nat.mul_comm (B32 ^ m) Q]
    omega
  have h2 : B32 ^ m * (Q * vs.getD m 0) < B32 ^ m * (us.getD m 0 + B32 * us.getD (m + 1) 0 + 1) := by
    rw [Nat.mul_add (B32 ^ m) _ 1, Nat.mul_one]
    omega
  have h3 := Nat.lt_of_mul_lt_mul_left h2
  rw [Nat.mul_comm (us.getD (m + 1) 0) B32]
  omega
theorem rdigit_any {g off cu n : Nat} {gv ov cv : Nat} {us vs : List Nat} {w : World} (hu : Row32 w g off (n + 1) us) (hcu : n + 1 ≤ cu) (hcub : cu ≤ maxLen) (hv : At32 w (some ⟨gv, ov, none⟩) n cv vs) (hne : gv ≠ g) (hn : 1 ≤ n) (hnb : n ≤ 1099511627776) (hlt : valB B32 us < B32 * valB B32 vs) (hv0 : 0 < vs.getD (n - 1) 0) :
    Calls Tryd.prog 80 #[.slice (some ⟨g, off, none⟩) (n + 1) cu, .slice (some ⟨gv, ov, none⟩) n cv] w fun e w' => ∃ ws, e = .returned (.int .u32 (valB B32 us / valB B32 vs : Nat)) ∧ Wr g off (n + 1) w w' ∧ Row32 w' g off (n + 1) ws ∧ valB B32 ws = valB B32 us % valB B32 vs := by
  obtain ⟨u1, hu1⟩ : ∃ u1, u1 = us.getD n 0 := ⟨_, rfl⟩
  obtain ⟨u0, hu0⟩ : ∃ u0, u0 = us.getD (n - 1) 0 := ⟨_, rfl⟩
  obtain ⟨y1, hy1⟩ : ∃ y1, y1 = vs.getD (n - 1) 0 := ⟨_, rfl⟩
  have hguess := dg_guess hn hu.len hv.len hu.dig hlt hv0
  rw [← hu1, ← hu0, ← hy1] at hguess
  rw [← hy1] at hv0
  have b1 : u1 < B32 := by rw [hu1]; exact hu.dig.getD B32_pos _
  have b0 : u0 < B32 := by rw [hu0]; exact hu.dig.getD B32_pos _
  have by1 : y1 < B32 := by rw [hy1]; exact hv.dig.getD B32_pos _
  have cu1 : w.cell? ⟨g, off + n, none⟩ = some (V u1) := by rw [hu1]; exact hu.cell n (by omega)
  have cu0 : w.cell? ⟨g, off + (n - 1), none⟩ = some (V u0) := by rw [hu0]; exact hu.cell (n - 1) (by omega)
  have cy1 : w.cell? ⟨gv, ov + (n - 1), none⟩ = some (V y1) := by rw [hy1]; exact hv.cellAt (n - 1) (by omega)
  obtain ⟨m, rfl⟩ : ∃ m, n = m + 1 := ⟨n - 1, by omega⟩
  rw [Nat.add_sub_cancel] at cu0 cy1
  obtain ⟨D, hD⟩ : ∃ D, D = valB B32 vs := ⟨_, rfl⟩
  obtain ⟨U0, hU0⟩ : ∃ U0, U0 = valB B32 us := ⟨_, rfl⟩
  rw [← hD, ← hU0] at hguess hlt ⊢
  have HDU : Hid (D = valB B32 vs ∧ U0 = valB B32 us ∧ U0 < B32 * D) := ⟨hD, hU0, hlt⟩
  have hl := hv.len; have hcap := hv.cap; have hbig := hv.big
  unfold maxLen at hbig hcub
  have HV : Hid (At32 w (some ⟨gv, ov, none⟩) (m + 1) cv vs) := hv
  have HU : Hid (Row32 w g off (m + 1 + 1) us) := hu
  obtain ⟨tw, htw⟩ : ∃ tw, tw = u1 * B32 + u0 := ⟨_, rfl⟩
  obtain ⟨qq, hqq⟩ : ∃ qq, qq = tw / y1 := ⟨_, rfl⟩
  obtain ⟨q, hq⟩ : ∃ q, q = min qq (B32 - 1) := ⟨_, rfl⟩
  have hqb : q < B32 := by rw [hq]; have := B32_pos; omega
  have HQ : Hid (U0 / D ≤ q ∧ q < B32) := ⟨by rw [hq, hqq, htw]; exact hguess, hqb⟩
  rw [B32_eq] at b1 b0 by1 htw hq
  obtain ⟨th, hth⟩ : ∃ th, th = u1 * 4294967296 := ⟨_, rfl⟩
  have f1 : IntKind.u64.wrap (u1 : Int) = (u1 : Int) := wrap_mod _ _ (by omega)
  have f2 : IntKind.u64.wrap ((u1 : Int) * 4294967296) = (th : Int) := wrap_mod _ _ (by omega)
  have f3 : IntKind.u64.wrap (u0 : Int) = (u0 : Int) := wrap_mod _ _ (by omega)
  have f4 : IntKind.u64.wrap ((th : Int) + (u0 : Int)) = (tw : Int) := wrap_mod _ _ (by omega)
  have f5 : IntKind.u64.wrap (y1 : Int) = (y1 : Int) := wrap_mod _ _ (by omega)
  have hy1n : ((y1 : Int) == 0) = false := by simp; omega
  have hy1m : ¬ y1 = 0 := by omega
  have f6 : (tw : Int).tdiv (y1 : Int) = (qq : Int) := by rw [hqq, Int.tdiv_eq_ediv_of_nonneg (Int.natCast_nonneg tw)]; norm_cast
  have f7 : (tw : Int) / (y1 : Int) = (qq : Int) := by rw [hqq]; norm_cast
  have f8 : IntKind.u64.wrap (qq : Int) = (qq : Int) := wrap_mod _ _ (by have h9 : qq ≤ tw := (by rw [hqq]; exact Nat.div_le_self _ _); omega)
  have f9 : min (qq : Int) 4294967295 = (q : Int) := by rw [hq]; omega
  have ha1 : (m : Int) + 1 - 1 = (m : Int) := by omega
  clear hguess hD hU0 hlt hu1 hu0 hy1 htw hqq hq hth hu hv hv0 b1 b0 by1 hqb hn
  go_enter Tryd.func80, Tryd.ntmps80
  go_wp2_with fail
  go_quiet (fail)
  go_wp2_with fail
  have HO : Hid (DgS w g off (m + 1) us vs q 0 0 0 us (w.drewN nq)) := ⟨(Wr.refl _ _ _ _).drewN nq, HU.out.drewN nq, rfl, B32_pos, by omega, by omega, by simp [valB]⟩
  clear f1 f2 f3 f4 f5 f6 f7 f8 f9 hy1n hy1m cu1 cu0 cy1 ha1
  go_loopg [8, 9, 10] (m + 1 + 1) (fun gk cv ov iv wr => ∃ (k cy ow : Nat) (dk : List Nat), k + gk = m + 1 + 1 ∧ iv = .int .i64 k ∧ cv = U cy ∧ ov = U ow ∧ Hid (DgS w g off (m + 1) us vs q k cy ow dk wr))
  case atStart => exact ⟨0, 0, 0, us, by omega, rfl, rfl, rfl, HO⟩
  case round =>
    obtain ⟨k, cy, ow, dk, hkg, rfl, rfl, rfl, HR⟩ := hrel
    have hcyb := HR.out.car
    have howb := HR.out.owb
    have hqb := HQ.out.2
    cases gk with
    | zero =>
      obtain rfl : k = m + 1 + 1 := by omega
      have HW : Hid (WinRel32 w g off (m + 1) U0 D q ow dk wr) := by
        have hR := HR.out
        have hs := hR.sum
        rw [hR.fin rfl, Nat.add_zero, List.take_of_length_le (by rw [hR.row.len]; omega), List.take_of_length_le (by omega), List.take_of_length_le (by rw [HU.out.len]; omega), ← HDU.out.1, ← HDU.out.2.1] at hs
        exact ⟨hR.wrs, hR.row, HQ.out.2, hR.owb, HQ.out.1, hs⟩
      have HDP : Hid (0 < D) := by
        rcases Nat.eq_zero_or_pos D with e | e
        · have h9 := HDU.out.2.2; rw [e, Nat.mul_zero] at h9; omega
        · exact e
      clear hkg hcyb howb hqb HR HO
      go_wp2_with fail
      go_loopg [7, 9] (q - U0 / D) (fun gk wv ov wr => ∃ (d b : Nat) (ws : List Nat), gk = d - U0 / D ∧ wv = U d ∧ ov = U b ∧ Hid (WinRel32 w g off (m + 1) U0 D d b ws wr))
      case atStart => exact ⟨q, ow, dk, rfl, rfl, rfl, HW⟩
      case round =>
        obtain ⟨d, b, ws, hgd, rfl, rfl, HX⟩ := hrel
        have hdb := HX.out.db
        have hbb := HX.out.bb
        rcases (by omega : b = 0 ∨ b = 1) with hb | hb
        · subst hb
          have hdn := HX.out.done HDP.out
          have g7 : IntKind.u32.wrap (d : Int) = (d : Int) := wrap32 d hdb
          have HFIN : Hid (d = U0 / D ∧ valB B32 ws = U0 % D) := hdn
          clear hgd hdn hdb hbb
          go_wp2_with fail
          go_ret
          exact ⟨ws, by rw [← HFIN.out.1]; rfl, HX.out.wrs, HX.out.row, HFIN.out.2⟩
        · subst hb
          obtain ⟨wo, hwo⟩ : ∃ wo, wo = wr := ⟨_, rfl⟩
          subst hwo
          have hd1 : 1 ≤ d ∧ U0 / D < d := by
            have h1 := HX.out.sum; have hl9 := valB_lt B32_pos HX.out.row.dig
            rw [HX.out.row.len] at hl9
            rw [Nat.mul_one] at h1
            have hgt : U0 < D * d := by omega
            have hlt9 : U0 / D < d := Nat.div_lt_of_lt_mul hgt
            exact ⟨Nat.lt_of_le_of_lt (Nat.zero_le _) hlt9, hlt9⟩
          obtain ⟨d', ed'⟩ : ∃ d', d' = d - 1 := ⟨_, rfl⟩
          rw [B32_eq] at hdb
          have w1 : IntKind.u64.wrap ((d : Int) - 1) = (d' : Int) := wrap_mod _ _ (by omega)
          have HD1 : Hid (1 ≤ d ∧ U0 / D < d ∧ d' = d - 1) := ⟨hd1.1, hd1.2, ed'⟩
          have HGD : Hid (gk = d - U0 / D) := hgd
          clear hgd hd1 ed' hdb hbb
          go_wp2_with fail
          go_loopg [8, 13] (m + 1 + 1) (fun g2 cv jv wz => ∃ (k cy : Nat) (dk2 : List Nat), k + g2 = m + 1 + 1 ∧ jv = .int .i64 k ∧ cv = U cy ∧ Hid (DgA wo g off (m + 1) ws vs k cy dk2 wz))
          case atStart => exact ⟨0, 0, ws, by omega, rfl, rfl, ⟨Wr.refl _ _ _ _, HX.out.row, rfl, by omega, by simp [valB]⟩⟩
          case round =>
            obtain ⟨k, cy, dk2, hkg2, rfl, rfl, HI⟩ := hrel
            have hcy1 := HI.out.car
            cases gk with
            | zero =>
              obtain rfl : k = m + 1 + 1 := by omega
              obtain ⟨o2, eo2⟩ : ∃ o2, o2 = 1 - cy := ⟨_, rfl⟩
              have m1 : min (1 : Int) (cy : Int) = (cy : Int) := by omega
              have w2 : IntKind.u64.wrap (1 - (cy : Int)) = (o2 : Int) := wrap_mod _ _ (by omega)
              have HNX : Hid (WinRel32 w g off (m + 1) U0 D d' o2 dk2 wr) := by
                have hI := HI.out
                have hs := hI.sum
                rw [List.take_of_length_le (by rw [hI.row.len]; omega), List.take_of_length_le (by rw [HX.out.row.len]; omega), List.take_of_length_le (by omega), ← HDU.out.1] at hs
                have := (HX.out.more hI.car hI.wrs hI.row hs).2
                rw [← HD1.out.2.2, ← eo2] at this
                exact this
              clear hcy1 hkg2 eo2
              go_wp2_with fail
              go_roundg (d' - U0 / D)
              case measure => have := HD1.out; have := HGD.out; omega
              case rel => exact ⟨d', o2, dk2, rfl, rfl, rfl, HNX⟩
            | succ g3 =>
              have hkn : k < m + 1 + 1 := by omega
              obtain ⟨u, huu⟩ : ∃ u, u = dk2.getD k 0 := ⟨_, rfl⟩
              have hub : u < B32 := by rw [huu]; exact HI.out.row.dig.getD B32_pos k
              have hcu0 : wr.cell? ⟨g, off + k, none⟩ = some (V u) := by rw [huu]; exact HI.out.row.cell k hkn
              have hfu0 : wr.frozen? ⟨g, off + k, none⟩ = false := HI.out.row.frozen k hkn
              obtain ⟨y, hyy⟩ : ∃ y, y = vs.getD k 0 := ⟨_, rfl⟩
              have hyb : y < B32 := by rw [hyy]; exact HV.out.dig.getD B32_pos k
              obtain ⟨c1, ec1⟩ : ∃ c1, c1 = cy + u := ⟨_, rfl⟩
              obtain ⟨c2, ec2⟩ : ∃ c2, c2 = c1 + y := ⟨_, rfl⟩
              obtain ⟨lo, elo⟩ : ∃ lo, lo = c2 % B32 := ⟨_, rfl⟩
              obtain ⟨cy', ecy'⟩ : ∃ cy', cy' = c2 / B32 := ⟨_, rfl⟩
              have hlob : lo < B32 := by rw [elo]; exact Nat.mod_lt _ B32_pos
              rw [B32_eq] at hub hyb
              have hc2b : c2 < 18446744073709551616 := by omega
              have g1 : bits .and .u64 (c2 : Int) 4294967295 = (lo : Int) := by rw [elo, B32_eq]; exact and32 c2 hc2b
              have g2 : (c2 : Int) / 4294967296 = (cy' : Int) := by rw [ecy', B32_eq]; exact div32 c2
              have hcy'1 : cy' ≤ 1 := by rw [ecy', B32_eq]; omega
              have g4 : IntKind.u64.wrap (u : Int) = (u : Int) := wrap_mod _ _ (by omega)
              have g5 : IntKind.u64.wrap ((cy : Int) + (u : Int)) = (c1 : Int) := wrap_mod _ _ (by omega)
              have g7 : IntKind.u32.wrap (lo : Int) = (lo : Int) := wrap32 lo hlob
              have g8 : (lo : Int) % 4294967296 = (lo : Int) := by rw [B32_eq] at hlob; omega
              have HSP : Hid (cy + u + y = lo + B32 * cy' ∧ u = dk2.getD k 0 ∧ y = vs.getD k 0 ∧ lo < B32 ∧ cy' ≤ 1) := ⟨by have := Nat.mod_add_div c2 B32; rw [← elo, ← ecy'] at this; omega, huu, hyy, hlob, hcy'1⟩
              have hkle : (k : Int) ≤ (m : Int) + 1 := by omega
              have hlew : decide ((k : Int) ≤ (m : Int) + 1) = true := decide_eq_true hkle
              have hle2 : decide (k ≤ m + 1) = true := decide_eq_true (by omega)
              have hkc : k < cu := by omega
              by_cases hkm : k < m + 1
              · have hkmi : (k : Int) < (m : Int) + 1 := by omega
                have hkmd : decide ((k : Int) < (m : Int) + 1) = true := decide_eq_true hkmi
                have hkmd2 : decide (k < m + 1) = true := decide_eq_true hkm
                have hcv0 : w.cell? ⟨gv, ov + k, none⟩ = some (V y) := by rw [hyy]; exact HV.out.cellAt k hkm
                have hcv1 : wo.cell? ⟨gv, ov + k, none⟩ = some (V y) := (HX.out.wrs.cell gv (ov + k) (.inl hne)).trans hcv0
                have hcv : wr.cell? ⟨gv, ov + k, none⟩ = some (V y) := (HI.out.wrs.cell gv (ov + k) (.inl hne)).trans hcv1
                have hkcv : k < cv := by omega
                have p1 : IntKind.u64.wrap (y : Int) = (y : Int) := wrap_mod _ _ (by omega)
                have p3 : IntKind.u64.wrap ((c1 : Int) + (y : Int)) = (c2 : Int) := wrap_mod _ _ (by omega)
                clear hcv0 hcv1
                clear ec1 ec2 elo ecy' huu hyy hc2b hub hyb hlob hcy'1 hcy1
                go_wp2_with fail
                go_roundg g3
                case measure => omega
                case rel => exact ⟨k + 1, cy', dk2.set k lo, by omega, by go_num, rfl, HI.out.step hkn HSP.out.2.2.1 HSP.out.2.1 HSP.out.1 HSP.out.2.2.2.1 HSP.out.2.2.2.2⟩
              · have hkmi : ¬ (k : Int) < (m : Int) + 1 := by omega
                have hkmd : decide ((k : Int) < (m : Int) + 1) = false := decide_eq_false hkmi
                have hkmd2 : decide (k < m + 1) = false := decide_eq_false hkm
                have hy0 : y = 0 := by rw [hyy, List.getD_eq_getElem?_getD, List.getElem?_eq_none (by omega)]; rfl
                have hcc : c2 = c1 := by omega
                have g1 : bits .and .u64 (c1 : Int) 4294967295 = (lo : Int) := by rw [← hcc]; exact g1
                have g2 : (c1 : Int) / 4294967296 = (cy' : Int) := by rw [← hcc]; exact g2
                clear hy0 hcc
                clear ec1 ec2 elo ecy' huu hyy hc2b hub hyb hlob hcy'1 hcy1
                go_wp2_with fail
                go_roundg g3
                case measure => omega
                case rel => exact ⟨k + 1, cy', dk2.set k lo, by omega, by go_num, rfl, HI.out.step hkn HSP.out.2.2.1 HSP.out.2.1 HSP.out.1 HSP.out.2.2.2.1 HSP.out.2.2.2.2⟩
    | succ gg =>
      have hkn : k < m + 1 + 1 := by omega
      obtain ⟨u, huu⟩ : ∃ u, u = dk.getD k 0 := ⟨_, rfl⟩
      have hub : u < B32 := by rw [huu]; exact HR.out.row.dig.getD B32_pos k
      have hcu0 : wr.cell? ⟨g, off + k, none⟩ = some (V u) := by rw [huu]; exact HR.out.row.cell k hkn
      have hfu0 : wr.frozen? ⟨g, off + k, none⟩ = false := HR.out.row.frozen k hkn
      obtain ⟨y, hyy⟩ : ∃ y, y = vs.getD k 0 := ⟨_, rfl⟩
      have hyb : y < B32 := by rw [hyy]; exact HV.out.dig.getD B32_pos k
      obtain ⟨yq, eyq⟩ : ∃ yq, yq = q * y := ⟨_, rfl⟩
      have hall : yq + cy < 18446744073709551616 := by
        rw [eyq]
        have h1 : q * y ≤ (B32 - 1) * (B32 - 1) := Nat.mul_le_mul (by omega) (by omega)
        have h2 : (B32 - 1) * (B32 - 1) + (B32 - 1) < 18446744073709551616 := by decide
        omega
      obtain ⟨c1, ec1⟩ : ∃ c1, c1 = cy + yq := ⟨_, rfl⟩
      have hc1b : c1 < 18446744073709551616 := by omega
      obtain ⟨lo, elo⟩ : ∃ lo, lo = c1 % B32 := ⟨_, rfl⟩
      obtain ⟨cy', ecy'⟩ : ∃ cy', cy' = c1 / B32 := ⟨_, rfl⟩
      have hlob : lo < B32 := by rw [elo]; exact Nat.mod_lt _ B32_pos
      have hcy'b : cy' < B32 := by rw [ecy']; exact Nat.div_lt_of_lt_mul (by rw [B32_two, B64_eq]; exact hc1b)
      have g1 : bits .and .u64 (c1 : Int) 4294967295 = (lo : Int) := by rw [elo, B32_eq]; exact and32 c1 hc1b
      have g2 : (c1 : Int) / 4294967296 = (cy' : Int) := by rw [ecy', B32_eq]; exact div32 c1
      obtain ⟨tk, etk⟩ : ∃ tk, tk = lo + ow := ⟨_, rfl⟩
      have HSP : Hid (c1 = lo + B32 * cy' ∧ c1 = cy + y * q ∧ u = dk.getD k 0 ∧ y = vs.getD k 0 ∧ tk = lo + ow) := ⟨by have := Nat.mod_add_div c1 B32; rw [← elo, ← ecy'] at this; exact this.symm, by rw [ec1, eyq, Nat.mul_comm y q], huu, hyy, etk⟩
      rw [B32_eq] at hub hyb hlob hcy'b hcyb hqb
      have g3 : IntKind.u64.wrap ((lo : Int) + (ow : Int)) = (tk : Int) := wrap_mod _ _ (by omega)
      have g4 : IntKind.u64.wrap (u : Int) = (u : Int) := wrap_mod _ _ (by omega)
      have hkle : (k : Int) ≤ (m : Int) + 1 := by omega
      have hlew : decide ((k : Int) ≤ (m : Int) + 1) = true := decide_eq_true hkle
      have hle2 : decide (k ≤ m + 1) = true := decide_eq_true (by omega)
      have hkc : k < cu := by omega
      by_cases hb : u < tk
      · obtain ⟨u2, eu2⟩ : ∃ u2, u2 = u + 4294967296 := ⟨_, rfl⟩
        obtain ⟨d, ed⟩ : ∃ d, d = u2 - tk := ⟨_, rfl⟩
        have g5 : IntKind.u64.wrap ((u : Int) + 4294967296) = (u2 : Int) := wrap_mod _ _ (by omega)
        have g6 : IntKind.u64.wrap ((u2 : Int) - (tk : Int)) = (d : Int) := wrap_mod _ _ (by omega)
        have hdb : d < B32 := by rw [B32_eq]; omega
        have g7 : IntKind.u32.wrap (d : Int) = (d : Int) := wrap32 d hdb
        have g8 : (d : Int) % 4294967296 = (d : Int) := by rw [B32_eq] at hdb; omega
        have hbi : (u : Int) < (tk : Int) := by omega
        have hbd : decide (u < tk) = true := decide_eq_true hb
        have HST : Hid (d + lo + ow = u + B32 * 1 ∧ d < B32 ∧ cy' < B32) := ⟨by rw [B32_eq]; omega, hdb, by rw [B32_eq]; omega⟩
        by_cases hkm : k < m + 1
        · have hkmi : (k : Int) < (m : Int) + 1 := by omega
          have hkmd : decide ((k : Int) < (m : Int) + 1) = true := decide_eq_true hkmi
          have hkmd2 : decide (k < m + 1) = true := decide_eq_true hkm
          have hcv0 : w.cell? ⟨gv, ov + k, none⟩ = some (V y) := by rw [hyy]; exact HV.out.cellAt k hkm
          have hcv : wr.cell? ⟨gv, ov + k, none⟩ = some (V y) := (HR.out.wrs.cell gv (ov + k) (.inl hne)).trans hcv0
          have hkcv : k < cv := by omega
          have p1 : IntKind.u64.wrap (y : Int) = (y : Int) := wrap_mod _ _ (by omega)
          have p2 : IntKind.u64.wrap ((q : Int) * (y : Int)) = (yq : Int) := by
            have e : ((q : Int) * (y : Int)) = ((q * y : Nat) : Int) := by simp
            rw [e, ← eyq]; exact wrap_mod _ _ (by omega)
          have p3 : IntKind.u64.wrap ((cy : Int) + (yq : Int)) = (c1 : Int) := wrap_mod _ _ (by omega)
          clear hcv0
          clear eyq ec1 elo ecy' etk ed huu hyy hall hc1b hub hyb hlob hcy'b hcyb hqb howb hdb eu2
          go_wp2_with fail
          go_roundg gg
          case measure => omega
          case rel => exact ⟨k + 1, cy', 1, dk.set k d, by omega, by go_num, rfl, rfl, HR.out.step hkn hl HSP.out.2.2.2.1 HSP.out.2.2.1 HSP.out.2.1 HSP.out.1 HST.out.2.2 (by omega) HST.out.1 HST.out.2.1⟩
        · have hkmi : ¬ (k : Int) < (m : Int) + 1 := by omega
          have hkmd : decide ((k : Int) < (m : Int) + 1) = false := decide_eq_false hkmi
          have hkmd2 : decide (k < m + 1) = false := decide_eq_false hkm
          have hy0 : y = 0 := by rw [hyy, List.getD_eq_getElem?_getD, List.getElem?_eq_none (by omega)]; rfl
          have hcc : c1 = cy := by rw [ec1, eyq, hy0, Nat.mul_zero, Nat.add_zero]
          have g1 : bits .and .u64 (cy : Int) 4294967295 = (lo : Int) := by rw [← hcc]; exact g1
          have g2 : (cy : Int) / 4294967296 = (cy' : Int) := by rw [← hcc]; exact g2
          clear hy0 hcc
          clear eyq ec1 elo ecy' etk ed huu hyy hall hc1b hub hyb hlob hcy'b hcyb hqb howb hdb eu2
          go_wp2_with fail
          go_roundg gg
          case measure => omega
          case rel => exact ⟨k + 1, cy', 1, dk.set k d, by omega, by go_num, rfl, rfl, HR.out.step hkn hl HSP.out.2.2.2.1 HSP.out.2.2.1 HSP.out.2.1 HSP.out.1 HST.out.2.2 (by omega) HST.out.1 HST.out.2.1⟩
      · obtain ⟨d, ed⟩ : ∃ d, d = u - tk := ⟨_, rfl⟩
        have g6 : IntKind.u64.wrap ((u : Int) - (tk : Int)) = (d : Int) := wrap_mod _ _ (by omega)
        have hdb : d < B32 := by rw [B32_eq]; omega
        have g7 : IntKind.u32.wrap (d : Int) = (d : Int) := wrap32 d hdb
        have g8 : (d : Int) % 4294967296 = (d : Int) := by rw [B32_eq] at hdb; omega
        have hbi : ¬ (u : Int) < (tk : Int) := by omega
        have hbd : decide (u < tk) = false := decide_eq_false hb
        have HST : Hid (d + lo + ow = u + B32 * 0 ∧ d < B32 ∧ cy' < B32) := ⟨by rw [B32_eq]; omega, hdb, by rw [B32_eq]; omega⟩
        by_cases hkm : k < m + 1
        · have hkmi : (k : Int) < (m : Int) + 1 := by omega
          have hkmd : decide ((k : Int) < (m : Int) + 1) = true := decide_eq_true hkmi
          have hkmd2 : decide (k < m + 1) = true := decide_eq_true hkm
          have hcv0 : w.cell? ⟨gv, ov + k, none⟩ = some (V y) := by rw [hyy]; exact HV.out.cellAt k hkm
          have hcv : wr.cell? ⟨gv, ov + k, none⟩ = some (V y) := (HR.out.wrs.cell gv (ov + k) (.inl hne)).trans hcv0
          have hkcv : k < cv := by omega
          have p1 : IntKind.u64.wrap (y : Int) = (y : Int) := wrap_mod _ _ (by omega)
          have p2 : IntKind.u64.wrap ((q : Int) * (y : Int)) = (yq : Int) := by
            have e : ((q : Int) * (y : Int)) = ((q * y : Nat) : Int) := by simp
            rw [e, ← eyq]; exact wrap_mod _ _ (by omega)
          have p3 : IntKind.u64.wrap ((cy : Int) + (yq : Int)) = (c1 : Int) := wrap_mod _ _ (by omega)
          clear hcv0
          clear eyq ec1 elo ecy' etk ed huu hyy hall hc1b hub hyb hlob hcy'b hcyb hqb howb hdb
          go_wp2_with fail
          go_roundg gg
          case measure => omega
          case rel => exact ⟨k + 1, cy', 0, dk.set k d, by omega, by go_num, rfl, rfl, HR.out.step hkn hl HSP.out.2.2.2.1 HSP.out.2.2.1 HSP.out.2.1 HSP.out.1 HST.out.2.2 (by omega) HST.out.1 HST.out.2.1⟩
        · have hkmi : ¬ (k : Int) < (m : Int) + 1 := by omega
          have hkmd : decide ((k : Int) < (m : Int) + 1) = false := decide_eq_false hkmi
          have hkmd2 : decide (k < m + 1) = false := decide_eq_false hkm
          have hy0 : y = 0 := by rw [hyy, List.getD_eq_getElem?_getD, List.getElem?_eq_none (by omega)]; rfl
          have hcc : c1 = cy := by rw [ec1, eyq, hy0, Nat.mul_zero, Nat.add_zero]
          have g1 : bits .and .u64 (cy : Int) 4294967295 = (lo : Int) := by rw [← hcc]; exact g1
          have g2 : (cy : Int) / 4294967296 = (cy' : Int) := by rw [← hcc]; exact g2
          clear hy0 hcc
          clear eyq ec1 elo ecy' etk ed huu hyy hall hc1b hub hyb hlob hcy'b hcyb hqb howb hdb
          go_wp2_with fail
          go_roundg gg
          case measure => omega
          case rel => exact ⟨k + 1, cy', 0, dk.set k d, by omega, by go_num, rfl, rfl, HR.out.step hkn hl HSP.out.2.2.2.1 HSP.out.2.2.1 HSP.out.2.1 HSP.out.1 HST.out.2.2 (by omega) HST.out.1 HST.out.2.1⟩
theorem rdivsmall2 {p : Option Addr} {n c : Nat} {xs : List Nat} {w : World} (h : At32 w p n c xs) (hn : n ≤ 1099511627776) (d : Nat) (hd : 1 ≤ d) (hdb : d < B32) :
    Calls Tryd.prog 79 #[.slice p n c, .int .u32 d] w fun e w' => ∃ p' m' zs r, e = .returned (.tuple #[.slice p' m' m', .int .u32 r]) ∧ At32 w' p' m' m' zs ∧ Nf B32 zs (valB B32 xs / d) ∧ m' ≤ n ∧ r = ((valB B32 xs % d : Nat) : Int) ∧ Below w.heap.size w w' := by
  obtain ⟨i0, hi, hz0, hz1, hz2⟩ := info_parts Tryd.infoU32
  have HLX : Hid (xs.length = n) := h.len
  have hcap := h.cap; have hbig := h.big
  unfold maxLen at hbig
  have hd0 : ((d : Int) == 0) = false := by simp; omega
  have HDB : Hid (1 ≤ d ∧ d < B32) := ⟨hd, hdb⟩
  have hdw : IntKind.u64.wrap (d : Int) = (d : Int) := wrap_mod _ _ (by rw [B32_eq] at hdb; omega)
  clear hdb
  go_enter Tryd.func79, Tryd.ntmps79
  go_wp2_with (at_make; refine wpList_make_full _ rfl _ _ 72 rfl w.heap.size 87 i0 (.int .u32 0) 1 Tryd.underlying72 hi hz0 hz1 _ _ _ _ n rfl rfl (by omega) (by omega) (by rw [hz2]; omega) (by unfold maxLen; omega) (Nat.le_refl _) ?_; intro w1 hown hgrow; have hb := made_blk32 hown hgrow; clear hown hgrow)
  have HO : Hid (DSm w w.heap.size n d xs n 0 (List.replicate n 0) w1) := by
    have hr := hb.1.row (Dig.replicate B32 n B32_pos)
    rw [List.length_replicate] at hr
    refine ⟨hb.2, hr, by omega, ?_⟩
    rw [List.drop_of_length_le (by rw [List.length_replicate]; exact Nat.le_refl _), List.drop_of_length_le (by rw [HLX.out]; exact Nat.le_refl _)]
    simp [valB]
  clear hb
  go_loopg [7, 8] n (fun gk lv iv wr => ∃ (L : Nat) (z : Int) (qs : List Nat), lv = U L ∧ iv = .int .i64 z ∧ z = (gk : Int) - 1 ∧ gk ≤ n ∧ Hid (DSm w w.heap.size n d xs gk L qs wr))
  case atStart => exact ⟨0, (n : Int) - 1, _, rfl, rfl, rfl, Nat.le_refl _, HO⟩
  case round =>
    obtain ⟨L, z, qs, rfl, rfl, hz, hgn, HR⟩ := hrel
    cases gk with
    | zero =>
      obtain rfl : z = -1 := by omega
      have hR := HR.out
      have A32 : At32 wr (some ⟨w.heap.size, 0, none⟩) n n qs := hR.row.at_ (Nat.le_refl _) (by unfold maxLen; omega)
      have hv := hR.val
      rw [List.drop_zero, List.drop_zero] at hv
      have HV : Hid (valB B32 qs = valB B32 xs / d) := by
        show _ = _
        have h1 := hR.lt
        rw [← hv, Nat.mul_comm, Nat.mul_add_div (by omega), Nat.div_eq_of_lt h1, Nat.add_zero]
      have HRM : Hid (L = valB B32 xs % d) := by
        show _ = _
        have h1 := hR.lt
        rw [← hv, Nat.mul_comm, Nat.mul_add_mod, Nat.mod_eq_of_lt h1]
      have HNF : Hid (Nf B32 (trimL qs) (valB B32 xs / d)) := by
        have := Nf.trim hR.row.dig
        rw [HV.out] at this; exact this
      have hle := trimL_length_le qs
      have HLE : Hid ((trimL qs).length ≤ n) := by have := hR.row.len; show _ ≤ _; omega
      have hLw : IntKind.u32.wrap (L : Int) = (L : Int) := wrap32 L (by have := hR.lt; have := HDB.out.2; omega)
      have hbx := hR.bel
      clear hR hv hle hz HR
      go_wp2_with fail
      refine (rnorm_any A32 (by omega)).mono ?_
      rintro e w5 ⟨g5, rfl, hg5, hblk5, hb5⟩
      have hd5 := HNF.out.dig
      generalize trimL qs = us at *
      go_wp2_with fail
      go_ret2
      exact ⟨_, _, us, _, rfl, hblk5.at_ hd5 rfl (by have := HLE.out; unfold maxLen; omega), HNF.out, HLE.out, by rw [← HRM.out], Below.on hbx hb5⟩
    | succ j =>
      obtain rfl : z = (j : Int) := by omega
      obtain ⟨g, off, rfl, hc⟩ := h.cells.resolve_left (by omega)
      obtain ⟨x, hx⟩ : ∃ x, x = xs.getD j 0 := ⟨_, rfl⟩
      have hcx0 : w.cell? ⟨g, off + j, none⟩ = some (V x) := by rw [hx]; exact hc j (by omega)
      have hcx : wr.cell? ⟨g, off + j, none⟩ = some (V x) := (HR.out.bel.cell (p := ⟨g, off + j, none⟩) (World.block_lt_of_cell? w _ hcx0)).trans hcx0
      have hxb : x < B32 := by rw [hx]; exact h.dig.getD B32_pos j
      have hjn : j < n := by omega
      have hct : wr.cell? ⟨w.heap.size, j, none⟩ = some (V (qs.getD j 0)) := by
        have := HR.out.row.cell j hjn
        rw [Nat.zero_add] at this; exact this
      have hft : wr.frozen? ⟨w.heap.size, j, none⟩ = false := by
        have := HR.out.row.frozen j hjn
        rw [Nat.zero_add] at this; exact this
      have hL := HR.out.lt
      have hdB := HDB.out.2
      rw [B32_eq] at hdB hxb
      obtain ⟨T, hT⟩ : ∃ T, T = L * 4294967296 + x := ⟨_, rfl⟩
      obtain ⟨lh, hlh⟩ : ∃ lh, lh = L * 4294967296 := ⟨_, rfl⟩
      have f1 : IntKind.u64.wrap ((L : Int) * 4294967296) = (lh : Int) := wrap_mod _ _ (by omega)
      have f2 : IntKind.u64.wrap ((lh : Int) + (x : Int)) = (T : Int) := wrap_mod _ _ (by omega)
      have fx : IntKind.u64.wrap (x : Int) = (x : Int) := wrap_mod _ _ (by omega)
      obtain ⟨Q, hQ⟩ : ∃ Q, Q = T / d := ⟨_, rfl⟩
      obtain ⟨R, hRr⟩ : ∃ R, R = T % d := ⟨_, rfl⟩
      have q1 : (T : Int).tdiv (d : Int) = (Q : Int) := by rw [hQ, Int.tdiv_eq_ediv_of_nonneg (Int.natCast_nonneg T)]; norm_cast
      have q2 : (T : Int) / (d : Int) = (Q : Int) := by rw [hQ]; norm_cast
      have r1 : (T : Int).tmod (d : Int) = (R : Int) := by rw [hRr, Int.tmod_eq_emod_of_nonneg (Int.natCast_nonneg T)]; norm_cast
      have r2 : (T : Int) % (d : Int) = (R : Int) := by rw [hRr]; norm_cast
      have hRd : R < d := by rw [hRr]; exact Nat.mod_lt _ hd
      have hQB : Q < B32 := by
        rw [hQ, B32_eq]
        refine Nat.div_lt_of_lt_mul ?_
        have : L * 4294967296 + 4294967296 ≤ d * 4294967296 := by
          have := Nat.mul_le_mul_right 4294967296 (show L + 1 ≤ d by omega)
          rw [Nat.add_mul] at this; omega
        omega
      have fq : IntKind.u32.wrap (Q : Int) = (Q : Int) := wrap32 Q hQB
      have fq2 : IntKind.u64.wrap (Q : Int) = (Q : Int) := wrap_mod _ _ (by rw [B32_eq] at hQB; omega)
      have fq3 : (Q : Int) % 4294967296 = (Q : Int) := by rw [B32_eq] at hQB; omega
      have hQR : L * B32 + x = Q * d + R := by rw [B32_eq, ← hT, hQ, hRr, Nat.mul_comm]; exact (Nat.div_add_mod T d).symm
      have HS : Hid (DSm w w.heap.size n d xs j R (qs.set j Q) (wr.setCell ⟨w.heap.size, j, none⟩ (V Q))) := by
        have hR := HR.out
        have hs := hR.row.set j Q hjn hQB
        rw [Nat.zero_add] at hs
        refine ⟨bSet0 hR.bel _ _ _ (Nat.le_refl _), hs, hRd, ?_⟩
        rw [drop_set_self qs j Q (by rw [hR.row.len]; exact hjn), valB_cons, valB_drop B32 xs j (by rw [HLX.out]; exact hjn), ← hx]
        exact divsmall_abs hR.val hQR
      clear hz HR hc hx hcx0 hQ hRr hT hlh hQR hL hdB hxb hRd hQB
      go_wp2_with fail
      go_roundg j
      case measure => omega
      case rel => exact ⟨R, (j : Int) - 1, qs.set j Q, rfl, rfl, rfl, by omega, HS⟩
theorem rshl_blk {p : Option Addr} {n c : Nat} {xs : List Nat} {a : Nat} {w : World} (h : At32 w p n c xs) (hx : Nf B32 xs a) (hn0 : 0 < n) (hn : n ≤ 16384) (N : Nat) (hN2 : N ≤ 524288) :
    Calls Tryd.prog 63 #[.slice p n c, .int .i64 N] w fun e w' => ∃ g zs, e = .returned (.slice (some ⟨g, 0, none⟩) zs.length zs.length) ∧ w.heap.size ≤ g ∧ Blk32 w' g zs ∧ Nf B32 zs (a * 2 ^ N) ∧ zs.length ≤ 40000 ∧ Below w.heap.size w w' := by
  obtain ⟨i0, hi, hz0, hz1, hz2⟩ := info_parts Tryd.infoU32
  have HX : Hid (Nf B32 xs a) := hx
  have HA : Hid (At32 w p n c xs) := h
  have HLX : Hid (xs.length = n) := h.len
  have cap := h.cap
  have big := h.big
  unfold maxLen at big
  have hne : ((n : Int) == 0) = false := by simp; omega
  clear hx h
  by_cases hN0 : N = 0
  · subst hN0
    go_enter Tryd.func63, Tryd.ntmps63
    go_wp2_with fail
    refine (rnorm_any HA.out (by omega)).mono ?_
    rw [trimL_of_Top HX.out.top]
    rintro e w1 ⟨g, rfl, hg, hb, hbl⟩
    have HB : Hid (Blk32 w1 g xs) := hb
    clear hb
    go_wp2_with fail
    go_ret
    exact ⟨g, xs, rfl, hg, HB.out, by rw [Nat.pow_zero, Nat.mul_one]; exact HX.out, by rw [HLX.out]; omega, hbl⟩
  · obtain ⟨D, hD⟩ : ∃ D, D = N / 32 := ⟨_, rfl⟩
    obtain ⟨R, hR⟩ : ∃ R, R = N % 32 := ⟨_, rfl⟩
    have d1 : (N : Int).tdiv 32 = (D : Int) := by rw [Int.tdiv_eq_ediv_of_nonneg (by omega)]; omega
    have d2 : (N : Int).tmod 32 = (R : Int) := by rw [Int.tmod_eq_emod_of_nonneg (by omega)]; omega
    have hNp : ¬ (N : Int) ≤ 0 := by omega
    have hR32 : R < 32 := by omega
    have hDb : D ≤ 16384 := by omega
    have HD : Hid (2 ^ N = B32 ^ D * 2 ^ R) := by show _ = _; rw [show B32 = 2 ^ 32 from rfl, ← Nat.pow_mul, ← Nat.pow_add]; congr 1; omega
    obtain ⟨M, hM⟩ : ∃ M, M = D + n + 1 := ⟨_, rfl⟩
    have hMI : (D : Int) + (n : Int) + 1 = (M : Int) := by omega
    have HM : Hid (M = D + n + 1) := hM
    have hMb : M ≤ 33000 := by omega
    have hDM : D ≤ M := by omega
    obtain ⟨d, hd⟩ : ∃ d, d = 2 ^ R := ⟨_, rfl⟩
    have hd1 : 1 ≤ d := by rw [hd]; exact Nat.pow_pos (by decide)
    have hdB : d < B32 := by rw [hd, show B32 = 2 ^ 32 from rfl]; exact Nat.pow_lt_pow_right (by decide) hR32
    have hdw : IntKind.u32.wrap (d : Int) = (d : Int) := wrap32 d hdB
    have hdI : (2 : Int) ^ R = (d : Int) := by rw [hd]; norm_cast
    have HDD : Hid (d = 2 ^ R ∧ 1 ≤ d ∧ d < B32) := ⟨hd, hd1, hdB⟩
    clear hD hR hM hd hd1 hdB
    go_enter Tryd.func63, Tryd.ntmps63
    go_wp2_with (at_make; refine wpList_make_room _ rfl _ _ 72 rfl w.heap.size 87 i0 (.int .u32 0) 1 Tryd.underlying72 hi hz0 hz1 _ _ _ _ D M rfl rfl (by omega) (by omega) hDM (by rw [hz2]; omega) (by unfold maxLen; omega) (Nat.le_refl _) ?_; intro w1 hown hgrow)
    have hb1 : Below w.heap.size w w1 := (Below.refl _ _).grown hgrow (Nat.le_refl _) (fun k hk => by simp at hk)
    rw [made_take D M hDM] at hown
    have HO : Hid (w1.ownsRow w.heap.size 87 1 (.slice (some ⟨w.heap.size, 0, none⟩) D M) D (cellsV (List.replicate D 0))) := hown
    have HA1 : Hid (At32 w1 p n c xs) := HA.out.below hb1
    have HB1 : Hid (Below w.heap.size w w1) := hb1
    have HSZ : Hid (w.heap.size < w1.heap.size) := by
      rcases HO.out.2 with ⟨h', _⟩ | ⟨g', _, _, h', _, hgc, _⟩
      · simp at h'
      · simp only [Value.slice.injEq, Option.some.injEq, Addr.mk.injEq, and_true] at h'
        obtain ⟨rfl, _⟩ := h'
        exact (Array.getElem?_eq_some_iff.1 hgc).1
    clear hown hgrow hb1 HA
    rw [show Value.int IntKind.u32 (d : Int) = V d from rfl, show Value.int IntKind.u32 0 = V 0 from rfl]
    refine (rsmall_any HA1.out HX.out (by omega) HDD.out.2.2 (show 0 < B32 by decide)).mono ?_
    rintro e w2 ⟨g2, z2, rfl, hk2, hn2, hl2, hb2⟩
    rw [Nat.add_zero] at hn2
    have HO2 : Hid (w2.ownsRow w.heap.size 87 1 (.slice (some ⟨w.heap.size, 0, none⟩) D M) D (cellsV (List.replicate D 0))) := own_below HO.out hb2 HSZ.out
    have HK2 : Hid (Blk32 w2 g2 z2) := hk2
    have HN2 : Hid (Nf B32 z2 (a * d)) := hn2
    have HB2 : Hid (Below w.heap.size w w2) := Below.on HB1.out hb2
    obtain ⟨l2, hle2⟩ : ∃ l2, l2 = z2.length := ⟨_, rfl⟩
    have HL2 : Hid (z2.length = l2) := hle2.symm
    rw [← hle2] at hl2 ⊢
    have hsp : D + l2 ≤ M := by have := HM.out; omega
    clear hk2 hn2 hb2 hle2 HO HA1 HB1
    go_wp2_with (at_builtin; refine wpList_append_fits _ rfl (.tmp 24) (.tmp 29) 72 rfl w.heap.size 87 i0 1 Tryd.underlying72 hi hz1 w.heap.size D M (cellsV (List.replicate D 0)) rfl HO2.out ⟨g2, 0, none⟩ l2 l2 (cellsV z2) rfl (by rw [cellsV_length, HL2.out, Nat.mul_one]) (blk_src HK2.out) (cellsV_one _) hsp ?_; intro w3 hw3 hgr3)
    have hd3 : Dig B32 (List.replicate D 0 ++ z2) := (Dig.replicate B32 D B32_pos).append HN2.out.dig
    have hl3 : (List.replicate D 0 ++ z2).length = D + l2 := by rw [List.length_append, List.length_replicate, HL2.out]
    have A3 : Hid (At32 w3 (some ⟨w.heap.size, 0, none⟩) (D + l2) M (List.replicate D 0 ++ z2)) := own_at32 (by rw [show cellsV (List.replicate D 0 ++ z2) = cellsV (List.replicate D 0) ++ cellsV z2 from by unfold cellsV; rw [List.map_append]]; exact hw3) hl3 hd3
    have HB3 : Hid (Below w.heap.size w w3) := HB2.out.grown hgr3 HB2.out.size (fun q hq => by simp at hq; omega)
    have NF3 : Hid (Nf B32 (trimL (List.replicate D 0 ++ z2)) (a * 2 ^ N)) := by
      have h1 := Nf.trim hd3
      rw [valB_zeros, HN2.out.val] at h1
      have e1 : B32 ^ D * (a * d) = a * 2 ^ N := by rw [HD.out, ← HDD.out.1, Nat.mul_left_comm]
      rw [e1] at h1; exact h1
    have hle3 : (trimL (List.replicate D 0 ++ z2)).length ≤ D + l2 := by have h1 := trimL_length_le (List.replicate D 0 ++ z2); omega
    clear hw3 hgr3 hl3 hd3
    refine (rnorm_any A3.out (by omega)).mono ?_
    rintro e w4 ⟨g4, rfl, hg4, hb4, hbl4⟩
    have A4 : Hid (Blk32 w4 g4 (trimL (List.replicate D 0 ++ z2)) ∧ w.heap.size ≤ g4) := ⟨hb4, Nat.le_trans HB3.out.size hg4⟩
    have hbw4 := Below.on HB3.out hbl4
    generalize trimL (List.replicate D 0 ++ z2) = z4 at *
    clear hb4 hbl4 hg4
    go_wp2_with fail
    go_ret
    exact ⟨g4, z4, rfl, A4.out.2, A4.out.1, NF3.out, by omega, hbw4⟩
theorem lit_at32w (w : World) (x y : Nat) (hx : x < B32) (hy : y < B32) : At32 (w.alloc (.cells #[V x, V y] 87)) (some ⟨w.heap.size, 0, none⟩) 2 2 [x, y] := by
  refine ⟨rfl, Nat.le_refl _, by decide, ?_, .inr ⟨w.heap.size, 0, rfl, ?_⟩⟩
  · intro z hz
    simp at hz
    rcases hz with rfl | rfl <;> assumption
  · intro j hj
    match j, hj with
    | 0, _ => exact World.cell?_alloc_new ..
    | 1, _ => exact World.cell?_alloc_new ..
theorem rword (x : Nat) (hx : x < B64) (w : World) : Calls Tryd.prog 59 #[U x] w fun e w' => ∃ g zs, e = .returned (.slice (some ⟨g, 0, none⟩) zs.length zs.length) ∧ zs.length ≤ 2 ∧ At32 w' (some ⟨g, 0, none⟩) zs.length zs.length zs ∧ Nf B32 zs x ∧ Below w.heap.size w w' := by
  obtain ⟨lo, hlo⟩ : ∃ lo, lo = x % B32 := ⟨_, rfl⟩
  obtain ⟨hi, hhi⟩ : ∃ hi, hi = x / B32 := ⟨_, rfl⟩
  have hlb : lo < B32 := by rw [hlo]; exact Nat.mod_lt _ B32_pos
  have hhb : hi < B32 := by rw [hhi]; refine Nat.div_lt_of_lt_mul ?_; rw [B32_two]; exact hx
  have e1 : bits .and .u64 (x : Int) 4294967295 = (lo : Int) := by rw [hlo, B32_eq]; exact and32 x (by rw [← B64_eq]; exact hx)
  have e2 : (x : Int) / 4294967296 = (hi : Int) := by rw [hhi, B32_eq]; exact div32 x
  have e3 : IntKind.u32.wrap (lo : Int) = (lo : Int) := wrap32 lo hlb
  have e4 : IntKind.u32.wrap (hi : Int) = (hi : Int) := wrap32 hi hhb
  have HV : Hid (valB B32 [lo, hi] = x) := by show _ = _; simp only [valB, hlo, hhi]; have := Nat.mod_add_div x B32; omega
  have HLB : Hid (lo < B32 ∧ hi < B32) := ⟨hlb, hhb⟩
  clear hlo hhi hlb hhb
  go_enter Tryd.func59, Tryd.ntmps59
  go_wp2_with fail
  refine (rnorm_any (lit_at32w w lo hi HLB.out.1 HLB.out.2) (by omega)).mono ?_
  rintro e w1 ⟨g, rfl, hg, hb, hbl⟩
  have hl := trimL_length_le [lo, hi]
  have hA : At32 w1 (some ⟨g, 0, none⟩) (trimL [lo, hi]).length (trimL [lo, hi]).length (trimL [lo, hi]) := hb.at_ (Dig.trimL (lit_at32w w lo hi HLB.out.1 HLB.out.2).dig) rfl (by unfold maxLen; simp at hl; omega)
  have hN : Nf B32 (trimL [lo, hi]) x := ⟨Dig.trimL (lit_at32w w lo hi HLB.out.1 HLB.out.2).dig, Top_trimL _, by rw [valB_trimL]; exact HV.out⟩
  have HH : Hid (At32 w1 (some ⟨g, 0, none⟩) (trimL [lo, hi]).length (trimL [lo, hi]).length (trimL [lo, hi]) ∧ Nf B32 (trimL [lo, hi]) x ∧ (trimL [lo, hi]).length ≤ 2) := ⟨hA, hN, by simpa using hl⟩
  have hbw := Below.on (below1 w _) hbl
  generalize trimL [lo, hi] = zs at *
  clear hA hN hl hb hbl hg
  go_wp2_with fail
  go_ret
  exact ⟨g, zs, rfl, HH.out.2.2, HH.out.1, HH.out.2.1, hbw⟩
theorem rdivmod_lt {p q : Option Addr} {n m c d : Nat} {xs ys : List Nat} {a b : Nat} {w : World} (h : At32 w p n c xs) (k : At32 w q m d ys) (hx : Nf B32 xs a) (hy : Nf B32 ys b) (hn : n ≤ 16384) (_hm : m ≤ 40000) (hb : b ≠ 0) (hlt : a < b) :
    Calls Tryd.prog 67 #[.slice p n c, .slice q m d] w fun e w' => ∃ p1 m1 z1 p2 m2 z2, e = .returned (.tuple #[.slice p1 m1 m1, .slice p2 m2 m2]) ∧ At32 w' p1 m1 m1 z1 ∧ Nf B32 z1 (a / b) ∧ At32 w' p2 m2 m2 z2 ∧ Nf B32 z2 (a % b) ∧ m1 ≤ n ∧ m2 ≤ n ∧ Below w.heap.size w w' := by
  have HA : Hid (At32 w p n c xs) := h
  have HB : Hid (At32 w q m d ys) := k
  have HX : Hid (Nf B32 xs a) := hx
  have HY : Hid (Nf B32 ys b) := hy
  have hm0 : m ≠ 0 := fun e => hb ((hy.zero_iff B32_one).1 (List.eq_nil_of_length_eq_zero (by rw [k.len]; exact e)))
  have hmb : ((m : Int) == 0) = false := by simp; omega
  have hcap := k.cap; have hbig := k.big
  unfold maxLen at hbig
  have HLT : Hid (a < b) := hlt
  clear h k hx hy hb hlt
  go_enter Tryd.func67, Tryd.ntmps67
  go_wp2_with fail
  refine (rcmp_any HA.out HB.out HX.out HY.out).mono ?_
  rintro e w1 ⟨rfl, r, rfl⟩
  rw [cmpN_lt HLT.out]
  have A1 : Hid (At32 (w.drewN r) p n c xs) := HA.out.drewN r
  have hb1 : Below w.heap.size w (w.drewN r) := bDrewN (Below.refl _ _) r
  clear HA HB
  generalize w.drewN r = w1 at *
  go_wp2_with fail
  rw [show Value.int IntKind.u64 0 = U 0 from rfl]
  refine (rword 0 (by decide) w1).mono ?_
  rintro e w2 ⟨g2, z2, rfl, hl2, hA2, hN2, hb2⟩
  have A2 : Hid (At32 w2 (some ⟨g2, 0, none⟩) z2.length z2.length z2) := hA2
  have N2 : Hid (Nf B32 z2 0) := hN2
  have A12 : Hid (At32 w2 p n c xs) := A1.out.below hb2
  have hbw2 := Below.on hb1 hb2
  have hz2 : z2.length = 0 := by rw [(hN2.zero_iff B32_one).2 rfl]; rfl
  have HZ2 : Hid (z2.length = 0) := hz2
  clear hA2 hN2 hb2 hb1 A1 hl2 hz2
  go_wp2_with fail
  refine (rnorm_any A12.out (by omega)).mono ?_
  rw [trimL_of_Top HX.out.top]
  rintro e w3 ⟨g3, rfl, hg3, hblk3, hb3⟩
  have A3 : Hid (At32 w3 (some ⟨g3, 0, none⟩) xs.length xs.length xs) := hblk3.at_ HX.out.dig rfl (by rw [A12.out.len]; unfold maxLen; omega)
  have A23 : Hid (At32 w3 (some ⟨g2, 0, none⟩) z2.length z2.length z2) := A2.out.below hb3
  have hbw3 := Below.on hbw2 hb3
  have HLX : Hid (xs.length = n) := A12.out.len
  clear hblk3 hb3 hg3 A2 A12
  go_wp2_with fail
  go_ret2
  refine ⟨_, _, z2, _, _, xs, rfl, A23.out, by rw [Nat.div_eq_of_lt HLT.out]; exact N2.out, A3.out, by rw [Nat.mod_eq_of_lt HLT.out]; exact HX.out, by rw [HZ2.out]; omega, by rw [HLX.out]; exact Nat.le_refl _, hbw3⟩
theorem rdivmod_one {p q : Option Addr} {n m c d : Nat} {xs ys : List Nat} {a b : Nat} {w : World} (h : At32 w p n c xs) (k : At32 w q m d ys) (hx : Nf B32 xs a) (hy : Nf B32 ys b) (hn : n ≤ 16384) (hm : m ≤ 16384) (hb : b ≠ 0) (hge : b ≤ a) (hm1 : m = 1) :
    Calls Tryd.prog 67 #[.slice p n c, .slice q m d] w fun e w' => ∃ p1 m1 z1 p2 m2 z2, e = .returned (.tuple #[.slice p1 m1 m1, .slice p2 m2 m2]) ∧ At32 w' p1 m1 m1 z1 ∧ Nf B32 z1 (a / b) ∧ At32 w' p2 m2 m2 z2 ∧ Nf B32 z2 (a % b) ∧ m1 ≤ n ∧ m2 ≤ n ∧ Below w.heap.size w w' := by
  have HA : Hid (At32 w p n c xs) := h
  have HB : Hid (At32 w q m d ys) := k
  have HX : Hid (Nf B32 xs a) := hx
  have HY : Hid (Nf B32 ys b) := hy
  have hm0 : m ≠ 0 := fun e => hb ((hy.zero_iff B32_one).1 (List.eq_nil_of_length_eq_zero (by rw [k.len]; exact e)))
  have hmb : ((m : Int) == 0) = false := by simp; omega
  have hcap := k.cap; have hbig := k.big
  unfold maxLen at hbig
  have HGE : Hid (b ≤ a) := hge
  subst hm1
  obtain ⟨y, rfl⟩ := List.length_eq_one_iff.1 k.len
  have hyv : b = y := by have := hy.val; simp [valB] at this; omega
  subst hyv
  obtain ⟨gq, oq, rfl, hcq⟩ := k.cells.resolve_left (by omega)
  have hc0 : w.cell? ⟨gq, oq, none⟩ = some (V b) := by have := hcq 0 (by omega); rw [Nat.add_zero] at this; exact this
  have hbB : b < B32 := hy.dig.head
  have HBB : Hid (b < B32 ∧ 1 ≤ b) := ⟨hbB, by omega⟩
  clear h k hx hy hb hge hcq hbB
  go_enter Tryd.func67, Tryd.ntmps67
  go_wp2_with fail
  refine (rcmp_any HA.out HB.out HX.out HY.out).mono ?_
  rintro e w1 ⟨rfl, r, rfl⟩
  obtain ⟨cm, hcm⟩ : ∃ cm, cm = cmpN a b := ⟨_, rfl⟩
  rw [← hcm]
  have hcm0 : decide (cm < 0) = false := decide_eq_false (by rw [hcm, cmpN_neg]; have := HGE.out; omega)
  have A1 : Hid (At32 (w.drewN r) p n c xs) := HA.out.drewN r
  have hb1 : Below w.heap.size w (w.drewN r) := bDrewN (Below.refl _ _) r
  have hc1 : (w.drewN r).cell? ⟨gq, oq, none⟩ = some (V b) := hc0
  clear HA HB hcm hc0
  generalize w.drewN r = w1 at *
  go_wp2_with fail
  clear hcm0
  refine (rdivsmall2 A1.out (by omega) b HBB.out.2 HBB.out.1).mono ?_
  rintro e w2 ⟨p2, m2, z2, r2, rfl, hA2, hN2, hl2, hr2, hb2⟩
  rw [HX.out.val] at hN2 hr2
  have A2 : Hid (At32 w2 p2 m2 m2 z2) := hA2
  have N2 : Hid (Nf B32 z2 (a / b) ∧ m2 ≤ n) := ⟨hN2, hl2⟩
  have hbw2 := Below.on hb1 hb2
  obtain ⟨rr, hrr⟩ : ∃ rr, rr = a % b := ⟨_, rfl⟩
  rw [← hrr] at hr2
  subst hr2
  have hrB : rr < B32 := by rw [hrr]; exact Nat.lt_trans (Nat.mod_lt _ HBB.out.2) HBB.out.1
  have HRR : Hid (rr = a % b ∧ rr < B64) := ⟨hrr, by rw [B32_eq] at hrB; rw [B64_eq]; omega⟩
  have f1 : IntKind.u64.wrap (rr : Int) = (rr : Int) := wrap_mod _ _ (by rw [B32_eq] at hrB; omega)
  have HN1 : Hid (1 ≤ n) := by
    have h1 := HGE.out; have h2 := HBB.out.2
    rcases Nat.eq_zero_or_pos n with e | e
    · have := (HX.out.zero_iff B32_one).1 (List.eq_nil_of_length_eq_zero (by rw [A1.out.len]; exact e)); omega
    · exact e
  have HRL : Hid (rr < B32) := hrB
  clear hA2 hN2 hl2 hb2 hb1 A1 hrr hrB hc1
  go_wp2_with fail
  refine (rword rr HRR.out.2 w2).mono ?_
  rintro e w3 ⟨g3, z3, rfl, hl3, hA3, hN3, hb3⟩
  have A3 : Hid (At32 w3 (some ⟨g3, 0, none⟩) z3.length z3.length z3) := hA3
  have hl1 : z3.length ≤ 1 := (hN3.len_le B32_one).2 (by rw [Nat.pow_one]; exact HRL.out)
  have N3 : Hid (Nf B32 z3 rr ∧ z3.length ≤ 1) := ⟨hN3, hl1⟩
  have A23 : Hid (At32 w3 p2 m2 m2 z2) := A2.out.below hb3
  have hbw3 := Below.on hbw2 hb3
  clear hA3 hN3 hb3 hl3 hl1 A2 f1
  go_wp2_with fail
  go_ret2
  exact ⟨_, _, z2, _, _, z3, rfl, A23.out, N2.out.1, A3.out, by rw [← HRR.out.1]; exact N3.out.1, N2.out.2, Nat.le_trans N3.out.2 HN1.out, hbw3⟩
end Go.Proofs.YtkdpafliibclnaaDoor
namespace Go.Proofs.YtkdpafliibclnaaDoor
open Go.RowKit
set_option maxRecDepth 20000
set_option maxHeartbeats 0
variable {P : Program} {md : Region.Mode} {ops : Array Oper} {Q : Exit → Act → World → Prop} {J : World → Prop}

def wpJ (P : Program) (md : Region.Mode) (ops : Array Oper) (Q : Exit → Act → World → Prop) (J : World → Prop) : Nat → Array Bool → Act → World → Prop
  | 0, listed, a, w => Region.ready md ops listed = [] ∧ Q .normal a w
  | fuel + 1, listed, a, w =>
    (Region.ready md ops listed = [] → Q .normal a w) ∧
    ∀ i ∈ Region.ready md ops listed, wpOp P ops Q i (fun a' w' => J w' ∧ wpJ P md ops Q J fuel (listed.setIfInBounds i true) a' w') a w
theorem wpJ_any : ∀ (fuel : Nat) (listed : Array Bool) (a : Act) (w : World), wpJ P md ops Q J fuel listed a w → wpAny P md ops Q fuel listed a w
  | 0, _, _, _, h => h
  | fuel + 1, _, _, _, h => ⟨h.1, fun i hi => wpOp_mono (fun a' w' h' => wpJ_any fuel _ a' w' h'.2) (h.2 i hi)⟩

def YieldsJ (P : Program) (ops : Array Oper) (J : World → Prop) (o : Oper) (v : Value) (a : Act) : Prop :=
  (Region.wanted o (yielded ops a.tmps) = true ∧ ∀ w, J w → (execOp a.eval o).run P w = .ok (.value v) w) ∨ (Region.wanted o (yielded ops a.tmps) = false ∧ v = undef)
theorem YieldsJ.wpOp {i : Nat} {o : Oper} {v : Value} {a : Act} (hi : ops[i]? = some o) (hy : YieldsJ P ops J o v a)
    {K : Act → World → Prop} {w : World} (hJ : J w) (h : K (a.put o.dst v) w) : wpOp P ops Q i K a w := by
  unfold Go.wpOp
  simp only [hi]
  rcases hy with ⟨hw, hv⟩ | ⟨hw, rfl⟩
  · simp only [hw, if_true, Oper.wp, hv w hJ, Oper.upon]
    exact .inl h
  · simp only [hw]
    exact h
theorem YieldsJ.of_same {o : Oper} {v : Value} {a a' : Act} (hy : YieldsJ P ops J o v a) (he : execOp a'.eval o = execOp a.eval o)
    (hw : Region.wanted o (yielded ops a'.tmps) = Region.wanted o (yielded ops a.tmps)) : YieldsJ P ops J o v a' := by
  unfold YieldsJ at *
  rw [he, hw]
  exact hy
theorem wpOpJ_put {j : Nat} {oi oj : Oper} {v : Value} (hj : ops[j]? = some oj) (hap : oi.apart ops oj = true)
    (hsi : ∀ cs b, oi.op ≠ .select cs b) (hsj : ∀ cs b, oj.op ≠ .select cs b)
    (hQ : ∀ c a w, Q (.panic c) (a.put oi.dst v) w → Q (.panic c) a w) {K : Act → World → Prop} {a : Act} {w : World}
    (hy : YieldsJ P ops J oi v a) (h : wpOp P ops Q j K (a.put oi.dst v) w) :
    wpOp P ops Q j (fun a' w' => YieldsJ P ops J oi v a' ∧ K (a'.put oi.dst v) w') a w := by
  obtain ⟨h1, h2, h3⟩ := Oper.apart_spec hap
  have keep : ∀ (a : Act), YieldsJ P ops J oi v a → ∀ u, YieldsJ P ops J oi v (a.put oj.dst u) := fun a hy u =>
    hy.of_same (execOp_put oi hsi a oj.dst u h3) (wanted_put oi a oj.dst u h3)
  have keepD : ∀ d, YieldsJ P ops J oi v { a with defers := d :: a.defers } := fun d => hy.of_same rfl rfl
  unfold wpOp at *
  simp only [hj] at *
  rw [wanted_put oj a oi.dst v h1] at h
  split
  · rename_i hw
    simp only [hw, if_true] at h
    rcases h with h | ⟨hasks, hlets⟩
    case inr => exact .inr ⟨by unfold Oper.asks at *; rw [execOp_put oj hsj a oi.dst v h1] at hasks; exact hasks, hlets⟩
    refine .inl ?_
    unfold Oper.wp at *
    rw [execOp_put oj hsj a oi.dst v h1] at h
    generalize (execOp a.eval oj).run P w = r at *
    cases r with
    | ok n w' =>
      cases n <;> simp only [Oper.upon] at h ⊢
      case value u => exact ⟨keep a hy u, by rw [← Act.put_comm a v u h2]; exact h⟩
      case skip => exact ⟨keep a hy _, by rw [← Act.put_comm a v undef h2]; exact h⟩
      case defer d =>
        refine ⟨keep _ (keepD d) _, ?_⟩
        rw [← Act.put_comm _ v undef h2, ← Act.put_defers]
        exact h
      case enter f args =>
        refine Calls.mono h fun e w'' he => ?_
        cases e with
        | returned u => exact ⟨keep a hy u, by rw [← Act.put_comm a v u h2]; exact he⟩
        | panicked c => exact hQ _ _ _ he
        | outgrown => exact he
      case row row args => exact Rows.mono h fun u w'' he => ⟨keep a hy u, by rw [← Act.put_comm a v u h2]; exact he⟩
    | halt x w' =>
      cases x <;> simp only [Oper.upon] at h ⊢
      case panic u => exact hQ _ _ _ h
  · rename_i hw
    simp only [hw] at h
    exact ⟨keep a hy _, by rw [← Act.put_comm a v undef h2]; exact h⟩

theorem wpJ_first {i : Nat} {oi : Oper} {v : Value} (hi : ops[i]? = some oi) (hsel : ∀ (j : Nat) (o : Oper) cs b, ops[j]? = some o → o.op ≠ .select cs b)
    (hQ : ∀ c a w, Q (.panic c) (a.put oi.dst v) w → Q (.panic c) a w) :
    ∀ (fuel : Nat) (listed : Array Bool) (a : Act) (w : World),
      (∀ j oj, ops[j]? = some oj → j ≠ i → listed.getD j true = false → (∀ e ∈ oj.after, Region.binds md e = true → e.on ≠ i) → oi.apart ops oj = true) →
      i ∈ Region.ready md ops listed → YieldsJ P ops J oi v a → J w →
      wpJ P md ops Q J fuel (listed.setIfInBounds i true) (a.put oi.dst v) w → wpJ P md ops Q J (fuel + 1) listed a w := by
  intro fuel
  induction fuel with
  | zero =>
    intro listed a w _ hr hy hJ H
    refine ⟨fun h => (by rw [h] at hr; cases hr), fun j hj => ?_⟩
    by_cases hji : j = i
    · subst hji; exact hy.wpOp hi hJ ⟨hJ, H⟩
    · have := ready_mono hj hji
      rw [H.1] at this
      cases this
  | succ fuel ih =>
    intro listed a w hfree hr hy hJ H
    refine ⟨fun h => (by rw [h] at hr; cases hr), fun j hj => ?_⟩
    by_cases hji : j = i
    · subst hji; exact hy.wpOp hi hJ ⟨hJ, H⟩
    · have h1 := H.2 j (ready_mono hj hji)
      obtain ⟨hjun, oj, hoj, hall⟩ := mem_ready.1 hj
      have hnot : ∀ e ∈ oj.after, Region.binds md e = true → e.on ≠ i := fun e he hb heq => by
        have h1 := hall e he hb
        have h0 := (mem_ready.1 hr).1
        rw [heq] at h1
        rcases Nat.lt_or_ge i listed.size with h' | h'
        · simp [h'] at h0 h1; rw [h0] at h1; cases h1
        · simp [Array.getElem?_eq_none h'] at h1
      have h2 := wpOpJ_put hoj (hfree j oj hoj hji hjun hnot) (fun cs b => hsel i oi cs b hi) (fun cs b => hsel j oj cs b hoj) hQ hy h1
      have hfree' : ∀ k ok, ops[k]? = some ok → k ≠ i → (listed.setIfInBounds j true).getD k true = false →
          (∀ e ∈ ok.after, Region.binds md e = true → e.on ≠ i) → oi.apart ops ok = true := fun k ok hk hki hun hno => by
        refine hfree k ok hk hki ?_ hno
        by_cases hjk : j = k
        · subst hjk; exact hjun
        · rw [getD_set_ne true hjk] at hun; exact hun
      refine wpOp_mono (fun a' w' h3 => ⟨h3.2.1, ih (listed.setIfInBounds j true) a' w' hfree' (ready_mono hr (Ne.symm hji)) h3.1 h3.2.1 ?_⟩) h2
      rw [Array.setIfInBounds_comm _ _ hji]
      exact h3.2.2

theorem wpJ_take {i : Nat} {oi : Oper} {v : Value} {fuel : Nat} {listed : Array Bool} {a : Act} {w : World} (hi : ops[i]? = some oi)
    (hs : Region.noSelect ops = true) (hf : Region.free md ops listed i = true) (hr : (Region.ready md ops listed).contains i = true)
    (hQ : ∀ c a w, Q (.panic c) (a.put oi.dst v) w → Q (.panic c) a w) (hw : Region.wanted oi (yielded ops a.tmps) = true)
    (hy : ∀ w, J w → (execOp a.eval oi).run P w = .ok (.value v) w) (hJ : J w)
    (h : wpJ P md ops Q J fuel (listed.setIfInBounds i true) (a.put oi.dst v) w) : wpJ P md ops Q J (fuel + 1) listed a w :=
  wpJ_first hi (Region.noSelect_spec hs) hQ fuel listed a w (Region.free_spec hi hf) (by simpa using hr) (.inl ⟨hw, hy⟩) hJ h
theorem wpJ_tk (i : Nat) {oi : Oper} {v : Value} {fuel : Nat} {listed : Array Bool} {a : Act} {w : World} (hi : ops[i]? = some oi)
    (hy : ∀ w, J w → (execOp a.eval oi).run P w = .ok (.value v) w) (hJ : J w)
    (h : wpJ P md ops Q J fuel (listed.setIfInBounds i true) (a.put oi.dst v) w) (hs : Region.noSelect ops = true := by kernel_rfl) (hf : Region.free md ops listed i = true := by kernel_rfl)
    (hr : (Region.ready md ops listed).contains i = true := by kernel_rfl) (hQ : ∀ c a w, Q (.panic c) (a.put oi.dst v) w → Q (.panic c) a w := by exact fun _ _ _ h => h)
    (hw : Region.wanted oi (yielded ops a.tmps) = true := by kernel_rfl) : wpJ P md ops Q J (fuel + 1) listed a w := wpJ_take hi hs hf hr hQ hw hy hJ h
theorem wpJ_tq (i : Nat) {oi : Oper} {v : Value} {fuel : Nat} {listed : Array Bool} {a : Act} {w : World} (hi : ops[i]? = some oi) (hJ : J w)
    (h : wpJ P md ops Q J fuel (listed.setIfInBounds i true) (a.put oi.dst v) w)
    (hy : ∀ w, J w → (execOp a.eval oi).run P w = .ok (.value v) w := by (intro W' hJ; repeat (obtain ⟨_, hJ⟩ := hJ); go_simp; first | done | with_reducible rfl)) (hs : Region.noSelect ops = true := by kernel_rfl) (hf : Region.free md ops listed i = true := by kernel_rfl)
    (hr : (Region.ready md ops listed).contains i = true := by kernel_rfl) (hQ : ∀ c a w, Q (.panic c) (a.put oi.dst v) w → Q (.panic c) a w := by exact fun _ _ _ h => h)
    (hw : Region.wanted oi (yielded ops a.tmps) = true := by kernel_rfl) : wpJ P md ops Q J (fuel + 1) listed a w := wpJ_take hi hs hf hr hQ hw hy hJ h
theorem wpJ_skip {i : Nat} {oi : Oper} {fuel : Nat} {listed : Array Bool} {a : Act} {w : World} (hi : ops[i]? = some oi)
    (hs : Region.noSelect ops = true) (hf : Region.free md ops listed i = true) (hr : (Region.ready md ops listed).contains i = true)
    (hQ : ∀ c a w, Q (.panic c) (a.put oi.dst undef) w → Q (.panic c) a w) (hw : Region.wanted oi (yielded ops a.tmps) = false) (hJ : J w)
    (h : wpJ P md ops Q J fuel (listed.setIfInBounds i true) (a.put oi.dst undef) w) : wpJ P md ops Q J (fuel + 1) listed a w :=
  wpJ_first hi (Region.noSelect_spec hs) hQ fuel listed a w (Region.free_spec hi hf) (by simpa using hr) (.inr ⟨hw, rfl⟩) hJ h
theorem wpJ_sk (i : Nat) {oi : Oper} {fuel : Nat} {listed : Array Bool} {a : Act} {w : World} (hi : ops[i]? = some oi) (hJ : J w) (h : wpJ P md ops Q J fuel (listed.setIfInBounds i true) (a.put oi.dst undef) w)
    (hs : Region.noSelect ops = true := by kernel_rfl) (hf : Region.free md ops listed i = true := by kernel_rfl) (hr : (Region.ready md ops listed).contains i = true := by kernel_rfl)
    (hQ : ∀ c a w, Q (.panic c) (a.put oi.dst undef) w → Q (.panic c) a w := by exact fun _ _ _ h => h) (hw : Region.wanted oi (yielded ops a.tmps) = false := by kernel_rfl) : wpJ P md ops Q J (fuel + 1) listed a w := wpJ_skip hi hs hf hr hQ hw hJ h
theorem wpJ_one {i : Nat} {o : Oper} {fuel : Nat} {listed : Array Bool} {a : Act} {w : World} (hr : Region.ready md ops listed = [i]) (ho : ops[i]? = some o)
    (hw : Region.wanted o (yielded ops a.tmps) = true)
    (h : ∀ K : Act → World → Prop, (∀ a' w', J w' → wpJ P md ops Q J fuel (listed.setIfInBounds i true) a' w' → K a' w') → Oper.wp P o a w K Q) : wpJ P md ops Q J (fuel + 1) listed a w := by
  refine ⟨fun h => (by rw [hr] at h; cases h), fun j hj => ?_⟩
  rw [hr] at hj
  obtain rfl : j = i := by simpa using hj
  unfold wpOp
  simp only [ho, hw, if_true]
  exact .inl (h _ fun a' w' h1 h2 => ⟨h1, h2⟩)
theorem wpJ_on (i : Nat) {o : Oper} {fuel : Nat} {listed : Array Bool} {a : Act} {w : World} (ho : ops[i]? = some o)
    (h : ∀ K : Act → World → Prop, (∀ a' w', J w' → wpJ P md ops Q J fuel (listed.setIfInBounds i true) a' w' → K a' w') → Oper.wp P o a w K Q) (hr : Region.ready md ops listed = [i] := by kernel_rfl)
    (hw : Region.wanted o (yielded ops a.tmps) = true := by kernel_rfl) : wpJ P md ops Q J (fuel + 1) listed a w := wpJ_one hr ho hw h
theorem wpJ_done {listed : Array Bool} {a : Act} {w : World} (hr : Region.ready md ops listed = []) (h : Q .normal a w) : ∀ fuel, wpJ P md ops Q J fuel listed a w
  | 0 => ⟨hr, h⟩
  | _ + 1 => ⟨fun _ => h, by rw [hr]; simp⟩
theorem wp_region_J (J : World → Prop) {id : Nat} {a : Act} {w : World} (hm : P.follows .mixedOrders = true)
    (h : wpJ P .any ops Q J ops.size (Array.replicate ops.size false) a w.drew) : (Code.region id ops true).wp P Q a w :=
  wp_region_any hm (wpJ_any _ _ _ _ h)
end Go.Proofs.YtkdpafliibclnaaDoor
namespace Go.Proofs.YtkdpafliibclnaaDoor
open Go.RowKit Go.Shelf
set_option maxRecDepth 20000
set_option maxHeartbeats 0
structure DigRel32 (w : World) (gq gr L n : Nat) (A D : Nat) (k : Nat) (qs rs : List Nat) (wr : World) : Prop where
  bel : ∀ B, B ≤ gq → B ≤ gr → Below B w wr
  rowq : Row32 wr gq 0 L qs
  rowr : Row32 wr gr 0 (L + n) rs
  cell : ∀ b o, b ≠ gq → b ≠ gr → wr.cell? ⟨b, o, none⟩ = w.cell? ⟨b, o, none⟩
  lt : valB B32 (rs.drop (L - k)) < D
  sum : valB B32 rs + B32 ^ (L - k) * valB B32 (qs.drop (L - k)) * D = A

theorem Row32.other {w : World} {g off n : Nat} {xs : List Nat} (h : Row32 w g off n xs) (g2 o2 : Nat) (v : Value) (hne : g ≠ g2) : Row32 (w.setCell ⟨g2, o2, none⟩ v) g off n xs := by
  refine ⟨h.len, h.dig, fun j hj => ?_, fun j hj => by rw [World.frozen?_setCell]; exact h.frozen j hj⟩
  exact (World.cell?_setCell_other _ _ _ _ (by intro e; apply hne; have := congrArg Addr.block e; simp at this; omega)).trans (h.cell j hj)
theorem Row32.wr {w w' : World} {g off n g2 o2 l2 : Nat} {xs : List Nat} (h : Row32 w g off n xs) (hwr : Wr g2 o2 l2 w w') (hne : g ≠ g2) : Row32 w' g off n xs :=
  ⟨h.len, h.dig, fun j hj => (hwr.cell g (off + j) (.inl hne)).trans (h.cell j hj), fun j hj => (hwr.frozen _).trans (h.frozen j hj)⟩
theorem At32.cells_of {w w' : World} {g off n c : Nat} {xs : List Nat} (h : At32 w (some ⟨g, off, none⟩) n c xs) (hc : ∀ o, w'.cell? ⟨g, o, none⟩ = w.cell? ⟨g, o, none⟩) : At32 w' (some ⟨g, off, none⟩) n c xs :=
  ⟨h.len, h.cap, h.big, h.dig, by
    rcases h.cells with h0 | ⟨g', o', he, hcl⟩
    · exact .inl h0
    · refine .inr ⟨g', o', he, fun j hj => ?_⟩
      simp only [Option.some.injEq, Addr.mk.injEq, and_true] at he
      rw [← he.1, ← he.2] at hcl ⊢
      exact (hc (off + j)).trans (hcl j hj)⟩

theorem dig_abs32 {P W q r D T Q A : Nat} (hW : q * D + r = W) (h : T + P * W + P * B32 * Q * D = A) : T + P * r + P * (q + B32 * Q) * D = A := by
  subst hW
  have e1 : P * (q + B32 * Q) * D = P * (q * D) + P * B32 * Q * D := by
    rw [Nat.mul_add, Nat.add_mul, Nat.mul_assoc P q D, ← Nat.mul_assoc P B32 Q]
  rw [e1]
  rw [Nat.mul_add] at h
  omega
theorem DigRel32.window {w : World} {gq gr L n A D k : Nat} {qs rs : List Nat} {wr : World} (h : DigRel32 w gq gr L n A D k qs rs wr) (hk : k < L) (hDn : D < B32 ^ n) :
    ∃ a ws, a = L - 1 - k ∧ ws = (rs.drop a).take (n + 1) ∧ Row32 wr gr a (n + 1) ws ∧ valB B32 ws < B32 * D ∧ valB B32 rs = valB B32 (rs.take a) + B32 ^ a * valB B32 ws ∧ valB B32 (rs.drop (a + (n + 1))) = 0 := by
  have hl := h.rowr.len
  obtain ⟨a, ha⟩ : ∃ a, a = L - 1 - k := ⟨_, rfl⟩
  have hlt := h.lt
  rw [show L - k = a + 1 by omega] at hlt
  have hz : valB B32 (rs.drop (a + (n + 1))) = 0 := by
    have hs := valB_split B32 (rs.drop (a + 1)) n (by rw [List.length_drop]; omega)
    rw [List.drop_drop, show a + 1 + n = a + (n + 1) by omega] at hs
    rcases Nat.eq_zero_or_pos (valB B32 (rs.drop (a + (n + 1)))) with e | e
    · exact e
    · exfalso
      have : B32 ^ n * 1 ≤ B32 ^ n * valB B32 (rs.drop (a + (n + 1))) := Nat.mul_le_mul_left _ e
      omega
  have hw := win_take32 rs a (n + 1) (by omega)
  rw [hz, Nat.mul_zero, Nat.add_zero] at hw
  refine ⟨a, _, ha, rfl, h.rowr.win a (n + 1) (by omega), ?_, hw, hz⟩
  have hs := valB_split B32 (rs.drop a) (n + 1) (by rw [List.length_drop]; omega)
  rw [List.drop_drop, hz, Nat.mul_zero, Nat.add_zero] at hs
  rw [← hs, valB_drop B32 rs a (by omega)]
  have hb := h.rowr.dig.getD B32_pos a
  have : B32 * (valB B32 (rs.drop (a + 1)) + 1) ≤ B32 * D := Nat.mul_le_mul_left _ hlt
  rw [Nat.mul_add] at this
  omega
theorem DigRel32.step {w : World} {gq gr L n A D k : Nat} {qs rs : List Nat} {wr wr' : World} (h : DigRel32 w gq gr L n A D k qs rs wr) (hk : k < L) (hne : gq ≠ gr) {a q : Nat} {ws ws' : List Nat} (ha : a = L - 1 - k)
    (hrs : valB B32 rs = valB B32 (rs.take a) + B32 ^ a * valB B32 ws) (hz : valB B32 (rs.drop (a + (n + 1))) = 0) (hD : 0 < D) (hq : q = valB B32 ws / D) (hqb : q < B32) (hr : valB B32 ws' = valB B32 ws % D)
    (hwr : Wr gr a (n + 1) wr wr') (hrow : Row32 wr' gr a (n + 1) ws') : DigRel32 w gq gr L n A D (k + 1) (qs.set a q) (winPut rs ws' a) (wr'.setCell ⟨gq, a, none⟩ (V q)) := by
  have hl := h.rowr.len; have hql := h.rowq.len; have hwl := hrow.len
  have hle : a + ws'.length ≤ rs.length := by omega
  have e1 : L - (k + 1) = a := by omega
  have e2 : L - k = a + 1 := by omega
  have hdrop : valB B32 ((winPut rs ws' a).drop a) = valB B32 ws % D := by
    rw [winPut_drop rs ws' a hle, valB_append, hwl, hz, Nat.mul_zero, Nat.add_zero, hr]
  refine ⟨fun B h1 h2 => ?_, ?_, ?_, fun b o h1 h2 => ?_, ?_, ?_⟩
  · exact ((h.bel B h1 h2).trans (hwr.below h2)).trans ((Wr.refl gq 0 L wr').setCell a ⟨by omega, by omega⟩ (V q) |>.below h1)
  · have := (h.rowq.wr hwr hne).set a q (by omega) hqb
    rw [Nat.zero_add] at this; exact this
  · exact (h.rowr.put hwr hrow (by omega)).other gq a _ (Ne.symm hne)
  · rw [World.cell?_setCell_other _ _ _ _ (by intro e; apply h1; have := congrArg Addr.block e; simp at this; omega), hwr.cell b o (.inl h2)]
    exact h.cell b o h1 h2
  · rw [e1, hdrop]; exact Nat.mod_lt _ hD
  · have hs := h.sum
    rw [e2, hrs, Nat.pow_succ] at hs
    rw [e1, valB_split B32 (winPut rs ws' a) a (by rw [winPut_len rs ws' a hle]; omega), winPut_take rs ws' a hle, hdrop, drop_set_at qs a q (by omega), valB_cons]
    refine dig_abs32 (W := valB B32 ws) (q := q) ?_ hs
    rw [hq, Nat.mul_comm]; exact Nat.div_add_mod _ _

theorem Row32.below2 {w w' : World} {g off n B : Nat} {xs : List Nat} (h : Row32 w g off n xs) (hb : Below B w w') (hg : g < B) : Row32 w' g off n xs :=
  ⟨h.len, h.dig, fun j hj => (hb.cell (p := ⟨g, off + j, none⟩) hg).trans (h.cell j hj), fun j hj => (hb.frozen (p := ⟨g, off + j, none⟩) hg).trans (h.frozen j hj)⟩
theorem own_row32 {wr : World} {base i N : Nat} {p : Option Addr} {ss : List Nat} (ho : wr.ownsRow base 87 1 (.slice p i N) i (cellsV ss)) (hl : ss.length = i) (hd : Dig B32 ss) (hi : 0 < i) : ∃ g, p = some ⟨g, 0, none⟩ ∧ base ≤ g ∧ Row32 wr g 0 i ss ∧ i ≤ N ∧ N ≤ maxLen := by
  rcases ho.2 with ⟨h', h0⟩ | ⟨g', cap', cur, h', hbase, hgc, hcap', hmx, hsz, htake⟩
  · omega
  · simp only [Value.slice.injEq, true_and] at h'
    obtain ⟨rfl, rfl⟩ := h'
    refine ⟨g', rfl, hbase, ⟨hl, hd, fun jj hj => ?_, fun jj _ => frozen_of_row wr g' _ _ _ hgc⟩, hcap', hmx⟩
    rw [Nat.zero_add, cell_of_row wr g' jj _ _ _ hgc]
    have e1 := cellsV_get ss jj (by rw [hl]; exact hj)
    rw [← htake, Nat.mul_one, List.getElem?_take, if_pos hj] at e1
    rw [← Array.getElem?_toList]; exact e1
theorem shl_len {b M y s : Nat} {ys : List Nat} (hy : Nf B32 ys b) (hl : ys.length = M + 1) (hyy : y = ys.getD M 0) (hy0 : 0 < y) (hs : s = 32 - bitsN y) (hb32 : bitsN y ≤ 32) : b * 2 ^ s < B32 ^ (M + 1) ∧ B32 ^ M ≤ b * 2 ^ s := by
  have h1 : b = valB B32 (ys.take M) + B32 ^ M * y := by
    rw [← hy.val, valB_split B32 ys M (by omega), valB_drop B32 ys M (by omega), ← hyy, List.drop_of_length_le (by omega), valB_nil, Nat.mul_zero, Nat.add_zero]
  have h2 := valB_lt B32_pos (hy.dig.take M)
  rw [List.length_take, hl, Nat.min_eq_left (by omega)] at h2
  have h3 := bitsN_lt y
  have hp : 0 < 2 ^ s := Nat.pow_pos (by omega)
  refine ⟨?_, ?_⟩
  · have h4 : b < B32 ^ M * 2 ^ bitsN y := by
      have : B32 ^ M * (y + 1) ≤ B32 ^ M * 2 ^ bitsN y := Nat.mul_le_mul_left _ h3
      rw [Nat.mul_add, Nat.mul_one] at this
      omega
    have h5 : B32 ^ M * 2 ^ bitsN y * 2 ^ s = B32 ^ (M + 1) := by
      rw [Nat.mul_assoc, ← Nat.pow_add, Nat.pow_succ, show bitsN y + s = 32 by omega]; rfl
    rw [← h5]
    exact Nat.mul_lt_mul_of_pos_right h4 hp
  · have h4 : B32 ^ M * 1 ≤ B32 ^ M * y := Nat.mul_le_mul_left _ hy0
    have h5 : b * 1 ≤ b * 2 ^ s := Nat.mul_le_mul_left _ hp
    omega
theorem rdivmod_big {p q : Option Addr} {n m c d : Nat} {xs ys : List Nat} {a b : Nat} {w : World} (h : At32 w p n c xs) (k : At32 w q m d ys) (hx : Nf B32 xs a) (hy : Nf B32 ys b) (hn : n ≤ 16384) (hm : m ≤ 16384) (hb : b ≠ 0) (hge : b ≤ a) (hm2 : 2 ≤ m) :
    Calls Tryd.prog 67 #[.slice p n c, .slice q m d] w fun e w' => ∃ p1 m1 z1 p2 m2 z2, e = .returned (.tuple #[.slice p1 m1 m1, .slice p2 m2 m2]) ∧ At32 w' p1 m1 m1 z1 ∧ Nf B32 z1 (a / b) ∧ At32 w' p2 m2 m2 z2 ∧ Nf B32 z2 (a % b) ∧ m1 ≤ n ∧ m2 ≤ n ∧ Below w.heap.size w w' := by
  have HA : Hid (At32 w p n c xs) := h
  have HB : Hid (At32 w q m d ys) := k
  have HX : Hid (Nf B32 xs a) := hx
  have HY : Hid (Nf B32 ys b) := hy
  have hm0 : m ≠ 0 := fun e => hb ((hy.zero_iff B32_one).1 (List.eq_nil_of_length_eq_zero (by rw [k.len]; exact e)))
  have hmb : ((m : Int) == 0) = false := by simp; omega
  have hcap := k.cap; have hbig := k.big
  unfold maxLen at hbig
  have HGE : Hid (b ≤ a) := hge
  have hm1 : ((m : Int) == 1) = false := by simp; omega
  have hm1' : ¬ m = 1 := by omega
  obtain ⟨gq, oq, rfl, hcq⟩ := k.cells.resolve_left (by omega)
  obtain ⟨M, rfl⟩ : ∃ M, m = M + 1 := ⟨m - 1, by omega⟩
  obtain ⟨y, hyy⟩ : ∃ y, y = ys.getD M 0 := ⟨_, rfl⟩
  have hc0 : w.cell? ⟨gq, oq + M, none⟩ = some (V y) := by rw [hyy]; exact hcq M (by omega)
  have hyB : y < B32 := by rw [hyy]; exact hy.dig.getD B32_pos _
  have hyp : 0 < y := by
    rcases Nat.eq_zero_or_pos y with e | e
    · exfalso
      have h1 := valB_pos B32_pos (zs := ys) (by intro e2; have := k.len; rw [e2] at this; simp at this) hy.top
      rw [hy.val, k.len, Nat.add_sub_cancel] at h1
      have h2 : b = valB B32 (ys.take M) := by
        rw [← hy.val, valB_split B32 ys M (by rw [k.len]; omega), valB_drop B32 ys M (by rw [k.len]; omega), ← hyy, e, List.drop_of_length_le (by rw [k.len]; omega), valB_nil, Nat.mul_zero, Nat.add_zero, Nat.mul_zero, Nat.add_zero]
      have h3 := valB_lt B32_pos (hy.dig.take M)
      rw [List.length_take, k.len, Nat.min_eq_left (by omega)] at h3
      omega
    · exact e
  have hbN : bitsN y ≤ 32 ∧ 1 ≤ bitsN y := ⟨(lt_pow_bits y 32).1 (by rw [B32_eq] at hyB; omega), bitsN_pos (by omega)⟩
  obtain ⟨s, hs⟩ : ∃ s, s = 32 - bitsN y := ⟨_, rfl⟩
  have hsI : wrap64 (32 - (bitsN y : Int)) = (s : Int) := by simp only [wrap64]; omega
  have hsI2 : (32 : Int) - (bitsN y : Int) = (s : Int) := by omega
  have HS : Hid (s = 32 - bitsN y ∧ s ≤ 31) := ⟨hs, by omega⟩
  have HYY : Hid (y = ys.getD M 0 ∧ 0 < y ∧ y < B32) := ⟨hyy, hyp, hyB⟩
  have HLXY : Hid (xs.length = n ∧ ys.length = M + 1) := ⟨h.len, k.len⟩
  have hMI : (M : Int) + 1 - 1 = (M : Int) := by omega
  clear h k hx hy hb hge hcq hyy hyB hyp hs
  go_enter Tryd.func67, Tryd.ntmps67
  go_wp2_with fail
  refine (rcmp_any HA.out HB.out HX.out HY.out).mono ?_
  rintro e w1 ⟨rfl, r, rfl⟩
  obtain ⟨cm, hcm⟩ : ∃ cm, cm = cmpN a b := ⟨_, rfl⟩
  rw [← hcm]
  have hcm0 : decide (cm < 0) = false := decide_eq_false (by rw [hcm, cmpN_neg]; have := HGE.out; omega)
  have A1 : Hid (At32 (w.drewN r) p n c xs) := HA.out.drewN r
  have B1 : Hid (At32 (w.drewN r) (some ⟨gq, oq, none⟩) (M + 1) d ys) := HB.out.drewN r
  have hb1 : Below w.heap.size w (w.drewN r) := bDrewN (Below.refl _ _) r
  have hc1 : (w.drewN r).cell? ⟨gq, oq + M, none⟩ = some (V y) := hc0
  clear HA HB hcm hc0
  generalize w.drewN r = w1 at *
  go_wp2_with fail
  have NY : Hid (Nf B32 [y] y) := by
    have h9 := HYY.out
    refine ⟨Dig.cons h9.2.2 (Dig.nil _), ?_, by simp [valB]⟩
    intro z hz
    simp at hz
    omega
  have AY : Hid (At32 w1 (some ⟨gq, oq + M, none⟩) 1 (d - M) [y]) := ⟨rfl, by omega, by unfold maxLen; omega, NY.out.dig, .inr ⟨gq, oq + M, rfl, fun j hj => by obtain rfl : j = 0 := (by omega); rw [Nat.add_zero]; exact hc1⟩⟩
  refine (rbits_any AY.out NY.out (by omega)).mono ?_
  rintro e w' ⟨rfl, hw⟩
  obtain rfl := hw.symm
  clear hw AY NY hc1 hcm0
  go_wp2_with fail
  clear hsI hsI2
  have HSL : Hid (b * 2 ^ s < B32 ^ (M + 1) ∧ B32 ^ M ≤ b * 2 ^ s) := shl_len HY.out HLXY.out.2 HYY.out.1 HYY.out.2.1 HS.out.1 hbN.1
  refine (rshl_blk B1.out HY.out (by omega) hm s (by have := HS.out.2; omega)).mono ?_
  rintro e w2 ⟨gv, vs, rfl, hgv, hKv, hNv, hlv, hb2⟩
  obtain ⟨D, hD⟩ : ∃ D, D = b * 2 ^ s := ⟨_, rfl⟩
  rw [← hD] at hNv
  have hvl : vs.length = M + 1 := by
    have h1 := (hNv.len_le B32_one (k := M + 1)).2 (by rw [hD]; exact HSL.out.1)
    have h2 : ¬ vs.length ≤ M := fun e => by have := (hNv.len_le B32_one).1 e; have := HSL.out.2; omega
    omega
  rw [hvl]
  have HVL : Hid (vs.length = M + 1 ∧ D = b * 2 ^ s) := ⟨hvl, hD⟩
  have HNV : Hid (Nf B32 vs D) := hNv
  have hgv2 : gv < w2.heap.size := hKv.lt
  have V2 : Hid (At32 w2 (some ⟨gv, 0, none⟩) (M + 1) (M + 1) vs) := hKv.at_ hNv.dig hvl (by unfold maxLen; omega)
  have A2 : Hid (At32 w2 p n c xs) := A1.out.below hb2
  have HB2 : Hid (Below w.heap.size w w2) := Below.on hb1 hb2
  have HN0 : Hid (0 < n) := by
    have h1 := HGE.out
    rcases Nat.eq_zero_or_pos n with e | e
    · have h2 := (HX.out.zero_iff B32_one).1 (List.eq_nil_of_length_eq_zero (by rw [HLXY.out.1]; exact e))
      have h3 := HSL.out.2
      have h4 : b = 0 := by omega
      rw [h4, Nat.zero_mul] at h3
      have : 0 < B32 ^ M := Nat.pow_pos B32_pos
      omega
    · exact e
  clear hKv hNv hb2 hb1 A1 B1 hD hvl hlv hgv
  go_wp2_with fail
  refine (rshl_blk A2.out HX.out HN0.out hn s (by have := HS.out.2; omega)).mono ?_
  rintro e w3 ⟨gu, u0, rfl, hgu, hKu, hNu, hlu, hb3⟩
  obtain ⟨A', hA'⟩ : ∃ A', A' = a * 2 ^ s := ⟨_, rfl⟩
  rw [← hA'] at hNu
  have hp2 : 0 < 2 ^ s := Nat.pow_pos (by omega)
  have hul : n ≤ u0.length ∧ u0.length ≤ n + 1 := by
    refine ⟨?_, (hNu.len_le B32_one).2 ?_⟩
    · rcases Nat.lt_or_ge u0.length n with e | e
      · exfalso
        have h1 := (hNu.len_le B32_one (k := n - 1)).1 (by omega)
        have h2 : ¬ a < B32 ^ (n - 1) := fun e3 => by have := (HX.out.len_le B32_one).2 e3; have := HLXY.out.1; have := HN0.out; omega
        have h3 : a * 1 ≤ a * 2 ^ s := Nat.mul_le_mul_left _ hp2
        omega
      · exact e
    · have h1 := (HX.out.len_le B32_one (k := n)).1 (by rw [HLXY.out.1]; exact Nat.le_refl _)
      have h2 : 2 ^ s ≤ B32 := by rw [show B32 = 2 ^ 32 from rfl]; exact Nat.pow_le_pow_right (by omega) (by have := HS.out.2; omega)
      rw [hA', Nat.pow_succ]
      exact Nat.lt_of_lt_of_le (Nat.mul_lt_mul_of_pos_right h1 hp2) (Nat.mul_le_mul_left _ h2)
  have HAV : Hid (A' = a * 2 ^ s) := hA'
  have V3 : Hid (At32 w3 (some ⟨gv, 0, none⟩) (M + 1) (M + 1) vs) := V2.out.below hb3
  have HB3 : Hid (Below w2.heap.size w2 w3) := hb3
  have HO : Hid (w3.ownsRow w2.heap.size 87 1 (.slice (some ⟨gu, 0, none⟩) u0.length u0.length) u0.length (cellsV u0)) := hKu.own hgu (by unfold maxLen; omega)
  have HDU : Hid (Dig B32 u0 ∧ valB B32 u0 = A') := ⟨hNu.dig, hNu.val⟩
  obtain ⟨L0, hL0⟩ : ∃ L0, L0 = u0.length := ⟨_, rfl⟩
  rw [← hL0] at HO hul ⊢
  have HL0 : Hid (u0.length = L0) := hL0.symm
  obtain ⟨i0, hi, hz0, hz1, hz2⟩ := info_parts Tryd.infoU32
  clear hKu hNu hb3 hgu hlu hA' hL0 A2
  go_wp2_with fail
  go_loopg [10] (n + 1 - L0) (fun gk uv wr => ∃ (i Nc : Nat) (pp : Option Addr) (ss : List Nat), i + gk = n + 1 ∧ uv = .slice pp i Nc ∧ Hid (wr.ownsRow w2.heap.size 87 1 (.slice pp i Nc) i (cellsV ss) ∧ ss.length = i ∧ Dig B32 ss ∧ valB B32 ss = A' ∧ Below w2.heap.size w2 wr))
  case atStart => exact ⟨L0, L0, _, u0, by omega, rfl, HO.out, HL0.out, HDU.out.1, HDU.out.2, HB3.out⟩
  case round =>
    obtain ⟨i, Nc, pp, ss, hig, rfl, HR⟩ := hrel
    have hbr := HR.out.2.2.2.2
    cases gk with
    | succ gg =>
      have hle : (i : Int) ≤ (n : Int) := by omega
      have hle2 : i ≤ n := by omega
      have hleb : decide (i ≤ n) = true := decide_eq_true hle2
      have HOA : Hid ((wr.alloc (.cells #[V 0] 87)).ownsRow w2.heap.size 87 1 (.slice pp i Nc) i (cellsV ss)) := HR.out.1.alloc _
      have hsz1 : w2.heap.size ≤ (wr.alloc (.cells #[V 0] 87)).heap.size := by have := hbr.size; simp; omega
      go_wp2_with (at_builtin; refine wpList_append_own _ rfl (.tmp 59) (.tmp 60) 72 rfl w2.heap.size 87 i0 (.int .u32 0) 1 4 Tryd.underlying72 hi hz0 hz1 hz2 rfl (by decide) (.slice pp i Nc) i (cellsV ss) rfl HOA.out ⟨wr.heap.size, 0, none⟩ 1 1 [V 0] rfl rfl (one_cell wr 0) (by intro u hu; simp at hu; subst hu; rfl) (by unfold maxLen; omega) (by omega) hsz1 ?_; intro v3 w3 hw3 hgr3 hnil3)
      obtain ⟨p3, N3, rfl⟩ := own_form hw3
      have HR3 : Hid (w3.ownsRow w2.heap.size 87 1 (.slice p3 (i + 1) N3) (i + 1) (cellsV (ss ++ [0])) ∧ (ss ++ [0]).length = i + 1 ∧ Dig B32 (ss ++ [0]) ∧ valB B32 (ss ++ [0]) = A' ∧ Below w2.heap.size w2 w3) := by
        have hR := HR.out
        refine ⟨?_, by simp [hR.2.1], hR.2.2.1.append (Dig.cons B32_pos (Dig.nil _)), by rw [valB_snoc, Nat.mul_zero, Nat.add_zero]; exact hR.2.2.2.1, ?_⟩
        · have e0 : cellsV (ss ++ [0]) = cellsV ss ++ [V 0] := by unfold cellsV; rw [List.map_append]; rfl
          rw [e0]; exact hw3
        · exact (hR.2.2.2.2.alloc hR.2.2.2.2.size _).grown hgr3 (by have := hR.2.2.2.2.size; simp; omega) (own_base HOA.out)
      clear hw3 hgr3 hnil3
      go_roundg gg
      case measure => omega
      case rel => exact ⟨i + 1, N3, p3, ss ++ [0], by omega, rfl, HR3⟩
    | zero =>
      obtain rfl : i = n + 1 := by omega
      obtain ⟨gu2, rfl, hgu2, hrow, hNc, hNcm⟩ := own_row32 HR.out.1 HR.out.2.1 HR.out.2.2.1 (by omega)
      unfold maxLen at hNcm
      have V4 : Hid (At32 wr (some ⟨gv, 0, none⟩) (M + 1) (M + 1) vs) := V2.out.below hbr
      have HROW : Hid (Row32 wr gu2 0 (n + 1) ss ∧ valB B32 ss = A' ∧ w2.heap.size ≤ gu2 ∧ gu2 < wr.heap.size) := ⟨hrow, HR.out.2.2.2.1, hgu2, World.block_lt_of_cell? wr _ (hrow.cell 0 (by omega))⟩
      have HBR : Hid (Below w.heap.size w wr) := Below.on HB2.out hbr
      have hbr2 : Hid (gv < wr.heap.size ∧ gv < w2.heap.size) := ⟨Nat.lt_of_lt_of_le hgv2 hbr.size, hgv2⟩
      clear HR hrow hgu2 hbr HO
      obtain ⟨L, hL⟩ : ∃ L, L = n - M := ⟨_, rfl⟩
      have hMn : M < n := by
        rcases Nat.lt_or_ge M n with e | e
        · exact e
        · exfalso
          have h1 := (HX.out.len_le B32_one (k := n)).1 (by rw [HLXY.out.1]; exact Nat.le_refl _)
          have h2 : B32 ^ n ≤ B32 ^ M := Nat.pow_le_pow_right B32_pos e
          have h3 : ¬ b < B32 ^ M := fun e3 => by have := (HY.out.len_le B32_one).2 e3; have := HLXY.out.2; omega
          have := HGE.out
          omega
      have hLI : (n : Int) + 1 - ((M : Int) + 1) = (L : Int) := by omega
      have hLb : L ≤ 16384 := by omega
      have hLp : 1 ≤ L := by omega
      have HL : Hid (L = n - M ∧ M < n) := ⟨hL, hMn⟩
      obtain ⟨wo, hwo⟩ : ∃ wo, wo = wr := ⟨_, rfl⟩
      subst hwo
      clear hL hMn
      go_wp2_with (at_make; refine wpList_make_full _ rfl _ _ 72 rfl wo.heap.size 87 i0 (.int .u32 0) 1 Tryd.underlying72 hi hz0 hz1 _ _ _ _ L rfl rfl (by omega) (by omega) (by rw [hz2]; omega) (by unfold maxLen; omega) (Nat.le_refl _) ?_; intro w5 hown hgrow; have hb := made_blk32 hown hgrow; clear hown hgrow)
      have HNM : Hid (n + 1 = L + (M + 1)) := by have := HL.out; show _ = _; omega
      have hblt : Below wo.heap.size wo w5 := hb.2
      have HG : Hid (gv ≠ gu2 ∧ gv ≠ wo.heap.size ∧ wo.heap.size ≠ gu2 ∧ w2.heap.size ≤ gu2) := by
        have h1 := HROW.out.2.2
        have h2 := hbr2.out
        exact ⟨by omega, by omega, by omega, h1.1⟩
      have V5 : Hid (At32 w5 (some ⟨gv, 0, none⟩) (M + 1) (M + 1) vs) := V4.out.below hblt
      have HD0 : Hid (DigRel32 w5 wo.heap.size gu2 L (M + 1) A' D 0 (List.replicate L 0) ss w5) := by
        have hr := hb.1.row (Dig.replicate B32 L B32_pos)
        rw [List.length_replicate] at hr
        have hru := HROW.out.1.below2 hblt HROW.out.2.2.2
        rw [HNM.out] at hru
        refine ⟨fun B _ _ => Below.refl _ _, hr, hru, fun _ _ _ _ => rfl, ?_, ?_⟩
        · rw [Nat.sub_zero]
          have hs9 := valB_split B32 ss L (by rw [hru.len]; omega)
          rw [HROW.out.2.1] at hs9
          have hA9 : A' < B32 ^ L * D := by
            have h1 := (HX.out.len_le B32_one (k := n)).1 (by rw [HLXY.out.1]; exact Nat.le_refl _)
            have h3 : B32 ^ M ≤ b := by
              rcases Nat.lt_or_ge b (B32 ^ M) with e | e
              · have := (HY.out.len_le B32_one).2 e; have := HLXY.out.2; omega
              · exact e
            have h4 : B32 ^ n = B32 ^ L * B32 ^ M := by rw [← Nat.pow_add]; congr 1; have := HL.out; omega
            have h5 : B32 ^ L * B32 ^ M ≤ B32 ^ L * b := Nat.mul_le_mul_left _ h3
            rw [HAV.out, HVL.out.2, ← Nat.mul_assoc]
            exact Nat.mul_lt_mul_of_pos_right (by omega) (Nat.pow_pos (by omega))
          have h6 : B32 ^ L * valB B32 (ss.drop L) < B32 ^ L * D := by omega
          exact Nat.lt_of_mul_lt_mul_left h6
        · rw [Nat.sub_zero, List.drop_of_length_le (by rw [List.length_replicate]; exact Nat.le_refl _), valB_nil, Nat.mul_zero, Nat.zero_mul, Nat.add_zero]; exact HROW.out.2.1
      have HB5 : Hid (Below w.heap.size w w5) := Below.on HBR.out hblt
      have HV0 : Hid (0 < vs.getD (M + 1 - 1) 0 ∧ valB B32 vs = D ∧ D < B32 ^ (M + 1) ∧ 0 < D) := by
        have h1 := HNV.out
        have h2 := HVL.out
        have h3 := HSL.out
        have hDlt : D < B32 ^ (M + 1) := by rw [h2.2]; exact h3.1
        have hDge : B32 ^ M ≤ D := by rw [h2.2]; exact h3.2
        have hP9 : 0 < B32 ^ M := Nat.pow_pos B32_pos
        refine ⟨?_, h1.val, hDlt, by omega⟩
        rw [Nat.add_sub_cancel]
        rcases Nat.eq_zero_or_pos (vs.getD M 0) with e | e
        · exfalso
          have h4 : D = valB B32 (vs.take M) := by
            rw [← h1.val, valB_split B32 vs M (by omega), valB_drop B32 vs M (by omega), e, List.drop_of_length_le (by omega), valB_nil, Nat.mul_zero, Nat.add_zero, Nat.mul_zero, Nat.add_zero]
          have h5 := valB_lt B32_pos (h1.dig.take M)
          rw [List.length_take, h2.1, Nat.min_eq_left (by omega)] at h5
          omega
        · exact e
      obtain ⟨gq2, hgq2⟩ : ∃ g, g = wo.heap.size := ⟨_, rfl⟩
      have HGQ : Hid (w.heap.size ≤ gq2 ∧ w.heap.size ≤ gu2) := ⟨by rw [hgq2]; exact HBR.out.size, Nat.le_trans HB2.out.size HG.out.2.2.2⟩
      rw [← hgq2] at HD0 HG ⊢
      clear hb hblt hgq2 HROW V4 hLI
      go_loopg [13] L (fun gk jv wr => ∃ (k : Nat) (z : Int) (qs rs : List Nat), k + gk = L ∧ jv = .int .i64 z ∧ z = (gk : Int) - 1 ∧ Hid (DigRel32 w5 gq2 gu2 L (M + 1) A' D k qs rs wr))
      case atStart => exact ⟨0, _, _, ss, by omega, rfl, by omega, HD0⟩
      case round =>
        obtain ⟨k, z, qs, rs, hkg, rfl, hz, HR⟩ := hrel
        cases gk with
        | zero =>
          obtain rfl : k = L := by omega
          obtain rfl : z = -1 := by omega
          have hsum := HR.out.sum
          have hltD := HR.out.lt
          rw [Nat.sub_self, List.drop_zero] at hltD
          rw [Nat.sub_self, List.drop_zero, Nat.pow_zero, Nat.one_mul] at hsum
          have hquo : valB B32 qs = A' / D ∧ valB B32 rs = A' % D := by
            have h1 := quo_unique (n := A') (q := valB B32 qs) (y := D) (r := valB B32 rs) (by omega) hltD
            exact h1
          have hAD : A' / D = a / b ∧ A' % D = a % b * 2 ^ s := by
            rw [HAV.out, HVL.out.2]
            exact ⟨Nat.mul_div_mul_right a b (Nat.pow_pos (by omega)), by rw [Nat.mul_mod_mul_right]⟩
          have HQU : Hid (valB B32 qs = a / b ∧ valB B32 rs = a % b * 2 ^ s) := ⟨by rw [hquo.1, hAD.1], by rw [hquo.2, hAD.2]⟩
          have HTK : Hid (valB B32 (rs.take (M + 1)) = a % b * 2 ^ s) := by
            show _ = _
            rw [← HQU.out.2]
            have h1 := valB_split B32 rs (M + 1) (by rw [HR.out.rowr.len]; omega)
            rcases Nat.eq_zero_or_pos (valB B32 (rs.drop (M + 1))) with e | e
            · rw [e, Nat.mul_zero, Nat.add_zero] at h1; exact h1.symm
            · exfalso
              have h2 : B32 ^ (M + 1) * 1 ≤ B32 ^ (M + 1) * valB B32 (rs.drop (M + 1)) := Nat.mul_le_mul_left _ e
              have := HV0.out.2.2.1
              omega
          have AQ : Hid (At32 wr (some ⟨gq2, 0, none⟩) k k qs) := HR.out.rowq.at_ (Nat.le_refl _) (by unfold maxLen; omega)
          have AU0 : At32 wr (some ⟨gu2, 0, none⟩) (n + 1) Nc rs := by
            have h1 := HR.out.rowr
            rw [← HNM.out] at h1
            exact h1.at_ hNc (by unfold maxLen; omega)
          have AU : Hid (At32 wr (some ⟨gu2, 0, none⟩) (M + 1) Nc (rs.take (M + 1))) := AU0.take (M + 1) (by have := HL.out; omega) Nc (by have := HL.out; omega) (by unfold maxLen; omega)
          have HBW : Hid (Below w.heap.size w wr) := Below.trans HB5.out (HR.out.bel w.heap.size HGQ.out.1 HGQ.out.2)
          have hMN : M + 1 ≤ n := by have := HL.out; omega
          have hMc : M + 1 ≤ Nc := by have := HL.out; omega
          clear hsum hltD hquo hAD AU0 hz hkg HR
          go_wp2_with fail
          obtain ⟨wq, hwq⟩ : ∃ wq, wq = wr.drew := ⟨_, rfl⟩
          have hbd : Below wr.heap.size wr wq := by rw [hwq]; exact Below.drew (Below.refl _ _)
          have AQ2 : Hid (At32 wq (some ⟨gq2, 0, none⟩) k k qs) := AQ.out.below hbd
          have AU2 : Hid (At32 wq (some ⟨gu2, 0, none⟩) (M + 1) Nc (rs.take (M + 1))) := AU.out.below hbd
          have HBW2 : Hid (Below w.heap.size w wq) := Below.on HBW.out hbd
          clear AQ AU HBW hbd
          have AQ := AQ2
          have AU := AU2
          have HBW := HBW2
          clear AQ2 AU2 HBW2
          refine wp_region_J (fun _ => True) (by kernel_rfl) ?_
          rw [← hwq]
          clear hwq
          refine wpJ_take (i := 0) (v := ?va0) rfl (by kernel_rfl) (by kernel_rfl) (by kernel_rfl) (fun _ _ _ h => h) (by kernel_rfl) ?hya0 trivial ?resta0
          case hya0 => (intro W' hJ; go_simp; first | done | with_reducible rfl)
          refine wpJ_take (i := 2) (v := ?va2) rfl (by kernel_rfl) (by kernel_rfl) (by kernel_rfl) (fun _ _ _ h => h) (by kernel_rfl) ?hya2 trivial ?resta2
          case hya2 => (intro W' hJ; go_simp; first | done | with_reducible rfl)
          refine wpJ_take (i := 3) (v := ?va3) rfl (by kernel_rfl) (by kernel_rfl) (by kernel_rfl) (fun _ _ _ h => h) (by kernel_rfl) ?hya3 trivial ?resta3
          case hya3 => (intro W' hJ; go_simp; first | done | with_reducible rfl)
          refine wpJ_take (i := 4) (v := ?va4) rfl (by kernel_rfl) (by kernel_rfl) (by kernel_rfl) (fun _ _ _ h => h) (by kernel_rfl) ?hya4 trivial ?resta4
          case hya4 => (intro W' hJ; go_simp; first | done | (rw [if_pos ⟨by omega, by omega⟩]) | with_reducible rfl)
          refine wpJ_take (i := 6) (v := ?va6) rfl (by kernel_rfl) (by kernel_rfl) (by kernel_rfl) (fun _ _ _ h => h) (by kernel_rfl) ?hya6 trivial ?resta6
          case hya6 => (intro W' hJ; go_simp; first | done | with_reducible rfl)
          refine wpJ_on 1 rfl fun KJ hK => ?_
          go_simp
          refine (rnorm_any AQ.out (by omega)).mono ?_
          rintro e w7 ⟨g7, rfl, hg7, hblk7, hb7⟩
          have hd7 : Dig B32 (trimL qs) := Dig.trimL AQ.out.dig
          have hl7 := trimL_length_le qs
          rw [AQ.out.len] at hl7
          have A7 : Hid (At32 w7 (some ⟨g7, 0, none⟩) (trimL qs).length (trimL qs).length (trimL qs)) := hblk7.at_ hd7 rfl (by unfold maxLen; omega)
          have N7 : Hid (Nf B32 (trimL qs) (a / b) ∧ (trimL qs).length ≤ n) := ⟨by have h1 := Nf.trim AQ.out.dig; rw [HQU.out.1] at h1; exact h1, by have := HL.out; omega⟩
          have AU7 : Hid (At32 w7 (some ⟨gu2, 0, none⟩) (M + 1) Nc (rs.take (M + 1))) := AU.out.below hb7
          have HB7 : Hid (Below w.heap.size w w7) := Below.on HBW.out hb7
          generalize trimL qs = q7 at *
          refine hK _ _ trivial ?_
          clear hK hblk7 hb7 hg7 hd7 hl7 AQ AU HBW
          refine wpJ_on 5 rfl fun KJ hK => ?_
          go_simp
          refine (rnorm_any AU7.out (by omega)).mono ?_
          rintro e w8 ⟨g8, rfl, hg8, hblk8, hb8⟩
          have hl8 := trimL_length_le (rs.take (M + 1))
          rw [AU7.out.len] at hl8
          have A8 : Hid (At32 w8 (some ⟨g8, 0, none⟩) (trimL (rs.take (M + 1))).length (trimL (rs.take (M + 1))).length (trimL (rs.take (M + 1)))) := hblk8.at_ (Dig.trimL AU7.out.dig) rfl (by unfold maxLen; omega)
          have N8 : Hid (Nf B32 (trimL (rs.take (M + 1))) (a % b * 2 ^ s) ∧ (trimL (rs.take (M + 1))).length ≤ M + 1) := ⟨by have h1 := Nf.trim AU7.out.dig; rw [HTK.out] at h1; exact h1, hl8⟩
          have A78 : Hid (At32 w8 (some ⟨g7, 0, none⟩) q7.length q7.length q7) := A7.out.below hb8
          have HB8 : Hid (Below w.heap.size w w8) := Below.on HB7.out hb8
          generalize trimL (rs.take (M + 1)) = u8 at *
          refine hK _ _ trivial ?_
          clear hK hblk8 hb8 hg8 hl8 A7 AU7 HB7
          refine wpJ_on 7 rfl fun KJ hK => ?_
          go_simp
          refine (rshr_all A8.out N8.out.1 (by have := N8.out.2; omega) s (by have := HS.out.2; omega)).mono ?_
          rintro e w9 ⟨p9, m9, z9, rfl, hA9, hN9, hl9, hb9⟩
          have A9 : Hid (At32 w9 p9 m9 m9 z9) := hA9
          have N9 : Hid (Nf B32 z9 (a % b) ∧ m9 ≤ n) := ⟨by rw [Nat.mul_div_cancel _ (Nat.pow_pos (by omega))] at hN9; exact hN9, by have := N8.out.2; omega⟩
          have A79 : Hid (At32 w9 (some ⟨g7, 0, none⟩) q7.length q7.length q7) := A78.out.below hb9
          have HB9 : Hid (Below w.heap.size w w9) := Below.on HB8.out hb9
          refine hK _ _ trivial ?_
          clear hK hA9 hN9 hl9 hb9 A8 A78 HB8
          refine wpJ_take (i := 8) (v := ?va8) rfl (by kernel_rfl) (by kernel_rfl) (by kernel_rfl) (fun _ _ _ h => h) (by kernel_rfl) ?hya8 trivial ?resta8
          case hya8 => (intro W' hJ; go_simp; first | done | with_reducible rfl)
          refine wpJ_take (i := 9) (v := ?va9) rfl (by kernel_rfl) (by kernel_rfl) (by kernel_rfl) (fun _ _ _ h => h) (by kernel_rfl) ?hya9 trivial ?resta9
          case hya9 => (intro W' hJ; go_simp; first | done | with_reducible rfl)
          refine wpJ_done (by kernel_rfl) ?_ _
          go_wp2_with fail
          go_ret2
          exact ⟨_, _, q7, _, _, z9, rfl, A79.out, N7.out.1, A9.out, N9.out.1, N7.out.2, N9.out.2, HB9.out⟩
        | succ gg =>
          obtain rfl : z = (gg : Int) := by omega
          obtain ⟨wp, hwp⟩ : ∃ wp, wp = wr := ⟨_, rfl⟩
          subst hwp
          obtain ⟨a9, ws, ha9, hws, hrow, hwlt, hrs, hzz⟩ := HR.out.window (by omega) HV0.out.2.2.1
          obtain rfl : a9 = gg := by omega
          have HWIN : Hid (valB B32 rs = valB B32 (rs.take a9) + B32 ^ a9 * valB B32 ws ∧ valB B32 (rs.drop (a9 + (M + 1 + 1))) = 0 ∧ Row32 wp gu2 a9 (M + 1 + 1) ws ∧ valB B32 ws < B32 * D) := ⟨hrs, hzz, hrow, hwlt⟩
          have V6 : Hid (At32 wp (some ⟨gv, 0, none⟩) (M + 1) (M + 1) vs) := V5.out.cells_of (fun o => HR.out.cell gv o HG.out.2.1 HG.out.1)
          have hgL : a9 < L := by omega
          have hcq : wp.cell? ⟨gq2, a9, none⟩ = some (V (qs.getD a9 0)) := by have := HR.out.rowq.cell a9 hgL; rw [Nat.zero_add] at this; exact this
          have hfq : wp.frozen? ⟨gq2, a9, none⟩ = false := by have := HR.out.rowq.frozen a9 hgL; rw [Nat.zero_add] at this; exact this
          have hj1 : a9 + (M + 1) + 1 ≤ n + 1 := by have := HNM.out; omega
          have hj2 : a9 + (M + 1) + 1 ≤ Nc := by omega
          have HAK : Hid (a9 = L - 1 - k ∧ k < L) := ⟨by omega, by omega⟩
          clear hws hrow hwlt hrs hzz ha9 hz hkg
          go_wp2_with fail
          rw [show a9 + (M + 1) + 1 - a9 = M + 1 + 1 by omega]
          refine (rdigit_any HWIN.out.2.2.1 (by omega) (by unfold maxLen; omega) V6.out HG.out.1 (by omega) (by omega) (by rw [HV0.out.2.1]; exact HWIN.out.2.2.2) HV0.out.1).mono ?_
          rintro e w6 ⟨ws', rfl, hwr6, hrow6, hval6⟩
          rw [HV0.out.2.1] at hval6 ⊢
          obtain ⟨q9, hq9⟩ : ∃ q9, q9 = valB B32 ws / D := ⟨_, rfl⟩
          rw [← hq9]
          have hq9b : q9 < B32 := by rw [hq9]; exact Nat.div_lt_of_lt_mul (by rw [Nat.mul_comm]; exact HWIN.out.2.2.2)
          have hcq6 : w6.cell? ⟨gq2, a9, none⟩ = some (V (qs.getD a9 0)) := (hwr6.cell gq2 a9 (.inl HG.out.2.2.1)).trans hcq
          have hfq6 : w6.frozen? ⟨gq2, a9, none⟩ = false := (hwr6.frozen _).trans hfq
          have HNX : Hid (DigRel32 w5 gq2 gu2 L (M + 1) A' D (k + 1) (qs.set a9 q9) (winPut rs ws' a9) (w6.setCell ⟨gq2, a9, none⟩ (V q9))) := HR.out.step HAK.out.2 HG.out.2.2.1 HAK.out.1 HWIN.out.1 HWIN.out.2.1 HV0.out.2.2.2 hq9 hq9b hval6 hwr6 hrow6
          clear hcq hfq hq9 hq9b hwr6 hrow6 hval6
          go_wp2_with fail
          go_roundg a9
          case measure => omega
          case rel => exact ⟨k + 1, _, qs.set a9 q9, winPut rs ws' a9, by have := HAK.out; omega, rfl, by omega, HNX⟩
end Go.Proofs.YtkdpafliibclnaaDoor
namespace Go.Proofs.YtkdpafliibclnaaDoor
open Go.RowKit
set_option maxRecDepth 20000
set_option maxHeartbeats 0
structure DivRel (w : World) (g n : Nat) (zs : List Nat) (v k re : Nat) (dk : List Nat) (wr : World) : Prop where
  wrs : ∀ B, B ≤ g → Below B w wr
  row : Row wr g 0 n dk
  lo : dk.take (n - k) = zs.take (n - k)
  rlt : re < v
  sum : valB B64 (zs.drop (n - k)) = valB B64 (dk.drop (n - k)) * v + re
theorem DivRel.step {w : World} {g n : Nat} {zs : List Nat} {v k re : Nat} {dk : List Nat} {wr wr' : World} (h : DivRel w g n zs v k re dk wr) (hk : k < n) (hz : zs.length = n) {x q r : Nat}
    (hx : x = dk.getD (n - 1 - k) 0) (hq : re * B64 + x = q * v + r) (hr : r < v) (hw : ∀ B, B ≤ g → Below B w wr') (hrow : Row wr' g 0 n (dk.set (n - 1 - k) q)) : DivRel w g n zs v (k + 1) r (dk.set (n - 1 - k) q) wr' := by
  have hl := h.row.len
  have e : n - (k + 1) = n - 1 - k := by omega
  have e2 : n - 1 - k + 1 = n - k := by omega
  have hxz : x = zs.getD (n - 1 - k) 0 := hx.trans (getD_of_take h.lo (by omega))
  refine ⟨hw, hrow, ?_, hr, ?_⟩
  · rw [e, take_set_at]; exact take_of_take h.lo (by omega)
  · rw [e, drop_set_at dk _ q (by omega), valB_drop _ zs (n - 1 - k) (by omega), ← hxz, valB_cons, e2, h.sum, Nat.add_mul, Nat.mul_add]
    have e3 : B64 * (valB B64 (dk.drop (n - k)) * v) = B64 * valB B64 (dk.drop (n - k)) * v := by rw [Nat.mul_assoc]
    rw [e3, Nat.mul_comm B64 re]
    omega

theorem divw_nf {p : Option Addr} {m c : Nat} {xs : List Nat} {a : Nat} {w : World} (h : At w p m c xs) (hx : Nf B64 xs a) (hm : m ≤ 8192) (v : Nat) (hv : v < B64) (hv0 : v ≠ 0) :
    Calls Tryd.prog 45 #[.slice p m c, U v] w fun e w' =>
      (∃ p' m' zs, e = .returned (.tuple #[.slice p' m' m', U (a % v), .int .i64 0]) ∧ Own w.heap.size w' p' m' zs ∧ Nf B64 zs (a / v) ∧ m' ≤ 8192) ∧ Below w.heap.size w w' := by
  have fx := hx.form (by rw [h.len]; exact hm)
  have hl := h.len
  have HX : Hid (Nf B64 xs a) := hx
  have hv0' : ((v : Int) == 0) = false := by simp; omega
  clear hx
  go_enter Tryd.func45, Tryd.ntmps45
  go_wp2_with fail
  refine (form_true h fx).mono ?_
  rintro e w' ⟨rfl, hw⟩
  obtain rfl := hw.symm
  clear hw fx
  go_wp2_with fail
  refine (copied_any h m (Nat.le_refl _) (by omega)).mono ?_
  rintro e w1 ⟨g, rfl, hg, hblk, hb⟩
  rw [Nat.sub_self, List.replicate_zero, List.append_nil] at hblk
  have hr := hblk.row HX.out.dig
  rw [hl] at hr
  go_wp2_with fail
  go_loopw [8, 9, 10, 22] (fun rv _ _ i wr => ∃ (k re : Nat) (dk : List Nat), k ≤ m ∧ i = .int .i64 k ∧ rv = U re ∧ DivRel w1 g m xs v k re dk wr) (fun _ _ _ i _ => m - (intOf i).toNat)
  case atStart => exact ⟨0, 0, xs, Nat.zero_le _, rfl, rfl, ⟨fun B _ => Below.refl _ _, hr, rfl, by omega, by rw [Nat.sub_zero, List.drop_of_length_le (by omega)]; simp [valB]⟩⟩
  case round =>
    obtain ⟨k, re, dk, hk, rfl, rfl, hR⟩ := hrel
    by_cases hlt : k < m
    · obtain ⟨x, hxx⟩ : ∃ x, x = dk.getD (m - 1 - k) 0 := ⟨_, rfl⟩
      have hcx : wr.cell? ⟨g, m - 1 - k, none⟩ = some (U x) := by
        have := hR.row.cell (m - 1 - k) (by omega)
        rw [← hxx, Nat.zero_add] at this; exact this
      have hfx : wr.frozen? ⟨g, m - 1 - k, none⟩ = false := by
        have := hR.row.frozen (m - 1 - k) (by omega)
        rw [Nat.zero_add] at this; exact this
      have hxb : x < B64 := by rw [hxx]; exact hR.row.dig.getD B64_pos _
      have hrv := hR.rlt
      have HR : Hid (DivRel w1 g m xs v k re dk wr) := hR
      have HXX : Hid (x = dk.getD (m - 1 - k) 0) := hxx
      clear hR hxx hr
      go_wp2_with fail
      refine (div64_any re x v _ hrv hv hxb).mono ?_
      rintro e w2 ⟨rfl, r, hw⟩
      obtain rfl := hw.symm
      clear hw
      obtain ⟨q, hq⟩ : ∃ q, q = (re * B64 + x) / v := ⟨_, rfl⟩
      obtain ⟨r2, hr2⟩ : ∃ r2, r2 = (re * B64 + x) % v := ⟨_, rfl⟩
      rw [← hq, ← hr2]
      have hqr : re * B64 + x = q * v + r2 := by rw [hq, hr2, Nat.mul_comm ((re * B64 + x) / v)]; exact (Nat.div_add_mod _ _).symm
      have hr2v : r2 < v := by rw [hr2]; exact Nat.mod_lt _ (by omega)
      have hqb : q < B64 := by
        rw [hq]
        refine (Nat.div_lt_iff_lt_mul (by omega)).2 ?_
        have : (re + 1) * B64 ≤ v * B64 := Nat.mul_le_mul_right _ hrv
        rw [Nat.add_mul, Nat.one_mul, Nat.mul_comm v] at this
        omega
      have HQR : Hid (re * B64 + x = q * v + r2) := hqr
      clear hq hr2 hqr
      go_wp2_with fail
      go_roundw
      case rel =>
        refine ⟨k + 1, r2, dk.set (m - 1 - k) q, by omega, by go_num, rfl, HR.out.step hlt hl HXX.out HQR.out hr2v (fun B hB => ?_) ?_⟩
        · exact bDrewN ((HR.out.wrs B hB).setCell hB _) r
        · have h1 := HR.out.row.set (m - 1 - k) q (by omega) hqb
          rw [Nat.zero_add] at h1
          exact h1.drewN r
      case measure => simp [intOf]; omega
    · obtain rfl : k = m := by omega
      have HR : Hid (DivRel w1 g k xs v k re dk wr) := hR
      clear hR hr
      have hh := HR.out
      have A3 := hh.row.at_ (Nat.le_refl _) (by unfold maxLen; omega)
      have hs := hh.sum
      rw [Nat.sub_self, List.drop_zero, List.drop_zero, HX.out.val] at hs
      obtain ⟨hq, hre⟩ := quo_unique hs hh.rlt
      have hN := Nf.trim hh.row.dig
      rw [hq] at hN
      have HV : Hid (Nf B64 (trimL dk) (a / v)) := hN
      have HRE : Hid (re = a % v) := hre
      have hb3 : Below w.heap.size w wr := hb.trans (hh.wrs _ hg)
      have hrow := hh.row
      clear hs hq hre hN hh
      go_wp2_with fail
      refine (trim_any A3).mono ?_
      rintro e w4 ⟨p', m', rfl, hm', hp', hw⟩
      obtain rfl := hw.symm
      have HM : Hid (m' = (trimL dk).length) := hm'
      clear hw hm'
      go_wp2_with fail
      go_ret3
      have e1 := HM.out
      have e2 := trimL_length_le dk
      have e3 := hrow.len
      exact ⟨⟨p', m', trimL dk, by rw [HRE.out]; rfl, hrow.own hg e1 hp', HV.out, by omega⟩, hb3⟩
theorem Wr.row_above {w w' : World} {g m n : Nat} {xs : List Nat} (hb : Blk w g xs) (h : Wr g 0 m w w') (hn : xs.length = n) (hm : m < n) : w'.cell? ⟨g, m, none⟩ = some (U (xs.getD m 0)) ∧ w'.frozen? ⟨g, m, none⟩ = false := by
  constructor
  · rw [h.cell g m (by omega)]; exact hb.cell m (by omega)
  · rw [h.frozen]; exact hb.frozen m
theorem Blk.row_take {w : World} {g : Nat} {xs : List Nat} (h : Blk w g xs) (hd : Dig B64 xs) (m : Nat) (hm : m ≤ xs.length) : Row w g 0 m (xs.take m) := (h.row hd).take m hm

theorem mulw_nf {p : Option Addr} {m c : Nat} {xs : List Nat} {a : Nat} {w : World} (h : At w p m c xs) (hx : Nf B64 xs a) (hm : m ≤ 8192) (v : Nat) (hv : v < B64) :
    Calls Tryd.prog 44 #[.slice p m c, U v] w fun e w' => Ans w.heap.size w' e (a * v) ∧ Below w.heap.size w w' := by
  have fx := hx.form (by rw [h.len]; exact hm)
  have hl := h.len
  have HX : Hid (Nf B64 xs a) := hx
  clear hx
  go_enter Tryd.func44, Tryd.ntmps44
  go_wp2_with fail
  refine (form_true h fx).mono ?_
  rintro e w' ⟨rfl, hw⟩
  obtain rfl := hw.symm
  clear hw fx
  obtain ⟨i0, hi, hz0, hz1, hz2⟩ := info_parts Tryd.infoU64
  go_wp2_with (at_make; refine wpList_make_full _ rfl _ _ 24 rfl w.heap.size 23 i0 (.int .u64 0) 1 Tryd.underlying24 hi hz0 hz1 _ _ _ _ (m + 1) rfl rfl (by omega) (by omega) (by rw [hz2]; omega) (by unfold maxLen; omega) (Nat.le_refl _) ?_; intro w1 hown hgrow; have hb := made_blk hown hgrow; clear hown hgrow)
  obtain ⟨hblk, hb1⟩ := hb
  have hdz : Dig B64 (List.replicate (m + 1) 0) := Dig.replicate _ _ B64_pos
  have hr := hblk.row_take hdz m (by simp)
  rw [List.take_replicate, Nat.min_eq_left (by omega)] at hr
  refine (amul_any w.heap.size 0 (m + 1) (m + 1) _ p m c xs v _ hr (by omega) (Nat.le_refl _) (by omega) (h.below hb1) hv (fun g2 off2 hn hp => .inl (h.fresh (Nat.le_refl _) g2 off2 hn hp))).mono ?_
  rintro e w2 ⟨cy, zs, rfl, hcy, hwr, hrow, hsum⟩
  obtain ⟨hcm, hfm⟩ := hwr.row_above hblk (n := m + 1) (by simp) (by omega)
  have hb2 : Below w.heap.size w w2 := hb1.trans (hwr.below (Nat.le_refl _))
  rw [valB_replicate, Nat.zero_add, HX.out.val] at hsum
  have HS : Hid (valB B64 zs + B64 ^ m * cy = a * v) := hsum
  clear hsum hwr hb1 hblk hr hdz
  go_wp2_with fail
  have hrow3 : Row (w2.setCell ⟨w.heap.size, m, none⟩ (U cy)) w.heap.size 0 (m + 1) (zs ++ [cy]) := by
    have hW : Wr w.heap.size (0 + m) 1 w2 (w2.setCell ⟨w.heap.size, m, none⟩ (U cy)) := (Wr.refl w.heap.size (0 + m) 1 w2).setCell m ⟨by omega, by omega⟩ _
    have hrow' : Row (w2.setCell ⟨w.heap.size, m, none⟩ (U cy)) w.heap.size 0 m zs :=
      ⟨hrow.len, hrow.dig, fun j hj => by rw [hW.cell _ _ (by omega)]; exact hrow.cell j hj, fun j hj => by rw [World.frozen?_setCell]; exact hrow.frozen j hj⟩
    refine hrow'.snoc ?_ ?_ hcy
    · rw [Nat.zero_add]; exact World.cell?_setCell_same _ _ _ hcm
    · rw [Nat.zero_add, World.frozen?_setCell]; exact hfm
  have hb3 : Below w.heap.size w (w2.setCell ⟨w.heap.size, m, none⟩ (U cy)) := hb2.setCell (Nat.le_refl _) _
  generalize w2.setCell ⟨w.heap.size, m, none⟩ (U cy) = w3 at *
  have A3 := hrow3.at_ (Nat.le_refl _) (by unfold maxLen; omega)
  have hval : valB B64 (zs ++ [cy]) = a * v := by rw [valB_snoc, hrow.len]; exact HS.out
  have hN := Nf.trim hrow3.dig
  rw [hval] at hN
  have HV : Hid (Nf B64 (trimL (zs ++ [cy])) (a * v)) := hN
  clear hval hN hcm hfm hrow
  generalize zs ++ [cy] = us at *
  refine (fitted_any A3).mono ?_
  rintro e w4 hres
  rcases hres with ⟨hle, ⟨p', m', rfl, hm', hp'⟩, hw⟩ | ⟨hgt, rfl, hw⟩
  · obtain rfl := hw.symm
    have HM : Hid (m' = (trimL us).length) := hm'
    clear hw hm'
    go_wp2_with fail
    go_ret2
    have e1 := HM.out
    exact ⟨.inl ⟨HV.out.lim.1 hle, p', m', trimL us, rfl, hrow3.own (Nat.le_refl _) e1 hp', HV.out, by omega⟩, hb3⟩
  · obtain rfl := hw.symm
    clear hw
    go_wp2_with fail
    go_ret2
    refine ⟨.inr ⟨?_, rfl⟩, hb3⟩
    have := mt HV.out.lim.2 (by omega)
    omega
end Go.Proofs.YtkdpafliibclnaaDoor
namespace Go.Proofs.YtkdpafliibclnaaDoor
open Go.RowKit Go.Shelf
set_option maxRecDepth 20000
set_option maxHeartbeats 0
theorem divw_zero1 {p : Option Addr} {m c : Nat} {xs : List Nat} {a : Nat} {w : World} (h : At w p m c xs) (hx : Nf B64 xs a) (hm : m ≤ 8192) :
    Calls Tryd.prog 45 #[.slice p m c, .int .u64 0] w fun e w' => e = .returned (.tuple #[.slice none 0 0, .int .u64 0, .int .i64 4]) ∧ w' = w := by
  have fx := hx.form (by rw [h.len]; exact hm)
  go_enter Tryd.func45, Tryd.ntmps45
  go_wp2_with fail
  refine (form_true h fx).mono ?_
  rintro e w' ⟨rfl, hw⟩
  obtain rfl := hw.symm
  clear hw fx
  go_wp2_with fail
  go_ret3
  exact ⟨rfl, rfl⟩

theorem rdivmod_any {p q : Option Addr} {n m c d : Nat} {xs ys : List Nat} {a b : Nat} {w : World} (h : At32 w p n c xs) (k : At32 w q m d ys) (hx : Nf B32 xs a) (hy : Nf B32 ys b) (hn : n ≤ 16384) (hm : m ≤ 16384) (hb : b ≠ 0) :
    Calls Tryd.prog 67 #[.slice p n c, .slice q m d] w fun e w' => ∃ p1 m1 z1 p2 m2 z2, e = .returned (.tuple #[.slice p1 m1 m1, .slice p2 m2 m2]) ∧ At32 w' p1 m1 m1 z1 ∧ Nf B32 z1 (a / b) ∧ At32 w' p2 m2 m2 z2 ∧ Nf B32 z2 (a % b) ∧ m1 ≤ n ∧ m2 ≤ n ∧ Below w.heap.size w w' := by
  rcases Nat.lt_or_ge a b with hlt | hge
  · exact rdivmod_lt h k hx hy hn (by omega) hb hlt
  · by_cases h1 : m = 1
    · exact rdivmod_one h k hx hy hn hm hb hge h1
    · have hm0 : m ≠ 0 := fun e => hb ((hy.zero_iff B32_one).1 (List.eq_nil_of_length_eq_zero (by rw [k.len]; exact e)))
      exact rdivmod_big h k hx hy hn hm hb hge (by omega)
def MwIs (xs : List Nat) (x : Nat) (us : List Nat) (f : Int) : Prop := (formB xs = false ∧ us = [] ∧ f = 2) ∨ (formB xs = true ∧ DocIs (valB B64 xs * x) us f)
theorem MwIs.inj {xs us us' : List Nat} {x : Nat} {f f' : Int} (h : MwIs xs x us f) (k : MwIs xs x us' f') : us = us' ∧ f = f' := by
  rcases h with ⟨h1, rfl, rfl⟩ | ⟨h1, h2⟩ <;> rcases k with ⟨k1, rfl, rfl⟩ | ⟨k1, k2⟩
  · exact ⟨rfl, rfl⟩
  · rw [h1] at k1; cases k1
  · rw [h1] at k1; cases k1
  · exact DocIs.inj h2 k2
theorem MwIs.er {xs us : List Nat} {x : Nat} {f : Int} (h : MwIs xs x us f) : f = 0 ∨ f = 1 ∨ f = 2 ∨ f = 3 ∨ f = 4 ∨ f = 5 := by
  rcases h with ⟨_, _, rfl⟩ | ⟨_, h2⟩
  · simp
  · rcases h2.er with e | e <;> simp [e]
def DwIs (xs : List Nat) (x : Nat) (us : List Nat) (r : Nat) (f : Int) : Prop :=
  (formB xs = false ∧ us = [] ∧ r = 0 ∧ f = 2) ∨ (formB xs = true ∧ x = 0 ∧ us = [] ∧ r = 0 ∧ f = 4) ∨ (formB xs = true ∧ x ≠ 0 ∧ Nf B64 us (valB B64 xs / x) ∧ r = valB B64 xs % x ∧ f = 0)
theorem DwIs.inj {xs us us' : List Nat} {x r r' : Nat} {f f' : Int} (h : DwIs xs x us r f) (k : DwIs xs x us' r' f') : us = us' ∧ r = r' ∧ f = f' := by
  rcases h with ⟨h1, rfl, rfl, rfl⟩ | ⟨h1, h2, rfl, rfl, rfl⟩ | ⟨h1, h2, h3, rfl, rfl⟩ <;> rcases k with ⟨k1, rfl, rfl, rfl⟩ | ⟨k1, k2, rfl, rfl, rfl⟩ | ⟨k1, k2, k3, rfl, rfl⟩
  · exact ⟨rfl, rfl, rfl⟩
  · rw [h1] at k1; cases k1
  · rw [h1] at k1; cases k1
  · rw [h1] at k1; cases k1
  · exact ⟨rfl, rfl, rfl⟩
  · exact absurd h2 k2
  · rw [h1] at k1; cases k1
  · exact absurd k2 h2
  · exact ⟨h3.inj B64_one k3, rfl, rfl⟩
theorem DwIs.er {xs us : List Nat} {x r : Nat} {f : Int} (h : DwIs xs x us r f) : f = 0 ∨ f = 1 ∨ f = 2 ∨ f = 3 ∨ f = 4 ∨ f = 5 := by
  rcases h with ⟨_, _, _, rfl⟩ | ⟨_, _, _, _, rfl⟩ | ⟨_, _, _, _, rfl⟩ <;> simp
theorem rfits_pos {p : Option Addr} {n c : Nat} {zs : List Nat} {v : Nat} {w : World} (h : At32 w p n c zs) (hx : Nf B32 zs v) (hn : n ≤ 16384) (h0 : 0 < v) (h9 : v < B64) :
    Calls Tryd.prog 68 #[.slice p n c] w fun e w' => e = .returned (.tuple #[U v, .bool true]) ∧ Below w.heap.size w w' := by
  have HA : Hid (At32 w p n c zs) := h
  have HX : Hid (Nf B32 zs v) := hx
  have H0 : Hid (0 < v ∧ v < B64) := ⟨h0, h9⟩
  clear h hx h0 h9
  go_enter Tryd.func68, Tryd.ntmps68
  go_wp2_with fail
  refine (rto_any HA.out (by omega)).mono ?_
  rintro e w1 ⟨g, k, N, us, rfl, hg, hA1, hN1, hb1⟩
  have hus : us = [v] := by
    rw [HX.out.val] at hN1
    exact hN1.inj B64_one ⟨dig1 H0.out.2, by intro y hy; simp at hy; have := H0.out.1; omega, by simp [valB]⟩
  have hk : k = 1 := by rw [← hA1.len, hus]; rfl
  subst hk
  subst hus
  obtain ⟨g', off, hg', hc⟩ := hA1.cells.resolve_left (by decide)
  simp only [Option.some.injEq, Addr.mk.injEq] at hg'
  obtain ⟨rfl, rfl, _⟩ := hg'
  have hc0 : w1.cell? ⟨g, 0, none⟩ = some (U v) := hc 0 (by decide)
  have hcap := hA1.cap
  have HB1 : Hid (Below w.heap.size w w1) := hb1
  clear hA1 hN1 hc hb1 hg
  go_wp2_with fail
  go_ret2
  exact ⟨rfl, HB1.out⟩
theorem rfits_zero {p : Option Addr} {n c : Nat} {zs : List Nat} {w : World} (h : At32 w p n c zs) (hx : Nf B32 zs 0) (hn : n ≤ 16384) :
    Calls Tryd.prog 68 #[.slice p n c] w fun e w' => e = .returned (.tuple #[U 0, .bool true]) ∧ Below w.heap.size w w' := by
  have HA : Hid (At32 w p n c zs) := h
  have HX : Hid (Nf B32 zs 0) := hx
  clear h hx
  go_enter Tryd.func68, Tryd.ntmps68
  go_wp2_with fail
  refine (rto_any HA.out (by omega)).mono ?_
  rintro e w1 ⟨g, k, N, us, rfl, hg, hA1, hN1, hb1⟩
  have hus : us = [] := by
    rw [HX.out.val] at hN1
    exact (hN1.zero_iff B64_one).2 rfl
  have hk : k = 0 := by rw [← hA1.len, hus]; rfl
  subst hk
  have HB1 : Hid (Below w.heap.size w w1) := hb1
  clear hA1 hN1 hb1 hg hus
  go_wp2_with fail
  go_ret2
  exact ⟨rfl, HB1.out⟩
theorem rfits_any {p : Option Addr} {n c : Nat} {zs : List Nat} {v : Nat} {w : World} (h : At32 w p n c zs) (hx : Nf B32 zs v) (hn : n ≤ 16384) (h9 : v < B64) :
    Calls Tryd.prog 68 #[.slice p n c] w fun e w' => e = .returned (.tuple #[U v, .bool true]) ∧ Below w.heap.size w w' := by
  rcases Nat.eq_zero_or_pos v with e | e
  · subst e; exact rfits_zero h hx hn
  · exact rfits_pos h hx hn e h9
end Go.Proofs.YtkdpafliibclnaaDoor
