import Derived.Test.YtkhhejfnglolkaaDivEx
import Derived.Test.YtkhhejfnglolkaaAddMul
import Derived.Test.YtkhhejfnglolkaaShift
namespace Go.Proofs.Ytkhhejfnglolkaa
open Go.RowKit

theorem Row.snoc {w : World} {g off m : Nat} {zs : List Nat} (h : Row w g off m zs) {y : Nat} (hc : w.cell? ⟨g, off + m, none⟩ = some (U y)) (hf : w.frozen? ⟨g, off + m, none⟩ = false) (hy : y < B64) : Row w g off (m + 1) (zs ++ [y]) := by
  have hl := h.len
  refine ⟨by simp; omega, h.dig.append (dig1 hy), fun j hj => ?_, fun j hj => ?_⟩
  · by_cases e : j = m
    · subst e
      rw [List.getD_eq_getElem?_getD, List.getElem?_append_right (by omega)]
      simpa [hl] using hc
    · rw [List.getD_eq_getElem?_getD, List.getElem?_append_left (by omega), ← List.getD_eq_getElem?_getD]
      exact h.cell j (by omega)
  · by_cases e : j = m
    · subst e; exact hf
    · exact h.frozen j (by omega)
theorem Wr.row_above {w w' : World} {g m n : Nat} {xs : List Nat} (hb : Blk w g xs) (h : Wr g 0 m w w') (hn : xs.length = n) (hm : m < n) : w'.cell? ⟨g, m, none⟩ = some (U (xs.getD m 0)) ∧ w'.frozen? ⟨g, m, none⟩ = false := by
  constructor
  · rw [h.cell g m (by omega)]; exact hb.cell m (by omega)
  · rw [h.frozen]; exact hb.frozen m
theorem Blk.row_take {w : World} {g : Nat} {xs : List Nat} (h : Blk w g xs) (hd : Dig B64 xs) (m : Nat) (hm : m ≤ xs.length) : Row w g 0 m (xs.take m) := (h.row hd).take m hm

set_option maxHeartbeats 1000000 in
theorem mulw_nf {p : Option Addr} {m c : Nat} {xs : List Nat} {a : Nat} {w : World} (h : At w p m c xs) (hx : Nf B64 xs a) (hm : m ≤ 8192) (v : Nat) (hv : v < B64) :
    Calls Try.prog 18 #[.slice p m c, U v] w fun e w' => Ans w.heap.size w' e (a * v) ∧ Below w.heap.size w w' := by
  have fx := hx.form (by rw [h.len]; exact hm)
  have hl := h.len
  have HX : Hid (Nf B64 xs a) := hx
  clear hx
  go_enter Try.func18, Try.ntmps18
  go_wp2_with fail
  refine (form_true h fx).mono ?_
  rintro e w' ⟨rfl, hw⟩
  obtain rfl := hw.symm
  clear hw fx
  obtain ⟨i0, hi, hz0, hz1, hz2⟩ := info_parts Try.infoU64
  go_wp2_with (at_make; refine wpList_make_full _ rfl _ _ 22 rfl w.heap.size 34 i0 (.int .u64 0) 1 Try.underlying22 hi hz0 hz1 _ _ _ _ (m + 1) rfl rfl (by omega) (by omega) (by rw [hz2]; omega) (by unfold maxLen; omega) (Nat.le_refl _) ?_; intro w1 hown hgrow; have hb := made_blk hown hgrow; clear hown hgrow)
  obtain ⟨hblk, hb1⟩ := hb
  have hdz : Dig B64 (List.replicate (m + 1) 0) := Dig.replicate _ _ B64_pos
  have hr := hblk.row_take hdz m (by simp)
  rw [List.take_replicate, Nat.min_eq_left (by omega)] at hr
  refine (amul_any w.heap.size 0 (m + 1) (m + 1) _ p m c xs v _ hr (by omega) (Nat.le_refl _) (by omega) (h.below hb1) hv (fun g2 off2 hn hp => .inl (h.fresh (Nat.le_refl _) g2 off2 hn hp))).mono ?_
  rintro e w2 ⟨cy, zs, rfl, hcy, hwr, hrow, hsum⟩
  obtain ⟨hcm, hfm⟩ := hwr.row_above hblk (n := m + 1) (by simp) (by omega)
  have hb2 : Below w.heap.size w w2 := hb1.trans (hwr.below (Nat.le_refl _))
  rw [valB_replicate, Nat.zero_add, HX.out.val] at hsum
  have HS : Hid (valB B64 zs + B64 ^ m * cy = a * v) := hsum
  clear hsum hwr hb1 hblk hr hdz
  go_wp2_with fail
  have hrow3 : Row (w2.setCell ⟨w.heap.size, m, none⟩ (U cy)) w.heap.size 0 (m + 1) (zs ++ [cy]) := by
    have hW : Wr w.heap.size (0 + m) 1 w2 (w2.setCell ⟨w.heap.size, m, none⟩ (U cy)) := (Wr.refl w.heap.size (0 + m) 1 w2).setCell m ⟨by omega, by omega⟩ _
    have hrow' : Row (w2.setCell ⟨w.heap.size, m, none⟩ (U cy)) w.heap.size 0 m zs :=
      ⟨hrow.len, hrow.dig, fun j hj => by rw [hW.cell _ _ (by omega)]; exact hrow.cell j hj, fun j hj => by rw [World.frozen?_setCell]; exact hrow.frozen j hj⟩
    refine hrow'.snoc ?_ ?_ hcy
    · rw [Nat.zero_add]; exact World.cell?_setCell_same _ _ _ hcm
    · rw [Nat.zero_add, World.frozen?_setCell]; exact hfm
  have hb3 : Below w.heap.size w (w2.setCell ⟨w.heap.size, m, none⟩ (U cy)) := hb2.setCell (Nat.le_refl _) _
  generalize w2.setCell ⟨w.heap.size, m, none⟩ (U cy) = w3 at *
  have A3 := hrow3.at_ (Nat.le_refl _) (by unfold maxLen; omega)
  have hval : valB B64 (zs ++ [cy]) = a * v := by rw [valB_snoc, hrow.len]; exact HS.out
  have hN := Nf.trim hrow3.dig
  rw [hval] at hN
  have HV : Hid (Nf B64 (trimL (zs ++ [cy])) (a * v)) := hN
  clear hval hN hcm hfm hrow
  generalize zs ++ [cy] = us at *
  refine (fitted_any A3).mono ?_
  rintro e w4 hres
  rcases hres with ⟨hle, ⟨p', m', rfl, hm', hp'⟩, hw⟩ | ⟨hgt, rfl, hw⟩
  · obtain rfl := hw.symm
    have HM : Hid (m' = (trimL us).length) := hm'
    clear hw hm'
    go_wp2_with fail
    go_ret2
    have e1 := HM.out
    exact ⟨.inl ⟨HV.out.lim.1 hle, p', m', trimL us, rfl, hrow3.own (Nat.le_refl _) e1 hp', HV.out, by omega⟩, hb3⟩
  · obtain rfl := hw.symm
    clear hw
    go_wp2_with fail
    go_ret2
    refine ⟨.inr ⟨?_, rfl⟩, hb3⟩
    have := mt HV.out.lim.2 (by omega)
    omega

/-- nat.Word. -/
theorem word_any (v : Nat) (w : World) (hv : v < B64) :
    Calls Try.prog 19 #[U v] w fun e w' => ∃ p m zs, e = .returned (.slice p m m) ∧ Own w.heap.size w' p m zs ∧ Nf B64 zs v ∧ m ≤ 1 ∧ Below w.heap.size w w' := by
  by_cases h0 : v = 0
  · subst h0
    go_enter Try.func19, Try.ntmps19
    go_wp2_with fail
    go_ret
    exact ⟨none, 0, [], rfl, ⟨rfl, Dig.nil _, .inl rfl⟩, Nf.nil _, by omega, Below.refl _ _⟩
  · have h0' : ((v : Int) == 0) = false := by simp; omega
    go_enter Try.func19, Try.ntmps19
    go_wp2_with fail
    go_ret
    have hbk : Blk (w.alloc (.cells #[U v] 34)) w.heap.size [v] := heap_alloc_new w _
    exact ⟨_, 1, [v], rfl, hbk.own (dig1 hv) (Nat.le_refl _), nf_one hv h0, by omega, below1 w _⟩

/-- What DivWord has done when k limbs from the top are done. -/
structure DivRel (w : World) (g n : Nat) (zs : List Nat) (v k re : Nat) (dk : List Nat) (wr : World) : Prop where
  wrs : ∀ B, B ≤ g → Below B w wr
  row : Row wr g 0 n dk
  lo : dk.take (n - k) = zs.take (n - k)
  rlt : re < v
  sum : valB B64 (zs.drop (n - k)) = valB B64 (dk.drop (n - k)) * v + re
theorem DivRel.step {w : World} {g n : Nat} {zs : List Nat} {v k re : Nat} {dk : List Nat} {wr wr' : World} (h : DivRel w g n zs v k re dk wr) (hk : k < n) (hz : zs.length = n) {x q r : Nat}
    (hx : x = dk.getD (n - 1 - k) 0) (hq : re * B64 + x = q * v + r) (hr : r < v) (hw : ∀ B, B ≤ g → Below B w wr') (hrow : Row wr' g 0 n (dk.set (n - 1 - k) q)) : DivRel w g n zs v (k + 1) r (dk.set (n - 1 - k) q) wr' := by
  have hl := h.row.len
  have e : n - (k + 1) = n - 1 - k := by omega
  have e2 : n - 1 - k + 1 = n - k := by omega
  have hxz : x = zs.getD (n - 1 - k) 0 := hx.trans (getD_of_take h.lo (by omega))
  refine ⟨hw, hrow, ?_, hr, ?_⟩
  · rw [e, take_set_at]; exact take_of_take h.lo (by omega)
  · rw [e, drop_set_at dk _ q (by omega), valB_drop _ zs (n - 1 - k) (by omega), ← hxz, valB_cons, e2, h.sum, Nat.add_mul, Nat.mul_add]
    have e3 : B64 * (valB B64 (dk.drop (n - k)) * v) = B64 * valB B64 (dk.drop (n - k)) * v := by rw [Nat.mul_assoc]
    rw [e3, Nat.mul_comm B64 re]
    omega

set_option maxHeartbeats 2000000 in
theorem divw_nf {p : Option Addr} {m c : Nat} {xs : List Nat} {a : Nat} {w : World} (h : At w p m c xs) (hx : Nf B64 xs a) (hm : m ≤ 8192) (v : Nat) (hv : v < B64) (hv0 : v ≠ 0) :
    Calls Try.prog 17 #[.slice p m c, U v] w fun e w' =>
      (∃ p' m' zs, e = .returned (.tuple #[.slice p' m' m', U (a % v), .int .i64 0]) ∧ Own w.heap.size w' p' m' zs ∧ Nf B64 zs (a / v) ∧ m' ≤ 8192) ∧ Below w.heap.size w w' := by
  have fx := hx.form (by rw [h.len]; exact hm)
  have hl := h.len
  have HX : Hid (Nf B64 xs a) := hx
  have hv0' : ((v : Int) == 0) = false := by simp; omega
  clear hx
  go_enter Try.func17, Try.ntmps17
  go_wp2_with fail
  refine (form_true h fx).mono ?_
  rintro e w' ⟨rfl, hw⟩
  obtain rfl := hw.symm
  clear hw fx
  go_wp2_with fail
  refine (copied_any h m (Nat.le_refl _) (by omega)).mono ?_
  rintro e w1 ⟨g, rfl, hg, hblk, hb⟩
  rw [Nat.sub_self, List.replicate_zero, List.append_nil] at hblk
  have hr := hblk.row HX.out.dig
  rw [hl] at hr
  go_wp2_with fail
  go_loopw [8, 9, 10, 22] (fun rv _ _ i wr => ∃ (k re : Nat) (dk : List Nat), k ≤ m ∧ i = .int .i64 k ∧ rv = U re ∧ DivRel w1 g m xs v k re dk wr) (fun _ _ _ i _ => m - (intOf i).toNat)
  case atStart => exact ⟨0, 0, xs, Nat.zero_le _, rfl, rfl, ⟨fun B _ => Below.refl _ _, hr, rfl, by omega, by rw [Nat.sub_zero, List.drop_of_length_le (by omega)]; simp [valB]⟩⟩
  case round =>
    obtain ⟨k, re, dk, hk, rfl, rfl, hR⟩ := hrel
    by_cases hlt : k < m
    · obtain ⟨x, hxx⟩ : ∃ x, x = dk.getD (m - 1 - k) 0 := ⟨_, rfl⟩
      have hcx : wr.cell? ⟨g, m - 1 - k, none⟩ = some (U x) := by
        have := hR.row.cell (m - 1 - k) (by omega)
        rw [← hxx, Nat.zero_add] at this; exact this
      have hfx : wr.frozen? ⟨g, m - 1 - k, none⟩ = false := by
        have := hR.row.frozen (m - 1 - k) (by omega)
        rw [Nat.zero_add] at this; exact this
      have hxb : x < B64 := by rw [hxx]; exact hR.row.dig.getD B64_pos _
      have hrv := hR.rlt
      have HR : Hid (DivRel w1 g m xs v k re dk wr) := hR
      have HXX : Hid (x = dk.getD (m - 1 - k) 0) := hxx
      clear hR hxx hr
      go_wp2_with fail
      refine (div64_any re x v _ hrv hv hxb).mono ?_
      rintro e w2 ⟨rfl, r, hw⟩
      obtain rfl := hw.symm
      clear hw
      obtain ⟨q, hq⟩ : ∃ q, q = (re * B64 + x) / v := ⟨_, rfl⟩
      obtain ⟨r2, hr2⟩ : ∃ r2, r2 = (re * B64 + x) % v := ⟨_, rfl⟩
      rw [← hq, ← hr2]
      have hqr : re * B64 + x = q * v + r2 := by rw [hq, hr2, Nat.mul_comm ((re * B64 + x) / v)]; exact (Nat.div_add_mod _ _).symm
      have hr2v : r2 < v := by rw [hr2]; exact Nat.mod_lt _ (by omega)
      have hqb : q < B64 := by
        rw [hq]
        refine (Nat.div_lt_iff_lt_mul (by omega)).2 ?_
        have : (re + 1) * B64 ≤ v * B64 := Nat.mul_le_mul_right _ hrv
        rw [Nat.add_mul, Nat.one_mul, Nat.mul_comm v] at this
        omega
      have HQR : Hid (re * B64 + x = q * v + r2) := hqr
      clear hq hr2 hqr
      go_wp2_with fail
      go_roundw
      case rel =>
        refine ⟨k + 1, r2, dk.set (m - 1 - k) q, by omega, by go_num, rfl, HR.out.step hlt hl HXX.out HQR.out hr2v (fun B hB => ?_) ?_⟩
        · exact bDrewN ((HR.out.wrs B hB).setCell hB _) r
        · have h1 := HR.out.row.set (m - 1 - k) q (by omega) hqb
          rw [Nat.zero_add] at h1
          exact h1.drewN r
      case measure => simp [intOf]; omega
    · obtain rfl : k = m := by omega
      have HR : Hid (DivRel w1 g k xs v k re dk wr) := hR
      clear hR hr
      have hh := HR.out
      have A3 := hh.row.at_ (Nat.le_refl _) (by unfold maxLen; omega)
      have hs := hh.sum
      rw [Nat.sub_self, List.drop_zero, List.drop_zero, HX.out.val] at hs
      obtain ⟨hq, hre⟩ := quo_unique hs hh.rlt
      have hN := Nf.trim hh.row.dig
      rw [hq] at hN
      have HV : Hid (Nf B64 (trimL dk) (a / v)) := hN
      have HRE : Hid (re = a % v) := hre
      have hb3 : Below w.heap.size w wr := hb.trans (hh.wrs _ hg)
      have hrow := hh.row
      clear hs hq hre hN hh
      go_wp2_with fail
      refine (trim_any A3).mono ?_
      rintro e w4 ⟨p', m', rfl, hm', hp', hw⟩
      obtain rfl := hw.symm
      have HM : Hid (m' = (trimL dk).length) := hm'
      clear hw hm'
      go_wp2_with fail
      go_ret3
      have e1 := HM.out
      have e2 := trimL_length_le dk
      have e3 := hrow.len
      exact ⟨⟨p', m', trimL dk, by rw [HRE.out]; rfl, hrow.own hg e1 hp', HV.out, by omega⟩, hb3⟩
end Go.Proofs.Ytkhhejfnglolkaa
