import Derived.Test.YtidggnjnlhjhlabGreatDoorJ10
import Derived.Test.YtidggnjnlhjhlabGreatDoorJ8
import Derived.Deep.RegionWith
import Derived.Deep.DeepCutAuto
import Derived.Test.YtidggnjnlhjhlabGreatDoorJ9
import Derived.Deep.LoopGhost
import Derived.Shelf.Spec.TrailingZeros
import Derived.BigQuiet
namespace Go.Proofs.YtidggnjnlhjhlabGreatDoor
open Go.RowKit
set_option maxRecDepth 20000
set_option maxHeartbeats 0
theorem dj_fresh {w : World} {p : Option Addr} {n c : Nat} {xs : List Nat} (h : At w p n c xs) (hn : 0 < n) (off m : Nat) : ∀ g2 off2, p = some ⟨g2, off2, none⟩ → Dj g2 off2 n w.heap.size off m :=
  fun g2 off2 hp => .inl (h.fresh (Nat.le_refl _) g2 off2 hn hp)

theorem mul_of_blk (m : Nat) (hbk : 48 ≤ m → BlkAt m) : MulAt m := by
  intro p q n cn l cl xs ys w hA hB hn hl hn8 hl8 hcase
  have HB : Hid (48 ≤ m → BlkAt m) := hbk
  have al := hA.len; have bl := hB.len
  clear hbk
  obtain ⟨i0, hi, hzz0, hzz1, hzz2⟩ := info_parts Tryz.infoU64
  by_cases hlt : n < l
  · have hm : n = m := by omega
    subst hm
    go_enter Tryz.func91, Tryz.ntmps91
    go_wp2_with (at_make; refine wpList_make_full _ rfl _ _ 29 rfl w.heap.size 22 i0 (.int .u64 0) 1 Tryz.underlying29 hi hzz0 hzz1 _ _ _ _ (l + n) rfl rfl (by omega) (by omega) (by rw [hzz2]; omega) (by unfold maxLen; omega) (Nat.le_refl _) ?_; intro w1 hown hgrow; have hmk := made_blk hown hgrow; clear hown hgrow)
    all_goals obtain ⟨hblk, hb1⟩ := hmk
    all_goals have hr := hblk.row (Dig.replicate _ _ B64_pos)
    all_goals rw [List.length_replicate] at hr
    all_goals have A1 := hB.below hb1
    all_goals have B1 := hA.below hb1
    · refine (rows_any w.heap.size 0 (l + n) _ q p l cl n cn ys xs _ hr (Nat.le_refl _) (by omega) A1 B1 (by omega) (by omega) (dj_fresh hB (by omega) 0 _) (dj_fresh hA (by omega) 0 _)).mono ?_
      rintro e w2 ⟨zs, rfl, hwr, hrow, hval⟩
      have hb2 : Below w.heap.size w w2 := hb1.trans (hwr.below (Nat.le_refl _))
      clear hwr hb1 hblk hr A1 B1
      have A2 := hrow.at_ (Nat.le_refl _) (by unfold maxLen; omega)
      have hN := Nf.trim hrow.dig
      rw [hval] at hN
      have HV : Hid (Nf B64 (trimL zs) (valB B64 ys * valB B64 xs)) := hN
      clear hval hN
      go_wp2_with fail
      refine (trim_any A2).mono ?_
      rintro e w3 ⟨p', m', rfl, hm', hp', hw⟩
      obtain rfl := hw.symm
      have HM : Hid (m' = (trimL zs).length) := hm'
      clear hw hm'
      go_wp2_with fail
      go_ret
      exact ⟨p', m', trimL zs, rfl, hrow.own (Nat.le_refl _) HM.out hp', by rw [Nat.mul_comm]; exact HV.out, hb2⟩
    · refine (HB.out (by omega) w.heap.size 0 (l + n) l cl cn q p ys xs _ _ hr (valB_replicate _ _) (Nat.le_refl _) (by omega) A1 B1 (by omega) (by omega) (dj_fresh hB (by omega) 0 _) (dj_fresh hA (by omega) 0 _)).mono ?_
      rintro e w2 ⟨zs, rfl, hcg, hrow, hval⟩
      have hb2 : Below w.heap.size w w2 := hb1.trans (hcg.below (fun b o h => by unfold Rg at h; omega) (by have := hblk.lt; omega))
      clear hcg hb1 hblk hr A1 B1
      have A2 := hrow.at_ (Nat.le_refl _) (by unfold maxLen; omega)
      have hN := Nf.trim hrow.dig
      rw [hval] at hN
      have HV : Hid (Nf B64 (trimL zs) (valB B64 ys * valB B64 xs)) := hN
      clear hval hN
      go_wp2_with fail
      refine (trim_any A2).mono ?_
      rintro e w3 ⟨p', m', rfl, hm', hp', hw⟩
      obtain rfl := hw.symm
      have HM : Hid (m' = (trimL zs).length) := hm'
      clear hw hm'
      go_wp2_with fail
      go_ret
      exact ⟨p', m', trimL zs, rfl, hrow.own (Nat.le_refl _) HM.out hp', by rw [Nat.mul_comm]; exact HV.out, hb2⟩
  · have hm : l = m := by omega
    subst hm
    go_enter Tryz.func91, Tryz.ntmps91
    go_wp2_with (at_make; refine wpList_make_full _ rfl _ _ 29 rfl w.heap.size 22 i0 (.int .u64 0) 1 Tryz.underlying29 hi hzz0 hzz1 _ _ _ _ (n + l) rfl rfl (by omega) (by omega) (by rw [hzz2]; omega) (by unfold maxLen; omega) (Nat.le_refl _) ?_; intro w1 hown hgrow; have hmk := made_blk hown hgrow; clear hown hgrow)
    all_goals obtain ⟨hblk, hb1⟩ := hmk
    all_goals have hr := hblk.row (Dig.replicate _ _ B64_pos)
    all_goals rw [List.length_replicate] at hr
    all_goals have A1 := hA.below hb1
    all_goals have B1 := hB.below hb1
    · refine (rows_any w.heap.size 0 (n + l) _ p q n cn l cl xs ys _ hr (Nat.le_refl _) (by omega) A1 B1 (by omega) (by omega) (dj_fresh hA (by omega) 0 _) (dj_fresh hB (by omega) 0 _)).mono ?_
      rintro e w2 ⟨zs, rfl, hwr, hrow, hval⟩
      have hb2 : Below w.heap.size w w2 := hb1.trans (hwr.below (Nat.le_refl _))
      clear hwr hb1 hblk hr A1 B1
      have A2 := hrow.at_ (Nat.le_refl _) (by unfold maxLen; omega)
      have hN := Nf.trim hrow.dig
      rw [hval] at hN
      have HV : Hid (Nf B64 (trimL zs) (valB B64 xs * valB B64 ys)) := hN
      clear hval hN
      go_wp2_with fail
      refine (trim_any A2).mono ?_
      rintro e w3 ⟨p', m', rfl, hm', hp', hw⟩
      obtain rfl := hw.symm
      have HM : Hid (m' = (trimL zs).length) := hm'
      clear hw hm'
      go_wp2_with fail
      go_ret
      exact ⟨p', m', trimL zs, rfl, hrow.own (Nat.le_refl _) HM.out hp', HV.out, hb2⟩
    · refine (HB.out (by omega) w.heap.size 0 (n + l) n cn cl p q xs ys _ _ hr (valB_replicate _ _) (Nat.le_refl _) (by omega) A1 B1 (by omega) (by omega) (dj_fresh hA (by omega) 0 _) (dj_fresh hB (by omega) 0 _)).mono ?_
      rintro e w2 ⟨zs, rfl, hcg, hrow, hval⟩
      have hb2 : Below w.heap.size w w2 := hb1.trans (hcg.below (fun b o h => by unfold Rg at h; omega) (by have := hblk.lt; omega))
      clear hcg hb1 hblk hr A1 B1
      have A2 := hrow.at_ (Nat.le_refl _) (by unfold maxLen; omega)
      have hN := Nf.trim hrow.dig
      rw [hval] at hN
      have HV : Hid (Nf B64 (trimL zs) (valB B64 xs * valB B64 ys)) := hN
      clear hval hN
      go_wp2_with fail
      refine (trim_any A2).mono ?_
      rintro e w3 ⟨p', m', rfl, hm', hp', hw⟩
      obtain rfl := hw.symm
      have HM : Hid (m' = (trimL zs).length) := hm'
      clear hw hm'
      go_wp2_with fail
      go_ret
      exact ⟨p', m', trimL zs, rfl, hrow.own (Nat.le_refl _) HM.out hp', HV.out, hb2⟩

theorem mul_at : ∀ (N m : Nat), m < N → MulAt m := by
  intro N
  induction N with
  | zero => intro m h; omega
  | succ N ih =>
    intro m hm
    exact mul_of_blk m (fun h48 => blk_step m h48 (fun r hr h0 => ih r (by omega)))
theorem mult_any {p q : Option Addr} {n cn l cl : Nat} {xs ys : List Nat} {w : World} (hA : At w p n cn xs) (hB : At w q l cl ys) (hn : 0 < n) (hl : 0 < l) (hn8 : n ≤ 8192) (hl8 : l ≤ 8192) :
    Calls Tryz.prog 91 #[.slice p n cn, .slice q l cl] w fun e w' => ∃ p' m' zs, e = .returned (.slice p' m' m') ∧ Own w.heap.size w' p' m' zs ∧ Nf B64 zs (valB B64 xs * valB B64 ys) ∧ Below w.heap.size w w' :=
  mul_at (min n l + 1) (min n l) (by omega) p q n cn l cl xs ys w hA hB hn hl hn8 hl8 (by omega)
theorem Nf.big {us : List Nat} {a n : Nat} (h : Nf B64 us a) (hl : us.length = n) (h0 : 0 < n) : B64 ^ (n - 1) ≤ a := by
  have := mt (h.len_le (k := n - 1) B64_one).2 (by omega)
  omega
theorem mul_big (K : Nat) {us vs : List Nat} {a b n m : Nat} (hx : Nf B64 us a) (hy : Nf B64 vs b) (hl : us.length = n) (hm : vs.length = m) (h0 : 0 < n) (h1 : 0 < m) (h : K < n + m - 1) : B64 ^ K ≤ a * b := by
  refine Nat.le_trans ?_ (Nat.mul_le_mul (hx.big hl h0) (hy.big hm h1))
  rw [← Nat.pow_add]
  exact Nat.pow_le_pow_right B64_pos (by omega)
theorem mul_lim {us vs : List Nat} {a b n m : Nat} (hx : Nf B64 us a) (hy : Nf B64 vs b) (hl : us.length = n) (hm : vs.length = m) (h0 : 0 < n) (h1 : 0 < m) (h : 8192 < n + m - 1) : LIM ≤ a * b := by
  obtain ⟨K, hK⟩ : ∃ K, K = 8192 := ⟨8192, rfl⟩
  rw [LIM_eq K hK]
  exact mul_big K hx hy hl hm h0 h1 (by omega)
theorem Nf.zero {us : List Nat} {a : Nat} (h : Nf B64 us a) (hl : us.length = 0) : a = 0 := by
  obtain rfl := List.eq_nil_of_length_eq_zero hl
  have := h.val; simp [valB] at this; omega
theorem ans_zero (B : Nat) (w : World) : Ans B w (.returned (.tuple #[.slice none 0 0, .int .i64 0])) 0 :=
  .inl ⟨(Nf.nil B64).lim.1 (by simp), none, 0, [], rfl, ⟨rfl, Dig.nil _, .inl rfl⟩, Nf.nil _, by omega⟩

theorem mul_any {p q : Option Addr} {n m c d : Nat} {xs ys : List Nat} {a b : Nat} {w : World} (h : At w p n c xs) (k : At w q m d ys) (hx : Nf B64 xs a) (hy : Nf B64 ys b) (hlx : n ≤ 8192) (hly : m ≤ 8192) :
    Calls Tryz.prog 73 #[.slice p n c, .slice q m d] w fun e w' => Ans w.heap.size w' e (a * b) ∧ Below w.heap.size w w' := by
  have fx := hx.form (by rw [h.len]; exact hlx)
  have fy := hy.form (by rw [k.len]; exact hly)
  have HX : Hid (Nf B64 xs a) := hx
  have HY : Hid (Nf B64 ys b) := hy
  clear hx hy
  go_enter Tryz.func73, Tryz.ntmps73
  go_wp2_with fail
  refine (form_true h fx).mono ?_
  rintro e w' ⟨rfl, hw⟩
  obtain rfl := hw.symm
  clear hw
  go_wp2_with fail
  refine (form_true k fy).mono ?_
  rintro e w' ⟨rfl, hw⟩
  obtain rfl := hw.symm
  clear hw fx fy
  by_cases hn0 : n = 0
  · have HA : Hid (a = 0) := HX.out.zero (by rw [h.len]; exact hn0)
    subst hn0
    go_wp2_with fail
    go_ret2
    rw [HA.out, Nat.zero_mul]
    exact ⟨ans_zero _ _, Below.refl _ _⟩
  · by_cases hm0 : m = 0
    · have HA : Hid (b = 0) := HY.out.zero (by rw [k.len]; exact hm0)
      subst hm0
      go_wp2_with fail
      go_ret2
      rw [HA.out, Nat.mul_zero]
      exact ⟨ans_zero _ _, Below.refl _ _⟩
    · have hn0' : ((n : Int) == 0) = false := by simp; omega
      have hm0' : ((m : Int) == 0) = false := by simp; omega
      by_cases hbig : 8192 < n + m - 1
      · go_wp2_with fail
        go_ret2
        exact ⟨.inr ⟨mul_lim HX.out HY.out h.len k.len (by omega) (by omega) hbig, rfl⟩, Below.refl _ _⟩
      · go_wp2_with fail
        refine (mult_any h k (by omega) (by omega) hlx hly).mono ?_
        rintro e w1 ⟨p', m', zs, rfl, ho, hN, hb⟩
        rw [HX.out.val, HY.out.val] at hN
        have HV : Hid (Nf B64 zs (a * b)) := hN
        have HO : Hid (Own w.heap.size w1 p' m' zs) := ho
        have hlen : zs.length = m' := ho.1
        have HL : Hid (zs.length = m') := hlen
        clear hN ho hlen
        by_cases hle : m' ≤ 8192
        · go_wp2_with fail
          go_ret2
          exact ⟨.inl ⟨HV.out.lim.1 (by rw [HL.out]; exact hle), p', m', zs, rfl, HO.out, HV.out, hle⟩, hb⟩
        · go_wp2_with fail
          go_ret2
          refine ⟨.inr ⟨?_, rfl⟩, hb⟩
          have := mt HV.out.lim.2 (by rw [HL.out]; exact hle)
          omega
end Go.Proofs.YtidggnjnlhjhlabGreatDoor
namespace Go.Proofs.YtidggnjnlhjhlabGreatDoor
open Go.RowKit Go.Shelf
set_option maxRecDepth 20000
set_option maxHeartbeats 0
structure Box (W : World) (g : Nat) (v0 v1 : Value) : Prop where
  c0 : W.cell? ⟨g, 0, none⟩ = some v0
  c1 : W.cell? ⟨g, 1, none⟩ = some v1
  f0 : W.frozen? ⟨g, 0, none⟩ = false
  f1 : W.frozen? ⟨g, 1, none⟩ = false
theorem Box.below {W W' : World} {g : Nat} {v0 v1 : Value} (h : Box W g v0 v1) (hb : Below W.heap.size W W') : Box W' g v0 v1 := by
  have hl : g < W.heap.size := World.block_lt_of_cell? W _ h.c0
  exact ⟨(hb.cell (p := ⟨g, 0, none⟩) hl).trans h.c0, (hb.cell (p := ⟨g, 1, none⟩) hl).trans h.c1, (hb.frozen (p := ⟨g, 0, none⟩) hl).trans h.f0, (hb.frozen (p := ⟨g, 1, none⟩) hl).trans h.f1⟩

theorem numform_t {p : Option Addr} {n c : Nat} {xs : List Nat} {a : Nat} {w : World} (s : Bool) (h : Num w p n c xs a) (hs : s = true → 0 < a) :
    Calls Tryz.prog 62 #[ZV s p n c] w fun e w' => e = .returned (.bool true) ∧ Below w.heap.size w w' := by
  have fx := h.nf.form (by rw [h.at_.len]; exact h.le)
  have hz := h.zero
  have H : Hid (Num w p n c xs a) := h
  clear h
  cases s
  · clear hs hz
    go_enter Tryz.func62, Tryz.ntmps62
    go_wp2_with fail
    refine (form_true (H.out.at_.alloc _) fx).mono ?_
    rintro e w' ⟨rfl, hw⟩
    obtain rfl := hw.symm
    clear hw fx
    go_wp2_with fail
    go_ret
    exact ⟨rfl, below1 w _⟩
  · have hn0 : n ≠ 0 := by have := hs rfl; intro e; have := hz.1 e; omega
    have hn0' : ((n : Int) == 0) = false := by simp; omega
    clear hs hz
    go_enter Tryz.func62, Tryz.ntmps62
    go_wp2_with fail
    refine (form_true (H.out.at_.alloc _) fx).mono ?_
    rintro e w' ⟨rfl, hw⟩
    obtain rfl := hw.symm
    clear hw fx
    go_wp2_with fail
    go_ret
    exact ⟨rfl, below1 w _⟩

-- the calls
theorem nadd_any {p q : Option Addr} {n m c d : Nat} {xs ys : List Nat} {a b : Nat} {w : World} (s t : Bool) (h : Num w p n c xs a) (k : Num w q m d ys b) (hs : s = true → 0 < a) (ht : t = true → 0 < b) :
    Calls Tryz.prog 51 #[ZV s p n c, ZV t q m d] w fun e w' => AnsI w.heap.size w' e (iv s a + iv t b) ∧ Below w.heap.size w w' := by
  obtain ⟨z, hz⟩ : ∃ z, z = iv s a + iv t b := ⟨_, rfl⟩
  rw [← hz]
  have HZ : Hid (z = iv s a + iv t b) := hz
  have H : Hid (Num w p n c xs a) := h
  have K : Hid (Num w q m d ys b) := k
  have HS : Hid (s = true → 0 < a) := hs
  have HT : Hid (t = true → 0 < b) := ht
  clear h k hs ht hz
  go_enter Tryz.func51, Tryz.ntmps51
  go_wp2_with fail
  have B0 : Box (((w.alloc (.cells #[.bool s, .slice p n c] 31)).alloc (.cells #[.bool t, .slice q m d] 31)).alloc (.cells #[.bool false, .slice none 0 0] 31)) (w.heap.size) (.bool s) (.slice p n c) := ⟨by go_simp, by go_simp, by go_simp, by go_simp⟩
  have B1 : Box (((w.alloc (.cells #[.bool s, .slice p n c] 31)).alloc (.cells #[.bool t, .slice q m d] 31)).alloc (.cells #[.bool false, .slice none 0 0] 31)) (w.heap.size + 1) (.bool t) (.slice q m d) := ⟨by go_simp, by go_simp, by go_simp, by go_simp⟩
  have B2 : Box (((w.alloc (.cells #[.bool s, .slice p n c] 31)).alloc (.cells #[.bool t, .slice q m d] 31)).alloc (.cells #[.bool false, .slice none 0 0] 31)) (w.heap.size + 1 + 1) (.bool false) (.slice none 0 0) := ⟨by go_simp, by go_simp, by go_simp, by go_simp⟩
  have hbw : Below w.heap.size w (((w.alloc (.cells #[.bool s, .slice p n c] 31)).alloc (.cells #[.bool t, .slice q m d] 31)).alloc (.cells #[.bool false, .slice none 0 0] 31)) := below3 w _ _ _
  have hsW : (((w.alloc (.cells #[.bool s, .slice p n c] 31)).alloc (.cells #[.bool t, .slice q m d] 31)).alloc (.cells #[.bool false, .slice none 0 0] 31)).heap.size = w.heap.size + 1 + 1 + 1 := by simp
  generalize (((w.alloc (.cells #[.bool s, .slice p n c] 31)).alloc (.cells #[.bool t, .slice q m d] 31)).alloc (.cells #[.bool false, .slice none 0 0] 31)) = W0 at *
  obtain ⟨hs, ehs⟩ : ∃ hs, hs = w.heap.size := ⟨_, rfl⟩
  have HHS : Hid (hs = w.heap.size) := ehs
  rw [← ehs] at B0 B1 B2 hsW ⊢
  replace H : Hid _ := H.out.below hbw
  replace K : Hid _ := K.out.below hbw
  have hszW : hs + 1 + 1 + 1 ≤ W0.heap.size := by omega
  clear ehs hsW
  refine (numform_t s H.out HS.out).mono ?_
  rintro e w1 ⟨rfl, hb1⟩
  have B0' : Box w1 (hs) (.bool s) (.slice p n c) := B0.below hb1
  clear B0
  have B0 := B0'
  clear B0'
  have B1' : Box w1 (hs + 1) (.bool t) (.slice q m d) := B1.below hb1
  clear B1
  have B1 := B1'
  clear B1'
  have B2' : Box w1 (hs + 1 + 1) (.bool false) (.slice none 0 0) := B2.below hb1
  clear B2
  have B2 := B2'
  clear B2'
  replace H : Hid _ := H.out.below hb1
  replace K : Hid _ := K.out.below hb1
  replace hbw := Below.on hbw hb1
  have hszW' : hs + 1 + 1 + 1 ≤ w1.heap.size := Nat.le_trans hszW hb1.size
  clear hszW
  have hszW := hszW'
  clear hszW'
  clear hb1
  obtain ⟨c00, c01, f00, f01⟩ := B0
  obtain ⟨c10, c11, f10, f11⟩ := B1
  obtain ⟨c20, c21, f20, f21⟩ := B2
  go_wp2_with fail
  have B0 : Box w1 (hs) (.bool s) (.slice p n c) := ⟨c00, c01, f00, f01⟩
  clear c00 c01 f00 f01
  have B1 : Box w1 (hs + 1) (.bool t) (.slice q m d) := ⟨c10, c11, f10, f11⟩
  clear c10 c11 f10 f11
  have B2 : Box w1 (hs + 1 + 1) (.bool false) (.slice none 0 0) := ⟨c20, c21, f20, f21⟩
  clear c20 c21 f20 f21
  refine (numform_t t K.out HT.out).mono ?_
  rintro e w2 ⟨rfl, hb2⟩
  have B0' : Box w2 (hs) (.bool s) (.slice p n c) := B0.below hb2
  clear B0
  have B0 := B0'
  clear B0'
  have B1' : Box w2 (hs + 1) (.bool t) (.slice q m d) := B1.below hb2
  clear B1
  have B1 := B1'
  clear B1'
  have B2' : Box w2 (hs + 1 + 1) (.bool false) (.slice none 0 0) := B2.below hb2
  clear B2
  have B2 := B2'
  clear B2'
  replace H : Hid _ := H.out.below hb2
  replace K : Hid _ := K.out.below hb2
  replace hbw := Below.on hbw hb2
  have hszW' : hs + 1 + 1 + 1 ≤ w2.heap.size := Nat.le_trans hszW hb2.size
  clear hszW
  have hszW := hszW'
  clear hszW'
  clear hb2
  obtain ⟨c00, c01, f00, f01⟩ := B0
  obtain ⟨c10, c11, f10, f11⟩ := B1
  obtain ⟨c20, c21, f20, f21⟩ := B2
  go_wp2_with fail
  have B0 : Box w2 (hs) (.bool s) (.slice p n c) := ⟨c00, c01, f00, f01⟩
  clear c00 c01 f00 f01
  have B1 : Box w2 (hs + 1) (.bool t) (.slice q m d) := ⟨c10, c11, f10, f11⟩
  clear c10 c11 f10 f11
  have B2 : Box w2 (hs + 1 + 1) (.bool false) (.slice none 0 0) := ⟨c20, c21, f20, f21⟩
  clear c20 c21 f20 f21
  have hsz0 := hszW
  refine (sum_any s t H.out K.out).mono ?_
  rintro e w3 ⟨ha, hb3⟩
  rw [← HZ.out] at ha
  have B0' : Box w3 (hs) (.bool s) (.slice p n c) := B0.below hb3
  clear B0
  have B0 := B0'
  clear B0'
  have B1' : Box w3 (hs + 1) (.bool t) (.slice q m d) := B1.below hb3
  clear B1
  have B1 := B1'
  clear B1'
  have B2' : Box w3 (hs + 1 + 1) (.bool false) (.slice none 0 0) := B2.below hb3
  clear B2
  have B2 := B2'
  clear B2'
  replace H : Hid _ := H.out.below hb3
  replace K : Hid _ := K.out.below hb3
  replace hbw := Below.on hbw hb3
  have hszW' : hs + 1 + 1 + 1 ≤ w3.heap.size := Nat.le_trans hszW hb3.size
  clear hszW
  have hszW := hszW'
  clear hszW'
  clear hb3
  rcases ha with ⟨hl, p1, m1, z1, rfl, ho, hn, hm⟩ | ⟨hl, rfl⟩
  · have HL : Hid (z.natAbs < LIM) := hl
    have HN : Hid (Nf B64 z1 z.natAbs) := hn
    have HM : Hid (m1 ≤ 8192) := hm
    have HOW : Hid (Own (hs + 1 + 1 + 1) w3 p1 m1 z1) := ho.mono hsz0
    obtain ⟨sz, hss⟩ : ∃ sz, sz = decide (z < 0) := ⟨_, rfl⟩
    rw [← hss]
    have HSZ : Hid (sz = decide (z < 0)) := hss
    clear hl hn ho hm hss hsz0
    obtain ⟨c00, c01, f00, f01⟩ := B0
    obtain ⟨c10, c11, f10, f11⟩ := B1
    obtain ⟨c20, c21, f20, f21⟩ := B2
    go_wp2_with fail
    refine bodyPost_ret (v := .tuple #[ZV sz p1 m1 m1, .int .i64 0]) (by rw [results_cell_tmp rfl]; go_simp) rfl ⟨.inl ⟨HL.out, p1, m1, z1, by rw [HSZ.out], ?_, HN.out, HM.out⟩, ?_⟩
    · exact ((HOW.out.setOld _ _ _ (by omega)).setOld _ _ _ (by omega)).mono (by have := HHS.out; omega)
    · exact bSet (bSet hbw _ _ _ (by have := HHS.out; omega)) _ _ _ (by have := HHS.out; omega)
  · have HL : Hid (LIM ≤ z.natAbs) := hl
    clear hl hsz0
    obtain ⟨c00, c01, f00, f01⟩ := B0
    obtain ⟨c10, c11, f10, f11⟩ := B1
    obtain ⟨c20, c21, f20, f21⟩ := B2
    go_wp2_with fail
    refine bodyPost_ret (v := .tuple #[ZV false none 0 0, .int .i64 5]) (by rw [results_cell_tmp rfl]; go_simp) rfl ⟨.inr ⟨HL.out, rfl⟩, ?_⟩
    exact bSet (bSet hbw _ _ _ (by have := HHS.out; omega)) _ _ _ (by have := HHS.out; omega)
theorem iv_not (t : Bool) (b : Nat) : iv (!t) b = - iv t b := by cases t <;> simp [iv]
theorem iv_mul (s t : Bool) (a b : Nat) : (iv s a * iv t b).natAbs = a * b ∧ (decide (iv s a * iv t b < 0) = ((s != t) && decide (0 < a * b))) := by
  have h0 : ((a : Int) * (b : Int)) = ((a * b : Nat) : Int) := by simp
  cases s <;> cases t <;> simp only [iv, if_true, Int.neg_mul, Int.mul_neg, Int.neg_neg, Bool.false_eq_true, if_false, h0]
  · refine ⟨by omega, ?_⟩
    simp only [bne_self_eq_false, Bool.false_and, decide_eq_false_iff_not]; omega
  · refine ⟨by omega, ?_⟩
    simp only [Bool.bne_true, Bool.not_false, Bool.true_and]; exact decide_eq_decide.2 (by omega)
  · refine ⟨by omega, ?_⟩
    simp only [Bool.bne_false, Bool.true_and]; exact decide_eq_decide.2 (by omega)
  · refine ⟨by omega, ?_⟩
    simp only [bne_self_eq_false, Bool.false_and, decide_eq_false_iff_not]; omega
theorem nmul_any {p q : Option Addr} {n m c d : Nat} {xs ys : List Nat} {a b : Nat} {w : World} (s t : Bool) (h : Num w p n c xs a) (k : Num w q m d ys b) (hs : s = true → 0 < a) (ht : t = true → 0 < b) :
    Calls Tryz.prog 52 #[ZV s p n c, ZV t q m d] w fun e w' => AnsI w.heap.size w' e (iv s a * iv t b) ∧ Below w.heap.size w w' := by
  obtain ⟨z, hz⟩ : ∃ z, z = iv s a * iv t b := ⟨_, rfl⟩
  rw [← hz]
  have HZ : Hid (z = iv s a * iv t b) := hz
  have H : Hid (Num w p n c xs a) := h
  have K : Hid (Num w q m d ys b) := k
  have HS : Hid (s = true → 0 < a) := hs
  have HT : Hid (t = true → 0 < b) := ht
  have HAB : Hid (z.natAbs = a * b ∧ decide (z < 0) = ((s != t) && decide (0 < a * b))) := by rw [hz]; exact iv_mul s t a b
  clear h k hs ht hz
  go_enter Tryz.func52, Tryz.ntmps52
  go_wp2_with fail
  have B0 : Box (((w.alloc (.cells #[.bool s, .slice p n c] 31)).alloc (.cells #[.bool t, .slice q m d] 31)).alloc (.cells #[.bool false, .slice none 0 0] 31)) (w.heap.size) (.bool s) (.slice p n c) := ⟨by go_simp, by go_simp, by go_simp, by go_simp⟩
  have B1 : Box (((w.alloc (.cells #[.bool s, .slice p n c] 31)).alloc (.cells #[.bool t, .slice q m d] 31)).alloc (.cells #[.bool false, .slice none 0 0] 31)) (w.heap.size + 1) (.bool t) (.slice q m d) := ⟨by go_simp, by go_simp, by go_simp, by go_simp⟩
  have B2 : Box (((w.alloc (.cells #[.bool s, .slice p n c] 31)).alloc (.cells #[.bool t, .slice q m d] 31)).alloc (.cells #[.bool false, .slice none 0 0] 31)) (w.heap.size + 1 + 1) (.bool false) (.slice none 0 0) := ⟨by go_simp, by go_simp, by go_simp, by go_simp⟩
  have hbw : Below w.heap.size w (((w.alloc (.cells #[.bool s, .slice p n c] 31)).alloc (.cells #[.bool t, .slice q m d] 31)).alloc (.cells #[.bool false, .slice none 0 0] 31)) := below3 w _ _ _
  have hsW : (((w.alloc (.cells #[.bool s, .slice p n c] 31)).alloc (.cells #[.bool t, .slice q m d] 31)).alloc (.cells #[.bool false, .slice none 0 0] 31)).heap.size = w.heap.size + 1 + 1 + 1 := by simp
  generalize (((w.alloc (.cells #[.bool s, .slice p n c] 31)).alloc (.cells #[.bool t, .slice q m d] 31)).alloc (.cells #[.bool false, .slice none 0 0] 31)) = W0 at *
  obtain ⟨hs, ehs⟩ : ∃ hs, hs = w.heap.size := ⟨_, rfl⟩
  have HHS : Hid (hs = w.heap.size) := ehs
  rw [← ehs] at B0 B1 B2 hsW ⊢
  replace H : Hid _ := H.out.below hbw
  replace K : Hid _ := K.out.below hbw
  have hszW : hs + 1 + 1 + 1 ≤ W0.heap.size := by omega
  clear ehs hsW
  refine (numform_t s H.out HS.out).mono ?_
  rintro e w1 ⟨rfl, hb1⟩
  have B0' : Box w1 (hs) (.bool s) (.slice p n c) := B0.below hb1
  clear B0
  have B0 := B0'
  clear B0'
  have B1' : Box w1 (hs + 1) (.bool t) (.slice q m d) := B1.below hb1
  clear B1
  have B1 := B1'
  clear B1'
  have B2' : Box w1 (hs + 1 + 1) (.bool false) (.slice none 0 0) := B2.below hb1
  clear B2
  have B2 := B2'
  clear B2'
  replace H : Hid _ := H.out.below hb1
  replace K : Hid _ := K.out.below hb1
  replace hbw := Below.on hbw hb1
  have hszW' : hs + 1 + 1 + 1 ≤ w1.heap.size := Nat.le_trans hszW hb1.size
  clear hszW
  have hszW := hszW'
  clear hszW'
  clear hb1
  obtain ⟨c00, c01, f00, f01⟩ := B0
  obtain ⟨c10, c11, f10, f11⟩ := B1
  obtain ⟨c20, c21, f20, f21⟩ := B2
  go_wp2_with fail
  have B0 : Box w1 (hs) (.bool s) (.slice p n c) := ⟨c00, c01, f00, f01⟩
  clear c00 c01 f00 f01
  have B1 : Box w1 (hs + 1) (.bool t) (.slice q m d) := ⟨c10, c11, f10, f11⟩
  clear c10 c11 f10 f11
  have B2 : Box w1 (hs + 1 + 1) (.bool false) (.slice none 0 0) := ⟨c20, c21, f20, f21⟩
  clear c20 c21 f20 f21
  refine (numform_t t K.out HT.out).mono ?_
  rintro e w2 ⟨rfl, hb2⟩
  have B0' : Box w2 (hs) (.bool s) (.slice p n c) := B0.below hb2
  clear B0
  have B0 := B0'
  clear B0'
  have B1' : Box w2 (hs + 1) (.bool t) (.slice q m d) := B1.below hb2
  clear B1
  have B1 := B1'
  clear B1'
  have B2' : Box w2 (hs + 1 + 1) (.bool false) (.slice none 0 0) := B2.below hb2
  clear B2
  have B2 := B2'
  clear B2'
  replace H : Hid _ := H.out.below hb2
  replace K : Hid _ := K.out.below hb2
  replace hbw := Below.on hbw hb2
  have hszW' : hs + 1 + 1 + 1 ≤ w2.heap.size := Nat.le_trans hszW hb2.size
  clear hszW
  have hszW := hszW'
  clear hszW'
  clear hb2
  obtain ⟨c00, c01, f00, f01⟩ := B0
  obtain ⟨c10, c11, f10, f11⟩ := B1
  obtain ⟨c20, c21, f20, f21⟩ := B2
  go_wp2_with fail
  have B0 : Box w2 (hs) (.bool s) (.slice p n c) := ⟨c00, c01, f00, f01⟩
  clear c00 c01 f00 f01
  have B1 : Box w2 (hs + 1) (.bool t) (.slice q m d) := ⟨c10, c11, f10, f11⟩
  clear c10 c11 f10 f11
  have B2 : Box w2 (hs + 1 + 1) (.bool false) (.slice none 0 0) := ⟨c20, c21, f20, f21⟩
  clear c20 c21 f20 f21
  have hsz0 := hszW
  refine (mul_any H.out.at_ K.out.at_ H.out.nf K.out.nf H.out.le K.out.le).mono ?_
  rintro e w3 ⟨ha, hb3⟩
  have B0' : Box w3 (hs) (.bool s) (.slice p n c) := B0.below hb3
  clear B0
  have B0 := B0'
  clear B0'
  have B1' : Box w3 (hs + 1) (.bool t) (.slice q m d) := B1.below hb3
  clear B1
  have B1 := B1'
  clear B1'
  have B2' : Box w3 (hs + 1 + 1) (.bool false) (.slice none 0 0) := B2.below hb3
  clear B2
  have B2 := B2'
  clear B2'
  replace H : Hid _ := H.out.below hb3
  replace K : Hid _ := K.out.below hb3
  replace hbw := Below.on hbw hb3
  have hszW' : hs + 1 + 1 + 1 ≤ w3.heap.size := Nat.le_trans hszW hb3.size
  clear hszW
  have hszW := hszW'
  clear hszW'
  clear hb3
  rcases ha with ⟨hl, p1, m1, z1, rfl, ho, hn, hm⟩ | ⟨hl, rfl⟩
  · have HL : Hid (a * b < LIM) := hl
    have HN : Hid (Nf B64 z1 (a * b)) := hn
    have HM : Hid (m1 ≤ 8192) := hm
    have HOW : Hid (Own (hs + 1 + 1 + 1) w3 p1 m1 z1) := ho.mono hsz0
    have hv : ((!(s == t)) && decide (0 < m1)) = decide (z < 0) := by rw [HAB.out.2, hn.lenpos ho.len]; rfl
    have HV : Hid (((!(s == t)) && decide (0 < m1)) = decide (z < 0)) := hv
    clear hl hn ho hm hsz0 hv
    obtain ⟨c00, c01, f00, f01⟩ := B0
    obtain ⟨c10, c11, f10, f11⟩ := B1
    obtain ⟨c20, c21, f20, f21⟩ := B2
    go_wp2_with fail
    have B0 : Box w3 (hs) (.bool s) (.slice p n c) := ⟨c00, c01, f00, f01⟩
    clear c00 c01 f00 f01
    have B1 : Box w3 (hs + 1) (.bool t) (.slice q m d) := ⟨c10, c11, f10, f11⟩
    clear c10 c11 f10 f11
    have B2 : Box w3 (hs + 1 + 1) (.bool false) (.slice none 0 0) := ⟨c20, c21, f20, f21⟩
    clear c20 c21 f20 f21
    refine (signed_any _ p1 m1 m1 w3).mono ?_
    rintro e w4 ⟨rfl, hb4⟩
    have B0' : Box w4 (hs) (.bool s) (.slice p n c) := B0.below hb4
    clear B0
    have B0 := B0'
    clear B0'
    have B1' : Box w4 (hs + 1) (.bool t) (.slice q m d) := B1.below hb4
    clear B1
    have B1 := B1'
    clear B1'
    have B2' : Box w4 (hs + 1 + 1) (.bool false) (.slice none 0 0) := B2.below hb4
    clear B2
    have B2 := B2'
    clear B2'
    replace H : Hid _ := H.out.below hb4
    replace K : Hid _ := K.out.below hb4
    replace HOW : Hid (Own (hs + 1 + 1 + 1) w4 p1 m1 z1) := HOW.out.below hb4
    replace hbw := Below.on hbw hb4
    have hszW' : hs + 1 + 1 + 1 ≤ w4.heap.size := Nat.le_trans hszW hb4.size
    clear hszW
    have hszW := hszW'
    clear hszW'
    clear hb4
    rw [HV.out]
    obtain ⟨sz, hss⟩ : ∃ sz, sz = decide (z < 0) := ⟨_, rfl⟩
    rw [← hss]
    have HSZ : Hid (sz = decide (z < 0)) := hss
    clear hss
    obtain ⟨c00, c01, f00, f01⟩ := B0
    obtain ⟨c10, c11, f10, f11⟩ := B1
    obtain ⟨c20, c21, f20, f21⟩ := B2
    go_wp2_with fail
    refine bodyPost_ret (v := .tuple #[ZV sz p1 m1 m1, .int .i64 0]) (by rw [results_cell_tmp rfl]; go_simp) rfl ⟨.inl ⟨by rw [HAB.out.1]; exact HL.out, p1, m1, z1, by rw [HSZ.out], ?_, by rw [HAB.out.1]; exact HN.out, HM.out⟩, ?_⟩
    · exact ((HOW.out.setOld _ _ _ (by omega)).setOld _ _ _ (by omega)).mono (by have := HHS.out; omega)
    · exact bSet (bSet hbw _ _ _ (by have := HHS.out; omega)) _ _ _ (by have := HHS.out; omega)
  · have HL : Hid (LIM ≤ a * b) := hl
    clear hl hsz0
    obtain ⟨c00, c01, f00, f01⟩ := B0
    obtain ⟨c10, c11, f10, f11⟩ := B1
    obtain ⟨c20, c21, f20, f21⟩ := B2
    go_wp2_with fail
    have B0 : Box w3 (hs) (.bool s) (.slice p n c) := ⟨c00, c01, f00, f01⟩
    clear c00 c01 f00 f01
    have B1 : Box w3 (hs + 1) (.bool t) (.slice q m d) := ⟨c10, c11, f10, f11⟩
    clear c10 c11 f10 f11
    have B2 : Box w3 (hs + 1 + 1) (.bool false) (.slice none 0 0) := ⟨c20, c21, f20, f21⟩
    clear c20 c21 f20 f21
    refine (signed_any _ none 0 0 w3).mono ?_
    rintro e w4 ⟨rfl, hb4⟩
    have B0' : Box w4 (hs) (.bool s) (.slice p n c) := B0.below hb4
    clear B0
    have B0 := B0'
    clear B0'
    have B1' : Box w4 (hs + 1) (.bool t) (.slice q m d) := B1.below hb4
    clear B1
    have B1 := B1'
    clear B1'
    have B2' : Box w4 (hs + 1 + 1) (.bool false) (.slice none 0 0) := B2.below hb4
    clear B2
    have B2 := B2'
    clear B2'
    replace H : Hid _ := H.out.below hb4
    replace K : Hid _ := K.out.below hb4
    replace hbw := Below.on hbw hb4
    have hszW' : hs + 1 + 1 + 1 ≤ w4.heap.size := Nat.le_trans hszW hb4.size
    clear hszW
    have hszW := hszW'
    clear hszW'
    clear hb4
    rw [show ∀ x : Bool, (x && decide (0 < 0)) = false from fun x => by simp]
    obtain ⟨c00, c01, f00, f01⟩ := B0
    obtain ⟨c10, c11, f10, f11⟩ := B1
    obtain ⟨c20, c21, f20, f21⟩ := B2
    go_wp2_with fail
    refine bodyPost_ret (v := .tuple #[ZV false none 0 0, .int .i64 5]) (by rw [results_cell_tmp rfl]; go_simp) rfl ⟨.inr ⟨by rw [HAB.out.1]; exact HL.out, rfl⟩, ?_⟩
    exact bSet (bSet hbw _ _ _ (by have := HHS.out; omega)) _ _ _ (by have := HHS.out; omega)
theorem Box.new (w : World) (ty : TypeId) (v0 v1 : Value) : Box (w.alloc (.cells #[v0, v1] ty)) w.heap.size v0 v1 := ⟨by go_simp, by go_simp, by go_simp, by go_simp⟩
theorem At32.setOther {w : World} {g off n c : Nat} {xs : List Nat} (h : At32 w (some ⟨g, off, none⟩) n c xs) (g2 o2 : Nat) (v : Value) (hne : g ≠ g2) : At32 (w.setCell ⟨g2, o2, none⟩ v) (some ⟨g, off, none⟩) n c xs := by
  refine ⟨h.len, h.cap, h.big, h.dig, ?_⟩
  rcases h.cells with h0 | ⟨g', o', he, hcl⟩
  · exact .inl h0
  · refine .inr ⟨g', o', he, fun j hj => ?_⟩
    simp only [Option.some.injEq, Addr.mk.injEq, and_true] at he
    rw [World.cell?_setCell_other _ _ _ _ (by intro e; apply hne; have := congrArg Addr.block e; simp at this; omega)]
    exact hcl j hj
theorem At.setOther {w : World} {g off n c : Nat} {xs : List Nat} (h : At w (some ⟨g, off, none⟩) n c xs) (g2 o2 : Nat) (v : Value) (hne : g ≠ g2) : At (w.setCell ⟨g2, o2, none⟩ v) (some ⟨g, off, none⟩) n c xs := by
  refine ⟨h.len, h.cap, h.big, h.dig, ?_⟩
  rcases h.cells with h0 | ⟨g', o', he, hcl⟩
  · exact .inl h0
  · refine .inr ⟨g', o', he, fun j hj => ?_⟩
    simp only [Option.some.injEq, Addr.mk.injEq, and_true] at he
    rw [World.cell?_setCell_other _ _ _ _ (by intro e; apply hne; have := congrArg Addr.block e; simp at this; omega)]
    exact hcl j hj
def Told (z : Int) (s : Bool) (m : Nat) (zs : List Nat) (er : Int) : Prop :=
  (z.natAbs < LIM ∧ s = decide (z < 0) ∧ Nf B64 zs z.natAbs ∧ m ≤ 8192 ∧ er = 0) ∨ (LIM ≤ z.natAbs ∧ s = false ∧ zs = [] ∧ m = 0 ∧ er = 5)
theorem AnsI.any {B : Nat} {w' : World} {e : Ending} {z : Int} (h : AnsI B w' e z) : ∃ s p m zs er, e = .returned (.tuple #[ZV s p m m, .int .i64 er]) ∧ At w' p m m zs ∧ Told z s m zs er := by
  rcases h with ⟨hz, p, m, zs, rfl, ho, hn, hm⟩ | ⟨hz, rfl⟩
  · exact ⟨_, p, m, zs, 0, rfl, ho.at_ hm, .inl ⟨hz, rfl, hn, hm, rfl⟩⟩
  · exact ⟨false, none, 0, [], 5, rfl, At.empty _ none 0 (by decide), .inr ⟨hz, rfl, rfl, rfl, rfl⟩⟩
theorem Told.inj {z : Int} {s s' : Bool} {m m' : Nat} {zs zs' : List Nat} {er er' : Int} (h : Told z s m zs er) (k : Told z s' m' zs' er') : s = s' ∧ zs = zs' ∧ er = er' := by
  rcases h with ⟨hz, rfl, hn, hm, rfl⟩ | ⟨hz, rfl, rfl, rfl, rfl⟩ <;> rcases k with ⟨kz, rfl, kn, km, rfl⟩ | ⟨kz, rfl, rfl, rfl, rfl⟩
  · exact ⟨rfl, hn.inj B64_one kn, rfl⟩
  · omega
  · omega
  · exact ⟨rfl, rfl, rfl⟩
theorem Told.er {z : Int} {s : Bool} {m : Nat} {zs : List Nat} {er : Int} (h : Told z s m zs er) : er = 0 ∨ er = 5 := by
  rcases h with ⟨_, _, _, _, rfl⟩ | ⟨_, _, _, _, rfl⟩
  · exact .inl rfl
  · exact .inr rfl
theorem Told.ok {z : Int} {s : Bool} {m : Nat} {zs : List Nat} {w : World} {p : Option Addr} (h : Told z s m zs 0) (a : At w p m m zs) : Num w p m m zs z.natAbs ∧ s = decide (z < 0) := by
  rcases h with ⟨_, h1, h2, h3, _⟩ | ⟨_, _, _, _, h⟩
  · exact ⟨⟨a, h2, h3⟩, h1⟩
  · exact absurd h (by decide)
theorem Told.no {z : Int} {s : Bool} {m : Nat} {zs : List Nat} (h : Told z s m zs 5) : LIM ≤ z.natAbs := by
  rcases h with ⟨_, _, _, _, h⟩ | ⟨h, _⟩
  · exact absurd h (by decide)
  · exact h
theorem iv_abs (z : Int) : iv (decide (z < 0)) z.natAbs = z := by
  unfold iv
  by_cases h : z < 0
  · simp only [h, decide_true, if_true]; omega
  · simp only [h, decide_false, Bool.false_eq_true, if_false]; omega
theorem iv_natAbs (s : Bool) (a : Nat) : (iv s a).natAbs = a := by cases s <;> simp [iv]
theorem sgn_pos (z : Int) : decide (z < 0) = true → 0 < z.natAbs := by intro h; have := of_decide_eq_true h; omega
theorem digit_bit {b e : Nat} (hb : b = 2 ^ e) {xs : List Nat} (hd : Dig b xs) {D R : Nat} (hD : D < xs.length) (hR : R < e) : xs.getD D 0 / 2 ^ R % 2 = valB b xs / 2 ^ (e * D + R) % 2 := by
  have hbp : 0 < b := by rw [hb]; exact Nat.pow_pos (by decide)
  have h1 : valB b (xs.drop D) = valB b xs / b ^ D := by
    have h2 := valB_split b xs D (Nat.le_of_lt hD)
    have h3 := valB_lt hbp (hd.take D)
    rw [List.length_take, Nat.min_eq_left (Nat.le_of_lt hD)] at h3
    rw [h2, Nat.add_mul_div_left _ _ (Nat.pow_pos hbp), Nat.div_eq_of_lt h3, Nat.zero_add]
  have h4 := valB_drop b xs D hD
  have h5 : b ^ D = 2 ^ (e * D) := by rw [hb, ← Nat.pow_mul]
  rw [Nat.pow_add, ← Nat.div_div_eq_div_mul, ← h5, ← h1, h4]
  obtain ⟨k, hk⟩ : ∃ k, e = R + 1 + k := ⟨e - R - 1, by omega⟩
  have h6 : b = 2 ^ R * (2 * 2 ^ k) := by rw [hb, hk, Nat.pow_add, Nat.pow_add, Nat.pow_one, Nat.mul_assoc]
  rw [h6, Nat.mul_assoc (2 ^ R), Nat.add_mul_div_left _ _ (Nat.pow_pos (by decide)), Nat.mul_assoc 2, Nat.add_mul_mod_self_left]
theorem and_one_u64q (i : Nat) (_hi : i < B64) : bits BinOp.and IntKind.u64 (i : Int) 1 = ((i % 2 : Nat) : Int) := by
  have h1 : (BitVec.ofInt 64 1).toNat = 2 ^ 1 - 1 := by decide
  have key : (BitVec.ofInt 64 (i : Int) &&& BitVec.ofInt 64 1).toNat = ((i : Int) % ((2 ^ 64 : Nat) : Int)).toNat % 2 ^ 1 := by
    rw [BitVec.toNat_and, BitVec.toNat_ofInt, h1, Nat.and_two_pow_sub_one_eq_mod]
  show IntKind.u64.wrap ((BitVec.ofInt 64 (i : Int) &&& BitVec.ofInt 64 1).toNat : Nat) = _
  rw [key]
  simp only [IntKind.wrap, IntKind.signed, IntKind.bits]
  simp
  omega

theorem bit_any {p : Option Addr} {n c : Nat} {xs : List Nat} {w : World} (h : At w p n c xs) (_hn : n ≤ 17592186044416) (i : Nat) (hi : i ≤ 9223372036854775807) :
    Calls Tryz.prog 63 #[.slice p n c, .int .i64 i] w fun e w' => e = .returned (.bool (decide (valB B64 xs / 2 ^ i % 2 = 1))) ∧ w' = w := by
  have hl := h.len
  have cap := h.cap
  have big := h.big
  unfold maxLen at big
  obtain ⟨D, hD⟩ : ∃ D, D = i / 64 := ⟨_, rfl⟩
  obtain ⟨R, hR⟩ : ∃ R, R = i % 64 := ⟨_, rfl⟩
  have d1 : (i : Int).tdiv 64 = (D : Int) := by rw [Int.tdiv_eq_ediv_of_nonneg (by omega)]; omega
  have d2 : (i : Int).tmod 64 = (R : Int) := by rw [Int.tmod_eq_emod_of_nonneg (by omega)]; omega
  have hneg : ¬ (i : Int) < 0 := by omega
  have hDb : D ≤ 144115188075855871 := by omega
  have hR64 : R < 64 := by omega
  have hei : i = 64 * D + R := by omega
  obtain ⟨r, hr⟩ : ∃ r, r = decide (valB B64 xs / 2 ^ i % 2 = 1) := ⟨_, rfl⟩
  rw [← hr]
  by_cases hc : n ≤ D
  · have HR0 : Hid (r = false) := by
      show _ = _
      rw [hr]
      refine decide_eq_false ?_
      have h1 : valB B64 xs < 2 ^ i := by
        have h2 := valB_lt B64_pos h.dig
        rw [hl] at h2
        refine Nat.lt_of_lt_of_le h2 ?_
        rw [B64_pow]
        exact Nat.pow_le_pow_right (by decide) (by omega)
      rw [Nat.div_eq_of_lt h1]
      decide
    have hci : (n : Int) ≤ (D : Int) := by omega
    have hcb : decide (n ≤ D) = true := decide_eq_true hc
    clear hr hei hD hR h hl
    go_enter Tryz.func63, Tryz.ntmps63
    go_wp2_with fail
    go_ret
    exact ⟨by rw [HR0.out]; rfl, rfl⟩
  · have hDn : D < n := by omega
    have hcb : decide (n ≤ D) = false := decide_eq_false hc
    obtain ⟨g, off, rfl, hcs⟩ := h.cells.resolve_left (by omega)
    obtain ⟨x, hx⟩ : ∃ x, x = xs.getD D 0 := ⟨_, rfl⟩
    have hcx : w.cell? ⟨g, off + D, none⟩ = some (U x) := by rw [hx]; exact hcs D hDn
    have hxb : x < B64 := by rw [hx]; exact h.dig.getD B64_pos D
    obtain ⟨y, hy⟩ : ∃ y, y = x / 2 ^ R := ⟨_, rfl⟩
    have hyI : (x : Int) / 2 ^ R = (y : Int) := by rw [hy]; norm_cast
    have hyb : y < B64 := by rw [hy]; exact Nat.lt_of_le_of_lt (Nat.div_le_self _ _) hxb
    obtain ⟨z, hz⟩ : ∃ z, z = y % 2 := ⟨_, rfl⟩
    have hand : bits BinOp.and IntKind.u64 (y : Int) 1 = (z : Int) := by rw [hz]; exact and_one_u64q y hyb
    have HR1 : Hid (r = decide (z = 1)) := by
      show _ = _
      rw [hr, hz, hy, hx, digit_bit B64_two_pow h.dig (by rw [hl]; exact hDn) hR64, ← hei]
    have hwD : IntKind.i64.wrap (D : Int) = (D : Int) := by simp [IntKind.wrap, IntKind.signed, IntKind.bits]; omega
    clear hr hei hD hR h hl hcs hx hy hz hxb hyb
    go_enter Tryz.func63, Tryz.ntmps63
    go_wp2_with fail
    go_ret
    have hzz : ((z : Int) == 1) = decide (z = 1) := by rw [Bool.eq_iff_iff]; simp; omega
    exact ⟨by rw [HR1.out, ← hzz]; rfl, rfl⟩
def TzIs (v k : Nat) : Prop := v % 2 ^ k = 0 ∧ v / 2 ^ k % 2 = 1
theorem TzIs.inj {v k l : Nat} (h : TzIs v k) (h' : TzIs v l) : k = l := by
  have aux : ∀ {a b : Nat}, TzIs v a → TzIs v b → ¬ a < b := by
    intro a b ha hb hab
    obtain ⟨d, hd⟩ : ∃ d, b = a + (d + 1) := ⟨b - a - 1, by omega⟩
    have h1 := Nat.dvd_of_mod_eq_zero hb.1
    obtain ⟨q, hq⟩ := h1
    have h2 := ha.2
    rw [hq, hd, Nat.pow_add, Nat.mul_assoc, Nat.mul_div_cancel_left _ (Nat.pow_pos (by decide)), Nat.pow_succ, Nat.mul_comm (2 ^ d) 2, Nat.mul_assoc, Nat.mul_mod_right] at h2
    exact absurd h2 (by decide)
  rcases Nat.lt_trichotomy k l with e | e | e
  · exact absurd e (aux h h')
  · exact e
  · exact absurd e (aux h' h)
theorem TzIs.ex : ∀ (v : Nat), 0 < v → ∃ k, TzIs v k := by
  intro v
  induction v using Nat.strongRecOn with
  | _ v ih =>
    intro hv
    rcases Nat.mod_two_eq_zero_or_one v with h | h
    · obtain ⟨k, h1, h2⟩ := ih (v / 2) (by omega) (by omega)
      refine ⟨k + 1, ?_, ?_⟩
      · rw [Nat.pow_succ, Nat.mul_comm, Nat.mod_mul, h, h1]
      · rw [Nat.pow_succ, Nat.mul_comm, ← Nat.div_div_eq_div_mul]; exact h2
    · exact ⟨0, by rw [Nat.pow_zero, Nat.mod_one], by rw [Nat.pow_zero, Nat.div_one]; exact h⟩
theorem TzIs.ge {v k n : Nat} (h : TzIs v k) (hn : v % 2 ^ n = 0) : n ≤ k := by
  rcases Nat.lt_or_ge k n with e | e
  · exfalso
    obtain ⟨d, hd⟩ : ∃ d, n = k + (d + 1) := ⟨n - k - 1, by omega⟩
    obtain ⟨q, hq⟩ := Nat.dvd_of_mod_eq_zero hn
    have h2 := h.2
    rw [hq, hd, Nat.pow_add, Nat.mul_assoc, Nat.mul_div_cancel_left _ (Nat.pow_pos (by decide)), Nat.pow_succ, Nat.mul_comm (2 ^ d) 2, Nat.mul_assoc, Nat.mul_mod_right] at h2
    exact absurd h2 (by decide)
  · exact e
def renTz : Ren := ⟨fun x => match x with | 29 => 84 | n => n, fun x => match x with | 0 => 0 | 3 => 3 | 4 => 4 | 5 => 5 | 22 => 22 | 25 => 53 | 54 => 121 | n => n, fun x => match x with | 1 => 1 | n => n⟩
theorem laysTz : Lays7.n29 Tryz.prog renTz :=
  { mixed := by kernel_rfl, f29 := Tryz.func84.trans (congrArg some (by kernel_rfl)),
    t0 := by kernel_rfl, a0 := fun w => by kernel_rfl, z0 := fun w => by kernel_rfl, v0 := fun w => by kernel_rfl, i0 := by kernel_rfl,
    t3 := Tryz.underlying3, a3 := Tryz.isAgg3, z3 := Tryz.sizeOf3, v3 := Tryz.zeroValue3, i3 := by kernel_rfl,
    t4 := Tryz.underlying4, a4 := Tryz.isAgg4, z4 := Tryz.sizeOf4, v4 := Tryz.zeroValue4, i4 := by kernel_rfl,
    t5 := Tryz.underlying5, a5 := Tryz.isAgg5, z5 := Tryz.sizeOf5, v5 := Tryz.zeroValue5, i5 := by kernel_rfl,
    t22 := Tryz.underlying22, a22 := Tryz.isAgg22, z22 := Tryz.sizeOf22, v22 := Tryz.zeroValue22, i22 := by kernel_rfl,
    t25 := Tryz.underlying53, a25 := Tryz.isAgg53, z25 := Tryz.sizeOf53, v25 := Tryz.zeroValue53, i25 := by kernel_rfl,
    t54 := Tryz.underlying121, a54 := Tryz.isAgg121, z54 := Tryz.sizeOf121, g1 := by kernel_rfl }

def Tab (w : World) : Prop := TabAt 1 Lib.deBruijn64tab w
theorem Tab.below {w w' : World} (h : Tab w) (hb : Below w.heap.size w w') : Tab w' := by
  intro j hj
  have h1 := h j hj
  have hl : 1 < w.heap.size := World.block_lt_of_cell? w _ h1
  exact (hb.cell (p := ⟨1, j, none⟩) hl).trans h1
theorem ctz_is {x : Nat} (h0 : x ≠ 0) (hx : x < B64) : TzIs x (Lib.ctz 64 x) ∧ Lib.ctz 64 x < 64 := by
  rw [B64_two_pow] at hx
  unfold Lib.ctz
  rw [if_neg h0]
  obtain ⟨m, hm, hk⟩ := Lib.ctzFrom_spec 64 x (by omega) hx
  generalize Lib.ctzFrom 64 x = k at *
  refine ⟨⟨?_, ?_⟩, hk⟩
  · rw [hm, Nat.mul_mod_right]
  · rw [hm, Nat.mul_div_cancel_left _ (Nat.pow_pos (by decide))]; omega
theorem tz_any {x r : Nat} (h0 : x ≠ 0) (hx : x < B64) (hr : TzIs x r) {w : World} (hT : Tab w) : Calls Tryz.prog 84 #[U x] w fun e w' => e = .returned (.int .i64 r) ∧ w' = w := by
  obtain ⟨h1, _⟩ := ctz_is h0 hx
  obtain rfl := hr.inj h1
  exact Any7.bits_TrailingZeros64 laysTz x (by rw [B64_eq] at hx; exact hx) w (fun _ => hT)

theorem tz_lift {xs : List Nat} (hd : Dig B64 xs) {j r : Nat} (hj : j < xs.length) (hz : valB B64 (xs.take j) = 0) (hr : TzIs (xs.getD j 0) r) (hr64 : r < 64) : TzIs (valB B64 xs) (64 * j + r) := by
  constructor
  · have h1 := valB_split B64 xs j (Nat.le_of_lt hj)
    have h2 := valB_drop B64 xs j hj
    rw [hz, Nat.zero_add, h2] at h1
    rw [h1, B64_pow, Nat.pow_add, Nat.mul_mod_mul_left]
    obtain ⟨k, hk⟩ : ∃ k, 64 = r + k := ⟨64 - r, by omega⟩
    have h3 : B64 = 2 ^ r * 2 ^ k := by rw [← Nat.pow_add, ← hk]; rfl
    rw [h3, Nat.mul_assoc, Nat.add_mul_mod_self_left, hr.1, Nat.mul_zero]
  · have h1 := digit_bit (b := B64) (e := 64) rfl hd hj hr64
    rw [← h1]
    exact hr.2

def TzO (v k : Nat) : Prop := (v = 0 ∧ k = 0) ∨ (v ≠ 0 ∧ TzIs v k)
theorem TzO.inj {v k l : Nat} (h : TzO v k) (h' : TzO v l) : k = l := by
  rcases h with ⟨h1, rfl⟩ | ⟨h1, h2⟩ <;> rcases h' with ⟨h3, rfl⟩ | ⟨h3, h4⟩
  · rfl
  · exact absurd h1 h3
  · exact absurd h3 h1
  · exact h2.inj h4
theorem TzO.ex (v : Nat) : ∃ k, TzO v k := by
  by_cases h : v = 0
  · exact ⟨0, .inl ⟨h, rfl⟩⟩
  · obtain ⟨k, hk⟩ := TzIs.ex v (by omega)
    exact ⟨k, .inr ⟨h, hk⟩⟩

theorem trail_any {p : Option Addr} {n c : Nat} {xs : List Nat} {k : Nat} {w : World} (h : At w p n c xs) (hn : n ≤ 17592186044416) (hk : TzO (valB B64 xs) k) (hT : Tab w) :
    Calls Tryz.prog 68 #[.slice p n c] w fun e w' => e = .returned (.int .i64 k) ∧ w' = w := by
  have HT : Hid (Tab w) := hT
  have HK : Hid (TzO (valB B64 xs) k) := hk
  have HD : Hid (Dig B64 xs) := h.dig
  have HL : Hid (xs.length = n) := h.len
  have cap := h.cap
  have big := h.big
  unfold maxLen at big
  have HC : Hid (n = 0 ∨ ∃ g off, p = some ⟨g, off, none⟩ ∧ ∀ j, j < n → w.cell? ⟨g, off + j, none⟩ = some (U (xs.getD j 0))) := h.cells
  clear h hk hT
  go_enter Tryz.func68, Tryz.ntmps68
  go_wp2_with fail
  go_loopg [6] n (fun gk iv wr => ∃ j : Nat, j + gk = n ∧ iv = .int .i64 j ∧ Hid (valB B64 (xs.take j) = 0) ∧ wr = w)
  case atStart => exact ⟨0, by omega, rfl, by show _ = _; simp [valB], rfl⟩
  case round =>
    obtain ⟨j, hjg, rfl, HZ, hwr⟩ := hrel
    obtain rfl := hwr.symm
    clear hwr
    cases gk with
    | zero =>
      obtain rfl : j = n := by omega
      have hnk : ¬ (j : Int) < (j : Int) := by omega
      have HK0 : Hid (k = 0) := by
        show _ = _
        have h1 := HZ.out
        rw [List.take_of_length_le (by rw [HL.out]; omega)] at h1
        exact HK.out.inj (.inl ⟨h1, rfl⟩)
      go_wp2_with fail
      go_ret
      exact ⟨ret_int (by have := HK0.out; omega), rfl⟩
    | succ gg =>
      have hjn : j < n := by omega
      obtain ⟨g, off, rfl, hcs⟩ := HC.out.resolve_left (by omega)
      obtain ⟨x, hx⟩ : ∃ x, x = xs.getD j 0 := ⟨_, rfl⟩
      have hcx : w.cell? ⟨g, off + j, none⟩ = some (U x) := by rw [hx]; exact hcs j hjn
      have hjI : (j : Int) < (n : Int) := by omega
      have hwj : IntKind.i64.wrap (j : Int) = (j : Int) := by simp [IntKind.wrap, IntKind.signed, IntKind.bits]; omega
      have hjb : j ≤ 17592186044416 := by omega
      have HXB : Hid (x < B64) := by show _ < _; rw [hx]; exact HD.out.getD B64_pos _
      clear hcs
      by_cases hx0 : x = 0
      · have HZ1 : Hid (valB B64 (xs.take (j + 1)) = 0) := by
          show _ = _
          rw [valB_take_any, HZ.out, ← hx, hx0, Nat.mul_zero]
        subst hx0
        clear hx HZ
        go_wp2_with fail
        go_roundg gg
        case measure => omega
        case rel => exact ⟨j + 1, by omega, by go_num, HZ1, rfl⟩
      · have hxI : ((x : Int) == 0) = false := by simp; omega
        obtain ⟨hr1, hr2⟩ := ctz_is hx0 HXB.out
        generalize Lib.ctz 64 x = r at *
        have HR : Hid (TzIs x r) := hr1
        have HKR : Hid (k = 64 * j + r) := by
          show _ = _
          have h1 := tz_lift HD.out (by rw [HL.out]; omega) HZ.out (hx ▸ hr1) hr2
          refine HK.out.inj (.inr ⟨fun e => ?_, h1⟩)
          have h2 := h1.2
          rw [e, Nat.zero_div] at h2
          exact absurd h2 (by decide)
        clear hr1 hx HZ
        go_wp2_with (go_at_call 84; refine (tz_any hx0 HXB.out HR.out HT.out).mono ?_; rintro e w' ⟨rfl, hw⟩; obtain rfl := hw.symm; clear hw)
        go_ret
        exact ⟨ret_int (by have := HKR.out; omega), rfl⟩
theorem bit_neg (p : Option Addr) (n c : Nat) (i : Int) (hi : i < 0) (w : World) : Calls Tryz.prog 63 #[.slice p n c, .int .i64 i] w fun e w' => e = .returned (.bool false) ∧ w' = w := by
  have hb : decide (i < 0) = true := decide_eq_true hi
  go_enter Tryz.func63, Tryz.ntmps63
  go_wp2_with fail
  go_ret
  exact ⟨rfl, rfl⟩
def bitO (v : Nat) (i : Int) : Bool := if i < 0 then false else decide (v / 2 ^ i.toNat % 2 = 1)
theorem bit_int {p : Option Addr} {n c : Nat} {xs : List Nat} {w : World} (h : At w p n c xs) (hn : n ≤ 17592186044416) (i : Int) (hi : i ≤ 9223372036854775807) :
    Calls Tryz.prog 63 #[.slice p n c, .int .i64 i] w fun e w' => e = .returned (.bool (bitO (valB B64 xs) i)) ∧ w' = w := by
  by_cases h0 : i < 0
  · unfold bitO
    rw [if_pos h0]
    exact bit_neg p n c i h0 w
  · obtain ⟨m, rfl⟩ := Int.eq_ofNat_of_zero_le (by omega : 0 ≤ i)
    unfold bitO
    rw [if_neg h0, Int.toNat_natCast]
    exact bit_any h hn m (by omega)
def fl (s : Bool) (a d : Nat) : Int := iv s (a / d + (s && decide (a % d ≠ 0)).toNat)
def neUp (a d : Nat) : Bool := decide (d < 2 * (a % d)) || (decide (2 * (a % d) = d) && decide (a / d % 2 = 1))
def HfIs (r d : Nat) (h : Int) : Prop := (2 * r < d ∧ h = -1) ∨ (2 * r = d ∧ h = 0) ∨ (d < 2 * r ∧ h = 1)
theorem HfIs.cmp {r d : Nat} (h : r ≤ d) (c : Int) (hc : c = if r < d - r then -1 else if r = d - r then 0 else 1) : HfIs r d c := by
  subst hc
  unfold HfIs
  split
  · left; omega
  · split
    · right; left; omega
    · right; right; omega
theorem HfIs.up {a d : Nat} {h : Int} (k : HfIs (a % d) d h) : neUp a d = (decide (0 < h) || (decide (h = 0) && decide (a / d % 2 = 1))) := by
  unfold neUp
  rcases k with ⟨k, rfl⟩ | ⟨k, rfl⟩ | ⟨k, rfl⟩
  · rw [decide_eq_false (by omega), decide_eq_false (p := 2 * (a % d) = d) (by omega)]; rfl
  · rw [decide_eq_false (by omega), decide_eq_true (p := 2 * (a % d) = d) (by omega)]; rfl
  · rw [decide_eq_true (by omega)]; rfl
theorem ce_le {a d : Nat} (h : a % d ≠ 0) : a / d + 1 ≤ a := by
  rcases Nat.lt_or_ge d 2 with hd | hd
  · have : d = 0 ∨ d = 1 := by omega
    rcases this with rfl | rfl
    · rw [Nat.div_zero]; rw [Nat.mod_zero] at h; omega
    · omega
  · have h1 : a / d ≤ a / 2 := Nat.div_le_div_left hd (by omega)
    rcases Nat.lt_or_ge a 2 with ha | ha
    · have h2 : a ≠ 0 := fun e => h (by rw [e, Nat.zero_mod])
      omega
    · omega
theorem bit_half {a n : Nat} (hn : 0 < n) : (a / 2 ^ (n - 1) % 2 = 1) ↔ 2 ^ n ≤ 2 * (a % 2 ^ n) := by
  obtain ⟨k, rfl⟩ : ∃ k, n = k + 1 := ⟨n - 1, by omega⟩
  rw [Nat.add_sub_cancel, Nat.pow_succ, Nat.mod_mul]
  have h1 : a % 2 ^ k < 2 ^ k := Nat.mod_lt _ (Nat.pow_pos (by omega))
  have h2 : a / 2 ^ k % 2 < 2 := Nat.mod_lt _ (by omega)
  generalize a / 2 ^ k % 2 = b at *
  rcases (by omega : b = 0 ∨ b = 1) with rfl | rfl
  · simp; omega
  · simp; omega
theorem half_eq {a n : Nat} (hn : 0 < n) (h : a / 2 ^ (n - 1) % 2 = 1) : (a % 2 ^ (n - 1) = 0 ↔ 2 * (a % 2 ^ n) = 2 ^ n) := by
  obtain ⟨k, rfl⟩ : ∃ k, n = k + 1 := ⟨n - 1, by omega⟩
  rw [Nat.add_sub_cancel] at *
  rw [Nat.pow_succ, Nat.mod_mul, h]
  omega
theorem bitO_half (a n : Nat) : bitO a ((n : Int) - 1) = decide (2 ^ n ≤ 2 * (a % 2 ^ n)) := by
  unfold bitO
  rcases Nat.eq_zero_or_pos n with rfl | hn
  · rw [if_pos (by omega)]
    exact (decide_eq_false (by omega)).symm
  · rw [if_neg (by omega), show ((n : Int) - 1).toNat = n - 1 from by omega]
    exact decide_eq_decide.2 (bit_half hn)
def AnsZ (B : Nat) (w' : World) (v : Value) (z : Int) : Prop :=
  ∃ p m zs, v = ZV (decide (z < 0)) p m m ∧ Own B w' p m zs ∧ Nf B64 zs z.natAbs ∧ m ≤ 8192
theorem iv_lt (s : Bool) (n : Nat) : decide (iv s n < 0) = (s && decide (0 < n)) := by
  cases s
  · simp [iv]
  · simp only [iv, if_true, Bool.true_and]; exact decide_eq_decide.2 (by omega)
theorem AnsZ.mk {B : Nat} {w' : World} {p : Option Addr} {m : Nat} {zs : List Nat} {q : Nat} (s : Bool) (ho : Own B w' p m zs) (hn : Nf B64 zs q) (hm : m ≤ 8192) : AnsZ B w' (ZV (s && decide (0 < m)) p m m) (iv s q) :=
  ⟨p, m, zs, by rw [iv_lt, hn.lenpos ho.len], ho, by rw [iv_natAbs]; exact hn, hm⟩
theorem own_set2 {B b : Nat} {w' : World} {p : Option Addr} {m : Nat} {zs : List Nat} (h : Own B w' p m zs) {r : Nat} (hr : r < B) (hb : b ≤ B) (v0 v1 : Value) : Own b ((w'.setCell ⟨r, 0, none⟩ v0).setCell ⟨r, 1, none⟩ v1) p m zs :=
  ((h.setOld _ _ _ hr).setOld _ _ _ hr).mono hb
theorem AnsZ.below {B : Nat} {w w' : World} {v : Value} {z : Int} (h : AnsZ B w v z) (hb : Below w.heap.size w w') : AnsZ B w' v z := by
  obtain ⟨p, m, zs, rfl, ho, hn, hm⟩ := h
  exact ⟨p, m, zs, rfl, ho.below hb, hn, hm⟩
abbrev FR (s : Bool) (p : Option Addr) (m c : Nat) (x : Bool) (h : Int) : Value := .agg #[.bool s, .slice p m c, .bool x, .int .i64 h]
structure B4q (W : World) (g : Nat) (v0 v1 v2 v3 : Value) : Prop where
  c0 : W.cell? ⟨g, 0, none⟩ = some v0
  c1 : W.cell? ⟨g, 1, none⟩ = some v1
  c2 : W.cell? ⟨g, 2, none⟩ = some v2
  c3 : W.cell? ⟨g, 3, none⟩ = some v3
  f0 : W.frozen? ⟨g, 0, none⟩ = false
  f1 : W.frozen? ⟨g, 1, none⟩ = false
  f2 : W.frozen? ⟨g, 2, none⟩ = false
  f3 : W.frozen? ⟨g, 3, none⟩ = false
theorem B4q.below {W W' : World} {g : Nat} {v0 v1 v2 v3 : Value} (h : B4q W g v0 v1 v2 v3) (hb : Below W.heap.size W W') : B4q W' g v0 v1 v2 v3 := by
  have hl : g < W.heap.size := World.block_lt_of_cell? W _ h.c0
  exact ⟨(hb.cell (p := ⟨g, 0, none⟩) hl).trans h.c0, (hb.cell (p := ⟨g, 1, none⟩) hl).trans h.c1, (hb.cell (p := ⟨g, 2, none⟩) hl).trans h.c2, (hb.cell (p := ⟨g, 3, none⟩) hl).trans h.c3,
    (hb.frozen (p := ⟨g, 0, none⟩) hl).trans h.f0, (hb.frozen (p := ⟨g, 1, none⟩) hl).trans h.f1, (hb.frozen (p := ⟨g, 2, none⟩) hl).trans h.f2, (hb.frozen (p := ⟨g, 3, none⟩) hl).trans h.f3⟩
theorem B4q.new (w : World) (ty : TypeId) (v0 v1 v2 v3 : Value) : B4q (w.alloc (.cells #[v0, v1, v2, v3] ty)) w.heap.size v0 v1 v2 v3 :=
  ⟨by go_simp, by go_simp, by go_simp, by go_simp, by go_simp, by go_simp, by go_simp, by go_simp⟩
theorem Box.lt {W : World} {g : Nat} {v0 v1 : Value} (h : Box W g v0 v1) : g < W.heap.size := World.block_lt_of_cell? W _ h.c0
theorem B4q.lt {W : World} {g : Nat} {v0 v1 v2 v3 : Value} (h : B4q W g v0 v1 v2 v3) : g < W.heap.size := World.block_lt_of_cell? W _ h.c0
theorem tz_lt {a k n : Nat} (h : TzIs a k) : decide (k < n) = decide (a % 2 ^ n ≠ 0) := by
  by_cases hk : k < n
  · rw [decide_eq_true hk, decide_eq_true]
    intro e
    have := h.ge e
    omega
  · rw [decide_eq_false hk, decide_eq_false]
    intro e
    apply e
    have h1 := Nat.dvd_of_mod_eq_zero h.1
    exact Nat.mod_eq_zero_of_dvd (Nat.dvd_trans (Nat.pow_dvd_pow 2 (by omega)) h1)
theorem Own.setNot {B : Nat} {w : World} {p : Option Addr} {m : Nat} {zs : List Nat} (h : Own B w p m zs) (g2 o2 : Nat) (v : Value) (hne : ∀ g, p = some ⟨g, 0, none⟩ → 0 < m → g ≠ g2) : Own B (w.setCell ⟨g2, o2, none⟩ v) p m zs := by
  refine ⟨h.len, h.dig, ?_⟩
  rcases h.mem with h0 | ⟨g, hp, hB, hr⟩
  · exact .inl h0
  · by_cases hm : m = 0
    · exact .inl hm
    · exact .inr ⟨g, hp, hB, hr.oth g2 o2 v (hne g hp (by omega))⟩
theorem half_lt {a n : Nat} {h : Int} (hb : false = bitO a ((n : Int) - 1)) (hh : h = -1) : HfIs (a % 2 ^ n) (2 ^ n) h := by
  rw [bitO_half] at hb
  have := of_decide_eq_false hb.symm
  exact .inl ⟨by omega, hh⟩
theorem half_ge {a n k : Nat} {h : Int} (hb : true = bitO a ((n : Int) - 1)) (ht : TzIs a k) (hh : h = if (k : Int) < (n : Int) - 1 then 1 else 0) : HfIs (a % 2 ^ n) (2 ^ n) h := by
  have h0 : 0 < n := by
    rcases Nat.eq_zero_or_pos n with rfl | h
    · unfold bitO at hb; rw [if_pos (by omega)] at hb; cases hb
    · exact h
  have h2 : a / 2 ^ (n - 1) % 2 = 1 := by
    unfold bitO at hb
    rw [if_neg (by omega), show ((n : Int) - 1).toNat = n - 1 from by omega] at hb
    exact of_decide_eq_true hb.symm
  have h1 := of_decide_eq_true ((bitO_half a n).symm.trans hb.symm)
  have h3 := half_eq h0 h2
  have h4 := tz_lt (n := n - 1) ht
  by_cases hk : k < n - 1
  · rw [if_pos (by omega)] at hh
    rw [decide_eq_true hk] at h4
    have := of_decide_eq_true h4.symm
    have : 2 * (a % 2 ^ n) ≠ 2 ^ n := fun e => this (h3.2 e)
    exact .inr (.inr ⟨by omega, hh⟩)
  · rw [if_neg (by omega)] at hh
    rw [decide_eq_false hk] at h4
    have := of_decide_eq_false h4.symm
    have : 2 * (a % 2 ^ n) = 2 ^ n := h3.1 (by omega)
    exact .inr (.inl ⟨this, hh⟩)
def sgnI (z : Int) : Int := if z < 0 then -1 else if z = 0 then 0 else 1
theorem bits_zero (a : Nat) : bitsN a = 0 ↔ a = 0 := by
  have h1 := lt_pow_bits a 0
  constructor
  · intro e
    have := h1.2 (by omega)
    omega
  · rintro rfl
    have := h1.1 (by omega)
    omega
theorem sign_any {p : Option Addr} {m c : Nat} {xs : List Nat} {a : Nat} {w : World} (s : Bool) (h : Num w p m c xs a) :
    Calls Tryz.prog 48 #[ZV s p m c] w fun e w' => e = .returned (.int .i64 (sgnI (iv s a))) ∧ Below w.heap.size w w' := by
  have H : Hid (Num w p m c xs a) := h
  have hm := h.le
  obtain ⟨bb, hbb⟩ : ∃ bb, bb = bitsN a := ⟨_, rfl⟩
  have HBB : Hid (bb = bitsN a) := hbb
  clear h hbb
  by_cases ha : a = 0
  · have hb0 : bb = 0 := by rw [HBB.out]; exact (bits_zero a).2 ha
    have hr : sgnI (iv s a) = 0 := by rw [ha]; cases s <;> rfl
    rw [hr]
    clear hr ha
    go_enter Tryz.func48, Tryz.ntmps48
    go_wp2_with fail
    refine (bits_any (H.out.at_.alloc _) (by omega)).mono ?_
    rintro e w1 ⟨rfl, hw⟩
    rw [H.out.nf.val, ← HBB.out, hb0]
    have hbw : Below w.heap.size w w1 := by rw [hw]; exact below1 w _
    clear hw hb0
    go_wp2_with fail
    go_ret
    exact ⟨rfl, hbw⟩
  · have hb0 : ((bb : Int) == 0) = false := by have := mt (bits_zero a).1 ha; rw [← HBB.out] at this; simpa using this
    obtain ⟨sg, hsg⟩ : ∃ sg, sg = sgnI (iv s a) := ⟨_, rfl⟩
    rw [← hsg]
    have HSG : Hid (sg = if s = true then -1 else 1) := by
      show _ = _
      rw [hsg]; unfold sgnI
      cases s
      · rw [iv_f, if_neg (by omega), if_neg (by omega), if_neg (by simp)]
      · rw [iv_t, if_pos (by omega), if_pos rfl]
    clear hsg ha
    cases s
    · go_enter Tryz.func48, Tryz.ntmps48
      go_wp2_with fail
      refine (bits_any (H.out.at_.alloc _) (by omega)).mono ?_
      rintro e w1 ⟨rfl, hw⟩
      rw [H.out.nf.val, ← HBB.out]
      have hbw : Below w.heap.size w w1 := by rw [hw]; exact below1 w _
      have B0 : Box (w.alloc (.cells #[.bool false, .slice p m c] 31)) w.heap.size (.bool false) (.slice p m c) := ⟨by go_simp, by go_simp, by go_simp, by go_simp⟩
      obtain ⟨c0, c1, f0, f1⟩ := B0
      rw [← hw] at c0 c1 f0 f1
      clear hw
      go_wp2_with fail
      go_ret
      exact ⟨by rw [HSG.out]; rfl, hbw⟩
    · go_enter Tryz.func48, Tryz.ntmps48
      go_wp2_with fail
      refine (bits_any (H.out.at_.alloc _) (by omega)).mono ?_
      rintro e w1 ⟨rfl, hw⟩
      rw [H.out.nf.val, ← HBB.out]
      have hbw : Below w.heap.size w w1 := by rw [hw]; exact below1 w _
      have B0 : Box (w.alloc (.cells #[.bool true, .slice p m c] 31)) w.heap.size (.bool true) (.slice p m c) := ⟨by go_simp, by go_simp, by go_simp, by go_simp⟩
      obtain ⟨c0, c1, f0, f1⟩ := B0
      rw [← hw] at c0 c1 f0 f1
      clear hw
      go_wp2_with fail
      go_ret
      exact ⟨by rw [HSG.out]; rfl, hbw⟩
theorem Box.put {W : World} {g : Nat} {v0 v1 : Value} (h : Box W g v0 v1) (u0 u1 : Value) : Box ((W.setCell ⟨g, 0, none⟩ u0).setCell ⟨g, 1, none⟩ u1) g u0 u1 := by
  obtain ⟨c0, c1, f0, f1⟩ := h
  exact ⟨by go_simp, by go_simp, by go_simp, by go_simp⟩
structure ZR (w : World) (s : Bool) (p : Option Addr) (m : Nat) (z : Int) : Prop where
  ex : ∃ zs, At32 w p m m zs ∧ Nf B32 zs z.natAbs
  sg : s = decide (z < 0)
theorem ZR.below {w w' : World} {s : Bool} {p : Option Addr} {m : Nat} {z : Int} (h : ZR w s p m z) (hb : Below w.heap.size w w') : ZR w' s p m z := by
  obtain ⟨zs, hA, hN⟩ := h.ex
  exact ⟨⟨zs, hA.below hb, hN⟩, h.sg⟩
theorem ZR.cast {w : World} {s : Bool} {p : Option Addr} {m : Nat} {z z' : Int} (h : ZR w s p m z) (e : z = z') : ZR w s p m z' := e ▸ h
theorem ZR.zero {w : World} {s : Bool} {p : Option Addr} {m : Nat} {z : Int} (h : ZR w s p m z) : m = 0 ↔ z = 0 := by
  obtain ⟨zs, hA, hN⟩ := h.ex
  have h1 := hN.zero_iff B32_one
  have h2 := hA.len
  constructor
  · intro e
    have := h1.1 (List.eq_nil_of_length_eq_zero (by omega))
    omega
  · intro e
    have := h1.2 (by omega)
    rw [← h2, this]; rfl
theorem ZR.iv {w : World} {s : Bool} {p : Option Addr} {m : Nat} {z : Int} (h : ZR w s p m z) : Go.Proofs.YtidggnjnlhjhlabGreatDoor.iv s z.natAbs = z := by rw [h.sg]; exact iv_abs z
theorem ZR.set {w : World} {s : Bool} {g m : Nat} {z : Int} (h : ZR w s (some ⟨g, 0, none⟩) m z) (g2 o2 : Nat) (v : Value) (hne : g ≠ g2) : ZR (w.setCell ⟨g2, o2, none⟩ v) s (some ⟨g, 0, none⟩) m z := by
  obtain ⟨zs, hA, hN⟩ := h.ex
  exact ⟨⟨zs, hA.setOther g2 o2 v hne, hN⟩, h.sg⟩
theorem Own.drewq {B : Nat} {w : World} {p : Option Addr} {m : Nat} {zs : List Nat} (h : Own B w p m zs) : Own B w.drew p m zs := by
  refine ⟨h.len, h.dig, ?_⟩
  rcases h.mem with h0 | ⟨g, hp, hB, hr⟩
  · exact .inl h0
  · exact .inr ⟨g, hp, hB, hr.drew⟩
theorem rounded_f (p : Option Addr) (m : Nat) (s x : Bool) (hf : Int) (w : World) :
    Calls Tryz.prog 96 #[FR s p m m x hf, .bool false] w fun e w' => e = .returned (ZV (s && decide (0 < m)) p m m) ∧ Below w.heap.size w w' := by
  go_enter Tryz.func96, Tryz.ntmps96
  go_wp2_with fail
  obtain ⟨W0, hW0⟩ : ∃ W0, W0 = ((w.alloc (.cells #[.bool s, .slice p m m, .bool x, .int .i64 hf] 113)).alloc (.cells #[.bool false, .slice none 0 0] 31)) := ⟨_, rfl⟩
  have Xf : Hid (B4q W0 (w.heap.size) (.bool s) (.slice p m m) (.bool x) (.int .i64 hf)) := by rw [hW0]; exact ⟨by go_simp, by go_simp, by go_simp, by go_simp, by go_simp, by go_simp, by go_simp, by go_simp⟩
  have Xr : Hid (Box W0 (w.heap.size + 1) (.bool false) (.slice none 0 0)) := by rw [hW0]; exact ⟨by go_simp, by go_simp, by go_simp, by go_simp⟩
  have hb0 : Below w.heap.size w W0 := by rw [hW0]; exact below2 w _ _
  rw [← hW0]
  clear hW0
  have hbw : Below w.heap.size w w := Below.refl _ _
  obtain ⟨gr, hgr⟩ : ∃ g, g = w.heap.size + 1 := ⟨_, rfl⟩
  have HGr : Hid (w.heap.size ≤ gr) := by rw [hgr]; show _ ≤ _; omega
  rw [← hgr] at Xr
  try rw [← hgr]
  obtain ⟨gf, hgf⟩ : ∃ g, g = w.heap.size := ⟨_, rfl⟩
  have HGf : Hid (w.heap.size ≤ gf) := by rw [hgf]; show _ ≤ _; omega
  rw [← hgf] at Xf
  try rw [← hgf]
  have HGD : Hid (gf ≠ gr ∧ gr ≠ gf) := by rw [hgf, hgr]; exact ⟨by omega, by omega⟩
  clear hgf hgr
  replace hbw := Below.on hbw hb0
  clear hb0
  refine (signed_any s p m m W0).mono ?_
  rintro e w1 ⟨rfl, hb1⟩
  replace Xf : Hid _ := Xf.out.below hb1
  replace Xr : Hid _ := Xr.out.below hb1
  replace hbw := Below.on hbw hb1
  clear hb1
  obtain ⟨b, hb⟩ : ∃ b, b = (s && decide (0 < m)) := ⟨_, rfl⟩
  rw [← hb]
  have HBB : Hid (b = (s && decide (0 < m))) := hb
  clear hb
  obtain ⟨cr0, cr1, fr0, fr1⟩ := Xr.out
  have hner := Xr.out.lt
  go_wp2_with fail
  refine bodyPost_ret (v := ZV b p m m) (by rw [results_cell1 rfl]; go_simp) rfl ⟨by rw [HBB.out], ?_⟩
  exact bSet (bSet hbw _ _ _ HGr.out) _ _ _ HGr.out

theorem rounded_t {B : Nat} {p : Option Addr} {m : Nat} {zs : List Nat} {q : Nat} {w : World} (s x : Bool) (hf : Int) (ho : Own B w p m zs) (hn : Nf B64 zs q) (hm : m ≤ 8192) (hq : q + 1 < LIM) :
    Calls Tryz.prog 96 #[FR s p m m x hf, .bool true] w fun e w' => ∃ v, e = .returned v ∧ AnsZ w.heap.size w' v (iv s (q + 1)) ∧ Below w.heap.size w w' := by
  have HO : Hid (Own B w p m zs) := ho
  have HN : Hid (Nf B64 zs q ∧ m ≤ 8192 ∧ q + 1 < LIM) := ⟨hn, hm, hq⟩
  clear ho hn hm hq
  go_enter Tryz.func96, Tryz.ntmps96
  go_wp2_with fail
  obtain ⟨W0, hW0⟩ : ∃ W0, W0 = ((w.alloc (.cells #[.bool s, .slice p m m, .bool x, .int .i64 hf] 113)).alloc (.cells #[.bool false, .slice none 0 0] 31)) := ⟨_, rfl⟩
  have Xf : Hid (B4q W0 (w.heap.size) (.bool s) (.slice p m m) (.bool x) (.int .i64 hf)) := by rw [hW0]; exact ⟨by go_simp, by go_simp, by go_simp, by go_simp, by go_simp, by go_simp, by go_simp, by go_simp⟩
  have Xr : Hid (Box W0 (w.heap.size + 1) (.bool false) (.slice none 0 0)) := by rw [hW0]; exact ⟨by go_simp, by go_simp, by go_simp, by go_simp⟩
  have hb0 : Below w.heap.size w W0 := by rw [hW0]; exact below2 w _ _
  rw [← hW0]
  clear hW0
  have hbw : Below w.heap.size w w := Below.refl _ _
  obtain ⟨gr, hgr⟩ : ∃ g, g = w.heap.size + 1 := ⟨_, rfl⟩
  have HGr : Hid (w.heap.size ≤ gr) := by rw [hgr]; show _ ≤ _; omega
  rw [← hgr] at Xr
  try rw [← hgr]
  obtain ⟨gf, hgf⟩ : ∃ g, g = w.heap.size := ⟨_, rfl⟩
  have HGf : Hid (w.heap.size ≤ gf) := by rw [hgf]; show _ ≤ _; omega
  rw [← hgf] at Xf
  try rw [← hgf]
  have HGD : Hid (gf ≠ gr ∧ gr ≠ gf) := by rw [hgf, hgr]; exact ⟨by omega, by omega⟩
  clear hgf hgr
  replace HO : Hid (Own B W0 p m zs) := HO.out.below hb0
  replace hbw := Below.on hbw hb0
  clear hb0
  have XfD : Hid (B4q W0.drew gf (.bool s) (.slice p m m) (.bool x) (.int .i64 hf)) := ⟨Xf.out.c0, Xf.out.c1, Xf.out.c2, Xf.out.c3, Xf.out.f0, Xf.out.f1, Xf.out.f2, Xf.out.f3⟩
  have XrD : Hid (Box W0.drew gr (.bool false) (.slice none 0 0)) := ⟨Xr.out.c0, Xr.out.c1, Xr.out.f0, Xr.out.f1⟩
  have HOD : Hid (Own B W0.drew p m zs) := HO.out.drewq
  have hbw2 := bDrew1 hbw
  clear Xf Xr HO hbw
  have Xf := XfD
  have Xr := XrD
  have HO := HOD
  have hbw := hbw2
  clear XfD XrD HOD hbw2
  have HJ : Hid ((fun W' : World => W'.cell? ⟨gf, 1, none⟩ = some (.slice p m m)) W0.drew) := Xf.out.c1
  refine wp_region_J (fun W' => W'.cell? ⟨gf, 1, none⟩ = some (.slice p m m)) (by kernel_rfl) ?_
  refine wpJ_tk 0 (v := ?v1x0) rfl ?hy1x0 HJ.out ?_
  case hy1x0 => (intro W' hJ; have j1 := hJ; go_simp; first | done | with_reducible rfl)
  refine wpJ_tk 1 (v := ?v2x1) rfl ?hy2x1 HJ.out ?_
  case hy2x1 => (intro W' hJ; have j1 := hJ; go_simp; first | done | with_reducible rfl)
  generalize W0.drew = W1 at *
  refine wpJ_on 2 rfl fun K hK => ?_
  go_simp
  rw [show Value.int IntKind.u64 1 = U 1 from rfl]
  refine (word_any 1 W1 (by decide)).mono ?_
  rintro e w2 ⟨p2, m2, z2, rfl, ho2, hn2, hm2, hb2⟩
  replace Xf : Hid _ := Xf.out.below hb2
  replace Xr : Hid _ := Xr.out.below hb2
  replace HO : Hid (Own B w2 p m zs) := HO.out.below hb2
  replace hbw := Below.on hbw hb2
  clear hb2
  have N2 : Hid (Num w2 p2 m2 m2 z2 1) := Num.of ho2 hn2 (by omega)
  clear ho2 hn2 HJ
  have HJ : Hid ((fun W' : World => W'.cell? ⟨gf, 1, none⟩ = some (.slice p m m)) w2) := Xf.out.c1
  refine hK _ _ HJ.out ?_
  clear hK
  have HRL : Hid (gr < w2.heap.size ∧ w.heap.size ≤ w2.heap.size) := ⟨Xr.out.lt, hbw.size⟩
  refine wpJ_on 3 rfl fun K hK => ?_
  go_simp
  have M : Num w2 p m m zs q := Num.of HO.out HN.out.1 HN.out.2.1
  refine (add_ord M.at_ N2.out.at_ M.nf N2.out.nf M.le N2.out.le).mono ?_
  rintro e w3 ⟨ha, hb3⟩
  clear M
  obtain ⟨p3, m3, z3, rfl, ho3, hn3, hm3⟩ := ha.ok HN.out.2.2
  clear ha
  replace Xf : Hid _ := Xf.out.below hb3
  replace Xr : Hid _ := Xr.out.below hb3
  replace HO : Hid (Own B w3 p m zs) := HO.out.below hb3
  replace N2 : Hid _ := N2.out.below hb3
  replace hbw := Below.on hbw hb3
  clear hb3
  have HO3 : Hid (Own w2.heap.size w3 p3 m3 z3) := ho3
  have HN3 : Hid (Nf B64 z3 (q + 1) ∧ m3 ≤ 8192) := ⟨hn3, hm3⟩
  clear ho3 hn3 hm3 HJ
  have HJ : Hid ((fun W' : World => W'.cell? ⟨gf, 1, none⟩ = some (.slice p m m)) w3) := Xf.out.c1
  refine hK _ _ HJ.out ?_
  clear hK
  refine wpJ_tk 4 (v := ?v3x4) rfl ?hy3x4 HJ.out ?_
  case hy3x4 => (intro W' hJ; have j1 := hJ; go_simp; first | done | with_reducible rfl)
  refine wpJ_tk 5 (v := ?v4x5) rfl ?hy4x5 HJ.out ?_
  case hy4x5 => (intro W' hJ; have j1 := hJ; go_simp; first | done | with_reducible rfl)
  refine wpJ_tk 6 (v := ?v5x6) rfl ?hy5x6 HJ.out ?_
  case hy5x6 => (intro W' hJ; have j1 := hJ; go_simp; first | done | with_reducible rfl)
  refine wpJ_tk 7 (v := ?v6x7) rfl ?hy6x7 HJ.out ?_
  case hy6x7 => (intro W' hJ; have j1 := hJ; go_simp; first | done | with_reducible rfl)
  refine wpJ_done (by kernel_rfl) ?_ _
  clear HJ
  obtain ⟨cf0, cf1, cf2, cf3, ff0, ff1, ff2, ff3⟩ := Xf.out
  have hnef : gf < w3.heap.size := World.block_lt_of_cell? w3 _ cf0
  go_wp2_with fail
  clear cf0 cf1 cf2 cf3 ff0 ff1 ff2 ff3 hnef
  refine (signed_any s p3 m3 m3 w3).mono ?_
  rintro e w4 ⟨rfl, hb4⟩
  replace Xf : Hid _ := Xf.out.below hb4
  replace Xr : Hid _ := Xr.out.below hb4
  replace HO : Hid (Own B w4 p m zs) := HO.out.below hb4
  replace N2 : Hid _ := N2.out.below hb4
  replace HO3 : Hid (Own w2.heap.size w4 p3 m3 z3) := HO3.out.below hb4
  replace hbw := Below.on hbw hb4
  clear hb4
  obtain ⟨b, hb⟩ : ∃ b, b = (s && decide (0 < m3)) := ⟨_, rfl⟩
  rw [← hb]
  have HBB : Hid (b = (s && decide (0 < m3))) := hb
  clear hb
  obtain ⟨cr0, cr1, fr0, fr1⟩ := Xr.out
  have hner := Xr.out.lt
  go_wp2_with fail
  refine bodyPost_ret (v := ZV b p3 m3 m3) (by rw [results_cell1 rfl]; go_simp) rfl ⟨_, rfl, ?_, ?_⟩
  · rw [HBB.out]
    exact AnsZ.mk s (own_set2 HO3.out HRL.out.1 HRL.out.2 _ _) HN3.out.1 HN3.out.2
  · exact bSet (bSet hbw _ _ _ HGr.out) _ _ _ HGr.out
structure FrIs (B : Nat) (w : World) (s : Bool) (a d : Nat) (p : Option Addr) (m : Nat) (zs : List Nat) (x : Bool) (hf : Int) : Prop where
  own : Own B w p m zs
  nf : Nf B64 zs (a / d)
  le : m ≤ 8192
  ex : x = decide (a % d ≠ 0)
  hf : HfIs (a % d) d hf
  lim : a < LIM
theorem own_off {B : Nat} {w : World} {p : Option Addr} {m : Nat} {zs : List Nat} (h : Own B w p m zs) {gg : Nat} (hg : w.heap.size ≤ gg) : ∀ g, p = some ⟨g, 0, none⟩ → 0 < m → g ≠ gg := by
  intro g hp h0
  rcases h.mem with h1 | ⟨g3, hp3, hB3, hr3⟩
  · omega
  · rw [hp] at hp3
    simp only [Option.some.injEq, Addr.mk.injEq, and_true] at hp3
    have := hr3.lt h0
    omega
theorem FrIs.below {B : Nat} {w w' : World} {s : Bool} {a d : Nat} {p : Option Addr} {m : Nat} {zs : List Nat} {x : Bool} {hf : Int} (h : FrIs B w s a d p m zs x hf) (hb : Below w.heap.size w w') : FrIs B w' s a d p m zs x hf :=
  ⟨h.own.below hb, h.nf, h.le, h.ex, h.hf, h.lim⟩
theorem FrIs.up {B : Nat} {w : World} {s : Bool} {a d : Nat} {p : Option Addr} {m : Nat} {zs : List Nat} {hf : Int} (h : FrIs B w s a d p m zs true hf) : a / d + 1 < LIM := by
  have := ce_le (of_decide_eq_true h.ex.symm)
  have := h.lim
  omega
theorem FrIs.half {B : Nat} {w : World} {s : Bool} {a d : Nat} {p : Option Addr} {m : Nat} {zs : List Nat} {x : Bool} {hf : Int} (h : FrIs B w s a d p m zs x hf) (hd : 0 < d) (h0 : 0 ≤ hf) : x = true := by
  rw [h.ex]
  refine decide_eq_true ?_
  rcases h.hf with ⟨_, e⟩ | ⟨e, _⟩ | ⟨e, _⟩ <;> omega

theorem floor_any00 {B : Nat} {p : Option Addr} {m : Nat} {zs : List Nat} {a d : Nat} {w : World} (hf : Int) (h : FrIs B w false a d p m zs false hf) (hB : B ≤ w.heap.size) :
    Calls Tryz.prog 86 #[FR false p m m false hf] w fun e w' => ∃ v, e = .returned v ∧ AnsZ B w' v (fl false a d) ∧ Below w.heap.size w w' := by
  have H : Hid (FrIs B w false a d p m zs false hf) := h
  have HB : Hid (B ≤ w.heap.size) := hB
  have HVAL : Hid (fl false a d = iv false (a / d)) := by
    have e := h.ex
    show _ = _
    unfold fl
    rw [← e]; rfl
  clear h hB
  rw [HVAL.out]
  clear HVAL
  have HOF : Hid (∀ gg, w.heap.size ≤ gg → ∀ g, p = some ⟨g, 0, none⟩ → 0 < m → g ≠ gg) := fun gg hg => own_off H.out.own hg
  go_enter Tryz.func86, Tryz.ntmps86
  go_wp2_with fail
  obtain ⟨W0, hW0⟩ : ∃ W0, W0 = ((w.alloc (.cells #[.bool false, .slice p m m, .bool false, .int .i64 hf] 113)).alloc (.cells #[.bool false, .slice none 0 0] 31)) := ⟨_, rfl⟩
  have Xf : Hid (B4q W0 (w.heap.size) (.bool false) (.slice p m m) (.bool false) (.int .i64 hf)) := by rw [hW0]; exact ⟨by go_simp, by go_simp, by go_simp, by go_simp, by go_simp, by go_simp, by go_simp, by go_simp⟩
  have Xr : Hid (Box W0 (w.heap.size + 1) (.bool false) (.slice none 0 0)) := by rw [hW0]; exact ⟨by go_simp, by go_simp, by go_simp, by go_simp⟩
  have hb0 : Below w.heap.size w W0 := by rw [hW0]; exact below2 w _ _
  rw [← hW0]
  clear hW0
  have hbw : Below w.heap.size w w := Below.refl _ _
  obtain ⟨gr, hgr⟩ : ∃ g, g = w.heap.size + 1 := ⟨_, rfl⟩
  have HGr : Hid (w.heap.size ≤ gr) := by rw [hgr]; show _ ≤ _; omega
  rw [← hgr] at Xr
  try rw [← hgr]
  obtain ⟨gf, hgf⟩ : ∃ g, g = w.heap.size := ⟨_, rfl⟩
  have HGf : Hid (w.heap.size ≤ gf) := by rw [hgf]; show _ ≤ _; omega
  rw [← hgf] at Xf
  try rw [← hgf]
  have HGD : Hid (gf ≠ gr ∧ gr ≠ gf) := by rw [hgf, hgr]; exact ⟨by omega, by omega⟩
  clear hgf hgr
  replace H : Hid _ := H.out.below hb0
  replace hbw := Below.on hbw hb0
  clear hb0
  refine (rounded_f p m false false hf W0).mono ?_
  rintro e w9 ⟨rfl, hb9⟩
  replace Xf : Hid _ := Xf.out.below hb9
  replace Xr : Hid _ := Xr.out.below hb9
  replace H : Hid _ := H.out.below hb9
  replace hbw := Below.on hbw hb9
  clear hb9
  obtain ⟨b9, hb9⟩ : ∃ b, b = (false && decide (0 < m)) := ⟨_, rfl⟩
  rw [← hb9]
  have HB9 : Hid (b9 = (false && decide (0 < m))) := hb9
  clear hb9
  obtain ⟨cr0, cr1, fr0, fr1⟩ := Xr.out
  have hner := Xr.out.lt
  go_wp2_with fail
  refine bodyPost_ret (v := ZV b9 p m m) (by rw [results_cell1 rfl]; go_simp) rfl ⟨_, rfl, ?_, ?_⟩
  · rw [HB9.out]
    exact AnsZ.mk _ ((H.out.own.setNot _ _ _ (HOF.out _ HGr.out)).setNot _ _ _ (HOF.out _ HGr.out)) H.out.nf H.out.le
  · exact bSet (bSet hbw _ _ _ HGr.out) _ _ _ HGr.out
theorem floor_any01 {B : Nat} {p : Option Addr} {m : Nat} {zs : List Nat} {a d : Nat} {w : World} (hf : Int) (h : FrIs B w false a d p m zs true hf) (hB : B ≤ w.heap.size) :
    Calls Tryz.prog 86 #[FR false p m m true hf] w fun e w' => ∃ v, e = .returned v ∧ AnsZ B w' v (fl false a d) ∧ Below w.heap.size w w' := by
  have H : Hid (FrIs B w false a d p m zs true hf) := h
  have HB : Hid (B ≤ w.heap.size) := hB
  have HVAL : Hid (fl false a d = iv false (a / d)) := by
    have e := h.ex
    show _ = _
    unfold fl
    rw [← e]; rfl
  clear h hB
  rw [HVAL.out]
  clear HVAL
  have HOF : Hid (∀ gg, w.heap.size ≤ gg → ∀ g, p = some ⟨g, 0, none⟩ → 0 < m → g ≠ gg) := fun gg hg => own_off H.out.own hg
  go_enter Tryz.func86, Tryz.ntmps86
  go_wp2_with fail
  obtain ⟨W0, hW0⟩ : ∃ W0, W0 = ((w.alloc (.cells #[.bool false, .slice p m m, .bool true, .int .i64 hf] 113)).alloc (.cells #[.bool false, .slice none 0 0] 31)) := ⟨_, rfl⟩
  have Xf : Hid (B4q W0 (w.heap.size) (.bool false) (.slice p m m) (.bool true) (.int .i64 hf)) := by rw [hW0]; exact ⟨by go_simp, by go_simp, by go_simp, by go_simp, by go_simp, by go_simp, by go_simp, by go_simp⟩
  have Xr : Hid (Box W0 (w.heap.size + 1) (.bool false) (.slice none 0 0)) := by rw [hW0]; exact ⟨by go_simp, by go_simp, by go_simp, by go_simp⟩
  have hb0 : Below w.heap.size w W0 := by rw [hW0]; exact below2 w _ _
  rw [← hW0]
  clear hW0
  have hbw : Below w.heap.size w w := Below.refl _ _
  obtain ⟨gr, hgr⟩ : ∃ g, g = w.heap.size + 1 := ⟨_, rfl⟩
  have HGr : Hid (w.heap.size ≤ gr) := by rw [hgr]; show _ ≤ _; omega
  rw [← hgr] at Xr
  try rw [← hgr]
  obtain ⟨gf, hgf⟩ : ∃ g, g = w.heap.size := ⟨_, rfl⟩
  have HGf : Hid (w.heap.size ≤ gf) := by rw [hgf]; show _ ≤ _; omega
  rw [← hgf] at Xf
  try rw [← hgf]
  have HGD : Hid (gf ≠ gr ∧ gr ≠ gf) := by rw [hgf, hgr]; exact ⟨by omega, by omega⟩
  clear hgf hgr
  replace H : Hid _ := H.out.below hb0
  replace hbw := Below.on hbw hb0
  clear hb0
  refine (rounded_f p m false true hf W0).mono ?_
  rintro e w9 ⟨rfl, hb9⟩
  replace Xf : Hid _ := Xf.out.below hb9
  replace Xr : Hid _ := Xr.out.below hb9
  replace H : Hid _ := H.out.below hb9
  replace hbw := Below.on hbw hb9
  clear hb9
  obtain ⟨b9, hb9⟩ : ∃ b, b = (false && decide (0 < m)) := ⟨_, rfl⟩
  rw [← hb9]
  have HB9 : Hid (b9 = (false && decide (0 < m))) := hb9
  clear hb9
  obtain ⟨cr0, cr1, fr0, fr1⟩ := Xr.out
  have hner := Xr.out.lt
  go_wp2_with fail
  refine bodyPost_ret (v := ZV b9 p m m) (by rw [results_cell1 rfl]; go_simp) rfl ⟨_, rfl, ?_, ?_⟩
  · rw [HB9.out]
    exact AnsZ.mk _ ((H.out.own.setNot _ _ _ (HOF.out _ HGr.out)).setNot _ _ _ (HOF.out _ HGr.out)) H.out.nf H.out.le
  · exact bSet (bSet hbw _ _ _ HGr.out) _ _ _ HGr.out
theorem floor_any10 {B : Nat} {p : Option Addr} {m : Nat} {zs : List Nat} {a d : Nat} {w : World} (hf : Int) (h : FrIs B w true a d p m zs false hf) (hB : B ≤ w.heap.size) :
    Calls Tryz.prog 86 #[FR true p m m false hf] w fun e w' => ∃ v, e = .returned v ∧ AnsZ B w' v (fl true a d) ∧ Below w.heap.size w w' := by
  have H : Hid (FrIs B w true a d p m zs false hf) := h
  have HB : Hid (B ≤ w.heap.size) := hB
  have HVAL : Hid (fl true a d = iv true (a / d)) := by
    have e := h.ex
    show _ = _
    unfold fl
    rw [← e]; rfl
  clear h hB
  rw [HVAL.out]
  clear HVAL
  have HOF : Hid (∀ gg, w.heap.size ≤ gg → ∀ g, p = some ⟨g, 0, none⟩ → 0 < m → g ≠ gg) := fun gg hg => own_off H.out.own hg
  go_enter Tryz.func86, Tryz.ntmps86
  go_wp2_with fail
  obtain ⟨W0, hW0⟩ : ∃ W0, W0 = ((w.alloc (.cells #[.bool true, .slice p m m, .bool false, .int .i64 hf] 113)).alloc (.cells #[.bool false, .slice none 0 0] 31)) := ⟨_, rfl⟩
  have Xf : Hid (B4q W0 (w.heap.size) (.bool true) (.slice p m m) (.bool false) (.int .i64 hf)) := by rw [hW0]; exact ⟨by go_simp, by go_simp, by go_simp, by go_simp, by go_simp, by go_simp, by go_simp, by go_simp⟩
  have Xr : Hid (Box W0 (w.heap.size + 1) (.bool false) (.slice none 0 0)) := by rw [hW0]; exact ⟨by go_simp, by go_simp, by go_simp, by go_simp⟩
  have hb0 : Below w.heap.size w W0 := by rw [hW0]; exact below2 w _ _
  rw [← hW0]
  clear hW0
  have hbw : Below w.heap.size w w := Below.refl _ _
  obtain ⟨gr, hgr⟩ : ∃ g, g = w.heap.size + 1 := ⟨_, rfl⟩
  have HGr : Hid (w.heap.size ≤ gr) := by rw [hgr]; show _ ≤ _; omega
  rw [← hgr] at Xr
  try rw [← hgr]
  obtain ⟨gf, hgf⟩ : ∃ g, g = w.heap.size := ⟨_, rfl⟩
  have HGf : Hid (w.heap.size ≤ gf) := by rw [hgf]; show _ ≤ _; omega
  rw [← hgf] at Xf
  try rw [← hgf]
  have HGD : Hid (gf ≠ gr ∧ gr ≠ gf) := by rw [hgf, hgr]; exact ⟨by omega, by omega⟩
  clear hgf hgr
  replace H : Hid _ := H.out.below hb0
  replace hbw := Below.on hbw hb0
  clear hb0
  refine (rounded_f p m true false hf W0).mono ?_
  rintro e w9 ⟨rfl, hb9⟩
  replace Xf : Hid _ := Xf.out.below hb9
  replace Xr : Hid _ := Xr.out.below hb9
  replace H : Hid _ := H.out.below hb9
  replace hbw := Below.on hbw hb9
  clear hb9
  obtain ⟨b9, hb9⟩ : ∃ b, b = (true && decide (0 < m)) := ⟨_, rfl⟩
  rw [← hb9]
  have HB9 : Hid (b9 = (true && decide (0 < m))) := hb9
  clear hb9
  obtain ⟨cr0, cr1, fr0, fr1⟩ := Xr.out
  have hner := Xr.out.lt
  go_wp2_with fail
  refine bodyPost_ret (v := ZV b9 p m m) (by rw [results_cell1 rfl]; go_simp) rfl ⟨_, rfl, ?_, ?_⟩
  · rw [HB9.out]
    exact AnsZ.mk _ ((H.out.own.setNot _ _ _ (HOF.out _ HGr.out)).setNot _ _ _ (HOF.out _ HGr.out)) H.out.nf H.out.le
  · exact bSet (bSet hbw _ _ _ HGr.out) _ _ _ HGr.out
theorem floor_any11 {B : Nat} {p : Option Addr} {m : Nat} {zs : List Nat} {a d : Nat} {w : World} (hf : Int) (h : FrIs B w true a d p m zs true hf) (hB : B ≤ w.heap.size) :
    Calls Tryz.prog 86 #[FR true p m m true hf] w fun e w' => ∃ v, e = .returned v ∧ AnsZ B w' v (fl true a d) ∧ Below w.heap.size w w' := by
  have H : Hid (FrIs B w true a d p m zs true hf) := h
  have HB : Hid (B ≤ w.heap.size) := hB
  have HVAL : Hid (fl true a d = iv true (a / d + 1)) := by
    have e := h.ex
    show _ = _
    unfold fl
    rw [← e]; rfl
  clear h hB
  rw [HVAL.out]
  clear HVAL
  have HOF : Hid (∀ gg, w.heap.size ≤ gg → ∀ g, p = some ⟨g, 0, none⟩ → 0 < m → g ≠ gg) := fun gg hg => own_off H.out.own hg
  go_enter Tryz.func86, Tryz.ntmps86
  go_wp2_with fail
  obtain ⟨W0, hW0⟩ : ∃ W0, W0 = ((w.alloc (.cells #[.bool true, .slice p m m, .bool true, .int .i64 hf] 113)).alloc (.cells #[.bool false, .slice none 0 0] 31)) := ⟨_, rfl⟩
  have Xf : Hid (B4q W0 (w.heap.size) (.bool true) (.slice p m m) (.bool true) (.int .i64 hf)) := by rw [hW0]; exact ⟨by go_simp, by go_simp, by go_simp, by go_simp, by go_simp, by go_simp, by go_simp, by go_simp⟩
  have Xr : Hid (Box W0 (w.heap.size + 1) (.bool false) (.slice none 0 0)) := by rw [hW0]; exact ⟨by go_simp, by go_simp, by go_simp, by go_simp⟩
  have hb0 : Below w.heap.size w W0 := by rw [hW0]; exact below2 w _ _
  rw [← hW0]
  clear hW0
  have hbw : Below w.heap.size w w := Below.refl _ _
  obtain ⟨gr, hgr⟩ : ∃ g, g = w.heap.size + 1 := ⟨_, rfl⟩
  have HGr : Hid (w.heap.size ≤ gr) := by rw [hgr]; show _ ≤ _; omega
  rw [← hgr] at Xr
  try rw [← hgr]
  obtain ⟨gf, hgf⟩ : ∃ g, g = w.heap.size := ⟨_, rfl⟩
  have HGf : Hid (w.heap.size ≤ gf) := by rw [hgf]; show _ ≤ _; omega
  rw [← hgf] at Xf
  try rw [← hgf]
  have HGD : Hid (gf ≠ gr ∧ gr ≠ gf) := by rw [hgf, hgr]; exact ⟨by omega, by omega⟩
  clear hgf hgr
  replace H : Hid _ := H.out.below hb0
  replace hbw := Below.on hbw hb0
  clear hb0
  have HRL : Hid (gr < W0.heap.size ∧ w.heap.size ≤ W0.heap.size) := ⟨Xr.out.lt, hbw.size⟩
  refine (rounded_t _ _ _ H.out.own H.out.nf H.out.le H.out.up).mono ?_
  rintro e w9 ⟨v, rfl, hv, hb9⟩
  replace Xf : Hid _ := Xf.out.below hb9
  replace Xr : Hid _ := Xr.out.below hb9
  replace H : Hid _ := H.out.below hb9
  replace hbw := Below.on hbw hb9
  clear hb9
  obtain ⟨p9, m9, z9, rfl, ho, hn, hm⟩ := hv
  have HO9 : Hid (Own W0.heap.size w9 p9 m9 z9) := ho
  have HN9 : Hid (Nf B64 z9 (iv true (a / d + 1)).natAbs ∧ m9 ≤ 8192) := ⟨hn, hm⟩
  clear ho hn hm
  obtain ⟨b9, hb9⟩ : ∃ b, b = decide (iv true (a / d + 1) < 0) := ⟨_, rfl⟩
  rw [← hb9]
  have HB9 : Hid (b9 = decide (iv true (a / d + 1) < 0)) := hb9
  clear hb9
  obtain ⟨cr0, cr1, fr0, fr1⟩ := Xr.out
  have hner := Xr.out.lt
  go_wp2_with fail
  refine bodyPost_ret (v := ZV b9 p9 m9 m9) (by rw [results_cell1 rfl]; go_simp) rfl ⟨_, rfl, ⟨p9, m9, z9, by rw [HB9.out], ?_, HN9.out.1, HN9.out.2⟩, ?_⟩
  · exact own_set2 HO9.out HRL.out.1 (Nat.le_trans HB.out HRL.out.2) _ _
  · exact bSet (bSet hbw _ _ _ HGr.out) _ _ _ HGr.out
theorem floor_any {B : Nat} {p : Option Addr} {m : Nat} {zs : List Nat} {a d : Nat} {w : World} (s x : Bool) (hf : Int) (h : FrIs B w s a d p m zs x hf) (hB : B ≤ w.heap.size) :
    Calls Tryz.prog 86 #[FR s p m m x hf] w fun e w' => ∃ v, e = .returned v ∧ AnsZ B w' v (fl s a d) ∧ Below w.heap.size w w' := by
  cases s <;> cases x
  · exact floor_any00 hf h hB
  · exact floor_any01 hf h hB
  · exact floor_any10 hf h hB
  · exact floor_any11 hf h hB
theorem shifted_any {p : Option Addr} {m c : Nat} {xs : List Nat} {a k : Nat} {w : World} (s : Bool) (h : Num w p m c xs a) (hs : s = true → 0 < a) (n : Nat) (hn : n ≤ 9223372036854775807) (hk : TzO a k) (hT : Tab w) :
    Calls Tryz.prog 85 #[ZV s p m c, .int .i64 n] w fun e w' => ∃ p' m' zs x hf, e = .returned (.tuple #[FR s p' m' m' x hf, .int .i64 0]) ∧ Own w.heap.size w' p' m' zs ∧ Nf B64 zs (a / 2 ^ n) ∧ m' ≤ 8192 ∧ x = decide (a % 2 ^ n ≠ 0) ∧ HfIs (a % 2 ^ n) (2 ^ n) hf ∧ Below w.heap.size w w' := by
  have H : Hid (Num w p m c xs a) := h
  have HW0 : Hid (Num w p m c xs a ∧ Tab w) := ⟨h, hT⟩
  have HS : Hid (s = true → 0 < a) := hs
  have HK : Hid (TzO a k) := hk
  have HT : Hid (Tab w) := hT
  have HN : Hid (n ≤ 9223372036854775807) := hn
  have c0 : decide ((n : Int) < 0) = false := decide_eq_false (by omega)
  clear h hs hk hT
  go_enter Tryz.func85, Tryz.ntmps85
  go_wp2_with fail
  have X0 : Box (w.alloc (.cells #[.bool s, .slice p m c] 31)) w.heap.size (.bool s) (.slice p m c) := ⟨by go_simp, by go_simp, by go_simp, by go_simp⟩
  have hb0 := below1 w (.cells #[.bool s, .slice p m c] 31)
  have hsz : (w.alloc (.cells #[.bool s, .slice p m c] 31)).heap.size = w.heap.size + 1 := by simp
  generalize w.alloc (.cells #[.bool s, .slice p m c] 31) = W1 at *
  have R0 := B4q.new W1 113 (.bool false) (.slice none 0 0) (.bool false) (.int .i64 0)
  have hb1 := below1 W1 (.cells #[.bool false, .slice none 0 0, .bool false, .int .i64 0] 113)
  generalize W1.alloc (.cells #[.bool false, .slice none 0 0, .bool false, .int .i64 0] 113) = W at *
  rw [hsz] at R0
  obtain ⟨g, hg⟩ : ∃ g, g = w.heap.size := ⟨_, rfl⟩
  obtain ⟨r, hr⟩ : ∃ r, r = g + 1 := ⟨_, rfl⟩
  have HGR : Hid (w.heap.size ≤ g ∧ w.heap.size ≤ r ∧ r ≠ g) := ⟨by omega, by omega, by omega⟩
  rw [← hg, ← hr] at R0 ⊢
  rw [← hg] at X0
  clear hg hr hsz
  have HBW : Hid (Below w.heap.size w W) := Below.on hb0 hb1
  have XR : Hid (Box W g (.bool s) (.slice p m c) ∧ B4q W r (.bool false) (.slice none 0 0) (.bool false) (.int .i64 0)) := ⟨X0.below hb1, R0⟩
  have H2 : Hid (Num W p m c xs a) := H.out.below HBW.out
  have HT2 : Hid (Tab W) := HT.out.below HBW.out
  clear hb0 hb1 X0 R0 H HT
  refine (numform_t s H2.out HS.out).mono ?_
  rintro e w3 ⟨rfl, hb3⟩
  have XR3 : Hid (Box w3 g (.bool s) (.slice p m c) ∧ B4q w3 r (.bool false) (.slice none 0 0) (.bool false) (.int .i64 0)) := ⟨XR.out.1.below hb3, XR.out.2.below hb3⟩
  have H3 : Hid (Num w3 p m c xs a) := H2.out.below hb3
  have HT3 : Hid (Tab w3) := HT2.out.below hb3
  have HB3 : Hid (Below w.heap.size w w3) := Below.on HBW.out hb3
  clear hb3 XR H2 HT2 HBW c0
  obtain ⟨⟨x0, x1, x2, x3⟩, ⟨r0, r1, r2, r3, r4, r5, r6, r7⟩⟩ := XR3.out
  go_wp2_with fail
  refine (shr_nf H3.out.at_ H3.out.nf H3.out.le n HN.out).mono ?_
  rintro e w4 ⟨⟨p4, m4, z4, rfl, hO4, hN4, hm4⟩, hb4⟩
  have XR4 : Hid (Box w4 g (.bool s) (.slice p m c) ∧ B4q w4 r (.bool false) (.slice none 0 0) (.bool false) (.int .i64 0)) := ⟨XR3.out.1.below hb4, XR3.out.2.below hb4⟩
  have H4 : Hid (Num w4 p m c xs a) := H3.out.below hb4
  have HT4 : Hid (Tab w4) := HT3.out.below hb4
  have HB4 : Hid (Below w.heap.size w w4) := Below.on HB3.out hb4
  have O4 : Hid (Own w.heap.size w4 p4 m4 z4) := hO4.mono HB3.out.size
  have N4 : Hid (Nf B64 z4 (a / 2 ^ n) ∧ m4 ≤ 8192) := ⟨hN4, hm4⟩
  have HP4 : Hid (∀ g2, p4 = some ⟨g2, 0, none⟩ → 0 < m4 → g2 ≠ r) := by
    intro g2 hp hm
    rcases hO4.mem with h0 | ⟨g3, hp3, hB3, hr3⟩
    · omega
    · rw [hp] at hp3
      simp only [Option.some.injEq, Addr.mk.injEq, and_true] at hp3
      have := XR3.out.2.lt
      omega
  clear hb4 hO4 hN4 hm4 XR3 H3 HT3 HB3 x0 x1 x2 x3 r0 r1 r2 r3 r4 r5 r6 r7
  obtain ⟨⟨x0, x1, x2, x3⟩, ⟨r0, r1, r2, r3, r4, r5, r6, r7⟩⟩ := XR4.out
  have hgl : g < w4.heap.size := World.block_lt_of_cell? _ _ XR4.out.1.c0
  have hrl : r < w4.heap.size := XR4.out.2.lt
  have hz := H4.out.zero
  by_cases hm0 : 0 < m
  · have ha0 : a ≠ 0 := fun e => by have := hz.2 e; omega
    have hmb : decide ((0 : Int) < (m : Int)) = true := decide_eq_true (by omega)
    have hmb' : decide (0 < m) = true := decide_eq_true hm0
    have HA0 : Hid (a ≠ 0) := ha0
    have hmp : (0 : Int) < (m : Int) := by omega
    obtain ⟨b1, hb1⟩ : ∃ b1, b1 = decide ((k : Int) < (n : Int)) := ⟨_, rfl⟩
    have HB1 : Hid (b1 = decide ((k : Int) < (n : Int))) := hb1
    clear hz ha0 hb1
    go_wp2_with fail
    have F5 := B4q.new w4 113 (.bool s) (.slice p4 m4 m4) (.bool false) (.int .i64 (-1))
    have hb5 := below1 w4 (.cells #[.bool s, .slice p4 m4 m4, .bool false, .int .i64 (-1)] 113)
    generalize w4.alloc (.cells #[.bool s, .slice p4 m4 m4, .bool false, .int .i64 (-1)] 113) = W5 at *
    obtain ⟨fb, hfb⟩ : ∃ fb, fb = w4.heap.size := ⟨_, rfl⟩
    have HFB : Hid (w.heap.size ≤ fb ∧ fb ≠ g ∧ fb ≠ r) := ⟨by rw [hfb]; exact HB4.out.size, by omega, by omega⟩
    have HPX : Hid (∀ g2, p4 = some ⟨g2, 0, none⟩ → 0 < m4 → g2 ≠ fb ∧ g2 ≠ r) := by
      intro g2 hp hm
      rcases O4.out.mem with h0 | ⟨g3, hp3, hB3, hr3⟩
      · omega
      · rw [hp] at hp3
        simp only [Option.some.injEq, Addr.mk.injEq, and_true] at hp3
        have hl3 : g3 < w4.heap.size := World.block_lt_of_cell? _ _ (hr3.cell 0 (by omega))
        exact ⟨by omega, by have := HP4.out g3 (by rw [hp, hp3]) hm; omega⟩
    rw [← hfb] at F5 ⊢
    clear hfb hgl hrl x0 x1 x2 x3 r0 r1 r2 r3 r4 r5 r6 r7
    have XF : Hid (Box W5 g (.bool s) (.slice p m c) ∧ B4q W5 r (.bool false) (.slice none 0 0) (.bool false) (.int .i64 0) ∧ B4q W5 fb (.bool s) (.slice p4 m4 m4) (.bool false) (.int .i64 (-1))) := ⟨XR4.out.1.below hb5, XR4.out.2.below hb5, F5⟩
    have H5 : Hid (Num W5 p m c xs a) := H4.out.below hb5
    have HT5 : Hid (Tab W5) := HT4.out.below hb5
    have HB5 : Hid (Below w.heap.size w W5) := Below.on HB4.out hb5
    have O5 : Hid (Own w.heap.size W5 p4 m4 z4) := O4.out.below hb5
    have HPN : Hid (∀ g2, p4 = some ⟨g2, 0, none⟩ → 0 < m4 → g2 ≠ fb ∧ g2 ≠ r) := HPX.out
    clear hb5 F5 XR4 H4 HT4 HB4 O4
    refine (trail_any H5.out.at_ (by have := H5.out.le; omega) (by rw [H5.out.nf.val]; exact HK.out) HT5.out).mono ?_
    rintro e w6 ⟨rfl, hw⟩
    obtain rfl := hw.symm
    clear hw
    obtain ⟨⟨x0, x1, x2, x3⟩, ⟨r0, r1, r2, r3, r4, r5, r6, r7⟩, ⟨f0, f1, f2, f3, f4, f5, f6, f7⟩⟩ := XF.out
    have hne1 : ¬ fb = g := HFB.out.2.1
    have hne2 : ¬ fb = r := HFB.out.2.2
    have hne3 : ¬ g = fb := fun e => hne1 e.symm
    have hne4 : ¬ r = fb := fun e => hne2 e.symm
    go_wp2_with fail
    obtain ⟨b2, hb2⟩ : ∃ b2, b2 = decide (k < n) := ⟨_, rfl⟩
    rw [← hb2]
    have HB2 : Hid (b2 = decide (k < n)) := hb2
    have XF6 : Hid (Box (W5.setCell ⟨fb, 2, none⟩ (.bool b2)) g (.bool s) (.slice p m c) ∧ B4q (W5.setCell ⟨fb, 2, none⟩ (.bool b2)) r (.bool false) (.slice none 0 0) (.bool false) (.int .i64 0) ∧ B4q (W5.setCell ⟨fb, 2, none⟩ (.bool b2)) fb (.bool s) (.slice p4 m4 m4) (.bool b2) (.int .i64 (-1))) :=
      ⟨⟨by go_simp, by go_simp, by go_simp, by go_simp⟩, ⟨by go_simp, by go_simp, by go_simp, by go_simp, by go_simp, by go_simp, by go_simp, by go_simp⟩, ⟨by go_simp, by go_simp, by go_simp, by go_simp, by go_simp, by go_simp, by go_simp, by go_simp⟩⟩
    have HB6 : Hid (Below w.heap.size w (W5.setCell ⟨fb, 2, none⟩ (.bool b2))) := bSet HB5.out _ _ _ HFB.out.1
    have O6 : Hid (Own w.heap.size (W5.setCell ⟨fb, 2, none⟩ (.bool b2)) p4 m4 z4) := O5.out.setNot fb 2 _ (fun g2 hp hm => (HPN.out g2 hp hm).1)
    generalize W5.setCell ⟨fb, 2, none⟩ (.bool b2) = W6 at *
    have H6 : Hid (Num W6 p m c xs a) := HW0.out.1.below HB6.out
    have HT6 : Hid (Tab W6) := HW0.out.2.below HB6.out
    clear hb2 x0 x1 x2 x3 r0 r1 r2 r3 r4 r5 r6 r7 f0 f1 f2 f3 f4 f5 f6 f7 XF H5 HT5 HB5 O5
    refine (bit_int H6.out.at_ (by have := H6.out.le; omega) ((n : Int) - 1) (by omega)).mono ?_
    rintro e w7 ⟨rfl, hw⟩
    obtain rfl := hw.symm
    clear hw
    obtain ⟨bb, hbb⟩ : ∃ bb, bb = bitO (valB B64 xs) ((n : Int) - 1) := ⟨_, rfl⟩
    rw [← hbb]
    have HBB : Hid (bb = bitO a ((n : Int) - 1)) := by rw [H6.out.nf.val] at hbb; exact hbb
    clear hbb
    obtain ⟨⟨x0, x1, x2, x3⟩, ⟨r0, r1, r2, r3, r4, r5, r6, r7⟩, ⟨f0, f1, f2, f3, f4, f5, f6, f7⟩⟩ := XF6.out
    have HX : Hid (b2 = decide (a % 2 ^ n ≠ 0)) := by
      show _ = _
      rw [HB2.out]
      rcases HK.out with ⟨e, _⟩ | ⟨_, e⟩
      · exact absurd e HA0.out
      · exact tz_lt e
    have HTZ : Hid (TzIs a k) := by
      rcases HK.out with ⟨e, _⟩ | ⟨_, e⟩
      · exact absurd e HA0.out
      · exact e
    have HPR : Hid (∀ g2, p4 = some ⟨g2, 0, none⟩ → 0 < m4 → g2 ≠ r) := HP4.out
    cases bb
    · go_wp2_with fail
      refine bodyPost_ret (v := .tuple #[FR s p4 m4 m4 b2 (-1), .int .i64 0]) (by rw [results_cell_tmp rfl]; go_simp) rfl ?_
      exact ⟨p4, m4, z4, b2, (-1), rfl, (((O6.out.setNot r 0 _ (fun g2 hp hm => HPR.out g2 hp hm)).setNot r 1 _ (fun g2 hp hm => HPR.out g2 hp hm)).setNot r 2 _ (fun g2 hp hm => HPR.out g2 hp hm)).setNot r 3 _ (fun g2 hp hm => HPR.out g2 hp hm), N4.out.1, N4.out.2, HX.out, half_lt HBB.out rfl, bSet (bSet (bSet (bSet HB6.out _ _ _ HGR.out.2.1) _ _ _ HGR.out.2.1) _ _ _ HGR.out.2.1) _ _ _ HGR.out.2.1⟩
    · have XF7 : Hid (Box (W6.setCell ⟨fb, 3, none⟩ (.int .i64 0)) g (.bool s) (.slice p m c) ∧ B4q (W6.setCell ⟨fb, 3, none⟩ (.int .i64 0)) r (.bool false) (.slice none 0 0) (.bool false) (.int .i64 0) ∧ B4q (W6.setCell ⟨fb, 3, none⟩ (.int .i64 0)) fb (.bool s) (.slice p4 m4 m4) (.bool b2) (.int .i64 0)) :=
        ⟨⟨by go_simp, by go_simp, by go_simp, by go_simp⟩, ⟨by go_simp, by go_simp, by go_simp, by go_simp, by go_simp, by go_simp, by go_simp, by go_simp⟩, ⟨by go_simp, by go_simp, by go_simp, by go_simp, by go_simp, by go_simp, by go_simp, by go_simp⟩⟩
      have HB7 : Hid (Below w.heap.size w (W6.setCell ⟨fb, 3, none⟩ (.int .i64 0))) := bSet HB6.out _ _ _ HFB.out.1
      have O7 : Hid (Own w.heap.size (W6.setCell ⟨fb, 3, none⟩ (.int .i64 0)) p4 m4 z4) := O6.out.setNot fb 3 _ (fun g2 hp hm => (HPN.out g2 hp hm).1)
      go_wp2_with fail
      generalize W6.setCell ⟨fb, 3, none⟩ (.int .i64 0) = W7 at *
      have H7 : Hid (Num W7 p m c xs a) := HW0.out.1.below HB7.out
      have HT7 : Hid (Tab W7) := HW0.out.2.below HB7.out
      clear x0 x1 x2 x3 r0 r1 r2 r3 r4 r5 r6 r7 f0 f1 f2 f3 f4 f5 f6 f7 XF6 H6 HT6 HB6 O6
      refine (trail_any H7.out.at_ (by have := H7.out.le; omega) (by rw [H7.out.nf.val]; exact HK.out) HT7.out).mono ?_
      rintro e w8 ⟨rfl, hw⟩
      obtain rfl := hw.symm
      clear hw
      obtain ⟨⟨x0, x1, x2, x3⟩, ⟨r0, r1, r2, r3, r4, r5, r6, r7⟩, ⟨f0, f1, f2, f3, f4, f5, f6, f7⟩⟩ := XF7.out
      by_cases hk1 : (k : Int) < (n : Int) - 1
      · have hk1b : decide ((k : Int) < (n : Int) - 1) = true := decide_eq_true hk1
        have O8 : Hid (Own w.heap.size (W7.setCell ⟨fb, 3, none⟩ (.int .i64 1)) p4 m4 z4) := O7.out.setNot fb 3 _ (fun g2 hp hm => (HPN.out g2 hp hm).1)
        have HB8 : Hid (Below w.heap.size w (W7.setCell ⟨fb, 3, none⟩ (.int .i64 1))) := bSet HB7.out _ _ _ HFB.out.1
        go_wp2_with fail
        refine bodyPost_ret (v := .tuple #[FR s p4 m4 m4 b2 1, .int .i64 0]) (by rw [results_cell_tmp rfl]; go_simp) rfl ?_
        exact ⟨p4, m4, z4, b2, 1, rfl, (((O8.out.setNot r 0 _ (fun g2 hp hm => HPR.out g2 hp hm)).setNot r 1 _ (fun g2 hp hm => HPR.out g2 hp hm)).setNot r 2 _ (fun g2 hp hm => HPR.out g2 hp hm)).setNot r 3 _ (fun g2 hp hm => HPR.out g2 hp hm), N4.out.1, N4.out.2, HX.out, half_ge HBB.out HTZ.out (by rw [if_pos hk1]), bSet (bSet (bSet (bSet HB8.out _ _ _ HGR.out.2.1) _ _ _ HGR.out.2.1) _ _ _ HGR.out.2.1) _ _ _ HGR.out.2.1⟩
      · have hk1b : decide ((k : Int) < (n : Int) - 1) = false := decide_eq_false hk1
        go_wp2_with fail
        refine bodyPost_ret (v := .tuple #[FR s p4 m4 m4 b2 0, .int .i64 0]) (by rw [results_cell_tmp rfl]; go_simp) rfl ?_
        exact ⟨p4, m4, z4, b2, 0, rfl, (((O7.out.setNot r 0 _ (fun g2 hp hm => HPR.out g2 hp hm)).setNot r 1 _ (fun g2 hp hm => HPR.out g2 hp hm)).setNot r 2 _ (fun g2 hp hm => HPR.out g2 hp hm)).setNot r 3 _ (fun g2 hp hm => HPR.out g2 hp hm), N4.out.1, N4.out.2, HX.out, half_ge HBB.out HTZ.out (by rw [if_neg (Int.not_lt.2 hk1)]), bSet (bSet (bSet (bSet HB7.out _ _ _ HGR.out.2.1) _ _ _ HGR.out.2.1) _ _ _ HGR.out.2.1) _ _ _ HGR.out.2.1⟩
  · have ha0 : a = 0 := hz.1 (by omega)
    have hmb : decide ((0 : Int) < (m : Int)) = false := decide_eq_false (by omega)
    have hmb' : decide (0 < m) = false := decide_eq_false hm0
    have hmp : ¬ (0 : Int) < (m : Int) := by omega
    have HA0 : Hid (a = 0) := ha0
    clear hz ha0
    obtain ⟨fb, hfb⟩ : ∃ fb, fb = w4.heap.size := ⟨_, rfl⟩
    have HFB : Hid (w.heap.size ≤ fb ∧ fb ≠ g ∧ fb ≠ r) := ⟨by rw [hfb]; exact HB4.out.size, by omega, by omega⟩
    have HPX : Hid (∀ g2, p4 = some ⟨g2, 0, none⟩ → 0 < m4 → g2 ≠ fb ∧ g2 ≠ r) := by
      intro g2 hp hm
      rcases O4.out.mem with h0 | ⟨g3, hp3, hB3, hr3⟩
      · omega
      · rw [hp] at hp3
        simp only [Option.some.injEq, Addr.mk.injEq, and_true] at hp3
        have hl3 : g3 < w4.heap.size := World.block_lt_of_cell? _ _ (hr3.cell 0 (by omega))
        exact ⟨by omega, by have := HP4.out g3 (by rw [hp, hp3]) hm; omega⟩
    go_wp2_with fail
    have F5 := B4q.new w4 113 (.bool s) (.slice p4 m4 m4) (.bool false) (.int .i64 (-1))
    have hb5 := below1 w4 (.cells #[.bool s, .slice p4 m4 m4, .bool false, .int .i64 (-1)] 113)
    generalize w4.alloc (.cells #[.bool s, .slice p4 m4 m4, .bool false, .int .i64 (-1)] 113) = W5 at *
    rw [← hfb] at F5 ⊢
    have XF : Hid (Box W5 g (.bool s) (.slice p m c) ∧ B4q W5 r (.bool false) (.slice none 0 0) (.bool false) (.int .i64 0) ∧ B4q W5 fb (.bool s) (.slice p4 m4 m4) (.bool false) (.int .i64 (-1))) := ⟨XR4.out.1.below hb5, XR4.out.2.below hb5, F5⟩
    have H5 : Hid (Num W5 p m c xs a) := H4.out.below hb5
    have HB5 : Hid (Below w.heap.size w W5) := Below.on HB4.out hb5
    have O5 : Hid (Own w.heap.size W5 p4 m4 z4) := O4.out.below hb5
    clear hfb hgl hrl x0 x1 x2 x3 r0 r1 r2 r3 r4 r5 r6 r7 hb5 F5 XR4 H4 HT4 HB4 O4
    have XF6 := XF
    have HB6 := HB5
    have O6 := O5
    have H6 := H5
    clear XF HB5 O5 H5
    refine (bit_int H6.out.at_ (by have := H6.out.le; omega) ((n : Int) - 1) (by omega)).mono ?_
    rintro e w7 ⟨rfl, hw⟩
    obtain rfl := hw.symm
    clear hw
    rw [show bitO (valB B64 xs) ((n : Int) - 1) = false from by rw [H6.out.nf.val, HA0.out, bitO_half]; exact decide_eq_false (by rw [Nat.zero_mod]; have : 0 < 2 ^ n := Nat.pow_pos (by omega); omega)]
    obtain ⟨⟨x0, x1, x2, x3⟩, ⟨r0, r1, r2, r3, r4, r5, r6, r7⟩, ⟨f0, f1, f2, f3, f4, f5, f6, f7⟩⟩ := XF6.out
    have hne1 : ¬ fb = g := HFB.out.2.1
    have hne2 : ¬ fb = r := HFB.out.2.2
    have hne3 : ¬ g = fb := fun e => hne1 e.symm
    have hne4 : ¬ r = fb := fun e => hne2 e.symm
    have HPR : Hid (∀ g2, p4 = some ⟨g2, 0, none⟩ → 0 < m4 → g2 ≠ r) := HP4.out
    go_wp2_with fail
    refine bodyPost_ret (v := .tuple #[FR s p4 m4 m4 false (-1), .int .i64 0]) (by rw [results_cell_tmp rfl]; go_simp) rfl ?_
    exact ⟨p4, m4, z4, false, (-1), rfl, (((O6.out.setNot r 0 _ (fun g2 hp hm => HPR.out g2 hp hm)).setNot r 1 _ (fun g2 hp hm => HPR.out g2 hp hm)).setNot r 2 _ (fun g2 hp hm => HPR.out g2 hp hm)).setNot r 3 _ (fun g2 hp hm => HPR.out g2 hp hm), N4.out.1, N4.out.2, by rw [HA0.out, Nat.zero_mod]; rfl, .inl ⟨by rw [HA0.out, Nat.zero_mod]; have : 0 < 2 ^ n := Nat.pow_pos (by omega); omega, rfl⟩, bSet (bSet (bSet (bSet HB6.out _ _ _ HGR.out.2.1) _ _ _ HGR.out.2.1) _ _ _ HGR.out.2.1) _ _ _ HGR.out.2.1⟩
def GeW (B : Nat) (w : World) : Prop := B ≤ w.heap.size
theorem GeW.below {B : Nat} {w w' : World} (h : GeW B w) (hb : Below w.heap.size w w') : GeW B w' := Nat.le_trans h hb.size
theorem fshr_any {p : Option Addr} {m c : Nat} {xs : List Nat} {a : Nat} {w : World} (s : Bool) (h : Num w p m c xs a) (hs : s = true → 0 < a) (n : Nat) (hn : n ≤ 9223372036854775807) (hT : Tab w) :
    Calls Tryz.prog 69 #[ZV s p m c, .int .i64 n] w fun e w' => ∃ v, e = .returned (.tuple #[v, .int .i64 0]) ∧ AnsZ w.heap.size w' v (fl s a (2 ^ n)) ∧ Below w.heap.size w w' := by
  have H : Hid (Num w p m c xs a) := h
  have HS : Hid (s = true → 0 < a) := hs
  have HT : Hid (Tab w) := hT
  have HN : Hid (n ≤ 9223372036854775807) := hn
  obtain ⟨z, hz⟩ : ∃ z, z = fl s a (2 ^ n) := ⟨_, rfl⟩
  rw [← hz]
  have HZ : Hid (z = fl s a (2 ^ n)) := hz
  obtain ⟨k, hk⟩ := TzO.ex a
  have HK : Hid (TzO a k) := hk
  clear h hs hT hn hz hk
  go_enter Tryz.func69, Tryz.ntmps69
  go_wp2_with fail
  obtain ⟨W0, hW0⟩ : ∃ W0, W0 = ((w.alloc (.cells #[.bool s, .slice p m c] 31)).alloc (.cells #[.bool false, .slice none 0 0] 31)) := ⟨_, rfl⟩
  have Xx : Hid (Box W0 (w.heap.size) (.bool s) (.slice p m c)) := by rw [hW0]; exact ⟨by go_simp, by go_simp, by go_simp, by go_simp⟩
  have Xr : Hid (Box W0 (w.heap.size + 1) (.bool false) (.slice none 0 0)) := by rw [hW0]; exact ⟨by go_simp, by go_simp, by go_simp, by go_simp⟩
  have hb0 : Below w.heap.size w W0 := by rw [hW0]; exact below2 w _ _
  rw [← hW0]
  clear hW0
  have hbw : Below w.heap.size w w := Below.refl _ _
  obtain ⟨gr, hgr⟩ : ∃ g, g = w.heap.size + 1 := ⟨_, rfl⟩
  have HGr : Hid (w.heap.size ≤ gr) := by rw [hgr]; show _ ≤ _; omega
  rw [← hgr] at Xr
  try rw [← hgr]
  obtain ⟨gx, hgx⟩ : ∃ g, g = w.heap.size := ⟨_, rfl⟩
  have HGx : Hid (w.heap.size ≤ gx) := by rw [hgx]; show _ ≤ _; omega
  rw [← hgx] at Xx
  try rw [← hgx]
  have HGD : Hid (gx ≠ gr ∧ gr ≠ gx) := by rw [hgx, hgr]; exact ⟨by omega, by omega⟩
  clear hgx hgr
  replace H : Hid _ := H.out.below hb0
  replace HT : Hid (Tab W0) := HT.out.below hb0
  replace hbw := Below.on hbw hb0
  clear hb0
  have HSZ : Hid (GeW W0.heap.size W0) := Nat.le_refl _
  have HRL : Hid (gr < W0.heap.size ∧ w.heap.size ≤ W0.heap.size) := ⟨Xr.out.lt, hbw.size⟩
  refine (shifted_any s H.out HS.out n HN.out HK.out HT.out).mono ?_
  rintro e w2 ⟨p2, m2, z2, x2, hf2, rfl, ho2, hn2, hm2, hx2, hh2, hb2⟩
  replace Xx : Hid _ := Xx.out.below hb2
  replace Xr : Hid _ := Xr.out.below hb2
  replace H : Hid _ := H.out.below hb2
  replace HT : Hid (Tab w2) := HT.out.below hb2
  replace HSZ : Hid (GeW W0.heap.size w2) := HSZ.out.below hb2
  replace hbw := Below.on hbw hb2
  clear hb2
  have HF : Hid (FrIs W0.heap.size w2 s a (2 ^ n) p2 m2 z2 x2 hf2) := ⟨ho2, hn2, hm2, hx2, hh2, H.out.lim⟩
  clear ho2 hn2 hm2 hx2 hh2
  obtain ⟨cr0, cr1, fr0, fr1⟩ := Xr.out
  have hner := Xr.out.lt
  go_wp2_with fail
  clear cr0 cr1 fr0 fr1 hner
  have Xf0 : Hid (B4q (w2.alloc (.cells #[.bool s, .slice p2 m2 m2, .bool x2, .int .i64 hf2] 113)) w2.heap.size (.bool s) (.slice p2 m2 m2) (.bool x2) (.int .i64 hf2)) := B4q.new w2 _ _ _ _ _
  have hbn : Below w2.heap.size w2 (w2.alloc (.cells #[.bool s, .slice p2 m2 m2, .bool x2, .int .i64 hf2] 113)) := below1 w2 _
  generalize w2.alloc (.cells #[.bool s, .slice p2 m2 m2, .bool x2, .int .i64 hf2] 113) = W3 at *
  have HGf : Hid (w.heap.size ≤ w2.heap.size) := hbw.size
  replace Xx : Hid _ := Xx.out.below hbn
  replace Xr : Hid _ := Xr.out.below hbn
  replace H : Hid _ := H.out.below hbn
  replace HT : Hid (Tab W3) := HT.out.below hbn
  replace HSZ : Hid (GeW W0.heap.size W3) := HSZ.out.below hbn
  replace HF : Hid _ := HF.out.below hbn
  replace hbw := Below.on hbw hbn
  clear hbn
  generalize w2.heap.size = gf at *
  have Xf := Xf0
  clear Xf0
  have hBs : W0.heap.size ≤ W3.heap.size := HSZ.out
  refine (floor_any s x2 hf2 HF.out hBs).mono ?_
  rintro e w4 ⟨v, rfl, hv, hb4⟩
  clear hBs
  rw [← HZ.out] at hv
  obtain ⟨p4, m4, z4, rfl, ho, hn, hm⟩ := hv
  replace Xx : Hid _ := Xx.out.below hb4
  replace Xr : Hid _ := Xr.out.below hb4
  replace Xf : Hid _ := Xf.out.below hb4
  replace H : Hid _ := H.out.below hb4
  replace HT : Hid (Tab w4) := HT.out.below hb4
  replace HSZ : Hid (GeW W0.heap.size w4) := HSZ.out.below hb4
  replace HF : Hid _ := HF.out.below hb4
  replace hbw := Below.on hbw hb4
  clear hb4
  have HO4 : Hid (Own W0.heap.size w4 p4 m4 z4) := ho
  have HN4 : Hid (Nf B64 z4 z.natAbs ∧ m4 ≤ 8192) := ⟨hn, hm⟩
  clear ho hn hm
  obtain ⟨b9, hb9⟩ : ∃ b, b = decide (z < 0) := ⟨_, rfl⟩
  rw [← hb9]
  have HB9 : Hid (b9 = decide (z < 0)) := hb9
  clear hb9
  obtain ⟨cr0, cr1, fr0, fr1⟩ := Xr.out
  have hner := Xr.out.lt
  go_wp2_with fail
  refine bodyPost_ret (v := .tuple #[ZV b9 p4 m4 m4, .int .i64 0]) (by rw [results_cell_tmp rfl]; go_simp) rfl ⟨_, rfl, ⟨p4, m4, z4, by rw [HB9.out], ?_, HN4.out.1, HN4.out.2⟩, ?_⟩
  · exact own_set2 HO4.out HRL.out.1 HRL.out.2 _ _
  · exact bSet (bSet hbw _ _ _ HGr.out) _ _ _ HGr.out
end Go.Proofs.YtidggnjnlhjhlabGreatDoor
namespace Go.Proofs.YtidggnjnlhjhlabGreatDoor
open Go.RowKit
set_option maxRecDepth 20000
set_option maxHeartbeats 0
structure DivRel (w : World) (g n : Nat) (zs : List Nat) (v k re : Nat) (dk : List Nat) (wr : World) : Prop where
  wrs : ∀ B, B ≤ g → Below B w wr
  row : Row wr g 0 n dk
  lo : dk.take (n - k) = zs.take (n - k)
  rlt : re < v
  sum : valB B64 (zs.drop (n - k)) = valB B64 (dk.drop (n - k)) * v + re
theorem DivRel.step {w : World} {g n : Nat} {zs : List Nat} {v k re : Nat} {dk : List Nat} {wr wr' : World} (h : DivRel w g n zs v k re dk wr) (hk : k < n) (hz : zs.length = n) {x q r : Nat}
    (hx : x = dk.getD (n - 1 - k) 0) (hq : re * B64 + x = q * v + r) (hr : r < v) (hw : ∀ B, B ≤ g → Below B w wr') (hrow : Row wr' g 0 n (dk.set (n - 1 - k) q)) : DivRel w g n zs v (k + 1) r (dk.set (n - 1 - k) q) wr' := by
  have hl := h.row.len
  have e : n - (k + 1) = n - 1 - k := by omega
  have e2 : n - 1 - k + 1 = n - k := by omega
  have hxz : x = zs.getD (n - 1 - k) 0 := hx.trans (getD_of_take h.lo (by omega))
  refine ⟨hw, hrow, ?_, hr, ?_⟩
  · rw [e, take_set_at]; exact take_of_take h.lo (by omega)
  · rw [e, drop_set_at dk _ q (by omega), valB_drop _ zs (n - 1 - k) (by omega), ← hxz, valB_cons, e2, h.sum, Nat.add_mul, Nat.mul_add]
    have e3 : B64 * (valB B64 (dk.drop (n - k)) * v) = B64 * valB B64 (dk.drop (n - k)) * v := by rw [Nat.mul_assoc]
    rw [e3, Nat.mul_comm B64 re]
    omega
end Go.Proofs.YtidggnjnlhjhlabGreatDoor
namespace Go.Proofs.YtidggnjnlhjhlabGreatDoor
open Go.RowKit Go.Shelf
set_option maxRecDepth 20000
set_option maxHeartbeats 0
theorem Nf.one {ys : List Nat} {b : Nat} (hy : Nf B64 ys b) (hl : ys.length = 1) : ys = [b] := by
  match ys, hl with
  | [y], _ => have := hy.val; simp [valB] at this; rw [this]
end Go.Proofs.YtidggnjnlhjhlabGreatDoor
