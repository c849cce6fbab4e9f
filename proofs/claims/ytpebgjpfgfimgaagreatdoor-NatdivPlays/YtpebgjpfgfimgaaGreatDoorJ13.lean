import Derived.Test.YtpebgjpfgfimgaaGreatDoorJ12
import Derived.Test.YtpebgjpfgfimgaaGreatDoorJ9
import Derived.Test.YtpebgjpfgfimgaaGreatDoorJ8
import Derived.Test.YtpebgjpfgfimgaaGreatDoorJ11
import Derived.Laws.ResultCell
import Derived.Deep.RegionWith
import Derived.Deep.DeepCutAuto
import Derived.Deep.LoopGhost
import Derived.Shelf.Spec.TrailingZeros
import Derived.Test.YtpebgjpfgfimgaaGreatDoorJ10
import Derived.Lib.OthersKept
namespace Go.Proofs.YtpebgjpfgfimgaaGreatDoor
open Go.RowKit Go.Shelf
set_option maxRecDepth 20000
set_option maxHeartbeats 0
theorem join_any {p q : Option Addr} {n m c d : Nat} {xs ys : List Nat} {a b : Nat} {w : World} (h : Num w p n c xs a) (k : Num w q m d ys b) (K : Nat) (hK : K ≤ 9223372036854775807) (hl : 2 ^ K * a + b < LIM) :
    Calls Tryz.prog 53 #[.slice p n c, .slice q m d, .int .i64 K] w fun e w' => ∃ p' m' zs, e = .returned (.slice p' m' m') ∧ Own w.heap.size w' p' m' zs ∧ Nf B64 zs (2 ^ K * a + b) ∧ m' ≤ 8192 ∧ Below w.heap.size w w' := by
  have H : Hid (Num w p n c xs a) := h
  have KK : Hid (Num w q m d ys b) := k
  have L : Hid (2 ^ K * a + b < LIM) := hl
  clear h k hl
  go_enter Tryz.func53, Tryz.ntmps53
  go_wp2_with fail
  refine (shl_nf H.out.at_ H.out.nf H.out.le K hK).mono ?_
  rintro e w1 ⟨ha1, hb1⟩
  obtain ⟨p1, m1, z1, rfl, ho1, hn1, hm1⟩ := ha1.ok (Nat.lt_of_le_of_lt (Nat.le_add_right _ _) L.out)
  have N1 : Hid (Num w1 p1 m1 m1 z1 (2 ^ K * a)) := Num.of ho1 hn1 hm1
  have K1 : Hid (Num w1 q m d ys b) := KK.out.below hb1
  clear ha1 ho1 hn1
  go_wp2_with fail
  refine (add_ord N1.out.at_ K1.out.at_ N1.out.nf K1.out.nf N1.out.le K1.out.le).mono ?_
  rintro e w2 ⟨ha2, hb2⟩
  obtain ⟨p2, m2, z2, rfl, ho2, hn2, hm2⟩ := ha2.ok L.out
  have N2 : Hid (Nf B64 z2 (2 ^ K * a + b)) := hn2
  have hbw := Below.on hb1 hb2
  have hsz := hb1.size
  clear ha2 hn2
  go_wp2_with fail
  go_ret
  exact ⟨p2, m2, z2, rfl, ho2.mono hsz, N2.out, hm2, hbw⟩

theorem cmp_nf {p q : Option Addr} {n m c d : Nat} {xs ys : List Nat} {a b : Nat} {w : World} (h : Num w p n c xs a) (k : Num w q m d ys b) :
    Calls Tryz.prog 77 #[.slice p n c, .slice q m d] w fun e w' => e = .returned (.int .i64 (cmpN a b)) ∧ Below w.heap.size w w' := by
  have := cmp_w h.at_ k.at_
  rw [h.nf.val, k.nf.val] at this; exact this

structure SettleTo (B : Nat) (s r : Nat) (v1 v2 : Value) (w w' : World) : Prop where
  v1 : ∃ p m zs, v1 = .slice p m m ∧ Own B w' p m zs ∧ Nf B64 zs s ∧ m ≤ 8192
  v2 : ∃ p m zs, v2 = .slice p m m ∧ Own B w' p m zs ∧ Nf B64 zs r ∧ m ≤ 8192
  bel : Below w.heap.size w w'

theorem sub_ok {p q : Option Addr} {n m c d : Nat} {xs ys : List Nat} {a b : Nat} {w : World} (h : Num w p n c xs a) (k : Num w q m d ys b) (hle : b ≤ a) :
    Calls Tryz.prog 78 #[.slice p n c, .slice q m d] w fun e w' => (∃ p m zs, e = .returned (.tuple #[.slice p m m, .int .i64 0]) ∧ Own w.heap.size w' p m zs ∧ Nf B64 zs (a - b) ∧ m ≤ 8192) ∧ Below w.heap.size w w' := by
  refine (sub_nf h.at_ k.at_ h.nf k.nf h.le k.le).mono ?_
  rintro e w' ⟨h1 | h1, hb⟩
  · exact ⟨h1.2, hb⟩
  · exact absurd h1.1 (by omega)

theorem settle_any {p q r : Option Addr} {n m l : Nat} {xs ys zs : List Nat} {R Lft D B : Nat} {w : World} (h0 : Own B w p n xs) (hB : B ≤ w.heap.size) (h : Num w p n n xs R) (k : Num w q m m ys Lft) (t : Num w r l l zs D) (hD : D * D < LIM) (hR : 2 * R < LIM) (hL : Lft + 2 * R < LIM) (hlow : Lft < D * D → 1 ≤ R ∧ D * D ≤ Lft + 2 * R - 1) :
    Calls Tryz.prog 54 #[.slice p n n, .slice q m m, .slice r l l] w fun e w' => ∃ v1 v2, e = .returned (.tuple #[v1, v2]) ∧
      SettleTo B (if Lft < D * D then R - 1 else R) (if Lft < D * D then Lft + 2 * R - 1 - D * D else Lft - D * D) v1 v2 w w' := by
  obtain ⟨S, hS⟩ : ∃ S, S = if Lft < D * D then R - 1 else R := ⟨_, rfl⟩
  obtain ⟨T, hT⟩ : ∃ T, T = if Lft < D * D then Lft + 2 * R - 1 - D * D else Lft - D * D := ⟨_, rfl⟩
  rw [← hS, ← hT]
  have HS : Hid (S = if Lft < D * D then R - 1 else R) := hS
  have HT : Hid (T = if Lft < D * D then Lft + 2 * R - 1 - D * D else Lft - D * D) := hT
  have HO : Hid (Own B w p n xs) := h0
  have H : Hid (Num w p n n xs R) := h
  have K : Hid (Num w q m m ys Lft) := k
  have TT : Hid (Num w r l l zs D) := t
  have LD : Hid (D * D < LIM) := hD
  have LR : Hid (2 * R < LIM) := hR
  have LL : Hid (Lft + 2 * R < LIM) := hL
  have HLOW : Hid (Lft < D * D → 1 ≤ R ∧ D * D ≤ Lft + 2 * R - 1) := hlow
  have hBs := hB
  clear hS hT h0 h k t hD hR hL hlow
  go_enter Tryz.func54, Tryz.ntmps54
  go_wp2_with fail
  refine (sqr_any TT.out.at_ TT.out.nf TT.out.le).mono ?_
  rintro e v1 ⟨ha1, hb1⟩
  obtain ⟨r1, t1, y1, rfl, ho1, hn1, hm1⟩ := ha1.ok LD.out
  have SQ : Hid (Num v1 r1 t1 t1 y1 (D * D)) := Num.of ho1 hn1 hm1
  clear ha1 ho1 hn1
  have hBsy : B ≤ v1.heap.size := Nat.le_trans hBs hb1.size
  clear hBs
  have hBs := hBsy
  clear hBsy
  replace HO : Hid (Own B v1 p n xs) := HO.out.below hb1
  replace H : Hid _ := H.out.below hb1
  replace K : Hid _ := K.out.below hb1
  have hbw := hb1
  clear hb1
  clear TT
  go_wp2_with fail
  refine (cmp_nf K.out SQ.out).mono ?_
  rintro e v2 ⟨rfl, hb2⟩
  have hBsy : B ≤ v2.heap.size := Nat.le_trans hBs hb2.size
  clear hBs
  have hBs := hBsy
  clear hBsy
  replace HO : Hid (Own B v2 p n xs) := HO.out.below hb2
  replace H : Hid _ := H.out.below hb2
  replace K : Hid _ := K.out.below hb2
  replace SQ : Hid _ := SQ.out.below hb2
  have hbwy := Below.on hbw hb2
  clear hbw
  have hbw := hbwy
  clear hbwy
  clear hb2
  by_cases hlt : Lft < D * D
  · have hc : cmpN Lft (D * D) = -1 := cmpN_lt hlt
    rw [hc]
    have HL : Hid (1 ≤ R ∧ D * D ≤ Lft + 2 * R - 1) := HLOW.out hlt
    have ES : Hid (S = R - 1) := by have := HS.out; rw [if_pos hlt] at this; exact this
    have ET : Hid (T = Lft + 2 * R - 1 - D * D) := by have := HT.out; rw [if_pos hlt] at this; exact this
    clear hc hlt HS HT
    go_wp2_with fail
    rw [show Value.int IntKind.i64 1 = .int .i64 ((1 : Nat) : Int) from rfl]
    go_wp2_with fail
    refine (shl_nf H.out.at_ H.out.nf H.out.le 1 (by omega)).mono ?_
    rintro e v3 ⟨ha3, hb3⟩
    rw [Nat.pow_one] at ha3
    obtain ⟨r3, t3, y3, rfl, ho3, hn3, hm3⟩ := ha3.ok LR.out
    have TW : Hid (Num v3 r3 t3 t3 y3 (2 * R)) := Num.of ho3 hn3 hm3
    clear ha3 ho3 hn3
    have hBsy : B ≤ v3.heap.size := Nat.le_trans hBs hb3.size
    clear hBs
    have hBs := hBsy
    clear hBsy
    replace HO : Hid (Own B v3 p n xs) := HO.out.below hb3
    replace H : Hid _ := H.out.below hb3
    replace K : Hid _ := K.out.below hb3
    replace SQ : Hid _ := SQ.out.below hb3
    have hbwy := Below.on hbw hb3
    clear hbw
    have hbw := hbwy
    clear hbwy
    clear hb3
    go_wp2_with fail
    rw [show Value.int IntKind.u64 1 = U 1 from rfl]
    refine (word_any 1 v3 (by decide)).mono ?_
    rintro e v4 ⟨r4, t4, y4, rfl, ho4, hn4, hm4, hb4⟩
    have ONE : Hid (Num v4 r4 t4 t4 y4 1) := Num.of ho4 hn4 (by omega)
    clear ho4 hn4
    have hBsy : B ≤ v4.heap.size := Nat.le_trans hBs hb4.size
    clear hBs
    have hBs := hBsy
    clear hBsy
    replace HO : Hid (Own B v4 p n xs) := HO.out.below hb4
    replace H : Hid _ := H.out.below hb4
    replace K : Hid _ := K.out.below hb4
    replace SQ : Hid _ := SQ.out.below hb4
    replace TW : Hid _ := TW.out.below hb4
    have hbwy := Below.on hbw hb4
    clear hbw
    have hbw := hbwy
    clear hbwy
    clear hb4
    go_wp2_with fail
    refine (sub_ok H.out ONE.out HL.out.1).mono ?_
    rintro e v5 ⟨⟨r5, t5, y5, rfl, ho5, hn5, hm5⟩, hb5⟩
    have RM : Hid (Num v5 r5 t5 t5 y5 (R - 1)) := Num.of ho5 hn5 hm5
    have RMo : Hid (Own B v5 r5 t5 y5) := ho5.mono hBs
    clear ho5 hn5
    have hBsy : B ≤ v5.heap.size := Nat.le_trans hBs hb5.size
    clear hBs
    have hBs := hBsy
    clear hBsy
    replace HO : Hid (Own B v5 p n xs) := HO.out.below hb5
    replace H : Hid _ := H.out.below hb5
    replace K : Hid _ := K.out.below hb5
    replace SQ : Hid _ := SQ.out.below hb5
    replace TW : Hid _ := TW.out.below hb5
    replace ONE : Hid _ := ONE.out.below hb5
    have hbwy := Below.on hbw hb5
    clear hbw
    have hbw := hbwy
    clear hbwy
    clear hb5
    clear ONE
    clear H
    clear HO
    go_wp2_with fail
    refine (add_ord K.out.at_ TW.out.at_ K.out.nf TW.out.nf K.out.le TW.out.le).mono ?_
    rintro e v6 ⟨ha6, hb6⟩
    obtain ⟨r6, t6, y6, rfl, ho6, hn6, hm6⟩ := ha6.ok LL.out
    have LT : Hid (Num v6 r6 t6 t6 y6 (Lft + 2 * R)) := Num.of ho6 hn6 hm6
    clear ha6 ho6 hn6
    have hBsy : B ≤ v6.heap.size := Nat.le_trans hBs hb6.size
    clear hBs
    have hBs := hBsy
    clear hBsy
    replace K : Hid _ := K.out.below hb6
    replace SQ : Hid _ := SQ.out.below hb6
    replace TW : Hid _ := TW.out.below hb6
    replace RM : Hid _ := RM.out.below hb6
    replace RMo : Hid (Own B v6 r5 t5 y5) := RMo.out.below hb6
    have hbwy := Below.on hbw hb6
    clear hbw
    have hbw := hbwy
    clear hbwy
    clear hb6
    clear K
    clear TW
    go_wp2_with fail
    rw [show Value.int IntKind.u64 1 = U 1 from rfl]
    refine (word_any 1 v6 (by decide)).mono ?_
    rintro e v7 ⟨r7, t7, y7, rfl, ho7, hn7, hm7, hb7⟩
    have ONE : Hid (Num v7 r7 t7 t7 y7 1) := Num.of ho7 hn7 (by omega)
    clear ho7 hn7
    have hBsy : B ≤ v7.heap.size := Nat.le_trans hBs hb7.size
    clear hBs
    have hBs := hBsy
    clear hBsy
    replace SQ : Hid _ := SQ.out.below hb7
    replace RM : Hid _ := RM.out.below hb7
    replace RMo : Hid (Own B v7 r5 t5 y5) := RMo.out.below hb7
    replace LT : Hid _ := LT.out.below hb7
    have hbwy := Below.on hbw hb7
    clear hbw
    have hbw := hbwy
    clear hbwy
    clear hb7
    go_wp2_with fail
    refine (sub_ok LT.out ONE.out (by have := HL.out.1; omega)).mono ?_
    rintro e v8 ⟨⟨r8, t8, y8, rfl, ho8, hn8, hm8⟩, hb8⟩
    have LM : Hid (Num v8 r8 t8 t8 y8 (Lft + 2 * R - 1)) := Num.of ho8 hn8 hm8
    clear ho8 hn8
    have hBsy : B ≤ v8.heap.size := Nat.le_trans hBs hb8.size
    clear hBs
    have hBs := hBsy
    clear hBsy
    replace SQ : Hid _ := SQ.out.below hb8
    replace RM : Hid _ := RM.out.below hb8
    replace RMo : Hid (Own B v8 r5 t5 y5) := RMo.out.below hb8
    replace LT : Hid _ := LT.out.below hb8
    replace ONE : Hid _ := ONE.out.below hb8
    have hbwy := Below.on hbw hb8
    clear hbw
    have hbw := hbwy
    clear hbwy
    clear hb8
    clear ONE
    clear LT
    go_wp2_with fail
    refine (sub_ok LM.out SQ.out HL.out.2).mono ?_
    rintro e v9 ⟨⟨r9, t9, y9, rfl, ho9, hn9, hm9⟩, hb9⟩
    have RE : Hid (Num v9 r9 t9 t9 y9 (Lft + 2 * R - 1 - D * D)) := Num.of ho9 hn9 hm9
    have REo : Hid (Own B v9 r9 t9 y9) := ho9.mono hBs
    clear ho9 hn9
    have hBsy : B ≤ v9.heap.size := Nat.le_trans hBs hb9.size
    clear hBs
    have hBs := hBsy
    clear hBsy
    replace SQ : Hid _ := SQ.out.below hb9
    replace RM : Hid _ := RM.out.below hb9
    replace RMo : Hid (Own B v9 r5 t5 y5) := RMo.out.below hb9
    replace LM : Hid _ := LM.out.below hb9
    have hbwy := Below.on hbw hb9
    clear hbw
    have hbw := hbwy
    clear hbwy
    clear hb9
    clear LM
    clear SQ
    go_wp2_with fail
    go_ret2
    refine ⟨_, _, rfl, ⟨_, _, _, rfl, RMo.out, ?_, RM.out.le⟩, ⟨_, _, _, rfl, REo.out, ?_, RE.out.le⟩, hbw⟩
    · rw [ES.out]; exact RM.out.nf
    · rw [ET.out]; exact RE.out.nf
  · have ES : Hid (S = R) := by have := HS.out; rw [if_neg hlt] at this; exact this
    have ET : Hid (T = Lft - D * D) := by have := HT.out; rw [if_neg hlt] at this; exact this
    have HGE : Hid (D * D ≤ Lft) := by show _ ≤ _; omega
    obtain ⟨cc, hcc⟩ : ∃ cc, cc = cmpN Lft (D * D) := ⟨_, rfl⟩
    have hcn : decide (cc < 0) = false := decide_eq_false (by rw [hcc, cmpN_neg]; exact hlt)
    rw [← hcc]
    clear hcc hlt HS HT
    go_wp2_with fail
    refine (sub_ok K.out SQ.out HGE.out).mono ?_
    rintro e v3 ⟨⟨r3, t3, y3, rfl, ho3, hn3, hm3⟩, hb3⟩
    have RE : Hid (Num v3 r3 t3 t3 y3 (Lft - D * D)) := Num.of ho3 hn3 hm3
    have REo : Hid (Own B v3 r3 t3 y3) := ho3.mono hBs
    clear ho3 hn3
    have hBsy : B ≤ v3.heap.size := Nat.le_trans hBs hb3.size
    clear hBs
    have hBs := hBsy
    clear hBsy
    replace HO : Hid (Own B v3 p n xs) := HO.out.below hb3
    replace H : Hid _ := H.out.below hb3
    replace K : Hid _ := K.out.below hb3
    replace SQ : Hid _ := SQ.out.below hb3
    have hbwy := Below.on hbw hb3
    clear hbw
    have hbw := hbwy
    clear hbwy
    clear hb3
    clear K
    clear SQ
    go_wp2_with fail
    go_ret2
    refine ⟨_, _, rfl, ⟨_, _, _, rfl, HO.out, ?_, H.out.le⟩, ⟨_, _, _, rfl, REo.out, ?_, RE.out.le⟩, hbw⟩
    · rw [ES.out]; exact H.out.nf
    · rw [ET.out]; exact RE.out.nf
theorem wordroot_nil (p : Option Addr) (c : Nat) (w : World) :
    Calls Tryz.prog 49 #[.slice p 0 c] w fun e w' => e = .returned (.tuple #[.slice none 0 0, .slice none 0 0]) ∧ w' = w := by
  go_enter Tryz.func49, Tryz.ntmps49
  go_wp2_with fail
  go_ret2
  exact ⟨rfl, rfl⟩
theorem rootto_zero (w : World) : RootTo w 0 (.slice none 0 0) (.slice none 0 0) w :=
  ⟨⟨0, none, 0, [], none, 0, [], by omega, by omega, rfl, ⟨rfl, Dig.nil _, .inl rfl⟩, Nf.nil _, by omega, rfl, ⟨rfl, Dig.nil _, .inl rfl⟩, Nf.nil _, by omega⟩, Below.refl _ _⟩
theorem wrap_two (k : Nat) (h : k ≤ 1000000) : IntKind.i64.wrap ((2 : Int) * (k : Int)) = ((2 * k : Nat) : Int) := by
  have : ((2 : Int) * (k : Int)) = ((2 * k : Nat) : Int) := by simp
  rw [this]
  simp [IntKind.wrap, IntKind.signed, IntKind.bits]
  omega

theorem rootof_any : ∀ (N a : Nat), a ≤ N → ∀ {p : Option Addr} {n c : Nat} {xs : List Nat} {w : World}, At w p n c xs → Nf B64 xs a → n ≤ 8192 →
    Calls Tryz.prog 25 #[.slice p n c] w fun e w' => ∃ v1 v2, e = .returned (.tuple #[v1, v2]) ∧ RootTo w a v1 v2 w' := by
  intro N
  induction N with
  | zero =>
    intro a ha p n c xs w h hx hn
    obtain rfl : a = 0 := by omega
    have hn0 : n = 0 := by
      have := (hx.zero_iff B64_one).2 rfl
      rw [← h.len, this]; rfl
    subst hn0
    clear h hx
    go_enter Tryz.func25, Tryz.ntmps25
    go_wp2_with fail
    refine (wordroot_nil p c w).mono ?_
    rintro e w' ⟨rfl, hw⟩
    obtain rfl := hw.symm
    clear hw
    go_wp2_with fail
    go_ret2
    exact ⟨_, _, rfl, rootto_zero w⟩
  | succ N ih =>
    intro a ha p n c xs w h hx hn
    by_cases hn0 : n = 0
    · subst hn0
      have ha0 : a = 0 := (hx.zero_iff B64_one).1 (List.eq_nil_of_length_eq_zero h.len)
      have HA0 : Hid (a = 0) := ha0
      clear h hx ih ha ha0
      go_enter Tryz.func25, Tryz.ntmps25
      go_wp2_with fail
      refine (wordroot_nil p c w).mono ?_
      rintro e w' ⟨rfl, hw⟩
      obtain rfl := hw.symm
      clear hw
      go_wp2_with fail
      go_ret2
      rw [HA0.out]
      exact ⟨_, _, rfl, rootto_zero w⟩
    · obtain ⟨g, off, rfl, _⟩ := h.cells.resolve_left hn0
      by_cases hn1 : n = 1
      · subst hn1
        have e1 := hx.one h.len
        subst e1
        have ha0 : a ≠ 0 := hx.top a (by simp)
        clear ih ha hx
        go_enter Tryz.func25, Tryz.ntmps25
        go_wp2_with fail
        refine (wordroot_any h ha0).mono ?_
        rintro e w1 ⟨v1, v2, rfl, hR⟩
        have HR : Hid (RootTo w a v1 v2 w1) := hR
        clear hR
        go_wp2_with fail
        go_ret2
        exact ⟨_, _, rfl, HR.out⟩
      · have hbig := hx.big h.len (by omega)
        have h64 : 2 ^ 64 ≤ a := by
          refine Nat.le_trans ?_ hbig
          rw [show (2 : Nat) ^ 64 = B64 ^ 1 from rfl]
          exact Nat.pow_le_pow_right B64_pos (by omega)
        have hal : a < LIM := hx.lim.1 (by rw [h.len]; exact hn)
        obtain ⟨nb, hnb⟩ : ∃ nb, nb = bitsN a := ⟨_, rfl⟩
        have hnb65 : 65 ≤ nb := by
          rcases Nat.lt_or_ge nb 65 with e | e
          · have := (lt_pow_bits a 64).2 (by omega); omega
          · exact e
        have hnbt : nb ≤ 524288 := by rw [hnb, ← lim_bits]; exact hal
        obtain ⟨k, hk⟩ : ∃ k, k = nb / 4 := ⟨_, rfl⟩
        have hkb : k ≤ 131072 := by omega
        have hup : a / 2 ^ (2 * k) ≤ N := by
          have : a / 2 ^ (2 * k) < a := Nat.div_lt_self (by omega) (Nat.one_lt_two_pow (by omega))
          omega
        have HUP : Hid (a / 2 ^ (2 * k) ≤ N) := hup
        have HAL : Hid (a < LIM) := hal
        have HNB : Hid (nb = bitsN a) := hnb
        have HKE : Hid (k = nb / 4) := hk
        have HIH : Hid (∀ a, a ≤ N → ∀ {p : Option Addr} {n c : Nat} {xs : List Nat} {w : World}, At w p n c xs → Nf B64 xs a → n ≤ 8192 → Calls Tryz.prog 25 #[.slice p n c] w fun e w' => ∃ v1 v2, e = .returned (.tuple #[v1, v2]) ∧ RootTo w a v1 v2 w') := ih
        have hkt : (nb : Int).tdiv 4 = (k : Int) := by rw [Int.tdiv_eq_ediv_of_nonneg (by omega)]; omega
        have hw2 : IntKind.i64.wrap ((2 : Int) * (k : Int)) = ((2 * k : Nat) : Int) := wrap_two k (by omega)
        have A : Hid (Num w (some ⟨g, off, none⟩) n c xs a) := ⟨h, hx, hn⟩
        have hBs : w.heap.size ≤ w.heap.size := Nat.le_refl _
        have hn2 : decide ((n : Int) < 2) = false := decide_eq_false (by omega)
        clear h hx hbig h64 hal hnb hk hup ih ha
        go_enter Tryz.func25, Tryz.ntmps25
        go_wp2_with fail
        refine (bits_any A.out.at_ (by omega)).mono ?_
        rintro e w' ⟨rfl, hw⟩
        obtain rfl := hw.symm
        clear hw
        rw [A.out.nf.val, ← HNB.out]
        go_wp2_with fail
        rw [show ((2 : Int) * (k : Int)) = ((2 * k : Nat) : Int) by omega]
        go_wp2_with fail
        refine (shr_nf A.out.at_ A.out.nf A.out.le (2 * k) (by omega)).mono ?_
        rintro e v1 ⟨⟨r1, t1, y1, rfl, ho1, hn1, hm1⟩, hb1⟩
        have UP : Hid (Num v1 r1 t1 t1 y1 (a / 2 ^ (2 * k))) := Num.of ho1 hn1 hm1
        clear ho1 hn1
        have hBsy : w.heap.size ≤ v1.heap.size := Nat.le_trans hBs hb1.size
        clear hBs
        have hBs := hBsy
        clear hBsy
        replace A : Hid _ := A.out.below hb1
        have hbw := hb1
        clear hb1
        go_wp2_with fail
        refine (HIH.out _ HUP.out UP.out.at_ UP.out.nf UP.out.le).mono ?_
        rintro e v2 ⟨u1, u2, rfl, hR2⟩
        obtain ⟨hf, ph, mh, zh, pl, ml, zl, hh1, hh2, rfl, oh, nh, lh, rfl, ol, nl, ll⟩ := hR2.val
        have hb2 := hR2.bel
        have HF : Hid (Num v2 ph mh mh zh hf) := Num.of oh nh lh
        have LE : Hid (Num v2 pl ml ml zl (a / 2 ^ (2 * k) - hf * hf)) := Num.of ol nl ll
        have HH : Hid (hf * hf ≤ a / 2 ^ (2 * k) ∧ a / 2 ^ (2 * k) ≤ hf * hf + 2 * hf) := ⟨hh1, hh2⟩
        clear hR2 hh1 hh2 oh nh ol nl
        clear UP
        have hBsy : w.heap.size ≤ v2.heap.size := Nat.le_trans hBs hb2.size
        clear hBs
        have hBs := hBsy
        clear hBsy
        replace A : Hid _ := A.out.below hb2
        have hbwy := Below.on hbw hb2
        clear hbw
        have hbw := hbwy
        clear hbwy
        clear hb2
        go_wp2_with fail
        rw [show ((2 : Int) * (k : Int)) = ((2 * k : Nat) : Int) by omega]
        go_wp2_with fail
        refine (low_nf A.out.at_ A.out.nf A.out.le (2 * k) (by omega)).mono ?_
        rintro e v3 ⟨⟨r3, t3, y3, rfl, ho3, hn3, hm3⟩, hb3⟩
        have LOW : Hid (Num v3 r3 t3 t3 y3 (a % 2 ^ (2 * k))) := Num.of ho3 hn3 hm3
        clear ho3 hn3
        have hBsy : w.heap.size ≤ v3.heap.size := Nat.le_trans hBs hb3.size
        clear hBs
        have hBs := hBsy
        clear hBsy
        replace A : Hid _ := A.out.below hb3
        replace HF : Hid _ := HF.out.below hb3
        replace LE : Hid _ := LE.out.below hb3
        have hbwy := Below.on hbw hb3
        clear hbw
        have hbw := hbwy
        clear hbwy
        clear hb3
        clear A
        go_wp2_with fail
        refine (shr_nf LOW.out.at_ LOW.out.nf LOW.out.le k (by omega)).mono ?_
        rintro e v4 ⟨⟨r4, t4, y4, rfl, ho4, hn4, hm4⟩, hb4⟩
        have NX : Hid (Num v4 r4 t4 t4 y4 (a % 2 ^ (2 * k) / 2 ^ k)) := Num.of ho4 hn4 hm4
        clear ho4 hn4
        have hBsy : w.heap.size ≤ v4.heap.size := Nat.le_trans hBs hb4.size
        clear hBs
        have hBs := hBsy
        clear hBsy
        replace HF : Hid _ := HF.out.below hb4
        replace LE : Hid _ := LE.out.below hb4
        replace LOW : Hid _ := LOW.out.below hb4
        have hbwy := Below.on hbw hb4
        clear hbw
        have hbw := hbwy
        clear hbwy
        clear hb4
        go_wp2_with fail
        refine (low_nf LOW.out.at_ LOW.out.nf LOW.out.le k (by omega)).mono ?_
        rintro e v5 ⟨⟨r5, t5, y5, rfl, ho5, hn5, hm5⟩, hb5⟩
        have LA : Hid (Num v5 r5 t5 t5 y5 (a % 2 ^ (2 * k) % 2 ^ k)) := Num.of ho5 hn5 hm5
        clear ho5 hn5
        have hBsy : w.heap.size ≤ v5.heap.size := Nat.le_trans hBs hb5.size
        clear hBs
        have hBs := hBsy
        clear hBsy
        replace HF : Hid _ := HF.out.below hb5
        replace LE : Hid _ := LE.out.below hb5
        replace LOW : Hid _ := LOW.out.below hb5
        replace NX : Hid _ := NX.out.below hb5
        have hbwy := Below.on hbw hb5
        clear hbw
        have hbw := hbwy
        clear hbwy
        clear hb5
        clear LOW
        obtain ⟨l, hl⟩ : ∃ l, l = a / 2 ^ (2 * k) - hf * hf := ⟨_, rfl⟩
        obtain ⟨nx, hnx⟩ : ∃ nx, nx = a % 2 ^ (2 * k) / 2 ^ k := ⟨_, rfl⟩
        obtain ⟨la, hla⟩ : ∃ la, la = a % 2 ^ (2 * k) % 2 ^ k := ⟨_, rfl⟩
        rw [← hl] at LE
        rw [← hnx] at NX
        rw [← hla] at LA
        have hhb := half_big HNB.out HKE.out hnb65 HH.out.2
        have hC : RootC a hf (2 ^ k) ((2 ^ k * l + nx) / (2 * hf)) ((2 ^ k * l + nx) % (2 * hf)) la := by
          have hs := split_low a k
          rw [← hnx, ← hla] at hs
          refine root_core (l := l) (next := nx) ?_ ?_ ?_ ?_ ?_ ?_ hhb.1 hhb.2
          · have h1 := HH.out.1
            have h2 : hf * hf + l = a / 2 ^ (2 * k) := by omega
            rw [h2]; exact hs
          · have := HH.out; omega
          · rw [hnx]; refine Nat.div_lt_of_lt_mul ?_
            rw [← Nat.pow_add, show k + k = 2 * k by omega]; exact Nat.mod_lt _ (Nat.two_pow_pos _)
          · rw [hla]; exact Nat.mod_lt _ (Nat.two_pow_pos _)
          · have h9 := Nat.div_add_mod (2 ^ k * l + nx) (2 * hf)
            rw [Nat.mul_comm (2 * hf) ((2 ^ k * l + nx) / (2 * hf))] at h9
            exact h9.symm
          · exact Nat.mod_lt _ (by omega)
        have hX : 2 ^ k * l + nx < LIM := by
          have h1 := Nat.div_add_mod (2 ^ k * l + nx) (2 * hf)
          have h2 := Nat.mod_lt (2 ^ k * l + nx) (show 2 * hf > 0 by omega)
          have h3 := hC.le; have h4 := HAL.out; have h5 := hC.dP
          have h6 : 2 * hf * ((2 ^ k * l + nx) / (2 * hf)) ≤ 2 * hf * 2 ^ k := Nat.mul_le_mul_left _ h5
          have h7 : 2 * hf * 2 ^ k = 2 * (2 ^ k * hf) := by rw [Nat.mul_assoc, Nat.mul_comm hf]
          generalize 2 * hf * ((2 ^ k * l + nx) / (2 * hf)) = Y at *
          omega
        have HX : Hid (2 ^ k * l + nx < LIM) := hX
        have H2 : Hid (2 * hf < LIM) := by have := hC.le; have := HAL.out; show _ < _; omega
        have HF0 : Hid (2 * hf ≠ 0) := by have := hhb.2; show _ ≠ _; omega
        clear hX
        obtain ⟨X, eX⟩ : ∃ X, X = 2 ^ k * l + nx := ⟨_, rfl⟩
        obtain ⟨D, eD⟩ : ∃ D, D = (2 ^ k * l + nx) / (2 * hf) := ⟨_, rfl⟩
        obtain ⟨O, eO⟩ : ∃ O, O = (2 ^ k * l + nx) % (2 * hf) := ⟨_, rfl⟩
        rw [← eD, ← eO] at hC
        have ED : Hid (D = (2 ^ k * l + nx) / (2 * hf)) := eD
        have EO : Hid (O = (2 ^ k * l + nx) % (2 * hf)) := eO
        have HC : Hid (RootC a hf (2 ^ k) D O la) := hC
        have hlm := HAL.out
        have hle := hC.le; have hdp := hC.dP; have hlf := hC.lf; have hdd := hC.dd
        have L1 : Hid (2 ^ k * hf + D < LIM) := by show _ < _; omega
        have L2 : Hid (2 ^ k * O + la < LIM) := by show _ < _; omega
        have L3 : Hid (D * D < LIM) := by show _ < _; omega
        have L4 : Hid (2 * (2 ^ k * hf + D) < LIM) := by show _ < _; omega
        have L5 : Hid (2 ^ k * O + la + 2 * (2 ^ k * hf + D) < LIM) := by show _ < _; omega
        have FIN := hC.fin
        have F1 : Hid (2 ^ k * O + la < D * D → 1 ≤ 2 ^ k * hf + D ∧ D * D ≤ 2 ^ k * O + la + 2 * (2 ^ k * hf + D) - 1) := FIN.1
        have F2 : Hid ((if 2 ^ k * O + la < D * D then 2 ^ k * hf + D - 1 else 2 ^ k * hf + D) * (if 2 ^ k * O + la < D * D then 2 ^ k * hf + D - 1 else 2 ^ k * hf + D) ≤ a ∧
          a ≤ (if 2 ^ k * O + la < D * D then 2 ^ k * hf + D - 1 else 2 ^ k * hf + D) * (if 2 ^ k * O + la < D * D then 2 ^ k * hf + D - 1 else 2 ^ k * hf + D) + 2 * (if 2 ^ k * O + la < D * D then 2 ^ k * hf + D - 1 else 2 ^ k * hf + D) ∧
          (if 2 ^ k * O + la < D * D then 2 ^ k * O + la + 2 * (2 ^ k * hf + D) - 1 - D * D else 2 ^ k * O + la - D * D) = a - (if 2 ^ k * O + la < D * D then 2 ^ k * hf + D - 1 else 2 ^ k * hf + D) * (if 2 ^ k * O + la < D * D then 2 ^ k * hf + D - 1 else 2 ^ k * hf + D)) := FIN.2
        clear FIN hC hlm hle hdp hlf hdd hhb eD eO eX hl hnx hla
        go_wp2_with fail
        rw [show Value.int IntKind.i64 1 = .int .i64 ((1 : Nat) : Int) from rfl]
        go_wp2_with fail
        refine (shl_nf HF.out.at_ HF.out.nf HF.out.le 1 (by omega)).mono ?_
        rintro e v6 ⟨ha6, hb6⟩
        rw [Nat.pow_one] at ha6
        obtain ⟨r6, t6, y6, rfl, ho6, hn6, hm6⟩ := ha6.ok H2.out
        have TW : Hid (Num v6 r6 t6 t6 y6 (2 * hf)) := Num.of ho6 hn6 hm6
        clear ha6 ho6 hn6
        have hBsy : w.heap.size ≤ v6.heap.size := Nat.le_trans hBs hb6.size
        clear hBs
        have hBs := hBsy
        clear hBsy
        replace HF : Hid _ := HF.out.below hb6
        replace LE : Hid _ := LE.out.below hb6
        replace NX : Hid _ := NX.out.below hb6
        replace LA : Hid _ := LA.out.below hb6
        have hbwy := Below.on hbw hb6
        clear hbw
        have hbw := hbwy
        clear hbwy
        clear hb6
        go_wp2_with fail
        refine (join_any LE.out NX.out k (by omega) HX.out).mono ?_
        rintro e v7 ⟨r7, t7, y7, rfl, ho7, hn7, hm7, hb7⟩
        have JX : Hid (Num v7 r7 t7 t7 y7 (2 ^ k * l + nx)) := Num.of ho7 hn7 hm7
        clear ho7 hn7
        have hBsy : w.heap.size ≤ v7.heap.size := Nat.le_trans hBs hb7.size
        clear hBs
        have hBs := hBsy
        clear hBsy
        replace HF : Hid _ := HF.out.below hb7
        replace LE : Hid _ := LE.out.below hb7
        replace NX : Hid _ := NX.out.below hb7
        replace LA : Hid _ := LA.out.below hb7
        replace TW : Hid _ := TW.out.below hb7
        have hbwy := Below.on hbw hb7
        clear hbw
        have hbw := hbwy
        clear hbwy
        clear hb7
        clear LE
        clear NX
        go_wp2_with fail
        refine (quorem_any JX.out.at_ TW.out.at_ JX.out.nf TW.out.nf JX.out.le TW.out.le HF0.out).mono ?_
        rintro e v8 ⟨x1, x2, rfl, hD8⟩
        obtain ⟨pd, md, zd, rfl, od, nd, ld⟩ := hD8.quo
        obtain ⟨po, mo, zo, rfl, oo, no, lo⟩ := hD8.rem
        have hb8 := hD8.bel
        rw [← ED.out] at nd
        rw [← EO.out] at no
        have DG : Hid (Num v8 pd md md zd D) := Num.of od nd ld
        have OV : Hid (Num v8 po mo mo zo O) := Num.of oo no lo
        clear hD8 od nd oo no
        clear JX
        clear TW
        have hBsy : w.heap.size ≤ v8.heap.size := Nat.le_trans hBs hb8.size
        clear hBs
        have hBs := hBsy
        clear hBsy
        replace HF : Hid _ := HF.out.below hb8
        replace LA : Hid _ := LA.out.below hb8
        have hbwy := Below.on hbw hb8
        clear hbw
        have hbw := hbwy
        clear hbwy
        clear hb8
        go_wp2_with fail
        refine (join_any HF.out DG.out k (by omega) L1.out).mono ?_
        rintro e v9 ⟨r9, t9, y9, rfl, ho9, hn9, hm9, hb9⟩
        have RT : Hid (Num v9 r9 t9 t9 y9 (2 ^ k * hf + D)) := Num.of ho9 hn9 hm9
        have RTo : Hid (Own w.heap.size v9 r9 t9 y9) := ho9.mono hBs
        clear ho9 hn9
        have hBsy : w.heap.size ≤ v9.heap.size := Nat.le_trans hBs hb9.size
        clear hBs
        have hBs := hBsy
        clear hBsy
        replace HF : Hid _ := HF.out.below hb9
        replace LA : Hid _ := LA.out.below hb9
        replace DG : Hid _ := DG.out.below hb9
        replace OV : Hid _ := OV.out.below hb9
        have hbwy := Below.on hbw hb9
        clear hbw
        have hbw := hbwy
        clear hbwy
        clear hb9
        clear HF
        go_wp2_with fail
        refine (join_any OV.out LA.out k (by omega) L2.out).mono ?_
        rintro e v10 ⟨r10, t10, y10, rfl, ho10, hn10, hm10, hb10⟩
        have LF : Hid (Num v10 r10 t10 t10 y10 (2 ^ k * O + la)) := Num.of ho10 hn10 hm10
        clear ho10 hn10
        have hBsy : w.heap.size ≤ v10.heap.size := Nat.le_trans hBs hb10.size
        clear hBs
        have hBs := hBsy
        clear hBsy
        replace LA : Hid _ := LA.out.below hb10
        replace DG : Hid _ := DG.out.below hb10
        replace OV : Hid _ := OV.out.below hb10
        replace RT : Hid _ := RT.out.below hb10
        replace RTo : Hid (Own w.heap.size v10 r9 t9 y9) := RTo.out.below hb10
        have hbwy := Below.on hbw hb10
        clear hbw
        have hbw := hbwy
        clear hbwy
        clear hb10
        clear OV
        clear LA
        go_wp2_with fail
        refine (settle_any RTo.out hBs RT.out LF.out DG.out L3.out L4.out L5.out F1.out).mono ?_
        rintro e v11 ⟨x1, x2, rfl, hS⟩
        obtain ⟨q1, l1, s1, rfl, o1, n1, g1⟩ := hS.v1
        obtain ⟨q2, l2, s2, rfl, o2, n2, g2⟩ := hS.v2
        have hbz := Below.on hbw hS.bel
        have N1 : Hid (Nf B64 s1 (if 2 ^ k * O + la < D * D then 2 ^ k * hf + D - 1 else 2 ^ k * hf + D)) := n1
        have N2 : Hid (Nf B64 s2 (if 2 ^ k * O + la < D * D then 2 ^ k * O + la + 2 * (2 ^ k * hf + D) - 1 - D * D else 2 ^ k * O + la - D * D)) := n2
        clear n1 n2 hS hbw RT RTo LF DG hBs
        go_wp2_with fail
        go_ret2
        refine ⟨_, _, rfl, ⟨_, q1, l1, s1, q2, l2, s2, F2.out.1, F2.out.2.1, rfl, o1, N1.out, g1, rfl, o2, ?_, g2⟩, hbz⟩
        rw [← F2.out.2.2]; exact N2.out
end Go.Proofs.YtpebgjpfgfimgaaGreatDoor
namespace Go.Proofs.YtpebgjpfgfimgaaGreatDoor
open Go.RowKit
set_option maxRecDepth 20000
set_option maxHeartbeats 0
theorem Wr.row_above {w w' : World} {g m n : Nat} {xs : List Nat} (hb : Blk w g xs) (h : Wr g 0 m w w') (hn : xs.length = n) (hm : m < n) : w'.cell? ⟨g, m, none⟩ = some (U (xs.getD m 0)) ∧ w'.frozen? ⟨g, m, none⟩ = false := by
  constructor
  · rw [h.cell g m (by omega)]; exact hb.cell m (by omega)
  · rw [h.frozen]; exact hb.frozen m
theorem Blk.row_take {w : World} {g : Nat} {xs : List Nat} (h : Blk w g xs) (hd : Dig B64 xs) (m : Nat) (hm : m ≤ xs.length) : Row w g 0 m (xs.take m) := (h.row hd).take m hm

theorem mulw_nf {p : Option Addr} {m c : Nat} {xs : List Nat} {a : Nat} {w : World} (h : At w p m c xs) (hx : Nf B64 xs a) (hm : m ≤ 8192) (v : Nat) (hv : v < B64) :
    Calls Tryz.prog 30 #[.slice p m c, U v] w fun e w' => Ans w.heap.size w' e (a * v) ∧ Below w.heap.size w w' := by
  have fx := hx.form (by rw [h.len]; exact hm)
  have hl := h.len
  have HX : Hid (Nf B64 xs a) := hx
  clear hx
  go_enter Tryz.func30, Tryz.ntmps30
  go_wp2_with fail
  refine (form_true h fx).mono ?_
  rintro e w' ⟨rfl, hw⟩
  obtain rfl := hw.symm
  clear hw fx
  obtain ⟨i0, hi, hz0, hz1, hz2⟩ := info_parts Tryz.infoU64
  go_wp2_with (at_make; refine wpList_make_full _ rfl _ _ 23 rfl w.heap.size 34 i0 (.int .u64 0) 1 Tryz.underlying23 hi hz0 hz1 _ _ _ _ (m + 1) rfl rfl (by omega) (by omega) (by rw [hz2]; omega) (by unfold maxLen; omega) (Nat.le_refl _) ?_; intro w1 hown hgrow; have hb := made_blk hown hgrow; clear hown hgrow)
  obtain ⟨hblk, hb1⟩ := hb
  have hdz : Dig B64 (List.replicate (m + 1) 0) := Dig.replicate _ _ B64_pos
  have hr := hblk.row_take hdz m (by simp)
  rw [List.take_replicate, Nat.min_eq_left (by omega)] at hr
  refine (amul_any w.heap.size 0 (m + 1) (m + 1) _ p m c xs v _ hr (by omega) (Nat.le_refl _) (by omega) (h.below hb1) hv (fun g2 off2 hn hp => .inl (h.fresh (Nat.le_refl _) g2 off2 hn hp))).mono ?_
  rintro e w2 ⟨cy, zs, rfl, hcy, hwr, hrow, hsum⟩
  obtain ⟨hcm, hfm⟩ := hwr.row_above hblk (n := m + 1) (by simp) (by omega)
  have hb2 : Below w.heap.size w w2 := hb1.trans (hwr.below (Nat.le_refl _))
  rw [valB_replicate, Nat.zero_add, HX.out.val] at hsum
  have HS : Hid (valB B64 zs + B64 ^ m * cy = a * v) := hsum
  clear hsum hwr hb1 hblk hr hdz
  go_wp2_with fail
  have hrow3 : Row (w2.setCell ⟨w.heap.size, m, none⟩ (U cy)) w.heap.size 0 (m + 1) (zs ++ [cy]) := by
    have hW : Wr w.heap.size (0 + m) 1 w2 (w2.setCell ⟨w.heap.size, m, none⟩ (U cy)) := (Wr.refl w.heap.size (0 + m) 1 w2).setCell m ⟨by omega, by omega⟩ _
    have hrow' : Row (w2.setCell ⟨w.heap.size, m, none⟩ (U cy)) w.heap.size 0 m zs :=
      ⟨hrow.len, hrow.dig, fun j hj => by rw [hW.cell _ _ (by omega)]; exact hrow.cell j hj, fun j hj => by rw [World.frozen?_setCell]; exact hrow.frozen j hj⟩
    refine hrow'.snoc ?_ ?_ hcy
    · rw [Nat.zero_add]; exact World.cell?_setCell_same _ _ _ hcm
    · rw [Nat.zero_add, World.frozen?_setCell]; exact hfm
  have hb3 : Below w.heap.size w (w2.setCell ⟨w.heap.size, m, none⟩ (U cy)) := hb2.setCell (Nat.le_refl _) _
  generalize w2.setCell ⟨w.heap.size, m, none⟩ (U cy) = w3 at *
  have A3 := hrow3.at_ (Nat.le_refl _) (by unfold maxLen; omega)
  have hval : valB B64 (zs ++ [cy]) = a * v := by rw [valB_snoc, hrow.len]; exact HS.out
  have hN := Nf.trim hrow3.dig
  rw [hval] at hN
  have HV : Hid (Nf B64 (trimL (zs ++ [cy])) (a * v)) := hN
  clear hval hN hcm hfm hrow
  generalize zs ++ [cy] = us at *
  refine (fitted_any A3).mono ?_
  rintro e w4 hres
  rcases hres with ⟨hle, ⟨p', m', rfl, hm', hp'⟩, hw⟩ | ⟨hgt, rfl, hw⟩
  · obtain rfl := hw.symm
    have HM : Hid (m' = (trimL us).length) := hm'
    clear hw hm'
    go_wp2_with fail
    go_ret2
    have e1 := HM.out
    exact ⟨.inl ⟨HV.out.lim.1 hle, p', m', trimL us, rfl, hrow3.own (Nat.le_refl _) e1 hp', HV.out, by omega⟩, hb3⟩
  · obtain rfl := hw.symm
    clear hw
    go_wp2_with fail
    go_ret2
    refine ⟨.inr ⟨?_, rfl⟩, hb3⟩
    have := mt HV.out.lim.2 (by omega)
    omega
end Go.Proofs.YtpebgjpfgfimgaaGreatDoor
namespace Go.Proofs.YtpebgjpfgfimgaaGreatDoor
open Go.RowKit Go.Shelf
set_option maxRecDepth 20000
set_option maxHeartbeats 0
theorem twin3_any {p : Option Addr} {n c : Nat} {xs : List Nat} {w : World} (h : At w p n c xs) (hn : n ≤ 35184372088832) :
    Calls Tryz.prog 55 #[.slice p n c] w fun e w' =>
      ∃ g, e = .returned (.slice (some ⟨g, 0, none⟩) n n) ∧ w.heap.size ≤ g ∧ Blk w' g xs ∧ Below w.heap.size w w' := by
  obtain ⟨i0, hi, hz0, hz1, hz2⟩ := info_parts Tryz.infoU64
  have hl := h.len
  go_enter Tryz.func55, Tryz.ntmps55
  go_wp2_with (first
    | (at_make; refine wpList_make_full _ rfl _ _ 23 rfl w.heap.size 34 i0 (.int .u64 0) 1 Tryz.underlying23 hi hz0 hz1 _ _ _ _ n rfl rfl (by omega) (by omega) (by rw [hz2]; omega) (by unfold maxLen; omega) (Nat.le_refl _) ?_; intro w1 hown hgrow; have hb := made_blk hown hgrow; clear hown hgrow)
    | (refine wpList_copy_splice rfl (.tmp 7) (.tmp 8) 23 23 rfl 34 Tryz.underlying23 Tryz.sizeU64 (some ⟨w.heap.size, 0, none⟩) p n n n c rfl rfl w.heap.size 0 (cellsU (List.replicate n 0)) 34 hb.1 (cellsU xs) (by rw [cellsU_length, hl]; exact (Nat.min_self n).symm) (fun h0 => ⟨rfl, (h.below hb.2).src (by rw [cellsU_length] at h0; omega)⟩) (by simp [cellsU_length]; omega) (cellsU_one xs) w.heap.size w hb.2 (Nat.le_refl _) ?_; intro w2 hg2 hb2))
  go_ret
  refine ⟨_, rfl, Nat.le_refl _, ?_, hb2⟩
  rw [splice_cellsU, hl, Nat.sub_self, List.replicate_zero, List.append_nil] at hg2
  exact hg2
theorem root_any {p : Option Addr} {n c : Nat} {xs : List Nat} {a : Nat} {w : World} (h : Num w p n c xs a) :
    Calls Tryz.prog 12 #[.slice p n c] w fun e w' => ∃ v1 v2, e = .returned (.tuple #[v1, v2, .int .i64 0]) ∧ RootTo w a v1 v2 w' := by
  have fx := h.nf.form (by rw [h.at_.len]; exact h.le)
  have H : Hid (Num w p n c xs a) := h
  clear h
  go_enter Tryz.func12, Tryz.ntmps12
  go_wp2_with fail
  refine (form_true H.out.at_ fx).mono ?_
  rintro e w' ⟨rfl, hw⟩
  obtain rfl := hw.symm
  clear hw fx
  go_wp2_with fail
  refine (rootof_any a a (Nat.le_refl _) H.out.at_ H.out.nf H.out.le).mono ?_
  rintro e w1 ⟨v1, v2, rfl, hR⟩
  have HR : Hid (RootTo w a v1 v2 w1) := hR
  clear hR
  go_wp2_with fail
  go_ret3
  exact ⟨_, _, rfl, HR.out⟩
theorem own_one {B : Nat} {w : World} {p : Option Addr} {m : Nat} {zs : List Nat} {x : Nat} (ho : Own B w p m zs) (hn : Nf B64 zs x) (hx : x < B64) (h0 : x ≠ 0) : m = 1 ∧ ∃ g, p = some ⟨g, 0, none⟩ ∧ w.cell? ⟨g, 0, none⟩ = some (U x) ∧ g < w.heap.size := by
  obtain rfl : zs = [x] := hn.inj B64_one (nf_one hx h0)
  have hm : m = 1 := by rw [← ho.len]; rfl
  refine ⟨hm, ?_⟩
  obtain ⟨g, hp, _, hr⟩ := ho.mem.resolve_left (by omega)
  exact ⟨g, hp, hr.cell 0 (by omega), hr.lt (by omega)⟩
theorem root7 {s : Nat} (h1 : s * s ≤ 7) (h2 : 7 ≤ s * s + 2 * s) : s = 2 := by
  have h3 : s < 3 := by
    rcases Nat.lt_or_ge s 3 with e | e
    · exact e
    · have : 3 * 3 ≤ s * s := Nat.mul_le_mul e e
      omega
  match s, h3 with
  | 0, _ => simp at h2
  | 1, _ => simp at h2
  | 2, _ => rfl

theorem awake3_any (w : World) : Calls Tryz.prog 13 #[] w fun e w' => e = .returned (.bool true) ∧ Below w.heap.size w w' := by
  go_enter Tryz.func13, Tryz.ntmps13
  go_wp2_with fail
  refine (quorem_any ((lit_at w _ [7] 1 rfl rfl (dig1 (by decide)) (by omega)).alloc _) (lit_at1 w _ _ [3] 1 rfl rfl (dig1 (by decide)) (by omega)) (nf_one (by decide) (by decide)) (nf_one (by decide) (by decide)) (by omega) (by omega) (by decide)).mono ?_
  rintro e w1 ⟨v1, v2, rfl, hD⟩
  obtain ⟨p1, m1, z1, rfl, o1, n1, _⟩ := hD.quo
  obtain ⟨p2, m2, z2, rfl, o2, n2, _⟩ := hD.rem
  obtain ⟨rfl, g1, rfl, c1, l1⟩ := own_one o1 n1 (by decide) (by decide)
  obtain ⟨rfl, g2, rfl, c2, l2⟩ := own_one o2 n2 (by decide) (by decide)
  have hb : Below w.heap.size w w1 := Below.on (below2 w _ _) hD.bel
  clear hD o1 n1 o2 n2
  go_wp2_with fail
  have A7 : Num (w1.alloc (.cells #[U 7] 34)) (some ⟨w1.heap.size, 0, none⟩) 1 1 [7] 7 := ⟨lit_at w1 _ [7] 1 rfl rfl (dig1 (by decide)) (by omega), nf_one (by decide) (by decide), by omega⟩
  refine (root_any A7).mono ?_
  rintro e w2 ⟨v1, v2, rfl, hR⟩
  obtain ⟨s, p3, m3, z3, p4, m4, z4, h1, h2, rfl, o3, n3, _, rfl, o4, n4, _⟩ := hR.val
  obtain rfl := root7 h1 h2
  obtain ⟨rfl, g3, rfl, c3, l3⟩ := own_one o3 n3 (by decide) (by decide)
  obtain ⟨rfl, g4, rfl, c4, l4⟩ := own_one o4 n4 (by decide) (by decide)
  have hb2 : Below w1.heap.size w1 w2 := Below.on (below1 w1 _) hR.bel
  have d1 : w2.cell? ⟨g1, 0, none⟩ = some (U (7 / 3)) := (hb2.cell (p := ⟨g1, 0, none⟩) l1).trans c1
  have d2 : w2.cell? ⟨g2, 0, none⟩ = some (U (7 % 3)) := (hb2.cell (p := ⟨g2, 0, none⟩) l2).trans c2
  have hbw := Below.on hb hb2
  clear hR o3 n3 o4 n4 hb hb2 c1 c2 h1 h2 A7
  go_wp2_with fail
  go_ret
  exact ⟨rfl, hbw⟩
theorem quorem_z3 {p q : Option Addr} {n m c d : Nat} {xs ys : List Nat} {a b : Nat} {w : World} (h : At w p n c xs) (k : At w q m d ys) (hx : Nf B64 xs a) (hy : Nf B64 ys b) (hlx : n ≤ 8192) (hly : m ≤ 8192) (hb : b = 0) :
    Calls Tryz.prog 11 #[.slice p n c, .slice q m d] w fun e w' => e = .returned (.tuple #[.slice none 0 0, .slice none 0 0, .int .i64 4]) ∧ w' = w := by
  have hyn : ys = [] := (hy.zero_iff B64_one).2 hb
  have hm0 : m = 0 := by rw [← k.len, hyn]; rfl
  have fx := hx.form (by rw [h.len]; exact hlx)
  have fy := hy.form (by rw [k.len]; exact hly)
  have HA : Hid (At w p n c xs) := h
  have HB : Hid (At w q m d ys) := k
  clear h k hx hy hyn
  subst hm0
  go_enter Tryz.func11, Tryz.ntmps11
  go_wp2_with fail
  refine (form_true HA.out fx).mono ?_
  rintro e w' ⟨rfl, hw⟩
  obtain rfl := hw.symm
  clear hw
  go_wp2_with fail
  refine (form_true HB.out fy).mono ?_
  rintro e w' ⟨rfl, hw⟩
  obtain rfl := hw.symm
  clear hw
  go_wp2_with fail
  go_ret3
  exact ⟨rfl, rfl⟩
def QrA (xs ys us vs : List Nat) (e : Int) : Prop := (formB xs = true ∧ formB ys = true ∧ valB B64 ys ≠ 0 ∧ Nf B64 us (valB B64 xs / valB B64 ys) ∧ Nf B64 vs (valB B64 xs % valB B64 ys) ∧ e = 0) ∨ (formB xs = true ∧ formB ys = true ∧ valB B64 ys = 0 ∧ us = [] ∧ vs = [] ∧ e = 4) ∨ ((formB xs && formB ys) = false ∧ us = [] ∧ vs = [] ∧ e = 2)
theorem QrA.uniq {xs ys us vs us' vs' : List Nat} {e f : Int} (h : QrA xs ys us vs e) (k : QrA xs ys us' vs' f) : us = us' ∧ vs = vs' ∧ e = f := by
  rcases h with ⟨h1, h2, h3, h4, h5, rfl⟩ | ⟨h1, h2, h3, rfl, rfl, rfl⟩ | ⟨h1, rfl, rfl, rfl⟩ <;> rcases k with ⟨k1, k2, k3, k4, k5, rfl⟩ | ⟨k1, k2, k3, rfl, rfl, rfl⟩ | ⟨k1, rfl, rfl, rfl⟩
  · exact ⟨h4.inj B64_one k4, h5.inj B64_one k5, rfl⟩
  · exact absurd k3 h3
  · rw [h1, h2] at k1; cases k1
  · exact absurd h3 k3
  · exact ⟨rfl, rfl, rfl⟩
  · rw [h1, h2] at k1; cases k1
  · rw [k1, k2] at h1; cases h1
  · rw [k1, k2] at h1; cases h1
  · exact ⟨rfl, rfl, rfl⟩
def TwoL (w : World) (en : Ending) (us vs : List Nat) (e : Int) : Prop := ∃ p1 m1 c1 p2 m2 c2, en = .returned (.tuple #[.slice p1 m1 c1, .slice p2 m2 c2, .int .i64 e]) ∧ At w p1 m1 c1 us ∧ At w p2 m2 c2 vs
theorem twoL_nil (w : World) (e : Int) : TwoL w (.returned (.tuple #[.slice none 0 0, .slice none 0 0, .int .i64 e])) [] [] e := ⟨_, _, _, _, _, _, rfl, At.empty _ _ _ (by decide), At.empty _ _ _ (by decide)⟩
def RoA (xs us vs : List Nat) (e : Int) : Prop := (formB xs = true ∧ (∃ s, IsRt (valB B64 xs) s ∧ Nf B64 us s ∧ Nf B64 vs (valB B64 xs - s * s)) ∧ e = 0) ∨ (formB xs = false ∧ us = [] ∧ vs = [] ∧ e = 2)
theorem RoA.uniq {xs us vs us' vs' : List Nat} {e f : Int} (h : RoA xs us vs e) (k : RoA xs us' vs' f) : us = us' ∧ vs = vs' ∧ e = f := by
  rcases h with ⟨h1, ⟨s, h2, h3, h4⟩, rfl⟩ | ⟨h1, rfl, rfl, rfl⟩ <;> rcases k with ⟨k1, ⟨t, k2, k3, k4⟩, rfl⟩ | ⟨k1, rfl, rfl, rfl⟩
  · obtain rfl := rt_uniq h2 k2
    exact ⟨h3.inj B64_one k3, h4.inj B64_one k4, rfl⟩
  · rw [h1] at k1; cases k1
  · rw [h1] at k1; cases k1
  · exact ⟨rfl, rfl, rfl⟩
theorem rv_from {p : Option Addr} {n c : Nat} {xs : List Nat} {w : World} (h : At w p n c xs) (hn : n ≤ 8192) : Calls Tryz.prog 9 #[.slice p n c] w fun e w' => RVs w w' e (valB B64 xs) := by
  refine (from_any h (by omega)).mono ?_
  rintro e w' ⟨g, zs, rfl, hg, hblk, hN, hl, hb⟩
  exact ⟨_, _, rfl, ⟨⟨zs, hblk.at_ hN.dig rfl (by unfold maxLen; omega), hN⟩, by omega⟩, hb⟩
theorem rv_to {w : World} {p : Option Addr} {m a : Nat} (h : RV w p m a) : Calls Tryz.prog 7 #[.slice p m m] w fun e w' => ∃ g k N us, e = .returned (.slice (some ⟨g, 0, none⟩) k N) ∧ At w' (some ⟨g, 0, none⟩) k N us ∧ Nf B64 us a ∧ Below w.heap.size w w' := by
  obtain ⟨⟨zs, h1, h2⟩, h3⟩ := h
  refine (rto_any h1 (by omega)).mono ?_
  rintro e w' ⟨g2, k2, N2, us, rfl, hg2, hA, hN, hb2⟩
  rw [h2.val] at hN
  exact ⟨_, _, _, us, rfl, hA, hN, hb2⟩
theorem quorem_A {p q : Option Addr} {n m c d : Nat} {xs ys : List Nat} {w : World} (h : At w p n c xs) (k : At w q m d ys) :
    Calls Tryz.prog 11 #[.slice p n c, .slice q m d] w fun en w' => ∃ us vs er, TwoL w' en us vs er ∧ QrA xs ys us vs er ∧ Below w.heap.size w w' := by
  have HA : Hid (At w p n c xs) := h
  have HB : Hid (At w q m d ys) := k
  cases hfa : formB xs with
  | false =>
    have HF : Hid ((formB xs && formB ys) = false) := by show _ = _; rw [hfa]; rfl
    clear h k
    go_enter Tryz.func11, Tryz.ntmps11
    go_wp2_with fail
    refine (form_any HA.out).mono ?_
    rintro e w1 ⟨rfl, rfl⟩
    rw [hfa]
    go_wp2_with fail
    go_ret3
    exact ⟨[], [], 2, twoL_nil _ _, .inr (.inr ⟨HF.out, rfl, rfl, rfl⟩), Below.refl _ _⟩
  | true =>
  cases hfb : formB ys with
  | false =>
    have HF : Hid ((formB xs && formB ys) = false) := by show _ = _; rw [hfa, hfb]; rfl
    clear h k
    go_enter Tryz.func11, Tryz.ntmps11
    go_wp2_with fail
    refine (form_any HA.out).mono ?_
    rintro e w1 ⟨rfl, rfl⟩
    rw [hfa]
    go_wp2_with fail
    refine (form_any HB.out).mono ?_
    rintro e w1 ⟨rfl, rfl⟩
    rw [hfb]
    go_wp2_with fail
    go_ret3
    exact ⟨[], [], 2, twoL_nil _ _, .inr (.inr ⟨HF.out, rfl, rfl, rfl⟩), Below.refl _ _⟩
  | true =>
  have na := formB_nf hfa h.dig
  have nb := formB_nf hfb k.dig
  rw [h.len] at na
  rw [k.len] at nb
  have HN : Hid (Nf B64 xs (valB B64 xs) ∧ n ≤ 8192 ∧ Nf B64 ys (valB B64 ys) ∧ m ≤ 8192 ∧ formB xs = true ∧ formB ys = true) := ⟨na.1, na.2, nb.1, nb.2, hfa, hfb⟩
  have hmz : m = 0 ↔ valB B64 ys = 0 := by rw [← nb.1.zero_iff B64_one, ← k.len]; exact List.length_eq_zero_iff
  clear na nb h k
  by_cases hb : valB B64 ys = 0
  · refine (quorem_z3 HA.out HB.out HN.out.1 HN.out.2.2.1 HN.out.2.1 HN.out.2.2.2.1 hb).mono ?_
    rintro e w1 ⟨rfl, rfl⟩
    exact ⟨[], [], 4, twoL_nil _ _, .inr (.inl ⟨hfa, hfb, hb, rfl, rfl, rfl⟩), Below.refl _ _⟩
  · refine (quorem_any HA.out HB.out HN.out.1 HN.out.2.2.1 HN.out.2.1 HN.out.2.2.2.1 hb).mono ?_
    rintro e w1 ⟨v1, v2, rfl, ⟨⟨p1, m1, us, rfl, ho1, hn1, hm1⟩, ⟨p2, m2, vs, rfl, ho2, hn2, hm2⟩, hbl⟩⟩
    exact ⟨us, vs, 0, ⟨_, _, _, _, _, _, rfl, ho1.at_ hm1, ho2.at_ hm2⟩, .inl ⟨hfa, hfb, hb, hn1, hn2, rfl⟩, hbl⟩
theorem docquorem_A {p q : Option Addr} {n m c d : Nat} {xs ys : List Nat} {w : World} (h : At w p n c xs) (k : At w q m d ys) :
    Calls Tryz.prog 56 #[.slice p n c, .slice q m d] w fun en w' => ∃ us vs er, TwoL w' en us vs er ∧ QrA xs ys us vs er ∧ Below w.heap.size w w' := by
  have HA : Hid (At w p n c xs) := h
  have HB : Hid (At w q m d ys) := k
  cases hfa : formB xs with
  | false =>
    have HF : Hid ((formB xs && formB ys) = false) := by show _ = _; rw [hfa]; rfl
    clear h k
    go_enter Tryz.func56, Tryz.ntmps56
    go_wp2_with fail
    refine (docform_any HA.out).mono ?_
    rintro e w1 ⟨rfl, rfl⟩
    rw [hfa]
    go_wp2_with fail
    go_ret3
    exact ⟨[], [], 2, twoL_nil _ _, .inr (.inr ⟨HF.out, rfl, rfl, rfl⟩), Below.refl _ _⟩
  | true =>
  cases hfb : formB ys with
  | false =>
    have HF : Hid ((formB xs && formB ys) = false) := by show _ = _; rw [hfa, hfb]; rfl
    clear h k
    go_enter Tryz.func56, Tryz.ntmps56
    go_wp2_with fail
    refine (docform_any HA.out).mono ?_
    rintro e w1 ⟨rfl, rfl⟩
    rw [hfa]
    go_wp2_with fail
    refine (docform_any HB.out).mono ?_
    rintro e w1 ⟨rfl, rfl⟩
    rw [hfb]
    go_wp2_with fail
    go_ret3
    exact ⟨[], [], 2, twoL_nil _ _, .inr (.inr ⟨HF.out, rfl, rfl, rfl⟩), Below.refl _ _⟩
  | true =>
  have na := formB_nf hfa h.dig
  have nb := formB_nf hfb k.dig
  rw [h.len] at na
  rw [k.len] at nb
  have HN : Hid (Nf B64 xs (valB B64 xs) ∧ n ≤ 8192 ∧ Nf B64 ys (valB B64 ys) ∧ m ≤ 8192 ∧ formB xs = true ∧ formB ys = true) := ⟨na.1, na.2, nb.1, nb.2, hfa, hfb⟩
  have hmz : m = 0 ↔ valB B64 ys = 0 := by rw [← nb.1.zero_iff B64_one, ← k.len]; exact List.length_eq_zero_iff
  clear na nb h k
  by_cases hb : valB B64 ys = 0
  · obtain rfl : m = 0 := hmz.2 hb
    have HZ : Hid (valB B64 ys = 0) := hb
    clear hmz hb
    go_enter Tryz.func56, Tryz.ntmps56
    go_wp2_with fail
    refine (docform_any HA.out).mono ?_
    rintro e w1 ⟨rfl, rfl⟩
    rw [hfa]
    go_wp2_with fail
    refine (docform_any HB.out).mono ?_
    rintro e w1 ⟨rfl, rfl⟩
    rw [hfb]
    clear hfa hfb
    go_wp2_with fail
    go_ret3
    exact ⟨[], [], 4, twoL_nil _ _, .inr (.inl ⟨HN.out.2.2.2.2.1, HN.out.2.2.2.2.2, HZ.out, rfl, rfl, rfl⟩), Below.refl _ _⟩
  · have hm1 : ((m : Int) == 0) = false := by simp; exact fun e => hb (hmz.1 e)
    have HZ : Hid (valB B64 ys ≠ 0) := hb
    clear hmz hb
    go_enter Tryz.func56, Tryz.ntmps56
    go_wp2_with fail
    refine (docform_any HA.out).mono ?_
    rintro e w1 ⟨rfl, rfl⟩
    rw [hfa]
    go_wp2_with fail
    refine (docform_any HB.out).mono ?_
    rintro e w1 ⟨rfl, rfl⟩
    rw [hfb]
    clear hfa hfb
    go_wp2_with fail
    clear hm1
    have hbw := Below.refl w1.heap.size w1
    refine (rv_from HA.out HN.out.2.1).mono ?_
    rintro e v1 ⟨p1, m1, rfl, hR, hb1⟩
    have R1 : Hid (RV v1 p1 m1 (valB B64 xs)) := hR
    clear hR
    replace hbw := Below.on hbw hb1
    clear hb1
    go_wp2_with fail
    refine (rv_from (HB.out.below hbw) HN.out.2.2.2.1).mono ?_
    rintro e v2 ⟨p2, m2, rfl, hR, hb2⟩
    have R2 : Hid (RV v2 p2 m2 (valB B64 ys)) := hR
    clear hR
    replace R1 : Hid (RV v2 p1 m1 (valB B64 xs)) := R1.out.below hb2
    replace hbw := Below.on hbw hb2
    clear hb2
    go_wp2_with fail
    refine (rv_div R1.out R2.out HZ.out).mono ?_
    rintro e v3 ⟨p3, m3, p4, m4, rfl, hR, hR2, hb3⟩
    have R3 : Hid (RV v3 p3 m3 (valB B64 xs / valB B64 ys)) := hR
    have R4 : Hid (RV v3 p4 m4 (valB B64 xs % valB B64 ys)) := hR2
    clear hR hR2
    replace R1 : Hid (RV v3 p1 m1 (valB B64 xs)) := R1.out.below hb3
    replace R2 : Hid (RV v3 p2 m2 (valB B64 ys)) := R2.out.below hb3
    replace hbw := Below.on hbw hb3
    clear hb3
    go_wp2_with fail
    refine (rv_to R3.out).mono ?_
    rintro e v5 ⟨g5, k5, N5, us5, rfl, hA, hN, hb5⟩
    have A5 : Hid (At v5 (some ⟨g5, 0, none⟩) k5 N5 us5) := hA
    have NF5 : Hid (Nf B64 us5 (valB B64 xs / valB B64 ys)) := hN
    clear hA hN
    replace R1 : Hid (RV v5 p1 m1 (valB B64 xs)) := R1.out.below hb5
    replace R2 : Hid (RV v5 p2 m2 (valB B64 ys)) := R2.out.below hb5
    replace R3 : Hid (RV v5 p3 m3 (valB B64 xs / valB B64 ys)) := R3.out.below hb5
    replace R4 : Hid (RV v5 p4 m4 (valB B64 xs % valB B64 ys)) := R4.out.below hb5
    replace hbw := Below.on hbw hb5
    clear hb5
    go_wp2_with fail
    refine (rv_to R4.out).mono ?_
    rintro e v6 ⟨g6, k6, N6, us6, rfl, hA, hN, hb6⟩
    have A6 : Hid (At v6 (some ⟨g6, 0, none⟩) k6 N6 us6) := hA
    have NF6 : Hid (Nf B64 us6 (valB B64 xs % valB B64 ys)) := hN
    clear hA hN
    replace R1 : Hid (RV v6 p1 m1 (valB B64 xs)) := R1.out.below hb6
    replace R2 : Hid (RV v6 p2 m2 (valB B64 ys)) := R2.out.below hb6
    replace R3 : Hid (RV v6 p3 m3 (valB B64 xs / valB B64 ys)) := R3.out.below hb6
    replace R4 : Hid (RV v6 p4 m4 (valB B64 xs % valB B64 ys)) := R4.out.below hb6
    replace A5 : Hid _ := A5.out.below hb6
    replace hbw := Below.on hbw hb6
    clear hb6
    go_wp2_with fail
    go_ret3
    exact ⟨us5, us6, 0, ⟨_, _, _, _, _, _, rfl, A5.out, A6.out⟩, .inl ⟨HN.out.2.2.2.2.1, HN.out.2.2.2.2.2, HZ.out, NF5.out, NF6.out, rfl⟩, hbw⟩
theorem root_A {p : Option Addr} {n c : Nat} {xs : List Nat} {w : World} (h : At w p n c xs) :
    Calls Tryz.prog 12 #[.slice p n c] w fun en w' => ∃ us vs er, TwoL w' en us vs er ∧ RoA xs us vs er ∧ Below w.heap.size w w' := by
  have HA : Hid (At w p n c xs) := h
  cases hfa : formB xs with
  | false =>
    have HF : Hid (formB xs = false) := hfa
    clear h
    go_enter Tryz.func12, Tryz.ntmps12
    go_wp2_with fail
    refine (form_any HA.out).mono ?_
    rintro e w1 ⟨rfl, rfl⟩
    rw [hfa]
    go_wp2_with fail
    go_ret3
    exact ⟨[], [], 2, twoL_nil _ _, .inr ⟨HF.out, rfl, rfl, rfl⟩, Below.refl _ _⟩
  | true =>
  have na := formB_nf hfa h.dig
  rw [h.len] at na
  have HN : Hid (Nf B64 xs (valB B64 xs) ∧ n ≤ 8192 ∧ formB xs = true) := ⟨na.1, na.2, hfa⟩
  clear na h
  refine (root_any ⟨HA.out, HN.out.1, HN.out.2.1⟩).mono ?_
  rintro e w1 ⟨v1, v2, rfl, ⟨⟨s, p1, m1, us, p2, m2, vs, hs1, hs2, rfl, ho1, hn1, hm1, rfl, ho2, hn2, hm2⟩, hbl⟩⟩
  exact ⟨us, vs, 0, ⟨_, _, _, _, _, _, rfl, ho1.at_ hm1, ho2.at_ hm2⟩, .inl ⟨hfa, ⟨s, ⟨hs1, by simp only [Nat.add_mul, Nat.mul_add]; omega⟩, hn1, hn2⟩, rfl⟩, hbl⟩
theorem docroot_A {p : Option Addr} {n c : Nat} {xs : List Nat} {w : World} (h : At w p n c xs) :
    Calls Tryz.prog 58 #[.slice p n c] w fun en w' => ∃ us vs er, TwoL w' en us vs er ∧ RoA xs us vs er ∧ Below w.heap.size w w' := by
  have HA : Hid (At w p n c xs) := h
  cases hfa : formB xs with
  | false =>
    have HF : Hid (formB xs = false) := hfa
    clear h
    go_enter Tryz.func58, Tryz.ntmps58
    go_wp2_with fail
    refine (docform_any HA.out).mono ?_
    rintro e w1 ⟨rfl, rfl⟩
    rw [hfa]
    go_wp2_with fail
    go_ret3
    exact ⟨[], [], 2, twoL_nil _ _, .inr ⟨HF.out, rfl, rfl, rfl⟩, Below.refl _ _⟩
  | true =>
  have na := formB_nf hfa h.dig
  rw [h.len] at na
  have HN : Hid (Nf B64 xs (valB B64 xs) ∧ n ≤ 8192 ∧ formB xs = true) := ⟨na.1, na.2, hfa⟩
  clear na h
  go_enter Tryz.func58, Tryz.ntmps58
  go_wp2_with fail
  refine (docform_any HA.out).mono ?_
  rintro e w1 ⟨rfl, rfl⟩
  rw [hfa]
  clear hfa
  go_wp2_with fail
  have hbw := Below.refl w1.heap.size w1
  refine (rv_from HA.out HN.out.2.1).mono ?_
  rintro e v1 ⟨p1, m1, rfl, hR, hb1⟩
  have R1 : Hid (RV v1 p1 m1 (valB B64 xs)) := hR
  clear hR
  replace hbw := Below.on hbw hb1
  clear hb1
  go_wp2_with fail
  refine (droot_ok _ _ (Nat.le_refl _) R1.out).mono ?_
  rintro e v3 ⟨p3, m3, p4, m4, s, rfl, hI, hR, hR2, hb3⟩
  have R3 : Hid (RV v3 p3 m3 s) := hR
  have R4 : Hid (RV v3 p4 m4 (valB B64 xs - s * s)) := hR2
  have HI : Hid (IsRt (valB B64 xs) s) := hI
  clear hR hR2 hI
  replace R1 : Hid (RV v3 p1 m1 (valB B64 xs)) := R1.out.below hb3
  replace hbw := Below.on hbw hb3
  clear hb3
  go_wp2_with fail
  refine (rv_to R3.out).mono ?_
  rintro e v5 ⟨g5, k5, N5, us5, rfl, hA, hN, hb5⟩
  have A5 : Hid (At v5 (some ⟨g5, 0, none⟩) k5 N5 us5) := hA
  have NF5 : Hid (Nf B64 us5 (s)) := hN
  clear hA hN
  replace R1 : Hid (RV v5 p1 m1 (valB B64 xs)) := R1.out.below hb5
  replace R3 : Hid (RV v5 p3 m3 s) := R3.out.below hb5
  replace R4 : Hid (RV v5 p4 m4 (valB B64 xs - s * s)) := R4.out.below hb5
  replace hbw := Below.on hbw hb5
  clear hb5
  go_wp2_with fail
  refine (rv_to R4.out).mono ?_
  rintro e v6 ⟨g6, k6, N6, us6, rfl, hA, hN, hb6⟩
  have A6 : Hid (At v6 (some ⟨g6, 0, none⟩) k6 N6 us6) := hA
  have NF6 : Hid (Nf B64 us6 (valB B64 xs - s * s)) := hN
  clear hA hN
  replace R1 : Hid (RV v6 p1 m1 (valB B64 xs)) := R1.out.below hb6
  replace R3 : Hid (RV v6 p3 m3 s) := R3.out.below hb6
  replace R4 : Hid (RV v6 p4 m4 (valB B64 xs - s * s)) := R4.out.below hb6
  replace A5 : Hid _ := A5.out.below hb6
  replace hbw := Below.on hbw hb6
  clear hb6
  go_wp2_with fail
  go_ret3
  exact ⟨us5, us6, 0, ⟨_, _, _, _, _, _, rfl, A5.out, A6.out⟩, .inl ⟨HN.out.2.2, ⟨s, HI.out, NF5.out, NF6.out⟩, rfl⟩, hbw⟩
theorem quoremlaw_ok {p q : Option Addr} {n m c d : Nat} {xs ys : List Nat} {w : World} (h : At w p n c xs) (k : At w q m d ys) (hn : n ≤ 35184372088832) (hm : m ≤ 35184372088832) :
    Calls Tryz.prog 26 #[.slice p n c, .slice q m d] w fun en w' => en = .returned (.bool true) ∧ Below w.heap.size w w' := by
  have HA : Hid (At w p n c xs ∧ n ≤ 35184372088832) := ⟨h, hn⟩
  have HB : Hid (At w q m d ys ∧ m ≤ 35184372088832) := ⟨k, hm⟩
  clear h k hn hm
  go_enter Tryz.func26, Tryz.ntmps26
  go_wp2_with fail
  have hbw : Below w.heap.size w w := Below.refl _ _
  refine (twin3_any (HA.out.1.below hbw) HA.out.2).mono ?_
  rintro e v1 ⟨g1, rfl, hg1, hblk, hb1⟩
  have T1 : Hid (At v1 (some ⟨g1, 0, none⟩) n n xs) := hblk.at_ HA.out.1.dig HA.out.1.len (by have := HA.out.2; unfold maxLen; omega)
  clear hblk hg1
  replace hbw := Below.on hbw hb1
  clear hb1
  go_wp2_with fail
  refine (twin3_any (HB.out.1.below hbw) HB.out.2).mono ?_
  rintro e v2 ⟨g2, rfl, hg2, hblk, hb2⟩
  have T2 : Hid (At v2 (some ⟨g2, 0, none⟩) m m ys) := hblk.at_ HB.out.1.dig HB.out.1.len (by have := HB.out.2; unfold maxLen; omega)
  clear hblk hg2
  replace T1 : Hid _ := T1.out.below hb2
  replace hbw := Below.on hbw hb2
  clear hb2
  go_wp2_with fail
  refine (quorem_A T1.out T2.out).mono ?_
  rintro e v3 ⟨us, vs, er, ⟨p3, m3, c3, p4, m4, c4, rfl, hA3, hA4⟩, hQ, hb3⟩
  have HQ : Hid (QrA xs ys us vs er) := hQ
  have A3 : Hid (At v3 p3 m3 c3 us) := hA3
  have A4 : Hid (At v3 p4 m4 c4 vs) := hA4
  clear hA3 hA4 hQ
  replace T1 : Hid _ := T1.out.below hb3
  replace T2 : Hid _ := T2.out.below hb3
  replace hbw := Below.on hbw hb3
  clear hb3
  go_wp2_with fail
  refine (docquorem_A (HA.out.1.below hbw) (HB.out.1.below hbw)).mono ?_
  rintro e v5 ⟨us2, vs2, er2, ⟨p5, m5, c5, p6, m6, c6, rfl, hA3, hA4⟩, hQ, hb5⟩
  obtain ⟨rfl, rfl, rfl⟩ := HQ.out.uniq hQ
  have A5 : Hid (At v5 p5 m5 c5 us) := hA3
  have A6 : Hid (At v5 p6 m6 c6 vs) := hA4
  clear hA3 hA4 hQ HQ
  replace T1 : Hid _ := T1.out.below hb5
  replace T2 : Hid _ := T2.out.below hb5
  replace A3 : Hid _ := A3.out.below hb5
  replace A4 : Hid _ := A4.out.below hb5
  replace hbw := Below.on hbw hb5
  clear hb5
  go_wp2_with fail
  refine (same_t A3.out A5.out).mono ?_
  rintro e v7 ⟨rfl, hb7⟩
  replace T1 : Hid _ := T1.out.below hb7
  replace T2 : Hid _ := T2.out.below hb7
  replace A3 : Hid _ := A3.out.below hb7
  replace A4 : Hid _ := A4.out.below hb7
  replace A5 : Hid _ := A5.out.below hb7
  replace A6 : Hid _ := A6.out.below hb7
  replace hbw := Below.on hbw hb7
  clear hb7
  go_wp2_with fail
  refine (same_t A4.out A6.out).mono ?_
  rintro e v8 ⟨rfl, hb8⟩
  replace T1 : Hid _ := T1.out.below hb8
  replace T2 : Hid _ := T2.out.below hb8
  replace A3 : Hid _ := A3.out.below hb8
  replace A4 : Hid _ := A4.out.below hb8
  replace A5 : Hid _ := A5.out.below hb8
  replace A6 : Hid _ := A6.out.below hb8
  replace hbw := Below.on hbw hb8
  clear hb8
  go_wp2_with fail
  go_ret
  exact ⟨rfl, hbw⟩
theorem rootlaw_ok {p : Option Addr} {n c : Nat} {xs : List Nat} {w : World} (h : At w p n c xs) (hn : n ≤ 35184372088832) :
    Calls Tryz.prog 27 #[.slice p n c] w fun en w' => en = .returned (.bool true) ∧ Below w.heap.size w w' := by
  have HA : Hid (At w p n c xs ∧ n ≤ 35184372088832) := ⟨h, hn⟩
  clear h hn
  go_enter Tryz.func27, Tryz.ntmps27
  go_wp2_with fail
  have hbw : Below w.heap.size w w := Below.refl _ _
  refine (twin3_any (HA.out.1.below hbw) HA.out.2).mono ?_
  rintro e v1 ⟨g1, rfl, hg1, hblk, hb1⟩
  have T1 : Hid (At v1 (some ⟨g1, 0, none⟩) n n xs) := hblk.at_ HA.out.1.dig HA.out.1.len (by have := HA.out.2; unfold maxLen; omega)
  clear hblk hg1
  replace hbw := Below.on hbw hb1
  clear hb1
  go_wp2_with fail
  refine (root_A T1.out).mono ?_
  rintro e v3 ⟨us, vs, er, ⟨p3, m3, c3, p4, m4, c4, rfl, hA3, hA4⟩, hQ, hb3⟩
  have HQ : Hid (RoA xs us vs er) := hQ
  have A3 : Hid (At v3 p3 m3 c3 us) := hA3
  have A4 : Hid (At v3 p4 m4 c4 vs) := hA4
  clear hA3 hA4 hQ
  replace T1 : Hid _ := T1.out.below hb3
  replace hbw := Below.on hbw hb3
  clear hb3
  go_wp2_with fail
  refine (docroot_A (HA.out.1.below hbw)).mono ?_
  rintro e v5 ⟨us2, vs2, er2, ⟨p5, m5, c5, p6, m6, c6, rfl, hA3, hA4⟩, hQ, hb5⟩
  obtain ⟨rfl, rfl, rfl⟩ := HQ.out.uniq hQ
  have A5 : Hid (At v5 p5 m5 c5 us) := hA3
  have A6 : Hid (At v5 p6 m6 c6 vs) := hA4
  clear hA3 hA4 hQ HQ
  replace T1 : Hid _ := T1.out.below hb5
  replace A3 : Hid _ := A3.out.below hb5
  replace A4 : Hid _ := A4.out.below hb5
  replace hbw := Below.on hbw hb5
  clear hb5
  go_wp2_with fail
  refine (same_t A3.out A5.out).mono ?_
  rintro e v7 ⟨rfl, hb7⟩
  replace T1 : Hid _ := T1.out.below hb7
  replace A3 : Hid _ := A3.out.below hb7
  replace A4 : Hid _ := A4.out.below hb7
  replace A5 : Hid _ := A5.out.below hb7
  replace A6 : Hid _ := A6.out.below hb7
  replace hbw := Below.on hbw hb7
  clear hb7
  go_wp2_with fail
  refine (same_t A4.out A6.out).mono ?_
  rintro e v8 ⟨rfl, hb8⟩
  replace T1 : Hid _ := T1.out.below hb8
  replace A3 : Hid _ := A3.out.below hb8
  replace A4 : Hid _ := A4.out.below hb8
  replace A5 : Hid _ := A5.out.below hb8
  replace A6 : Hid _ := A6.out.below hb8
  replace hbw := Below.on hbw hb8
  clear hb8
  go_wp2_with fail
  go_ret
  exact ⟨rfl, hbw⟩
def iv (s : Bool) (a : Nat) : Int := if s then -(a : Int) else (a : Int)
abbrev ZV (s : Bool) (p : Option Addr) (n c : Nat) : Value := .agg #[.bool s, .slice p n c]
def AnsI (B : Nat) (w' : World) (e : Ending) (z : Int) : Prop :=
  (z.natAbs < LIM ∧ ∃ p m zs, e = .returned (.tuple #[ZV (decide (z < 0)) p m m, .int .i64 0]) ∧ Own B w' p m zs ∧ Nf B64 zs z.natAbs ∧ m ≤ 8192) ∨
  (LIM ≤ z.natAbs ∧ e = .returned (.tuple #[ZV false none 0 0, .int .i64 5]))
theorem AnsI.ok {B : Nat} {w' : World} {e : Ending} {z : Int} (h : AnsI B w' e z) (hz : z.natAbs < LIM) : ∃ p m zs, e = .returned (.tuple #[ZV (decide (z < 0)) p m m, .int .i64 0]) ∧ Own B w' p m zs ∧ Nf B64 zs z.natAbs ∧ m ≤ 8192 := by
  rcases h with ⟨_, h⟩ | ⟨h, _⟩
  · exact h
  · omega
theorem AnsI.no {B : Nat} {w' : World} {e : Ending} {z : Int} (h : AnsI B w' e z) (hz : LIM ≤ z.natAbs) : e = .returned (.tuple #[ZV false none 0 0, .int .i64 5]) := by
  rcases h with ⟨h, _⟩ | ⟨_, h⟩
  · omega
  · exact h
theorem Num.zero {w : World} {p : Option Addr} {m c : Nat} {xs : List Nat} {a : Nat} (h : Num w p m c xs a) : m = 0 ↔ a = 0 := by
  rw [← h.nf.zero_iff B64_one, ← h.at_.len]
  exact ⟨List.eq_nil_of_length_eq_zero, fun e => by rw [e]; rfl⟩

theorem Row.oth {w : World} {g off n : Nat} {xs : List Nat} (h : Row w g off n xs) (g2 o2 : Nat) (v : Value) (hne : g ≠ g2) : Row (w.setCell ⟨g2, o2, none⟩ v) g off n xs := by
  refine ⟨h.len, h.dig, fun j hj => ?_, fun j hj => by rw [World.frozen?_setCell]; exact h.frozen j hj⟩
  exact (World.cell?_setCell_other _ _ _ _ (by intro e; apply hne; have := congrArg Addr.block e; simp at this; omega)).trans (h.cell j hj)
theorem Nf.lenpos {zs : List Nat} {n m : Nat} (h : Nf B64 zs n) (hl : zs.length = m) : decide (0 < m) = decide (0 < n) := by
  refine decide_eq_decide.2 ?_
  have := h.zero_iff B64_one
  constructor
  · intro hm
    rcases Nat.eq_zero_or_pos n with e | e
    · have := this.2 e; rw [this] at hl; simp at hl; omega
    · exact e
  · intro hn
    rcases Nat.eq_zero_or_pos m with e | e
    · have := this.1 (List.eq_nil_of_length_eq_zero (by omega)); omega
    · exact e
end Go.Proofs.YtpebgjpfgfimgaaGreatDoor
namespace Go.Proofs.YtpebgjpfgfimgaaGreatDoor
open Go.RowKit
set_option maxRecDepth 20000
set_option maxHeartbeats 0
variable {P : Program} {md : Region.Mode} {ops : Array Oper} {Q : Exit → Act → World → Prop} {J : World → Prop}
variable {P : Program} {md : Region.Mode} {ops : Array Oper} {Q : Exit → Act → World → Prop} {J : World → Prop}
end Go.Proofs.YtpebgjpfgfimgaaGreatDoor
namespace Go.Proofs.YtpebgjpfgfimgaaGreatDoor
open Go.RowKit Go.Shelf
set_option maxRecDepth 20000
set_option maxHeartbeats 0
structure Box (W : World) (g : Nat) (v0 v1 : Value) : Prop where
  c0 : W.cell? ⟨g, 0, none⟩ = some v0
  c1 : W.cell? ⟨g, 1, none⟩ = some v1
  f0 : W.frozen? ⟨g, 0, none⟩ = false
  f1 : W.frozen? ⟨g, 1, none⟩ = false
theorem Box.below {W W' : World} {g : Nat} {v0 v1 : Value} (h : Box W g v0 v1) (hb : Below W.heap.size W W') : Box W' g v0 v1 := by
  have hl : g < W.heap.size := World.block_lt_of_cell? W _ h.c0
  exact ⟨(hb.cell (p := ⟨g, 0, none⟩) hl).trans h.c0, (hb.cell (p := ⟨g, 1, none⟩) hl).trans h.c1, (hb.frozen (p := ⟨g, 0, none⟩) hl).trans h.f0, (hb.frozen (p := ⟨g, 1, none⟩) hl).trans h.f1⟩
theorem Box.new (w : World) (ty : TypeId) (v0 v1 : Value) : Box (w.alloc (.cells #[v0, v1] ty)) w.heap.size v0 v1 := ⟨by go_simp, by go_simp, by go_simp, by go_simp⟩
def Told (z : Int) (s : Bool) (m : Nat) (zs : List Nat) (er : Int) : Prop :=
  (z.natAbs < LIM ∧ s = decide (z < 0) ∧ Nf B64 zs z.natAbs ∧ m ≤ 8192 ∧ er = 0) ∨ (LIM ≤ z.natAbs ∧ s = false ∧ zs = [] ∧ m = 0 ∧ er = 5)
theorem AnsI.any {B : Nat} {w' : World} {e : Ending} {z : Int} (h : AnsI B w' e z) : ∃ s p m zs er, e = .returned (.tuple #[ZV s p m m, .int .i64 er]) ∧ At w' p m m zs ∧ Told z s m zs er := by
  rcases h with ⟨hz, p, m, zs, rfl, ho, hn, hm⟩ | ⟨hz, rfl⟩
  · exact ⟨_, p, m, zs, 0, rfl, ho.at_ hm, .inl ⟨hz, rfl, hn, hm, rfl⟩⟩
  · exact ⟨false, none, 0, [], 5, rfl, At.empty _ none 0 (by decide), .inr ⟨hz, rfl, rfl, rfl, rfl⟩⟩
theorem Told.inj {z : Int} {s s' : Bool} {m m' : Nat} {zs zs' : List Nat} {er er' : Int} (h : Told z s m zs er) (k : Told z s' m' zs' er') : s = s' ∧ zs = zs' ∧ er = er' := by
  rcases h with ⟨hz, rfl, hn, hm, rfl⟩ | ⟨hz, rfl, rfl, rfl, rfl⟩ <;> rcases k with ⟨kz, rfl, kn, km, rfl⟩ | ⟨kz, rfl, rfl, rfl, rfl⟩
  · exact ⟨rfl, hn.inj B64_one kn, rfl⟩
  · omega
  · omega
  · exact ⟨rfl, rfl, rfl⟩
theorem Told.er {z : Int} {s : Bool} {m : Nat} {zs : List Nat} {er : Int} (h : Told z s m zs er) : er = 0 ∨ er = 5 := by
  rcases h with ⟨_, _, _, _, rfl⟩ | ⟨_, _, _, _, rfl⟩
  · exact .inl rfl
  · exact .inr rfl
theorem Told.ok {z : Int} {s : Bool} {m : Nat} {zs : List Nat} {w : World} {p : Option Addr} (h : Told z s m zs 0) (a : At w p m m zs) : Num w p m m zs z.natAbs ∧ s = decide (z < 0) := by
  rcases h with ⟨_, h1, h2, h3, _⟩ | ⟨_, _, _, _, h⟩
  · exact ⟨⟨a, h2, h3⟩, h1⟩
  · exact absurd h (by decide)
theorem Told.no {z : Int} {s : Bool} {m : Nat} {zs : List Nat} (h : Told z s m zs 5) : LIM ≤ z.natAbs := by
  rcases h with ⟨_, _, _, _, h⟩ | ⟨h, _⟩
  · exact absurd h (by decide)
  · exact h
theorem iv_natAbs (s : Bool) (a : Nat) : (iv s a).natAbs = a := by cases s <;> simp [iv]
def TzIs (v k : Nat) : Prop := v % 2 ^ k = 0 ∧ v / 2 ^ k % 2 = 1
theorem TzIs.inj {v k l : Nat} (h : TzIs v k) (h' : TzIs v l) : k = l := by
  have aux : ∀ {a b : Nat}, TzIs v a → TzIs v b → ¬ a < b := by
    intro a b ha hb hab
    obtain ⟨d, hd⟩ : ∃ d, b = a + (d + 1) := ⟨b - a - 1, by omega⟩
    have h1 := Nat.dvd_of_mod_eq_zero hb.1
    obtain ⟨q, hq⟩ := h1
    have h2 := ha.2
    rw [hq, hd, Nat.pow_add, Nat.mul_assoc, Nat.mul_div_cancel_left _ (Nat.pow_pos (by decide)), Nat.pow_succ, Nat.mul_comm (2 ^ d) 2, Nat.mul_assoc, Nat.mul_mod_right] at h2
    exact absurd h2 (by decide)
  rcases Nat.lt_trichotomy k l with e | e | e
  · exact absurd e (aux h h')
  · exact e
  · exact absurd e (aux h' h)
theorem TzIs.ex : ∀ (v : Nat), 0 < v → ∃ k, TzIs v k := by
  intro v
  induction v using Nat.strongRecOn with
  | _ v ih =>
    intro hv
    rcases Nat.mod_two_eq_zero_or_one v with h | h
    · obtain ⟨k, h1, h2⟩ := ih (v / 2) (by omega) (by omega)
      refine ⟨k + 1, ?_, ?_⟩
      · rw [Nat.pow_succ, Nat.mul_comm, Nat.mod_mul, h, h1]
      · rw [Nat.pow_succ, Nat.mul_comm, ← Nat.div_div_eq_div_mul]; exact h2
    · exact ⟨0, by rw [Nat.pow_zero, Nat.mod_one], by rw [Nat.pow_zero, Nat.div_one]; exact h⟩
theorem TzIs.ge {v k n : Nat} (h : TzIs v k) (hn : v % 2 ^ n = 0) : n ≤ k := by
  rcases Nat.lt_or_ge k n with e | e
  · exfalso
    obtain ⟨d, hd⟩ : ∃ d, n = k + (d + 1) := ⟨n - k - 1, by omega⟩
    obtain ⟨q, hq⟩ := Nat.dvd_of_mod_eq_zero hn
    have h2 := h.2
    rw [hq, hd, Nat.pow_add, Nat.mul_assoc, Nat.mul_div_cancel_left _ (Nat.pow_pos (by decide)), Nat.pow_succ, Nat.mul_comm (2 ^ d) 2, Nat.mul_assoc, Nat.mul_mod_right] at h2
    exact absurd h2 (by decide)
  · exact e
def Tab (w : World) : Prop := TabAt 7 Lib.deBruijn64tab w
theorem Tab.below {w w' : World} (h : Tab w) (hb : Below w.heap.size w w') : Tab w' := by
  intro j hj
  have h1 := h j hj
  have hl : 7 < w.heap.size := World.block_lt_of_cell? w _ h1
  exact (hb.cell (p := ⟨7, j, none⟩) hl).trans h1
def TzO (v k : Nat) : Prop := (v = 0 ∧ k = 0) ∨ (v ≠ 0 ∧ TzIs v k)
theorem TzO.inj {v k l : Nat} (h : TzO v k) (h' : TzO v l) : k = l := by
  rcases h with ⟨h1, rfl⟩ | ⟨h1, h2⟩ <;> rcases h' with ⟨h3, rfl⟩ | ⟨h3, h4⟩
  · rfl
  · exact absurd h1 h3
  · exact absurd h3 h1
  · exact h2.inj h4
theorem TzO.ex (v : Nat) : ∃ k, TzO v k := by
  by_cases h : v = 0
  · exact ⟨0, .inl ⟨h, rfl⟩⟩
  · obtain ⟨k, hk⟩ := TzIs.ex v (by omega)
    exact ⟨k, .inr ⟨h, hk⟩⟩
def neUp (a d : Nat) : Bool := decide (d < 2 * (a % d)) || (decide (2 * (a % d) = d) && decide (a / d % 2 = 1))
def HfIs (r d : Nat) (h : Int) : Prop := (2 * r < d ∧ h = -1) ∨ (2 * r = d ∧ h = 0) ∨ (d < 2 * r ∧ h = 1)
theorem HfIs.up {a d : Nat} {h : Int} (k : HfIs (a % d) d h) : neUp a d = (decide (0 < h) || (decide (h = 0) && decide (a / d % 2 = 1))) := by
  unfold neUp
  rcases k with ⟨k, rfl⟩ | ⟨k, rfl⟩ | ⟨k, rfl⟩
  · rw [decide_eq_false (by omega), decide_eq_false (p := 2 * (a % d) = d) (by omega)]; rfl
  · rw [decide_eq_false (by omega), decide_eq_true (p := 2 * (a % d) = d) (by omega)]; rfl
  · rw [decide_eq_true (by omega)]; rfl
def mo (s t : Bool) (a b : Nat) : Int := iv t (if ((s != t) && decide (a % b ≠ 0)) = true then b - a % b else a % b)
def AnsZ (B : Nat) (w' : World) (v : Value) (z : Int) : Prop :=
  ∃ p m zs, v = ZV (decide (z < 0)) p m m ∧ Own B w' p m zs ∧ Nf B64 zs z.natAbs ∧ m ≤ 8192
theorem iv_lt (s : Bool) (n : Nat) : decide (iv s n < 0) = (s && decide (0 < n)) := by
  cases s
  · simp [iv]
  · simp only [iv, if_true, Bool.true_and]; exact decide_eq_decide.2 (by omega)
theorem AnsZ.mk {B : Nat} {w' : World} {p : Option Addr} {m : Nat} {zs : List Nat} {q : Nat} (s : Bool) (ho : Own B w' p m zs) (hn : Nf B64 zs q) (hm : m ≤ 8192) : AnsZ B w' (ZV (s && decide (0 < m)) p m m) (iv s q) :=
  ⟨p, m, zs, by rw [iv_lt, hn.lenpos ho.len], ho, by rw [iv_natAbs]; exact hn, hm⟩
theorem AnsZ.below {B : Nat} {w w' : World} {v : Value} {z : Int} (h : AnsZ B w v z) (hb : Below w.heap.size w w') : AnsZ B w' v z := by
  obtain ⟨p, m, zs, rfl, ho, hn, hm⟩ := h
  exact ⟨p, m, zs, rfl, ho.below hb, hn, hm⟩
structure B4q (W : World) (g : Nat) (v0 v1 v2 v3 : Value) : Prop where
  c0 : W.cell? ⟨g, 0, none⟩ = some v0
  c1 : W.cell? ⟨g, 1, none⟩ = some v1
  c2 : W.cell? ⟨g, 2, none⟩ = some v2
  c3 : W.cell? ⟨g, 3, none⟩ = some v3
  f0 : W.frozen? ⟨g, 0, none⟩ = false
  f1 : W.frozen? ⟨g, 1, none⟩ = false
  f2 : W.frozen? ⟨g, 2, none⟩ = false
  f3 : W.frozen? ⟨g, 3, none⟩ = false
theorem B4q.below {W W' : World} {g : Nat} {v0 v1 v2 v3 : Value} (h : B4q W g v0 v1 v2 v3) (hb : Below W.heap.size W W') : B4q W' g v0 v1 v2 v3 := by
  have hl : g < W.heap.size := World.block_lt_of_cell? W _ h.c0
  exact ⟨(hb.cell (p := ⟨g, 0, none⟩) hl).trans h.c0, (hb.cell (p := ⟨g, 1, none⟩) hl).trans h.c1, (hb.cell (p := ⟨g, 2, none⟩) hl).trans h.c2, (hb.cell (p := ⟨g, 3, none⟩) hl).trans h.c3,
    (hb.frozen (p := ⟨g, 0, none⟩) hl).trans h.f0, (hb.frozen (p := ⟨g, 1, none⟩) hl).trans h.f1, (hb.frozen (p := ⟨g, 2, none⟩) hl).trans h.f2, (hb.frozen (p := ⟨g, 3, none⟩) hl).trans h.f3⟩
theorem B4q.new (w : World) (ty : TypeId) (v0 v1 v2 v3 : Value) : B4q (w.alloc (.cells #[v0, v1, v2, v3] ty)) w.heap.size v0 v1 v2 v3 :=
  ⟨by go_simp, by go_simp, by go_simp, by go_simp, by go_simp, by go_simp, by go_simp, by go_simp⟩
theorem Box.lt {W : World} {g : Nat} {v0 v1 : Value} (h : Box W g v0 v1) : g < W.heap.size := World.block_lt_of_cell? W _ h.c0
theorem B4q.lt {W : World} {g : Nat} {v0 v1 v2 v3 : Value} (h : B4q W g v0 v1 v2 v3) : g < W.heap.size := World.block_lt_of_cell? W _ h.c0
theorem Own.setNot {B : Nat} {w : World} {p : Option Addr} {m : Nat} {zs : List Nat} (h : Own B w p m zs) (g2 o2 : Nat) (v : Value) (hne : ∀ g, p = some ⟨g, 0, none⟩ → 0 < m → g ≠ g2) : Own B (w.setCell ⟨g2, o2, none⟩ v) p m zs := by
  refine ⟨h.len, h.dig, ?_⟩
  rcases h.mem with h0 | ⟨g, hp, hB, hr⟩
  · exact .inl h0
  · by_cases hm : m = 0
    · exact .inl hm
    · exact .inr ⟨g, hp, hB, hr.oth g2 o2 v (hne g hp (by omega))⟩
structure GN (w : World) (p : Option Addr) (m a : Nat) : Prop where
  mem : ∃ xs, At w p m m xs ∧ Nf B64 xs a
  len : m ≤ 8192
theorem GN.below {w w' : World} {p : Option Addr} {m a : Nat} (h : GN w p m a) (hb : Below w.heap.size w w') : GN w' p m a := by
  obtain ⟨⟨zs, h1, h2⟩, h3⟩ := h
  exact ⟨⟨zs, h1.below hb, h2⟩, h3⟩
theorem GN.cast {w : World} {p : Option Addr} {m a b : Nat} (h : GN w p m a) (e : a = b) : GN w p m b := e ▸ h
theorem GN.zero {w : World} {p : Option Addr} {m a : Nat} (h : GN w p m a) : m = 0 ↔ a = 0 := by
  obtain ⟨⟨zs, h1, h2⟩, h3⟩ := h
  rw [← h2.zero_iff B64_one, ← h1.len]
  exact List.length_eq_zero_iff
theorem GN.nil (w : World) (p : Option Addr) : GN w p 0 0 := ⟨⟨[], At.empty w p 0 (Nat.zero_le _), Nf.nil _⟩, by omega⟩
theorem GN.own {B : Nat} {w : World} {p : Option Addr} {m a : Nat} {zs : List Nat} (h : Own B w p m zs) (k : Nf B64 zs a) (l : m ≤ 8192) : GN w p m a := ⟨⟨zs, h.at_ l, k⟩, l⟩
structure GO (B : Nat) (w : World) (p : Option Addr) (m a : Nat) : Prop where
  mem : ∃ xs, Own B w p m xs ∧ Nf B64 xs a
  len : m ≤ 8192
theorem GO.gn {B : Nat} {w : World} {p : Option Addr} {m a : Nat} (h : GO B w p m a) : GN w p m a := by
  obtain ⟨⟨zs, h1, h2⟩, h3⟩ := h
  exact GN.own h1 h2 h3
theorem GO.below {B : Nat} {w w' : World} {p : Option Addr} {m a : Nat} (h : GO B w p m a) (hb : Below w.heap.size w w') : GO B w' p m a := by
  obtain ⟨⟨zs, h1, h2⟩, h3⟩ := h
  exact ⟨⟨zs, h1.below hb, h2⟩, h3⟩
theorem GO.mono {B B' : Nat} {w : World} {p : Option Addr} {m a : Nat} (h : GO B w p m a) (hB : B' ≤ B) : GO B' w p m a := by
  obtain ⟨⟨zs, h1, h2⟩, h3⟩ := h
  exact ⟨⟨zs, h1.mono hB, h2⟩, h3⟩
theorem GO.set {B : Nat} {w : World} {p : Option Addr} {m a : Nat} (h : GO B w p m a) (g2 o2 : Nat) (v : Value) (hg : g2 < B) : GO B (w.setCell ⟨g2, o2, none⟩ v) p m a := by
  obtain ⟨⟨zs, h1, h2⟩, h3⟩ := h
  refine ⟨⟨zs, h1.setNot g2 o2 v (fun g hp hm => ?_), h2⟩, h3⟩
  obtain ⟨g3, e1, e2, _⟩ := h1.mem.resolve_left (by omega)
  rw [hp] at e1
  simp only [Option.some.injEq, Addr.mk.injEq, and_true] at e1
  omega
theorem GO.cast {B : Nat} {w : World} {p : Option Addr} {m a b : Nat} (h : GO B w p m a) (e : a = b) : GO B w p m b := e ▸ h
def GNs (w w' : World) (e : Ending) (a : Nat) : Prop := ∃ p m, e = .returned (.tuple #[.slice p m m, .int .i64 0]) ∧ GO w.heap.size w' p m a ∧ Below w.heap.size w w'
theorem glim_of {a K : Nat} (hK : K ≤ 100000) (h : a < 2 ^ K) : a < LIM := by
  obtain ⟨k, hk⟩ : ∃ k, k = 8192 := ⟨_, rfl⟩
  rw [LIM_eq k hk, show B64 = 2 ^ 64 from rfl, ← Nat.pow_mul]
  exact Nat.lt_of_lt_of_le h (Nat.pow_le_pow_right (by decide) (by omega))
theorem Ans.gn {w w' : World} {e : Ending} {a K : Nat} (h : Ans w.heap.size w' e a) (hb : Below w.heap.size w w') (hK : K ≤ 100000) (hl : a < 2 ^ K) : GNs w w' e a := by
  rcases h with ⟨_, p, m, zs, rfl, h1, h2, h3⟩ | ⟨h1, _⟩
  · exact ⟨_, _, rfl, ⟨⟨zs, h1, h2⟩, h3⟩, hb⟩
  · exact absurd (glim_of hK hl) (Nat.not_lt.2 h1)
theorem gn_add {w : World} {p : Option Addr} {m a : Nat} (h : GN w p m a) {q : Option Addr} {n b : Nat} (k : GN w q n b) {K : Nat} (hK : K ≤ 100000) (hb : a + b < 2 ^ K) : Calls Tryz.prog 31 #[.slice p m m, .slice q n n] w fun e w' => GNs w w' e (a + b) := by
  obtain ⟨⟨zs, h1, h2⟩, h3⟩ := h
  obtain ⟨⟨ys, k1, k2⟩, k3⟩ := k
  refine (add_ord h1 k1 h2 k2 h3 k3).mono ?_
  rintro e w' ⟨g, hb2⟩
  exact g.gn hb2 hK hb
theorem gn_mulw {w : World} {p : Option Addr} {m a : Nat} (h : GN w p m a) (v : Nat) (hv : v < B64) {K : Nat} (hK : K ≤ 100000) (hb : a * v < 2 ^ K) : Calls Tryz.prog 30 #[.slice p m m, U v] w fun e w' => GNs w w' e (a * v) := by
  obtain ⟨⟨zs, h1, h2⟩, h3⟩ := h
  refine (mulw_nf h1 h2 h3 v hv).mono ?_
  rintro e w' ⟨g, hb2⟩
  exact g.gn hb2 hK hb
theorem gn_word {w : World} (v : Nat) (hv : v < B64) : Calls Tryz.prog 22 #[U v] w fun e w' => ∃ p m, e = .returned (.slice p m m) ∧ GN w' p m v ∧ Below w.heap.size w w' := by
  refine (word_any v w hv).mono ?_
  rintro e w' ⟨p, m, zs, rfl, g1, g2, g3, hb⟩
  exact ⟨_, _, rfl, GN.own g1 g2 (by omega), hb⟩
structure RN (w : World) (p : Option Addr) (m a : Nat) : Prop where
  mem : ∃ zs, At32 w p m m zs ∧ Nf B32 zs a
  len : m ≤ 4000
theorem RN.below {w w' : World} {p : Option Addr} {m a : Nat} (h : RN w p m a) (hb : Below w.heap.size w w') : RN w' p m a := by
  obtain ⟨⟨zs, h1, h2⟩, h3⟩ := h
  exact ⟨⟨zs, h1.below hb, h2⟩, h3⟩
theorem RN.cast {w : World} {p : Option Addr} {m a b : Nat} (h : RN w p m a) (e : a = b) : RN w p m b := e ▸ h
theorem rn_len {w : World} {p : Option Addr} {m c a K : Nat} {zs : List Nat} (h : At32 w p m c zs) (hN : Nf B32 zs a) (hK : K ≤ 100000) (hb : a < 2 ^ K) : m ≤ 4000 := by
  rw [← h.len]
  obtain ⟨k, hk⟩ : ∃ k, k = 3200 := ⟨_, rfl⟩
  refine Nat.le_trans ((hN.len_le (k := k) (by decide)).2 (Nat.lt_of_lt_of_le hb ?_)) (by omega)
  rw [show B32 = 2 ^ 32 from rfl, ← Nat.pow_mul]
  exact Nat.pow_le_pow_right (by decide) (by omega)
theorem RN.mk2 {w : World} {p : Option Addr} {m a K : Nat} {zs : List Nat} (h : At32 w p m m zs) (hN : Nf B32 zs a) (hK : K ≤ 100000) (hb : a < 2 ^ K) : RN w p m a := ⟨⟨zs, h, hN⟩, rn_len h hN hK hb⟩
theorem RN.zero {w : World} {p : Option Addr} {m a : Nat} (h : RN w p m a) : m = 0 ↔ a = 0 := by
  obtain ⟨⟨zs, h1, h2⟩, h3⟩ := h
  rw [← h2.zero_iff (by decide), ← h1.len]
  exact List.length_eq_zero_iff
def RNs (w w' : World) (e : Ending) (a : Nat) : Prop := ∃ p m, e = .returned (.slice p m m) ∧ RN w' p m a ∧ Below w.heap.size w w'
theorem rn_word {w : World} (x : Nat) (hx : x < 18446744073709551616) : Calls Tryz.prog 10 #[U x] w fun e w' => RNs w w' e (x) := by
  refine (rword x hx w).mono ?_
  rintro e w' ⟨g, zs, rfl, g1, g2, g3, hb2⟩
  exact ⟨_, _, rfl, ⟨⟨zs, g2, g3⟩, by omega⟩, hb2⟩
def sb (s : ByteArray) (i : Nat) : Nat := if h : i < s.size then (s[i]'h).toNat else 0
theorem sb_eq {s : ByteArray} {i : Nat} (h : i < s.size) : (s[i]'h).toNat = sb s i := by unfold sb; rw [dif_pos h]
def IsD (s : ByteArray) (i : Nat) : Prop := 48 ≤ sb s i ∧ sb s i ≤ 57
def dN (s : ByteArray) : Nat → Nat
  | 0 => 0
  | i + 1 => dN s i * 10 + (sb s i - 48)
theorem dN_succ (s : ByteArray) (i : Nat) : dN s (i + 1) = dN s i * 10 + (sb s i - 48) := rfl
theorem dN_lt {s : ByteArray} : ∀ {i : Nat}, (∀ j, j < i → IsD s j) → dN s i < 10 ^ i
  | 0, _ => by show 0 < 1; decide
  | i + 1, h => by
    have h1 := dN_lt (fun j hj => h j (by omega) : ∀ j, j < i → IsD s j)
    have h2 := h i (by omega)
    rw [dN_succ, Nat.pow_succ]
    unfold IsD at h2
    omega
theorem ten_pow {n K : Nat} (h : 4 * n ≤ K) : (10 : Nat) ^ n ≤ 2 ^ K := by
  refine Nat.le_trans (Nat.pow_le_pow_left (by decide : 10 ≤ 2 ^ 4) n) ?_
  rw [← Nat.pow_mul]
  exact Nat.pow_le_pow_right (by decide) (by omega)
def RdOk (s : ByteArray) : Prop := s.size ≤ 4900 ∧ s.size ≠ 0 ∧ ∀ j, j < s.size → IsD s j
def rdErr (s : ByteArray) : Int := if 4900 < s.size then 7 else 8
theorem extended_ok {p : Option Addr} {m a : Nat} {w : World} (h : GN w p m a) (v x : Nat) (hv : v < B64) (hx : x < B64) {K : Nat} (hK : K ≤ 100000) (hb : a * v + x < 2 ^ K) :
    Calls Tryz.prog 15 #[.slice p m m, U v, U x] w fun en w' => ∃ q l, en = .returned (.slice q l l) ∧ GO w.heap.size w' q l (a * v + x) ∧ Below w.heap.size w w' := by
  have HA : Hid (GN w p m a) := h
  have HX : Hid (v < B64 ∧ x < B64 ∧ K ≤ 100000 ∧ a * v + x < 2 ^ K ∧ a * v < 2 ^ K) := ⟨hv, hx, hK, hb, by omega⟩
  clear h hv hx hb hK
  go_enter Tryz.func15, Tryz.ntmps15
  go_wp2_with fail
  have hbw : Below w.heap.size w w := Below.refl _ _
  refine (gn_mulw HA.out v HX.out.1 HX.out.2.2.1 HX.out.2.2.2.2).mono ?_
  rintro e v1 ⟨p1, m1, rfl, hR, hb1⟩
  have GN1 : Hid (GN v1 p1 m1 (a * v)) := hR.gn
  clear hR
  replace HA : Hid (GN v1 p m a) := HA.out.below hb1
  replace hbw := Below.on hbw hb1
  clear hb1
  clear HA
  go_wp2_with fail
  refine (gn_word x HX.out.2.1).mono ?_
  rintro e v2 ⟨p2, m2, rfl, hR, hb2⟩
  have GN2 : Hid (GN v2 p2 m2 x) := hR
  clear hR
  replace GN1 : Hid (GN v2 p1 m1 (a * v)) := GN1.out.below hb2
  replace hbw := Below.on hbw hb2
  clear hb2
  go_wp2_with fail
  have HS1 : Hid (w.heap.size ≤ v2.heap.size) := hbw.size
  refine (gn_add GN1.out GN2.out HX.out.2.2.1 HX.out.2.2.2.1).mono ?_
  rintro e v3 ⟨p3, m3, rfl, hR, hb3⟩
  have GO3 : Hid (GO v2.heap.size v3 p3 m3 (a * v + x)) := hR
  clear hR
  replace GN1 : Hid (GN v3 p1 m1 (a * v)) := GN1.out.below hb3
  replace GN2 : Hid (GN v3 p2 m2 x) := GN2.out.below hb3
  replace hbw := Below.on hbw hb3
  clear hb3
  go_wp2_with fail
  go_ret
  exact ⟨_, _, rfl, GO3.out.mono HS1.out, hbw⟩
theorem dec_low {s : ByteArray} {i : Nat} (h : i < s.size) (hd : sb s i < 128) : Utf8.decode s i = (sb s i, 1) := by
  rw [decode_ascii s i h (by rw [sb_eq h]; exact hd), sb_eq h]
theorem dec_bad {s : ByteArray} {i : Nat} (h : i < s.size) (hd : ¬ IsD s i) : (Utf8.decode s i).1 < 48 ∨ 57 < (Utf8.decode s i).1 := by
  by_cases h1 : sb s i < 128
  · rw [dec_low h h1]; unfold IsD at hd; show sb s i < 48 ∨ 57 < sb s i; omega
  · exact .inr (Nat.lt_of_lt_of_le (by decide) (decode_high s i h (by rw [sb_eq h]; omega)).1)
theorem cell_iter {w : World} {k : Nat} {s : ByteArray} {pos pos' : Nat} (hk : w.heap[k]? = some (.stringIter s pos)) {a : Addr} {v : Value} (h : w.cell? a = some v) : (w.iterAt k s pos').cell? a = some v := by
  by_cases e : a.block = k
  · exfalso
    rw [← e] at hk
    simp [World.cell?, hk] at h
  · rw [World.cell?_of_block (Lib.iterAt_other w k a.block s pos' e)]; exact h
theorem GN.iter {w : World} {k : Nat} {s : ByteArray} {pos : Nat} (hk : w.heap[k]? = some (.stringIter s pos)) (pos' : Nat) {p : Option Addr} {m a : Nat} (h : GN w p m a) : GN (w.iterAt k s pos') p m a := by
  obtain ⟨⟨zs, h1, h2⟩, h3⟩ := h
  refine ⟨⟨zs, ⟨h1.len, h1.cap, h1.big, h1.dig, ?_⟩, h2⟩, h3⟩
  rcases h1.cells with h0 | ⟨g, off, rfl, hc⟩
  · exact .inl h0
  · exact .inr ⟨g, off, rfl, fun j hj => cell_iter hk (hc j hj)⟩
theorem rdw {t pc k : Nat} (h1 : pc < 10 ^ k) (h2 : k < 19) (h3 : 48 ≤ t) (h4 : t ≤ 57) : IntKind.u64.wrap (10 * (pc : Int) + ((t - 48 : Nat) : Int)) = ((10 * pc + (t - 48) : Nat) : Int) ∧ IntKind.u64.wrap (10 * (pc : Int)) = ((10 * pc : Nat) : Int) ∧ IntKind.u64.wrap (10 * ((10 ^ k : Nat) : Int)) = ((10 ^ (k + 1) : Nat) : Int) := by
  have h5 : (10 : Nat) ^ k ≤ 10 ^ 18 := Nat.pow_le_pow_right (by decide) (by omega)
  have h6 : (10 : Nat) ^ (k + 1) = 10 * 10 ^ k := by rw [Nat.pow_succ, Nat.mul_comm]
  simp only [IntKind.wrap_u64]
  rw [h6]
  generalize 10 ^ k = z at *
  omega
theorem rdu {t : Nat} (h3 : 48 ≤ t) (h4 : t ≤ 57) : IntKind.i32.wrap ((t : Int) - 48) = ((t - 48 : Nat) : Int) ∧ IntKind.u64.wrap ((t - 48 : Nat) : Int) = ((t - 48 : Nat) : Int) := by
  rw [IntKind.wrap_u64, IntKind.wrap_i32]; omega
theorem read_ok (s : ByteArray) {w : World} : Calls Tryz.prog 5 #[.string s] w fun en w' => ((RdOk s ∧ ∃ q l, en = .returned (.tuple #[.slice q l l, .int .i64 0]) ∧ GO w.heap.size w' q l (dN s s.size)) ∨ (¬ RdOk s ∧ en = .returned (.tuple #[.slice none 0 0, .int .i64 (rdErr s)]))) ∧ Below w.heap.size w w' := by
  by_cases h1 : 4900 < s.size
  · have h1' : decide ((4900 : Int) < (s.size : Int)) = true := decide_eq_true (by omega)
    have h1'' : decide (4900 < s.size) = true := decide_eq_true h1
    have HE : Hid (rdErr s = 7 ∧ ¬ RdOk s) := ⟨by unfold rdErr; rw [if_pos h1], fun h => by unfold RdOk at h; omega⟩
    clear h1
    go_enter Tryz.func5, Tryz.ntmps5
    go_wp2_with fail
    go_ret2
    exact ⟨.inr ⟨HE.out.2, by rw [HE.out.1]; rfl⟩, Below.refl _ _⟩
  by_cases h2 : s.size = 0
  · have HE : Hid (rdErr s = 8 ∧ ¬ RdOk s) := ⟨by unfold rdErr; rw [if_neg h1], fun h => by unfold RdOk at h; omega⟩
    obtain rfl : s = ⟨#[]⟩ := by cases s with | mk d => cases d with | mk l => cases l with | nil => rfl | cons a l => simp [ByteArray.size] at h2
    clear h1 h2
    go_enter Tryz.func5, Tryz.ntmps5
    go_wp2_with fail
    go_ret2
    exact ⟨.inr ⟨HE.out.2, by rw [HE.out.1]; rfl⟩, Below.refl _ _⟩
  have h1' : decide ((4900 : Int) < (s.size : Int)) = false := decide_eq_false (by omega)
  have h1'' : decide (4900 < s.size) = false := decide_eq_false h1
  have h2' : (s.toList == []) = false := by simp only [beq_eq_false_iff_ne, ne_eq]; intro h; apply h2; rw [ByteArray.toList_eq] at h; show s.data.size = 0; rw [← Array.length_toList, h]; rfl
  have HE : Hid (s.size ≤ 4900 ∧ s.size ≠ 0 ∧ rdErr s = 8) := ⟨by omega, h2, by unfold rdErr; rw [if_neg h1]⟩
  clear h1 h2
  go_enter Tryz.func5, Tryz.ntmps5
  go_wp2_with fail
  obtain ⟨W0, hW0⟩ : ∃ W0, W0 = w.iter s 0 := ⟨_, rfl⟩
  have HI : Hid (W0.heap[w.heap.size]? = some (.stringIter s 0)) := by rw [hW0]; exact World.iter_heap w s 0
  have hbw : Below w.heap.size w W0 := by rw [hW0]; exact below1 w _
  rw [← hW0]
  clear hW0 h1' h1'' h2'
  obtain ⟨gi, hgi⟩ : ∃ g, g = w.heap.size := ⟨_, rfl⟩
  have HGI : Hid (w.heap.size ≤ gi) := by rw [hgi]; exact Nat.le_refl _
  rw [← hgi] at HI
  rw [← hgi]
  clear hgi
  go_loopg [4, 5, 6] s.size (fun gk vv pv sv wr => ∃ (pos k a pc m : Nat) (p : Option Addr), pos + gk = s.size ∧ vv = .slice p m m ∧ pv = U pc ∧ sv = U (10 ^ k) ∧ k < 19 ∧ pc < 10 ^ k ∧ a * 10 ^ k + pc = dN s pos ∧ (∀ j, j < pos → IsD s j) ∧ GN wr p m a ∧ wr.heap[gi]? = some (.stringIter s pos) ∧ Below w.heap.size w wr)
  case atStart => exact ⟨0, 0, 0, 0, 0, none, by omega, rfl, rfl, rfl, by decide, by decide, rfl, fun j hj => by omega, GN.nil _ _, HI.out, hbw⟩
  case round =>
    obtain ⟨pos, k, a, pc, m, p, hig, rfl, rfl, rfl, hk, hpc, hval, hdig, xg, xi, hbr⟩ := hrel
    clear HI hbw
    have GNa : Hid (GN wr p m a) := xg
    have HI : Hid (wr.heap[gi]? = some (.stringIter s pos)) := xi
    have hbw := hbr
    have HV : Hid (a * 10 ^ k + pc = dN s pos ∧ pc < 10 ^ k ∧ k < 19 ∧ ∀ j, j < pos → IsD s j) := ⟨hval, hpc, hk, hdig⟩
    clear xg xi hbr hval hpc hk hdig
    by_cases hp : pos < s.size
    · by_cases hd : IsD s pos
      · obtain ⟨g, rfl⟩ : ∃ g, gk = g + 1 := ⟨gk - 1, by omega⟩
        have hnx := fun ty => Lib.run_next_any_at (P := Tryz.prog) wr gi s pos ty HI.out hp
        have hd0 := hd
        unfold IsD at hd0
        have hdec := dec_low hp (by omega)
        obtain ⟨t, ht⟩ : ∃ t, t = sb s pos := ⟨_, rfl⟩
        rw [hdec, ← ht] at hnx
        rw [← ht] at hd0
        have hw1 := rdu hd0.1 hd0.2
        have hw2 := rdw (t := t) HV.out.2.1 HV.out.2.2.1 hd0.1 hd0.2
        have HD : Hid (IsD s pos ∧ t = sb s pos ∧ pos < s.size ∧ pos + (g + 1) = s.size) := ⟨hd, ht, hp, hig⟩
        obtain ⟨c, hc⟩ : ∃ c, c = t - 48 := ⟨_, rfl⟩
        obtain ⟨z, hz⟩ : ∃ z, z = 10 ^ k := ⟨_, rfl⟩
        obtain ⟨z1, hz1⟩ : ∃ z, z = 10 ^ (k + 1) := ⟨_, rfl⟩
        obtain ⟨q, hq⟩ : ∃ q, q = 10 * pc + c := ⟨_, rfl⟩
        obtain ⟨q0, hq0⟩ : ∃ q, q = 10 * pc := ⟨_, rfl⟩
        rw [← hc] at hw1 hw2
        rw [← hz, ← hz1, ← hq, ← hq0] at hw2
        rw [← hz]
        have HZ : Hid (c = t - 48 ∧ z = 10 ^ k ∧ z1 = 10 ^ (k + 1) ∧ q = 10 * pc + c) := ⟨hc, hz, hz1, hq⟩
        have t1 : decide ((t : Int) < 48) = false := decide_eq_false (by omega)
        have t2 : decide ((57 : Int) < (t : Int)) = false := decide_eq_false (by omega)
        have t3 : decide (t < 48) = false := decide_eq_false (by omega)
        have t4 : decide (57 < t) = false := decide_eq_false (by omega)
        obtain ⟨wa, wb⟩ := hw1
        obtain ⟨wc, wd, we⟩ := hw2
        have wc' : IntKind.u64.wrap ((q0 : Int) + (c : Int)) = (q : Int) := by rw [IntKind.wrap_u64] at wc ⊢; omega
        have HVV := HV.out
        by_cases hk : k = 18
        · have e19 : ((z1 : Int) == 10000000000000000000) = true := by rw [hz1, hk]; decide
          have HZ1 : Hid (z1 < B64 ∧ q < B64) := by have h9 := HVV.2.1; rw [hk] at h9; refine ⟨by rw [hz1, hk]; decide, ?_⟩; show q < 18446744073709551616; rw [show (10 : Nat) ^ 18 = 1000000000000000000 by decide] at h9; omega
          have HK18 : Hid (k = 18) := hk
          have HN : Hid (a * z1 + q = dN s (pos + 1) ∧ q < z1) := by rw [dN_succ, ← HVV.1, hz1, hq, hc, ht, Nat.pow_succ]; rw [ht] at hd0; have h5 := HVV.2.1; generalize 10 ^ k = y at *; refine ⟨?_, by omega⟩; rw [Nat.add_mul, Nat.mul_comm 10 pc, Nat.mul_assoc, Nat.add_assoc]
          have HDD : Hid (∀ j, j < pos + 1 → IsD s j) := fun j hj => by rcases Nat.lt_or_ge j pos with h | h; exact HVV.2.2.2 j h; rw [show j = pos by omega]; exact hd
          clear hd hp hig hdec ht hd0 hc hz hz1 hq hq0 hk HVV
          go_wp2_with fail
          clear t1 t2 t3 t4 wa wb wc wd we wc' e19 hnx
          have GNb : Hid (GN (wr.iterAt gi s (pos + 1)) p m a) := GN.iter HI.out _ GNa.out
          have HI2 : Hid ((wr.iterAt gi s (pos + 1)).heap[gi]? = some (.stringIter s (pos + 1))) := Lib.iterAt_heap wr gi s pos (pos + 1) HI.out
          have hbw2 : Below w.heap.size w (wr.iterAt gi s (pos + 1)) := Lib.below_iterAt hbw HGI.out s _
          generalize (wr.iterAt gi s (pos + 1)) = W1 at *
          clear GNa HI hbw
          obtain ⟨KK, hK1, hK2⟩ : ∃ K : Nat, K ≤ 100000 ∧ 19600 ≤ K := ⟨20000, by decide, by decide⟩
          refine (extended_ok GNb.out z1 q HZ1.out.1 HZ1.out.2 (K := KK) hK1 (by rw [HN.out.1]; exact Nat.lt_of_lt_of_le (dN_lt HDD.out) (ten_pow (by have h1 := HE.out.1; have h2 := HD.out.2.2.1; omega)))).mono ?_
          rintro e v1 ⟨p1, m1, rfl, hR, hb1⟩
          clear hK1 hK2
          have GN1 : Hid (GN v1 p1 m1 (a * z1 + q)) := hR.gn
          clear hR
          have HI3 : Hid (v1.heap[gi]? = some (.stringIter s (pos + 1))) := (hb1.block gi (Array.getElem?_eq_some_iff.1 HI2.out).1).trans HI2.out
          have hbw3 := Below.on hbw2 hb1
          clear GNb HI2 hbw2 hb1
          go_wp2_with fail
          go_roundg g
          case measure => omega
          case rel => exact ⟨pos + 1, 0, dN s (pos + 1), 0, m1, p1, by have := HD.out.2.2.2; omega, rfl, rfl, rfl, by decide, by decide, by rw [Nat.pow_zero, Nat.mul_one, Nat.add_zero], HDD.out, HN.out.1 ▸ GN1.out, HI3.out, hbw3⟩
        · have e19 : ((z1 : Int) == 10000000000000000000) = false := by rw [hz1, beq_eq_false_iff_ne]; have h9 : (10 : Nat) ^ (k + 1) ≤ 10 ^ 18 := Nat.pow_le_pow_right (by decide) (by have := HVV.2.2.1; omega); rw [show (10 : Nat) ^ 18 = 1000000000000000000 by decide] at h9; omega
          have HK18 : Hid (k ≠ 18) := hk
          have HN : Hid (a * z1 + q = dN s (pos + 1) ∧ q < z1) := by rw [dN_succ, ← HVV.1, hz1, hq, hc, ht, Nat.pow_succ]; rw [ht] at hd0; have h5 := HVV.2.1; generalize 10 ^ k = y at *; refine ⟨?_, by omega⟩; rw [Nat.add_mul, Nat.mul_comm 10 pc, Nat.mul_assoc, Nat.add_assoc]
          have HDD : Hid (∀ j, j < pos + 1 → IsD s j) := fun j hj => by rcases Nat.lt_or_ge j pos with h | h; exact HVV.2.2.2 j h; rw [show j = pos by omega]; exact hd
          clear hd hp hig hdec ht hd0 hc hz hz1 hq hq0 hk HVV
          go_wp2_with fail
          clear t1 t2 t3 t4 wa wb wc wd we wc' e19 hnx
          have GNb : Hid (GN (wr.iterAt gi s (pos + 1)) p m a) := GN.iter HI.out _ GNa.out
          have HI2 : Hid ((wr.iterAt gi s (pos + 1)).heap[gi]? = some (.stringIter s (pos + 1))) := Lib.iterAt_heap wr gi s pos (pos + 1) HI.out
          have hbw2 : Below w.heap.size w (wr.iterAt gi s (pos + 1)) := Lib.below_iterAt hbw HGI.out s _
          generalize (wr.iterAt gi s (pos + 1)) = W1 at *
          clear GNa HI hbw
          go_roundg g
          case measure => omega
          case rel => exact ⟨pos + 1, k + 1, a, q, m, p, by have := HD.out.2.2.2; omega, rfl, rfl, by rw [HZ.out.2.2.1], by have h1 := HV.out.2.2.1; have h2 := HK18.out; omega, by rw [← HZ.out.2.2.1]; exact HN.out.2, by rw [← HZ.out.2.2.1]; exact HN.out.1, HDD.out, GNb.out, HI2.out, hbw2⟩
      · have hnx := fun ty => Lib.run_next_any_at (P := Tryz.prog) wr gi s pos ty HI.out hp
        have hdec := dec_bad hp hd
        have HNO : Hid (¬ RdOk s) := fun h => hd (h.2.2 pos hp)
        obtain ⟨t, ht⟩ : ∃ t, t = (Utf8.decode s pos).1 := ⟨_, rfl⟩
        obtain ⟨l, hl⟩ : ∃ t, t = (Utf8.decode s pos).2 := ⟨_, rfl⟩
        rw [← ht, ← hl] at hnx
        rw [← ht] at hdec
        obtain ⟨z, hz⟩ : ∃ z, z = 10 ^ k := ⟨_, rfl⟩
        rw [← hz]
        clear hp hd ht hl hz hig
        rcases hdec with hdec | hdec
        · have t1 : decide ((t : Int) < 48) = true := decide_eq_true (by omega)
          have t3 : decide (t < 48) = true := decide_eq_true (by omega)
          clear hdec
          go_wp2_with fail
          go_ret2
          exact ⟨.inr ⟨HNO.out, by rw [HE.out.2.2]; rfl⟩, Lib.below_iterAt hbw HGI.out s _⟩
        · have t1 : decide ((t : Int) < 48) = false := decide_eq_false (by omega)
          have t3 : decide (t < 48) = false := decide_eq_false (by omega)
          have t2 : decide ((57 : Int) < (t : Int)) = true := decide_eq_true (by omega)
          have t4 : decide (57 < t) = true := decide_eq_true (by omega)
          clear hdec
          go_wp2_with fail
          go_ret2
          exact ⟨.inr ⟨HNO.out, by rw [HE.out.2.2]; rfl⟩, Lib.below_iterAt hbw HGI.out s _⟩
    · have hnx := fun ty => Lib.run_next_end_at (P := Tryz.prog) wr gi s pos ty HI.out hp
      obtain rfl : pos = s.size := by omega
      have HOK : Hid (RdOk s) := ⟨HE.out.1, HE.out.2.1, HV.out.2.2.2⟩
      obtain ⟨z, hz⟩ : ∃ z, z = 10 ^ k := ⟨_, rfl⟩
      have HZ1 : Hid (z < B64 ∧ pc < B64 ∧ a * z + pc = dN s s.size) := by have h1 := HV.out; have h9 : (10 : Nat) ^ k ≤ 10 ^ 18 := Nat.pow_le_pow_right (by decide) (by omega); rw [← hz] at h1 h9; exact ⟨Nat.lt_of_le_of_lt h9 (by decide), Nat.lt_trans h1.2.1 (Nat.lt_of_le_of_lt h9 (by decide)), h1.1⟩
      rw [← hz]
      clear hz hig hp
      go_wp2_with fail
      clear hnx
      have HSZ : Hid (w.heap.size ≤ wr.heap.size) := hbw.size
      obtain ⟨KK, hK1, hK2⟩ : ∃ K : Nat, K ≤ 100000 ∧ 19600 ≤ K := ⟨20000, by decide, by decide⟩
      refine (extended_ok GNa.out z pc HZ1.out.1 HZ1.out.2.1 (K := KK) hK1 (by rw [HZ1.out.2.2]; exact Nat.lt_of_lt_of_le (dN_lt HOK.out.2.2) (ten_pow (by have h1 := HE.out.1; omega)))).mono ?_
      rintro e v1 ⟨p1, m1, rfl, hR, hb1⟩
      clear hK1 hK2
      have GO1 : Hid (GO w.heap.size v1 p1 m1 (a * z + pc)) := hR.mono HSZ.out
      have hbw2 := Below.on hbw hb1
      clear hR hbw hb1
      go_wp2_with fail
      go_ret2
      exact ⟨.inl ⟨HOK.out, _, _, rfl, HZ1.out.2.2 ▸ GO1.out⟩, hbw2⟩
theorem rn_mulsu {w : World} {p : Option Addr} {m a : Nat} (h : RN w p m a) (v u : Nat) (hv : v < B32) (hu : u < B32) {K : Nat} (hK : K ≤ 100000) (hb : a * v + u < 2 ^ K) : Calls Tryz.prog 111 #[.slice p m m, V v, V u] w fun e w' => RNs w w' e (a * v + u) := by
  obtain ⟨⟨zs, h1, h2⟩, h3⟩ := h
  refine (rsmall_any (u := u) h1 h2 (by omega) hv hu).mono ?_
  rintro e w' ⟨g, z, rfl, g1, g2, g3, hb2⟩
  exact ⟨_, _, rfl, RN.mk2 (g1.at_ g2.dig rfl (by unfold maxLen; omega)) g2 hK hb, hb2⟩
theorem number_ok (s : ByteArray) {w : World} (hs : s.size ≤ 4900) (hd : ∀ j, j < s.size → IsD s j) :
    Calls Tryz.prog 83 #[.string s] w fun en w' => RNs w w' en (dN s s.size) := by
  have HS : Hid (s.size ≤ 4900 ∧ ∀ j, j < s.size → IsD s j) := ⟨hs, hd⟩
  clear hs hd
  go_enter Tryz.func83, Tryz.ntmps83
  go_wp2_with fail
  have hbw : Below w.heap.size w w := Below.refl _ _
  refine (rn_word 0 (by decide)).mono ?_
  rintro e v1 ⟨p1, m1, rfl, hR, hb1⟩
  have RN1 : Hid (RN v1 p1 m1 0) := hR
  clear hR
  replace hbw := Below.on hbw hb1
  clear hb1
  go_wp2_with fail
  go_loopg [3, 4] s.size (fun gk dv iv wr => ∃ (i m : Nat) (p : Option Addr), i + gk = s.size ∧ dv = .slice p m m ∧ iv = .int .i64 (i : Int) ∧ RN wr p m (dN s i) ∧ Below w.heap.size w wr)
  case atStart => exact ⟨0, m1, p1, by omega, rfl, rfl, RN1.out, hbw⟩
  case round =>
    obtain ⟨i, m, p, hig, rfl, rfl, xr, hbr⟩ := hrel
    clear RN1 hbw
    have RNi : Hid (RN wr p m (dN s i)) := xr
    have hbw := hbr
    clear xr hbr
    by_cases hi : i < s.size
    · have hI := HS.out.2 i hi
      unfold IsD at hI
      obtain ⟨g, rfl⟩ : ∃ g, gk = g + 1 := ⟨gk - 1, by omega⟩
      obtain ⟨t, ht⟩ : ∃ t, t = sb s i := ⟨_, rfl⟩
      obtain ⟨c, hc⟩ : ∃ c, c = t - 48 := ⟨_, rfl⟩
      have hx := sb_eq hi
      rw [← ht] at hx hI
      have HT : Hid (t = sb s i ∧ c = t - 48 ∧ i + (g + 1) = s.size ∧ i < s.size ∧ 48 ≤ t ∧ t ≤ 57) := ⟨ht, hc, hig, hi, hI.1, hI.2⟩
      have hi1 : decide ((i : Int) < (s.size : Int)) = true := decide_eq_true (by omega)
      have hi2 : decide (i < s.size) = true := decide_eq_true (by omega)
      have hi3 : (0 : Int) ≤ (i : Int) ∧ (i : Int) < (s.size : Int) := by omega
      have wa : IntKind.u8.wrap ((t : Int) - 48) = (c : Int) := by rw [IntKind.wrap_u8]; omega
      have wb : IntKind.u32.wrap (c : Int) = (c : Int) := by rw [IntKind.wrap_u32]; omega
      have wi : wrap64 ((i : Int) + 1) = ((i + 1 : Nat) : Int) := by have := HS.out.1; simp only [wrap64]; omega
      clear ht hc hig hI
      go_wp2_with fail
      clear hi1 hi2 hi3 wa wb hx hi
      obtain ⟨KK, hK1, hK2⟩ : ∃ K : Nat, K ≤ 100000 ∧ 19600 ≤ K := ⟨20000, by decide, by decide⟩
      refine (rn_mulsu RNi.out 10 c (by decide) (by have := HT.out; show c < 4294967296; omega) (K := KK) hK1 (by have h1 := HT.out; rw [h1.2.1, h1.1, ← dN_succ]; exact Nat.lt_of_lt_of_le (dN_lt (fun j hj => HS.out.2 j (by omega))) (ten_pow (by have := HS.out.1; omega)))).mono ?_
      rintro e v2 ⟨p2, m2, rfl, hR, hb2⟩
      clear hK1 hK2
      have RN2 : Hid (RN v2 p2 m2 (dN s i * 10 + c)) := hR
      clear hR
      replace RNi : Hid (RN v2 p m (dN s i)) := RNi.out.below hb2
      replace hbw := Below.on hbw hb2
      clear hb2
      go_wp2_with fail
      go_roundg g
      case measure => omega
      case rel => exact ⟨i + 1, m2, p2, by have := HT.out.2.2.1; omega, rfl, by rw [wi], by have h1 := HT.out; rw [dN_succ, ← h1.1, ← h1.2.1]; exact RN2.out, hbw⟩
    · obtain rfl : i = s.size := by omega
      have hi1 : decide ((s.size : Int) < (s.size : Int)) = false := decide_eq_false (by omega)
      have hi2 : decide (s.size < s.size) = false := decide_eq_false (by omega)
      clear hi hig
      go_wp2_with fail
      go_ret
      exact ⟨_, _, rfl, RNi.out, hbw⟩
theorem docread_ok (s : ByteArray) {w : World} : Calls Tryz.prog 60 #[.string s] w fun en w' => ((RdOk s ∧ ∃ g k N us, en = .returned (.tuple #[.slice (some ⟨g, 0, none⟩) k N, .int .i64 0]) ∧ At w' (some ⟨g, 0, none⟩) k N us ∧ Nf B64 us (dN s s.size)) ∨ (¬ RdOk s ∧ en = .returned (.tuple #[.slice none 0 0, .int .i64 (rdErr s)]))) ∧ Below w.heap.size w w' := by
  by_cases h1 : 4900 < s.size
  · have h1' : decide ((4900 : Int) < (s.size : Int)) = true := decide_eq_true (by omega)
    have h1'' : decide (4900 < s.size) = true := decide_eq_true h1
    have HE : Hid (rdErr s = 7 ∧ ¬ RdOk s) := ⟨by unfold rdErr; rw [if_pos h1], fun h => by unfold RdOk at h; omega⟩
    clear h1
    go_enter Tryz.func60, Tryz.ntmps60
    go_wp2_with fail
    go_ret2
    exact ⟨.inr ⟨HE.out.2, by rw [HE.out.1]; rfl⟩, Below.refl _ _⟩
  by_cases h2 : s.size = 0
  · have HE : Hid (rdErr s = 8 ∧ ¬ RdOk s) := ⟨by unfold rdErr; rw [if_neg h1], fun h => by unfold RdOk at h; omega⟩
    obtain rfl : s = ⟨#[]⟩ := by cases s with | mk d => cases d with | mk l => cases l with | nil => rfl | cons a l => simp [ByteArray.size] at h2
    clear h1 h2
    go_enter Tryz.func60, Tryz.ntmps60
    go_wp2_with fail
    go_ret2
    exact ⟨.inr ⟨HE.out.2, by rw [HE.out.1]; rfl⟩, Below.refl _ _⟩
  have h1' : decide ((4900 : Int) < (s.size : Int)) = false := decide_eq_false (by omega)
  have h1'' : decide (4900 < s.size) = false := decide_eq_false h1
  have h2' : (s.toList == []) = false := by simp only [beq_eq_false_iff_ne, ne_eq]; intro h; apply h2; rw [ByteArray.toList_eq] at h; show s.data.size = 0; rw [← Array.length_toList, h]; rfl
  have HE : Hid (s.size ≤ 4900 ∧ s.size ≠ 0 ∧ rdErr s = 8) := ⟨by omega, h2, by unfold rdErr; rw [if_neg h1]⟩
  clear h1 h2
  go_enter Tryz.func60, Tryz.ntmps60
  go_wp2_with fail
  have hbw : Below w.heap.size w w := Below.refl _ _
  clear h1' h1'' h2'
  go_loopg [4] s.size (fun gk iv wr => ∃ (i : Nat), i + gk = s.size ∧ iv = .int .i64 (i : Int) ∧ (∀ j, j < i → IsD s j) ∧ Below w.heap.size w wr)
  case atStart => exact ⟨0, by omega, rfl, fun j hj => by omega, hbw⟩
  case round =>
    obtain ⟨i, hig, rfl, hdig, hbr⟩ := hrel
    clear hbw
    have hbw := hbr
    have HDG : Hid (∀ j, j < i → IsD s j) := hdig
    clear hbr hdig
    by_cases hi : i < s.size
    · obtain ⟨g, rfl⟩ : ∃ g, gk = g + 1 := ⟨gk - 1, by omega⟩
      obtain ⟨t, ht⟩ : ∃ t, t = sb s i := ⟨_, rfl⟩
      have hx := sb_eq hi
      rw [← ht] at hx
      have hi1 : decide ((i : Int) < (s.size : Int)) = true := decide_eq_true (by omega)
      have hi2 : decide (i < s.size) = true := decide_eq_true (by omega)
      have hi3 : (0 : Int) ≤ (i : Int) ∧ (i : Int) < (s.size : Int) := by omega
      have wi : wrap64 ((i : Int) + 1) = ((i + 1 : Nat) : Int) := by have := HE.out.1; simp only [wrap64]; omega
      by_cases hd : IsD s i
      · have HQ : Hid (i + (g + 1) = s.size ∧ ∀ j, j < i + 1 → IsD s j) := ⟨hig, fun j hj => by rcases Nat.lt_or_ge j i with h | h; exact HDG.out j h; rw [show j = i by omega]; exact hd⟩
        unfold IsD at hd
        rw [← ht] at hd
        have t1 : decide ((t : Int) < 48) = false := decide_eq_false (by omega)
        have t2 : decide ((57 : Int) < (t : Int)) = false := decide_eq_false (by omega)
        have t3 : decide (t < 48) = false := decide_eq_false (by omega)
        have t4 : decide (57 < t) = false := decide_eq_false (by omega)
        clear ht hd hig
        go_wp2_with fail
        go_roundg g
        case measure => omega
        case rel => exact ⟨i + 1, by have := HQ.out.1; omega, by rw [wi], HQ.out.2, hbw⟩
      · have HNO : Hid (¬ RdOk s) := fun h => hd (h.2.2 i hi)
        unfold IsD at hd
        rw [← ht] at hd
        have hdec : t < 48 ∨ 57 < t := by omega
        clear ht hd hig
        rcases hdec with hdec | hdec
        · have t1 : decide ((t : Int) < 48) = true := decide_eq_true (by omega)
          have t3 : decide (t < 48) = true := decide_eq_true (by omega)
          clear hdec
          go_wp2_with fail
          go_ret2
          exact ⟨.inr ⟨HNO.out, by rw [HE.out.2.2]; rfl⟩, hbw⟩
        · have t1 : decide ((t : Int) < 48) = false := decide_eq_false (by omega)
          have t3 : decide (t < 48) = false := decide_eq_false (by omega)
          have t2 : decide ((57 : Int) < (t : Int)) = true := decide_eq_true (by omega)
          have t4 : decide (57 < t) = true := decide_eq_true (by omega)
          clear hdec
          go_wp2_with fail
          go_ret2
          exact ⟨.inr ⟨HNO.out, by rw [HE.out.2.2]; rfl⟩, hbw⟩
    · obtain rfl : i = s.size := by omega
      have HOK : Hid (RdOk s) := ⟨HE.out.1, HE.out.2.1, HDG.out⟩
      have hi1 : decide ((s.size : Int) < (s.size : Int)) = false := decide_eq_false (by omega)
      have hi2 : decide (s.size < s.size) = false := decide_eq_false (by omega)
      clear hi hig
      go_wp2_with fail
      clear hi1 hi2
      refine (number_ok s HE.out.1 HOK.out.2.2).mono ?_
      rintro e v1 ⟨p1, m1, rfl, hR, hb1⟩
      obtain ⟨⟨zs, hz1, hz2⟩, hz3⟩ := hR
      have AT1 : Hid (At32 v1 p1 m1 m1 zs ∧ Nf B32 zs (dN s s.size) ∧ m1 ≤ 4000) := ⟨hz1, hz2, hz3⟩
      clear hz1 hz2 hz3
      replace hbw := Below.on hbw hb1
      clear hb1
      go_wp2_with fail
      refine (rto_any AT1.out.1 (by have := AT1.out.2.2; omega)).mono ?_
      rintro e v2 ⟨g2, k2, N2, us, rfl, hg2, hA, hN, hb2⟩
      rw [AT1.out.2.1.val] at hN
      have AT2 : Hid (At v2 (some ⟨g2, 0, none⟩) k2 N2 us ∧ Nf B64 us (dN s s.size)) := ⟨hA, hN⟩
      clear hA hN AT1
      replace hbw := Below.on hbw hb2
      clear hb2
      go_wp2_with fail
      go_ret2
      exact ⟨.inl ⟨HOK.out, _, _, _, _, rfl, AT2.out⟩, hbw⟩
theorem readlaw_ok (s : ByteArray) {w : World} :
    Calls Tryz.prog 29 #[.string s] w fun en w' => en = .returned (.bool true) ∧ Below w.heap.size w w' := by
  go_enter Tryz.func29, Tryz.ntmps29
  go_wp2_with fail
  have hbw : Below w.heap.size w w := Below.refl _ _
  by_cases hR : RdOk s
  · refine (read_ok s).mono ?_
    rintro e v1 ⟨⟨-, p1, m1, rfl, hG⟩ | ⟨hn, -⟩, hb1⟩
    rotate_left
    · exact absurd hR hn
    have GN1 : Hid (GN v1 p1 m1 (dN s s.size)) := hG.gn
    clear hG
    replace hbw := Below.on hbw hb1
    clear hb1
    go_wp2_with fail
    refine (docread_ok s).mono ?_
    rintro e v2 ⟨⟨-, g2, k2, N2, us, rfl, hA, hN⟩ | ⟨hn, -⟩, hb2⟩
    rotate_left
    · exact absurd hR hn
    have AT2 : Hid (At v2 (some ⟨g2, 0, none⟩) k2 N2 us ∧ Nf B64 us (dN s s.size)) := ⟨hA, hN⟩
    clear hA hN
    replace GN1 : Hid (GN v2 p1 m1 (dN s s.size)) := GN1.out.below hb2
    replace hbw := Below.on hbw hb2
    clear hb2
    go_wp2_with fail
    obtain ⟨⟨zs, hz1, hz2⟩, -⟩ := GN1.out
    obtain rfl := hz2.inj B64_one AT2.out.2
    have ATz : Hid (At v2 p1 m1 m1 zs) := hz1
    clear hz1 hz2 GN1
    refine (same_t ATz.out AT2.out.1).mono ?_
    rintro e v3 ⟨rfl, hb3⟩
    clear ATz AT2
    replace hbw := Below.on hbw hb3
    clear hb3
    go_wp2_with fail
    go_ret
    exact ⟨rfl, hbw⟩
  · obtain ⟨er, her⟩ : ∃ x, x = rdErr s := ⟨_, rfl⟩
    have HER : Hid (er = rdErr s) := her
    refine (read_ok s).mono ?_
    rintro e v1 ⟨⟨hn, -⟩ | ⟨-, rfl⟩, hb1⟩
    · exact absurd hn hR
    rw [← her]
    replace hbw := Below.on hbw hb1
    clear hb1
    go_wp2_with fail
    refine (docread_ok s).mono ?_
    rintro e v2 ⟨⟨hn, -⟩ | ⟨-, rfl⟩, hb2⟩
    · exact absurd hn hR
    rw [← her]
    clear her
    replace hbw := Below.on hbw hb2
    clear hb2
    go_wp2_with fail
    refine (same_t (At.empty _ none 0 (Nat.zero_le _)) (At.empty _ none 0 (Nat.zero_le _))).mono ?_
    rintro e v3 ⟨rfl, hb3⟩
    replace hbw := Below.on hbw hb3
    clear hb3
    go_wp2_with fail
    go_ret
    exact ⟨rfl, hbw⟩
end Go.Proofs.YtpebgjpfgfimgaaGreatDoor
