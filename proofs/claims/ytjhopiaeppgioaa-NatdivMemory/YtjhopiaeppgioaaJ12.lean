import Derived.Test.YtjhopiaeppgioaaJ10
import Derived.Test.YtjhopiaeppgioaaJ11
import Derived.Test.YtjhopiaeppgioaaJ8
import Derived.Test.YtjhopiaeppgioaaJ7
import Derived.Test.YtjhopiaeppgioaaJ9
namespace Go.Proofs.Ytjhopiaeppgioaa
open Go.RowKit Go.Shelf
set_option maxRecDepth 20000
set_option maxHeartbeats 0
theorem join_any {p q : Option Addr} {n m c d : Nat} {xs ys : List Nat} {a b : Nat} {w : World} (h : Num w p n c xs a) (k : Num w q m d ys b) (K : Nat) (hK : K ≤ 9223372036854775807) (hl : 2 ^ K * a + b < LIM) :
    Calls Try.prog 38 #[.slice p n c, .slice q m d, .int .i64 K] w fun e w' => ∃ p' m' zs, e = .returned (.slice p' m' m') ∧ Own w.heap.size w' p' m' zs ∧ Nf B64 zs (2 ^ K * a + b) ∧ m' ≤ 8192 ∧ Below w.heap.size w w' := by
  have H : Hid (Num w p n c xs a) := h
  have KK : Hid (Num w q m d ys b) := k
  have L : Hid (2 ^ K * a + b < LIM) := hl
  clear h k hl
  go_enter Try.func38, Try.ntmps38
  go_wp2_with fail
  refine (shl_nf H.out.at_ H.out.nf H.out.le K hK).mono ?_
  rintro e w1 ⟨ha1, hb1⟩
  obtain ⟨p1, m1, z1, rfl, ho1, hn1, hm1⟩ := ha1.ok (Nat.lt_of_le_of_lt (Nat.le_add_right _ _) L.out)
  have N1 : Hid (Num w1 p1 m1 m1 z1 (2 ^ K * a)) := Num.of ho1 hn1 hm1
  have K1 : Hid (Num w1 q m d ys b) := KK.out.below hb1
  clear ha1 ho1 hn1
  go_wp2_with fail
  refine (add_ord N1.out.at_ K1.out.at_ N1.out.nf K1.out.nf N1.out.le K1.out.le).mono ?_
  rintro e w2 ⟨ha2, hb2⟩
  obtain ⟨p2, m2, z2, rfl, ho2, hn2, hm2⟩ := ha2.ok L.out
  have N2 : Hid (Nf B64 z2 (2 ^ K * a + b)) := hn2
  have hbw := Below.on hb1 hb2
  have hsz := hb1.size
  clear ha2 hn2
  go_wp2_with fail
  go_ret
  exact ⟨p2, m2, z2, rfl, ho2.mono hsz, N2.out, hm2, hbw⟩

theorem cmp_nf {p q : Option Addr} {n m c d : Nat} {xs ys : List Nat} {a b : Nat} {w : World} (h : Num w p n c xs a) (k : Num w q m d ys b) :
    Calls Try.prog 47 #[.slice p n c, .slice q m d] w fun e w' => e = .returned (.int .i64 (cmpN a b)) ∧ Below w.heap.size w w' := by
  have := cmp_w h.at_ k.at_
  rw [h.nf.val, k.nf.val] at this; exact this

structure SettleTo (B : Nat) (s r : Nat) (v1 v2 : Value) (w w' : World) : Prop where
  ap : Ap2 v1 v2
  v1 : ∃ p m zs, v1 = .slice p m m ∧ Own B w' p m zs ∧ Nf B64 zs s ∧ m ≤ 8192
  v2 : ∃ p m zs, v2 = .slice p m m ∧ Own B w' p m zs ∧ Nf B64 zs r ∧ m ≤ 8192
  bel : Below w.heap.size w w'

theorem sub_ok {p q : Option Addr} {n m c d : Nat} {xs ys : List Nat} {a b : Nat} {w : World} (h : Num w p n c xs a) (k : Num w q m d ys b) (hle : b ≤ a) :
    Calls Try.prog 48 #[.slice p n c, .slice q m d] w fun e w' => (∃ p m zs, e = .returned (.tuple #[.slice p m m, .int .i64 0]) ∧ Own w.heap.size w' p m zs ∧ Nf B64 zs (a - b) ∧ m ≤ 8192) ∧ Below w.heap.size w w' := by
  refine (sub_nf h.at_ k.at_ h.nf k.nf h.le k.le).mono ?_
  rintro e w' ⟨h1 | h1, hb⟩
  · exact ⟨h1.2, hb⟩
  · exact absurd h1.1 (by omega)

theorem settle_any {p q r : Option Addr} {n m l : Nat} {xs ys zs : List Nat} {R Lft D B : Nat} {w : World} (h0 : Own B w p n xs) (hB : B ≤ w.heap.size) (h : Num w p n n xs R) (k : Num w q m m ys Lft) (t : Num w r l l zs D) (hD : D * D < LIM) (hR : 2 * R < LIM) (hL : Lft + 2 * R < LIM) (hlow : Lft < D * D → 1 ≤ R ∧ D * D ≤ Lft + 2 * R - 1) :
    Calls Try.prog 39 #[.slice p n n, .slice q m m, .slice r l l] w fun e w' => ∃ v1 v2, e = .returned (.tuple #[v1, v2]) ∧
      SettleTo B (if Lft < D * D then R - 1 else R) (if Lft < D * D then Lft + 2 * R - 1 - D * D else Lft - D * D) v1 v2 w w' := by
  obtain ⟨S, hS⟩ : ∃ S, S = if Lft < D * D then R - 1 else R := ⟨_, rfl⟩
  obtain ⟨T, hT⟩ : ∃ T, T = if Lft < D * D then Lft + 2 * R - 1 - D * D else Lft - D * D := ⟨_, rfl⟩
  rw [← hS, ← hT]
  have HS : Hid (S = if Lft < D * D then R - 1 else R) := hS
  have HT : Hid (T = if Lft < D * D then Lft + 2 * R - 1 - D * D else Lft - D * D) := hT
  have HO : Hid (Own B w p n xs) := h0
  have H : Hid (Num w p n n xs R) := h
  have K : Hid (Num w q m m ys Lft) := k
  have TT : Hid (Num w r l l zs D) := t
  have LD : Hid (D * D < LIM) := hD
  have LR : Hid (2 * R < LIM) := hR
  have LL : Hid (Lft + 2 * R < LIM) := hL
  have HLOW : Hid (Lft < D * D → 1 ≤ R ∧ D * D ≤ Lft + 2 * R - 1) := hlow
  have hBs := hB
  clear hS hT h0 h k t hD hR hL hlow
  go_enter Try.func39, Try.ntmps39
  go_wp2_with fail
  refine (sqr_any TT.out.at_ TT.out.nf TT.out.le).mono ?_
  rintro e v1 ⟨ha1, hb1⟩
  obtain ⟨r1, t1, y1, rfl, ho1, hn1, hm1⟩ := ha1.ok LD.out
  have SQ : Hid (Num v1 r1 t1 t1 y1 (D * D)) := Num.of ho1 hn1 hm1
  clear ha1 ho1 hn1
  have hBsy : B ≤ v1.heap.size := Nat.le_trans hBs hb1.size
  clear hBs
  have hBs := hBsy
  clear hBsy
  replace HO : Hid (Own B v1 p n xs) := HO.out.below hb1
  replace H : Hid _ := H.out.below hb1
  replace K : Hid _ := K.out.below hb1
  have hbw := hb1
  clear hb1
  clear TT
  go_wp2_with fail
  refine (cmp_nf K.out SQ.out).mono ?_
  rintro e v2 ⟨rfl, hb2⟩
  have hBsy : B ≤ v2.heap.size := Nat.le_trans hBs hb2.size
  clear hBs
  have hBs := hBsy
  clear hBsy
  replace HO : Hid (Own B v2 p n xs) := HO.out.below hb2
  replace H : Hid _ := H.out.below hb2
  replace K : Hid _ := K.out.below hb2
  replace SQ : Hid _ := SQ.out.below hb2
  have hbwy := Below.on hbw hb2
  clear hbw
  have hbw := hbwy
  clear hbwy
  clear hb2
  by_cases hlt : Lft < D * D
  · have hc : cmpN Lft (D * D) = -1 := cmpN_lt hlt
    rw [hc]
    have HL : Hid (1 ≤ R ∧ D * D ≤ Lft + 2 * R - 1) := HLOW.out hlt
    have ES : Hid (S = R - 1) := by have := HS.out; rw [if_pos hlt] at this; exact this
    have ET : Hid (T = Lft + 2 * R - 1 - D * D) := by have := HT.out; rw [if_pos hlt] at this; exact this
    clear hc hlt HS HT
    go_wp2_with fail
    rw [show Value.int IntKind.i64 1 = .int .i64 ((1 : Nat) : Int) from rfl]
    go_wp2_with fail
    refine (shl_nf H.out.at_ H.out.nf H.out.le 1 (by omega)).mono ?_
    rintro e v3 ⟨ha3, hb3⟩
    rw [Nat.pow_one] at ha3
    obtain ⟨r3, t3, y3, rfl, ho3, hn3, hm3⟩ := ha3.ok LR.out
    have TW : Hid (Num v3 r3 t3 t3 y3 (2 * R)) := Num.of ho3 hn3 hm3
    clear ha3 ho3 hn3
    have hBsy : B ≤ v3.heap.size := Nat.le_trans hBs hb3.size
    clear hBs
    have hBs := hBsy
    clear hBsy
    replace HO : Hid (Own B v3 p n xs) := HO.out.below hb3
    replace H : Hid _ := H.out.below hb3
    replace K : Hid _ := K.out.below hb3
    replace SQ : Hid _ := SQ.out.below hb3
    have hbwy := Below.on hbw hb3
    clear hbw
    have hbw := hbwy
    clear hbwy
    clear hb3
    go_wp2_with fail
    rw [show Value.int IntKind.u64 1 = U 1 from rfl]
    refine (word_any 1 v3 (by decide)).mono ?_
    rintro e v4 ⟨r4, t4, y4, rfl, ho4, hn4, hm4, hb4⟩
    have ONE : Hid (Num v4 r4 t4 t4 y4 1) := Num.of ho4 hn4 (by omega)
    clear ho4 hn4
    have hBsy : B ≤ v4.heap.size := Nat.le_trans hBs hb4.size
    clear hBs
    have hBs := hBsy
    clear hBsy
    replace HO : Hid (Own B v4 p n xs) := HO.out.below hb4
    replace H : Hid _ := H.out.below hb4
    replace K : Hid _ := K.out.below hb4
    replace SQ : Hid _ := SQ.out.below hb4
    replace TW : Hid _ := TW.out.below hb4
    have hbwy := Below.on hbw hb4
    clear hbw
    have hbw := hbwy
    clear hbwy
    clear hb4
    go_wp2_with fail
    refine (sub_ok H.out ONE.out HL.out.1).mono ?_
    rintro e v5 ⟨⟨r5, t5, y5, rfl, ho5, hn5, hm5⟩, hb5⟩
    have RM : Hid (Num v5 r5 t5 t5 y5 (R - 1)) := Num.of ho5 hn5 hm5
    have RMo : Hid (Own B v5 r5 t5 y5) := ho5.mono hBs
    clear ho5 hn5
    have hBsy : B ≤ v5.heap.size := Nat.le_trans hBs hb5.size
    clear hBs
    have hBs := hBsy
    clear hBsy
    replace HO : Hid (Own B v5 p n xs) := HO.out.below hb5
    replace H : Hid _ := H.out.below hb5
    replace K : Hid _ := K.out.below hb5
    replace SQ : Hid _ := SQ.out.below hb5
    replace TW : Hid _ := TW.out.below hb5
    replace ONE : Hid _ := ONE.out.below hb5
    have hbwy := Below.on hbw hb5
    clear hbw
    have hbw := hbwy
    clear hbwy
    clear hb5
    clear ONE
    clear H
    clear HO
    go_wp2_with fail
    refine (add_ord K.out.at_ TW.out.at_ K.out.nf TW.out.nf K.out.le TW.out.le).mono ?_
    rintro e v6 ⟨ha6, hb6⟩
    obtain ⟨r6, t6, y6, rfl, ho6, hn6, hm6⟩ := ha6.ok LL.out
    have LT : Hid (Num v6 r6 t6 t6 y6 (Lft + 2 * R)) := Num.of ho6 hn6 hm6
    clear ha6 ho6 hn6
    have hBsy : B ≤ v6.heap.size := Nat.le_trans hBs hb6.size
    clear hBs
    have hBs := hBsy
    clear hBsy
    replace K : Hid _ := K.out.below hb6
    replace SQ : Hid _ := SQ.out.below hb6
    replace TW : Hid _ := TW.out.below hb6
    replace RM : Hid _ := RM.out.below hb6
    replace RMo : Hid (Own B v6 r5 t5 y5) := RMo.out.below hb6
    have hbwy := Below.on hbw hb6
    clear hbw
    have hbw := hbwy
    clear hbwy
    clear hb6
    clear K
    clear TW
    go_wp2_with fail
    rw [show Value.int IntKind.u64 1 = U 1 from rfl]
    refine (word_any 1 v6 (by decide)).mono ?_
    rintro e v7 ⟨r7, t7, y7, rfl, ho7, hn7, hm7, hb7⟩
    have ONE : Hid (Num v7 r7 t7 t7 y7 1) := Num.of ho7 hn7 (by omega)
    clear ho7 hn7
    have hBsy : B ≤ v7.heap.size := Nat.le_trans hBs hb7.size
    clear hBs
    have hBs := hBsy
    clear hBsy
    replace SQ : Hid _ := SQ.out.below hb7
    replace RM : Hid _ := RM.out.below hb7
    replace RMo : Hid (Own B v7 r5 t5 y5) := RMo.out.below hb7
    replace LT : Hid _ := LT.out.below hb7
    have hbwy := Below.on hbw hb7
    clear hbw
    have hbw := hbwy
    clear hbwy
    clear hb7
    go_wp2_with fail
    refine (sub_ok LT.out ONE.out (by have := HL.out.1; omega)).mono ?_
    rintro e v8 ⟨⟨r8, t8, y8, rfl, ho8, hn8, hm8⟩, hb8⟩
    have LM : Hid (Num v8 r8 t8 t8 y8 (Lft + 2 * R - 1)) := Num.of ho8 hn8 hm8
    clear ho8 hn8
    have hBsy : B ≤ v8.heap.size := Nat.le_trans hBs hb8.size
    clear hBs
    have hBs := hBsy
    clear hBsy
    replace SQ : Hid _ := SQ.out.below hb8
    replace RM : Hid _ := RM.out.below hb8
    replace RMo : Hid (Own B v8 r5 t5 y5) := RMo.out.below hb8
    replace LT : Hid _ := LT.out.below hb8
    replace ONE : Hid _ := ONE.out.below hb8
    have hbwy := Below.on hbw hb8
    clear hbw
    have hbw := hbwy
    clear hbwy
    clear hb8
    clear ONE
    clear LT
    go_wp2_with fail
    refine (sub_ok LM.out SQ.out HL.out.2).mono ?_
    rintro e v9 ⟨⟨r9, t9, y9, rfl, ho9, hn9, hm9⟩, hb9⟩
    have RE : Hid (Num v9 r9 t9 t9 y9 (Lft + 2 * R - 1 - D * D)) := Num.of ho9 hn9 hm9
    have REo : Hid (Own B v9 r9 t9 y9) := ho9.mono hBs
    have HAP : Hid (Ap2 (.slice r5 t5 t5) (.slice r9 t9 t9)) := ap_own RMo.out ho9
    clear ho9 hn9
    have hBsy : B ≤ v9.heap.size := Nat.le_trans hBs hb9.size
    clear hBs
    have hBs := hBsy
    clear hBsy
    replace SQ : Hid _ := SQ.out.below hb9
    replace RM : Hid _ := RM.out.below hb9
    replace RMo : Hid (Own B v9 r5 t5 y5) := RMo.out.below hb9
    replace LM : Hid _ := LM.out.below hb9
    have hbwy := Below.on hbw hb9
    clear hbw
    have hbw := hbwy
    clear hbwy
    clear hb9
    clear LM
    clear SQ
    go_wp2_with fail
    go_ret2
    refine ⟨_, _, rfl, HAP.out, ⟨_, _, _, rfl, RMo.out, ?_, RM.out.le⟩, ⟨_, _, _, rfl, REo.out, ?_, RE.out.le⟩, hbw⟩
    · rw [ES.out]; exact RM.out.nf
    · rw [ET.out]; exact RE.out.nf
  · have ES : Hid (S = R) := by have := HS.out; rw [if_neg hlt] at this; exact this
    have ET : Hid (T = Lft - D * D) := by have := HT.out; rw [if_neg hlt] at this; exact this
    have HGE : Hid (D * D ≤ Lft) := by show _ ≤ _; omega
    obtain ⟨cc, hcc⟩ : ∃ cc, cc = cmpN Lft (D * D) := ⟨_, rfl⟩
    have hcn : decide (cc < 0) = false := decide_eq_false (by rw [hcc, cmpN_neg]; exact hlt)
    rw [← hcc]
    clear hcc hlt HS HT
    go_wp2_with fail
    refine (sub_ok K.out SQ.out HGE.out).mono ?_
    rintro e v3 ⟨⟨r3, t3, y3, rfl, ho3, hn3, hm3⟩, hb3⟩
    have RE : Hid (Num v3 r3 t3 t3 y3 (Lft - D * D)) := Num.of ho3 hn3 hm3
    have REo : Hid (Own B v3 r3 t3 y3) := ho3.mono hBs
    have HAP : Hid (Ap2 (.slice p n n) (.slice r3 t3 t3)) := ap_own HO.out ho3
    clear ho3 hn3
    have hBsy : B ≤ v3.heap.size := Nat.le_trans hBs hb3.size
    clear hBs
    have hBs := hBsy
    clear hBsy
    replace HO : Hid (Own B v3 p n xs) := HO.out.below hb3
    replace H : Hid _ := H.out.below hb3
    replace K : Hid _ := K.out.below hb3
    replace SQ : Hid _ := SQ.out.below hb3
    have hbwy := Below.on hbw hb3
    clear hbw
    have hbw := hbwy
    clear hbwy
    clear hb3
    clear K
    clear SQ
    go_wp2_with fail
    go_ret2
    refine ⟨_, _, rfl, HAP.out, ⟨_, _, _, rfl, HO.out, ?_, H.out.le⟩, ⟨_, _, _, rfl, REo.out, ?_, RE.out.le⟩, hbw⟩
    · rw [ES.out]; exact H.out.nf
    · rw [ET.out]; exact RE.out.nf
theorem wordroot_nil (p : Option Addr) (c : Nat) (w : World) :
    Calls Try.prog 33 #[.slice p 0 c] w fun e w' => e = .returned (.tuple #[.slice none 0 0, .slice none 0 0]) ∧ w' = w := by
  go_enter Try.func33, Try.ntmps33
  go_wp2_with fail
  go_ret2
  exact ⟨rfl, rfl⟩
theorem rootto_zero (w : World) : RootTo w 0 (.slice none 0 0) (.slice none 0 0) w :=
  ⟨⟨0, none, 0, [], none, 0, [], by omega, by omega, rfl, ⟨rfl, Dig.nil _, .inl rfl⟩, Nf.nil _, by omega, rfl, ⟨rfl, Dig.nil _, .inl rfl⟩, Nf.nil _, by omega⟩, Below.refl _ _, ap_nil⟩
theorem wrap_two (k : Nat) (h : k ≤ 1000000) : IntKind.i64.wrap ((2 : Int) * (k : Int)) = ((2 * k : Nat) : Int) := by
  have : ((2 : Int) * (k : Int)) = ((2 * k : Nat) : Int) := by simp
  rw [this]
  simp [IntKind.wrap, IntKind.signed, IntKind.bits]
  omega

theorem rootof_any : ∀ (N a : Nat), a ≤ N → ∀ {p : Option Addr} {n c : Nat} {xs : List Nat} {w : World}, At w p n c xs → Nf B64 xs a → n ≤ 8192 →
    Calls Try.prog 23 #[.slice p n c] w fun e w' => ∃ v1 v2, e = .returned (.tuple #[v1, v2]) ∧ RootTo w a v1 v2 w' := by
  intro N
  induction N with
  | zero =>
    intro a ha p n c xs w h hx hn
    obtain rfl : a = 0 := by omega
    have hn0 : n = 0 := by
      have := (hx.zero_iff B64_one).2 rfl
      rw [← h.len, this]; rfl
    subst hn0
    clear h hx
    go_enter Try.func23, Try.ntmps23
    go_wp2_with fail
    refine (wordroot_nil p c w).mono ?_
    rintro e w' ⟨rfl, hw⟩
    obtain rfl := hw.symm
    clear hw
    go_wp2_with fail
    go_ret2
    exact ⟨_, _, rfl, rootto_zero w⟩
  | succ N ih =>
    intro a ha p n c xs w h hx hn
    by_cases hn0 : n = 0
    · subst hn0
      have ha0 : a = 0 := (hx.zero_iff B64_one).1 (List.eq_nil_of_length_eq_zero h.len)
      have HA0 : Hid (a = 0) := ha0
      clear h hx ih ha ha0
      go_enter Try.func23, Try.ntmps23
      go_wp2_with fail
      refine (wordroot_nil p c w).mono ?_
      rintro e w' ⟨rfl, hw⟩
      obtain rfl := hw.symm
      clear hw
      go_wp2_with fail
      go_ret2
      rw [HA0.out]
      exact ⟨_, _, rfl, rootto_zero w⟩
    · obtain ⟨g, off, rfl, _⟩ := h.cells.resolve_left hn0
      by_cases hn1 : n = 1
      · subst hn1
        have e1 := hx.one h.len
        subst e1
        have ha0 : a ≠ 0 := hx.top a (by simp)
        clear ih ha hx
        go_enter Try.func23, Try.ntmps23
        go_wp2_with fail
        refine (wordroot_any h ha0).mono ?_
        rintro e w1 ⟨v1, v2, rfl, hR⟩
        have HR : Hid (RootTo w a v1 v2 w1) := hR
        clear hR
        go_wp2_with fail
        go_ret2
        exact ⟨_, _, rfl, HR.out⟩
      · have hbig := hx.big h.len (by omega)
        have h64 : 2 ^ 64 ≤ a := by
          refine Nat.le_trans ?_ hbig
          rw [show (2 : Nat) ^ 64 = B64 ^ 1 from rfl]
          exact Nat.pow_le_pow_right B64_pos (by omega)
        have hal : a < LIM := hx.lim.1 (by rw [h.len]; exact hn)
        obtain ⟨nb, hnb⟩ : ∃ nb, nb = bitsN a := ⟨_, rfl⟩
        have hnb65 : 65 ≤ nb := by
          rcases Nat.lt_or_ge nb 65 with e | e
          · have := (lt_pow_bits a 64).2 (by omega); omega
          · exact e
        have hnbt : nb ≤ 524288 := by rw [hnb, ← lim_bits]; exact hal
        obtain ⟨k, hk⟩ : ∃ k, k = nb / 4 := ⟨_, rfl⟩
        have hkb : k ≤ 131072 := by omega
        have hup : a / 2 ^ (2 * k) ≤ N := by
          have : a / 2 ^ (2 * k) < a := Nat.div_lt_self (by omega) (Nat.one_lt_two_pow (by omega))
          omega
        have HUP : Hid (a / 2 ^ (2 * k) ≤ N) := hup
        have HAL : Hid (a < LIM) := hal
        have HNB : Hid (nb = bitsN a) := hnb
        have HKE : Hid (k = nb / 4) := hk
        have HIH : Hid (∀ a, a ≤ N → ∀ {p : Option Addr} {n c : Nat} {xs : List Nat} {w : World}, At w p n c xs → Nf B64 xs a → n ≤ 8192 → Calls Try.prog 23 #[.slice p n c] w fun e w' => ∃ v1 v2, e = .returned (.tuple #[v1, v2]) ∧ RootTo w a v1 v2 w') := ih
        have hkt : (nb : Int).tdiv 4 = (k : Int) := by rw [Int.tdiv_eq_ediv_of_nonneg (by omega)]; omega
        have hw2 : IntKind.i64.wrap ((2 : Int) * (k : Int)) = ((2 * k : Nat) : Int) := wrap_two k (by omega)
        have A : Hid (Num w (some ⟨g, off, none⟩) n c xs a) := ⟨h, hx, hn⟩
        have hBs : w.heap.size ≤ w.heap.size := Nat.le_refl _
        have hn2 : decide ((n : Int) < 2) = false := decide_eq_false (by omega)
        clear h hx hbig h64 hal hnb hk hup ih ha
        go_enter Try.func23, Try.ntmps23
        go_wp2_with fail
        refine (bits_any A.out.at_ (by omega)).mono ?_
        rintro e w' ⟨rfl, hw⟩
        obtain rfl := hw.symm
        clear hw
        rw [A.out.nf.val, ← HNB.out]
        go_wp2_with fail
        rw [show ((2 : Int) * (k : Int)) = ((2 * k : Nat) : Int) by omega]
        go_wp2_with fail
        refine (shr_nf A.out.at_ A.out.nf A.out.le (2 * k) (by omega)).mono ?_
        rintro e v1 ⟨⟨r1, t1, y1, rfl, ho1, hn1, hm1⟩, hb1⟩
        have UP : Hid (Num v1 r1 t1 t1 y1 (a / 2 ^ (2 * k))) := Num.of ho1 hn1 hm1
        clear ho1 hn1
        have hBsy : w.heap.size ≤ v1.heap.size := Nat.le_trans hBs hb1.size
        clear hBs
        have hBs := hBsy
        clear hBsy
        replace A : Hid _ := A.out.below hb1
        have hbw := hb1
        clear hb1
        go_wp2_with fail
        refine (HIH.out _ HUP.out UP.out.at_ UP.out.nf UP.out.le).mono ?_
        rintro e v2 ⟨u1, u2, rfl, hR2⟩
        obtain ⟨hf, ph, mh, zh, pl, ml, zl, hh1, hh2, rfl, oh, nh, lh, rfl, ol, nl, ll⟩ := hR2.val
        have hb2 := hR2.bel
        have HF : Hid (Num v2 ph mh mh zh hf) := Num.of oh nh lh
        have LE : Hid (Num v2 pl ml ml zl (a / 2 ^ (2 * k) - hf * hf)) := Num.of ol nl ll
        have HH : Hid (hf * hf ≤ a / 2 ^ (2 * k) ∧ a / 2 ^ (2 * k) ≤ hf * hf + 2 * hf) := ⟨hh1, hh2⟩
        clear hR2 hh1 hh2 oh nh ol nl
        clear UP
        have hBsy : w.heap.size ≤ v2.heap.size := Nat.le_trans hBs hb2.size
        clear hBs
        have hBs := hBsy
        clear hBsy
        replace A : Hid _ := A.out.below hb2
        have hbwy := Below.on hbw hb2
        clear hbw
        have hbw := hbwy
        clear hbwy
        clear hb2
        go_wp2_with fail
        rw [show ((2 : Int) * (k : Int)) = ((2 * k : Nat) : Int) by omega]
        go_wp2_with fail
        refine (low_nf A.out.at_ A.out.nf A.out.le (2 * k) (by omega)).mono ?_
        rintro e v3 ⟨⟨r3, t3, y3, rfl, ho3, hn3, hm3⟩, hb3⟩
        have LOW : Hid (Num v3 r3 t3 t3 y3 (a % 2 ^ (2 * k))) := Num.of ho3 hn3 hm3
        clear ho3 hn3
        have hBsy : w.heap.size ≤ v3.heap.size := Nat.le_trans hBs hb3.size
        clear hBs
        have hBs := hBsy
        clear hBsy
        replace A : Hid _ := A.out.below hb3
        replace HF : Hid _ := HF.out.below hb3
        replace LE : Hid _ := LE.out.below hb3
        have hbwy := Below.on hbw hb3
        clear hbw
        have hbw := hbwy
        clear hbwy
        clear hb3
        clear A
        go_wp2_with fail
        refine (shr_nf LOW.out.at_ LOW.out.nf LOW.out.le k (by omega)).mono ?_
        rintro e v4 ⟨⟨r4, t4, y4, rfl, ho4, hn4, hm4⟩, hb4⟩
        have NX : Hid (Num v4 r4 t4 t4 y4 (a % 2 ^ (2 * k) / 2 ^ k)) := Num.of ho4 hn4 hm4
        clear ho4 hn4
        have hBsy : w.heap.size ≤ v4.heap.size := Nat.le_trans hBs hb4.size
        clear hBs
        have hBs := hBsy
        clear hBsy
        replace HF : Hid _ := HF.out.below hb4
        replace LE : Hid _ := LE.out.below hb4
        replace LOW : Hid _ := LOW.out.below hb4
        have hbwy := Below.on hbw hb4
        clear hbw
        have hbw := hbwy
        clear hbwy
        clear hb4
        go_wp2_with fail
        refine (low_nf LOW.out.at_ LOW.out.nf LOW.out.le k (by omega)).mono ?_
        rintro e v5 ⟨⟨r5, t5, y5, rfl, ho5, hn5, hm5⟩, hb5⟩
        have LA : Hid (Num v5 r5 t5 t5 y5 (a % 2 ^ (2 * k) % 2 ^ k)) := Num.of ho5 hn5 hm5
        clear ho5 hn5
        have hBsy : w.heap.size ≤ v5.heap.size := Nat.le_trans hBs hb5.size
        clear hBs
        have hBs := hBsy
        clear hBsy
        replace HF : Hid _ := HF.out.below hb5
        replace LE : Hid _ := LE.out.below hb5
        replace LOW : Hid _ := LOW.out.below hb5
        replace NX : Hid _ := NX.out.below hb5
        have hbwy := Below.on hbw hb5
        clear hbw
        have hbw := hbwy
        clear hbwy
        clear hb5
        clear LOW
        obtain ⟨l, hl⟩ : ∃ l, l = a / 2 ^ (2 * k) - hf * hf := ⟨_, rfl⟩
        obtain ⟨nx, hnx⟩ : ∃ nx, nx = a % 2 ^ (2 * k) / 2 ^ k := ⟨_, rfl⟩
        obtain ⟨la, hla⟩ : ∃ la, la = a % 2 ^ (2 * k) % 2 ^ k := ⟨_, rfl⟩
        rw [← hl] at LE
        rw [← hnx] at NX
        rw [← hla] at LA
        have hhb := half_big HNB.out HKE.out hnb65 HH.out.2
        have hC : RootC a hf (2 ^ k) ((2 ^ k * l + nx) / (2 * hf)) ((2 ^ k * l + nx) % (2 * hf)) la := by
          have hs := split_low a k
          rw [← hnx, ← hla] at hs
          refine root_core (l := l) (next := nx) ?_ ?_ ?_ ?_ ?_ ?_ hhb.1 hhb.2
          · have h1 := HH.out.1
            have h2 : hf * hf + l = a / 2 ^ (2 * k) := by omega
            rw [h2]; exact hs
          · have := HH.out; omega
          · rw [hnx]; refine Nat.div_lt_of_lt_mul ?_
            rw [← Nat.pow_add, show k + k = 2 * k by omega]; exact Nat.mod_lt _ (Nat.two_pow_pos _)
          · rw [hla]; exact Nat.mod_lt _ (Nat.two_pow_pos _)
          · have h9 := Nat.div_add_mod (2 ^ k * l + nx) (2 * hf)
            rw [Nat.mul_comm (2 * hf) ((2 ^ k * l + nx) / (2 * hf))] at h9
            exact h9.symm
          · exact Nat.mod_lt _ (by omega)
        have hX : 2 ^ k * l + nx < LIM := by
          have h1 := Nat.div_add_mod (2 ^ k * l + nx) (2 * hf)
          have h2 := Nat.mod_lt (2 ^ k * l + nx) (show 2 * hf > 0 by omega)
          have h3 := hC.le; have h4 := HAL.out; have h5 := hC.dP
          have h6 : 2 * hf * ((2 ^ k * l + nx) / (2 * hf)) ≤ 2 * hf * 2 ^ k := Nat.mul_le_mul_left _ h5
          have h7 : 2 * hf * 2 ^ k = 2 * (2 ^ k * hf) := by rw [Nat.mul_assoc, Nat.mul_comm hf]
          generalize 2 * hf * ((2 ^ k * l + nx) / (2 * hf)) = Y at *
          omega
        have HX : Hid (2 ^ k * l + nx < LIM) := hX
        have H2 : Hid (2 * hf < LIM) := by have := hC.le; have := HAL.out; show _ < _; omega
        have HF0 : Hid (2 * hf ≠ 0) := by have := hhb.2; show _ ≠ _; omega
        clear hX
        obtain ⟨X, eX⟩ : ∃ X, X = 2 ^ k * l + nx := ⟨_, rfl⟩
        obtain ⟨D, eD⟩ : ∃ D, D = (2 ^ k * l + nx) / (2 * hf) := ⟨_, rfl⟩
        obtain ⟨O, eO⟩ : ∃ O, O = (2 ^ k * l + nx) % (2 * hf) := ⟨_, rfl⟩
        rw [← eD, ← eO] at hC
        have ED : Hid (D = (2 ^ k * l + nx) / (2 * hf)) := eD
        have EO : Hid (O = (2 ^ k * l + nx) % (2 * hf)) := eO
        have HC : Hid (RootC a hf (2 ^ k) D O la) := hC
        have hlm := HAL.out
        have hle := hC.le; have hdp := hC.dP; have hlf := hC.lf; have hdd := hC.dd
        have L1 : Hid (2 ^ k * hf + D < LIM) := by show _ < _; omega
        have L2 : Hid (2 ^ k * O + la < LIM) := by show _ < _; omega
        have L3 : Hid (D * D < LIM) := by show _ < _; omega
        have L4 : Hid (2 * (2 ^ k * hf + D) < LIM) := by show _ < _; omega
        have L5 : Hid (2 ^ k * O + la + 2 * (2 ^ k * hf + D) < LIM) := by show _ < _; omega
        have FIN := hC.fin
        have F1 : Hid (2 ^ k * O + la < D * D → 1 ≤ 2 ^ k * hf + D ∧ D * D ≤ 2 ^ k * O + la + 2 * (2 ^ k * hf + D) - 1) := FIN.1
        have F2 : Hid ((if 2 ^ k * O + la < D * D then 2 ^ k * hf + D - 1 else 2 ^ k * hf + D) * (if 2 ^ k * O + la < D * D then 2 ^ k * hf + D - 1 else 2 ^ k * hf + D) ≤ a ∧
          a ≤ (if 2 ^ k * O + la < D * D then 2 ^ k * hf + D - 1 else 2 ^ k * hf + D) * (if 2 ^ k * O + la < D * D then 2 ^ k * hf + D - 1 else 2 ^ k * hf + D) + 2 * (if 2 ^ k * O + la < D * D then 2 ^ k * hf + D - 1 else 2 ^ k * hf + D) ∧
          (if 2 ^ k * O + la < D * D then 2 ^ k * O + la + 2 * (2 ^ k * hf + D) - 1 - D * D else 2 ^ k * O + la - D * D) = a - (if 2 ^ k * O + la < D * D then 2 ^ k * hf + D - 1 else 2 ^ k * hf + D) * (if 2 ^ k * O + la < D * D then 2 ^ k * hf + D - 1 else 2 ^ k * hf + D)) := FIN.2
        clear FIN hC hlm hle hdp hlf hdd hhb eD eO eX hl hnx hla
        go_wp2_with fail
        rw [show Value.int IntKind.i64 1 = .int .i64 ((1 : Nat) : Int) from rfl]
        go_wp2_with fail
        refine (shl_nf HF.out.at_ HF.out.nf HF.out.le 1 (by omega)).mono ?_
        rintro e v6 ⟨ha6, hb6⟩
        rw [Nat.pow_one] at ha6
        obtain ⟨r6, t6, y6, rfl, ho6, hn6, hm6⟩ := ha6.ok H2.out
        have TW : Hid (Num v6 r6 t6 t6 y6 (2 * hf)) := Num.of ho6 hn6 hm6
        clear ha6 ho6 hn6
        have hBsy : w.heap.size ≤ v6.heap.size := Nat.le_trans hBs hb6.size
        clear hBs
        have hBs := hBsy
        clear hBsy
        replace HF : Hid _ := HF.out.below hb6
        replace LE : Hid _ := LE.out.below hb6
        replace NX : Hid _ := NX.out.below hb6
        replace LA : Hid _ := LA.out.below hb6
        have hbwy := Below.on hbw hb6
        clear hbw
        have hbw := hbwy
        clear hbwy
        clear hb6
        go_wp2_with fail
        refine (join_any LE.out NX.out k (by omega) HX.out).mono ?_
        rintro e v7 ⟨r7, t7, y7, rfl, ho7, hn7, hm7, hb7⟩
        have JX : Hid (Num v7 r7 t7 t7 y7 (2 ^ k * l + nx)) := Num.of ho7 hn7 hm7
        clear ho7 hn7
        have hBsy : w.heap.size ≤ v7.heap.size := Nat.le_trans hBs hb7.size
        clear hBs
        have hBs := hBsy
        clear hBsy
        replace HF : Hid _ := HF.out.below hb7
        replace LE : Hid _ := LE.out.below hb7
        replace NX : Hid _ := NX.out.below hb7
        replace LA : Hid _ := LA.out.below hb7
        replace TW : Hid _ := TW.out.below hb7
        have hbwy := Below.on hbw hb7
        clear hbw
        have hbw := hbwy
        clear hbwy
        clear hb7
        clear LE
        clear NX
        go_wp2_with fail
        refine (quorem_any JX.out.at_ TW.out.at_ JX.out.nf TW.out.nf JX.out.le TW.out.le HF0.out).mono ?_
        rintro e v8 ⟨x1, x2, rfl, hD8⟩
        obtain ⟨pd, md, zd, rfl, od, nd, ld⟩ := hD8.quo
        obtain ⟨po, mo, zo, rfl, oo, no, lo⟩ := hD8.rem
        have hb8 := hD8.bel
        rw [← ED.out] at nd
        rw [← EO.out] at no
        have DG : Hid (Num v8 pd md md zd D) := Num.of od nd ld
        have OV : Hid (Num v8 po mo mo zo O) := Num.of oo no lo
        clear hD8 od nd oo no
        clear JX
        clear TW
        have hBsy : w.heap.size ≤ v8.heap.size := Nat.le_trans hBs hb8.size
        clear hBs
        have hBs := hBsy
        clear hBsy
        replace HF : Hid _ := HF.out.below hb8
        replace LA : Hid _ := LA.out.below hb8
        have hbwy := Below.on hbw hb8
        clear hbw
        have hbw := hbwy
        clear hbwy
        clear hb8
        go_wp2_with fail
        refine (join_any HF.out DG.out k (by omega) L1.out).mono ?_
        rintro e v9 ⟨r9, t9, y9, rfl, ho9, hn9, hm9, hb9⟩
        have RT : Hid (Num v9 r9 t9 t9 y9 (2 ^ k * hf + D)) := Num.of ho9 hn9 hm9
        have RTo : Hid (Own w.heap.size v9 r9 t9 y9) := ho9.mono hBs
        clear ho9 hn9
        have hBsy : w.heap.size ≤ v9.heap.size := Nat.le_trans hBs hb9.size
        clear hBs
        have hBs := hBsy
        clear hBsy
        replace HF : Hid _ := HF.out.below hb9
        replace LA : Hid _ := LA.out.below hb9
        replace DG : Hid _ := DG.out.below hb9
        replace OV : Hid _ := OV.out.below hb9
        have hbwy := Below.on hbw hb9
        clear hbw
        have hbw := hbwy
        clear hbwy
        clear hb9
        clear HF
        go_wp2_with fail
        refine (join_any OV.out LA.out k (by omega) L2.out).mono ?_
        rintro e v10 ⟨r10, t10, y10, rfl, ho10, hn10, hm10, hb10⟩
        have LF : Hid (Num v10 r10 t10 t10 y10 (2 ^ k * O + la)) := Num.of ho10 hn10 hm10
        clear ho10 hn10
        have hBsy : w.heap.size ≤ v10.heap.size := Nat.le_trans hBs hb10.size
        clear hBs
        have hBs := hBsy
        clear hBsy
        replace LA : Hid _ := LA.out.below hb10
        replace DG : Hid _ := DG.out.below hb10
        replace OV : Hid _ := OV.out.below hb10
        replace RT : Hid _ := RT.out.below hb10
        replace RTo : Hid (Own w.heap.size v10 r9 t9 y9) := RTo.out.below hb10
        have hbwy := Below.on hbw hb10
        clear hbw
        have hbw := hbwy
        clear hbwy
        clear hb10
        clear OV
        clear LA
        go_wp2_with fail
        refine (settle_any RTo.out hBs RT.out LF.out DG.out L3.out L4.out L5.out F1.out).mono ?_
        rintro e v11 ⟨x1, x2, rfl, hS⟩
        obtain ⟨q1, l1, s1, rfl, o1, n1, g1⟩ := hS.v1
        obtain ⟨q2, l2, s2, rfl, o2, n2, g2⟩ := hS.v2
        have hbz := Below.on hbw hS.bel
        have N1 : Hid (Nf B64 s1 (if 2 ^ k * O + la < D * D then 2 ^ k * hf + D - 1 else 2 ^ k * hf + D)) := n1
        have N2 : Hid (Nf B64 s2 (if 2 ^ k * O + la < D * D then 2 ^ k * O + la + 2 * (2 ^ k * hf + D) - 1 - D * D else 2 ^ k * O + la - D * D)) := n2
        have HAP : Hid (Ap2 (.slice q1 l1 l1) (.slice q2 l2 l2)) := hS.ap
        clear n1 n2 hS hbw RT RTo LF DG hBs
        go_wp2_with fail
        go_ret2
        refine ⟨_, _, rfl, ⟨_, q1, l1, s1, q2, l2, s2, F2.out.1, F2.out.2.1, rfl, o1, N1.out, g1, rfl, o2, ?_, g2⟩, hbz, HAP.out⟩
        rw [← F2.out.2.2]; exact N2.out
theorem twin3_any {p : Option Addr} {n c : Nat} {xs : List Nat} {w : World} (h : At w p n c xs) (hn : n ≤ 35184372088832) :
    Calls Try.prog 10 #[.slice p n c] w fun e w' =>
      ∃ g, e = .returned (.slice (some ⟨g, 0, none⟩) n n) ∧ w.heap.size ≤ g ∧ Blk w' g xs ∧ Below w.heap.size w w' := by
  obtain ⟨i0, hi, hz0, hz1, hz2⟩ := info_parts Try.infoU64
  have hl := h.len
  go_enter Try.func10, Try.ntmps10
  go_wp2_with (first
    | (at_make; refine wpList_make_full _ rfl _ _ 22 rfl w.heap.size 34 i0 (.int .u64 0) 1 Try.underlying22 hi hz0 hz1 _ _ _ _ n rfl rfl (by omega) (by omega) (by rw [hz2]; omega) (by unfold maxLen; omega) (Nat.le_refl _) ?_; intro w1 hown hgrow; have hb := made_blk hown hgrow; clear hown hgrow)
    | (refine wpList_copy_splice rfl (.tmp 7) (.tmp 8) 22 22 rfl 34 Try.underlying22 Try.sizeU64 (some ⟨w.heap.size, 0, none⟩) p n n n c rfl rfl w.heap.size 0 (cellsU (List.replicate n 0)) 34 hb.1 (cellsU xs) (by rw [cellsU_length, hl]; exact (Nat.min_self n).symm) (fun h0 => ⟨rfl, (h.below hb.2).src (by rw [cellsU_length] at h0; omega)⟩) (by simp [cellsU_length]; omega) (cellsU_one xs) w.heap.size w hb.2 (Nat.le_refl _) ?_; intro w2 hg2 hb2))
  go_ret
  refine ⟨_, rfl, Nat.le_refl _, ?_, hb2⟩
  rw [splice_cellsU, hl, Nat.sub_self, List.replicate_zero, List.append_nil] at hg2
  exact hg2
theorem root_any {p : Option Addr} {n c : Nat} {xs : List Nat} {a : Nat} {w : World} (h : Num w p n c xs a) :
    Calls Try.prog 8 #[.slice p n c] w fun e w' => ∃ v1 v2, e = .returned (.tuple #[v1, v2, .int .i64 0]) ∧ RootTo w a v1 v2 w' := by
  have fx := h.nf.form (by rw [h.at_.len]; exact h.le)
  have H : Hid (Num w p n c xs a) := h
  clear h
  go_enter Try.func8, Try.ntmps8
  go_wp2_with fail
  refine (form_true H.out.at_ fx).mono ?_
  rintro e w' ⟨rfl, hw⟩
  obtain rfl := hw.symm
  clear hw fx
  go_wp2_with fail
  refine (rootof_any a a (Nat.le_refl _) H.out.at_ H.out.nf H.out.le).mono ?_
  rintro e w1 ⟨v1, v2, rfl, hR⟩
  have HR : Hid (RootTo w a v1 v2 w1) := hR
  clear hR
  go_wp2_with fail
  go_ret3
  exact ⟨_, _, rfl, HR.out⟩
theorem own_one {B : Nat} {w : World} {p : Option Addr} {m : Nat} {zs : List Nat} {x : Nat} (ho : Own B w p m zs) (hn : Nf B64 zs x) (hx : x < B64) (h0 : x ≠ 0) : m = 1 ∧ ∃ g, p = some ⟨g, 0, none⟩ ∧ w.cell? ⟨g, 0, none⟩ = some (U x) ∧ g < w.heap.size := by
  obtain rfl : zs = [x] := hn.inj B64_one (nf_one hx h0)
  have hm : m = 1 := by rw [← ho.len]; rfl
  refine ⟨hm, ?_⟩
  obtain ⟨g, hp, _, hr⟩ := ho.mem.resolve_left (by omega)
  exact ⟨g, hp, hr.cell 0 (by omega), hr.lt (by omega)⟩
theorem root7 {s : Nat} (h1 : s * s ≤ 7) (h2 : 7 ≤ s * s + 2 * s) : s = 2 := by
  have h3 : s < 3 := by
    rcases Nat.lt_or_ge s 3 with e | e
    · exact e
    · have : 3 * 3 ≤ s * s := Nat.mul_le_mul e e
      omega
  match s, h3 with
  | 0, _ => simp at h2
  | 1, _ => simp at h2
  | 2, _ => rfl

theorem awake3_any (w : World) : Calls Try.prog 4 #[] w fun e w' => e = .returned (.bool true) ∧ Below w.heap.size w w' := by
  go_enter Try.func4, Try.ntmps4
  go_wp2_with fail
  refine (quorem_any ((lit_at w _ [7] 1 rfl rfl (dig1 (by decide)) (by omega)).alloc _) (lit_at1 w _ _ [3] 1 rfl rfl (dig1 (by decide)) (by omega)) (nf_one (by decide) (by decide)) (nf_one (by decide) (by decide)) (by omega) (by omega) (by decide)).mono ?_
  rintro e w1 ⟨v1, v2, rfl, hD⟩
  obtain ⟨p1, m1, z1, rfl, o1, n1, _⟩ := hD.quo
  obtain ⟨p2, m2, z2, rfl, o2, n2, _⟩ := hD.rem
  obtain ⟨rfl, g1, rfl, c1, l1⟩ := own_one o1 n1 (by decide) (by decide)
  obtain ⟨rfl, g2, rfl, c2, l2⟩ := own_one o2 n2 (by decide) (by decide)
  have hb : Below w.heap.size w w1 := Below.on (below2 w _ _) hD.bel
  clear hD o1 n1 o2 n2
  go_wp2_with fail
  have A7 : Num (w1.alloc (.cells #[U 7] 34)) (some ⟨w1.heap.size, 0, none⟩) 1 1 [7] 7 := ⟨lit_at w1 _ [7] 1 rfl rfl (dig1 (by decide)) (by omega), nf_one (by decide) (by decide), by omega⟩
  refine (root_any A7).mono ?_
  rintro e w2 ⟨v1, v2, rfl, hR⟩
  obtain ⟨s, p3, m3, z3, p4, m4, z4, h1, h2, rfl, o3, n3, _, rfl, o4, n4, _⟩ := hR.val
  obtain rfl := root7 h1 h2
  obtain ⟨rfl, g3, rfl, c3, l3⟩ := own_one o3 n3 (by decide) (by decide)
  obtain ⟨rfl, g4, rfl, c4, l4⟩ := own_one o4 n4 (by decide) (by decide)
  have hb2 : Below w1.heap.size w1 w2 := Below.on (below1 w1 _) hR.bel
  have d1 : w2.cell? ⟨g1, 0, none⟩ = some (U (7 / 3)) := (hb2.cell (p := ⟨g1, 0, none⟩) l1).trans c1
  have d2 : w2.cell? ⟨g2, 0, none⟩ = some (U (7 % 3)) := (hb2.cell (p := ⟨g2, 0, none⟩) l2).trans c2
  have hbw := Below.on hb hb2
  clear hR o3 n3 o4 n4 hb hb2 c1 c2 h1 h2 A7
  go_wp2_with fail
  go_ret
  exact ⟨rfl, hbw⟩
end Go.Proofs.Ytjhopiaeppgioaa
