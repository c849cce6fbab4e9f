import Derived.BigQuiet
import Derived.Test.YtidggnjnlhjhlaaGreatDoorJ10
import Derived.Test.YtidggnjnlhjhlaaGreatDoorJ12
import Derived.Test.YtidggnjnlhjhlaaGreatDoorJ9
import Derived.Test.YtidggnjnlhjhlaaGreatDoorJ11
import Derived.Test.YtidggnjnlhjhlaaGreatDoorJ8
namespace Go.Proofs.YtidggnjnlhjhlaaGreatDoor
open Go.RowKit Go.Shelf
set_option maxRecDepth 20000
set_option maxHeartbeats 0
theorem shifted_any {p : Option Addr} {m c : Nat} {xs : List Nat} {a k : Nat} {w : World} (s : Bool) (h : Num w p m c xs a) (hs : s = true → 0 < a) (n : Nat) (hn : n ≤ 9223372036854775807) (hk : TzO a k) (hT : Tab w) :
    Calls Tryz.prog 112 #[ZV s p m c, .int .i64 n] w fun e w' => ∃ p' m' zs x hf, e = .returned (.tuple #[FR s p' m' m' x hf, .int .i64 0]) ∧ Own w.heap.size w' p' m' zs ∧ Nf B64 zs (a / 2 ^ n) ∧ m' ≤ 8192 ∧ x = decide (a % 2 ^ n ≠ 0) ∧ HfIs (a % 2 ^ n) (2 ^ n) hf ∧ Below w.heap.size w w' := by
  have H : Hid (Num w p m c xs a) := h
  have HW0 : Hid (Num w p m c xs a ∧ Tab w) := ⟨h, hT⟩
  have HS : Hid (s = true → 0 < a) := hs
  have HK : Hid (TzO a k) := hk
  have HT : Hid (Tab w) := hT
  have HN : Hid (n ≤ 9223372036854775807) := hn
  have c0 : decide ((n : Int) < 0) = false := decide_eq_false (by omega)
  clear h hs hk hT
  go_enter Tryz.func112, Tryz.ntmps112
  go_wp2_with fail
  have X0 : Box (w.alloc (.cells #[.bool s, .slice p m c] 36)) w.heap.size (.bool s) (.slice p m c) := ⟨by go_simp, by go_simp, by go_simp, by go_simp⟩
  have hb0 := below1 w (.cells #[.bool s, .slice p m c] 36)
  have hsz : (w.alloc (.cells #[.bool s, .slice p m c] 36)).heap.size = w.heap.size + 1 := by simp
  generalize w.alloc (.cells #[.bool s, .slice p m c] 36) = W1 at *
  have R0 := B4q.new W1 134 (.bool false) (.slice none 0 0) (.bool false) (.int .i64 0)
  have hb1 := below1 W1 (.cells #[.bool false, .slice none 0 0, .bool false, .int .i64 0] 134)
  generalize W1.alloc (.cells #[.bool false, .slice none 0 0, .bool false, .int .i64 0] 134) = W at *
  rw [hsz] at R0
  obtain ⟨g, hg⟩ : ∃ g, g = w.heap.size := ⟨_, rfl⟩
  obtain ⟨r, hr⟩ : ∃ r, r = g + 1 := ⟨_, rfl⟩
  have HGR : Hid (w.heap.size ≤ g ∧ w.heap.size ≤ r ∧ r ≠ g) := ⟨by omega, by omega, by omega⟩
  rw [← hg, ← hr] at R0 ⊢
  rw [← hg] at X0
  clear hg hr hsz
  have HBW : Hid (Below w.heap.size w W) := Below.on hb0 hb1
  have XR : Hid (Box W g (.bool s) (.slice p m c) ∧ B4q W r (.bool false) (.slice none 0 0) (.bool false) (.int .i64 0)) := ⟨X0.below hb1, R0⟩
  have H2 : Hid (Num W p m c xs a) := H.out.below HBW.out
  have HT2 : Hid (Tab W) := HT.out.below HBW.out
  clear hb0 hb1 X0 R0 H HT
  refine (numform_t s H2.out HS.out).mono ?_
  rintro e w3 ⟨rfl, hb3⟩
  have XR3 : Hid (Box w3 g (.bool s) (.slice p m c) ∧ B4q w3 r (.bool false) (.slice none 0 0) (.bool false) (.int .i64 0)) := ⟨XR.out.1.below hb3, XR.out.2.below hb3⟩
  have H3 : Hid (Num w3 p m c xs a) := H2.out.below hb3
  have HT3 : Hid (Tab w3) := HT2.out.below hb3
  have HB3 : Hid (Below w.heap.size w w3) := Below.on HBW.out hb3
  clear hb3 XR H2 HT2 HBW c0
  obtain ⟨⟨x0, x1, x2, x3⟩, ⟨r0, r1, r2, r3, r4, r5, r6, r7⟩⟩ := XR3.out
  go_wp2_with fail
  refine (shr_nf H3.out.at_ H3.out.nf H3.out.le n HN.out).mono ?_
  rintro e w4 ⟨⟨p4, m4, z4, rfl, hO4, hN4, hm4⟩, hb4⟩
  have XR4 : Hid (Box w4 g (.bool s) (.slice p m c) ∧ B4q w4 r (.bool false) (.slice none 0 0) (.bool false) (.int .i64 0)) := ⟨XR3.out.1.below hb4, XR3.out.2.below hb4⟩
  have H4 : Hid (Num w4 p m c xs a) := H3.out.below hb4
  have HT4 : Hid (Tab w4) := HT3.out.below hb4
  have HB4 : Hid (Below w.heap.size w w4) := Below.on HB3.out hb4
  have O4 : Hid (Own w.heap.size w4 p4 m4 z4) := hO4.mono HB3.out.size
  have N4 : Hid (Nf B64 z4 (a / 2 ^ n) ∧ m4 ≤ 8192) := ⟨hN4, hm4⟩
  have HP4 : Hid (∀ g2, p4 = some ⟨g2, 0, none⟩ → 0 < m4 → g2 ≠ r) := by
    intro g2 hp hm
    rcases hO4.mem with h0 | ⟨g3, hp3, hB3, hr3⟩
    · omega
    · rw [hp] at hp3
      simp only [Option.some.injEq, Addr.mk.injEq, and_true] at hp3
      have := XR3.out.2.lt
      omega
  clear hb4 hO4 hN4 hm4 XR3 H3 HT3 HB3 x0 x1 x2 x3 r0 r1 r2 r3 r4 r5 r6 r7
  obtain ⟨⟨x0, x1, x2, x3⟩, ⟨r0, r1, r2, r3, r4, r5, r6, r7⟩⟩ := XR4.out
  have hgl : g < w4.heap.size := World.block_lt_of_cell? _ _ XR4.out.1.c0
  have hrl : r < w4.heap.size := XR4.out.2.lt
  have hz := H4.out.zero
  by_cases hm0 : 0 < m
  · have ha0 : a ≠ 0 := fun e => by have := hz.2 e; omega
    have hmb : decide ((0 : Int) < (m : Int)) = true := decide_eq_true (by omega)
    have hmb' : decide (0 < m) = true := decide_eq_true hm0
    have HA0 : Hid (a ≠ 0) := ha0
    have hmp : (0 : Int) < (m : Int) := by omega
    obtain ⟨b1, hb1⟩ : ∃ b1, b1 = decide ((k : Int) < (n : Int)) := ⟨_, rfl⟩
    have HB1 : Hid (b1 = decide ((k : Int) < (n : Int))) := hb1
    clear hz ha0 hb1
    go_wp2_with fail
    have F5 := B4q.new w4 134 (.bool s) (.slice p4 m4 m4) (.bool false) (.int .i64 (-1))
    have hb5 := below1 w4 (.cells #[.bool s, .slice p4 m4 m4, .bool false, .int .i64 (-1)] 134)
    generalize w4.alloc (.cells #[.bool s, .slice p4 m4 m4, .bool false, .int .i64 (-1)] 134) = W5 at *
    obtain ⟨fb, hfb⟩ : ∃ fb, fb = w4.heap.size := ⟨_, rfl⟩
    have HFB : Hid (w.heap.size ≤ fb ∧ fb ≠ g ∧ fb ≠ r) := ⟨by rw [hfb]; exact HB4.out.size, by omega, by omega⟩
    have HPX : Hid (∀ g2, p4 = some ⟨g2, 0, none⟩ → 0 < m4 → g2 ≠ fb ∧ g2 ≠ r) := by
      intro g2 hp hm
      rcases O4.out.mem with h0 | ⟨g3, hp3, hB3, hr3⟩
      · omega
      · rw [hp] at hp3
        simp only [Option.some.injEq, Addr.mk.injEq, and_true] at hp3
        have hl3 : g3 < w4.heap.size := World.block_lt_of_cell? _ _ (hr3.cell 0 (by omega))
        exact ⟨by omega, by have := HP4.out g3 (by rw [hp, hp3]) hm; omega⟩
    rw [← hfb] at F5 ⊢
    clear hfb hgl hrl x0 x1 x2 x3 r0 r1 r2 r3 r4 r5 r6 r7
    have XF : Hid (Box W5 g (.bool s) (.slice p m c) ∧ B4q W5 r (.bool false) (.slice none 0 0) (.bool false) (.int .i64 0) ∧ B4q W5 fb (.bool s) (.slice p4 m4 m4) (.bool false) (.int .i64 (-1))) := ⟨XR4.out.1.below hb5, XR4.out.2.below hb5, F5⟩
    have H5 : Hid (Num W5 p m c xs a) := H4.out.below hb5
    have HT5 : Hid (Tab W5) := HT4.out.below hb5
    have HB5 : Hid (Below w.heap.size w W5) := Below.on HB4.out hb5
    have O5 : Hid (Own w.heap.size W5 p4 m4 z4) := O4.out.below hb5
    have HPN : Hid (∀ g2, p4 = some ⟨g2, 0, none⟩ → 0 < m4 → g2 ≠ fb ∧ g2 ≠ r) := HPX.out
    clear hb5 F5 XR4 H4 HT4 HB4 O4
    refine (trail_any H5.out.at_ (by have := H5.out.le; omega) (by rw [H5.out.nf.val]; exact HK.out) HT5.out).mono ?_
    rintro e w6 ⟨rfl, hw⟩
    obtain rfl := hw.symm
    clear hw
    obtain ⟨⟨x0, x1, x2, x3⟩, ⟨r0, r1, r2, r3, r4, r5, r6, r7⟩, ⟨f0, f1, f2, f3, f4, f5, f6, f7⟩⟩ := XF.out
    have hne1 : ¬ fb = g := HFB.out.2.1
    have hne2 : ¬ fb = r := HFB.out.2.2
    have hne3 : ¬ g = fb := fun e => hne1 e.symm
    have hne4 : ¬ r = fb := fun e => hne2 e.symm
    go_wp2_with fail
    obtain ⟨b2, hb2⟩ : ∃ b2, b2 = decide (k < n) := ⟨_, rfl⟩
    rw [← hb2]
    have HB2 : Hid (b2 = decide (k < n)) := hb2
    have XF6 : Hid (Box (W5.setCell ⟨fb, 2, none⟩ (.bool b2)) g (.bool s) (.slice p m c) ∧ B4q (W5.setCell ⟨fb, 2, none⟩ (.bool b2)) r (.bool false) (.slice none 0 0) (.bool false) (.int .i64 0) ∧ B4q (W5.setCell ⟨fb, 2, none⟩ (.bool b2)) fb (.bool s) (.slice p4 m4 m4) (.bool b2) (.int .i64 (-1))) :=
      ⟨⟨by go_simp, by go_simp, by go_simp, by go_simp⟩, ⟨by go_simp, by go_simp, by go_simp, by go_simp, by go_simp, by go_simp, by go_simp, by go_simp⟩, ⟨by go_simp, by go_simp, by go_simp, by go_simp, by go_simp, by go_simp, by go_simp, by go_simp⟩⟩
    have HB6 : Hid (Below w.heap.size w (W5.setCell ⟨fb, 2, none⟩ (.bool b2))) := bSet HB5.out _ _ _ HFB.out.1
    have O6 : Hid (Own w.heap.size (W5.setCell ⟨fb, 2, none⟩ (.bool b2)) p4 m4 z4) := O5.out.setNot fb 2 _ (fun g2 hp hm => (HPN.out g2 hp hm).1)
    generalize W5.setCell ⟨fb, 2, none⟩ (.bool b2) = W6 at *
    have H6 : Hid (Num W6 p m c xs a) := HW0.out.1.below HB6.out
    have HT6 : Hid (Tab W6) := HW0.out.2.below HB6.out
    clear hb2 x0 x1 x2 x3 r0 r1 r2 r3 r4 r5 r6 r7 f0 f1 f2 f3 f4 f5 f6 f7 XF H5 HT5 HB5 O5
    refine (bit_int H6.out.at_ (by have := H6.out.le; omega) ((n : Int) - 1) (by omega)).mono ?_
    rintro e w7 ⟨rfl, hw⟩
    obtain rfl := hw.symm
    clear hw
    obtain ⟨bb, hbb⟩ : ∃ bb, bb = bitO (valB B64 xs) ((n : Int) - 1) := ⟨_, rfl⟩
    rw [← hbb]
    have HBB : Hid (bb = bitO a ((n : Int) - 1)) := by rw [H6.out.nf.val] at hbb; exact hbb
    clear hbb
    obtain ⟨⟨x0, x1, x2, x3⟩, ⟨r0, r1, r2, r3, r4, r5, r6, r7⟩, ⟨f0, f1, f2, f3, f4, f5, f6, f7⟩⟩ := XF6.out
    have HX : Hid (b2 = decide (a % 2 ^ n ≠ 0)) := by
      show _ = _
      rw [HB2.out]
      rcases HK.out with ⟨e, _⟩ | ⟨_, e⟩
      · exact absurd e HA0.out
      · exact tz_lt e
    have HTZ : Hid (TzIs a k) := by
      rcases HK.out with ⟨e, _⟩ | ⟨_, e⟩
      · exact absurd e HA0.out
      · exact e
    have HPR : Hid (∀ g2, p4 = some ⟨g2, 0, none⟩ → 0 < m4 → g2 ≠ r) := HP4.out
    cases bb
    · go_wp2_with fail
      refine bodyPost_ret (v := .tuple #[FR s p4 m4 m4 b2 (-1), .int .i64 0]) (by rw [results_cell_tmp rfl]; go_simp) rfl ?_
      exact ⟨p4, m4, z4, b2, (-1), rfl, (((O6.out.setNot r 0 _ (fun g2 hp hm => HPR.out g2 hp hm)).setNot r 1 _ (fun g2 hp hm => HPR.out g2 hp hm)).setNot r 2 _ (fun g2 hp hm => HPR.out g2 hp hm)).setNot r 3 _ (fun g2 hp hm => HPR.out g2 hp hm), N4.out.1, N4.out.2, HX.out, half_lt HBB.out rfl, bSet (bSet (bSet (bSet HB6.out _ _ _ HGR.out.2.1) _ _ _ HGR.out.2.1) _ _ _ HGR.out.2.1) _ _ _ HGR.out.2.1⟩
    · have XF7 : Hid (Box (W6.setCell ⟨fb, 3, none⟩ (.int .i64 0)) g (.bool s) (.slice p m c) ∧ B4q (W6.setCell ⟨fb, 3, none⟩ (.int .i64 0)) r (.bool false) (.slice none 0 0) (.bool false) (.int .i64 0) ∧ B4q (W6.setCell ⟨fb, 3, none⟩ (.int .i64 0)) fb (.bool s) (.slice p4 m4 m4) (.bool b2) (.int .i64 0)) :=
        ⟨⟨by go_simp, by go_simp, by go_simp, by go_simp⟩, ⟨by go_simp, by go_simp, by go_simp, by go_simp, by go_simp, by go_simp, by go_simp, by go_simp⟩, ⟨by go_simp, by go_simp, by go_simp, by go_simp, by go_simp, by go_simp, by go_simp, by go_simp⟩⟩
      have HB7 : Hid (Below w.heap.size w (W6.setCell ⟨fb, 3, none⟩ (.int .i64 0))) := bSet HB6.out _ _ _ HFB.out.1
      have O7 : Hid (Own w.heap.size (W6.setCell ⟨fb, 3, none⟩ (.int .i64 0)) p4 m4 z4) := O6.out.setNot fb 3 _ (fun g2 hp hm => (HPN.out g2 hp hm).1)
      go_wp2_with fail
      generalize W6.setCell ⟨fb, 3, none⟩ (.int .i64 0) = W7 at *
      have H7 : Hid (Num W7 p m c xs a) := HW0.out.1.below HB7.out
      have HT7 : Hid (Tab W7) := HW0.out.2.below HB7.out
      clear x0 x1 x2 x3 r0 r1 r2 r3 r4 r5 r6 r7 f0 f1 f2 f3 f4 f5 f6 f7 XF6 H6 HT6 HB6 O6
      refine (trail_any H7.out.at_ (by have := H7.out.le; omega) (by rw [H7.out.nf.val]; exact HK.out) HT7.out).mono ?_
      rintro e w8 ⟨rfl, hw⟩
      obtain rfl := hw.symm
      clear hw
      obtain ⟨⟨x0, x1, x2, x3⟩, ⟨r0, r1, r2, r3, r4, r5, r6, r7⟩, ⟨f0, f1, f2, f3, f4, f5, f6, f7⟩⟩ := XF7.out
      by_cases hk1 : (k : Int) < (n : Int) - 1
      · have hk1b : decide ((k : Int) < (n : Int) - 1) = true := decide_eq_true hk1
        have O8 : Hid (Own w.heap.size (W7.setCell ⟨fb, 3, none⟩ (.int .i64 1)) p4 m4 z4) := O7.out.setNot fb 3 _ (fun g2 hp hm => (HPN.out g2 hp hm).1)
        have HB8 : Hid (Below w.heap.size w (W7.setCell ⟨fb, 3, none⟩ (.int .i64 1))) := bSet HB7.out _ _ _ HFB.out.1
        go_wp2_with fail
        refine bodyPost_ret (v := .tuple #[FR s p4 m4 m4 b2 1, .int .i64 0]) (by rw [results_cell_tmp rfl]; go_simp) rfl ?_
        exact ⟨p4, m4, z4, b2, 1, rfl, (((O8.out.setNot r 0 _ (fun g2 hp hm => HPR.out g2 hp hm)).setNot r 1 _ (fun g2 hp hm => HPR.out g2 hp hm)).setNot r 2 _ (fun g2 hp hm => HPR.out g2 hp hm)).setNot r 3 _ (fun g2 hp hm => HPR.out g2 hp hm), N4.out.1, N4.out.2, HX.out, half_ge HBB.out HTZ.out (by rw [if_pos hk1]), bSet (bSet (bSet (bSet HB8.out _ _ _ HGR.out.2.1) _ _ _ HGR.out.2.1) _ _ _ HGR.out.2.1) _ _ _ HGR.out.2.1⟩
      · have hk1b : decide ((k : Int) < (n : Int) - 1) = false := decide_eq_false hk1
        go_wp2_with fail
        refine bodyPost_ret (v := .tuple #[FR s p4 m4 m4 b2 0, .int .i64 0]) (by rw [results_cell_tmp rfl]; go_simp) rfl ?_
        exact ⟨p4, m4, z4, b2, 0, rfl, (((O7.out.setNot r 0 _ (fun g2 hp hm => HPR.out g2 hp hm)).setNot r 1 _ (fun g2 hp hm => HPR.out g2 hp hm)).setNot r 2 _ (fun g2 hp hm => HPR.out g2 hp hm)).setNot r 3 _ (fun g2 hp hm => HPR.out g2 hp hm), N4.out.1, N4.out.2, HX.out, half_ge HBB.out HTZ.out (by rw [if_neg (Int.not_lt.2 hk1)]), bSet (bSet (bSet (bSet HB7.out _ _ _ HGR.out.2.1) _ _ _ HGR.out.2.1) _ _ _ HGR.out.2.1) _ _ _ HGR.out.2.1⟩
  · have ha0 : a = 0 := hz.1 (by omega)
    have hmb : decide ((0 : Int) < (m : Int)) = false := decide_eq_false (by omega)
    have hmb' : decide (0 < m) = false := decide_eq_false hm0
    have hmp : ¬ (0 : Int) < (m : Int) := by omega
    have HA0 : Hid (a = 0) := ha0
    clear hz ha0
    obtain ⟨fb, hfb⟩ : ∃ fb, fb = w4.heap.size := ⟨_, rfl⟩
    have HFB : Hid (w.heap.size ≤ fb ∧ fb ≠ g ∧ fb ≠ r) := ⟨by rw [hfb]; exact HB4.out.size, by omega, by omega⟩
    have HPX : Hid (∀ g2, p4 = some ⟨g2, 0, none⟩ → 0 < m4 → g2 ≠ fb ∧ g2 ≠ r) := by
      intro g2 hp hm
      rcases O4.out.mem with h0 | ⟨g3, hp3, hB3, hr3⟩
      · omega
      · rw [hp] at hp3
        simp only [Option.some.injEq, Addr.mk.injEq, and_true] at hp3
        have hl3 : g3 < w4.heap.size := World.block_lt_of_cell? _ _ (hr3.cell 0 (by omega))
        exact ⟨by omega, by have := HP4.out g3 (by rw [hp, hp3]) hm; omega⟩
    go_wp2_with fail
    have F5 := B4q.new w4 134 (.bool s) (.slice p4 m4 m4) (.bool false) (.int .i64 (-1))
    have hb5 := below1 w4 (.cells #[.bool s, .slice p4 m4 m4, .bool false, .int .i64 (-1)] 134)
    generalize w4.alloc (.cells #[.bool s, .slice p4 m4 m4, .bool false, .int .i64 (-1)] 134) = W5 at *
    rw [← hfb] at F5 ⊢
    have XF : Hid (Box W5 g (.bool s) (.slice p m c) ∧ B4q W5 r (.bool false) (.slice none 0 0) (.bool false) (.int .i64 0) ∧ B4q W5 fb (.bool s) (.slice p4 m4 m4) (.bool false) (.int .i64 (-1))) := ⟨XR4.out.1.below hb5, XR4.out.2.below hb5, F5⟩
    have H5 : Hid (Num W5 p m c xs a) := H4.out.below hb5
    have HB5 : Hid (Below w.heap.size w W5) := Below.on HB4.out hb5
    have O5 : Hid (Own w.heap.size W5 p4 m4 z4) := O4.out.below hb5
    clear hfb hgl hrl x0 x1 x2 x3 r0 r1 r2 r3 r4 r5 r6 r7 hb5 F5 XR4 H4 HT4 HB4 O4
    have XF6 := XF
    have HB6 := HB5
    have O6 := O5
    have H6 := H5
    clear XF HB5 O5 H5
    refine (bit_int H6.out.at_ (by have := H6.out.le; omega) ((n : Int) - 1) (by omega)).mono ?_
    rintro e w7 ⟨rfl, hw⟩
    obtain rfl := hw.symm
    clear hw
    rw [show bitO (valB B64 xs) ((n : Int) - 1) = false from by rw [H6.out.nf.val, HA0.out, bitO_half]; exact decide_eq_false (by rw [Nat.zero_mod]; have : 0 < 2 ^ n := Nat.pow_pos (by omega); omega)]
    obtain ⟨⟨x0, x1, x2, x3⟩, ⟨r0, r1, r2, r3, r4, r5, r6, r7⟩, ⟨f0, f1, f2, f3, f4, f5, f6, f7⟩⟩ := XF6.out
    have hne1 : ¬ fb = g := HFB.out.2.1
    have hne2 : ¬ fb = r := HFB.out.2.2
    have hne3 : ¬ g = fb := fun e => hne1 e.symm
    have hne4 : ¬ r = fb := fun e => hne2 e.symm
    have HPR : Hid (∀ g2, p4 = some ⟨g2, 0, none⟩ → 0 < m4 → g2 ≠ r) := HP4.out
    go_wp2_with fail
    refine bodyPost_ret (v := .tuple #[FR s p4 m4 m4 false (-1), .int .i64 0]) (by rw [results_cell_tmp rfl]; go_simp) rfl ?_
    exact ⟨p4, m4, z4, false, (-1), rfl, (((O6.out.setNot r 0 _ (fun g2 hp hm => HPR.out g2 hp hm)).setNot r 1 _ (fun g2 hp hm => HPR.out g2 hp hm)).setNot r 2 _ (fun g2 hp hm => HPR.out g2 hp hm)).setNot r 3 _ (fun g2 hp hm => HPR.out g2 hp hm), N4.out.1, N4.out.2, by rw [HA0.out, Nat.zero_mod]; rfl, .inl ⟨by rw [HA0.out, Nat.zero_mod]; have : 0 < 2 ^ n := Nat.pow_pos (by omega); omega, rfl⟩, bSet (bSet (bSet (bSet HB6.out _ _ _ HGR.out.2.1) _ _ _ HGR.out.2.1) _ _ _ HGR.out.2.1) _ _ _ HGR.out.2.1⟩
def GeW (B : Nat) (w : World) : Prop := B ≤ w.heap.size
theorem GeW.below {B : Nat} {w w' : World} (h : GeW B w) (hb : Below w.heap.size w w') : GeW B w' := Nat.le_trans h hb.size
theorem fshr_any {p : Option Addr} {m c : Nat} {xs : List Nat} {a : Nat} {w : World} (s : Bool) (h : Num w p m c xs a) (hs : s = true → 0 < a) (n : Nat) (hn : n ≤ 9223372036854775807) (hT : Tab w) :
    Calls Tryz.prog 78 #[ZV s p m c, .int .i64 n] w fun e w' => ∃ v, e = .returned (.tuple #[v, .int .i64 0]) ∧ AnsZ w.heap.size w' v (fl s a (2 ^ n)) ∧ Below w.heap.size w w' := by
  have H : Hid (Num w p m c xs a) := h
  have HS : Hid (s = true → 0 < a) := hs
  have HT : Hid (Tab w) := hT
  have HN : Hid (n ≤ 9223372036854775807) := hn
  obtain ⟨z, hz⟩ : ∃ z, z = fl s a (2 ^ n) := ⟨_, rfl⟩
  rw [← hz]
  have HZ : Hid (z = fl s a (2 ^ n)) := hz
  obtain ⟨k, hk⟩ := TzO.ex a
  have HK : Hid (TzO a k) := hk
  clear h hs hT hn hz hk
  go_enter Tryz.func78, Tryz.ntmps78
  go_wp2_with fail
  obtain ⟨W0, hW0⟩ : ∃ W0, W0 = ((w.alloc (.cells #[.bool s, .slice p m c] 36)).alloc (.cells #[.bool false, .slice none 0 0] 36)) := ⟨_, rfl⟩
  have Xx : Hid (Box W0 (w.heap.size) (.bool s) (.slice p m c)) := by rw [hW0]; exact ⟨by go_simp, by go_simp, by go_simp, by go_simp⟩
  have Xr : Hid (Box W0 (w.heap.size + 1) (.bool false) (.slice none 0 0)) := by rw [hW0]; exact ⟨by go_simp, by go_simp, by go_simp, by go_simp⟩
  have hb0 : Below w.heap.size w W0 := by rw [hW0]; exact below2 w _ _
  rw [← hW0]
  clear hW0
  have hbw : Below w.heap.size w w := Below.refl _ _
  obtain ⟨gr, hgr⟩ : ∃ g, g = w.heap.size + 1 := ⟨_, rfl⟩
  have HGr : Hid (w.heap.size ≤ gr) := by rw [hgr]; show _ ≤ _; omega
  rw [← hgr] at Xr
  try rw [← hgr]
  obtain ⟨gx, hgx⟩ : ∃ g, g = w.heap.size := ⟨_, rfl⟩
  have HGx : Hid (w.heap.size ≤ gx) := by rw [hgx]; show _ ≤ _; omega
  rw [← hgx] at Xx
  try rw [← hgx]
  have HGD : Hid (gx ≠ gr ∧ gr ≠ gx) := by rw [hgx, hgr]; exact ⟨by omega, by omega⟩
  clear hgx hgr
  replace H : Hid _ := H.out.below hb0
  replace HT : Hid (Tab W0) := HT.out.below hb0
  replace hbw := Below.on hbw hb0
  clear hb0
  have HSZ : Hid (GeW W0.heap.size W0) := Nat.le_refl _
  have HRL : Hid (gr < W0.heap.size ∧ w.heap.size ≤ W0.heap.size) := ⟨Xr.out.lt, hbw.size⟩
  refine (shifted_any s H.out HS.out n HN.out HK.out HT.out).mono ?_
  rintro e w2 ⟨p2, m2, z2, x2, hf2, rfl, ho2, hn2, hm2, hx2, hh2, hb2⟩
  replace Xx : Hid _ := Xx.out.below hb2
  replace Xr : Hid _ := Xr.out.below hb2
  replace H : Hid _ := H.out.below hb2
  replace HT : Hid (Tab w2) := HT.out.below hb2
  replace HSZ : Hid (GeW W0.heap.size w2) := HSZ.out.below hb2
  replace hbw := Below.on hbw hb2
  clear hb2
  have HF : Hid (FrIs W0.heap.size w2 s a (2 ^ n) p2 m2 z2 x2 hf2) := ⟨ho2, hn2, hm2, hx2, hh2, H.out.lim⟩
  clear ho2 hn2 hm2 hx2 hh2
  obtain ⟨cr0, cr1, fr0, fr1⟩ := Xr.out
  have hner := Xr.out.lt
  go_wp2_with fail
  clear cr0 cr1 fr0 fr1 hner
  have Xf0 : Hid (B4q (w2.alloc (.cells #[.bool s, .slice p2 m2 m2, .bool x2, .int .i64 hf2] 134)) w2.heap.size (.bool s) (.slice p2 m2 m2) (.bool x2) (.int .i64 hf2)) := B4q.new w2 _ _ _ _ _
  have hbn : Below w2.heap.size w2 (w2.alloc (.cells #[.bool s, .slice p2 m2 m2, .bool x2, .int .i64 hf2] 134)) := below1 w2 _
  generalize w2.alloc (.cells #[.bool s, .slice p2 m2 m2, .bool x2, .int .i64 hf2] 134) = W3 at *
  have HGf : Hid (w.heap.size ≤ w2.heap.size) := hbw.size
  replace Xx : Hid _ := Xx.out.below hbn
  replace Xr : Hid _ := Xr.out.below hbn
  replace H : Hid _ := H.out.below hbn
  replace HT : Hid (Tab W3) := HT.out.below hbn
  replace HSZ : Hid (GeW W0.heap.size W3) := HSZ.out.below hbn
  replace HF : Hid _ := HF.out.below hbn
  replace hbw := Below.on hbw hbn
  clear hbn
  generalize w2.heap.size = gf at *
  have Xf := Xf0
  clear Xf0
  have hBs : W0.heap.size ≤ W3.heap.size := HSZ.out
  refine (floor_any s x2 hf2 HF.out hBs).mono ?_
  rintro e w4 ⟨v, rfl, hv, hb4⟩
  clear hBs
  rw [← HZ.out] at hv
  obtain ⟨p4, m4, z4, rfl, ho, hn, hm⟩ := hv
  replace Xx : Hid _ := Xx.out.below hb4
  replace Xr : Hid _ := Xr.out.below hb4
  replace Xf : Hid _ := Xf.out.below hb4
  replace H : Hid _ := H.out.below hb4
  replace HT : Hid (Tab w4) := HT.out.below hb4
  replace HSZ : Hid (GeW W0.heap.size w4) := HSZ.out.below hb4
  replace HF : Hid _ := HF.out.below hb4
  replace hbw := Below.on hbw hb4
  clear hb4
  have HO4 : Hid (Own W0.heap.size w4 p4 m4 z4) := ho
  have HN4 : Hid (Nf B64 z4 z.natAbs ∧ m4 ≤ 8192) := ⟨hn, hm⟩
  clear ho hn hm
  obtain ⟨b9, hb9⟩ : ∃ b, b = decide (z < 0) := ⟨_, rfl⟩
  rw [← hb9]
  have HB9 : Hid (b9 = decide (z < 0)) := hb9
  clear hb9
  obtain ⟨cr0, cr1, fr0, fr1⟩ := Xr.out
  have hner := Xr.out.lt
  go_wp2_with fail
  refine bodyPost_ret (v := .tuple #[ZV b9 p4 m4 m4, .int .i64 0]) (by rw [results_cell_tmp rfl]; go_simp) rfl ⟨_, rfl, ⟨p4, m4, z4, by rw [HB9.out], ?_, HN4.out.1, HN4.out.2⟩, ?_⟩
  · exact own_set2 HO4.out HRL.out.1 HRL.out.2 _ _
  · exact bSet (bSet hbw _ _ _ HGr.out) _ _ _ HGr.out
end Go.Proofs.YtidggnjnlhjhlaaGreatDoor
namespace Go.Proofs.YtidggnjnlhjhlaaGreatDoor
open Go.RowKit
set_option maxRecDepth 20000
set_option maxHeartbeats 0
structure DivRel (w : World) (g n : Nat) (zs : List Nat) (v k re : Nat) (dk : List Nat) (wr : World) : Prop where
  wrs : ∀ B, B ≤ g → Below B w wr
  row : Row wr g 0 n dk
  lo : dk.take (n - k) = zs.take (n - k)
  rlt : re < v
  sum : valB B64 (zs.drop (n - k)) = valB B64 (dk.drop (n - k)) * v + re
theorem DivRel.step {w : World} {g n : Nat} {zs : List Nat} {v k re : Nat} {dk : List Nat} {wr wr' : World} (h : DivRel w g n zs v k re dk wr) (hk : k < n) (hz : zs.length = n) {x q r : Nat}
    (hx : x = dk.getD (n - 1 - k) 0) (hq : re * B64 + x = q * v + r) (hr : r < v) (hw : ∀ B, B ≤ g → Below B w wr') (hrow : Row wr' g 0 n (dk.set (n - 1 - k) q)) : DivRel w g n zs v (k + 1) r (dk.set (n - 1 - k) q) wr' := by
  have hl := h.row.len
  have e : n - (k + 1) = n - 1 - k := by omega
  have e2 : n - 1 - k + 1 = n - k := by omega
  have hxz : x = zs.getD (n - 1 - k) 0 := hx.trans (getD_of_take h.lo (by omega))
  refine ⟨hw, hrow, ?_, hr, ?_⟩
  · rw [e, take_set_at]; exact take_of_take h.lo (by omega)
  · rw [e, drop_set_at dk _ q (by omega), valB_drop _ zs (n - 1 - k) (by omega), ← hxz, valB_cons, e2, h.sum, Nat.add_mul, Nat.mul_add]
    have e3 : B64 * (valB B64 (dk.drop (n - k)) * v) = B64 * valB B64 (dk.drop (n - k)) * v := by rw [Nat.mul_assoc]
    rw [e3, Nat.mul_comm B64 re]
    omega
end Go.Proofs.YtidggnjnlhjhlaaGreatDoor
namespace Go.Proofs.YtidggnjnlhjhlaaGreatDoor
open Go.RowKit Go.Shelf
set_option maxRecDepth 20000
set_option maxHeartbeats 0
theorem Nf.one {ys : List Nat} {b : Nat} (hy : Nf B64 ys b) (hl : ys.length = 1) : ys = [b] := by
  match ys, hl with
  | [y], _ => have := hy.val; simp [valB] at this; rw [this]
def cmpI (x y : Int) : Int := if x < y then -1 else if x = y then 0 else 1
theorem cmpI_nat (a b : Nat) : cmpI (a : Int) (b : Int) = cmpN a b := by
  unfold cmpI
  rcases Nat.lt_trichotomy a b with h | h | h
  · rw [if_pos (by omega), cmpN_lt h]
  · rw [if_neg (by omega), if_pos (by omega), cmpN_eq h]
  · rw [if_neg (by omega), if_neg (by omega), cmpN_gt h]
theorem cmpI_neg (a b : Nat) : cmpI (-(a : Int)) (-(b : Int)) = cmpN b a := by
  unfold cmpI
  rcases Nat.lt_trichotomy a b with h | h | h
  · rw [if_neg (by omega), if_neg (by omega), cmpN_gt h]
  · rw [if_neg (by omega), if_pos (by omega), cmpN_eq h.symm]
  · rw [if_pos (by omega), cmpN_lt h]
theorem Num.drewN {w : World} {p : Option Addr} {m c : Nat} {xs : List Nat} {a : Nat} (h : Num w p m c xs a) (r : Nat) : Num (w.drewN r) p m c xs a := ⟨h.at_.drewN r, h.nf, h.le⟩
theorem neg_any {p : Option Addr} {m c : Nat} {xs : List Nat} {a : Nat} {w : World} (s : Bool) (h : Num w p m c xs a) (hs : s = true → 0 < a) :
    Calls Tryz.prog 79 #[ZV s p m c] w fun e w' => ∃ v, e = .returned (.tuple #[v, .int .i64 0]) ∧ AnsZ w.heap.size w' v (iv (!s) a) ∧ Below w.heap.size w w' := by
  have H : Hid (Num w p m c xs a) := h
  have HS : Hid (s = true → 0 < a) := hs
  clear h hs
  go_enter Tryz.func79, Tryz.ntmps79
  go_wp2_with fail
  obtain ⟨W0, hW0⟩ : ∃ W0, W0 = ((w.alloc (.cells #[.bool s, .slice p m c] 36)).alloc (.cells #[.bool false, .slice none 0 0] 36)) := ⟨_, rfl⟩
  have Xx : Hid (Box W0 (w.heap.size) (.bool s) (.slice p m c)) := by rw [hW0]; exact ⟨by go_simp, by go_simp, by go_simp, by go_simp⟩
  have Xr : Hid (Box W0 (w.heap.size + 1) (.bool false) (.slice none 0 0)) := by rw [hW0]; exact ⟨by go_simp, by go_simp, by go_simp, by go_simp⟩
  have hb0 : Below w.heap.size w W0 := by rw [hW0]; exact below2 w _ _
  rw [← hW0]
  clear hW0
  have hbw : Below w.heap.size w w := Below.refl _ _
  obtain ⟨gr, hgr⟩ : ∃ g, g = w.heap.size + 1 := ⟨_, rfl⟩
  have HGr : Hid (w.heap.size ≤ gr) := by rw [hgr]; show _ ≤ _; omega
  rw [← hgr] at Xr
  try rw [← hgr]
  obtain ⟨gx, hgx⟩ : ∃ g, g = w.heap.size := ⟨_, rfl⟩
  have HGx : Hid (w.heap.size ≤ gx) := by rw [hgx]; show _ ≤ _; omega
  rw [← hgx] at Xx
  try rw [← hgx]
  have HGD : Hid (gx ≠ gr ∧ gr ≠ gx) := by rw [hgx, hgr]; exact ⟨by omega, by omega⟩
  clear hgx hgr
  replace H : Hid _ := H.out.below hb0
  replace hbw := Below.on hbw hb0
  clear hb0
  refine (numform_t s H.out HS.out).mono ?_
  rintro e w1 ⟨rfl, hb1⟩
  replace Xx : Hid _ := Xx.out.below hb1
  replace Xr : Hid _ := Xr.out.below hb1
  replace H : Hid _ := H.out.below hb1
  replace hbw := Below.on hbw hb1
  clear hb1
  obtain ⟨cx0, cx1, fx0, fx1⟩ := Xx.out
  have hnex := Xx.out.lt
  go_wp2_with fail
  clear cx0 cx1 fx0 fx1 hnex
  have hrl : gr < w1.heap.size := Xr.out.lt
  have HRL : Hid (gr < w1.heap.size ∧ w.heap.size ≤ w1.heap.size) := ⟨hrl, hbw.size⟩
  clear hrl
  refine (norm_any H.out.at_).mono ?_
  rintro e w2 ⟨ha, hb2⟩
  rw [H.out.nf.val] at ha
  obtain ⟨p2, m2, z2, rfl, ho2, hn2, hm2⟩ := ha.ok H.out.lim
  clear ha
  replace Xx : Hid _ := Xx.out.below hb2
  replace Xr : Hid _ := Xr.out.below hb2
  replace H : Hid _ := H.out.below hb2
  replace hbw := Below.on hbw hb2
  clear hb2
  have HO2 : Hid (Own w1.heap.size w2 p2 m2 z2) := ho2
  have HN2 : Hid (Nf B64 z2 a ∧ m2 ≤ 8192) := ⟨hn2, hm2⟩
  clear ho2 hn2 hm2
  obtain ⟨cx0, cx1, fx0, fx1⟩ := Xx.out
  have hnex := Xx.out.lt
  go_wp2_with fail
  clear cx0 cx1 fx0 fx1 hnex
  refine (signed_any (!s) p2 m2 m2 w2).mono ?_
  rintro e w3 ⟨rfl, hb3⟩
  replace Xx : Hid _ := Xx.out.below hb3
  replace Xr : Hid _ := Xr.out.below hb3
  replace H : Hid _ := H.out.below hb3
  replace HO2 : Hid (Own w1.heap.size w3 p2 m2 z2) := HO2.out.below hb3
  replace hbw := Below.on hbw hb3
  clear hb3
  obtain ⟨b, hb⟩ : ∃ b, b = ((!s) && decide (0 < m2)) := ⟨_, rfl⟩
  rw [← hb]
  have HBB : Hid (b = ((!s) && decide (0 < m2))) := hb
  clear hb
  obtain ⟨cr0, cr1, fr0, fr1⟩ := Xr.out
  have hner := Xr.out.lt
  go_wp2_with fail
  refine bodyPost_ret (v := .tuple #[ZV b p2 m2 m2, .int .i64 0]) (by rw [results_cell_tmp rfl]; go_simp) rfl ⟨_, rfl, ?_, ?_⟩
  · rw [HBB.out]
    exact AnsZ.mk (!s) (own_set2 HO2.out HRL.out.1 HRL.out.2 _ _) HN2.out.1 HN2.out.2
  · exact bSet (bSet hbw _ _ _ HGr.out) _ _ _ HGr.out
theorem nshl_any {p : Option Addr} {m c : Nat} {xs : List Nat} {a : Nat} {w : World} (s : Bool) (h : Num w p m c xs a) (hs : s = true → 0 < a) (n : Nat) (hn : n ≤ 9223372036854775807) :
    Calls Tryz.prog 74 #[ZV s p m c, .int .i64 n] w fun e w' => AnsI w.heap.size w' e (iv s (2 ^ n * a)) ∧ Below w.heap.size w w' := by
  have H : Hid (Num w p m c xs a) := h
  have HS : Hid (s = true → 0 < a) := hs
  clear h hs
  have HN : Hid (n ≤ 9223372036854775807) := hn
  have c0 : decide ((n : Int) < 0) = false := decide_eq_false (by omega)
  clear hn
  go_enter Tryz.func74, Tryz.ntmps74
  go_wp2_with fail
  obtain ⟨W0, hW0⟩ : ∃ W0, W0 = ((w.alloc (.cells #[.bool s, .slice p m c] 36)).alloc (.cells #[.bool false, .slice none 0 0] 36)) := ⟨_, rfl⟩
  have Xx : Hid (Box W0 (w.heap.size) (.bool s) (.slice p m c)) := by rw [hW0]; exact ⟨by go_simp, by go_simp, by go_simp, by go_simp⟩
  have Xr : Hid (Box W0 (w.heap.size + 1) (.bool false) (.slice none 0 0)) := by rw [hW0]; exact ⟨by go_simp, by go_simp, by go_simp, by go_simp⟩
  have hb0 : Below w.heap.size w W0 := by rw [hW0]; exact below2 w _ _
  rw [← hW0]
  clear hW0
  have hbw : Below w.heap.size w w := Below.refl _ _
  obtain ⟨gr, hgr⟩ : ∃ g, g = w.heap.size + 1 := ⟨_, rfl⟩
  have HGr : Hid (w.heap.size ≤ gr) := by rw [hgr]; show _ ≤ _; omega
  rw [← hgr] at Xr
  try rw [← hgr]
  obtain ⟨gx, hgx⟩ : ∃ g, g = w.heap.size := ⟨_, rfl⟩
  have HGx : Hid (w.heap.size ≤ gx) := by rw [hgx]; show _ ≤ _; omega
  rw [← hgx] at Xx
  try rw [← hgx]
  have HGD : Hid (gx ≠ gr ∧ gr ≠ gx) := by rw [hgx, hgr]; exact ⟨by omega, by omega⟩
  clear hgx hgr
  replace H : Hid _ := H.out.below hb0
  replace hbw := Below.on hbw hb0
  clear hb0
  refine (numform_t s H.out HS.out).mono ?_
  rintro e w1 ⟨rfl, hb1⟩
  replace Xx : Hid _ := Xx.out.below hb1
  replace Xr : Hid _ := Xr.out.below hb1
  replace H : Hid _ := H.out.below hb1
  replace hbw := Below.on hbw hb1
  clear hb1
  clear c0
  obtain ⟨cx0, cx1, fx0, fx1⟩ := Xx.out
  have hnex := Xx.out.lt
  go_wp2_with fail
  clear cx0 cx1 fx0 fx1 hnex
  have hrl : gr < w1.heap.size := Xr.out.lt
  have HRL : Hid (gr < w1.heap.size ∧ w.heap.size ≤ w1.heap.size) := ⟨hrl, hbw.size⟩
  clear hrl
  obtain ⟨v, hv⟩ : ∃ v, v = 2 ^ n * a := ⟨_, rfl⟩
  have HV : Hid (v = 2 ^ n * a) := hv
  refine (shl_nf H.out.at_ H.out.nf H.out.le n HN.out).mono ?_
  rintro e w2 ⟨ha, hb2⟩
  rw [← hv] at ha
  clear hv
  replace Xx : Hid _ := Xx.out.below hb2
  replace Xr : Hid _ := Xr.out.below hb2
  replace H : Hid _ := H.out.below hb2
  replace hbw := Below.on hbw hb2
  clear hb2
  rcases ha with ⟨hl, p2, m2, z2, rfl, ho2, hn2, hm2⟩ | ⟨hl, rfl⟩
  · have HL : Hid (v < LIM) := hl
    clear hl
    have HO2 : Hid (Own w1.heap.size w2 p2 m2 z2) := ho2
    have HN2 : Hid (Nf B64 z2 v ∧ m2 ≤ 8192) := ⟨hn2, hm2⟩
    clear ho2 hn2 hm2
    obtain ⟨cx0, cx1, fx0, fx1⟩ := Xx.out
    have hnex := Xx.out.lt
    go_wp2_with fail
    clear cx0 cx1 fx0 fx1 hnex
    refine (signed_any s p2 m2 m2 w2).mono ?_
    rintro e w3 ⟨rfl, hb3⟩
    replace Xx : Hid _ := Xx.out.below hb3
    replace Xr : Hid _ := Xr.out.below hb3
    replace H : Hid _ := H.out.below hb3
    replace HO2 : Hid (Own w1.heap.size w3 p2 m2 z2) := HO2.out.below hb3
    replace hbw := Below.on hbw hb3
    clear hb3
    obtain ⟨b, hb⟩ : ∃ b, b = (s && decide (0 < m2)) := ⟨_, rfl⟩
    rw [← hb]
    have HBB : Hid (b = (s && decide (0 < m2))) := hb
    clear hb
    obtain ⟨cr0, cr1, fr0, fr1⟩ := Xr.out
    have hner := Xr.out.lt
    go_wp2_with fail
    refine bodyPost_ret (v := .tuple #[ZV b p2 m2 m2, .int .i64 0]) (by rw [results_cell_tmp rfl]; go_simp) rfl ⟨.inl ⟨by rw [iv_natAbs, ← HV.out]; exact HL.out, p2, m2, z2, ?_, ?_, ?_, HN2.out.2⟩, ?_⟩
    · rw [HBB.out, iv_lt, ← HV.out, HN2.out.1.lenpos HO2.out.len]
    · exact own_set2 HO2.out HRL.out.1 HRL.out.2 _ _
    · rw [iv_natAbs, ← HV.out]; exact HN2.out.1
    · exact bSet (bSet hbw _ _ _ HGr.out) _ _ _ HGr.out
  · have HL : Hid (LIM ≤ v) := hl
    clear hl
    obtain ⟨cx0, cx1, fx0, fx1⟩ := Xx.out
    have hnex := Xx.out.lt
    go_wp2_with fail
    clear cx0 cx1 fx0 fx1 hnex
    refine (signed_any s none 0 0 w2).mono ?_
    rintro e w3 ⟨rfl, hb3⟩
    replace Xx : Hid _ := Xx.out.below hb3
    replace Xr : Hid _ := Xr.out.below hb3
    replace H : Hid _ := H.out.below hb3
    replace hbw := Below.on hbw hb3
    clear hb3
    rw [show (s && decide (0 < 0)) = false from by simp]
    obtain ⟨cr0, cr1, fr0, fr1⟩ := Xr.out
    have hner := Xr.out.lt
    go_wp2_with fail
    refine bodyPost_ret (v := .tuple #[ZV false none 0 0, .int .i64 5]) (by rw [results_cell_tmp rfl]; go_simp) rfl ⟨.inr ⟨by rw [iv_natAbs, ← HV.out]; exact HL.out, rfl⟩, ?_⟩
    exact bSet (bSet hbw _ _ _ HGr.out) _ _ _ HGr.out
theorem ncmp_any {p q : Option Addr} {m c n d : Nat} {xs ys : List Nat} {a b : Nat} {w : World} (s t : Bool) (h : Num w p m c xs a) (hs : s = true → 0 < a) (k : Num w q n d ys b) (ht : t = true → 0 < b) :
    Calls Tryz.prog 118 #[ZV s p m c, ZV t q n d] w fun e w' => e = .returned (.tuple #[.int .i64 (cmpI (iv s a) (iv t b)), .int .i64 0]) ∧ Below w.heap.size w w' := by
  have H : Hid (Num w p m c xs a) := h
  have HS : Hid (s = true → 0 < a) := hs
  clear h hs
  have K : Hid (Num w q n d ys b) := k
  have HT : Hid (t = true → 0 < b) := ht
  clear k ht
  go_enter Tryz.func118, Tryz.ntmps118
  go_wp2_with fail
  obtain ⟨W0, hW0⟩ : ∃ W0, W0 = ((w.alloc (.cells #[.bool s, .slice p m c] 36)).alloc (.cells #[.bool t, .slice q n d] 36)) := ⟨_, rfl⟩
  have Xx : Hid (Box W0 (w.heap.size) (.bool s) (.slice p m c)) := by rw [hW0]; exact ⟨by go_simp, by go_simp, by go_simp, by go_simp⟩
  have Xy : Hid (Box W0 (w.heap.size + 1) (.bool t) (.slice q n d)) := by rw [hW0]; exact ⟨by go_simp, by go_simp, by go_simp, by go_simp⟩
  have hb0 : Below w.heap.size w W0 := by rw [hW0]; exact below2 w _ _
  rw [← hW0]
  clear hW0
  have hbw : Below w.heap.size w w := Below.refl _ _
  obtain ⟨gy, hgy⟩ : ∃ g, g = w.heap.size + 1 := ⟨_, rfl⟩
  have HGy : Hid (w.heap.size ≤ gy) := by rw [hgy]; show _ ≤ _; omega
  rw [← hgy] at Xy
  try rw [← hgy]
  obtain ⟨gx, hgx⟩ : ∃ g, g = w.heap.size := ⟨_, rfl⟩
  have HGx : Hid (w.heap.size ≤ gx) := by rw [hgx]; show _ ≤ _; omega
  rw [← hgx] at Xx
  try rw [← hgx]
  have HGD : Hid (gx ≠ gy ∧ gy ≠ gx) := by rw [hgx, hgy]; exact ⟨by omega, by omega⟩
  clear hgx hgy
  replace H : Hid _ := H.out.below hb0
  replace K : Hid _ := K.out.below hb0
  replace hbw := Below.on hbw hb0
  clear hb0
  refine (numform_t s H.out HS.out).mono ?_
  rintro e w1 ⟨rfl, hb1⟩
  replace Xx : Hid _ := Xx.out.below hb1
  replace Xy : Hid _ := Xy.out.below hb1
  replace H : Hid _ := H.out.below hb1
  replace K : Hid _ := K.out.below hb1
  replace hbw := Below.on hbw hb1
  clear hb1
  obtain ⟨cy0, cy1, fy0, fy1⟩ := Xy.out
  have hney := Xy.out.lt
  go_wp2_with fail
  clear cy0 cy1 fy0 fy1 hney
  refine (numform_t t K.out HT.out).mono ?_
  rintro e w2 ⟨rfl, hb2⟩
  replace Xx : Hid _ := Xx.out.below hb2
  replace Xy : Hid _ := Xy.out.below hb2
  replace H : Hid _ := H.out.below hb2
  replace K : Hid _ := K.out.below hb2
  replace hbw := Below.on hbw hb2
  clear hb2
  cases s <;> cases t
  · obtain ⟨cx0, cx1, fx0, fx1⟩ := Xx.out
    have hnex : gx < w2.heap.size := World.block_lt_of_cell? w2 _ cx0
    obtain ⟨cy0, cy1, fy0, fy1⟩ := Xy.out
    have hney := Xy.out.lt
    go_wp2_with fail
    clear cx0 cx1 fx0 fx1 hnex
    clear cy0 cy1 fy0 fy1 hney
    refine (cmp_wN H.out.at_ K.out.at_ H.out.nf K.out.nf).mono ?_
    rintro e w3 ⟨rfl, r, rfl⟩
    have hbr := bDrewN hbw r
    go_wp2_with fail
    go_ret2
    refine ⟨?_, hbr⟩
    show Ending.returned (.tuple #[.int .i64 (cmpN a b), .int .i64 0]) = _
    rw [iv_f, iv_f, cmpI_nat]
  · obtain ⟨cx0, cx1, fx0, fx1⟩ := Xx.out
    have hnex : gx < w2.heap.size := World.block_lt_of_cell? w2 _ cx0
    obtain ⟨cy0, cy1, fy0, fy1⟩ := Xy.out
    have hney := Xy.out.lt
    go_wp2_with fail
    clear cx0 cx1 fx0 fx1 hnex
    clear cy0 cy1 fy0 fy1 hney
    go_ret2
    refine ⟨?_, hbw⟩
    show Ending.returned (.tuple #[.int .i64 (1), .int .i64 0]) = _
    have := HT.out (by simp)
    rw [iv_f, iv_t, show cmpI (a : Int) (-(b : Int)) = 1 from by unfold cmpI; rw [if_neg (by omega), if_neg (by omega)]]
  · obtain ⟨cx0, cx1, fx0, fx1⟩ := Xx.out
    have hnex : gx < w2.heap.size := World.block_lt_of_cell? w2 _ cx0
    obtain ⟨cy0, cy1, fy0, fy1⟩ := Xy.out
    have hney := Xy.out.lt
    go_wp2_with fail
    clear cx0 cx1 fx0 fx1 hnex
    clear cy0 cy1 fy0 fy1 hney
    go_ret2
    refine ⟨?_, hbw⟩
    show Ending.returned (.tuple #[.int .i64 (-1), .int .i64 0]) = _
    have := HS.out (by simp)
    rw [iv_t, iv_f, show cmpI (-(a : Int)) (b : Int) = -1 from by unfold cmpI; rw [if_pos (by omega)]]
  · obtain ⟨cx0, cx1, fx0, fx1⟩ := Xx.out
    have hnex : gx < w2.heap.size := World.block_lt_of_cell? w2 _ cx0
    obtain ⟨cy0, cy1, fy0, fy1⟩ := Xy.out
    have hney := Xy.out.lt
    go_wp2_with fail
    clear cx0 cx1 fx0 fx1 hnex
    clear cy0 cy1 fy0 fy1 hney
    refine (cmp_wN K.out.at_ H.out.at_ K.out.nf H.out.nf).mono ?_
    rintro e w3 ⟨rfl, r, rfl⟩
    have hbr := bDrewN hbw r
    go_wp2_with fail
    go_ret2
    refine ⟨?_, hbr⟩
    show Ending.returned (.tuple #[.int .i64 (cmpN b a), .int .i64 0]) = _
    rw [iv_t, iv_t, cmpI_neg]
structure ZN (w : World) (s : Bool) (p : Option Addr) (m c : Nat) (z : Int) : Prop where
  ex : ∃ xs, Num w p m c xs z.natAbs
  sg : s = decide (z < 0)
theorem ZN.below {w w' : World} {s : Bool} {p : Option Addr} {m c : Nat} {z : Int} (h : ZN w s p m c z) (hb : Below w.heap.size w w') : ZN w' s p m c z := by
  obtain ⟨xs, hx⟩ := h.ex
  exact ⟨⟨xs, hx.below hb⟩, h.sg⟩
theorem ZN.iv {w : World} {s : Bool} {p : Option Addr} {m c : Nat} {z : Int} (h : ZN w s p m c z) : iv s z.natAbs = z := by rw [h.sg]; exact iv_abs z
theorem ZN.pos {w : World} {s : Bool} {p : Option Addr} {m c : Nat} {z : Int} (h : ZN w s p m c z) : s = true → 0 < z.natAbs := by rw [h.sg]; exact sgn_pos z
theorem ZN.lim {w : World} {s : Bool} {p : Option Addr} {m c : Nat} {z : Int} (h : ZN w s p m c z) : z.natAbs < LIM := by
  obtain ⟨xs, hx⟩ := h.ex
  exact hx.lim
theorem ZN.le {w : World} {s : Bool} {p : Option Addr} {m c : Nat} {z : Int} (h : ZN w s p m c z) : m ≤ 8192 := by
  obtain ⟨xs, hx⟩ := h.ex
  exact hx.le
theorem ZN.cast {w : World} {s : Bool} {p : Option Addr} {m c : Nat} {z z' : Int} (h : ZN w s p m c z) (e : z = z') : ZN w s p m c z' := e ▸ h
theorem ZN.of {w : World} {p : Option Addr} {m c : Nat} {xs : List Nat} {a : Nat} {t : Bool} (h : Num w p m c xs a) (ht : t = true → 0 < a) : ZN w t p m c (Go.Proofs.YtidggnjnlhjhlaaGreatDoor.iv t a) :=
  ⟨⟨xs, by rw [iv_natAbs]; exact h⟩, by
    cases t
    · rw [iv_f]; exact (decide_eq_false (Int.not_lt.2 (Int.natCast_nonneg _))).symm
    · rw [iv_t]; have := ht rfl; exact (decide_eq_true (by omega)).symm⟩
def Got (w' : World) (e : Ending) (z : Int) : Prop := ∃ s p m, e = .returned (.tuple #[ZV s p m m, .int .i64 0]) ∧ ZN w' s p m m z
theorem AnsZ.zn {B : Nat} {w' : World} {v : Value} {z : Int} (h : AnsZ B w' v z) : ∃ s p m, v = ZV s p m m ∧ ZN w' s p m m z := by
  obtain ⟨p, m, zs, rfl, ho, hn, hm⟩ := h
  exact ⟨_, p, m, rfl, ⟨zs, Num.of ho hn hm⟩, rfl⟩
theorem AnsI.zn {B : Nat} {w' : World} {e : Ending} {z : Int} (h : AnsI B w' e z) : (z.natAbs < LIM ∧ Got w' e z) ∨ (LIM ≤ z.natAbs ∧ e = .returned (.tuple #[ZV false none 0 0, .int .i64 5])) := by
  rcases h with ⟨hl, p, m, zs, rfl, ho, hn, hm⟩ | ⟨hl, rfl⟩
  · exact .inl ⟨hl, _, p, m, rfl, ⟨zs, Num.of ho hn hm⟩, rfl⟩
  · exact .inr ⟨hl, rfl⟩
theorem AnsI.got {B : Nat} {w' : World} {e : Ending} {z : Int} (h : AnsI B w' e z) (hz : z.natAbs < LIM) : Got w' e z := by
  rcases h.zn with ⟨_, k⟩ | ⟨k, _⟩
  · exact k
  · omega
variable {w : World} {s t : Bool} {p q : Option Addr} {m c n d : Nat} {x y : Int}
theorem zadd (h : ZN w s p m c x) (k : ZN w t q n d y) : Calls Tryz.prog 45 #[ZV s p m c, ZV t q n d] w fun e w' => AnsI w.heap.size w' e (x + y) ∧ Below w.heap.size w w' := by
  obtain ⟨xs, hx⟩ := h.ex
  obtain ⟨ys, hy⟩ := k.ex
  have := nadd_any s t hx hy h.pos k.pos
  rwa [h.iv, k.iv] at this
theorem zmul (h : ZN w s p m c x) (k : ZN w t q n d y) : Calls Tryz.prog 48 #[ZV s p m c, ZV t q n d] w fun e w' => AnsI w.heap.size w' e (x * y) ∧ Below w.heap.size w w' := by
  obtain ⟨xs, hx⟩ := h.ex
  obtain ⟨ys, hy⟩ := k.ex
  have := nmul_any s t hx hy h.pos k.pos
  rwa [h.iv, k.iv] at this
theorem zcmp (h : ZN w s p m c x) (k : ZN w t q n d y) : Calls Tryz.prog 118 #[ZV s p m c, ZV t q n d] w fun e w' => e = .returned (.tuple #[.int .i64 (cmpI x y), .int .i64 0]) ∧ Below w.heap.size w w' := by
  obtain ⟨xs, hx⟩ := h.ex
  obtain ⟨ys, hy⟩ := k.ex
  have := ncmp_any s t hx h.pos hy k.pos
  rwa [h.iv, k.iv] at this
theorem zshl (h : ZN w s p m c x) (k : Nat) (hk : k ≤ 9223372036854775807) : Calls Tryz.prog 74 #[ZV s p m c, .int .i64 k] w fun e w' => AnsI w.heap.size w' e (x * 2 ^ k) ∧ Below w.heap.size w w' := by
  obtain ⟨xs, hx⟩ := h.ex
  have := nshl_any s hx h.pos k hk
  rwa [show Go.Proofs.YtidggnjnlhjhlaaGreatDoor.iv s (2 ^ k * x.natAbs) = x * 2 ^ k from by
    have e := h.iv
    rw [show Go.Proofs.YtidggnjnlhjhlaaGreatDoor.iv s (2 ^ k * x.natAbs) = Go.Proofs.YtidggnjnlhjhlaaGreatDoor.iv s x.natAbs * 2 ^ k from by cases s <;> simp [Go.Proofs.YtidggnjnlhjhlaaGreatDoor.iv, Int.mul_comm, Int.neg_mul], e]] at this
theorem zsign (h : ZN w s p m c x) : Calls Tryz.prog 42 #[ZV s p m c] w fun e w' => e = .returned (.int .i64 (sgnI x)) ∧ Below w.heap.size w w' := by
  obtain ⟨xs, hx⟩ := h.ex
  have := sign_any s hx
  rwa [h.iv] at this
theorem zform (h : ZN w s p m c x) : Calls Tryz.prog 71 #[ZV s p m c] w fun e w' => e = .returned (.bool true) ∧ Below w.heap.size w w' := by
  obtain ⟨xs, hx⟩ := h.ex
  exact numform_t s hx h.pos
theorem zof (z : Int) (w : World) (h0 : -9223372036854775808 ≤ z) (h1 : z ≤ 9223372036854775807) : Calls Tryz.prog 56 #[.int .i64 z] w fun e w' => ∃ s p m, e = .returned (ZV s p m m) ∧ ZN w' s p m m z ∧ Below w.heap.size w w' :=
  (of_full z w h0 h1).mono fun e w' ⟨v, he, hv, hb⟩ => by
    obtain ⟨s', p', m', rfl, hz⟩ := hv.zn
    exact ⟨s', p', m', he, hz, hb⟩
theorem rsign04 {p : Option Addr} {m : Nat} {w : World} {z : Int} (s : Bool) (h : ZR w s p m z) :
    Calls Tryz.prog 68 #[.agg #[.bool s, .slice p m m]] w fun e w' => e = .returned (.int .i64 (sgnI z)) ∧ Below w.heap.size w w' := by
  have hz := h.zero
  have hsg := h.sg
  obtain ⟨sg, hs⟩ : ∃ sg, sg = sgnI z := ⟨_, rfl⟩
  rw [← hs]
  by_cases hm : m = 0
  · have hv : sg = 0 := by rw [hs, hz.1 hm]; rfl
    subst hv
    subst hm
    clear h hz hsg hs
    go_enter Tryz.func68, Tryz.ntmps68
    go_wp2_with fail
    go_ret
    exact ⟨rfl, below1 w _⟩
  · have hm0 : ((m : Int) == 0) = false := by simp; omega
    have hz0 : z ≠ 0 := fun e => hm (hz.2 e)
    cases s
    · have hv : sg = 1 := by rw [hs]; unfold sgnI; have := of_decide_eq_false hsg.symm; rw [if_neg this, if_neg hz0]
      subst hv
      clear h hz hsg hs hz0
      go_enter Tryz.func68, Tryz.ntmps68
      go_wp2_with fail
      go_ret
      exact ⟨rfl, below1 w _⟩
    · have hv : sg = -1 := by rw [hs]; unfold sgnI; have := of_decide_eq_true hsg.symm; rw [if_pos this]
      subst hv
      clear h hz hsg hs hz0
      go_enter Tryz.func68, Tryz.ntmps68
      go_wp2_with fail
      go_ret
      exact ⟨rfl, below1 w _⟩
def NewAt (B : Nat) (w : World) (p : Option Addr) (m c : Nat) (us : List Nat) : Prop := At w p m c us ∧ (m = 0 ∨ ∃ g, p = some ⟨g, 0, none⟩ ∧ B ≤ g)
theorem NewAt.below {B : Nat} {w w' : World} {p : Option Addr} {m c : Nat} {us : List Nat} (h : NewAt B w p m c us) (hb : Below w.heap.size w w') : NewAt B w' p m c us := ⟨h.1.below hb, h.2⟩
theorem NewAt.mono {B B' : Nat} {w : World} {p : Option Addr} {m c : Nat} {us : List Nat} (h : NewAt B w p m c us) (hB : B' ≤ B) : NewAt B' w p m c us :=
  ⟨h.1, h.2.imp id (fun ⟨g, e, k⟩ => ⟨g, e, Nat.le_trans hB k⟩)⟩
theorem NewAt.set {B : Nat} {w : World} {p : Option Addr} {m c : Nat} {us : List Nat} (h : NewAt B w p m c us) {r : Nat} (hr : r < B) (o : Nat) (v : Value) : NewAt B (w.setCell ⟨r, o, none⟩ v) p m c us := by
  refine ⟨?_, h.2⟩
  rcases h.2 with h0 | ⟨g, rfl, hg⟩
  · subst h0
    obtain rfl : us = [] := List.eq_nil_of_length_eq_zero h.1.len
    exact At.empty _ _ _ h.1.big
  · exact h.1.setOther _ _ _ (by omega)
def DocZ (z : Int) (s : Bool) (us : List Nat) (er : Int) : Prop :=
  (z.natAbs < LIM ∧ s = decide (z < 0) ∧ Nf B64 us z.natAbs ∧ er = 0) ∨ (LIM ≤ z.natAbs ∧ s = false ∧ us = [] ∧ er = 5)
theorem DocZ.inj {z : Int} {s s' : Bool} {us us' : List Nat} {er er' : Int} (h : DocZ z s us er) (k : DocZ z s' us' er') : s = s' ∧ us = us' ∧ er = er' := by
  rcases h with ⟨h0, rfl, h1, rfl⟩ | ⟨h0, rfl, rfl, rfl⟩ <;> rcases k with ⟨k0, rfl, k1, rfl⟩ | ⟨k0, rfl, rfl, rfl⟩
  · exact ⟨rfl, h1.inj B64_one k1, rfl⟩
  · omega
  · omega
  · exact ⟨rfl, rfl, rfl⟩
def formZ (s : Bool) (xs : List Nat) : Bool := formB xs && !(s && decide (xs = []))
def OneZ (r : Int → Int) (sx : Bool) (xs : List Nat) (s : Bool) (us : List Nat) (er : Int) : Prop :=
  (formZ sx xs = false ∧ s = false ∧ us = [] ∧ er = 2) ∨ (formZ sx xs = true ∧ DocZ (r (iv sx (valB B64 xs))) s us er)
def TwoZ (r : Int → Int → Int) (sx : Bool) (xs : List Nat) (sy : Bool) (ys : List Nat) (s : Bool) (us : List Nat) (er : Int) : Prop :=
  ((formZ sx xs && formZ sy ys) = false ∧ s = false ∧ us = [] ∧ er = 2) ∨ ((formZ sx xs && formZ sy ys) = true ∧ DocZ (r (iv sx (valB B64 xs)) (iv sy (valB B64 ys))) s us er)
theorem OneZ.inj {r : Int → Int} {sx : Bool} {xs : List Nat} {s s' : Bool} {us us' : List Nat} {er er' : Int} (h : OneZ r sx xs s us er) (k : OneZ r sx xs s' us' er') : s = s' ∧ us = us' ∧ er = er' := by
  rcases h with ⟨h0, rfl, rfl, rfl⟩ | ⟨h0, h1⟩ <;> rcases k with ⟨k0, rfl, rfl, rfl⟩ | ⟨k0, k1⟩
  · exact ⟨rfl, rfl, rfl⟩
  · rw [h0] at k0; cases k0
  · rw [h0] at k0; cases k0
  · exact h1.inj k1
theorem TwoZ.inj {r : Int → Int → Int} {sx sy : Bool} {xs ys : List Nat} {s s' : Bool} {us us' : List Nat} {er er' : Int} (h : TwoZ r sx xs sy ys s us er) (k : TwoZ r sx xs sy ys s' us' er') : s = s' ∧ us = us' ∧ er = er' := by
  rcases h with ⟨h0, rfl, rfl, rfl⟩ | ⟨h0, h1⟩ <;> rcases k with ⟨k0, rfl, rfl, rfl⟩ | ⟨k0, k1⟩
  · exact ⟨rfl, rfl, rfl⟩
  · rw [h0] at k0; cases k0
  · rw [h0] at k0; cases k0
  · exact h1.inj k1
theorem rshl_nil {p : Option Addr} {c : Nat} {w : World} (hc : c ≤ maxLen) (k : Int) :
    Calls Tryz.prog 133 #[.slice p 0 c, .int .i64 k] w fun e w' => ∃ g, e = .returned (.slice (some ⟨g, 0, none⟩) 0 0) ∧ At32 w' (some ⟨g, 0, none⟩) 0 0 [] ∧ Below w.heap.size w w' := by
  have HC : Hid (c ≤ maxLen) := hc
  clear hc
  by_cases h0 : k ≤ 0
  · have h1 : ¬ 0 < k := by omega
    go_enter Tryz.func133, Tryz.ntmps133
    go_wp2_with fail
    refine (rnorm_any (At32.empty w p c HC.out) (by omega)).mono ?_
    rintro e w1 ⟨g, rfl, hg, hblk, hb⟩
    go_wp2_with fail
    go_ret
    exact ⟨g, rfl, At32.empty _ _ _ (by decide), hb⟩
  · have h1 : 0 < k := by omega
    go_enter Tryz.func133, Tryz.ntmps133
    go_wp2_with fail
    refine (rnorm_any (At32.empty w p c HC.out) (by omega)).mono ?_
    rintro e w1 ⟨g, rfl, hg, hblk, hb⟩
    go_wp2_with fail
    go_ret
    exact ⟨g, rfl, At32.empty _ _ _ (by decide), hb⟩
theorem rshl_all {p : Option Addr} {n : Nat} {xs : List Nat} {a : Nat} {w : World} (h : At32 w p n n xs) (hx : Nf B32 xs a) (hn : n ≤ 16384) (k : Nat) (hk : k ≤ 524288 ∨ a = 0) :
    Calls Tryz.prog 133 #[.slice p n n, .int .i64 k] w fun e w' => ∃ p' m' zs, e = .returned (.slice p' m' m') ∧ At32 w' p' m' m' zs ∧ Nf B32 zs (a * 2 ^ k) ∧ m' ≤ 40000 ∧ Below w.heap.size w w' := by
  rcases Nat.eq_zero_or_pos n with h0 | h0
  · subst h0
    have ha : a = 0 := (hx.zero_iff B32_one).1 (List.eq_nil_of_length_eq_zero h.len)
    refine (rshl_nil (by unfold maxLen; omega) (k : Int)).mono ?_
    rintro e w' ⟨g, he, hA, hb⟩
    exact ⟨_, 0, [], he, hA, by rw [ha, Nat.zero_mul]; exact Nf.nil _, by omega, hb⟩
  · refine rshl_any h hx h0 hn k (hk.resolve_right fun e => ?_)
    have := (hx.zero_iff B32_one).2 e
    rw [this] at h
    have := h.len
    simp at this
    omega
abbrev F64t : Value := FV 9223372036854775808 53 (-1074) 971 9218868437227405312 9221120237041090561
theorem rparts_64nt (s : Nat) (hs : 4503599627370496 ≤ s) (hs9 : s < 9223372036854775808) (w : World) : Calls Tryz.prog 131 #[F64t, U s] w fun e w' => e = .returned (.tuple #[U (s - (s / 4503599627370496 - 1) * 4503599627370496), .int .i64 ((-1074) + ((s / 4503599627370496 - 1 : Nat) : Int))]) ∧ Below w.heap.size w w' := by
  obtain ⟨z, hz⟩ : ∃ z, z = s / 4503599627370496 := ⟨_, rfl⟩
  obtain ⟨r, hr⟩ : ∃ r, r = s % 4503599627370496 := ⟨_, rfl⟩
  have d1 : (s : Int).tdiv 4503599627370496 = (z : Int) := by rw [Int.tdiv_eq_ediv_of_nonneg (by omega)]; omega
  have d2 : (s : Int).tmod 4503599627370496 = (r : Int) := by rw [Int.tmod_eq_emod_of_nonneg (by omega)]; omega
  have d3 : IntKind.u64.wrap (z : Int) = (z : Int) := by rw [IntKind.wrap_u64]; omega
  have d4 : IntKind.u64.wrap (r : Int) = (r : Int) := by rw [IntKind.wrap_u64]; omega
  have hzb : ((z : Int) == 0) = false := by simp; omega
  obtain ⟨y, hy⟩ : ∃ y, y = s - (z - 1) * 4503599627370496 := ⟨_, rfl⟩
  obtain ⟨x, hx⟩ : ∃ x : Int, x = (-1074) + ((z - 1 : Nat) : Int) := ⟨_, rfl⟩
  obtain ⟨x1, hx1⟩ : ∃ x1 : Int, x1 = (-1074) + (z : Int) := ⟨_, rfl⟩
  rw [← hz, ← hy, ← hx]
  have d5 : IntKind.u64.wrap (4503599627370496 + (r : Int)) = (y : Int) := by rw [IntKind.wrap_u64]; omega
  have d6 : IntKind.i64.wrap (z : Int) = (z : Int) := by simp [IntKind.wrap, IntKind.signed, IntKind.bits]; omega
  have d7 : IntKind.i64.wrap ((-1074) + (z : Int)) = x1 := by rw [hx1]; simp [IntKind.wrap, IntKind.signed, IntKind.bits]; omega
  have d8 : IntKind.i64.wrap (x1 - 1) = x := by simp [IntKind.wrap, IntKind.signed, IntKind.bits]; omega
  clear hz hr hs hs9 hy hx hx1
  go_enter Tryz.func131, Tryz.ntmps131
  go_wp2_with fail
  go_quiet (fail)
  go_wp2_with fail
  go_quiet (fail)
  go_wp2_with fail
  go_ret2
  exact ⟨rfl, bwDrewN (bwDrewN (bwAlloc w _) _) _⟩
theorem rparts_640t (s : Nat) (hs : s < 4503599627370496) (w : World) : Calls Tryz.prog 131 #[F64t, U s] w fun e w' => e = .returned (.tuple #[U s, .int .i64 (-1074)]) ∧ Below w.heap.size w w' := by
  obtain ⟨z, hz⟩ : ∃ z, z = s / 4503599627370496 := ⟨_, rfl⟩
  obtain ⟨r, hr⟩ : ∃ r, r = s % 4503599627370496 := ⟨_, rfl⟩
  have d1 : (s : Int).tdiv 4503599627370496 = (z : Int) := by rw [Int.tdiv_eq_ediv_of_nonneg (by omega)]; omega
  have d2 : (s : Int).tmod 4503599627370496 = (r : Int) := by rw [Int.tmod_eq_emod_of_nonneg (by omega)]; omega
  have d3 : IntKind.u64.wrap (z : Int) = (z : Int) := by rw [IntKind.wrap_u64]; omega
  have d4 : IntKind.u64.wrap (r : Int) = (r : Int) := by rw [IntKind.wrap_u64]; omega
  have hz0 : z = 0 := by omega
  have hrs : r = s := by omega
  subst hz0
  subst hrs
  clear hz hr hs
  go_enter Tryz.func131, Tryz.ntmps131
  go_wp2_with fail
  go_quiet (fail)
  go_wp2_with fail
  go_quiet (fail)
  go_wp2_with fail
  go_ret2
  exact ⟨rfl, bwDrewN (bwDrewN (bwAlloc w _) _) _⟩
theorem rparts_all64 (s : Nat) (hs9 : s < 9223372036854775808) (w : World) : Calls Tryz.prog 131 #[F64t, U s] w fun e w' => e = .returned (.tuple #[U (s - (s / 4503599627370496 - 1) * 4503599627370496), .int .i64 ((-1074) + ((s / 4503599627370496 - 1 : Nat) : Int))]) ∧ Below w.heap.size w w' := by
  by_cases h : s < 4503599627370496
  · have h1 : s / 4503599627370496 = 0 := Nat.div_eq_of_lt h
    rw [h1, show 0 - 1 = 0 from rfl, Nat.zero_mul, Nat.sub_zero, show ((-1074 : Int) + ((0 : Nat) : Int)) = -1074 from rfl]
    exact rparts_640t s h w
  · exact rparts_64nt s (by omega) (by omega) w
theorem zr_len9 {w : World} {s : Bool} {p : Option Addr} {m : Nat} {z : Int} (h : ZR w s p m z) {L : Nat} (hL : z.natAbs < 2 ^ L) : m ≤ L := by
  obtain ⟨zs, hA, hN⟩ := h.ex
  have h1 := (hN.len_le B32_one (k := L)).2 (Nat.lt_of_lt_of_le hL (Nat.pow_le_pow_left (by decide) L))
  rw [hA.len] at h1
  exact h1
theorem GotR.len9 {B : Nat} {w : World} {v : Value} {z : Int} {L L' : Nat} (h : GotR B w v z L) (hL : z.natAbs < 2 ^ L') : GotR B w v z L' := by
  obtain ⟨s, g, m, h1, h2, h3, _⟩ := h
  exact ⟨s, g, m, h1, h2, h3, zr_len9 h3 hL⟩
theorem svS_lt {S H : Nat} (b : Nat) {L a c : Nat} (hH : H ≤ 2 ^ a) (h0 : 0 < H) (hS : S ≤ c * H) (hS0 : 0 < S) (hL : a + c ≤ L) : (svS S H b).natAbs < 2 ^ L := by
  rw [svS_eq]
  have h1 : (if S ≤ b then -(vs H (b % S) : Int) else (vs H (b % S) : Int)).natAbs = vs H (b % S) := by split <;> omega
  rw [h1]
  have h2 : b % S < c * H := Nat.lt_of_lt_of_le (Nat.mod_lt _ hS0) hS
  have h3 : b % S / H < c := (Nat.div_lt_iff_lt_mul h0).2 h2
  have e1 := Nat.div_add_mod (b % S) H
  have e2 := Nat.mod_lt (b % S) h0
  rw [Nat.mul_comm] at e1
  have h4 : b % S - (b % S / H - 1) * H < 2 * H := by
    by_cases e3 : b % S / H = 0
    · rw [e3] at e1 ⊢; omega
    · rw [Nat.sub_mul]; omega
  unfold vs
  have h5 : 2 ^ (b % S / H - 1) ≤ 2 ^ (c - 1) := Nat.pow_le_pow_right (by decide) (by generalize b % S / H = t at h3 ⊢; omega)
  have h6 : 0 < 2 ^ (b % S / H - 1) := Nat.two_pow_pos _
  refine Nat.lt_of_lt_of_le (Nat.mul_lt_mul_of_pos_right h4 h6) (Nat.le_trans (Nat.mul_le_mul (Nat.mul_le_mul_left 2 hH) h5) ?_)
  rw [← Nat.pow_succ', ← Nat.pow_add]
  have h7 : 1 ≤ c := Nat.lt_of_le_of_lt (Nat.zero_le _) h3
  exact Nat.pow_le_pow_right (by decide) (by omega)
theorem rwhole_64 {b : Nat} (w : World) :
    Calls Tryz.prog 122 #[FV 9223372036854775808 53 (-1074) 971 9218868437227405312 9221120237041090561, U b] w fun en w' => ∃ v, en = .returned v ∧ GotR w.heap.size w' v (svS 9223372036854775808 4503599627370496 b) 2200 ∧ Below w.heap.size w w' := by
  obtain ⟨q, hq⟩ : ∃ q, q = b % 9223372036854775808 / 4503599627370496 - 1 := ⟨_, rfl⟩
  obtain ⟨man, hman⟩ : ∃ man, man = b % 9223372036854775808 - q * 4503599627370496 := ⟨_, rfl⟩
  obtain ⟨neg, hneg⟩ : ∃ neg, neg = decide (9223372036854775808 ≤ b) := ⟨_, rfl⟩
  obtain ⟨s, hs⟩ : ∃ s, s = b % 9223372036854775808 := ⟨_, rfl⟩
  have hv : iv neg (man * 2 ^ q) = svS 9223372036854775808 4503599627370496 b := by
    rw [svS_eq, hneg, show vs 4503599627370496 (b % 9223372036854775808) = man * 2 ^ q from by unfold vs; rw [← hq, ← hman]]
    by_cases h : 9223372036854775808 ≤ b
    · rw [if_pos h, decide_eq_true h]; rfl
    · rw [if_neg h, decide_eq_false h]; rfl
  have hq9 : q ≤ 2048 := by omega
  have e1 : IntKind.i64.wrap ((-1074 : Int) + (q : Int) - (-1074)) = (q : Int) := by simp [IntKind.wrap, IntKind.signed, IntKind.bits]; omega
  obtain ⟨ex, hex⟩ : ∃ ex : Int, ex = (-1074 : Int) + (q : Int) := ⟨_, rfl⟩
  rw [← hex] at e1
  have e2 : wrap64 (ex + 1074) = (q : Int) := by rw [hex]; simp only [wrap64]; omega
  have e3 : IntKind.i64.wrap (ex + 1074) = (q : Int) := by rw [hex]; simp [IntKind.wrap, IntKind.signed, IntKind.bits]; omega
  have HV : Hid (iv neg (man * 2 ^ q) = svS 9223372036854775808 4503599627370496 b ∧ q ≤ 2048 ∧ man < B64 ∧ b % 9223372036854775808 = s ∧ decide (9223372036854775808 ≤ b) = neg ∧ s < 9223372036854775808 ∧ s / 4503599627370496 - 1 = q ∧ s - q * 4503599627370496 = man ∧ (-1074 : Int) + (q : Int) = ex) := ⟨hv, hq9, by rw [B64_eq]; omega, hs.symm, hneg.symm, by omega, by rw [hs]; exact hq.symm, by rw [hs]; exact hman.symm, hex.symm⟩
  clear hq hman hneg hs hv hq9 hex
  go_enter Tryz.func122, Tryz.ntmps122
  go_wp2_with fail
  obtain ⟨W0, hW0⟩ : ∃ W0, W0 = ((w.alloc (.cells #[U 9223372036854775808, .int .i64 53, .int .i64 (-1074), .int .i64 971, U 9218868437227405312, U 9221120237041090561] 119)).alloc (.cells #[.bool false, .slice none 0 0] 87)) := ⟨_, rfl⟩
  have Xk : Hid (B6q W0 (w.heap.size) (U 9223372036854775808) (.int .i64 53) (.int .i64 (-1074)) (.int .i64 971) (U 9218868437227405312) (U 9221120237041090561)) := by rw [hW0]; exact ⟨by go_simp, by go_simp, by go_simp, by go_simp, by go_simp, by go_simp, by go_simp, by go_simp, by go_simp, by go_simp, by go_simp, by go_simp⟩
  have Xr : Hid (Box W0 (w.heap.size + 1) (.bool false) (.slice none 0 0)) := by rw [hW0]; exact ⟨by go_simp, by go_simp, by go_simp, by go_simp⟩
  have hb0 : Below w.heap.size w W0 := by rw [hW0]; exact below2 w _ _
  rw [← hW0]
  clear hW0
  have hbw : Below w.heap.size w w := Below.refl _ _
  obtain ⟨gr, hgr⟩ : ∃ g, g = w.heap.size + 1 := ⟨_, rfl⟩
  have HGr : Hid (w.heap.size ≤ gr) := by rw [hgr]; show _ ≤ _; omega
  rw [← hgr] at Xr
  try rw [← hgr]
  obtain ⟨gk, hgk⟩ : ∃ g, g = w.heap.size := ⟨_, rfl⟩
  have HGk : Hid (w.heap.size ≤ gk) := by rw [hgk]; show _ ≤ _; omega
  rw [← hgk] at Xk
  try rw [← hgk]
  have HGD : Hid (gk ≠ gr ∧ gr ≠ gk) := by rw [hgk, hgr]; exact ⟨by omega, by omega⟩
  clear hgk hgr
  replace hbw := Below.on hbw hb0
  clear hb0
  refine (cut_any (by decide) (by decide) b _).mono ?_
  rintro e v1 ⟨rfl, hb1⟩
  rw [HV.out.2.2.2.1, HV.out.2.2.2.2.1]
  replace Xk : Hid _ := Xk.out.below hb1
  replace Xr : Hid _ := Xr.out.below hb1
  replace hbw := Below.on hbw hb1
  clear hb1
  obtain ⟨ck0, ck1, ck2, ck3, ck4, ck5, fk0, fk1, fk2, fk3, fk4, fk5⟩ := Xk.out
  have hnek : gk < v1.heap.size := World.block_lt_of_cell? v1 _ ck0
  go_wp2_with fail
  clear ck0 ck1 ck2 ck3 ck4 ck5 fk0 fk1 fk2 fk3 fk4 fk5 hnek
  refine (rparts_all64 s HV.out.2.2.2.2.2.1 _).mono ?_
  rintro e v2 ⟨rfl, hb2⟩
  rw [HV.out.2.2.2.2.2.2.1, HV.out.2.2.2.2.2.2.2.1, HV.out.2.2.2.2.2.2.2.2]
  replace Xk : Hid _ := Xk.out.below hb2
  replace Xr : Hid _ := Xr.out.below hb2
  replace hbw := Below.on hbw hb2
  clear hb2
  obtain ⟨ck0, ck1, ck2, ck3, ck4, ck5, fk0, fk1, fk2, fk3, fk4, fk5⟩ := Xk.out
  have hnek : gk < v2.heap.size := World.block_lt_of_cell? v2 _ ck0
  go_wp2_with fail
  clear ck0 ck1 ck2 ck3 ck4 ck5 fk0 fk1 fk2 fk3 fk4 fk5 hnek
  obtain ⟨W1, hW1⟩ : ∃ W1, W1 = v2.drew := ⟨_, rfl⟩
  have hbd : Below v2.heap.size v2 W1 := by rw [hW1]; exact bDrew1 (Below.refl _ _)
  replace Xk : Hid _ := Xk.out.below hbd
  replace Xr : Hid _ := Xr.out.below hbd
  replace hbw := Below.on hbw hbd
  clear hbd
  have HJ : Hid ((fun W' : World => W'.cell? ⟨gk, 2, none⟩ = some (.int .i64 (-1074)) ∧ W'.cell? ⟨gk, 1, none⟩ = some (.int .i64 53)) W1) := ⟨Xk.out.c2, Xk.out.c1⟩
  refine wp_region_J (fun W' => W'.cell? ⟨gk, 2, none⟩ = some (.int .i64 (-1074)) ∧ W'.cell? ⟨gk, 1, none⟩ = some (.int .i64 53)) (by kernel_rfl) ?_
  rw [← hW1]
  clear hW1
  refine wpJ_tq 0 rfl HJ.out ?_
  refine wpJ_tq 1 rfl HJ.out ?_
  refine wpJ_tq 3 rfl HJ.out ?_
  refine wpJ_tq 4 rfl HJ.out ?_
  refine wpJ_tq 5 rfl HJ.out ?_
  refine wpJ_tq 6 rfl HJ.out ?_
  refine wpJ_on 2 rfl fun KJ hK => ?_
  go_simp
  refine (rword man HV.out.2.2.1 _).mono ?_
  rintro e v5 ⟨g5, z5, rfl, hl5, hA5, hN5, hb5⟩
  replace Xk : Hid _ := Xk.out.below hb5
  replace Xr : Hid _ := Xr.out.below hb5
  replace hbw := Below.on hbw hb5
  clear hb5
  have A5 : Hid (At32 v5 (some ⟨g5, 0, none⟩) z5.length z5.length z5) := hA5
  have N5 : Hid (Nf B32 z5 man ∧ z5.length ≤ 2) := ⟨hN5, hl5⟩
  clear hA5 hN5 hl5
  obtain ⟨l5, hl5⟩ : ∃ l5, l5 = z5.length := ⟨_, rfl⟩
  rw [← hl5] at A5 N5 ⊢
  clear hl5
  refine hK _ _ ⟨Xk.out.c2, Xk.out.c1⟩ ?_
  clear hK
  refine wpJ_on 7 rfl fun KJ hK => ?_
  go_simp
  refine (rshl_all A5.out N5.out.1 (by have := N5.out.2; omega) q (.inl (by have := HV.out.2.1; omega))).mono ?_
  rintro e v6 ⟨p6, m6, z6, rfl, hA6, hN6, hm6, hb6⟩
  replace Xk : Hid _ := Xk.out.below hb6
  replace Xr : Hid _ := Xr.out.below hb6
  replace A5 : Hid _ := A5.out.below hb6
  replace hbw := Below.on hbw hb6
  clear hb6
  clear A5
  have A6 : Hid (At32 v6 p6 m6 m6 z6) := hA6
  have N6 : Hid (Nf B32 z6 (man * 2 ^ q) ∧ m6 ≤ 40000) := ⟨hN6, hm6⟩
  clear hA6 hN6 hm6 N5
  refine hK _ _ ⟨Xk.out.c2, Xk.out.c1⟩ ?_
  clear hK
  have HRL : Hid (gr < v6.heap.size ∧ w.heap.size ≤ v6.heap.size) := ⟨Xr.out.lt, hbw.size⟩
  refine wpJ_on 8 rfl fun KJ hK => ?_
  go_simp
  refine (rmk_any neg A6.out N6.out.1 (by have := N6.out.2; omega)).mono ?_
  rintro e v7 ⟨v, rfl, hv, hb7⟩
  rw [HV.out.1] at hv
  obtain ⟨LL, hLL⟩ : ∃ LL : Nat, LL = 2200 := ⟨_, rfl⟩
  obtain ⟨s7, g7, m7, rfl, hg7, hz7, hl7⟩ := hv.len9 (L' := LL) (svS_lt b (a := 52) (c := 2048) (by decide) (by decide) (by decide) (by decide) (by omega))
  rw [hLL] at hl7
  clear hLL
  have HN7 : Hid (v6.heap.size ≤ g7) := hg7
  replace Xk : Hid _ := Xk.out.below hb7
  replace Xr : Hid _ := Xr.out.below hb7
  replace A6 : Hid _ := A6.out.below hb7
  replace hbw := Below.on hbw hb7
  clear hb7
  clear A6
  have Z7 : Hid (ZR v7 s7 (some ⟨g7, 0, none⟩) m7 (svS 9223372036854775808 4503599627370496 b)) := hz7
  have HL7 : Hid (m7 ≤ 2200) := hl7
  clear hv hg7 hz7 hl7 N6
  refine hK _ _ ⟨Xk.out.c2, Xk.out.c1⟩ ?_
  clear hK
  obtain ⟨cr0, cr1, fr0, fr1⟩ := Xr.out
  have hner := Xr.out.lt
  obtain ⟨ck0, ck1, ck2, ck3, ck4, ck5, fk0, fk1, fk2, fk3, fk4, fk5⟩ := Xk.out
  have hnek : gk < v7.heap.size := World.block_lt_of_cell? v7 _ ck0
  obtain ⟨hgd0, hgd1⟩ := HGD.out
  refine wpJ_on 9 rfl fun KJ hK => ?_
  go_simp
  have HJ2 : Hid ((fun W' : World => W'.cell? ⟨gk, 2, none⟩ = some (.int .i64 (-1074)) ∧ W'.cell? ⟨gk, 1, none⟩ = some (.int .i64 53)) ((v7.setCell ⟨gr, 0, none⟩ (.bool s7)).setCell ⟨gr, 1, none⟩ (.slice (some ⟨g7, 0, none⟩) m7 m7))) := ⟨by go_simp, by go_simp⟩
  refine hK _ _ HJ2.out ?_
  clear hK HJ
  have HJ := HJ2
  clear HJ2
  refine wpJ_done (by kernel_rfl) ?_ _
  clear HJ
  go_wp2_with fail
  refine bodyPost_ret (v := .agg #[.bool s7, .slice (some ⟨g7, 0, none⟩) m7 m7]) (by rw [results_cell1 rfl]; go_simp) rfl ⟨_, rfl, ⟨s7, g7, m7, rfl, Nat.le_trans HRL.out.2 HN7.out, ?_, HL7.out⟩, ?_⟩
  · have := HN7.out; have := HRL.out.1
    exact (Z7.out.set _ _ _ (by omega)).set _ _ _ (by omega)
  · exact bSet (bSet hbw _ _ _ HGr.out) _ _ _ HGr.out
end Go.Proofs.YtidggnjnlhjhlaaGreatDoor
namespace Go.Proofs.YtidggnjnlhjhlaaGreatDoor
open Go.RowKit
set_option maxRecDepth 20000
set_option maxHeartbeats 0
structure Pm64 (V : Int) (r : Nat) : Prop where
  fin : Fin64 r
  size : r % 9223372036854775808 = rg 1074 V.natAbs
  sign : V ≠ 0 → (9223372036854775808 ≤ r ↔ V < 0)
  rn : ∀ c, c = 1074 → Rn 53 V (ux r * ((2 ^ c : Nat) : Int))
theorem FlR.big {x y r : Nat} (h : FlR .mul x y r) (hx : Fin64 x) (hy : Fin64 y) (h1 : 1126 ≤ (ux x * ux y).natAbs.log2) (h2 : (ux x * ux y).natAbs.log2 ≤ 3169) : Pm64 (ux x * ux y) r := by
  have hr := fmul_any hx hy
  rw [← Int.natAbs_mul] at hr
  have hV0 : ux x * ux y ≠ 0 := fun h0 => by rw [h0] at h1; simp at h1
  rw [mul_sign hV0] at hr
  have hr := h.some _ hr
  generalize ux x * ux y = V at *
  obtain ⟨N, hN⟩ : ∃ N, N = V.natAbs := ⟨_, rfl⟩
  have hN0 : N ≠ 0 := by omega
  rw [← hN] at h1 h2 hr
  have hl : 2 ^ N.log2 ≤ N := Nat.log2_self_le hN0
  have hu : N < 2 ^ (N.log2 + 1) := Nat.lt_log2_self
  obtain ⟨L, hL⟩ : ∃ L, L = N.log2 - 52 := ⟨_, rfl⟩
  have hk1 : rne N L ≤ 9007199254740992 := by
    refine rne_le N L _ (Nat.le_of_lt (Nat.lt_of_lt_of_le hu ?_))
    rw [show 9007199254740992 = 2 ^ 53 by decide, ← Nat.pow_add]
    exact p2le (by omega)
  have hk2 : 4503599627370496 ≤ rne N L := by
    refine le_rne N L _ (Nat.le_trans ?_ hl)
    rw [show 4503599627370496 = 2 ^ 52 by decide, ← Nat.pow_add]
    exact p2le (by omega)
  have hg : rgc 1074 N = (L - 1074) * 4503599627370496 + rne N L := by
    unfold rgc
    rw [if_neg hN0, ← hL, Nat.max_eq_left (by omega), Nat.min_eq_left (by omega)]
  have hg2 : rg 1074 N = rgc 1074 N := by
    rw [hg]; unfold rg
    rw [if_neg hN0, ← hL, Nat.min_eq_left (by omega)]
  have hlt : rgc 1074 N < 9218868437227405312 := by rw [hg]; omega
  obtain ⟨wa, wb, wc⟩ := word_facts (decide (V < 0)) hlt
  rw [← hr] at wa wb wc
  refine ⟨⟨wa, by rw [wb]; exact hlt⟩, by rw [wb, ← hN, hg2], fun _ => ?_, fun c hc => ?_⟩
  · have e4 : Ieee.double.signWeight = 9223372036854775808 := by decide
    rw [hr]
    unfold Ieee.Format.word
    rw [e4]
    by_cases h2 : V < 0
    · simp [h2]
    · simp [h2]; omega
  · have hvs : vs 4503599627370496 (rgc 1074 N) * 2 ^ c = rne N L * 2 ^ L := by
      rw [hg, vs_at _ _ (.inr hk2) hk1, Nat.mul_assoc, ← Nat.pow_add, show L - 1074 + c = L by omega]
    have hR : Rn 53 (N : Int) ((rne N L * 2 ^ L : Nat) : Int) := by
      refine rn_mk (L := L) (by omega) ⟨rne N L, by rw [Int.natCast_mul, Int.mul_comm]⟩ ?_ (rne_err N L) (.inr ?_)
      · rw [Int.natAbs_natCast, Nat.pow_add]
        exact Nat.mul_le_mul_right _ hk1
      · rw [Int.natAbs_natCast]
        exact Nat.le_trans (p2le (by omega)) hl
    rw [wc]
    by_cases h3 : V < 0
    · rw [decide_eq_true h3, if_pos rfl, Int.neg_mul, ← Int.natCast_mul, hvs]
      have := hR.neg
      rw [hN, show -((V.natAbs : Nat) : Int) = V by omega, ← hN] at this
      exact this
    · rw [decide_eq_false h3]
      simp only [Bool.false_eq_true, if_false]
      rw [← Int.natCast_mul, hvs]
      rw [show (N : Int) = V by omega] at hR
      exact hR
theorem ux_split {c : Nat} (hc : c = 1074) : ux 4728779608772575232 = 134217729 * ((2 ^ c : Nat) : Int) := by
  have h1 : 4728779608772575232 / 4503599627370496 - 1 = c - 25 := by rw [hc]
  have h2 : 4728779608772575232 - (c - 25) * 4503599627370496 = 134217729 * 33554432 := by rw [hc]
  have h3 : 2 ^ c = 33554432 * 2 ^ (c - 25) := by
    rw [show (33554432 : Nat) = 2 ^ 25 by decide, ← Nat.pow_add]
    congr 1
    omega
  rw [ux_eq, if_neg (by decide)]
  unfold vs
  rw [show 4728779608772575232 % 9223372036854775808 = 4728779608772575232 by decide, h1, h2, h3, Nat.mul_assoc, Int.natCast_mul]
  rfl
theorem fin_split : Fin64 4728779608772575232 := ⟨by decide, by decide⟩
structure Hlv (a h l : Nat) (i : Nat) : Prop where
  lo : 2 ^ (52 + i) ≤ (ux a * ((2 ^ 53 : Nat) : Int)).natAbs
  hi : (ux a * ((2 ^ 53 : Nat) : Int)).natAbs < 2 ^ (53 + i)
  dh : ((2 ^ (27 + i) : Nat) : Int) ∣ ux h * ((2 ^ 53 : Nat) : Int)
  da : ((2 ^ i : Nat) : Int) ∣ ux a * ((2 ^ 53 : Nat) : Int)
  ll : (ux l * ((2 ^ 53 : Nat) : Int)).natAbs ≤ 2 ^ (26 + i)
  lh : (ux h * ((2 ^ 53 : Nat) : Int)).natAbs ≤ 2 ^ (53 + i)
  eq : ux l = ux a - ux h
  sm : 67108864 * (ux l).natAbs < (ux a).natAbs
theorem SPR.ok {a h l : Nat} (k : SPR a h l) (ha : a < 18446744073709551616) (ka : a % 9223372036854775808 ≤ 9088264048033660928) :
    Fin64 h ∧ Fin64 l ∧ ((ux a = 0 ∧ ux h = 0 ∧ ux l = 0) ∨ ∃ i, Hlv a h l i) := by
  obtain ⟨c, d, F1, F2, F3, F4⟩ := k
  have fa : Fin64 a := ⟨ha, by omega⟩
  obtain ⟨K, hK⟩ : ∃ K, K = 2044 := ⟨_, rfl⟩
  obtain ⟨J, hJ⟩ : ∃ J, J = 2017 := ⟨_, rfl⟩
  have ma : (ux a).natAbs ≤ 2 ^ (52 + J) := ux_pow (by omega)
  obtain ⟨M, hM⟩ : ∃ M, M = 2 ^ (52 + K) := ⟨_, rfl⟩
  obtain ⟨m3, m2⟩ := max_big hK hM
  have hMJ : M = 134217728 * 2 ^ (52 + J) := by
    rw [hM, show (134217728 : Nat) = 2 ^ 27 by decide, ← Nat.pow_add]
    congr 1
    omega
  have m4 : 2 ^ (54 + K) = 4 * M := by rw [show 54 + K = 53 + K + 1 by omega, p2succ, m2]; omega
  obtain ⟨q, hq⟩ : ∃ q, q = 1074 := ⟨_, rfl⟩
  have S1 := F1.mul fin_split fa (X := 134217729 * ux a) hq (by rw [ux_split hq, Int.mul_assoc, Int.mul_comm _ (ux a), ← Int.mul_assoc]) (by omega)
  have bc := S1.rn.bound (K := 53 + K) (by rw [m2]; omega)
  rw [m2] at bc
  have S2 := F2.sub S1.fin fa (by omega)
  have bd := S2.rn.bound (K := 54 + K) (by rw [m4]; omega)
  rw [m4] at bd
  have e2 := S2.rn.near1 (M := M) (by omega)
  have S3 := F3.sub S1.fin S2.fin (by omega)
  have bh := S3.rn.bound (K := 53 + K) (by rw [m2]; omega)
  rw [m2] at bh
  have S4 := F4.sub fa S3.fin (by omega)
  refine ⟨S3.fin, S4.fin, ?_⟩
  by_cases h0 : ux a = 0
  · have z1 := S1.rn
    rw [h0, Int.mul_zero] at z1
    have z1 := z1.ex (Fl.zero 53)
    have z2 := S2.rn
    rw [z1, h0, Int.sub_zero] at z2
    have z2 := z2.ex (Fl.zero 53)
    have z3 := S3.rn
    rw [z1, z2, Int.sub_zero] at z3
    have z3 := z3.ex (Fl.zero 53)
    have z4 := S4.rn
    rw [h0, z3, Int.sub_zero] at z4
    exact .inl ⟨h0, z3, z4.ex (Fl.zero 53)⟩
  · refine .inr ?_
    have hA : 2 ^ 53 ≤ (ux a * ((2 ^ 53 : Nat) : Int)).natAbs := by
      rw [abs_mul2]
      have := Nat.mul_le_mul_right (2 ^ 53) (show 1 ≤ (ux a).natAbs by omega)
      omega
    obtain ⟨i, i1, i2⟩ := place (show 1 ≤ 53 by omega) (ux a * ((2 ^ 53 : Nat) : Int))
    have i2 : 2 ^ (52 + i) ≤ (ux a * ((2 ^ 53 : Nat) : Int)).natAbs := by
      rcases i2 with h | h
      · subst h; exact Nat.le_trans (p2le (by omega)) hA
      · exact h
    have r1 := S1.rn.scale (by omega) 53
    have r2 := S2.rn.scale (by omega) 53
    have r3 := S3.rn.scale (by omega) 53
    have r4 := S4.rn.scale (by omega) 53
    rw [Int.mul_assoc] at r1
    rw [Int.sub_mul] at r2 r3 r4
    obtain ⟨v1, v2, v3, v4, v5, v6, v7⟩ := veltkamp i2 i1 (fa.fl.scale 53) r1 r2 r3 r4
    have e5 : ux l = ux a - ux h := by
      rw [← Int.sub_mul] at v5
      exact Int.eq_of_mul_eq_mul_right (by decide) v5
    refine ⟨i, i2, i1, v1, v2, by rw [v5]; exact v3, v4, e5, ?_⟩
    rw [← Int.sub_mul, abs_mul2, abs_mul2, ← Nat.mul_assoc] at v7
    rw [e5]
    exact Nat.lt_of_mul_lt_mul_right v7
theorem Fl.unscale {p : Nat} {x : Int} {t : Nat} (h : Fl p (x * ((2 ^ t : Nat) : Int))) : Fl p x := by
  obtain ⟨q, h1, h2⟩ := h
  have ht := p2pos t
  rw [abs_mul2] at h2
  rcases Nat.lt_or_ge q t with h3 | h3
  · refine Fl.small (Nat.le_of_mul_le_mul_right (Nat.le_trans h2 ?_) ht)
    rw [← Nat.pow_add]; exact p2le (by omega)
  · obtain ⟨r, rfl⟩ : ∃ r, q = r + t := ⟨q - t, by omega⟩
    refine ⟨r, ?_, ?_⟩
    · rw [Nat.pow_add, Int.natCast_mul] at h1
      exact Int.dvd_of_mul_dvd_mul_right (by omega) h1
    · refine Nat.le_of_mul_le_mul_right (c := 2 ^ t) ?_ ht
      rw [← Nat.pow_add, Nat.add_assoc]; exact h2
theorem dvd_mul2 {x y : Int} {m n : Nat} (hx : ((2 ^ m : Nat) : Int) ∣ x) (hy : ((2 ^ n : Nat) : Int) ∣ y) : ((2 ^ (m + n) : Nat) : Int) ∣ x * y := by
  rw [Nat.pow_add, Int.natCast_mul]; exact Int.mul_dvd_mul hx hy
theorem le_mul2 {x y : Int} {m n : Nat} (hx : x.natAbs ≤ 2 ^ m) (hy : y.natAbs ≤ 2 ^ n) : (x * y).natAbs ≤ 2 ^ (m + n) := by
  rw [Int.natAbs_mul, Nat.pow_add]; exact Nat.mul_le_mul hx hy
theorem half_prod {u v : Int} {m n k l c t : Nat} (hc : c = 1074) (ht : t = 1180) (du : ((2 ^ m : Nat) : Int) ∣ u * ((2 ^ 53 : Nat) : Int)) (dv : ((2 ^ n : Nat) : Int) ∣ v * ((2 ^ 53 : Nat) : Int)) (lu : (u * ((2 ^ 53 : Nat) : Int)).natAbs ≤ 2 ^ k) (lv : (v * ((2 ^ 53 : Nat) : Int)).natAbs ≤ 2 ^ l) (h1 : 1180 ≤ m + n) (h2 : k + l ≤ 53 + (m + n)) :
    ∃ X : Int, u * v = X * ((2 ^ c : Nat) : Int) ∧ Fl 53 X ∧ X * ((2 ^ t : Nat) : Int) = u * ((2 ^ 53 : Nat) : Int) * (v * ((2 ^ 53 : Nat) : Int)) := by
  have hm : u * ((2 ^ 53 : Nat) : Int) * (v * ((2 ^ 53 : Nat) : Int)) = u * v * ((2 ^ 106 : Nat) : Int) := by
    rw [show ((2 ^ 106 : Nat) : Int) = ((2 ^ 53 : Nat) : Int) * ((2 ^ 53 : Nat) : Int) from rfl, Int.mul_assoc, Int.mul_assoc, ← Int.mul_assoc _ v, Int.mul_comm _ v, Int.mul_assoc]
  have hd := dvd_mul2 du dv
  have hl := le_mul2 lu lv
  have hf : Fl 53 (u * ((2 ^ 53 : Nat) : Int) * (v * ((2 ^ 53 : Nat) : Int))) := ⟨m + n, hd, Nat.le_trans hl (p2le h2)⟩
  rw [hm] at hd hf
  have hd2 : ((2 ^ t : Nat) : Int) ∣ u * v * ((2 ^ 106 : Nat) : Int) := Int.dvd_trans (p2dvd (by omega)) hd
  have e1 : ((2 ^ t : Nat) : Int) = ((2 ^ c : Nat) : Int) * ((2 ^ 106 : Nat) : Int) := by rw [← Int.natCast_mul, ← Nat.pow_add, show c + 106 = t by omega]
  rw [e1] at hd2
  obtain ⟨X, hX0⟩ := Int.dvd_of_mul_dvd_mul_right (by decide) hd2
  have hX : u * v = X * ((2 ^ c : Nat) : Int) := by rw [hX0, Int.mul_comm]
  refine ⟨X, hX, ?_, ?_⟩
  · rw [hX, Int.mul_assoc, ← e1] at hf
    exact hf.unscale
  · rw [hm, hX, Int.mul_assoc, ← e1]
theorem Rn.near2 {x s : Int} {M : Nat} (h : Rn 53 x s) (hs : s.natAbs ≤ 32 * M) : (x - s).natAbs ≤ M := by
  have h1 := h.little (by omega)
  rw [show (2 : Nat) ^ 53 = 9007199254740992 by decide] at h1
  omega
theorem p2x4 (k : Nat) : 2 ^ (k + 2) = 4 * 2 ^ k := by rw [p2succ, p2succ]; omega
theorem p2x8 (k : Nat) : 2 ^ (k + 3) = 8 * 2 ^ k := by rw [p2succ, p2succ, p2succ]; omega
theorem p2x16 (k : Nat) : 2 ^ (k + 4) = 16 * 2 ^ k := by rw [p2succ, p2succ, p2succ, p2succ]; omega
theorem dek_small {x y a b : Int} {k l i j : Nat} (hx : x.natAbs ≤ 2 ^ k) (hy : y.natAbs ≤ 2 ^ l) (ha : 2 ^ (52 + i) ≤ a.natAbs) (hb : 2 ^ (52 + j) ≤ b.natAbs) (h : k + l + 2 ≤ 104 + (i + j)) : 4 * (x * y).natAbs ≤ (a * b).natAbs := by
  have h1 := le_mul2 hx hy
  have h2 : 2 ^ (104 + (i + j)) ≤ (a * b).natAbs := by
    rw [Int.natAbs_mul, show 104 + (i + j) = 52 + i + (52 + j) by omega, Nat.pow_add]; exact Nat.mul_le_mul ha hb
  have h3 : 4 * 2 ^ (k + l) ≤ 2 ^ (104 + (i + j)) := by
    rw [← p2x4]; exact p2le h
  omega
theorem TPR.ok {a b p e : Nat} (h : TPR a b p e) (ha : a < 18446744073709551616) (hb : b < 18446744073709551616) (ka : a % 9223372036854775808 ≤ 9088264048033660928) (kb : b % 9223372036854775808 ≤ 9088264048033660928)
    (hV : ux a * ux b = 0 ∨ ((∀ K, K = 1188 → 2 ^ K ≤ (ux a * ux b).natAbs) ∧ ∀ K, K = 3169 → (ux a * ux b).natAbs ≤ 2 ^ K)) :
    Fin64 p ∧ Fin64 e ∧ (∀ c, c = 1074 → (ux p + ux e) * ((2 ^ c : Nat) : Int) = ux a * ux b) ∧ (ux a * ux b = 0 → ux p = 0 ∧ ux e = 0) ∧ (ux a * ux b ≠ 0 → Pm64 (ux a * ux b) p) := by
  obtain ⟨ah, al, bh, bl, x1, e1, x2, e2, x3, e3, x4, F1, S1, S2, F2, F3, F4, F5, F6, F7, F8, F9⟩ := h
  have fa : Fin64 a := ⟨ha, by omega⟩
  have fb : Fin64 b := ⟨hb, by omega⟩
  obtain ⟨f1, f2, g1⟩ := S1.ok ha ka
  obtain ⟨f3, f4, g2⟩ := S2.ok hb kb
  obtain ⟨c, hc⟩ : ∃ c, c = 1074 := ⟨_, rfl⟩
  by_cases hV0 : ux a * ux b = 0
  · -- a nought among them
    have hz : ∀ {x y r : Nat}, FlR .mul x y r → Fin64 x → Fin64 y → ux x * ux y = 0 → Fin64 r ∧ ux r = 0 := fun F hx hy h0 => by
      have S := F.mul hx hy (X := 0) hc (by rw [h0, Int.zero_mul]) (by simp)
      exact ⟨S.fin, S.rn.ex (Fl.zero 53)⟩
    have hs : ∀ {x y r : Nat}, FlR .add x y r → Fin64 x → Fin64 y → ux x = 0 → ux y = 0 → Fin64 r ∧ ux r = 0 := fun F hx hy h0 h1 => by
      have S := F.add hx hy (by rw [h0, h1]; simp)
      have R := S.rn
      rw [h0, h1, Int.add_zero] at R
      exact ⟨S.fin, R.ex (Fl.zero 53)⟩
    have hd : ∀ {x y r : Nat}, FlR .sub x y r → Fin64 x → Fin64 y → ux x = 0 → ux y = 0 → Fin64 r ∧ ux r = 0 := fun F hx hy h0 h1 => by
      have S := F.sub hx hy (by rw [h0, h1]; simp)
      have R := S.rn
      rw [h0, h1, Int.sub_zero] at R
      exact ⟨S.fin, R.ex (Fl.zero 53)⟩
    have hab : ux ah * ux bh = 0 ∧ ux ah * ux bl = 0 ∧ ux al * ux bh = 0 ∧ ux al * ux bl = 0 := by
      rcases Int.mul_eq_zero.1 hV0 with h0 | h0
      · rcases g1 with ⟨_, z1, z2⟩ | ⟨i, g⟩
        · rw [z1, z2]; simp
        · have := g.sm; rw [h0] at this; simp at this
      · rcases g2 with ⟨_, z1, z2⟩ | ⟨i, g⟩
        · rw [z1, z2]; simp
        · have := g.sm; rw [h0] at this; simp at this
    obtain ⟨y0, z0⟩ := hz F1 fa fb hV0
    obtain ⟨y1, z1⟩ := hz F2 f1 f3 hab.1
    obtain ⟨y2, z2⟩ := hd F3 y1 y0 z1 z0
    obtain ⟨y3, z3⟩ := hz F4 f1 f4 hab.2.1
    obtain ⟨y4, z4⟩ := hs F5 y2 y3 z2 z3
    obtain ⟨y5, z5⟩ := hz F6 f2 f3 hab.2.2.1
    obtain ⟨y6, z6⟩ := hs F7 y4 y5 z4 z5
    obtain ⟨y7, z7⟩ := hz F8 f2 f4 hab.2.2.2
    obtain ⟨y8, z8⟩ := hs F9 y6 y7 z6 z7
    exact ⟨y0, y8, fun c _ => by rw [z0, z8, hV0, Int.add_zero, Int.zero_mul], fun _ => ⟨z0, z8⟩, fun h => absurd hV0 h⟩
  · have hVb := hV.resolve_left hV0
    rcases g1 with ⟨z, _⟩ | ⟨i, ga⟩
    · exact absurd (by rw [z, Int.zero_mul]) hV0
    rcases g2 with ⟨z, _⟩ | ⟨j, gb⟩
    · exact absurd (by rw [z, Int.mul_zero]) hV0
    obtain ⟨k1, hk1⟩ : ∃ K, K = 1188 := ⟨_, rfl⟩
    obtain ⟨k2, hk2⟩ : ∃ K, K = 3169 := ⟨_, rfl⟩
    obtain ⟨t, ht⟩ : ∃ t, t = 1180 := ⟨_, rfl⟩
    have hV1 := hVb.1 k1 hk1
    have hV2 := hVb.2 k2 hk2
    have hm : ux a * ((2 ^ 53 : Nat) : Int) * (ux b * ((2 ^ 53 : Nat) : Int)) = ux a * ux b * ((2 ^ 106 : Nat) : Int) := by
      rw [show ((2 ^ 106 : Nat) : Int) = ((2 ^ 53 : Nat) : Int) * ((2 ^ 53 : Nat) : Int) from rfl, Int.mul_assoc, Int.mul_assoc, ← Int.mul_assoc _ (ux b), Int.mul_comm _ (ux b), Int.mul_assoc]
    have hij : 1188 ≤ i + j := by
      have h1 := le_mul2 (Nat.le_of_lt ga.hi) (Nat.le_of_lt gb.hi)
      rw [hm, abs_mul2] at h1
      have h2 := Nat.le_trans (Nat.mul_le_mul_right (2 ^ 106) hV1) h1
      rw [← Nat.pow_add] at h2
      have h3 : k1 + 106 < 53 + i + (53 + j) + 1 := p2lt (Nat.lt_of_le_of_lt h2 (by rw [p2succ]; have := p2pos (53 + i + (53 + j)); omega))
      omega
    have dal : ((2 ^ i : Nat) : Int) ∣ ux al * ((2 ^ 53 : Nat) : Int) := by rw [ga.eq, Int.sub_mul]; exact Int.dvd_sub ga.da (Int.dvd_trans (p2dvd (by omega)) ga.dh)
    have dbl : ((2 ^ j : Nat) : Int) ∣ ux bl * ((2 ^ 53 : Nat) : Int) := by rw [gb.eq, Int.sub_mul]; exact Int.dvd_sub gb.da (Int.dvd_trans (p2dvd (by omega)) gb.dh)
    obtain ⟨X1, p1, q1, s1⟩ := half_prod hc ht ga.dh gb.dh ga.lh gb.lh (by omega) (by omega)
    obtain ⟨X2, p2, q2, s2⟩ := half_prod hc ht ga.dh dbl ga.lh gb.ll (by omega) (by omega)
    obtain ⟨X3, p3, q3, s3⟩ := half_prod hc ht dal gb.dh ga.ll gb.lh (by omega) (by omega)
    obtain ⟨X4, p4, q4, s4⟩ := half_prod hc ht dal dbl ga.ll gb.ll (by omega) (by omega)
    have b2 := dek_small ga.lh gb.ll ga.lo gb.lo (by omega)
    have b3 := dek_small ga.ll gb.lh ga.lo gb.lo (by omega)
    have b4 := dek_small ga.ll gb.ll ga.lo gb.lo (by omega)
    have hsum : ux a * ux b = ux ah * ux bh + ux ah * ux bl + ux al * ux bh + ux al * ux bl := by
      have h1 := ga.eq
      have h2 := gb.eq
      rw [show ux a = ux ah + ux al by omega, show ux b = ux bh + ux bl by omega, Int.add_mul, Int.mul_add, Int.mul_add]; omega
    have hW : ux a * ux b = (X1 + X2 + X3 + X4) * ((2 ^ c : Nat) : Int) := by rw [hsum, p1, p2, p3, p4, Int.add_mul, Int.add_mul, Int.add_mul]
    have hWt : ux a * ((2 ^ 53 : Nat) : Int) * (ux b * ((2 ^ 53 : Nat) : Int)) = (X1 + X2 + X3 + X4) * ((2 ^ t : Nat) : Int) := by
      rw [hm, hW, Int.mul_assoc, ← Int.natCast_mul, ← Nat.pow_add, show c + 106 = t by omega]
    have hcp := p2pos c
    have htp := p2pos t
    rw [hWt, ← s2, abs_mul2, abs_mul2, ← Nat.mul_assoc] at b2
    rw [hWt, ← s3, abs_mul2, abs_mul2, ← Nat.mul_assoc] at b3
    rw [hWt, ← s4, abs_mul2, abs_mul2, ← Nat.mul_assoc] at b4
    have b2 := Nat.le_of_mul_le_mul_right b2 htp
    have b3 := Nat.le_of_mul_le_mul_right b3 htp
    have b4 := Nat.le_of_mul_le_mul_right b4 htp
    obtain ⟨K, hK⟩ : ∃ K, K = 2044 := ⟨_, rfl⟩
    obtain ⟨M, hM⟩ : ∃ M, M = 2 ^ (52 + K) := ⟨_, rfl⟩
    obtain ⟨m3, m2⟩ := max_big hK hM
    obtain ⟨M0, hM0⟩ : ∃ M0, M0 = 2 ^ (48 + K) := ⟨_, rfl⟩
    have hMM : M = 16 * M0 := by rw [hM, hM0, ← p2x16]; congr 1; omega
    have hWb : (X1 + X2 + X3 + X4).natAbs ≤ 8 * M0 := by
      rw [hW, abs_mul2] at hV2
      refine Nat.le_of_mul_le_mul_right (Nat.le_trans hV2 (Nat.le_of_eq ?_)) hcp
      rw [hM0, ← p2x8, ← Nat.pow_add]
      congr 1
      omega
    have hl1 : k1 ≤ (ux a * ux b).natAbs.log2 := (Nat.le_log2 (by omega)).2 hV1
    have hl2 : (ux a * ux b).natAbs.log2 ≤ k2 := by
      refine Nat.le_of_lt_succ ((Nat.log2_lt (by omega)).2 (Nat.lt_of_le_of_lt hV2 ?_))
      rw [p2succ]; have := p2pos k2; omega
    have P1 := F1.big fa fb (by omega) (by omega)
    have hp := P1.rn c hc
    have bp : (ux p).natAbs ≤ 8 * M0 := by
      have h1 := hp.bound hV2
      rw [abs_mul2] at h1
      refine Nat.le_of_mul_le_mul_right (Nat.le_trans h1 (Nat.le_of_eq ?_)) hcp
      rw [hM0, ← p2x8, ← Nat.pow_add]
      congr 1
      omega
    have T1 := F2.mul f1 f3 hc p1 (by omega)
    have T2 := F4.mul f1 f4 hc p2 (by omega)
    have T3 := F6.mul f2 f3 hc p3 (by omega)
    have T4 := F8.mul f2 f4 hc p4 (by omega)
    have y1 := T1.rn.ex q1
    have y2 := T2.rn.ex q2
    have y3 := T3.rn.ex q3
    have y4 := T4.rn.ex q4
    have U1 := F3.sub T1.fin P1.fin (by omega)
    have v1 := U1.rn.bound (K := 53 + K) (by rw [m2]; omega)
    rw [m2] at v1
    have n1 := U1.rn.near2 (M := M0) (by omega)
    have U2 := F5.add U1.fin T2.fin (by omega)
    have v2 := U2.rn.bound (K := 53 + K) (by rw [m2]; omega)
    rw [m2] at v2
    have n2 := U2.rn.near2 (M := M0) (by omega)
    have U3 := F7.add U2.fin T3.fin (by omega)
    have v3 := U3.rn.bound (K := 53 + K) (by rw [m2]; omega)
    rw [m2] at v3
    have n3 := U3.rn.near2 (M := M0) (by omega)
    have U4 := F9.add U3.fin T4.fin (by omega)
    -- in units that make normals
    have r0 := hp.scale (by omega) 106
    rw [Int.mul_assoc (ux p), ← Int.natCast_mul, ← Nat.pow_add, show c + 106 = t by omega, ← hm] at r0
    have r1 := U1.rn.scale (by omega) t
    rw [y1, Int.sub_mul, s1] at r1
    have r2 := U2.rn.scale (by omega) t
    rw [y2, Int.add_mul, s2] at r2
    have r3 := U3.rn.scale (by omega) t
    rw [y3, Int.add_mul, s3] at r3
    have r4 := U4.rn.scale (by omega) t
    rw [y4, Int.add_mul, s4] at r4
    have D := dekker ga.lo ga.hi gb.lo gb.hi (by rw [ga.eq, Int.sub_mul]) (by rw [gb.eq, Int.sub_mul]) ga.da gb.da ga.dh gb.dh ga.ll gb.ll ga.lh gb.lh r0 r1 r2 r3 r4
    have hD := D.1
    rw [← Int.add_mul, hWt] at hD
    have hD := Int.eq_of_mul_eq_mul_right (by omega) hD
    exact ⟨P1.fin, U4.fin, fun c' hc' => by rw [hD, hW, hc', hc], fun h => absurd h hV0, fun _ => P1⟩
end Go.Proofs.YtidggnjnlhjhlaaGreatDoor
namespace Go.Proofs.YtidggnjnlhjhlaaGreatDoor
open Go.RowKit Go.Shelf
set_option maxRecDepth 20000
set_option maxHeartbeats 0
theorem Sm64.little {X : Int} {s e : Nat} (h : Sm64 X s) (he : ux s + ux e = X) : 9007199254740992 * (ux e).natAbs ≤ (ux s).natAbs := by
  have h1 := h.rn.little (by omega)
  rw [show X - ux s = ux e by omega, show (2 : Nat) ^ 53 = 9007199254740992 by decide] at h1
  exact h1
theorem rn_bits {w : World} {p : Option Addr} {m a : Nat} (h : RN w p m a) : Calls Tryz.prog 167 #[.slice p m m] w fun e w' => e = .returned (.int .i64 (bitsN a)) ∧ w' = w := by
  obtain ⟨⟨zs, h1, h2⟩, h3⟩ := h
  exact rbits_any h1 h2 (by omega)
theorem cmpN_mul (a b c : Nat) (hc : 0 < c) : cmpN (a * c) (b * c) = cmpN a b := by
  unfold cmpN
  by_cases h1 : a < b
  · rw [if_pos h1, if_pos (Nat.mul_lt_mul_of_pos_right h1 hc)]
  · rw [if_neg h1, if_neg (fun h => h1 (Nat.lt_of_mul_lt_mul_right h))]
    by_cases h2 : a = b
    · rw [if_pos h2, if_pos (by rw [h2])]
    · rw [if_neg h2, if_neg (fun h => h2 (Nat.eq_of_mul_eq_mul_right hc h))]
theorem shl_bits {a N : Nat} : a * 2 ^ N < 2 ^ (bitsN a + N) := by
  rw [Nat.pow_add]
  exact Nat.mul_lt_mul_of_pos_right (bitsN_lt a) (Nat.two_pow_pos N)
theorem cmp_bits {a b : Nat} {e f : Int} (hb : b ≠ 0) (he : -1300 ≤ e) (hf : -1300 ≤ f) (h : (bitsN a : Int) + e < (bitsN b : Int) + f) : a * 2 ^ (e + 1300).toNat < b * 2 ^ (f + 1300).toNat := by
  refine Nat.lt_of_lt_of_le shl_bits ?_
  have h1 := bitsN_le b hb
  have h2 := bitsN_pos hb
  refine Nat.le_trans ?_ (Nat.mul_le_mul_right _ h1)
  rw [← Nat.pow_add]
  exact Nat.pow_le_pow_right (by decide) (by omega)
theorem order_ok {w : World} {p q : Option Addr} {m n a b : Nat} (h : RN w p m a) (k : RN w q n b) (ha : a ≠ 0) (hb : b ≠ 0) (e f : Int) (he : -1300 ≤ e ∧ e ≤ 1100) (hf : -1300 ≤ f ∧ f ≤ 1100) (hA : bitsN a ≤ 3000) (hB : bitsN b ≤ 3000) :
    Calls Tryz.prog 152 #[.slice p m m, .int .i64 e, .slice q n n, .int .i64 f] w fun en w' => en = .returned (.int .i64 (cmpN (a * 2 ^ (e + 1300).toNat) (b * 2 ^ (f + 1300).toNat))) ∧ Below w.heap.size w w' := by
  have NA : Hid (RN w p m a) := h
  have NB : Hid (RN w q n b) := k
  obtain ⟨t, ht⟩ : ∃ t : Int, t = (bitsN a : Int) + e := ⟨_, rfl⟩
  obtain ⟨u, hu⟩ : ∃ u : Int, u = (bitsN b : Int) + f := ⟨_, rfl⟩
  have w1 : wrap64 ((bitsN a : Int) + e) = t := by simp only [wrap64]; omega
  have w2 : wrap64 ((bitsN b : Int) + f) = u := by simp only [wrap64]; omega
  have w3 : IntKind.i64.wrap ((bitsN a : Int) + e) = t := by simp [IntKind.wrap, IntKind.signed, IntKind.bits]; omega
  have w4 : IntKind.i64.wrap ((bitsN b : Int) + f) = u := by simp [IntKind.wrap, IntKind.signed, IntKind.bits]; omega
  obtain ⟨r, hr⟩ : ∃ r, r = cmpN (a * 2 ^ (e + 1300).toNat) (b * 2 ^ (f + 1300).toNat) := ⟨_, rfl⟩
  rw [← hr]
  have HC : Hid (a ≠ 0 ∧ b ≠ 0 ∧ (-1300 ≤ e ∧ e ≤ 1100) ∧ (-1300 ≤ f ∧ f ≤ 1100) ∧ bitsN a ≤ 3000 ∧ bitsN b ≤ 3000 ∧ t = (bitsN a : Int) + e ∧ u = (bitsN b : Int) + f ∧ r = cmpN (a * 2 ^ (e + 1300).toNat) (b * 2 ^ (f + 1300).toNat)) := ⟨ha, hb, he, hf, hA, hB, ht, hu, hr⟩
  have hbw : Below w.heap.size w w := Below.refl _ _
  clear h k ha hb he hf hA hB ht hu hr
  go_enter Tryz.func152, Tryz.ntmps152
  go_wp2_with fail
  refine (rn_bits NA.out).mono ?_
  rintro e9 v9 ⟨rfl, hw⟩
  obtain rfl := hw.symm
  clear hw
  go_wp2_with fail
  refine (rn_bits NB.out).mono ?_
  rintro e9 v9 ⟨rfl, hw⟩
  obtain rfl := hw.symm
  clear hw
  rcases Int.lt_trichotomy t u with h1 | h1 | h1
  · have hr1 : r = -1 := by rw [HC.out.2.2.2.2.2.2.2.2]; obtain ⟨c1, c2, c3, c4, c5, c6, c7, c8, _⟩ := HC.out; exact cmpN_lt (cmp_bits c2 c3.1 c4.1 (by omega))
    go_wp2_with fail
    rw [hr1]
    go_ret
    exact ⟨rfl, hbw⟩
  · subst h1
    obtain ⟨k, hk⟩ : ∃ k : Int, k = min e f := ⟨_, rfl⟩
    obtain ⟨E, hE⟩ : ∃ E : Nat, E = (e - k).toNat := ⟨_, rfl⟩
    obtain ⟨F, hF⟩ : ∃ F : Nat, F = (f - k).toNat := ⟨_, rfl⟩
    have x1 : wrap64 (e - k) = (E : Int) := by have c3 := HC.out.2.2.1; have c4 := HC.out.2.2.2.1; simp only [wrap64]; omega
    have x2 : wrap64 (f - k) = (F : Int) := by have c3 := HC.out.2.2.1; have c4 := HC.out.2.2.2.1; simp only [wrap64]; omega
    have x3 : IntKind.i64.wrap (e - k) = (E : Int) := by have c3 := HC.out.2.2.1; have c4 := HC.out.2.2.2.1; simp [IntKind.wrap, IntKind.signed, IntKind.bits]; omega
    have x4 : IntKind.i64.wrap (f - k) = (F : Int) := by have c3 := HC.out.2.2.1; have c4 := HC.out.2.2.2.1; simp [IntKind.wrap, IntKind.signed, IntKind.bits]; omega
    have HEF : Hid (E ≤ 2400 ∧ F ≤ 2400 ∧ r = cmpN (a * 2 ^ E) (b * 2 ^ F)) := by
      obtain ⟨c1, c2, c3, c4, c5, c6, c7, c8, c9⟩ := HC.out
      refine ⟨by omega, by omega, ?_⟩
      rw [c9, show (e + 1300).toNat = E + (k + 1300).toNat by omega, show (f + 1300).toNat = F + (k + 1300).toNat by omega, Nat.pow_add, Nat.pow_add, ← Nat.mul_assoc, ← Nat.mul_assoc, cmpN_mul _ _ _ (Nat.two_pow_pos _)]
    have hk2 : min e f = k := hk.symm
    clear hk hE hF
    go_wp2_with fail
    refine (rn_shl NA.out HC.out.1 E (by have := HEF.out; omega) (K := bitsN a + E) (by have := HEF.out; have := HC.out.2.2.2.2.1; omega) shl_bits).mono ?_
    rintro en v1 ⟨p1, m1, rfl, hn1, hb1⟩
    replace NA : Hid (RN v1 p m a) := NA.out.below hb1
    replace NB : Hid (RN v1 q n b) := NB.out.below hb1
    replace hbw := Below.on hbw hb1
    clear hb1
    have N1 : Hid (RN v1 p1 m1 (a * 2 ^ E)) := hn1
    clear hn1
    go_wp2_with fail
    refine (rn_shl NB.out HC.out.2.1 F (by have := HEF.out; omega) (K := bitsN b + F) (by have := HEF.out; have := HC.out.2.2.2.2.2.1; omega) shl_bits).mono ?_
    rintro en v2 ⟨p2, m2, rfl, hn2, hb2⟩
    replace NA : Hid (RN v2 p m a) := NA.out.below hb2
    replace NB : Hid (RN v2 q n b) := NB.out.below hb2
    replace N1 : Hid (RN v2 p1 m1 (a * 2 ^ E)) := N1.out.below hb2
    replace hbw := Below.on hbw hb2
    clear hb2
    have N2 : Hid (RN v2 p2 m2 (b * 2 ^ F)) := hn2
    clear hn2
    go_wp2_with fail
    refine (rn_cmp N1.out N2.out).mono ?_
    rintro e v3 ⟨rfl, hb3⟩
    rw [← HEF.out.2.2]
    replace NA : Hid (RN v3 p m a) := NA.out.below hb3
    replace NB : Hid (RN v3 q n b) := NB.out.below hb3
    replace N1 : Hid (RN v3 p1 m1 (a * 2 ^ E)) := N1.out.below hb3
    replace N2 : Hid (RN v3 p2 m2 (b * 2 ^ F)) := N2.out.below hb3
    replace hbw := Below.on hbw hb3
    clear hb3
    go_wp2_with fail
    go_ret
    exact ⟨rfl, hbw⟩
  · have hr1 : r = 1 := by rw [HC.out.2.2.2.2.2.2.2.2]; obtain ⟨c1, c2, c3, c4, c5, c6, c7, c8, _⟩ := HC.out; exact cmpN_gt (cmp_bits c1 c4.1 c3.1 (by omega))
    go_wp2_with fail
    rw [hr1]
    go_ret
    exact ⟨rfl, hbw⟩
theorem hold_z {w : World} {p p1 p2 : Option Addr} {m m1 m2 a b : Nat} (h : RN w p m a) (k1 : RN w p1 m1 b) (k2 : RN w p2 m2 1) (hb : b ≠ 0) (e f : Int) (he : -1300 ≤ e ∧ e ≤ 1100) (hf : -1300 ≤ f ∧ f ≤ 1100) (hA : bitsN a ≤ 3000) (hB : bitsN b ≤ 3000) (ha : m = 0) :
    Calls Tryz.prog 132 #[.agg #[.slice p1 m1 m1, .slice p2 m2 m2, .int .i64 f, .bool false], .slice p m m, .int .i64 e] w fun en w' => en = .returned (.int .i64 (cmpN (a * 2 ^ (e + 1300).toNat) (b * 2 ^ (f + 1300).toNat))) ∧ Below w.heap.size w w' := by
  have NA : Hid (RN w p m a) := h
  have N1 : Hid (RN w p1 m1 b) := k1
  have N2 : Hid (RN w p2 m2 1) := k2
  have HM := h.zero
  obtain ⟨r, hr⟩ : ∃ r, r = cmpN (a * 2 ^ (e + 1300).toNat) (b * 2 ^ (f + 1300).toNat) := ⟨_, rfl⟩
  rw [← hr]
  have HC : Hid (b ≠ 0 ∧ (-1300 ≤ e ∧ e ≤ 1100) ∧ (-1300 ≤ f ∧ f ≤ 1100) ∧ bitsN a ≤ 3000 ∧ bitsN b ≤ 3000 ∧ r = cmpN (a * 2 ^ (e + 1300).toNat) (b * 2 ^ (f + 1300).toNat) ∧ (m = 0 ↔ a = 0)) := ⟨hb, he, hf, hA, hB, hr, HM⟩
  clear h k1 k2 hb he hf hA hB hr HM
  have hr1 : r = -1 := by
    rw [HC.out.2.2.2.2.2.1, HC.out.2.2.2.2.2.2.1 ha, Nat.zero_mul]
    exact cmpN_lt (Nat.mul_pos (Nat.pos_of_ne_zero HC.out.1) (Nat.two_pow_pos _))
  rw [hr1]
  subst ha
  clear HC hr1 NA N1 N2
  go_enter Tryz.func132, Tryz.ntmps132
  go_wp2_with fail
  go_ret
  exact ⟨rfl, below1 w _⟩
theorem hold_n {w : World} {p p1 p2 : Option Addr} {m m1 m2 a b : Nat} (h : RN w p m a) (k1 : RN w p1 m1 b) (k2 : RN w p2 m2 1) (hb : b ≠ 0) (e f : Int) (he : -1300 ≤ e ∧ e ≤ 1100) (hf : -1300 ≤ f ∧ f ≤ 1100) (hA : bitsN a ≤ 3000) (hB : bitsN b ≤ 3000) (ha : m ≠ 0) :
    Calls Tryz.prog 132 #[.agg #[.slice p1 m1 m1, .slice p2 m2 m2, .int .i64 f, .bool false], .slice p m m, .int .i64 e] w fun en w' => en = .returned (.int .i64 (cmpN (a * 2 ^ (e + 1300).toNat) (b * 2 ^ (f + 1300).toNat))) ∧ Below w.heap.size w w' := by
  have NA : Hid (RN w p m a) := h
  have N1 : Hid (RN w p1 m1 b) := k1
  have N2 : Hid (RN w p2 m2 1) := k2
  have HM := h.zero
  obtain ⟨r, hr⟩ : ∃ r, r = cmpN (a * 2 ^ (e + 1300).toNat) (b * 2 ^ (f + 1300).toNat) := ⟨_, rfl⟩
  rw [← hr]
  have HC : Hid (b ≠ 0 ∧ (-1300 ≤ e ∧ e ≤ 1100) ∧ (-1300 ≤ f ∧ f ≤ 1100) ∧ bitsN a ≤ 3000 ∧ bitsN b ≤ 3000 ∧ r = cmpN (a * 2 ^ (e + 1300).toNat) (b * 2 ^ (f + 1300).toNat) ∧ (m = 0 ↔ a = 0)) := ⟨hb, he, hf, hA, hB, hr, HM⟩
  clear h k1 k2 hb he hf hA hB hr HM
  have hm0 : ((m : Int) == 0) = false := by simp; omega
  have HA0 : Hid (a ≠ 0) := fun h => ha (HC.out.2.2.2.2.2.2.2 h)
  clear ha
  go_enter Tryz.func132, Tryz.ntmps132
  go_wp2_with fail
  obtain ⟨W0, hW0⟩ : ∃ W0, W0 = (w.alloc (.cells #[.slice p1 m1 m1, .slice p2 m2 m2, .int .i64 f, .bool false] 126)) := ⟨_, rfl⟩
  have Xv : Hid (B4q W0 (w.heap.size) (.slice p1 m1 m1) (.slice p2 m2 m2) (.int .i64 f) (.bool false)) := by rw [hW0]; exact ⟨by go_simp, by go_simp, by go_simp, by go_simp, by go_simp, by go_simp, by go_simp, by go_simp⟩
  have hb0 : Below w.heap.size w W0 := by rw [hW0]; exact below1 w _
  rw [← hW0]
  clear hW0
  have hbw : Below w.heap.size w w := Below.refl _ _
  obtain ⟨gv, hgv⟩ : ∃ g, g = w.heap.size := ⟨_, rfl⟩
  have HGv : Hid (w.heap.size ≤ gv) := by rw [hgv]; show _ ≤ _; omega
  rw [← hgv] at Xv
  try rw [← hgv]
  clear hgv
  replace NA : Hid (RN W0 p m a) := NA.out.below hb0
  replace N1 : Hid (RN W0 p1 m1 b) := N1.out.below hb0
  replace N2 : Hid (RN W0 p2 m2 1) := N2.out.below hb0
  replace hbw := Below.on hbw hb0
  clear hb0
  obtain ⟨V1, hV1⟩ : ∃ W1, W1 = W0.drew := ⟨_, rfl⟩
  have hbd : Below W0.heap.size W0 V1 := by rw [hV1]; exact bDrew1 (Below.refl _ _)
  replace Xv : Hid _ := Xv.out.below hbd
  replace NA : Hid (RN V1 p m a) := NA.out.below hbd
  replace N1 : Hid (RN V1 p1 m1 b) := N1.out.below hbd
  replace N2 : Hid (RN V1 p2 m2 1) := N2.out.below hbd
  replace hbw := Below.on hbw hbd
  clear hbd
  have HJ : Hid ((fun W' : World => W'.cell? ⟨gv, 0, none⟩ = some (.slice p1 m1 m1) ∧ W'.cell? ⟨gv, 1, none⟩ = some (.slice p2 m2 m2) ∧ W'.cell? ⟨gv, 2, none⟩ = some (.int .i64 f)) V1) := ⟨Xv.out.c0, Xv.out.c1, Xv.out.c2⟩
  refine wp_region_J (fun W' => W'.cell? ⟨gv, 0, none⟩ = some (.slice p1 m1 m1) ∧ W'.cell? ⟨gv, 1, none⟩ = some (.slice p2 m2 m2) ∧ W'.cell? ⟨gv, 2, none⟩ = some (.int .i64 f)) (by kernel_rfl) ?_
  rw [← hV1]
  clear hV1
  refine wpJ_tq 0 rfl HJ.out ?_
  refine wpJ_tq 1 rfl HJ.out ?_
  refine wpJ_tq 2 rfl HJ.out ?_
  refine wpJ_tq 4 rfl HJ.out ?_
  refine wpJ_tq 5 rfl HJ.out ?_
  go_simp
  refine wpJ_tq 6 rfl HJ.out ?_
  refine wpJ_tq 7 rfl HJ.out ?_
  refine wpJ_tq 8 rfl HJ.out ?_
  refine wpJ_on 3 rfl fun KJ hK => ?_
  go_simp
  refine (rn_mul NA.out N2.out (K := bitsN a) (by have := HC.out.2.2.2.1; omega) (by rw [Nat.mul_one]; exact bitsN_lt a)).mono ?_
  rintro en v3 ⟨p3, m3, rfl, hn3, hb3⟩
  have hn3 := hn3.cast (b := a) (Nat.mul_one a)
  replace Xv : Hid _ := Xv.out.below hb3
  replace NA : Hid (RN v3 p m a) := NA.out.below hb3
  replace N1 : Hid (RN v3 p1 m1 b) := N1.out.below hb3
  replace N2 : Hid (RN v3 p2 m2 1) := N2.out.below hb3
  replace hbw := Below.on hbw hb3
  clear hb3
  have N3 : Hid (RN v3 p3 m3 (a)) := hn3
  clear hn3
  refine hK _ _ ⟨Xv.out.c0, Xv.out.c1, Xv.out.c2⟩ ?_
  clear hK
  refine wpJ_on 9 rfl fun KJ hK => ?_
  go_simp
  refine (order_ok N3.out N1.out HA0.out HC.out.1 e f HC.out.2.1 HC.out.2.2.1 HC.out.2.2.2.1 HC.out.2.2.2.2.1).mono ?_
  rintro e v4 ⟨rfl, hb4⟩
  rw [← HC.out.2.2.2.2.2.1]
  replace Xv : Hid _ := Xv.out.below hb4
  replace NA : Hid (RN v4 p m a) := NA.out.below hb4
  replace N1 : Hid (RN v4 p1 m1 b) := N1.out.below hb4
  replace N2 : Hid (RN v4 p2 m2 1) := N2.out.below hb4
  replace N3 : Hid (RN v4 p3 m3 (a)) := N3.out.below hb4
  replace hbw := Below.on hbw hb4
  clear hb4
  clear HJ
  have HJ : Hid ((fun W' : World => W'.cell? ⟨gv, 0, none⟩ = some (.slice p1 m1 m1) ∧ W'.cell? ⟨gv, 1, none⟩ = some (.slice p2 m2 m2) ∧ W'.cell? ⟨gv, 2, none⟩ = some (.int .i64 f)) v4) := ⟨Xv.out.c0, Xv.out.c1, Xv.out.c2⟩
  refine hK _ _ HJ.out ?_
  clear hK
  refine wpJ_tq 10 rfl HJ.out ?_
  refine wpJ_done (by kernel_rfl) ?_ _
  clear HJ
  go_wp2_with fail
  go_ret
  exact ⟨rfl, hbw⟩
theorem hold_ok {w : World} {p p1 p2 : Option Addr} {m m1 m2 a b : Nat} (h : RN w p m a) (k1 : RN w p1 m1 b) (k2 : RN w p2 m2 1) (hb : b ≠ 0) (e f : Int) (he : -1300 ≤ e ∧ e ≤ 1100) (hf : -1300 ≤ f ∧ f ≤ 1100) (hA : bitsN a ≤ 3000) (hB : bitsN b ≤ 3000) : Calls Tryz.prog 132 #[.agg #[.slice p1 m1 m1, .slice p2 m2 m2, .int .i64 f, .bool false], .slice p m m, .int .i64 e] w fun en w' => en = .returned (.int .i64 (cmpN (a * 2 ^ (e + 1300).toNat) (b * 2 ^ (f + 1300).toNat))) ∧ Below w.heap.size w w' := by
  by_cases ha : m = 0
  · exact hold_z h k1 k2 hb e f he hf hA hB ha
  · exact hold_n h k1 k2 hb e f he hf hA hB ha
end Go.Proofs.YtidggnjnlhjhlaaGreatDoor
