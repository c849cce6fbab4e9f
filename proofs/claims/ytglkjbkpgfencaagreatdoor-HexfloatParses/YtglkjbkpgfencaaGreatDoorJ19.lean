import Derived.WalkSmall
import Derived.Laws.Concat
import Derived.Test.YtglkjbkpgfencaaGreatDoorJ18
import Derived.Test.YtglkjbkpgfencaaGreatDoorJ16
import Derived.Test.YtglkjbkpgfencaaGreatDoorJ10
import Derived.Test.YtglkjbkpgfencaaGreatDoorJ9
import Derived.Test.YtglkjbkpgfencaaGreatDoorJ13
import Derived.Test.YtglkjbkpgfencaaGreatDoorJ11
import Derived.Deep.LoopGhost
import Derived.Test.YtglkjbkpgfencaaGreatDoorJ12
import Derived.Test.YtglkjbkpgfencaaGreatDoorJ17
namespace Go.Proofs.YtglkjbkpgfencaaGreatDoor
open Go.RowKit Go.Shelf
set_option maxRecDepth 20000
set_option maxHeartbeats 0
theorem hk9 {v K L : Nat} (hv : v < 2 ^ L) (hK : TzIs v K) : K < L := by
  have h1 : 2 ^ K ≤ v := by
    rcases Nat.lt_or_ge v (2 ^ K) with e | e
    · have h2 := hK.2
      rw [Nat.div_eq_of_lt e] at h2
      omega
    · exact e
  exact (Nat.pow_lt_pow_iff_right (by omega : 1 < 2)).1 (Nat.lt_of_le_of_lt h1 hv)
theorem rj_32 : Rj 32 2147483648 24 (-149) 104 2139095040 2143289345 8388608 23 254 128 :=
  ⟨rf_32, fun b w => rwhole_32 w, by decide, by decide, by decide, by decide, by decide, by decide, by decide, by decide⟩
theorem rj_64 : Rj 64 9223372036854775808 53 (-1074) 971 9218868437227405312 9221120237041090561 4503599627370496 52 2046 1024 :=
  ⟨rf_64, fun b w => rwhole_64 w, by decide, by decide, by decide, by decide, by decide, by decide, by decide, by decide⟩
theorem JA.ex (S H I : Nat) (l : Int) (neg : Bool) (man : Nat) (ex : Int) : ∃ r er, JA S H I l neg man ex r er := by
  by_cases h : ∃ s, JnR H I l man ex s
  · obtain ⟨s, hs⟩ := h
    exact ⟨_, 0, .inl ⟨rfl, s, hs, rfl⟩⟩
  · exact ⟨0, 5, .inr ⟨rfl, rfl, fun s hs => h ⟨s, hs⟩⟩⟩
theorem parse_both (f : Int) (l : List UInt8) : ∃ (x : Nat) (er : Int), (∀ w, Wd w → Calls Tryz.prog 9 #[.int .i64 f, .string (bs l)] w fun en w' => en = .returned (.tuple #[U x, .int .i64 er]) ∧ Below w.heap.size w w') ∧ (∀ w, Calls Tryz.prog 12 #[.int .i64 f, .string (bs l)] w fun en w' => en = .returned (.tuple #[U x, .int .i64 er]) ∧ Below w.heap.size w w') := by
  by_cases h1 : f = 32
  · subst h1
    exact ⟨_, _, fun w hw => hf_32.parse l hw rfl, fun w => docparse_c jn_32 rj_32 rfl⟩
  by_cases h2 : f = 64
  · subst h2
    exact ⟨_, _, fun w hw => hf_64.parse l hw rfl, fun w => docparse_c jn_64 rj_64 rfl⟩
  · exact ⟨0, 1, fun w _ => parse_x h1 h2 _ w, fun w => docparse_x h1 h2 _ w⟩
theorem plays10_1 {f : Int} (l : List UInt8) {w : World} (hw : Wd w) (b : Nat) :
    Calls Tryz.prog 7 #[.agg #[.int .i64 1, .int .i64 f, .string (bs l), U b]] w fun en w' => en = .returned (.bool true) ∧ Below w.heap.size w w' := by
  obtain ⟨x, er, h1, h2⟩ := parse_both f l
  have H1 := hm9 h1
  have H2 := hm9 h2
  have HW := hm9 hw
  clear h1 h2 hw
  go_enter Tryz.func7, Tryz.ntmps7
  go_wp2_with fail
  obtain ⟨W0, hW0⟩ : ∃ W0, W0 = (w.alloc (.cells #[.int .i64 1, .int .i64 f, .string (bs l), U b] 27)) := ⟨_, rfl⟩
  have Xo : Hid (B4q W0 (w.heap.size) (.int .i64 1) (.int .i64 f) (.string (bs l)) (U b)) := by rw [hW0]; exact ⟨by go_simp, by go_simp, by go_simp, by go_simp, by go_simp, by go_simp, by go_simp, by go_simp⟩
  have hb0 : Below w.heap.size w W0 := by rw [hW0]; exact below1 w _
  rw [← hW0]
  clear hW0
  have hbw : Below w.heap.size w w := Below.refl _ _
  obtain ⟨go, hgo⟩ : ∃ g, g = w.heap.size := ⟨_, rfl⟩
  have HGo : Hid (w.heap.size ≤ go) := by rw [hgo]; show _ ≤ _; omega
  rw [← hgo] at Xo
  try rw [← hgo]
  clear hgo
  replace hbw := Below.on hbw hb0
  clear hb0
  refine (H1.out _ (HW.out.below hbw)).mono ?_
  rintro e v1 ⟨rfl, hb1⟩
  replace Xo : Hid _ := Xo.out.below hb1
  replace hbw := Below.on hbw hb1
  clear hb1
  obtain ⟨co0, co1, co2, co3, fo0, fo1, fo2, fo3⟩ := Xo.out
  have hneo : go < v1.heap.size := World.block_lt_of_cell? v1 _ co0
  go_wp2_with fail
  clear co0 co1 co2 co3 fo0 fo1 fo2 fo3 hneo
  refine (H2.out _).mono ?_
  rintro e v2 ⟨rfl, hb2⟩
  replace Xo : Hid _ := Xo.out.below hb2
  replace hbw := Below.on hbw hb2
  clear hb2
  have hself2 : (er == er) = true := beq_self_eq_true _
  have hself3 : ((x : Int) == (x : Int)) = true := beq_self_eq_true _
  obtain ⟨co0, co1, co2, co3, fo0, fo1, fo2, fo3⟩ := Xo.out
  have hneo : go < v2.heap.size := World.block_lt_of_cell? v2 _ co0
  go_wp2_with fail
  clear co0 co1 co2 co3 fo0 fo1 fo2 fo3 hneo
  go_ret
  exact ⟨rfl, hbw⟩
theorem hexfloatParses_w {f : Int} (l : List UInt8) {w : World} (hw : Wd w) :
    Calls Tryz.prog 3 #[.int .i64 f, .string (bs l)] w fun en w' => en = .returned (.bool true) ∧ Below w.heap.size w w' := by
  have HW := hm9 hw
  clear hw
  go_enter Tryz.func3, Tryz.ntmps3
  go_wp2_with fail
  refine (awake10 HW.out).mono ?_
  rintro en w1 ⟨rfl, hb1⟩
  have HB1 := hm9 hb1
  clear hb1
  go_wp2_with fail
  refine (plays10_1 l (HW.out.below HB1.out) _).mono ?_
  rintro en w2 ⟨rfl, hb2⟩
  have HB2 := hm9 (Below.on HB1.out hb2)
  clear hb2
  go_wp2_with fail
  go_ret
  exact ⟨rfl, HB2.out⟩
theorem hexfloatParses_s (f : Int) (s : ByteArray) {w : World} (hw : Wd w) : Calls Tryz.prog 3 #[.int .i64 f, .string s] w fun en w' => en = .returned (.bool true) ∧ Below w.heap.size w w' := by
  obtain ⟨l, rfl⟩ : ∃ l, s = bs l := ⟨s.data.toList, rfl⟩
  exact hexfloatParses_w l hw
end Go.Proofs.YtglkjbkpgfencaaGreatDoor
