import Derived.Test.YtmkglkdhnbjjhaaNum2
namespace Go.Proofs.Ytmkglkdhnbjjhaa
open Go.RowKit Go.Shelf

theorem wrap_u (n : Int) (m : Nat) (h : n % 18446744073709551616 = (m : Int)) : IntKind.u64.wrap n = (m : Int) := by
  simp [IntKind.wrap, IntKind.signed, IntKind.bits]
  omega
/-- num.Of of a number from 1 on, and of its negative. -/
theorem of_any (s : Bool) (v : Nat) (w : World) (h0 : 0 < v) (hv : v < 9223372036854775808) :
    Calls Try.prog 22 #[.int .i64 (iv s v)] w fun e w' => ∃ p m zs, e = .returned (ZV s p m m) ∧ Own w.heap.size w' p m zs ∧ Nf B64 zs v ∧ m ≤ 1 ∧ Below w.heap.size w w' := by
  have hvb : v < B64 := by rw [B64_eq]; omega
  cases s
  · rw [iv_f]
    have hd : decide ((v : Int) < 0) = false := decide_eq_false (by omega)
    have hw : IntKind.u64.wrap (v : Int) = (v : Int) := wrap_u _ _ (by omega)
    go_enter Try.func22, Try.ntmps22
    go_wp2_with fail
    have B0 : Box (w.alloc (.cells #[.bool false, .slice none 0 0] 24)) w.heap.size (.bool false) (.slice none 0 0) := ⟨by go_simp, by go_simp, by go_simp, by go_simp⟩
    refine (word_any v _ hvb).mono ?_
    rintro e w1 ⟨p1, m1, z1, rfl, ho, hn, hm, hb⟩
    obtain ⟨c0, c1, f0, f1⟩ := B0.below hb
    have hbw := Below.on (below1 w _) hb
    have HOW : Hid (Own (w.heap.size + 1) w1 p1 m1 z1) := by have := ho; simp at this; exact this
    have HN : Hid (Nf B64 z1 v) := hn
    clear B0 ho hn hb
    go_wp2_with fail
    refine bodyPost_ret (v := ZV false p1 m1 m1) (by rw [results_cell1 rfl]; go_simp) rfl ⟨p1, m1, z1, rfl, ?_, HN.out, hm, ?_⟩
    · exact ((HOW.out.setOld _ _ _ (by omega)).setOld _ _ _ (by omega)).mono (by omega)
    · exact bSet (bSet hbw _ _ _ (Nat.le_refl _)) _ _ _ (Nat.le_refl _)
  · rw [iv_t]
    have hd : decide (-(v : Int) < 0) = true := decide_eq_true (by omega)
    obtain ⟨u, hu⟩ : ∃ u : Nat, u = 18446744073709551616 - v := ⟨_, rfl⟩
    have hw : IntKind.u64.wrap (-(v : Int)) = (u : Int) := wrap_u _ _ (by omega)
    have hw2 : IntKind.u64.wrap (-(u : Int)) = (v : Int) := wrap_u _ _ (by omega)
    clear hu
    go_enter Try.func22, Try.ntmps22
    go_wp2_with fail
    have B0 : Box (w.alloc (.cells #[.bool false, .slice none 0 0] 24)) w.heap.size (.bool false) (.slice none 0 0) := ⟨by go_simp, by go_simp, by go_simp, by go_simp⟩
    refine (word_any v _ hvb).mono ?_
    rintro e w1 ⟨p1, m1, z1, rfl, ho, hn, hm, hb⟩
    obtain ⟨c0, c1, f0, f1⟩ := B0.below hb
    have hbw := Below.on (below1 w _) hb
    have HOW : Hid (Own (w.heap.size + 1) w1 p1 m1 z1) := by have := ho; simp at this; exact this
    have HN : Hid (Nf B64 z1 v) := hn
    clear B0 ho hn hb
    go_wp2_with fail
    refine bodyPost_ret (v := ZV true p1 m1 m1) (by rw [results_cell1 rfl]; go_simp) rfl ⟨p1, m1, z1, rfl, ?_, HN.out, hm, ?_⟩
    · exact ((HOW.out.setOld _ _ _ (by omega)).setOld _ _ _ (by omega)).mono (by omega)
    · exact bSet (bSet hbw _ _ _ (Nat.le_refl _)) _ _ _ (Nat.le_refl _)

/-- num.Small at -14. -/
theorem small14 {p : Option Addr} {m : Nat} {xs : List Nat} {B : Nat} {w : World} (ho : Own B w p m xs) (hn : Nf B64 xs 14) (hm : m ≤ 8192) :
    Calls Try.prog 23 #[ZV true p m m] w fun e w' => e = .returned (.tuple #[.int .i64 (-14), .int .i64 0]) ∧ Below w.heap.size w w' := by
  have hN := Num.of ho hn hm
  obtain rfl : xs = [14] := hn.inj B64_one (nf_one (by decide) (by decide))
  obtain rfl : m = 1 := ho.len.symm
  obtain ⟨g, rfl, _, hr⟩ := ho.mem.resolve_left (by omega)
  have hc : w.cell? ⟨g, 0, none⟩ = some (U 14) := hr.cell 0 (by omega)
  have hlt := hr.lt (by omega)
  have H : Hid (Num w (some ⟨g, 0, none⟩) 1 1 [14] 14) := hN
  clear ho hn hr hN
  go_enter Try.func23, Try.ntmps23
  go_wp2_with fail
  have B0 : Box (w.alloc (.cells #[.bool true, .slice (some ⟨g, 0, none⟩) 1 1] 24)) w.heap.size (.bool true) (.slice (some ⟨g, 0, none⟩) 1 1) := ⟨by go_simp, by go_simp, by go_simp, by go_simp⟩
  refine (numform_t true (H.out.below (below1 w _)) (fun _ => by omega)).mono ?_
  rintro e w1 ⟨rfl, hb⟩
  obtain ⟨c0, c1, f0, f1⟩ := B0.below hb
  have hbw := Below.on (below1 w _) hb
  have hc1 : w1.cell? ⟨g, 0, none⟩ = some (U 14) := (hbw.cell (p := ⟨g, 0, none⟩) hlt).trans hc
  clear B0 hb hc
  go_wp2_with fail
  go_ret2
  refine ⟨?_, hbw⟩
  show Ending.returned (.tuple #[.int .i64 (wrap64 (IntKind.u64.wrap (-14))), .int .i64 0]) = _
  rw [show wrap64 (IntKind.u64.wrap (-14)) = -14 from by decide +kernel]
/-- num.Sign of a number below nought. -/
theorem sign_neg {p : Option Addr} {m c : Nat} {xs : List Nat} {a : Nat} {w : World} (h : Num w p m c xs a) (h0 : 0 < a) :
    Calls Try.prog 24 #[ZV true p m c] w fun e w' => e = .returned (.int .i64 (-1)) ∧ Below w.heap.size w w' := by
  have H : Hid (Num w p m c xs a) := h
  have hm := h.le
  have hbp : ((bitsN a : Nat) : Int) ≠ 0 := by
    have := bitsN_lt a
    intro e
    have e0 : bitsN a = 0 := by omega
    rw [e0] at this; simp at this; omega
  obtain ⟨bb, hbb⟩ : ∃ bb, bb = bitsN a := ⟨_, rfl⟩
  have hb0 : ((bb : Int) == 0) = false := by rw [hbb]; simpa using hbp
  have HBB : Hid (bb = bitsN a) := hbb
  clear h h0 hbp hbb
  go_enter Try.func24, Try.ntmps24
  go_wp2_with fail
  have B0 : Box (w.alloc (.cells #[.bool true, .slice p m c] 24)) w.heap.size (.bool true) (.slice p m c) := ⟨by go_simp, by go_simp, by go_simp, by go_simp⟩
  refine (bits_any (H.out.at_.alloc _) (by omega)).mono ?_
  rintro e w1 ⟨rfl, hw⟩
  rw [H.out.nf.val, ← HBB.out]
  obtain ⟨c0, c1, f0, f1⟩ := B0
  rw [← hw] at c0 c1 f0 f1
  have hbw : Below w.heap.size w w1 := by rw [hw]; exact below1 w _
  clear hw
  go_wp2_with fail
  go_ret
  exact ⟨rfl, hbw⟩

set_option maxRecDepth 20000 in
set_option maxHeartbeats 1000000 in
theorem nsame_t {p q : Option Addr} {n m c d : Nat} {xs : List Nat} {w : World} (s : Bool) (h : At w p n c xs) (k : At w q m d xs) :
    Calls Try.prog 9 #[ZV s p n c, ZV s q m d] w fun e w' => e = .returned (.bool true) ∧ Below w.heap.size w w' := by
  have hss : (s == s) = true := by simp
  go_enter Try.func9, Try.ntmps9
  go_wp2_with fail
  refine (same_t ((h.alloc _).alloc _) ((k.alloc _).alloc _)).mono ?_
  rintro e w1 ⟨rfl, hb⟩
  have hbw := Below.on (below2 w _ _) hb
  clear hb
  go_wp2_with fail
  go_ret
  exact ⟨rfl, hbw⟩
end Go.Proofs.Ytmkglkdhnbjjhaa
