import Derived.WalkSmall
import Derived.Laws.Concat
import Derived.Test.YtglkjbkpgfencaaGreatDoorJ14
import Derived.Test.YtglkjbkpgfencaaGreatDoorJ10
import Derived.Test.YtglkjbkpgfencaaGreatDoorJ9
import Derived.Test.YtglkjbkpgfencaaGreatDoorJ11
import Derived.Laws.Cover1
import Derived.Deep.RegionLaw
import Derived.Deep.LoopGhost
import Derived.Test.YtglkjbkpgfencaaGreatDoorJ13
import Derived.Test.YtglkjbkpgfencaaGreatDoorJ8
namespace Go.Proofs.YtglkjbkpgfencaaGreatDoor
open Go.RowKit Go.Shelf
set_option maxRecDepth 20000
set_option maxHeartbeats 0
theorem bs_get (l : List UInt8) (i : Nat) (h : i < (bs l).size) : ((bs l)[i]'h) = l.getD i 0 := by
  show l[i] = _
  rw [List.getD_eq_getElem?_getD, List.getElem?_eq_getElem h]; rfl
def fiI (a b : UInt8) (l : List UInt8) : Int := match findF a b l with | none => -1 | some i => (i : Int)
theorem drop_cons {l : List UInt8} {i : Nat} (h : i < l.length) : l.drop i = l.getD i 0 :: l.drop (i + 1) := by
  rw [List.drop_eq_getElem_cons h, List.getD_eq_getElem?_getD, List.getElem?_eq_getElem h]; rfl
theorem find_drop {a b : UInt8} {l : List UInt8} {i : Nat} (h : ∀ j, j < i → l.getD j 0 ≠ a ∧ l.getD j 0 ≠ b) (hi : i < l.length) (hc : l.getD i 0 = a ∨ l.getD i 0 = b) : findF a b l = some i := by
  have h1 := find_at (a := a) (b := b) (A := l.take i) (r := l.drop (i + 1)) (c := l.getD i 0) (by
    intro d hd
    obtain ⟨j, hj, he⟩ := List.getElem_of_mem hd
    rw [List.length_take] at hj
    have h2 := h j (by omega)
    rw [List.getD_eq_getElem?_getD, List.getElem?_eq_getElem (by omega : j < l.length)] at h2
    rw [List.getElem_take] at he
    rw [← he]; exact h2) hc
  rw [← drop_cons hi, List.take_append_drop, List.length_take] at h1
  rw [h1]; congr 1; omega
theorem find_none {a b : UInt8} {l : List UInt8} (h : ∀ j, j < l.length → l.getD j 0 ≠ a ∧ l.getD j 0 ≠ b) : findF a b l = none := by
  refine find_no fun d hd => ?_
  obtain ⟨j, hj, he⟩ := List.getElem_of_mem hd
  have h2 := h j hj
  rw [List.getD_eq_getElem?_getD, List.getElem?_eq_getElem hj] at h2
  rw [← he]; exact h2
theorem u8_ne {a b : UInt8} (h : ¬ (a.toNat : Int) = (b.toNat : Int)) : a ≠ b := fun e => h (by rw [e])
theorem u8_eq {a b : UInt8} (h : (a.toNat : Int) = (b.toNat : Int)) : a = b := UInt8.toNat_inj.1 (by omega)
theorem rfind_c (l : List UInt8) (hl : l.length ≤ 10000) (a b : UInt8) (w : World) :
    Calls Tryz.prog 67 #[.string (bs l), .int .u8 (a.toNat : Int), .int .u8 (b.toNat : Int)] w fun en w' => en = .returned (.int .i64 (fiI a b l)) ∧ w' = w := by
  have hs : (bs l).size = l.length := bs_size l
  have HL : Hid (l.length ≤ 10000) := hl
  go_enter Tryz.func67, Tryz.ntmps67
  go_wp2_with fail
  go_loopg [7] l.length (fun gk iv wr => ∃ i : Nat, i + gk = l.length ∧ iv = .int .i64 i ∧ (∀ j, j < i → l.getD j 0 ≠ a ∧ l.getD j 0 ≠ b) ∧ wr = w)
  case atStart => exact ⟨0, by omega, rfl, fun j hj => absurd hj (Nat.not_lt_zero _), rfl⟩
  case round =>
    obtain ⟨i, hig, rfl, hkn, rfl⟩ := hrel
    cases gk with
    | zero =>
      obtain rfl : i = l.length := by omega
      have HF : Hid (fiI a b l = -1) := by unfold fiI; rw [find_none hkn]; rfl
      have hnl : ¬ (l.length : Int) < (l.length : Int) := by omega
      clear hkn hig
      go_wp2_with fail
      go_ret
      exact ⟨by rw [HF.out]; rfl, rfl⟩
    | succ g =>
      have hil : (i : Int) < (l.length : Int) := by omega
      have hi0 : (0 : Int) ≤ (i : Int) := by omega
      have hiK : i < (bs l).size := by omega
      have hgi := bs_get l i hiK
      have wi : wrap64 ((i : Int) + 1) = ((i + 1 : Nat) : Int) := by have := HL.out; simp only [wrap64]; omega
      have HK := hm9 hkn
      have HI : Hid (i < l.length) := by show _ < _; omega
      obtain ⟨d, hd⟩ : ∃ d, d = l.getD i 0 := ⟨_, rfl⟩
      rw [← hd] at hgi
      have HDD := hm9 hd
      have hgn : ((((bs l)[i]'hiK).toNat : Nat) : Int) = (d.toNat : Int) := by rw [hgi]
      clear hkn hd hgi
      by_cases ha : (d.toNat : Int) = (a.toNat : Int)
      · have HF : Hid (fiI a b l = (i : Int)) := by unfold fiI; rw [find_drop HK.out HI.out (by rw [← HDD.out]; exact .inl (u8_eq ha))]; rfl
        go_wp2_with fail
        go_ret
        exact ⟨by rw [HF.out]; rfl, rfl⟩
      · have HA := hm9 (u8_ne ha)
        have hab : ((d.toNat : Int) == (a.toNat : Int)) = false := by simpa using ha
        by_cases hb : (d.toNat : Int) = (b.toNat : Int)
        · have HF : Hid (fiI a b l = (i : Int)) := by unfold fiI; rw [find_drop HK.out HI.out (by rw [← HDD.out]; exact .inr (u8_eq hb))]; rfl
          go_wp2_with fail
          go_ret
          exact ⟨by rw [HF.out]; rfl, rfl⟩
        · have HB := hm9 (u8_ne hb)
          have hbb : ((d.toNat : Int) == (b.toNat : Int)) = false := by simpa using hb
          go_wp2_with fail
          go_roundg g
          case measure => omega
          case rel =>
            refine ⟨i + 1, by omega, by go_num, fun j hj => ?_, rfl⟩
            rcases Nat.lt_or_ge j i with h2 | h2
            · exact HK.out j h2
            · obtain rfl : j = i := by omega
              rw [← HDD.out]; exact ⟨HA.out, HB.out⟩
theorem hexv_w {c : UInt8} (h : hexd c = true) : ((hexv c : Nat) : Int) = if (c.toNat : Int) ≤ 57 then (c.toNat : Int) - 48 else if (97 : Int) ≤ (c.toNat : Int) then (c.toNat : Int) - 97 + 10 else (c.toNat : Int) - 65 + 10 := by
  have h1 : ∀ n, n < 256 → hexdN n = true → ((hexvN n : Nat) : Int) = if (n : Int) ≤ 57 then (n : Int) - 48 else if (97 : Int) ≤ (n : Int) then (n : Int) - 97 + 10 else (n : Int) - 65 + 10 := by decide +kernel
  exact h1 c.toNat c.toNat_lt h
theorem rdigit_c (c : UInt8) (w : World) : Calls Tryz.prog 69 #[.int .u8 (c.toNat : Int)] w fun en w' => en = .returned (.int .i64 (if hexd c then ((hexv c : Nat) : Int) else -1)) ∧ w' = w := by
  rcases hexd_w (c := c) with ⟨h1, h2, h3⟩ | ⟨h1, h2, h3⟩ | ⟨h1, h2, h3⟩ | ⟨h1, h3⟩ | ⟨h1, h2, h3⟩ | ⟨h1, h2, h3⟩ | ⟨h1, h3⟩
  · have HX : Hid ((if hexd c then ((hexv c : Nat) : Int) else -1) = (c.toNat : Int) - 48) := by show _ = _; rw [if_pos h3, hexv_w h3]; split <;> (try split) <;> omega
    have p1 : (48 : Int) ≤ (c.toNat : Int) := by omega
    have p2 : (c.toNat : Int) ≤ 57 := by omega
    have q1 : ¬ (97 : Int) ≤ (c.toNat : Int) := by omega
    have q2 : (c.toNat : Int) ≤ 102 := by omega
    have r1 : ¬ (65 : Int) ≤ (c.toNat : Int) := by omega
    have r2 : (c.toNat : Int) ≤ 70 := by omega
    rw [HX.out]
    clear h3 h1 h2
    go_enter Tryz.func69, Tryz.ntmps69
    go_wp2_with fail
    go_ret
    exact ⟨by first | rfl | (congr 3; omega), rfl⟩
  · have HX : Hid ((if hexd c then ((hexv c : Nat) : Int) else -1) = (c.toNat : Int) - 97 + 10) := by show _ = _; rw [if_pos h3, hexv_w h3]; split <;> (try split) <;> omega
    have p1 : (48 : Int) ≤ (c.toNat : Int) := by omega
    have p2 : ¬ (c.toNat : Int) ≤ 57 := by omega
    have q1 : (97 : Int) ≤ (c.toNat : Int) := by omega
    have q2 : (c.toNat : Int) ≤ 102 := by omega
    have r1 : (65 : Int) ≤ (c.toNat : Int) := by omega
    have r2 : ¬ (c.toNat : Int) ≤ 70 := by omega
    rw [HX.out]
    clear h3 h1 h2
    go_enter Tryz.func69, Tryz.ntmps69
    go_wp2_with fail
    go_ret
    exact ⟨by first | rfl | (congr 3; omega), rfl⟩
  · have HX : Hid ((if hexd c then ((hexv c : Nat) : Int) else -1) = (c.toNat : Int) - 65 + 10) := by show _ = _; rw [if_pos h3, hexv_w h3]; split <;> (try split) <;> omega
    have p1 : (48 : Int) ≤ (c.toNat : Int) := by omega
    have p2 : ¬ (c.toNat : Int) ≤ 57 := by omega
    have q1 : ¬ (97 : Int) ≤ (c.toNat : Int) := by omega
    have q2 : (c.toNat : Int) ≤ 102 := by omega
    have r1 : (65 : Int) ≤ (c.toNat : Int) := by omega
    have r2 : (c.toNat : Int) ≤ 70 := by omega
    rw [HX.out]
    clear h3 h1 h2
    go_enter Tryz.func69, Tryz.ntmps69
    go_wp2_with fail
    go_ret
    exact ⟨by first | rfl | (congr 3; omega), rfl⟩
  · have HX : Hid ((if hexd c then ((hexv c : Nat) : Int) else -1) = -1) := by rw [h3]; rfl
    have p1 : ¬ (48 : Int) ≤ (c.toNat : Int) := by omega
    have p2 : (c.toNat : Int) ≤ 57 := by omega
    have q1 : ¬ (97 : Int) ≤ (c.toNat : Int) := by omega
    have q2 : (c.toNat : Int) ≤ 102 := by omega
    have r1 : ¬ (65 : Int) ≤ (c.toNat : Int) := by omega
    have r2 : (c.toNat : Int) ≤ 70 := by omega
    rw [HX.out]
    clear h3 h1
    go_enter Tryz.func69, Tryz.ntmps69
    go_wp2_with fail
    go_ret
    exact ⟨by first | rfl | (congr 3; omega), rfl⟩
  · have HX : Hid ((if hexd c then ((hexv c : Nat) : Int) else -1) = -1) := by rw [h3]; rfl
    have p1 : (48 : Int) ≤ (c.toNat : Int) := by omega
    have p2 : ¬ (c.toNat : Int) ≤ 57 := by omega
    have q1 : ¬ (97 : Int) ≤ (c.toNat : Int) := by omega
    have q2 : (c.toNat : Int) ≤ 102 := by omega
    have r1 : ¬ (65 : Int) ≤ (c.toNat : Int) := by omega
    have r2 : (c.toNat : Int) ≤ 70 := by omega
    rw [HX.out]
    clear h3 h1 h2
    go_enter Tryz.func69, Tryz.ntmps69
    go_wp2_with fail
    go_ret
    exact ⟨by first | rfl | (congr 3; omega), rfl⟩
  · have HX : Hid ((if hexd c then ((hexv c : Nat) : Int) else -1) = -1) := by rw [h3]; rfl
    have p1 : (48 : Int) ≤ (c.toNat : Int) := by omega
    have p2 : ¬ (c.toNat : Int) ≤ 57 := by omega
    have q1 : ¬ (97 : Int) ≤ (c.toNat : Int) := by omega
    have q2 : (c.toNat : Int) ≤ 102 := by omega
    have r1 : (65 : Int) ≤ (c.toNat : Int) := by omega
    have r2 : ¬ (c.toNat : Int) ≤ 70 := by omega
    rw [HX.out]
    clear h3 h1 h2
    go_enter Tryz.func69, Tryz.ntmps69
    go_wp2_with fail
    go_ret
    exact ⟨by first | rfl | (congr 3; omega), rfl⟩
  · have HX : Hid ((if hexd c then ((hexv c : Nat) : Int) else -1) = -1) := by rw [h3]; rfl
    have p1 : (48 : Int) ≤ (c.toNat : Int) := by omega
    have p2 : ¬ (c.toNat : Int) ≤ 57 := by omega
    have q1 : (97 : Int) ≤ (c.toNat : Int) := by omega
    have q2 : ¬ (c.toNat : Int) ≤ 102 := by omega
    have r1 : (65 : Int) ≤ (c.toNat : Int) := by omega
    have r2 : ¬ (c.toNat : Int) ≤ 70 := by omega
    rw [HX.out]
    clear h3 h1
    go_enter Tryz.func69, Tryz.ntmps69
    go_wp2_with fail
    go_ret
    exact ⟨by first | rfl | (congr 3; omega), rfl⟩
theorem minus_l (l : List UInt8) : minusF l = match l with | [] => (false, []) | c :: r => if c = 43 then (false, r) else if c = 45 then (true, r) else (false, c :: r) := by
  cases l with
  | nil => rfl
  | cons c r =>
    show _ = if c = 43 then (false, r) else if c = 45 then (true, r) else (false, c :: r)
    by_cases h1 : c = 43
    · subst h1; rw [if_pos rfl]; exact minus_p r
    by_cases h2 : c = 45
    · subst h2; rw [if_neg h1, if_pos rfl]; exact minus_m r
    rw [if_neg h1, if_neg h2]
    exact minus_n (fun d s h => by cases h; exact ⟨h1, h2⟩)
theorem bs_tail (c : UInt8) (r : List UInt8) : (bs (c :: r)).extract 1 (bs (c :: r)).size = bs r := by
  apply ByteArray.ext
  apply Array.ext'
  rw [Lib.extract_data, bs_data, bs_data, bs_size]
  show (((c :: r).drop 1)).take _ = r
  exact List.take_of_length_le (by show r.length ≤ r.length + 1 - 1; omega)
theorem rsigned_e (w : World) : Calls Tryz.prog 36 #[.string (bs ([] : List UInt8))] w fun en w' => en = .returned (.tuple #[.string (bs (minusF ([] : List UInt8)).2), .bool (minusF ([] : List UInt8)).1]) ∧ Below w.heap.size w w' := by
  obtain ⟨l, hl⟩ : ∃ l, l = ([] : List UInt8) := ⟨_, rfl⟩
  rw [← hl]
  have HM : Hid (minusF l = (false, [])) := by rw [hl, minus_l]; rfl
  have hem : (bs l).toList.isEmpty = true := by rw [hl]; exact emp0
  have HB : Hid (bs (minusF l).2 = bs l) := by rw [HM.out, hl]; rfl
  have hs : (bs l).size = 0 := by rw [hl]; rfl
  clear hl
  go_enter Tryz.func36, Tryz.ntmps36
  go_wp2_with fail
  go_ret2
  exact ⟨by rw [HB.out, HM.out]; rfl, Below.refl _ _⟩
theorem rsigned_p (r : List UInt8) (w : World) : Calls Tryz.prog 36 #[.string (bs (43 :: r))] w fun en w' => en = .returned (.tuple #[.string (bs (minusF (43 :: r)).2), .bool (minusF (43 :: r)).1]) ∧ Below w.heap.size w w' := by
  obtain ⟨l, hl⟩ : ∃ l, l = (43 :: r) := ⟨_, rfl⟩
  rw [← hl]
  have HM : Hid (minusF l = (false, r)) := by rw [hl, minus_l]; rfl
  have hem : (bs l).toList.isEmpty = false := emp1 (by rw [hl]; simp)
  have hs : (bs l).size = r.length + 1 := by rw [hl]; exact bs_size _
  have hg0 : (((bs l)[0]'(by rw [hs]; exact Nat.succ_pos _)).toNat : Int) = 43 := by subst hl; rfl
  have hx1 : (bs l).extract 1 (bs l).size = bs r := by rw [hl]; exact bs_tail _ r
  have hx2 : (bs l).extract 1 (r.length + 1) = bs r := by rw [← hs]; exact hx1
  have hle : 1 ≤ (bs l).size := by omega
  have hle2 : (1 : Int) ≤ (r.length : Int) + 1 := by omega
  have HB : Hid (bs (minusF l).2 = bs r) := by rw [HM.out]; rfl
  clear hl
  go_enter Tryz.func36, Tryz.ntmps36
  go_wp2_with fail
  have hbw : Below w.heap.size w w := Below.refl _ _
  obtain ⟨V, hV⟩ : ∃ W1, W1 = w.drew := ⟨_, rfl⟩
  have hbd : Below w.heap.size w V := by rw [hV]; exact bDrew1 (Below.refl _ _)
  replace hbw := Below.on hbw hbd
  clear hbd
  have HJ : Hid ((fun W' : World => True) V) := trivial
  refine wp_region_J (fun W' => True) (by kernel_rfl) ?_
  rw [← hV]
  clear hV
  refine wpJ_tk 0 (v := ?v1x0) rfl ?hy1x0 HJ.out ?_
  case hy1x0 => (intro W' hJ; have j0 := hJ; go_simp; first | done | with_reducible rfl)
  refine wpJ_tk 1 (v := ?v2x1) rfl ?hy2x1 HJ.out ?_
  case hy2x1 => (intro W' hJ; have j0 := hJ; go_simp; first | done | with_reducible rfl)
  refine wpJ_tk 2 (v := ?v3x2) rfl ?hy3x2 HJ.out ?_
  case hy3x2 => (intro W' hJ; have j0 := hJ; go_simp; first | done | with_reducible rfl)
  refine wpJ_tk 3 (v := ?v4x3) rfl ?hy4x3 HJ.out ?_
  case hy4x3 => (intro W' hJ; have j0 := hJ; go_simp; first | done | with_reducible rfl)
  refine wpJ_tk 4 (v := ?v5x4) rfl ?hy5x4 HJ.out ?_
  case hy5x4 => (intro W' hJ; have j0 := hJ; go_simp; first | done | with_reducible rfl)
  go_simp
  refine wpJ_tk 5 (v := ?v6x5) rfl ?hy6x5 HJ.out ?_
  case hy6x5 => (intro W' hJ; have j0 := hJ; go_simp; first | done | with_reducible rfl)
  refine wpJ_tk 6 (v := ?v7x6) rfl ?hy7x6 HJ.out ?_
  case hy7x6 => (intro W' hJ; have j0 := hJ; go_simp; first | done | with_reducible rfl)
  refine wpJ_done (by kernel_rfl) ?_ _
  clear HJ
  go_wp2_with fail
  go_ret2
  exact ⟨by rw [HB.out, HM.out]; rfl, hbw⟩
theorem rsigned_m (r : List UInt8) (w : World) : Calls Tryz.prog 36 #[.string (bs (45 :: r))] w fun en w' => en = .returned (.tuple #[.string (bs (minusF (45 :: r)).2), .bool (minusF (45 :: r)).1]) ∧ Below w.heap.size w w' := by
  obtain ⟨l, hl⟩ : ∃ l, l = (45 :: r) := ⟨_, rfl⟩
  rw [← hl]
  have HM : Hid (minusF l = (true, r)) := by rw [hl, minus_l]; rfl
  have hem : (bs l).toList.isEmpty = false := emp1 (by rw [hl]; simp)
  have hs : (bs l).size = r.length + 1 := by rw [hl]; exact bs_size _
  have hg0 : (((bs l)[0]'(by rw [hs]; exact Nat.succ_pos _)).toNat : Int) = 45 := by subst hl; rfl
  have hx1 : (bs l).extract 1 (bs l).size = bs r := by rw [hl]; exact bs_tail _ r
  have hx2 : (bs l).extract 1 (r.length + 1) = bs r := by rw [← hs]; exact hx1
  have hle : 1 ≤ (bs l).size := by omega
  have hle2 : (1 : Int) ≤ (r.length : Int) + 1 := by omega
  have HB : Hid (bs (minusF l).2 = bs r) := by rw [HM.out]; rfl
  clear hl
  go_enter Tryz.func36, Tryz.ntmps36
  go_wp2_with fail
  have hbw : Below w.heap.size w w := Below.refl _ _
  obtain ⟨V, hV⟩ : ∃ W1, W1 = w.drew := ⟨_, rfl⟩
  have hbd : Below w.heap.size w V := by rw [hV]; exact bDrew1 (Below.refl _ _)
  replace hbw := Below.on hbw hbd
  clear hbd
  have HJ : Hid ((fun W' : World => True) V) := trivial
  refine wp_region_J (fun W' => True) (by kernel_rfl) ?_
  rw [← hV]
  clear hV
  refine wpJ_tk 0 (v := ?v8x0) rfl ?hy8x0 HJ.out ?_
  case hy8x0 => (intro W' hJ; have j0 := hJ; go_simp; first | done | with_reducible rfl)
  refine wpJ_tk 1 (v := ?v9x1) rfl ?hy9x1 HJ.out ?_
  case hy9x1 => (intro W' hJ; have j0 := hJ; go_simp; first | done | with_reducible rfl)
  refine wpJ_tk 2 (v := ?v10x2) rfl ?hy10x2 HJ.out ?_
  case hy10x2 => (intro W' hJ; have j0 := hJ; go_simp; first | done | with_reducible rfl)
  refine wpJ_tk 3 (v := ?v11x3) rfl ?hy11x3 HJ.out ?_
  case hy11x3 => (intro W' hJ; have j0 := hJ; go_simp; first | done | with_reducible rfl)
  refine wpJ_tk 4 (v := ?v12x4) rfl ?hy12x4 HJ.out ?_
  case hy12x4 => (intro W' hJ; have j0 := hJ; go_simp; first | done | with_reducible rfl)
  go_simp
  refine wpJ_tk 5 (v := ?v13x5) rfl ?hy13x5 HJ.out ?_
  case hy13x5 => (intro W' hJ; have j0 := hJ; go_simp; first | done | with_reducible rfl)
  refine wpJ_tk 6 (v := ?v14x6) rfl ?hy14x6 HJ.out ?_
  case hy14x6 => (intro W' hJ; have j0 := hJ; go_simp; first | done | with_reducible rfl)
  refine wpJ_done (by kernel_rfl) ?_ _
  clear HJ
  go_wp2_with fail
  go_ret2
  exact ⟨by rw [HB.out, HM.out]; rfl, hbw⟩
theorem rsigned_n {c : UInt8} {r : List UInt8} (h1 : c ≠ 43) (h2 : c ≠ 45) (w : World) : Calls Tryz.prog 36 #[.string (bs (c :: r))] w fun en w' => en = .returned (.tuple #[.string (bs (minusF (c :: r)).2), .bool (minusF (c :: r)).1]) ∧ Below w.heap.size w w' := by
  obtain ⟨l, hl⟩ : ∃ l, l = (c :: r) := ⟨_, rfl⟩
  rw [← hl]
  have HM : Hid (minusF l = (false, c :: r)) := by rw [hl, minus_l]; show (if c = 43 then _ else _) = _; rw [if_neg h1, if_neg h2]
  have hem : (bs l).toList.isEmpty = false := emp1 (by rw [hl]; simp)
  have hs : (bs l).size = r.length + 1 := by rw [hl]; exact bs_size _
  have hg0 : (((bs l)[0]'(by rw [hs]; exact Nat.succ_pos _)).toNat : Int) = (c.toNat : Int) := by subst hl; rfl
  have hx1 : (bs l).extract 1 (bs l).size = bs r := by rw [hl]; exact bs_tail _ r
  have hx2 : (bs l).extract 1 (r.length + 1) = bs r := by rw [← hs]; exact hx1
  have hle : 1 ≤ (bs l).size := by omega
  have hle2 : (1 : Int) ≤ (r.length : Int) + 1 := by omega
  have hn43 : ¬ (c.toNat : Int) = 43 := fun h => h1 (u8_eq h)
  have hn45 : ¬ (c.toNat : Int) = 45 := fun h => h2 (u8_eq h)
  have hq43 : ((c.toNat : Int) == 43) = false := by have h := hn43; simpa using h
  have hq45 : ((c.toNat : Int) == 45) = false := by have h := hn45; simpa using h
  have HB : Hid (bs (minusF l).2 = bs l) := by rw [HM.out, hl]; rfl
  clear hl
  go_enter Tryz.func36, Tryz.ntmps36
  go_wp2_with fail
  go_ret2
  exact ⟨by rw [HB.out, HM.out]; rfl, Below.refl _ _⟩
theorem rsigned_c (l : List UInt8) (w : World) : Calls Tryz.prog 36 #[.string (bs l)] w fun en w' => en = .returned (.tuple #[.string (bs (minusF l).2), .bool (minusF l).1]) ∧ Below w.heap.size w w' := by
  cases l with
  | nil => exact rsigned_e w
  | cons c r =>
    by_cases h1 : c = 43
    · subst h1; exact rsigned_p r w
    by_cases h2 : c = 45
    · subst h2; exact rsigned_m r w
    exact rsigned_n h1 h2 w
def powI (l : List UInt8) : Int := match powF l with | none => 0 | some e => e
def powB (l : List UInt8) : Bool := match powF l with | none => false | some _ => true
theorem huge_snoc (n : Nat) (l : List UInt8) (c : UInt8) : hugeF n (l ++ [c]) = min (10 * hugeF n l + (c.toNat - 48)) 1099511627776 := by
  induction l generalizing n with
  | nil => rfl
  | cons d l ih => exact ih _
theorem take_snoc {l : List UInt8} {i : Nat} (h : i < l.length) : l.take (i + 1) = l.take i ++ [l.getD i 0] := by
  rw [List.take_succ_eq_append_getElem h, List.getD_eq_getElem?_getD, List.getElem?_eq_getElem h]; rfl
theorem mem_getD {l : List UInt8} {c : UInt8} (h : c ∈ l) : ∃ j, j < l.length ∧ l.getD j 0 = c := by
  obtain ⟨j, hj, he⟩ := List.getElem_of_mem h
  exact ⟨j, hj, by rw [List.getD_eq_getElem?_getD, List.getElem?_eq_getElem hj]; exact he⟩
theorem getD_mem {l : List UInt8} {j : Nat} (h : j < l.length) : l.getD j 0 ∈ l := by
  rw [List.getD_eq_getElem?_getD, List.getElem?_eq_getElem h]; exact List.getElem_mem _
theorem decs_iff (c : UInt8) : c ∈ decs ↔ 48 ≤ c.toNat ∧ c.toNat ≤ 57 := by
  have h : ∀ n, n < 256 → (UInt8.ofNat n ∈ decs ↔ 48 ≤ n ∧ n ≤ 57) := by decide +kernel
  have h2 := h c.toNat c.toNat_lt
  rwa [UInt8.ofNat_toNat] at h2
theorem rpower_c (l : List UInt8) (hl : l.length ≤ 10000) (w : World) :
    Calls Tryz.prog 68 #[.string (bs l)] w fun en w' => en = .returned (.tuple #[.int .i64 (powI l), .bool (powB l)]) ∧ Below w.heap.size w w' := by
  have HL : Hid (l.length ≤ 10000) := hl
  go_enter Tryz.func68, Tryz.ntmps68
  go_wp2_with fail
  refine (rsigned_c l _).mono ?_
  rintro en w1 ⟨rfl, hb1⟩
  have HB := hm9 hb1
  obtain ⟨t, ht⟩ : ∃ t, t = (minusF l).2 := ⟨_, rfl⟩
  obtain ⟨m, hm⟩ : ∃ m, m = (minusF l).1 := ⟨_, rfl⟩
  rw [← ht, ← hm]
  have HT : Hid (t = (minusF l).2 ∧ m = (minusF l).1 ∧ t.length ≤ 10000) := ⟨ht, hm, by rw [ht]; have := minusF_len l; have := HL.out; omega⟩
  have hs : (bs t).size = t.length := bs_size t
  clear hb1 ht hm hl
  by_cases h0 : t = []
  · have hem : (bs t).toList.isEmpty = true := by rw [h0]; exact emp0
    have HP : Hid (powF l = none) := by show _ = _; unfold powF; rw [← HT.out.1, if_pos (.inl h0)]
    have HQ : Hid (powI l = 0 ∧ powB l = false) := by unfold powI powB; rw [HP.out]; exact ⟨rfl, rfl⟩
    clear h0
    go_wp2_with fail
    go_ret2
    exact ⟨by rw [HQ.out.1, HQ.out.2]; rfl, HB.out⟩
  · have hem : (bs t).toList.isEmpty = false := emp1 h0
    have H0 := hm9 h0
    clear h0
    go_wp2_with fail
    go_loopg [5, 6] t.length (fun gk ev iv wr => ∃ i : Nat, i + gk = t.length ∧ ev = .int .i64 ((hugeF 0 (t.take i) : Nat) : Int) ∧ iv = .int .i64 i ∧ (∀ j, j < i → t.getD j 0 ∈ decs) ∧ wr = w1)
    case atStart => exact ⟨0, by omega, rfl, rfl, fun j hj => absurd hj (Nat.not_lt_zero _), rfl⟩
    case round =>
      obtain ⟨i, hig, rfl, rfl, hkn, rfl⟩ := hrel
      obtain ⟨ee, hee⟩ : ∃ ee, ee = hugeF 0 (t.take i) := ⟨_, rfl⟩
      have HE : Hid (ee = hugeF 0 (t.take i) ∧ ee ≤ 1099511627776) := ⟨hee, by rw [hee]; exact huge_le _ _ (by decide)⟩
      rw [← hee]
      clear hee
      have HK := hm9 hkn
      clear hkn
      cases gk with
      | zero =>
        obtain rfl : i = t.length := by omega
        have HP : Hid (powF l = some (if m then -((ee : Nat) : Int) else ((ee : Nat) : Int))) := by
          have h1 : ¬ (t = [] ∨ ¬ ∀ c ∈ t, c ∈ decs) := by
            rintro (h | h)
            · exact H0.out h
            · refine h (fun c hc => ?_)
              obtain ⟨j, hj, rfl⟩ := mem_getD hc
              exact HK.out j hj
          show _ = _
          unfold powF
          rw [← HT.out.1, ← HT.out.2.1, if_neg h1, HE.out.1, List.take_length]
        have hnl : ¬ (t.length : Int) < (t.length : Int) := by omega
        clear hig
        cases m
        · have HQ : Hid (powI l = ((ee : Nat) : Int) ∧ powB l = true) := by unfold powI powB; rw [HP.out]; exact ⟨rfl, rfl⟩
          go_wp2_with fail
          go_ret2
          exact ⟨by rw [HQ.out.1, HQ.out.2]; rfl, HB.out⟩
        · have HQ : Hid (powI l = -((ee : Nat) : Int) ∧ powB l = true) := by unfold powI powB; rw [HP.out]; exact ⟨rfl, rfl⟩
          have hwn : wrap64 (-((ee : Nat) : Int)) = -((ee : Nat) : Int) := by have := HE.out.2; simp only [wrap64]; omega
          have hwm : IntKind.i64.wrap (-((ee : Nat) : Int)) = -((ee : Nat) : Int) := by have := HE.out.2; simp [IntKind.wrap, IntKind.signed, IntKind.bits]; omega
          go_wp2_with fail
          go_ret2
          exact ⟨by rw [HQ.out.1, HQ.out.2]; rfl, HB.out⟩
      | succ g =>
        have hil : (i : Int) < (t.length : Int) := by omega
        have hi0 : (0 : Int) ≤ (i : Int) := by omega
        have hiK : i < (bs t).size := by omega
        have hgi := bs_get t i hiK
        have wi : wrap64 ((i : Int) + 1) = ((i + 1 : Nat) : Int) := by have := HT.out; simp only [wrap64]; omega
        have HI : Hid (i < t.length) := by show _ < _; omega
        obtain ⟨d, hd⟩ : ∃ d, d = t.getD i 0 := ⟨_, rfl⟩
        rw [← hd] at hgi
        have HDD := hm9 hd
        have hgn : ((((bs t)[i]'hiK).toNat : Nat) : Int) = (d.toNat : Int) := by rw [hgi]
        clear hd hgi
        by_cases hdd : d ∈ decs
        rotate_left
        · have HP : Hid (powF l = none) := by
            have h1 : t = [] ∨ ¬ ∀ c ∈ t, c ∈ decs := .inr (fun h => hdd (by rw [HDD.out]; exact h _ (getD_mem HI.out)))
            show _ = _
            unfold powF
            rw [← HT.out.1, if_pos h1]
          have HQ : Hid (powI l = 0 ∧ powB l = false) := by unfold powI powB; rw [HP.out]; exact ⟨rfl, rfl⟩
          have hdn : ¬ (48 ≤ d.toNat ∧ d.toNat ≤ 57) := fun h => hdd ((decs_iff d).2 h)
          clear hdd
          by_cases h48 : (d.toNat : Int) < 48
          · clear hdn
            go_wp2_with fail
            go_ret2
            exact ⟨by rw [HQ.out.1, HQ.out.2]; rfl, HB.out⟩
          · have h57 : (57 : Int) < (d.toNat : Int) := by omega
            clear hdn
            go_wp2_with fail
            go_ret2
            exact ⟨by rw [HQ.out.1, HQ.out.2]; rfl, HB.out⟩
        · have hd2 := (decs_iff d).1 hdd
          have HDC := hm9 hdd
          have h48 : ¬ (d.toNat : Int) < 48 := by omega
          have h57 : ¬ (57 : Int) < (d.toNat : Int) := by omega
          obtain ⟨e2, he2⟩ : ∃ e2, e2 = min (10 * ee + (d.toNat - 48)) 1099511627776 := ⟨_, rfl⟩
          have HE2 : Hid (e2 = hugeF 0 (t.take (i + 1))) := by rw [he2, take_snoc HI.out, huge_snoc, ← HDD.out, ← HE.out.1]; rfl
          have hw1 : wrap64 (10 * (ee : Int)) = 10 * (ee : Int) := by have := HE.out.2; simp only [wrap64]; omega
          have hw2 : IntKind.u8.wrap ((d.toNat : Int) - 48) = (d.toNat : Int) - 48 := by simp [IntKind.wrap, IntKind.signed, IntKind.bits]; omega
          have hw4 : wrap64 ((d.toNat : Int) - 48) = (d.toNat : Int) - 48 := by simp only [wrap64]; omega
          have hw3 : wrap64 (10 * (ee : Int) + ((d.toNat : Int) - 48)) = 10 * (ee : Int) + ((d.toNat : Int) - 48) := by have := HE.out.2; simp only [wrap64]; omega
          have hmn : min (10 * (ee : Int) + ((d.toNat : Int) - 48)) 1099511627776 = (e2 : Int) := by rw [he2]; omega
          clear hd2 hdd he2
          go_wp2_with fail
          go_roundg g
          case measure => omega
          case rel =>
            refine ⟨i + 1, by omega, congrArg (fun x : Nat => Value.int .i64 (x : Int)) HE2.out, by go_num, fun j hj => ?_, rfl⟩
            rcases Nat.lt_or_ge j i with h2 | h2
            · exact HK.out j h2
            · obtain rfl : j = i := by omega
              rw [← HDD.out]; exact HDC.out
theorem sixteen (k : Nat) : (16 : Nat) ^ k = 2 ^ (4 * k) := by rw [show (16 : Nat) = 2 ^ 4 by decide, ← Nat.pow_mul]
structure WinRel32 (w : World) (g off n : Nat) (W D d b : Nat) (ws : List Nat) (wr : World) : Prop where
  wrs : Wr g off (n + 1) w wr
  row : Row32 wr g off (n + 1) ws
  db : d < B32
  bb : b ≤ 1
  ge : W / D ≤ d
  sum : valB B32 ws + D * d = W + B32 ^ (n + 1) * b
theorem WinRel32.done {w : World} {g off n W D d : Nat} {ws : List Nat} {wr : World} (h : WinRel32 w g off n W D d 0 ws wr) (hD : 0 < D) : d = W / D ∧ valB B32 ws = W % D := by
  have h1 := h.sum; have h2 := h.ge
  rw [Nat.mul_zero, Nat.add_zero] at h1
  have h3 : d ≤ W / D := (Nat.le_div_iff_mul_le hD).2 (by rw [Nat.mul_comm]; omega)
  have h4 : d = W / D := by omega
  refine ⟨h4, ?_⟩
  have h5 := Nat.div_add_mod W D
  rw [← h4] at h5
  omega
structure DgS (w : World) (g off n : Nat) (us vs : List Nat) (q k cy ow : Nat) (dk : List Nat) (wr : World) : Prop where
  wrs : Wr g off (n + 1) w wr
  row : Row32 wr g off (n + 1) dk
  hi : dk.drop k = us.drop k
  car : cy < B32
  owb : ow ≤ 1
  fin : k = n + 1 → cy = 0
  sum : valB B32 (dk.take k) + valB B32 (vs.take k) * q = valB B32 (us.take k) + B32 ^ k * (ow + cy)
theorem dgs_abs {P B S V U q d y u o c o' c' : Nat} (h : S + V * q = U + P * (o + c)) (hs : o + c + d + y * q = u + B * (o' + c')) : S + P * d + (V + P * y) * q = U + P * u + P * B * (o' + c') := by
  have e1 : P * (o + c + d + y * q) = P * (u + B * (o' + c')) := by rw [hs]
  rw [Nat.mul_add P (o + c + d) (y * q), Nat.mul_add P (o + c) d, Nat.mul_add P u] at e1
  have e2 : P * (y * q) = P * y * q := (Nat.mul_assoc _ _ _).symm
  have e3 : P * (B * (o' + c')) = P * B * (o' + c') := (Nat.mul_assoc _ _ _).symm
  rw [e2, e3] at e1
  rw [Nat.add_mul]
  generalize P * y * q = X1 at *
  generalize P * B * (o' + c') = X2 at *
  generalize P * (o + c) = X3 at *
  generalize P * d = X4 at *
  generalize P * u = X5 at *
  omega
theorem DgS.step {w : World} {g off n : Nat} {us vs : List Nat} {q k cy ow : Nat} {dk : List Nat} {wr : World} (h : DgS w g off n us vs q k cy ow dk wr) (hk : k < n + 1) (hvl : vs.length = n)
    {y u c1 lo cy' ow' d : Nat} (hy : y = vs.getD k 0) (hu : u = dk.getD k 0) (hc1 : c1 = cy + y * q) (hlo : c1 = lo + B32 * cy') (hcy' : cy' < B32) (how' : ow' ≤ 1) (hd : d + lo + ow = u + B32 * ow') (hdb : d < B32) :
    DgS w g off n us vs q (k + 1) cy' ow' (dk.set k d) (wr.setCell ⟨g, off + k, none⟩ (V d)) := by
  have hlen := h.row.len
  refine ⟨h.wrs.setCell (off + k) ⟨by omega, by omega⟩ _, h.row.set k d hk hdb, ?_, hcy', how', ?_, ?_⟩
  · rw [drop_set_lt]; exact drop_succ_of_drop h.hi
  · intro hkn
    have h0 : y = 0 := by
      rw [hy, List.getD_eq_getElem?_getD, List.getElem?_eq_none (by omega)]; rfl
    rw [h0, Nat.zero_mul] at hc1
    have := h.car
    rcases Nat.eq_zero_or_pos cy' with e | e
    · exact e
    · have : B32 * 1 ≤ B32 * cy' := Nat.mul_le_mul_left _ e
      omega
  · have huu : u = us.getD k 0 := hu.trans (getD_of_drop h.hi)
    rw [take_set_succ dk k d (by omega), valB_snoc, List.length_take, hlen, Nat.min_eq_left (by omega), valB_take_any _ us k, valB_take_any _ vs k, ← huu, ← hy, Nat.pow_succ]
    refine dgs_abs h.sum ?_
    rw [Nat.mul_add]
    omega
structure DgA (w : World) (g off n : Nat) (ws vs : List Nat) (k cy : Nat) (dk : List Nat) (wr : World) : Prop where
  wrs : Wr g off (n + 1) w wr
  row : Row32 wr g off (n + 1) dk
  hi : dk.drop k = ws.drop k
  car : cy ≤ 1
  sum : valB B32 (dk.take k) + B32 ^ k * cy = valB B32 (ws.take k) + valB B32 (vs.take k)
theorem DgA.step {w : World} {g off n : Nat} {ws vs : List Nat} {k cy : Nat} {dk : List Nat} {wr : World} (h : DgA w g off n ws vs k cy dk wr) (hk : k < n + 1)
    {y u lo cy' : Nat} (hy : y = vs.getD k 0) (hu : u = dk.getD k 0) (hs : cy + u + y = lo + B32 * cy') (hlo : lo < B32) (hcy' : cy' ≤ 1) :
    DgA w g off n ws vs (k + 1) cy' (dk.set k lo) (wr.setCell ⟨g, off + k, none⟩ (V lo)) := by
  have hlen := h.row.len
  refine ⟨h.wrs.setCell (off + k) ⟨by omega, by omega⟩ _, h.row.set k lo hk hlo, ?_, hcy', ?_⟩
  · rw [drop_set_lt]; exact drop_succ_of_drop h.hi
  · have huu : u = ws.getD k 0 := hu.trans (getD_of_drop h.hi)
    rw [take_set_succ dk k lo (by omega), valB_snoc, List.length_take, hlen, Nat.min_eq_left (by omega), valB_take_any _ ws k, valB_take_any _ vs k, ← huu, ← hy, Nat.pow_succ]
    have e1 := h.sum
    have e2 : B32 ^ k * (cy + u + y) = B32 ^ k * (lo + B32 * cy') := by rw [hs]
    rw [Nat.mul_add, Nat.mul_add, Nat.mul_add, ← Nat.mul_assoc] at e2
    omega
theorem Blk32.own {w : World} {g base : Nat} {xs : List Nat} (h : Blk32 w g xs) (hb : base ≤ g) (hm : xs.length ≤ maxLen) : w.ownsRow base 118 1 (.slice (some ⟨g, 0, none⟩) xs.length xs.length) xs.length (cellsV xs) :=
  ⟨by simp [cellsV], .inr ⟨g, xs.length, (cellsV xs).toArray, rfl, hb, h, Nat.le_refl _, hm, by simp [cellsV], by rw [Nat.mul_one]; exact List.take_of_length_le (by simp [cellsV])⟩⟩
structure RSmR (w : World) (g N : Nat) (xs : List Nat) (v c i cy : Nat) (ss : List Nat) (wr : World) : Prop where
  bel : Below g w wr
  own : wr.ownsRow g 118 1 (.slice (some ⟨g, 0, none⟩) i N) i (cellsV ss)
  len : ss.length = i
  dig : Dig B32 ss
  car : cy < B32
  sum : valB B32 ss + B32 ^ i * cy = valB B32 (xs.take i) * v + c
theorem rsm_step {xs ss : List Nat} {i cy x v c lo hh : Nat} (h : valB B32 ss + B32 ^ i * cy = valB B32 (xs.take i) * v + c) (hl : ss.length = i) (ex : x = xs.getD i 0) (hs : cy + x * v = lo + B32 * hh) :
    valB B32 (ss ++ [lo]) + B32 ^ (i + 1) * hh = valB B32 (xs.take (i + 1)) * v + c := by
  rw [valB_snoc, hl, valB_take_any _ xs i, ← ex, Nat.pow_succ, Nat.add_mul]
  have e1 : B32 ^ i * (cy + x * v) = B32 ^ i * (lo + B32 * hh) := by rw [hs]
  rw [Nat.mul_add, Nat.mul_add, ← Nat.mul_assoc, ← Nat.mul_assoc] at e1
  omega
theorem own_at32 {wr : World} {g i N : Nat} {ss : List Nat} (ho : wr.ownsRow g 118 1 (.slice (some ⟨g, 0, none⟩) i N) i (cellsV ss)) (hl : ss.length = i) (hd : Dig B32 ss) : At32 wr (some ⟨g, 0, none⟩) i N ss := by
  rcases ho.2 with ⟨h', _⟩ | ⟨g', cap', cur, h', hbase, hgc, hcap', hmx, hsz, htake⟩
  · simp at h'
  · simp only [Value.slice.injEq, Option.some.injEq, Addr.mk.injEq, and_true, true_and] at h'
    obtain ⟨rfl, rfl⟩ := h'
    refine ⟨hl, hcap', hmx, hd, .inr ⟨g, 0, rfl, fun jj hj => ?_⟩⟩
    rw [Nat.zero_add, cell_of_row wr g jj _ _ _ hgc]
    have e1 := cellsV_get ss jj (by rw [hl]; exact hj)
    rw [← htake, Nat.mul_one, List.getElem?_take, if_pos hj] at e1
    rw [← Array.getElem?_toList]; exact e1

theorem rsmall_any {p : Option Addr} {n c : Nat} {xs : List Nat} {a v u : Nat} {w : World} (h : At32 w p n c xs) (hx : Nf B32 xs a) (hn : n ≤ 4398046511104) (hv : v < B32) (hu : u < B32) :
    Calls Tryz.prog 70 #[.slice p n c, V v, V u] w fun e w' => ∃ g zs, e = .returned (.slice (some ⟨g, 0, none⟩) zs.length zs.length) ∧ Blk32 w' g zs ∧ Nf B32 zs (a * v + u) ∧ zs.length ≤ n + 1 ∧ Below w.heap.size w w' := by
  obtain ⟨i0, hi, hz0, hz1, hz2⟩ := info_parts Tryz.infoU32
  have HX : Hid (Nf B32 xs a) := hx
  have HLX : Hid (xs.length = n) := h.len
  have hcap := h.cap; have hbig := h.big
  unfold maxLen at hbig
  have huw : IntKind.u64.wrap (u : Int) = (u : Int) := wrap_mod _ _ (by rw [B32_eq] at hu; omega)
  clear hx
  go_enter Tryz.func70, Tryz.ntmps70
  go_wp2_with (at_make; refine wpList_make_own _ rfl _ _ 84 rfl w.heap.size 118 i0 (.int .u32 0) 1 Tryz.underlying84 hi hz0 hz1 _ _ _ (n + 1) rfl rfl (by omega) (by rw [hz2]; omega) (by unfold maxLen; omega) (Nat.le_refl _) ?_; intro w1 hown hgrow)
  have hb1 : Below w.heap.size w w1 := (Below.refl _ _).grown hgrow (Nat.le_refl _) (fun k hk => by simp at hk)
  have HO : Hid (RSmR w w.heap.size (n + 1) xs v u 0 u [] w1) := ⟨hb1, hown, rfl, Dig.nil _, hu, by simp [valB]⟩
  clear hown hgrow hb1
  obtain ⟨N, hN⟩ : ∃ N, N = n + 1 := ⟨_, rfl⟩
  rw [← hN] at HO ⊢
  have HN : Hid (N = n + 1) := hN
  clear hN
  go_loopg [7, 8, 9] n (fun gk sv cv iv wr => ∃ (i cy : Nat) (ss : List Nat), i + gk = n ∧ iv = .int .i64 i ∧ cv = U cy ∧ sv = .slice (some ⟨w.heap.size, 0, none⟩) i N ∧ Hid (RSmR w w.heap.size N xs v u i cy ss wr))
  case atStart => exact ⟨0, u, [], by omega, rfl, rfl, rfl, HO⟩
  case round =>
    obtain ⟨i, cy, ss, hig, rfl, rfl, rfl, HR⟩ := hrel
    have hcyb := HR.out.car
    cases gk with
    | zero =>
      obtain rfl : i = n := by omega
      have hni : ¬ i < i := by omega
      have hw32 : IntKind.u32.wrap (cy : Int) = (cy : Int) := wrap32 cy hcyb
      have HOA : Hid ((wr.alloc (.cells #[V cy] 118)).ownsRow w.heap.size 118 1 (.slice (some ⟨w.heap.size, 0, none⟩) i N) i (cellsV ss)) := HR.out.own.alloc _
      have hsp : i + 1 ≤ N := by have := HN.out; omega
      go_wp2_with (at_builtin; refine wpList_append_fits _ rfl (.tmp 40) (.tmp 43) 84 rfl w.heap.size 118 i0 1 Tryz.underlying84 hi hz1 w.heap.size i N (cellsV ss) rfl HOA.out ⟨wr.heap.size, 0, none⟩ 1 1 [V cy] rfl rfl (one_cell wr cy) (by intro u hu; simp at hu; subst hu; rfl) hsp ?_; intro w3 hw3 hgr3)
      have hR := HR.out
      have hbx : Below w.heap.size w w3 := (hR.bel.alloc hR.bel.size _).grown hgr3 (by have := hR.bel.size; simp; omega) (fun q hq => by simp at hq; omega)
      have e0 : cellsV (ss ++ [cy]) = cellsV ss ++ [V cy] := by unfold cellsV; rw [List.map_append]; rfl
      rw [← e0] at hw3
      have hl3 : (ss ++ [cy]).length = i + 1 := by simp [hR.len]
      have hd3 : Dig B32 (ss ++ [cy]) := hR.dig.append (Dig.cons hcyb (Dig.nil _))
      have A32 := own_at32 hw3 hl3 hd3
      have HNF : Hid (Nf B32 (trimL (ss ++ [cy])) (a * v + u)) := by
        have h1 := Nf.trim hd3
        have h2 := hR.sum
        rw [List.take_of_length_le (by rw [HLX.out]; omega), HX.out.val] at h2
        rw [valB_snoc, hR.len, h2] at h1; exact h1
      have hle := trimL_length_le (ss ++ [cy])
      have HLE : Hid ((trimL (ss ++ [cy])).length ≤ i + 1) := by show _ ≤ _; omega
      clear hw3 hgr3 e0 hl3 hd3 hle hR
      refine (rnorm_any A32 (by omega)).mono ?_
      rintro e w5 ⟨g5, rfl, hg5, hblk5, hb5⟩
      generalize trimL (ss ++ [cy]) = zs at *
      go_wp2_with fail
      go_ret
      exact ⟨g5, zs, rfl, hblk5, HNF.out, HLE.out, Below.on hbx hb5⟩
    | succ gg =>
      obtain ⟨g, off, rfl, hc⟩ := h.cells.resolve_left (by omega)
      obtain ⟨x, hxx⟩ : ∃ x, x = xs.getD i 0 := ⟨_, rfl⟩
      have hin : i < n := by omega
      have hcx0 : w.cell? ⟨g, off + i, none⟩ = some (V x) := by rw [hxx]; exact hc i hin
      have hcx : wr.cell? ⟨g, off + i, none⟩ = some (V x) := (HR.out.bel.cell (p := ⟨g, off + i, none⟩) (World.block_lt_of_cell? w _ hcx0)).trans hcx0
      have hxb : x < B32 := by rw [hxx]; exact HX.out.dig.getD B32_pos i
      have hxw : IntKind.u64.wrap (x : Int) = (x : Int) := wrap_mod _ _ (by rw [B32_eq] at hxb; omega)
      have hvw : IntKind.u64.wrap (v : Int) = (v : Int) := wrap_mod _ _ (by rw [B32_eq] at hv; omega)
      have HXE : Hid (x = xs.getD i 0) := hxx
      have hall := rmul_digit hxb hv B32_pos hcyb
      obtain ⟨xy, exy⟩ : ∃ xy, xy = x * v := ⟨_, rfl⟩
      rw [← exy] at hall
      rw [B64_eq] at hall
      have f1 : IntKind.u64.wrap ((x : Int) * (v : Int)) = (xy : Int) := by
        have e : ((x : Int) * (v : Int)) = ((x * v : Nat) : Int) := by simp
        rw [e, ← exy]; exact wrap_mod _ _ (by omega)
      obtain ⟨s2, es2⟩ : ∃ s2, s2 = cy + xy := ⟨_, rfl⟩
      have f3 : IntKind.u64.wrap ((cy : Int) + (xy : Int)) = (s2 : Int) := wrap_mod _ _ (by omega)
      have hs2 : s2 < 18446744073709551616 := by omega
      obtain ⟨lo, elo⟩ : ∃ lo, lo = s2 % B32 := ⟨_, rfl⟩
      obtain ⟨hh, ehh⟩ : ∃ hh, hh = s2 / B32 := ⟨_, rfl⟩
      have hlob : lo < B32 := by rw [elo]; exact Nat.mod_lt _ B32_pos
      have hhhb : hh < B32 := by rw [ehh]; exact Nat.div_lt_of_lt_mul (by rw [B32_two, B64_eq]; exact hs2)
      have f4 : bits .and .u64 (s2 : Int) 4294967295 = (lo : Int) := by rw [elo, B32_eq]; exact and32 s2 hs2
      have f5 : (s2 : Int) / 4294967296 = (hh : Int) := by rw [ehh, B32_eq]; exact div32 s2
      have f6 : IntKind.u32.wrap (lo : Int) = (lo : Int) := wrap32 lo hlob
      have HSUM : Hid (cy + x * v = lo + B32 * hh) := by
        have := Nat.mod_add_div s2 B32
        rw [← elo, ← ehh] at this
        show _ = _; omega
      have HOA : Hid ((wr.alloc (.cells #[V lo] 118)).ownsRow w.heap.size 118 1 (.slice (some ⟨w.heap.size, 0, none⟩) i N) i (cellsV ss)) := HR.out.own.alloc _
      have hsp : i + 1 ≤ N := by have := HN.out; omega
      clear hall exy es2 elo ehh hxx hcx0 hc
      go_wp2_with (at_builtin; refine wpList_append_fits _ rfl (.tmp 32) (.tmp 36) 84 rfl w.heap.size 118 i0 1 Tryz.underlying84 hi hz1 w.heap.size i N (cellsV ss) rfl HOA.out ⟨wr.heap.size, 0, none⟩ 1 1 [V lo] rfl rfl (one_cell wr lo) (by intro u hu; simp at hu; subst hu; rfl) hsp ?_; intro w3 hw3 hgr3)
      have HR3 : Hid (RSmR w w.heap.size N xs v u (i + 1) hh (ss ++ [lo]) w3) := by
        have hR := HR.out
        refine ⟨(hR.bel.alloc hR.bel.size _).grown hgr3 (by have := hR.bel.size; simp; omega) (fun q hq => by simp at hq; omega), ?_, by simp [hR.len], hR.dig.append (Dig.cons hlob (Dig.nil _)), hhhb, rsm_step hR.sum hR.len HXE.out HSUM.out⟩
        have e0 : cellsV (ss ++ [lo]) = cellsV ss ++ [V lo] := by unfold cellsV; rw [List.map_append]; rfl
        rw [e0]; exact hw3
      clear hw3 hgr3
      go_roundg gg
      case measure => omega
      case rel => exact ⟨i + 1, hh, ss ++ [lo], by omega, by go_num, rfl, rfl, HR3⟩
theorem wpList_make_room {P : Program} (w : World) {ops : Array Oper} {rest : List Oper} {o : Oper} {a : Act} {Q : Exit → Act → World → Prop}
    (hg : o.guard = none) (l c : Operand) (t : TypeId) (hop : o.op = Op.makeSlice t l c)
    (base : Nat) (e : TypeId) (i : TypeInfo) (z : Value) (size : Nat) (h1 : P.underlying t = some (.slice e)) (h2 : P.info? e = some i) (h3 : i.zero = some z) (h4 : i.size = size)
    (kl kc : IntKind) (L C : Int) (n m : Nat) (hl : a.eval l = .int kl L) (hc : a.eval c = .int kc C) (hL : L = (n : Int)) (hC : C = (m : Int)) (hnm : n ≤ m) (b2 : i.bytes * m ≤ 281474976710656) (b3 : m ≤ maxLen) (b4 : base ≤ w.heap.size)
    (hK : ∀ w', w'.ownsRow base e size (.slice (some ⟨w.heap.size, 0, none⟩) n m) n ((madeCells z.cells (m * size)).toList.take (n * size)) → w.grownBy w' none → wpList P ops Q rest (a.put o.dst (.slice (some ⟨w.heap.size, 0, none⟩) n m)) w') :
    wpList P ops Q (o :: rest) a w := by
  refine wpList_plain hg fun K hK' => ?_
  subst h4
  have h63' : (m : Int) ≤ 9223372036854775807 := by
    have h := b3
    simp [maxLen] at h
    omega
  have hb' : (i.bytes : Int) * (m : Int) ≤ 281474976710656 := by
    have h : ((i.bytes * m : Nat) : Int) ≤ 281474976710656 := by omega
    rwa [Int.natCast_mul] at h
  have hr := run_make (P := P) w t e i z h1 h2 h3 kl kc n m (by omega) (by omega) hb' h63'
  simp only [Int.toNat_natCast] at hr
  subst hL
  subst hC
  unfold Oper.wp
  simp [execOp, hop, hl, hc, hr, Result.andThen]
  refine hK' _ _ (hK _ ⟨?_, .inr ⟨_, m, _, rfl, b4, heap_alloc_new w _, hnm, b3, size_madeCells _ _, rfl⟩⟩ (World.grownBy_alloc w _ none))
  rw [List.length_take, Nat.min_eq_left]
  rw [Array.length_toList, size_madeCells]
  exact Nat.mul_le_mul_right _ hnm
theorem made_take (D M : Nat) (h : D ≤ M) : (madeCells (Value.cells (.int .u32 0)) (M * 1)).toList.take (D * 1) = cellsV (List.replicate D 0) := by
  rw [madeV, Nat.mul_one]
  unfold cellsV
  rw [List.map_replicate, List.map_replicate, List.take_replicate, Nat.min_eq_left h]
theorem valB_zeros (D : Nat) (zs : List Nat) : valB B32 (List.replicate D 0 ++ zs) = B32 ^ D * valB B32 zs := by
  rw [valB_append, valB_replicate, List.length_replicate, Nat.zero_add]

theorem own_below {w w' : World} {base g n m size : Nat} {e : TypeId} {xs : List Value} (h : w.ownsRow base e size (.slice (some ⟨g, 0, none⟩) n m) n xs) (hb : Below w.heap.size w w') (hg : g < w.heap.size) : w'.ownsRow base e size (.slice (some ⟨g, 0, none⟩) n m) n xs := by
  refine ⟨h.1, ?_⟩
  rcases h.2 with ⟨h', _⟩ | ⟨g', cap', cur, h', hbase, hgc, hr⟩
  · simp at h'
  · have h2 := h'
    simp only [Value.slice.injEq, Option.some.injEq, Addr.mk.injEq, and_true] at h2
    obtain ⟨rfl, _⟩ := h2
    exact .inr ⟨_, cap', cur, h', hbase, (hb.block _ hg).trans hgc, hr⟩
theorem blk_src {w : World} {g : Nat} {xs : List Nat} (h : Blk32 w g xs) : ∀ j u, (cellsV xs)[j]? = some u → w.cell? ((⟨g, 0, none⟩ : Addr).add j) = some u := by
  intro j u hu
  have hj : j < xs.length := by
    have := (List.getElem?_eq_some_iff.1 hu).1
    rwa [cellsV_length] at this
  have hadd : (⟨g, 0, none⟩ : Addr).add j = ⟨g, j, none⟩ := by unfold Addr.add; split <;> simp_all
  rw [hadd, h.cell j hj]
  rw [cellsV_get xs j hj] at hu
  exact hu

theorem rshl_any {p : Option Addr} {n c : Nat} {xs : List Nat} {a : Nat} {w : World} (h : At32 w p n c xs) (hx : Nf B32 xs a) (hn0 : 0 < n) (hn : n ≤ 16384) (N : Nat) (hN2 : N ≤ 524288) :
    Calls Tryz.prog 71 #[.slice p n c, .int .i64 N] w fun e w' => ∃ p' m' zs, e = .returned (.slice p' m' m') ∧ At32 w' p' m' m' zs ∧ Nf B32 zs (a * 2 ^ N) ∧ m' ≤ 40000 ∧ Below w.heap.size w w' := by
  obtain ⟨i0, hi, hz0, hz1, hz2⟩ := info_parts Tryz.infoU32
  have HX : Hid (Nf B32 xs a) := hx
  have HA : Hid (At32 w p n c xs) := h
  have HLX : Hid (xs.length = n) := h.len
  have cap := h.cap
  have big := h.big
  unfold maxLen at big
  have hne : ((n : Int) == 0) = false := by simp; omega
  clear hx h
  by_cases hN0 : N = 0
  · subst hN0
    go_enter Tryz.func71, Tryz.ntmps71
    go_wp2_with fail
    refine (rnorm_any HA.out (by omega)).mono ?_
    rw [trimL_of_Top HX.out.top]
    rintro e w1 ⟨g, rfl, hg, hb, hbl⟩
    have HB : Hid (Blk32 w1 g xs) := hb
    rw [HLX.out]
    clear hb
    go_wp2_with fail
    go_ret
    exact ⟨_, n, xs, rfl, HB.out.at_ HX.out.dig HLX.out (by unfold maxLen; omega), by rw [Nat.pow_zero, Nat.mul_one]; exact HX.out, by omega, hbl⟩
  · obtain ⟨D, hD⟩ : ∃ D, D = N / 32 := ⟨_, rfl⟩
    obtain ⟨R, hR⟩ : ∃ R, R = N % 32 := ⟨_, rfl⟩
    have d1 : (N : Int).tdiv 32 = (D : Int) := by rw [Int.tdiv_eq_ediv_of_nonneg (by omega)]; omega
    have d2 : (N : Int).tmod 32 = (R : Int) := by rw [Int.tmod_eq_emod_of_nonneg (by omega)]; omega
    have hNp : ¬ (N : Int) ≤ 0 := by omega
    have hR32 : R < 32 := by omega
    have hDb : D ≤ 16384 := by omega
    have HD : Hid (2 ^ N = B32 ^ D * 2 ^ R) := by show _ = _; rw [show B32 = 2 ^ 32 from rfl, ← Nat.pow_mul, ← Nat.pow_add]; congr 1; omega
    obtain ⟨M, hM⟩ : ∃ M, M = D + n + 1 := ⟨_, rfl⟩
    have hMI : (D : Int) + (n : Int) + 1 = (M : Int) := by omega
    have HM : Hid (M = D + n + 1) := hM
    have hMb : M ≤ 33000 := by omega
    have hDM : D ≤ M := by omega
    obtain ⟨d, hd⟩ : ∃ d, d = 2 ^ R := ⟨_, rfl⟩
    have hd1 : 1 ≤ d := by rw [hd]; exact Nat.pow_pos (by decide)
    have hdB : d < B32 := by rw [hd, show B32 = 2 ^ 32 from rfl]; exact Nat.pow_lt_pow_right (by decide) hR32
    have hdw : IntKind.u32.wrap (d : Int) = (d : Int) := wrap32 d hdB
    have hdI : (2 : Int) ^ R = (d : Int) := by rw [hd]; norm_cast
    have HDD : Hid (d = 2 ^ R ∧ 1 ≤ d ∧ d < B32) := ⟨hd, hd1, hdB⟩
    clear hD hR hM hd hd1 hdB
    go_enter Tryz.func71, Tryz.ntmps71
    go_wp2_with (at_make; refine wpList_make_room _ rfl _ _ 84 rfl w.heap.size 118 i0 (.int .u32 0) 1 Tryz.underlying84 hi hz0 hz1 _ _ _ _ D M rfl rfl (by omega) (by omega) hDM (by rw [hz2]; omega) (by unfold maxLen; omega) (Nat.le_refl _) ?_; intro w1 hown hgrow)
    have hb1 : Below w.heap.size w w1 := (Below.refl _ _).grown hgrow (Nat.le_refl _) (fun k hk => by simp at hk)
    rw [made_take D M hDM] at hown
    have HO : Hid (w1.ownsRow w.heap.size 118 1 (.slice (some ⟨w.heap.size, 0, none⟩) D M) D (cellsV (List.replicate D 0))) := hown
    have HA1 : Hid (At32 w1 p n c xs) := HA.out.below hb1
    have HB1 : Hid (Below w.heap.size w w1) := hb1
    have HSZ : Hid (w.heap.size < w1.heap.size) := by
      rcases HO.out.2 with ⟨h', _⟩ | ⟨g', _, _, h', _, hgc, _⟩
      · simp at h'
      · simp only [Value.slice.injEq, Option.some.injEq, Addr.mk.injEq, and_true] at h'
        obtain ⟨rfl, _⟩ := h'
        exact (Array.getElem?_eq_some_iff.1 hgc).1
    clear hown hgrow hb1 HA
    rw [show Value.int IntKind.u32 (d : Int) = V d from rfl, show Value.int IntKind.u32 0 = V 0 from rfl]
    refine (rsmall_any HA1.out HX.out (by omega) HDD.out.2.2 (show 0 < B32 by decide)).mono ?_
    rintro e w2 ⟨g2, z2, rfl, hk2, hn2, hl2, hb2⟩
    rw [Nat.add_zero] at hn2
    have HO2 : Hid (w2.ownsRow w.heap.size 118 1 (.slice (some ⟨w.heap.size, 0, none⟩) D M) D (cellsV (List.replicate D 0))) := own_below HO.out hb2 HSZ.out
    have HK2 : Hid (Blk32 w2 g2 z2) := hk2
    have HN2 : Hid (Nf B32 z2 (a * d)) := hn2
    have HB2 : Hid (Below w.heap.size w w2) := Below.on HB1.out hb2
    obtain ⟨l2, hle2⟩ : ∃ l2, l2 = z2.length := ⟨_, rfl⟩
    have HL2 : Hid (z2.length = l2) := hle2.symm
    rw [← hle2] at hl2 ⊢
    have hsp : D + l2 ≤ M := by have := HM.out; omega
    clear hk2 hn2 hb2 hle2 HO HA1 HB1
    go_wp2_with (at_builtin; refine wpList_append_fits _ rfl (.tmp 24) (.tmp 29) 84 rfl w.heap.size 118 i0 1 Tryz.underlying84 hi hz1 w.heap.size D M (cellsV (List.replicate D 0)) rfl HO2.out ⟨g2, 0, none⟩ l2 l2 (cellsV z2) rfl (by rw [cellsV_length, HL2.out, Nat.mul_one]) (blk_src HK2.out) (cellsV_one _) hsp ?_; intro w3 hw3 hgr3)
    have hd3 : Dig B32 (List.replicate D 0 ++ z2) := (Dig.replicate B32 D B32_pos).append HN2.out.dig
    have hl3 : (List.replicate D 0 ++ z2).length = D + l2 := by rw [List.length_append, List.length_replicate, HL2.out]
    have A3 : Hid (At32 w3 (some ⟨w.heap.size, 0, none⟩) (D + l2) M (List.replicate D 0 ++ z2)) := own_at32 (by rw [show cellsV (List.replicate D 0 ++ z2) = cellsV (List.replicate D 0) ++ cellsV z2 from by unfold cellsV; rw [List.map_append]]; exact hw3) hl3 hd3
    have HB3 : Hid (Below w.heap.size w w3) := HB2.out.grown hgr3 HB2.out.size (fun q hq => by simp at hq; omega)
    have NF3 : Hid (Nf B32 (trimL (List.replicate D 0 ++ z2)) (a * 2 ^ N)) := by
      have h1 := Nf.trim hd3
      rw [valB_zeros, HN2.out.val] at h1
      have e1 : B32 ^ D * (a * d) = a * 2 ^ N := by rw [HD.out, ← HDD.out.1, Nat.mul_left_comm]
      rw [e1] at h1; exact h1
    have hle3 : (trimL (List.replicate D 0 ++ z2)).length ≤ D + l2 := by have h1 := trimL_length_le (List.replicate D 0 ++ z2); omega
    clear hw3 hgr3 hl3 hd3
    refine (rnorm_any A3.out (by omega)).mono ?_
    rintro e w4 ⟨g4, rfl, hg4, hb4, hbl4⟩
    have A4 : Hid (At32 w4 (some ⟨g4, 0, none⟩) (trimL (List.replicate D 0 ++ z2)).length (trimL (List.replicate D 0 ++ z2)).length (trimL (List.replicate D 0 ++ z2))) := hb4.at_ NF3.out.dig rfl (by unfold maxLen; omega)
    have hbw4 := Below.on HB3.out hbl4
    generalize trimL (List.replicate D 0 ++ z2) = z4 at *
    clear hb4 hbl4 hg4
    go_wp2_with fail
    go_ret
    exact ⟨_, _, z4, rfl, A4.out, NF3.out, by omega, hbw4⟩
structure Op5 where
  k : Int
  pa : Option Addr
  na : Nat
  ca : Nat
  xa : List Nat
  pb : Option Addr
  nb : Nat
  cb : Nat
  xb : List Nat
  nn : Int
  wd : Nat
structure Scr (w : World) (P : Option Addr) (N C : Nat) (its : List Op5) : Prop where
  len : its.length = N
  cap : N ≤ C
  big : C ≤ maxLen
  ats : ∀ t ∈ its, At w t.pa t.na t.ca t.xa ∧ At w t.pb t.nb t.cb t.xb ∧ t.na ≤ 17592186044416 ∧ t.nb ≤ 17592186044416 ∧ t.wd < B64 ∧ -9223372036854775808 ≤ t.nn ∧ t.nn ≤ 9223372036854775807
  cells : N = 0 ∨ ∃ g off, P = some ⟨g, off, none⟩ ∧ ∀ i (h : i < its.length), w.cell? ⟨g, off + i * 5, none⟩ = some (.int .i64 its[i].k) ∧ w.cell? ⟨g, off + i * 5 + 1, none⟩ = some (.slice its[i].pa its[i].na its[i].ca) ∧
    w.cell? ⟨g, off + i * 5 + 2, none⟩ = some (.slice its[i].pb its[i].nb its[i].cb) ∧ w.cell? ⟨g, off + i * 5 + 3, none⟩ = some (.int .i64 its[i].nn) ∧ w.cell? ⟨g, off + i * 5 + 4, none⟩ = some (U its[i].wd)
theorem Scr.below {w w' : World} {P : Option Addr} {N C : Nat} {its : List Op5} (h : Scr w P N C its) (hb : Below w.heap.size w w') : Scr w' P N C its := by
  refine ⟨h.len, h.cap, h.big, fun t ht => ?_, ?_⟩
  · obtain ⟨h1, h2, h3⟩ := h.ats t ht
    exact ⟨h1.below hb, h2.below hb, h3⟩
  · rcases h.cells with h0 | ⟨g, off, hP, hc⟩
    · exact .inl h0
    · refine .inr ⟨g, off, hP, fun i hi => ?_⟩
      obtain ⟨h0, h1, h2, h3, h4⟩ := hc i hi
      have hl : g < w.heap.size := World.block_lt_of_cell? w _ h0
      exact ⟨(hb.cell (p := ⟨g, off + i * 5, none⟩) hl).trans h0, (hb.cell (p := ⟨g, off + i * 5 + 1, none⟩) hl).trans h1, (hb.cell (p := ⟨g, off + i * 5 + 2, none⟩) hl).trans h2,
        (hb.cell (p := ⟨g, off + i * 5 + 3, none⟩) hl).trans h3, (hb.cell (p := ⟨g, off + i * 5 + 4, none⟩) hl).trans h4⟩
def ShIs (r : Nat → Nat → Nat) (xs : List Nat) (t : Int) (us : List Nat) (f : Int) : Prop :=
  (t < 0 ∧ us = [] ∧ f = 1) ∨ (0 ≤ t ∧ formB xs = false ∧ us = [] ∧ f = 2) ∨ (0 ≤ t ∧ formB xs = true ∧ DocIs (r (valB B64 xs) t.toNat) us f)
theorem ShIs.inj {r : Nat → Nat → Nat} {xs : List Nat} {t : Int} {us us' : List Nat} {f f' : Int} (h : ShIs r xs t us f) (k : ShIs r xs t us' f') : us = us' ∧ f = f' := by
  rcases h with ⟨h1, rfl, rfl⟩ | ⟨h1, h2, rfl, rfl⟩ | ⟨h1, h2, h3⟩ <;> rcases k with ⟨k1, rfl, rfl⟩ | ⟨k1, k2, rfl, rfl⟩ | ⟨k1, k2, k3⟩
  · exact ⟨rfl, rfl⟩
  · omega
  · omega
  · omega
  · exact ⟨rfl, rfl⟩
  · rw [k2] at h2; simp at h2
  · omega
  · rw [k2] at h2; simp at h2
  · exact h3.inj k3
theorem ShIs.er {r : Nat → Nat → Nat} {xs us : List Nat} {t f : Int} (h : ShIs r xs t us f) : f = 0 ∨ f = 1 ∨ f = 2 ∨ f = 3 ∨ f = 4 ∨ f = 5 := by
  rcases h with ⟨_, _, rfl⟩ | ⟨_, _, _, rfl⟩ | ⟨_, _, ⟨_, _, rfl⟩ | ⟨_, _, rfl⟩⟩ <;> simp
structure DigRel32 (w : World) (gq gr L n : Nat) (A D : Nat) (k : Nat) (qs rs : List Nat) (wr : World) : Prop where
  bel : ∀ B, B ≤ gq → B ≤ gr → Below B w wr
  rowq : Row32 wr gq 0 L qs
  rowr : Row32 wr gr 0 (L + n) rs
  cell : ∀ b o, b ≠ gq → b ≠ gr → wr.cell? ⟨b, o, none⟩ = w.cell? ⟨b, o, none⟩
  lt : valB B32 (rs.drop (L - k)) < D
  sum : valB B32 rs + B32 ^ (L - k) * valB B32 (qs.drop (L - k)) * D = A

theorem Row32.other {w : World} {g off n : Nat} {xs : List Nat} (h : Row32 w g off n xs) (g2 o2 : Nat) (v : Value) (hne : g ≠ g2) : Row32 (w.setCell ⟨g2, o2, none⟩ v) g off n xs := by
  refine ⟨h.len, h.dig, fun j hj => ?_, fun j hj => by rw [World.frozen?_setCell]; exact h.frozen j hj⟩
  exact (World.cell?_setCell_other _ _ _ _ (by intro e; apply hne; have := congrArg Addr.block e; simp at this; omega)).trans (h.cell j hj)
theorem Row32.wr {w w' : World} {g off n g2 o2 l2 : Nat} {xs : List Nat} (h : Row32 w g off n xs) (hwr : Wr g2 o2 l2 w w') (hne : g ≠ g2) : Row32 w' g off n xs :=
  ⟨h.len, h.dig, fun j hj => (hwr.cell g (off + j) (.inl hne)).trans (h.cell j hj), fun j hj => (hwr.frozen _).trans (h.frozen j hj)⟩
theorem dig_abs32 {P W q r D T Q A : Nat} (hW : q * D + r = W) (h : T + P * W + P * B32 * Q * D = A) : T + P * r + P * (q + B32 * Q) * D = A := by
  subst hW
  have e1 : P * (q + B32 * Q) * D = P * (q * D) + P * B32 * Q * D := by
    rw [Nat.mul_add, Nat.add_mul, Nat.mul_assoc P q D, ← Nat.mul_assoc P B32 Q]
  rw [e1]
  rw [Nat.mul_add] at h
  omega
theorem DigRel32.window {w : World} {gq gr L n A D k : Nat} {qs rs : List Nat} {wr : World} (h : DigRel32 w gq gr L n A D k qs rs wr) (hk : k < L) (hDn : D < B32 ^ n) :
    ∃ a ws, a = L - 1 - k ∧ ws = (rs.drop a).take (n + 1) ∧ Row32 wr gr a (n + 1) ws ∧ valB B32 ws < B32 * D ∧ valB B32 rs = valB B32 (rs.take a) + B32 ^ a * valB B32 ws ∧ valB B32 (rs.drop (a + (n + 1))) = 0 := by
  have hl := h.rowr.len
  obtain ⟨a, ha⟩ : ∃ a, a = L - 1 - k := ⟨_, rfl⟩
  have hlt := h.lt
  rw [show L - k = a + 1 by omega] at hlt
  have hz : valB B32 (rs.drop (a + (n + 1))) = 0 := by
    have hs := valB_split B32 (rs.drop (a + 1)) n (by rw [List.length_drop]; omega)
    rw [List.drop_drop, show a + 1 + n = a + (n + 1) by omega] at hs
    rcases Nat.eq_zero_or_pos (valB B32 (rs.drop (a + (n + 1)))) with e | e
    · exact e
    · exfalso
      have : B32 ^ n * 1 ≤ B32 ^ n * valB B32 (rs.drop (a + (n + 1))) := Nat.mul_le_mul_left _ e
      omega
  have hw := win_take32 rs a (n + 1) (by omega)
  rw [hz, Nat.mul_zero, Nat.add_zero] at hw
  refine ⟨a, _, ha, rfl, h.rowr.win a (n + 1) (by omega), ?_, hw, hz⟩
  have hs := valB_split B32 (rs.drop a) (n + 1) (by rw [List.length_drop]; omega)
  rw [List.drop_drop, hz, Nat.mul_zero, Nat.add_zero] at hs
  rw [← hs, valB_drop B32 rs a (by omega)]
  have hb := h.rowr.dig.getD B32_pos a
  have : B32 * (valB B32 (rs.drop (a + 1)) + 1) ≤ B32 * D := Nat.mul_le_mul_left _ hlt
  rw [Nat.mul_add] at this
  omega
theorem DigRel32.step {w : World} {gq gr L n A D k : Nat} {qs rs : List Nat} {wr wr' : World} (h : DigRel32 w gq gr L n A D k qs rs wr) (hk : k < L) (hne : gq ≠ gr) {a q : Nat} {ws ws' : List Nat} (ha : a = L - 1 - k)
    (hrs : valB B32 rs = valB B32 (rs.take a) + B32 ^ a * valB B32 ws) (hz : valB B32 (rs.drop (a + (n + 1))) = 0) (hD : 0 < D) (hq : q = valB B32 ws / D) (hqb : q < B32) (hr : valB B32 ws' = valB B32 ws % D)
    (hwr : Wr gr a (n + 1) wr wr') (hrow : Row32 wr' gr a (n + 1) ws') : DigRel32 w gq gr L n A D (k + 1) (qs.set a q) (winPut rs ws' a) (wr'.setCell ⟨gq, a, none⟩ (V q)) := by
  have hl := h.rowr.len; have hql := h.rowq.len; have hwl := hrow.len
  have hle : a + ws'.length ≤ rs.length := by omega
  have e1 : L - (k + 1) = a := by omega
  have e2 : L - k = a + 1 := by omega
  have hdrop : valB B32 ((winPut rs ws' a).drop a) = valB B32 ws % D := by
    rw [winPut_drop rs ws' a hle, valB_append, hwl, hz, Nat.mul_zero, Nat.add_zero, hr]
  refine ⟨fun B h1 h2 => ?_, ?_, ?_, fun b o h1 h2 => ?_, ?_, ?_⟩
  · exact ((h.bel B h1 h2).trans (hwr.below h2)).trans ((Wr.refl gq 0 L wr').setCell a ⟨by omega, by omega⟩ (V q) |>.below h1)
  · have := (h.rowq.wr hwr hne).set a q (by omega) hqb
    rw [Nat.zero_add] at this; exact this
  · exact (h.rowr.put hwr hrow (by omega)).other gq a _ (Ne.symm hne)
  · rw [World.cell?_setCell_other _ _ _ _ (by intro e; apply h1; have := congrArg Addr.block e; simp at this; omega), hwr.cell b o (.inl h2)]
    exact h.cell b o h1 h2
  · rw [e1, hdrop]; exact Nat.mod_lt _ hD
  · have hs := h.sum
    rw [e2, hrs, Nat.pow_succ] at hs
    rw [e1, valB_split B32 (winPut rs ws' a) a (by rw [winPut_len rs ws' a hle]; omega), winPut_take rs ws' a hle, hdrop, drop_set_at qs a q (by omega), valB_cons]
    refine dig_abs32 (W := valB B32 ws) (q := q) ?_ hs
    rw [hq, Nat.mul_comm]; exact Nat.div_add_mod _ _

theorem Row32.below2 {w w' : World} {g off n B : Nat} {xs : List Nat} (h : Row32 w g off n xs) (hb : Below B w w') (hg : g < B) : Row32 w' g off n xs :=
  ⟨h.len, h.dig, fun j hj => (hb.cell (p := ⟨g, off + j, none⟩) hg).trans (h.cell j hj), fun j hj => (hb.frozen (p := ⟨g, off + j, none⟩) hg).trans (h.frozen j hj)⟩
structure RN (w : World) (p : Option Addr) (m a : Nat) : Prop where
  mem : ∃ zs, At32 w p m m zs ∧ Nf B32 zs a
  len : m ≤ 4000
theorem RN.below {w w' : World} {p : Option Addr} {m a : Nat} (h : RN w p m a) (hb : Below w.heap.size w w') : RN w' p m a := by
  obtain ⟨⟨zs, h1, h2⟩, h3⟩ := h
  exact ⟨⟨zs, h1.below hb, h2⟩, h3⟩
theorem rn_len {w : World} {p : Option Addr} {m c a K : Nat} {zs : List Nat} (h : At32 w p m c zs) (hN : Nf B32 zs a) (hK : K ≤ 100000) (hb : a < 2 ^ K) : m ≤ 4000 := by
  rw [← h.len]
  obtain ⟨k, hk⟩ : ∃ k, k = 3200 := ⟨_, rfl⟩
  refine Nat.le_trans ((hN.len_le (k := k) (by decide)).2 (Nat.lt_of_lt_of_le hb ?_)) (by omega)
  rw [show B32 = 2 ^ 32 from rfl, ← Nat.pow_mul]
  exact Nat.pow_le_pow_right (by decide) (by omega)
theorem RN.mk2 {w : World} {p : Option Addr} {m a K : Nat} {zs : List Nat} (h : At32 w p m m zs) (hN : Nf B32 zs a) (hK : K ≤ 100000) (hb : a < 2 ^ K) : RN w p m a := ⟨⟨zs, h, hN⟩, rn_len h hN hK hb⟩
theorem RN.zero {w : World} {p : Option Addr} {m a : Nat} (h : RN w p m a) : m = 0 ↔ a = 0 := by
  obtain ⟨⟨zs, h1, h2⟩, h3⟩ := h
  rw [← h2.zero_iff (by decide), ← h1.len]
  exact List.length_eq_zero_iff
def RNs (w w' : World) (e : Ending) (a : Nat) : Prop := ∃ p m, e = .returned (.slice p m m) ∧ RN w' p m a ∧ Below w.heap.size w w'
theorem rn_word {w : World} (x : Nat) (hx : x < 18446744073709551616) : Calls Tryz.prog 43 #[U x] w fun e w' => RNs w w' e (x) := by
  refine (rword x hx w).mono ?_
  rintro e w' ⟨g, zs, rfl, g1, g2, g3, hb2⟩
  exact ⟨_, _, rfl, ⟨⟨zs, g2, g3⟩, by omega⟩, hb2⟩
theorem rn_mulsv {w : World} {p : Option Addr} {m a : Nat} (h : RN w p m a) (v u : Nat) (hv : v < B32) (hu : u < B32) {K : Nat} (hK : K ≤ 100000) (hb : a * v + u < 2 ^ K) : Calls Tryz.prog 70 #[.slice p m m, V v, V u] w fun e w' => RNs w w' e (a * v + u) := by
  obtain ⟨⟨zs, h1, h2⟩, h3⟩ := h
  refine (rsmall_any (u := u) h1 h2 (by omega) hv hu).mono ?_
  rintro e w' ⟨g, z, rfl, g1, g2, g3, hb2⟩
  exact ⟨_, _, rfl, RN.mk2 (g1.at_ g2.dig rfl (by unfold maxLen; omega)) g2 hK hb, hb2⟩
def NumA (l : List UInt8) (w w' : World) (en : Ending) : Prop :=
  (docF l = none ∧ en = .returned (.tuple #[.slice none 0 0, .int .i64 0, .bool false]) ∧ Below w.heap.size w w') ∨ (∃ v e p m, docF l = some (v, e) ∧ en = .returned (.tuple #[.slice p m m, .int .i64 e, .bool true]) ∧ RN w' p m v ∧ Below w.heap.size w w')
theorem docF_short {l : List UInt8} (h : l.length < 2) : docF l = none := by
  cases l with
  | nil => rfl
  | cons c l =>
    cases l with
    | nil => rfl
    | cons d l => exact absurd h (by rw [List.length_cons, List.length_cons]; omega)
theorem bs_two (c x : UInt8) (r : List UInt8) : (bs (c :: x :: r)).extract 2 (bs (c :: x :: r)).size = bs r := by
  apply ByteArray.ext
  apply Array.ext'
  rw [Lib.extract_data, bs_data, bs_data, bs_size]
  show (((c :: x :: r).drop 2)).take _ = r
  exact List.take_of_length_le (by show r.length ≤ r.length + 1 + 1 - 2; omega)
theorem bs_drp (l : List UInt8) (n : Nat) : (bs l).extract n (bs l).size = bs (l.drop n) := by
  apply ByteArray.ext
  apply Array.ext'
  rw [Lib.extract_data, bs_data, bs_data, bs_size]
  exact List.take_of_length_le (by rw [List.length_drop]; omega)
theorem nub {u : Nat} : 16 < B32 ∧ (u < 16 → u < B32) := by rw [B32_eq]; exact ⟨by decide, fun h => by omega⟩
theorem nkb {n i : Nat} (h1 : n ≤ 8000) (h2 : i < n) : 4 * (i + 1) ≤ 100000 := by omega
theorem nig {a g n : Nat} (h : a + (g + 1) = n) : a + 1 + g = n := by omega
theorem njk {A : List UInt8} {i : Nat} (h : ∀ j, j < i → hexd (A.getD j 0) = true) (hi : hexd (A.getD i 0) = true) : ∀ j, j < i + 1 → hexd (A.getD j 0) = true := by
  intro j hj
  rcases Nat.lt_or_ge j i with h2 | h2
  · exact h j h2
  · obtain rfl : j = i := by omega
    exact hi
theorem cut_len {D : List UInt8} {j : Nat} (h : D.length ≤ 8000) (hj : j < D.length) : (D.take j ++ D.drop (j + 1)).length ≤ 8000 := by rw [List.length_append, List.length_take, List.length_drop]; omega
theorem cut_len2 {D : List UInt8} {j : Nat} (h : D.length ≤ 8000) (hj : j < D.length) : (D.take j).length + (D.drop (j + 1)).length ≤ 1000000 := by rw [List.length_take, List.length_drop]; omega
theorem cut_len3 {D : List UInt8} {j : Nat} (h : D.length ≤ 8000) (hj : j < D.length) : ¬ ((D.take j).length + (D.drop (j + 1)).length > 9223372036854775807) := by rw [List.length_take, List.length_drop]; omega
theorem wA {n j k : Nat} (h : k = n - j) (hj : j < n) (hn : n ≤ 8000) : wrap64 ((n : Int) - (j : Int)) = (k : Int) := by simp only [wrap64]; omega
theorem wB {n j k b : Nat} (h : k = n - j) (hb : b = n - j - 1) (hj : j < n) (hn : n ≤ 8000) : wrap64 ((k : Int) - 1) = (b : Int) := by simp only [wrap64]; omega
theorem wC {n j b : Nat} (hb : b = n - j - 1) (hn : n ≤ 8000) : wrap64 (4 * (b : Int)) = 4 * (b : Int) := by simp only [wrap64]; omega
theorem wD {n j b : Nat} {pe ev : Int} (hb : b = n - j - 1) (hn : n ≤ 8000) (h1 : -1099511627776 ≤ pe) (h2 : pe ≤ 1099511627776) (he : ev = pe - 4 * (b : Int)) : wrap64 (pe - 4 * (b : Int)) = ev := by simp only [wrap64]; omega
theorem wE {n j : Nat} (hj : j < n) (hn : n ≤ 8000) : wrap64 ((j : Int) + 1) = ((j + 1 : Nat) : Int) := by simp only [wrap64]; omega
theorem wK {n j : Nat} (hj : j < n) (hn : n ≤ 8000) : IntKind.i64.wrap ((j : Int) + 1) = (j : Int) + 1 := by simp [IntKind.wrap, IntKind.signed, IntKind.bits]; omega
theorem wF {n j : Nat} (hj : j < n) : (j : Int) ≤ (n : Int) := by omega
theorem wG {n j : Nat} (hj : j < n) : (j : Int) + 1 ≤ (n : Int) := by omega
theorem wr32 {n : Nat} (h : n < 16) : IntKind.u32.wrap (n : Int) = (n : Int) := by
  simp [IntKind.wrap, IntKind.signed, IntKind.bits]; omega
theorem num_step {A : List UInt8} {i : Nat} (hi : i < A.length) (hK : ∀ j, j < i → hexd (A.getD j 0) = true) (hx : hexd (A.getD i 0) = true) : hexF 0 (A.take i) * 16 + hexv (A.getD i 0) = hexF 0 (A.take (i + 1)) ∧ hexF 0 (A.take (i + 1)) < 2 ^ (4 * (i + 1)) := by
  refine ⟨?_, ?_⟩
  · rw [take_snoc hi, hexF_app]
    show _ = 16 * _ + hexv _
    omega
  · have h1 := hexF_lt (A.take (i + 1)) 0 (fun c hc => by
      rw [take_snoc hi, List.mem_append] at hc
      rcases hc with hc | hc
      · obtain ⟨j, hj, he⟩ := List.getElem_of_mem hc
        rw [List.length_take] at hj
        rw [List.getElem_take] at he
        have h2 := hK j (by omega)
        rw [List.getD_eq_getElem?_getD, List.getElem?_eq_getElem (by omega : j < A.length)] at h2
        rw [← he]; exact h2
      · rw [List.mem_singleton] at hc; rw [hc]; exact hx)
    rw [List.length_take, Nat.min_eq_left (by omega), sixteen] at h1
    rwa [Nat.zero_add, Nat.one_mul] at h1
theorem pow_bd (l : List UInt8) : -1099511627776 ≤ powI l ∧ powI l ≤ 1099511627776 := by
  have h := huge_le (minusF l).2 0 (by decide)
  unfold powI powF
  split
  · exact ⟨by decide, by decide⟩
  · rename_i e he
    split at he
    · cases he
    · cases he
      split <;> omega
theorem doc_no1 {r : List UInt8} {i : Nat} (hf : findF 112 80 r = some i) (h : powB (r.drop (i + 1)) = false) : docR r = none := by
  unfold powB at h
  unfold docR
  rw [hf]
  cases hp : powF (r.drop (i + 1)) with
  | none => simp only [hp]
  | some e => rw [hp] at h; cases h
theorem doc_no2 {r : List UInt8} {i : Nat} (hf : findF 112 80 r = some i) (h : (cutF (r.take i)).1 = [] ∨ (cutF (r.take i)).1.all hexd = false) : docR r = none := by
  unfold docR
  rw [hf]
  cases hp : powF (r.drop (i + 1)) with
  | none => simp only [hp]
  | some e => simp only [hp]; exact if_pos h
theorem doc_yes {r : List UInt8} {i : Nat} (hf : findF 112 80 r = some i) (hp : powB (r.drop (i + 1)) = true) (h0 : (cutF (r.take i)).1 ≠ []) (h1 : (cutF (r.take i)).1.all hexd = true) : docR r = some (hexF 0 (cutF (r.take i)).1, powI (r.drop (i + 1)) - 4 * (((cutF (r.take i)).2 : Nat) : Int)) := by
  unfold powB at hp
  unfold docR powI
  rw [hf]
  cases hw : powF (r.drop (i + 1)) with
  | none => rw [hw] at hp; cases hp
  | some e =>
    simp only [hw]
    have hn : ¬ ((cutF (r.take i)).1 = [] ∨ (cutF (r.take i)).1.all hexd = false) := fun h => h.elim h0 (fun k => by rw [h1] at k; cases k)
    exact if_neg hn
theorem rnum_s {l : List UInt8} (hl : l.length < 2) {w : World} : Calls Tryz.prog 37 #[.string (bs l)] w fun en w' => NumA l w w' en := by
  have hs : (bs l).size = l.length := bs_size l
  have HN := hm9 (docF_short hl)
  have hl2 : (l.length : Int) < 2 := by omega
  clear hl
  go_enter Tryz.func37, Tryz.ntmps37
  go_wp2_with fail
  go_ret3
  exact .inl ⟨HN.out, rfl, Below.refl _ _⟩
theorem rnum_c {l : List UInt8} {c x : UInt8} {r : List UInt8} (hl : l = c :: x :: r) (hc : c ≠ 48) {w : World} : Calls Tryz.prog 37 #[.string (bs l)] w fun en w' => NumA l w w' en := by
  have hs : (bs l).size = r.length + 2 := by rw [hl]; exact bs_size _
  have hl2 : ¬ (r.length : Int) + 2 < 2 := by omega
  have hg0 : (((bs l)[0]'(by rw [hs]; exact Nat.succ_pos _)).toNat : Int) = (c.toNat : Int) := by subst hl; rfl
  have hg1 : (((bs l)[1]'(by rw [hs]; exact Nat.succ_lt_succ (Nat.succ_pos _))).toNat : Int) = (x.toNat : Int) := by subst hl; rfl
  have HN : Hid (docF l = none) := by rw [hl]; exact if_neg (fun h => hc h.1)
  have hcn : ¬ (c.toNat : Int) = 48 := fun h => hc (u8_eq h)
  have hcq : ((c.toNat : Int) != 48) = true := bne_iff_ne.2 hcn
  clear hc hl
  go_enter Tryz.func37, Tryz.ntmps37
  go_wp2_with fail
  go_ret3
  exact .inl ⟨HN.out, rfl, Below.refl _ _⟩
theorem rnum_x {l : List UInt8} {x : UInt8} {r : List UInt8} (hl : l = 48 :: x :: r) (h1 : x ≠ 120) (h2 : x ≠ 88) {w : World} : Calls Tryz.prog 37 #[.string (bs l)] w fun en w' => NumA l w w' en := by
  have hs : (bs l).size = r.length + 2 := by rw [hl]; exact bs_size _
  have hl2 : ¬ (r.length : Int) + 2 < 2 := by omega
  have hg0 : (((bs l)[0]'(by rw [hs]; exact Nat.succ_pos _)).toNat : Int) = 48 := by subst hl; rfl
  have hg1 : (((bs l)[1]'(by rw [hs]; exact Nat.succ_lt_succ (Nat.succ_pos _))).toNat : Int) = (x.toNat : Int) := by subst hl; rfl
  have HN : Hid (docF l = none) := by rw [hl]; exact if_neg (fun h => h.2.elim h1 h2)
  have hx1 : ¬ (x.toNat : Int) = 120 := fun h => h1 (u8_eq h)
  have hx2 : ¬ (x.toNat : Int) = 88 := fun h => h2 (u8_eq h)
  have hq1 : ((x.toNat : Int) != 120) = true := bne_iff_ne.2 hx1
  have hq2 : ((x.toNat : Int) != 88) = true := bne_iff_ne.2 hx2
  clear h1 h2 hl
  go_enter Tryz.func37, Tryz.ntmps37
  go_wp2_with fail
  go_ret3
  exact .inl ⟨HN.out, rfl, Below.refl _ _⟩
theorem rnum_120 {l : List UInt8} {r : List UInt8} (hl : l = 48 :: 120 :: r) (hr : r.length ≤ 8000) {w : World} : Calls Tryz.prog 37 #[.string (bs l)] w fun en w' => NumA l w w' en := by
  have hs : (bs l).size = r.length + 2 := by rw [hl]; exact bs_size _
  have hl2 : ¬ (r.length : Int) + 2 < 2 := by omega
  have hg0 : (((bs l)[0]'(by rw [hs]; exact Nat.succ_pos _)).toNat : Int) = 48 := by subst hl; rfl
  have hg1 : (((bs l)[1]'(by rw [hs]; exact Nat.succ_lt_succ (Nat.succ_pos _))).toNat : Int) = 120 := by subst hl; rfl
  have HL : Hid (r.length ≤ 8000) := hr
  have hx1 : (bs l).extract 2 (bs l).size = bs r := by rw [hl]; exact bs_two _ _ r
  have hd0 : docF l = docR r := by rw [hl]; show (if (48 : UInt8) = 48 ∧ ((120 : UInt8) = 120 ∨ (120 : UInt8) = 88) then docR r else none) = docR r; exact if_pos ⟨rfl, by decide⟩
  have HD := hm9 hd0
  have hx2 : (bs l).extract 2 (r.length + 2) = bs r := by rw [← hs]; exact hx1
  have hle2 : (2 : Int) ≤ (r.length : Int) + 2 := by omega
  have hsr : (bs r).size = r.length := bs_size r
  clear hr hl hd0
  go_enter Tryz.func37, Tryz.ntmps37
  go_wp2_with fail
  refine (rfind_c r (by have := HL.out; omega) 112 80 _).mono ?_
  rintro en w1 ⟨rfl, rfl⟩
  cases hf : findF 112 80 r with
  | none =>
    have HN : Hid (docF l = none) := by rw [HD.out]; show _ = _; unfold docR; rw [hf]
    rw [show fiI 112 80 r = -1 by unfold fiI; rw [hf]]
    clear hf hx1 hx2
    go_wp2_with fail
    go_ret3
    exact .inl ⟨HN.out, rfl, Below.refl _ _⟩
  | some i =>
    have HF := hm9 hf
    have HI : Hid (i < r.length) := (find_some hf).choose_spec.choose_spec.2.2.2
    rw [show fiI 112 80 r = (i : Int) by unfold fiI; rw [hf]]
    have hip : ¬ (i : Int) < 0 := by omega
    have hwi : wrap64 ((i : Int) + 1) = ((i + 1 : Nat) : Int) := by have := HI.out; have := HL.out; simp only [wrap64]; omega
    have hxd : (bs r).extract (i + 1) (bs r).size = bs (r.drop (i + 1)) := bs_drp r (i + 1)
    have hxe : (bs r).extract (i + 1) r.length = bs (r.drop (i + 1)) := by rw [← hsr]; exact hxd
    have hle3 : (i : Int) + 1 ≤ (r.length : Int) := by have := HI.out; omega
    have hle4 : i + 1 ≤ (bs r).size := by have := HI.out; omega
    have h0i : (0 : Int) ≤ (i : Int) + 1 := by omega
    clear hf hx1 hx2
    go_wp2_with fail
    refine (rpower_c (r.drop (i + 1)) (by have := HL.out; rw [List.length_drop]; omega) _).mono ?_
    rintro en w2 ⟨rfl, hb2⟩
    have HB := hm9 hb2
    obtain ⟨ok, hok⟩ : ∃ ok, ok = powB (r.drop (i + 1)) := ⟨_, rfl⟩
    obtain ⟨pe, hpe⟩ : ∃ pe, pe = powI (r.drop (i + 1)) := ⟨_, rfl⟩
    rw [← hok, ← hpe]
    have HOK := hm9 hok
    have HPE : Hid (pe = powI (r.drop (i + 1)) ∧ -1099511627776 ≤ pe ∧ pe ≤ 1099511627776) := ⟨hpe, by rw [hpe]; exact (pow_bd _).1, by rw [hpe]; exact (pow_bd _).2⟩
    obtain ⟨D, hD⟩ : ∃ D, D = r.take i := ⟨_, rfl⟩
    have HDD : Hid (D = r.take i ∧ D.length ≤ 8000) := ⟨hD, by rw [hD, List.length_take]; have := HL.out; omega⟩
    have hxt : (bs r).extract 0 i = bs D := by rw [hD]; exact bs_take r i
    have hile : i ≤ (bs r).size := by have := HI.out; omega
    have hilt : (i : Int) ≤ (r.length : Int) := by have := HI.out; omega
    clear hb2 hok hpe hD hxd hxe hle3 hle4 h0i hwi
    go_wp2_with fail
    refine (rfind_c D (by have := HDD.out; omega) 46 46 _).mono ?_
    rintro en w3 ⟨rfl, rfl⟩
    have hsD : (bs D).size = D.length := bs_size D
    clear hxt hile hilt
    cases hf2 : findF 46 46 D with
    | none =>
      rw [show fiI 46 46 D = -1 by unfold fiI; rw [hf2]]
      obtain ⟨A, hA⟩ : ∃ A, A = D := ⟨_, rfl⟩
      have HC : Hid (cutF D = (A, 0)) := by show _ = _; unfold cutF; rw [hf2, hA]
      have HAL : Hid (A.length ≤ 8000) := by rw [hA]; exact HDD.out.2
      obtain ⟨ev, hev⟩ : ∃ ev, ev = pe := ⟨_, rfl⟩
      have HEV : Hid (ev = pe - 4 * ((0 : Nat) : Int)) := by show _ = _; omega
      rw [← hA] at hsD ⊢
      rw [← hev]
      clear hf2 hev hA
      cases ok with
      | false =>
        have HN : Hid (docF l = none) := by rw [HD.out]; exact doc_no1 HF.out (by rw [← HOK.out])
        go_wp2_with fail
        go_ret3
        exact .inl ⟨HN.out, rfl, HB.out⟩
      | true =>
        by_cases hA0 : A = []
        · have hem : (bs A).toList.isEmpty = true := by rw [hA0]; exact emp0
          have HN : Hid (docF l = none) := by rw [HD.out]; exact doc_no2 HF.out (by rw [← HDD.out.1, HC.out]; exact .inl hA0)
          clear hA0
          go_wp2_with fail
          go_ret3
          exact .inl ⟨HN.out, rfl, HB.out⟩
        have hem : (bs A).toList.isEmpty = false := emp1 hA0
        have HA0 := hm9 hA0
        clear hA0
        go_wp2_with fail
        refine (rn_word 0 (by decide)).mono ?_
        rintro en v4 ⟨pm, mm, rfl, hrn, hb4⟩
        have HRN := hm9 hrn
        have HB4 := hm9 (Below.on HB.out hb4)
        clear hrn hb4
        go_wp2_with fail
        have hsA : (bs A).size = A.length := bs_size A
        go_loopg [10, 11] A.length (fun gk mv iv wr => ∃ (i2 : Nat) (p : Option Addr) (m : Nat), i2 + gk = A.length ∧ mv = .slice p m m ∧ iv = .int .i64 i2 ∧ (∀ j, j < i2 → hexd (A.getD j 0) = true) ∧ RN wr p m (hexF 0 (A.take i2)) ∧ Below w1.heap.size w1 wr)
        case atStart => exact ⟨0, pm, mm, by omega, rfl, rfl, fun j hj => absurd hj (Nat.not_lt_zero _), HRN.out, HB4.out⟩
        case round =>
          obtain ⟨i2, p, m, hig, rfl, rfl, hkn, hr2, hb2⟩ := hrel
          have HK := hm9 hkn
          have HR2 := hm9 hr2
          have HB2 := hm9 hb2
          clear hkn hr2 hb2
          cases gk with
          | zero =>
            obtain rfl : i2 = A.length := by omega
            have HAA : Hid (A.all hexd = true) := List.all_eq_true.2 (fun x hx => by obtain ⟨j, hj, rfl⟩ := mem_getD hx; exact HK.out j hj)
            have HY : Hid (docF l = some (hexF 0 A, ev)) := by
              have h1 := doc_yes HF.out HOK.out.symm (by rw [← HDD.out.1, HC.out]; exact HA0.out) (by rw [← HDD.out.1, HC.out]; exact HAA.out)
              show _ = _
              rw [HD.out, h1, ← HDD.out.1, HC.out, ← HPE.out.1, HEV.out]
            have hnl : ¬ (A.length : Int) < (A.length : Int) := by omega
            clear hig
            go_wp2_with fail
            go_ret3
            exact .inr ⟨_, _, _, _, HY.out, rfl, by have h := HR2.out; rw [List.take_length] at h; exact h, HB2.out⟩
          | succ g =>
            have hil : (i2 : Int) < (A.length : Int) := by omega
            have hi0 : (0 : Int) ≤ (i2 : Int) := by omega
            have hiK : i2 < (bs A).size := by omega
            have hgi := bs_get A i2 hiK
            have wi : wrap64 ((i2 : Int) + 1) = ((i2 + 1 : Nat) : Int) := by have := HAL.out; simp only [wrap64]; omega
            have HI2 : Hid (i2 < A.length) := by show _ < _; omega
            obtain ⟨d, hd⟩ : ∃ d, d = A.getD i2 0 := ⟨_, rfl⟩
            rw [← hd] at hgi
            have HDX := hm9 hd
            have hgn : ((((bs A)[i2]'hiK).toNat : Nat) : Int) = (d.toNat : Int) := by rw [hgi]
            clear hd hgi
            go_wp2_with fail
            refine (rdigit_c d _).mono ?_
            rintro en v5 ⟨rfl, rfl⟩
            by_cases hx : hexd d = true
            rotate_left
            · have HN : Hid (docF l = none) := by
                rw [HD.out]
                refine doc_no2 HF.out (.inr ?_)
                rw [← HDD.out.1, HC.out]
                cases ha : A.all hexd with
                | false => rfl
                | true => exact absurd (by rw [HDX.out]; exact List.all_eq_true.1 ha _ (getD_mem HI2.out)) hx
              rw [if_neg hx]
              clear hx
              go_wp2_with fail
              go_ret3
              exact .inl ⟨HN.out, rfl, HB2.out⟩
            · rw [if_pos hx]
              have HX := hm9 hx
              have hv16 := hexv_lt hx
              obtain ⟨u, hu⟩ : ∃ u, u = hexv d := ⟨_, rfl⟩
              rw [← hu] at hv16 ⊢
              have HU : Hid (u = hexv d ∧ u < 16) := ⟨hu, hv16⟩
              have hun : ¬ (u : Int) < 0 := by omega
              have hw32 : IntKind.u32.wrap (u : Int) = (u : Int) := wr32 hv16
              have HT1 : Hid (hexF 0 (A.take i2) * 16 + u = hexF 0 (A.take (i2 + 1)) ∧ hexF 0 (A.take (i2 + 1)) < 2 ^ (4 * (i2 + 1))) := by rw [hu, HDX.out]; exact num_step HI2.out HK.out (by rw [← HDX.out]; exact hx)
              clear hx hu hv16
              go_wp2_with fail
              have hb16 : 16 < B32 := (nub (u := 0)).1
              have hbu : u < B32 := nub.2 HU.out.2
              have hbk : 4 * (i2 + 1) ≤ 100000 := nkb HAL.out HI2.out
              have hbx : hexF 0 (A.take i2) * 16 + u < 2 ^ (4 * (i2 + 1)) := Nat.lt_of_le_of_lt (Nat.le_of_eq HT1.out.1) HT1.out.2
              refine (rn_mulsv HR2.out 16 u hb16 hbu (K := 4 * (i2 + 1)) hbk hbx).mono ?_
              rintro en v6 ⟨p6, m6, rfl, hr6, hb6⟩
              have HR6 := hm9 hr6
              have HB6 := hm9 (Below.on HB2.out hb6)
              clear hr6 hb6 hun hw32 hgn hb16 hbu hbk hbx hem hsA hs hg0 hg1 hle2 hsr hsD
              go_wp2_with fail
              go_roundg g
              case measure => exact Nat.lt_succ_self g
              case rel => exact ⟨i2 + 1, p6, m6, nig hig, rfl, by go_num, njk HK.out (by rw [← HDX.out]; exact HX.out), by rw [← HT1.out.1]; exact HR6.out, HB6.out⟩
    | some j =>
      rw [show fiI 46 46 D = (j : Int) by unfold fiI; rw [hf2]]
      have HJ : Hid (j < D.length) := (find_some hf2).choose_spec.choose_spec.2.2.2
      obtain ⟨A, hA⟩ : ∃ A, A = D.take j ++ D.drop (j + 1) := ⟨_, rfl⟩
      obtain ⟨be, hbe⟩ : ∃ be, be = D.length - j - 1 := ⟨_, rfl⟩
      have HC : Hid (cutF D = (A, be)) := by show _ = _; unfold cutF; rw [hf2, hA, hbe]
      have HAL : Hid (A.length ≤ 8000) := by rw [hA]; exact cut_len HDD.out.2 HJ.out
      obtain ⟨ev, hev⟩ : ∃ ev, ev = pe - 4 * ((be : Nat) : Int) := ⟨_, rfl⟩
      have HEV := hm9 hev
      obtain ⟨k1, hk1⟩ : ∃ k1, k1 = D.length - j := ⟨_, rfl⟩
      have hwa : wrap64 ((D.length : Int) - (j : Int)) = (k1 : Int) := wA hk1 HJ.out HDD.out.2
      have hwb : wrap64 ((k1 : Int) - 1) = (be : Int) := wB hk1 hbe HJ.out HDD.out.2
      have hwc : wrap64 (4 * (be : Int)) = 4 * (be : Int) := wC hbe HDD.out.2
      have hwd : wrap64 (pe - 4 * (be : Int)) = ev := wD hbe HDD.out.2 HPE.out.2.1 HPE.out.2.2 hev
      have hwj : wrap64 ((j : Int) + 1) = ((j + 1 : Nat) : Int) := wE HJ.out HDD.out.2
      have hwk : IntKind.i64.wrap ((j : Int) + 1) = (j : Int) + 1 := wK HJ.out HDD.out.2
      have htn : ((j : Int) + 1).toNat = j + 1 := by omega
      have hxt2 : (bs D).extract 0 j = bs (D.take j) := bs_take D j
      have hxd2 : (bs D).extract (j + 1) (bs D).size = bs (D.drop (j + 1)) := bs_drp D (j + 1)
      have hxe2 : (bs D).extract (j + 1) D.length = bs (D.drop (j + 1)) := by rw [← hsD]; exact hxd2
      have hj1 : (j : Int) ≤ (D.length : Int) := wF HJ.out
      have hj2 : (j : Int) + 1 ≤ (D.length : Int) := wG HJ.out
      have hj3 : (0 : Int) ≤ (j : Int) := Int.natCast_nonneg j
      have hj4 : ¬ (j : Int) < 0 := Int.not_lt.2 hj3
      have hj5 : (0 : Int) ≤ (j : Int) + 1 := Int.le_trans hj3 (Int.le_add_one (Int.le_refl _))
      have hca : ∀ W, (Op.stringOp .add (bs (D.take j)) (bs (D.drop (j + 1)))).run Tryz.prog W = .ok (.string (bs A)) W := fun W => by rw [hA]; exact cat_run _ _ W (cut_len2 HDD.out.2 HJ.out)
      have hba : ¬ ((bs (D.take j)).size + (bs (D.drop (j + 1))).size > 9223372036854775807) := by rw [bs_size, bs_size]; exact cut_len3 HDD.out.2 HJ.out
      clear hf2 hev hA hbe hk1
      go_wp2_with fail
      have hbw := HB.out
      obtain ⟨V, hV⟩ : ∃ W1, W1 = w3.drew := ⟨_, rfl⟩
      have hbd : Below w3.heap.size w3 V := by rw [hV]; exact bDrew1 (Below.refl _ _)
      replace hbw := Below.on hbw hbd
      clear hbd
      have HJ : Hid ((fun W' : World => True) V) := trivial
      refine wp_region_J (fun W' => True) (by kernel_rfl) ?_
      rw [← hV]
      clear hV
      refine wpJ_tk 0 (v := ?v1x0) rfl ?hy1x0 HJ.out ?_
      case hy1x0 => (intro W' hJ; have j0 := hJ; go_simp; first | done | with_reducible rfl)
      refine wpJ_tk 1 (v := ?v2x1) rfl ?hy2x1 HJ.out ?_
      case hy2x1 => (intro W' hJ; have j0 := hJ; go_simp; first | done | with_reducible rfl)
      refine wpJ_tk 2 (v := ?v3x2) rfl ?hy3x2 HJ.out ?_
      case hy3x2 => (intro W' hJ; have j0 := hJ; go_simp; first | done | with_reducible rfl)
      refine wpJ_tk 3 (v := ?v4x3) rfl ?hy4x3 HJ.out ?_
      case hy4x3 => (intro W' hJ; have j0 := hJ; go_simp; first | done | with_reducible rfl)
      go_simp
      refine wpJ_tk 4 (v := ?v5x4) rfl ?hy5x4 HJ.out ?_
      case hy5x4 => (intro W' hJ; have j0 := hJ; go_simp; first | done | with_reducible rfl)
      refine wpJ_tk 5 (v := ?v6x5) rfl ?hy6x5 HJ.out ?_
      case hy6x5 => (intro W' hJ; have j0 := hJ; go_simp; first | done | with_reducible rfl)
      refine wpJ_tk 6 (v := ?v7x6) rfl ?hy7x6 HJ.out ?_
      case hy7x6 => (intro W' hJ; have j0 := hJ; go_simp; first | done | with_reducible rfl)
      refine wpJ_tk 7 (v := ?v8x7) rfl ?hy8x7 HJ.out ?_
      case hy8x7 => (intro W' hJ; have j0 := hJ; go_simp; first | done | with_reducible rfl)
      go_simp
      refine wpJ_tk 8 (v := ?v9x8) rfl ?hy9x8 HJ.out ?_
      case hy9x8 => (intro W' hJ; have j0 := hJ; go_simp; first | done | with_reducible rfl)
      refine wpJ_done (by kernel_rfl) ?_ _
      clear HJ
      have HBV := hm9 hbw
      clear HB
      have HB := HBV
      clear HBV hbw hwj hwk htn hxt2 hxd2 hxe2 hj1 hj2 hj5 hca hba
      cases ok with
      | false =>
        have HN : Hid (docF l = none) := by rw [HD.out]; exact doc_no1 HF.out (by rw [← HOK.out])
        go_wp2_with fail
        go_ret3
        exact .inl ⟨HN.out, rfl, HB.out⟩
      | true =>
        by_cases hA0 : A = []
        · have hem : (bs A).toList.isEmpty = true := by rw [hA0]; exact emp0
          have HN : Hid (docF l = none) := by rw [HD.out]; exact doc_no2 HF.out (by rw [← HDD.out.1, HC.out]; exact .inl hA0)
          clear hA0
          go_wp2_with fail
          go_ret3
          exact .inl ⟨HN.out, rfl, HB.out⟩
        have hem : (bs A).toList.isEmpty = false := emp1 hA0
        have HA0 := hm9 hA0
        clear hA0
        go_wp2_with fail
        refine (rn_word 0 (by decide)).mono ?_
        rintro en v4 ⟨pm, mm, rfl, hrn, hb4⟩
        have HRN := hm9 hrn
        have HB4 := hm9 (Below.on HB.out hb4)
        clear hrn hb4
        go_wp2_with fail
        have hsA : (bs A).size = A.length := bs_size A
        go_loopg [10, 11] A.length (fun gk mv iv wr => ∃ (i2 : Nat) (p : Option Addr) (m : Nat), i2 + gk = A.length ∧ mv = .slice p m m ∧ iv = .int .i64 i2 ∧ (∀ j, j < i2 → hexd (A.getD j 0) = true) ∧ RN wr p m (hexF 0 (A.take i2)) ∧ Below w1.heap.size w1 wr)
        case atStart => exact ⟨0, pm, mm, by omega, rfl, rfl, fun j hj => absurd hj (Nat.not_lt_zero _), HRN.out, HB4.out⟩
        case round =>
          obtain ⟨i2, p, m, hig, rfl, rfl, hkn, hr2, hb2⟩ := hrel
          have HK := hm9 hkn
          have HR2 := hm9 hr2
          have HB2 := hm9 hb2
          clear hkn hr2 hb2
          cases gk with
          | zero =>
            obtain rfl : i2 = A.length := by omega
            have HAA : Hid (A.all hexd = true) := List.all_eq_true.2 (fun x hx => by obtain ⟨j, hj, rfl⟩ := mem_getD hx; exact HK.out j hj)
            have HY : Hid (docF l = some (hexF 0 A, ev)) := by
              have h1 := doc_yes HF.out HOK.out.symm (by rw [← HDD.out.1, HC.out]; exact HA0.out) (by rw [← HDD.out.1, HC.out]; exact HAA.out)
              show _ = _
              rw [HD.out, h1, ← HDD.out.1, HC.out, ← HPE.out.1, HEV.out]
            have hnl : ¬ (A.length : Int) < (A.length : Int) := by omega
            clear hig
            go_wp2_with fail
            go_ret3
            exact .inr ⟨_, _, _, _, HY.out, rfl, by have h := HR2.out; rw [List.take_length] at h; exact h, HB2.out⟩
          | succ g =>
            have hil : (i2 : Int) < (A.length : Int) := by omega
            have hi0 : (0 : Int) ≤ (i2 : Int) := by omega
            have hiK : i2 < (bs A).size := by omega
            have hgi := bs_get A i2 hiK
            have wi : wrap64 ((i2 : Int) + 1) = ((i2 + 1 : Nat) : Int) := by have := HAL.out; simp only [wrap64]; omega
            have HI2 : Hid (i2 < A.length) := by show _ < _; omega
            obtain ⟨d, hd⟩ : ∃ d, d = A.getD i2 0 := ⟨_, rfl⟩
            rw [← hd] at hgi
            have HDX := hm9 hd
            have hgn : ((((bs A)[i2]'hiK).toNat : Nat) : Int) = (d.toNat : Int) := by rw [hgi]
            clear hd hgi
            go_wp2_with fail
            refine (rdigit_c d _).mono ?_
            rintro en v5 ⟨rfl, rfl⟩
            by_cases hx : hexd d = true
            rotate_left
            · have HN : Hid (docF l = none) := by
                rw [HD.out]
                refine doc_no2 HF.out (.inr ?_)
                rw [← HDD.out.1, HC.out]
                cases ha : A.all hexd with
                | false => rfl
                | true => exact absurd (by rw [HDX.out]; exact List.all_eq_true.1 ha _ (getD_mem HI2.out)) hx
              rw [if_neg hx]
              clear hx
              go_wp2_with fail
              go_ret3
              exact .inl ⟨HN.out, rfl, HB2.out⟩
            · rw [if_pos hx]
              have HX := hm9 hx
              have hv16 := hexv_lt hx
              obtain ⟨u, hu⟩ : ∃ u, u = hexv d := ⟨_, rfl⟩
              rw [← hu] at hv16 ⊢
              have HU : Hid (u = hexv d ∧ u < 16) := ⟨hu, hv16⟩
              have hun : ¬ (u : Int) < 0 := by omega
              have hw32 : IntKind.u32.wrap (u : Int) = (u : Int) := wr32 hv16
              have HT1 : Hid (hexF 0 (A.take i2) * 16 + u = hexF 0 (A.take (i2 + 1)) ∧ hexF 0 (A.take (i2 + 1)) < 2 ^ (4 * (i2 + 1))) := by rw [hu, HDX.out]; exact num_step HI2.out HK.out (by rw [← HDX.out]; exact hx)
              clear hx hu hv16
              go_wp2_with fail
              have hb16 : 16 < B32 := (nub (u := 0)).1
              have hbu : u < B32 := nub.2 HU.out.2
              have hbk : 4 * (i2 + 1) ≤ 100000 := nkb HAL.out HI2.out
              have hbx : hexF 0 (A.take i2) * 16 + u < 2 ^ (4 * (i2 + 1)) := Nat.lt_of_le_of_lt (Nat.le_of_eq HT1.out.1) HT1.out.2
              refine (rn_mulsv HR2.out 16 u hb16 hbu (K := 4 * (i2 + 1)) hbk hbx).mono ?_
              rintro en v6 ⟨p6, m6, rfl, hr6, hb6⟩
              have HR6 := hm9 hr6
              have HB6 := hm9 (Below.on HB2.out hb6)
              clear hr6 hb6 hun hw32 hgn hb16 hbu hbk hbx hem hsA hs hg0 hg1 hle2 hsr hsD
              go_wp2_with fail
              go_roundg g
              case measure => exact Nat.lt_succ_self g
              case rel => exact ⟨i2 + 1, p6, m6, nig hig, rfl, by go_num, njk HK.out (by rw [← HDX.out]; exact HX.out), by rw [← HT1.out.1]; exact HR6.out, HB6.out⟩
theorem rnum_88 {l : List UInt8} {r : List UInt8} (hl : l = 48 :: 88 :: r) (hr : r.length ≤ 8000) {w : World} : Calls Tryz.prog 37 #[.string (bs l)] w fun en w' => NumA l w w' en := by
  have hs : (bs l).size = r.length + 2 := by rw [hl]; exact bs_size _
  have hl2 : ¬ (r.length : Int) + 2 < 2 := by omega
  have hg0 : (((bs l)[0]'(by rw [hs]; exact Nat.succ_pos _)).toNat : Int) = 48 := by subst hl; rfl
  have hg1 : (((bs l)[1]'(by rw [hs]; exact Nat.succ_lt_succ (Nat.succ_pos _))).toNat : Int) = 88 := by subst hl; rfl
  have HL : Hid (r.length ≤ 8000) := hr
  have hx1 : (bs l).extract 2 (bs l).size = bs r := by rw [hl]; exact bs_two _ _ r
  have hd0 : docF l = docR r := by rw [hl]; show (if (48 : UInt8) = 48 ∧ ((88 : UInt8) = 120 ∨ (88 : UInt8) = 88) then docR r else none) = docR r; exact if_pos ⟨rfl, by decide⟩
  have HD := hm9 hd0
  have hx2 : (bs l).extract 2 (r.length + 2) = bs r := by rw [← hs]; exact hx1
  have hle2 : (2 : Int) ≤ (r.length : Int) + 2 := by omega
  have hsr : (bs r).size = r.length := bs_size r
  clear hr hl hd0
  go_enter Tryz.func37, Tryz.ntmps37
  go_wp2_with fail
  refine (rfind_c r (by have := HL.out; omega) 112 80 _).mono ?_
  rintro en w1 ⟨rfl, rfl⟩
  cases hf : findF 112 80 r with
  | none =>
    have HN : Hid (docF l = none) := by rw [HD.out]; show _ = _; unfold docR; rw [hf]
    rw [show fiI 112 80 r = -1 by unfold fiI; rw [hf]]
    clear hf hx1 hx2
    go_wp2_with fail
    go_ret3
    exact .inl ⟨HN.out, rfl, Below.refl _ _⟩
  | some i =>
    have HF := hm9 hf
    have HI : Hid (i < r.length) := (find_some hf).choose_spec.choose_spec.2.2.2
    rw [show fiI 112 80 r = (i : Int) by unfold fiI; rw [hf]]
    have hip : ¬ (i : Int) < 0 := by omega
    have hwi : wrap64 ((i : Int) + 1) = ((i + 1 : Nat) : Int) := by have := HI.out; have := HL.out; simp only [wrap64]; omega
    have hxd : (bs r).extract (i + 1) (bs r).size = bs (r.drop (i + 1)) := bs_drp r (i + 1)
    have hxe : (bs r).extract (i + 1) r.length = bs (r.drop (i + 1)) := by rw [← hsr]; exact hxd
    have hle3 : (i : Int) + 1 ≤ (r.length : Int) := by have := HI.out; omega
    have hle4 : i + 1 ≤ (bs r).size := by have := HI.out; omega
    have h0i : (0 : Int) ≤ (i : Int) + 1 := by omega
    clear hf hx1 hx2
    go_wp2_with fail
    refine (rpower_c (r.drop (i + 1)) (by have := HL.out; rw [List.length_drop]; omega) _).mono ?_
    rintro en w2 ⟨rfl, hb2⟩
    have HB := hm9 hb2
    obtain ⟨ok, hok⟩ : ∃ ok, ok = powB (r.drop (i + 1)) := ⟨_, rfl⟩
    obtain ⟨pe, hpe⟩ : ∃ pe, pe = powI (r.drop (i + 1)) := ⟨_, rfl⟩
    rw [← hok, ← hpe]
    have HOK := hm9 hok
    have HPE : Hid (pe = powI (r.drop (i + 1)) ∧ -1099511627776 ≤ pe ∧ pe ≤ 1099511627776) := ⟨hpe, by rw [hpe]; exact (pow_bd _).1, by rw [hpe]; exact (pow_bd _).2⟩
    obtain ⟨D, hD⟩ : ∃ D, D = r.take i := ⟨_, rfl⟩
    have HDD : Hid (D = r.take i ∧ D.length ≤ 8000) := ⟨hD, by rw [hD, List.length_take]; have := HL.out; omega⟩
    have hxt : (bs r).extract 0 i = bs D := by rw [hD]; exact bs_take r i
    have hile : i ≤ (bs r).size := by have := HI.out; omega
    have hilt : (i : Int) ≤ (r.length : Int) := by have := HI.out; omega
    clear hb2 hok hpe hD hxd hxe hle3 hle4 h0i hwi
    go_wp2_with fail
    refine (rfind_c D (by have := HDD.out; omega) 46 46 _).mono ?_
    rintro en w3 ⟨rfl, rfl⟩
    have hsD : (bs D).size = D.length := bs_size D
    clear hxt hile hilt
    cases hf2 : findF 46 46 D with
    | none =>
      rw [show fiI 46 46 D = -1 by unfold fiI; rw [hf2]]
      obtain ⟨A, hA⟩ : ∃ A, A = D := ⟨_, rfl⟩
      have HC : Hid (cutF D = (A, 0)) := by show _ = _; unfold cutF; rw [hf2, hA]
      have HAL : Hid (A.length ≤ 8000) := by rw [hA]; exact HDD.out.2
      obtain ⟨ev, hev⟩ : ∃ ev, ev = pe := ⟨_, rfl⟩
      have HEV : Hid (ev = pe - 4 * ((0 : Nat) : Int)) := by show _ = _; omega
      rw [← hA] at hsD ⊢
      rw [← hev]
      clear hf2 hev hA
      cases ok with
      | false =>
        have HN : Hid (docF l = none) := by rw [HD.out]; exact doc_no1 HF.out (by rw [← HOK.out])
        go_wp2_with fail
        go_ret3
        exact .inl ⟨HN.out, rfl, HB.out⟩
      | true =>
        by_cases hA0 : A = []
        · have hem : (bs A).toList.isEmpty = true := by rw [hA0]; exact emp0
          have HN : Hid (docF l = none) := by rw [HD.out]; exact doc_no2 HF.out (by rw [← HDD.out.1, HC.out]; exact .inl hA0)
          clear hA0
          go_wp2_with fail
          go_ret3
          exact .inl ⟨HN.out, rfl, HB.out⟩
        have hem : (bs A).toList.isEmpty = false := emp1 hA0
        have HA0 := hm9 hA0
        clear hA0
        go_wp2_with fail
        refine (rn_word 0 (by decide)).mono ?_
        rintro en v4 ⟨pm, mm, rfl, hrn, hb4⟩
        have HRN := hm9 hrn
        have HB4 := hm9 (Below.on HB.out hb4)
        clear hrn hb4
        go_wp2_with fail
        have hsA : (bs A).size = A.length := bs_size A
        go_loopg [10, 11] A.length (fun gk mv iv wr => ∃ (i2 : Nat) (p : Option Addr) (m : Nat), i2 + gk = A.length ∧ mv = .slice p m m ∧ iv = .int .i64 i2 ∧ (∀ j, j < i2 → hexd (A.getD j 0) = true) ∧ RN wr p m (hexF 0 (A.take i2)) ∧ Below w1.heap.size w1 wr)
        case atStart => exact ⟨0, pm, mm, by omega, rfl, rfl, fun j hj => absurd hj (Nat.not_lt_zero _), HRN.out, HB4.out⟩
        case round =>
          obtain ⟨i2, p, m, hig, rfl, rfl, hkn, hr2, hb2⟩ := hrel
          have HK := hm9 hkn
          have HR2 := hm9 hr2
          have HB2 := hm9 hb2
          clear hkn hr2 hb2
          cases gk with
          | zero =>
            obtain rfl : i2 = A.length := by omega
            have HAA : Hid (A.all hexd = true) := List.all_eq_true.2 (fun x hx => by obtain ⟨j, hj, rfl⟩ := mem_getD hx; exact HK.out j hj)
            have HY : Hid (docF l = some (hexF 0 A, ev)) := by
              have h1 := doc_yes HF.out HOK.out.symm (by rw [← HDD.out.1, HC.out]; exact HA0.out) (by rw [← HDD.out.1, HC.out]; exact HAA.out)
              show _ = _
              rw [HD.out, h1, ← HDD.out.1, HC.out, ← HPE.out.1, HEV.out]
            have hnl : ¬ (A.length : Int) < (A.length : Int) := by omega
            clear hig
            go_wp2_with fail
            go_ret3
            exact .inr ⟨_, _, _, _, HY.out, rfl, by have h := HR2.out; rw [List.take_length] at h; exact h, HB2.out⟩
          | succ g =>
            have hil : (i2 : Int) < (A.length : Int) := by omega
            have hi0 : (0 : Int) ≤ (i2 : Int) := by omega
            have hiK : i2 < (bs A).size := by omega
            have hgi := bs_get A i2 hiK
            have wi : wrap64 ((i2 : Int) + 1) = ((i2 + 1 : Nat) : Int) := by have := HAL.out; simp only [wrap64]; omega
            have HI2 : Hid (i2 < A.length) := by show _ < _; omega
            obtain ⟨d, hd⟩ : ∃ d, d = A.getD i2 0 := ⟨_, rfl⟩
            rw [← hd] at hgi
            have HDX := hm9 hd
            have hgn : ((((bs A)[i2]'hiK).toNat : Nat) : Int) = (d.toNat : Int) := by rw [hgi]
            clear hd hgi
            go_wp2_with fail
            refine (rdigit_c d _).mono ?_
            rintro en v5 ⟨rfl, rfl⟩
            by_cases hx : hexd d = true
            rotate_left
            · have HN : Hid (docF l = none) := by
                rw [HD.out]
                refine doc_no2 HF.out (.inr ?_)
                rw [← HDD.out.1, HC.out]
                cases ha : A.all hexd with
                | false => rfl
                | true => exact absurd (by rw [HDX.out]; exact List.all_eq_true.1 ha _ (getD_mem HI2.out)) hx
              rw [if_neg hx]
              clear hx
              go_wp2_with fail
              go_ret3
              exact .inl ⟨HN.out, rfl, HB2.out⟩
            · rw [if_pos hx]
              have HX := hm9 hx
              have hv16 := hexv_lt hx
              obtain ⟨u, hu⟩ : ∃ u, u = hexv d := ⟨_, rfl⟩
              rw [← hu] at hv16 ⊢
              have HU : Hid (u = hexv d ∧ u < 16) := ⟨hu, hv16⟩
              have hun : ¬ (u : Int) < 0 := by omega
              have hw32 : IntKind.u32.wrap (u : Int) = (u : Int) := wr32 hv16
              have HT1 : Hid (hexF 0 (A.take i2) * 16 + u = hexF 0 (A.take (i2 + 1)) ∧ hexF 0 (A.take (i2 + 1)) < 2 ^ (4 * (i2 + 1))) := by rw [hu, HDX.out]; exact num_step HI2.out HK.out (by rw [← HDX.out]; exact hx)
              clear hx hu hv16
              go_wp2_with fail
              have hb16 : 16 < B32 := (nub (u := 0)).1
              have hbu : u < B32 := nub.2 HU.out.2
              have hbk : 4 * (i2 + 1) ≤ 100000 := nkb HAL.out HI2.out
              have hbx : hexF 0 (A.take i2) * 16 + u < 2 ^ (4 * (i2 + 1)) := Nat.lt_of_le_of_lt (Nat.le_of_eq HT1.out.1) HT1.out.2
              refine (rn_mulsv HR2.out 16 u hb16 hbu (K := 4 * (i2 + 1)) hbk hbx).mono ?_
              rintro en v6 ⟨p6, m6, rfl, hr6, hb6⟩
              have HR6 := hm9 hr6
              have HB6 := hm9 (Below.on HB2.out hb6)
              clear hr6 hb6 hun hw32 hgn hb16 hbu hbk hbx hem hsA hs hg0 hg1 hle2 hsr hsD
              go_wp2_with fail
              go_roundg g
              case measure => exact Nat.lt_succ_self g
              case rel => exact ⟨i2 + 1, p6, m6, nig hig, rfl, by go_num, njk HK.out (by rw [← HDX.out]; exact HX.out), by rw [← HT1.out.1]; exact HR6.out, HB6.out⟩
    | some j =>
      rw [show fiI 46 46 D = (j : Int) by unfold fiI; rw [hf2]]
      have HJ : Hid (j < D.length) := (find_some hf2).choose_spec.choose_spec.2.2.2
      obtain ⟨A, hA⟩ : ∃ A, A = D.take j ++ D.drop (j + 1) := ⟨_, rfl⟩
      obtain ⟨be, hbe⟩ : ∃ be, be = D.length - j - 1 := ⟨_, rfl⟩
      have HC : Hid (cutF D = (A, be)) := by show _ = _; unfold cutF; rw [hf2, hA, hbe]
      have HAL : Hid (A.length ≤ 8000) := by rw [hA]; exact cut_len HDD.out.2 HJ.out
      obtain ⟨ev, hev⟩ : ∃ ev, ev = pe - 4 * ((be : Nat) : Int) := ⟨_, rfl⟩
      have HEV := hm9 hev
      obtain ⟨k1, hk1⟩ : ∃ k1, k1 = D.length - j := ⟨_, rfl⟩
      have hwa : wrap64 ((D.length : Int) - (j : Int)) = (k1 : Int) := wA hk1 HJ.out HDD.out.2
      have hwb : wrap64 ((k1 : Int) - 1) = (be : Int) := wB hk1 hbe HJ.out HDD.out.2
      have hwc : wrap64 (4 * (be : Int)) = 4 * (be : Int) := wC hbe HDD.out.2
      have hwd : wrap64 (pe - 4 * (be : Int)) = ev := wD hbe HDD.out.2 HPE.out.2.1 HPE.out.2.2 hev
      have hwj : wrap64 ((j : Int) + 1) = ((j + 1 : Nat) : Int) := wE HJ.out HDD.out.2
      have hwk : IntKind.i64.wrap ((j : Int) + 1) = (j : Int) + 1 := wK HJ.out HDD.out.2
      have htn : ((j : Int) + 1).toNat = j + 1 := by omega
      have hxt2 : (bs D).extract 0 j = bs (D.take j) := bs_take D j
      have hxd2 : (bs D).extract (j + 1) (bs D).size = bs (D.drop (j + 1)) := bs_drp D (j + 1)
      have hxe2 : (bs D).extract (j + 1) D.length = bs (D.drop (j + 1)) := by rw [← hsD]; exact hxd2
      have hj1 : (j : Int) ≤ (D.length : Int) := wF HJ.out
      have hj2 : (j : Int) + 1 ≤ (D.length : Int) := wG HJ.out
      have hj3 : (0 : Int) ≤ (j : Int) := Int.natCast_nonneg j
      have hj4 : ¬ (j : Int) < 0 := Int.not_lt.2 hj3
      have hj5 : (0 : Int) ≤ (j : Int) + 1 := Int.le_trans hj3 (Int.le_add_one (Int.le_refl _))
      have hca : ∀ W, (Op.stringOp .add (bs (D.take j)) (bs (D.drop (j + 1)))).run Tryz.prog W = .ok (.string (bs A)) W := fun W => by rw [hA]; exact cat_run _ _ W (cut_len2 HDD.out.2 HJ.out)
      have hba : ¬ ((bs (D.take j)).size + (bs (D.drop (j + 1))).size > 9223372036854775807) := by rw [bs_size, bs_size]; exact cut_len3 HDD.out.2 HJ.out
      clear hf2 hev hA hbe hk1
      go_wp2_with fail
      have hbw := HB.out
      obtain ⟨V, hV⟩ : ∃ W1, W1 = w3.drew := ⟨_, rfl⟩
      have hbd : Below w3.heap.size w3 V := by rw [hV]; exact bDrew1 (Below.refl _ _)
      replace hbw := Below.on hbw hbd
      clear hbd
      have HJ : Hid ((fun W' : World => True) V) := trivial
      refine wp_region_J (fun W' => True) (by kernel_rfl) ?_
      rw [← hV]
      clear hV
      refine wpJ_tk 0 (v := ?v10x0) rfl ?hy10x0 HJ.out ?_
      case hy10x0 => (intro W' hJ; have j0 := hJ; go_simp; first | done | with_reducible rfl)
      refine wpJ_tk 1 (v := ?v11x1) rfl ?hy11x1 HJ.out ?_
      case hy11x1 => (intro W' hJ; have j0 := hJ; go_simp; first | done | with_reducible rfl)
      refine wpJ_tk 2 (v := ?v12x2) rfl ?hy12x2 HJ.out ?_
      case hy12x2 => (intro W' hJ; have j0 := hJ; go_simp; first | done | with_reducible rfl)
      refine wpJ_tk 3 (v := ?v13x3) rfl ?hy13x3 HJ.out ?_
      case hy13x3 => (intro W' hJ; have j0 := hJ; go_simp; first | done | with_reducible rfl)
      go_simp
      refine wpJ_tk 4 (v := ?v14x4) rfl ?hy14x4 HJ.out ?_
      case hy14x4 => (intro W' hJ; have j0 := hJ; go_simp; first | done | with_reducible rfl)
      refine wpJ_tk 5 (v := ?v15x5) rfl ?hy15x5 HJ.out ?_
      case hy15x5 => (intro W' hJ; have j0 := hJ; go_simp; first | done | with_reducible rfl)
      refine wpJ_tk 6 (v := ?v16x6) rfl ?hy16x6 HJ.out ?_
      case hy16x6 => (intro W' hJ; have j0 := hJ; go_simp; first | done | with_reducible rfl)
      refine wpJ_tk 7 (v := ?v17x7) rfl ?hy17x7 HJ.out ?_
      case hy17x7 => (intro W' hJ; have j0 := hJ; go_simp; first | done | with_reducible rfl)
      go_simp
      refine wpJ_tk 8 (v := ?v18x8) rfl ?hy18x8 HJ.out ?_
      case hy18x8 => (intro W' hJ; have j0 := hJ; go_simp; first | done | with_reducible rfl)
      refine wpJ_done (by kernel_rfl) ?_ _
      clear HJ
      have HBV := hm9 hbw
      clear HB
      have HB := HBV
      clear HBV hbw hwj hwk htn hxt2 hxd2 hxe2 hj1 hj2 hj5 hca hba
      cases ok with
      | false =>
        have HN : Hid (docF l = none) := by rw [HD.out]; exact doc_no1 HF.out (by rw [← HOK.out])
        go_wp2_with fail
        go_ret3
        exact .inl ⟨HN.out, rfl, HB.out⟩
      | true =>
        by_cases hA0 : A = []
        · have hem : (bs A).toList.isEmpty = true := by rw [hA0]; exact emp0
          have HN : Hid (docF l = none) := by rw [HD.out]; exact doc_no2 HF.out (by rw [← HDD.out.1, HC.out]; exact .inl hA0)
          clear hA0
          go_wp2_with fail
          go_ret3
          exact .inl ⟨HN.out, rfl, HB.out⟩
        have hem : (bs A).toList.isEmpty = false := emp1 hA0
        have HA0 := hm9 hA0
        clear hA0
        go_wp2_with fail
        refine (rn_word 0 (by decide)).mono ?_
        rintro en v4 ⟨pm, mm, rfl, hrn, hb4⟩
        have HRN := hm9 hrn
        have HB4 := hm9 (Below.on HB.out hb4)
        clear hrn hb4
        go_wp2_with fail
        have hsA : (bs A).size = A.length := bs_size A
        go_loopg [10, 11] A.length (fun gk mv iv wr => ∃ (i2 : Nat) (p : Option Addr) (m : Nat), i2 + gk = A.length ∧ mv = .slice p m m ∧ iv = .int .i64 i2 ∧ (∀ j, j < i2 → hexd (A.getD j 0) = true) ∧ RN wr p m (hexF 0 (A.take i2)) ∧ Below w1.heap.size w1 wr)
        case atStart => exact ⟨0, pm, mm, by omega, rfl, rfl, fun j hj => absurd hj (Nat.not_lt_zero _), HRN.out, HB4.out⟩
        case round =>
          obtain ⟨i2, p, m, hig, rfl, rfl, hkn, hr2, hb2⟩ := hrel
          have HK := hm9 hkn
          have HR2 := hm9 hr2
          have HB2 := hm9 hb2
          clear hkn hr2 hb2
          cases gk with
          | zero =>
            obtain rfl : i2 = A.length := by omega
            have HAA : Hid (A.all hexd = true) := List.all_eq_true.2 (fun x hx => by obtain ⟨j, hj, rfl⟩ := mem_getD hx; exact HK.out j hj)
            have HY : Hid (docF l = some (hexF 0 A, ev)) := by
              have h1 := doc_yes HF.out HOK.out.symm (by rw [← HDD.out.1, HC.out]; exact HA0.out) (by rw [← HDD.out.1, HC.out]; exact HAA.out)
              show _ = _
              rw [HD.out, h1, ← HDD.out.1, HC.out, ← HPE.out.1, HEV.out]
            have hnl : ¬ (A.length : Int) < (A.length : Int) := by omega
            clear hig
            go_wp2_with fail
            go_ret3
            exact .inr ⟨_, _, _, _, HY.out, rfl, by have h := HR2.out; rw [List.take_length] at h; exact h, HB2.out⟩
          | succ g =>
            have hil : (i2 : Int) < (A.length : Int) := by omega
            have hi0 : (0 : Int) ≤ (i2 : Int) := by omega
            have hiK : i2 < (bs A).size := by omega
            have hgi := bs_get A i2 hiK
            have wi : wrap64 ((i2 : Int) + 1) = ((i2 + 1 : Nat) : Int) := by have := HAL.out; simp only [wrap64]; omega
            have HI2 : Hid (i2 < A.length) := by show _ < _; omega
            obtain ⟨d, hd⟩ : ∃ d, d = A.getD i2 0 := ⟨_, rfl⟩
            rw [← hd] at hgi
            have HDX := hm9 hd
            have hgn : ((((bs A)[i2]'hiK).toNat : Nat) : Int) = (d.toNat : Int) := by rw [hgi]
            clear hd hgi
            go_wp2_with fail
            refine (rdigit_c d _).mono ?_
            rintro en v5 ⟨rfl, rfl⟩
            by_cases hx : hexd d = true
            rotate_left
            · have HN : Hid (docF l = none) := by
                rw [HD.out]
                refine doc_no2 HF.out (.inr ?_)
                rw [← HDD.out.1, HC.out]
                cases ha : A.all hexd with
                | false => rfl
                | true => exact absurd (by rw [HDX.out]; exact List.all_eq_true.1 ha _ (getD_mem HI2.out)) hx
              rw [if_neg hx]
              clear hx
              go_wp2_with fail
              go_ret3
              exact .inl ⟨HN.out, rfl, HB2.out⟩
            · rw [if_pos hx]
              have HX := hm9 hx
              have hv16 := hexv_lt hx
              obtain ⟨u, hu⟩ : ∃ u, u = hexv d := ⟨_, rfl⟩
              rw [← hu] at hv16 ⊢
              have HU : Hid (u = hexv d ∧ u < 16) := ⟨hu, hv16⟩
              have hun : ¬ (u : Int) < 0 := by omega
              have hw32 : IntKind.u32.wrap (u : Int) = (u : Int) := wr32 hv16
              have HT1 : Hid (hexF 0 (A.take i2) * 16 + u = hexF 0 (A.take (i2 + 1)) ∧ hexF 0 (A.take (i2 + 1)) < 2 ^ (4 * (i2 + 1))) := by rw [hu, HDX.out]; exact num_step HI2.out HK.out (by rw [← HDX.out]; exact hx)
              clear hx hu hv16
              go_wp2_with fail
              have hb16 : 16 < B32 := (nub (u := 0)).1
              have hbu : u < B32 := nub.2 HU.out.2
              have hbk : 4 * (i2 + 1) ≤ 100000 := nkb HAL.out HI2.out
              have hbx : hexF 0 (A.take i2) * 16 + u < 2 ^ (4 * (i2 + 1)) := Nat.lt_of_le_of_lt (Nat.le_of_eq HT1.out.1) HT1.out.2
              refine (rn_mulsv HR2.out 16 u hb16 hbu (K := 4 * (i2 + 1)) hbk hbx).mono ?_
              rintro en v6 ⟨p6, m6, rfl, hr6, hb6⟩
              have HR6 := hm9 hr6
              have HB6 := hm9 (Below.on HB2.out hb6)
              clear hr6 hb6 hun hw32 hgn hb16 hbu hbk hbx hem hsA hs hg0 hg1 hle2 hsr hsD
              go_wp2_with fail
              go_roundg g
              case measure => exact Nat.lt_succ_self g
              case rel => exact ⟨i2 + 1, p6, m6, nig hig, rfl, by go_num, njk HK.out (by rw [← HDX.out]; exact HX.out), by rw [← HT1.out.1]; exact HR6.out, HB6.out⟩
theorem rnumber_c (l : List UInt8) (hl : l.length ≤ 8000) (w : World) : Calls Tryz.prog 37 #[.string (bs l)] w fun en w' => NumA l w w' en := by
  by_cases h2 : l.length < 2
  · exact rnum_s h2
  cases l with
  | nil => exact absurd (by decide) h2
  | cons c l =>
    cases l with
    | nil => exact absurd (Nat.lt_succ_self 1) h2
    | cons x r =>
      have hr : r.length ≤ 8000 := by rw [List.length_cons, List.length_cons] at hl; omega
      by_cases hc : c = 48
      · subst hc
        by_cases h120 : x = 120
        · subst h120; exact rnum_120 rfl hr
        by_cases h88 : x = 88
        · subst h88; exact rnum_88 rfl hr
        exact rnum_x rfl h120 h88
      · exact rnum_c rfl hc
def JnR (H I : Nat) (l : Int) (man : Nat) (ex : Int) (s : Nat) : Prop := s < I ∧ man * 2 ^ (ex - l).toNat = vs H s * 2 ^ (l - ex).toNat
theorem JnR.uniq {H I : Nat} {l : Int} {man : Nat} {ex : Int} {s t : Nat} (hH : 0 < H) (h : JnR H I l man ex s) (k : JnR H I l man ex t) : s = t := by
  have h1 : vs H s * 2 ^ (l - ex).toNat = vs H t * 2 ^ (l - ex).toNat := h.2.symm.trans k.2
  have h2 : vs H s = vs H t := Nat.eq_of_mul_eq_mul_right (Nat.two_pow_pos _) h1
  rcases Nat.lt_trichotomy s t with h3 | h3 | h3
  · have := vs_mono hH h3; omega
  · exact h3
  · have := vs_mono hH h3; omega
def JA (S H I : Nat) (l : Int) (neg : Bool) (man : Nat) (ex : Int) (r : Nat) (er : Int) : Prop :=
  (er = 0 ∧ ∃ s, JnR H I l man ex s ∧ r = if neg then S + s else s) ∨ (er = 5 ∧ r = 0 ∧ ∀ s, ¬ JnR H I l man ex s)
theorem JA.uniq {S H I : Nat} {l : Int} {neg : Bool} {man : Nat} {ex : Int} {r r' : Nat} {er er' : Int} (hH : 0 < H) (h : JA S H I l neg man ex r er) (k : JA S H I l neg man ex r' er') : r = r' ∧ er = er' := by
  rcases h with ⟨h1, s, h2, h3⟩ | ⟨h1, h2, h3⟩ <;> rcases k with ⟨k1, t, k2, k3⟩ | ⟨k1, k2, k3⟩
  · obtain rfl := h2.uniq hH k2
    exact ⟨h3.trans k3.symm, h1.trans k1.symm⟩
  · exact absurd h2 (k3 s)
  · exact absurd k2 (h3 t)
  · exact ⟨h2.trans k2.symm, h1.trans k1.symm⟩
theorem vs_of {H q mn : Nat} (hp : 0 < H) (h2 : mn < 2 * H) (hq : q = 0 ∨ H ≤ mn) : vs H (q * H + mn) = mn * 2 ^ q := by
  have h1 : (q * H + mn) / H - 1 = q := by
    rw [Nat.mul_comm, Nat.mul_add_div hp]
    have : mn / H < 2 := by rw [Nat.div_lt_iff_lt_mul hp]; exact h2
    rcases hq with rfl | h3
    · omega
    · have : 1 ≤ mn / H := (Nat.le_div_iff_mul_le hp).2 (by omega)
      omega
  unfold vs
  rw [h1, Nat.add_sub_cancel_left]
theorem jw {a : Int} (h1 : -100000 ≤ a) (h2 : a ≤ 100000) : IntKind.i64.wrap a = a ∧ wrap64 a = a := ⟨by simp [IntKind.wrap, IntKind.signed, IntKind.bits]; omega, by simp only [wrap64]; omega⟩
end Go.Proofs.YtglkjbkpgfencaaGreatDoor
