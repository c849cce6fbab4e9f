import Derived.Test.YtfmbifocgljieaaGreatDoorJ11
import Derived.Test.YtfmbifocgljieaaGreatDoorJ10
import Derived.Test.YtfmbifocgljieaaGreatDoorJ8
import Derived.Test.YtfmbifocgljieaaGreatDoorJ9
import Derived.Deep.LoopGhost
import Derived.Deep.RegionWith
import Derived.Test.YtfmbifocgljieaaGreatDoorVal
import Derived.Shelf.Spec.TrailingZeros
import Derived.Laws.ResultCell
import Derived.Deep.DeepCutAuto
namespace Go.Proofs.YtfmbifocgljieaaGreatDoor
open Go.RowKit Go.Shelf
set_option maxRecDepth 20000
set_option maxHeartbeats 0
def formD (s : Bool) (xs : List Nat) (e : Int) : Bool := formB xs && (decide (-1048576 ≤ e) && (decide (e ≤ 1048576) && (if xs.length = 0 then (!s && decide (e = 0)) else decide (xs.getD 0 0 % 2 = 1))))
theorem docformd_f {p : Option Addr} {m c : Nat} {xs : List Nat} {w : World} {e : Int} (s : Bool) (h : At w p m c xs) (hf : formB xs = false) :
    Calls Tryz.prog 59 #[DV s p m c e] w fun en w' => en = .returned (.bool false) ∧ Below w.heap.size w w' := by
  have H : Hid (At w p m c xs) := h
  have HF : Hid (formB xs = false) := hf
  clear h hf
  go_enter Tryz.func59, Tryz.ntmps59
  go_wp2_with fail
  obtain ⟨W0, hW0⟩ : ∃ W0, W0 = (w.alloc (.cells #[.bool s, .slice p m c, .int .i64 e] 33)) := ⟨_, rfl⟩
  have Xd : Hid (B3q W0 (w.heap.size) (.bool s) (.slice p m c) (.int .i64 e)) := by rw [hW0]; exact ⟨by go_simp, by go_simp, by go_simp, by go_simp, by go_simp, by go_simp⟩
  have hb0 : Below w.heap.size w W0 := by rw [hW0]; exact below1 w _
  rw [← hW0]
  clear hW0
  have hbw : Below w.heap.size w w := Below.refl _ _
  obtain ⟨gd, hgd⟩ : ∃ g, g = w.heap.size := ⟨_, rfl⟩
  have HGd : Hid (w.heap.size ≤ gd) := by rw [hgd]; show _ ≤ _; omega
  rw [← hgd] at Xd
  try rw [← hgd]
  clear hgd
  replace hbw := Below.on hbw hb0
  clear hb0
  refine (docform_any (H.out.below hbw)).mono ?_
  rintro e2 v1 ⟨rfl, hw⟩
  obtain rfl := hw.symm
  clear hw
  rw [HF.out]
  obtain ⟨cd0, cd1, cd2, fd0, fd1, fd2⟩ := Xd.out
  have hned : gd < W0.heap.size := World.block_lt_of_cell? W0 _ cd0
  go_wp2_with fail
  clear cd0 cd1 cd2 fd0 fd1 fd2 hned
  go_ret
  exact ⟨rfl, hbw⟩
theorem docformd_lo {p : Option Addr} {m c : Nat} {xs : List Nat} {w : World} {e : Int} (s : Bool) (h : At w p m c xs) (hf : formB xs = true) (h1 : e < -1048576) :
    Calls Tryz.prog 59 #[DV s p m c e] w fun en w' => en = .returned (.bool false) ∧ Below w.heap.size w w' := by
  have H : Hid (At w p m c xs) := h
  have HF : Hid (formB xs = true) := hf
  clear h hf
  go_enter Tryz.func59, Tryz.ntmps59
  go_wp2_with fail
  obtain ⟨W0, hW0⟩ : ∃ W0, W0 = (w.alloc (.cells #[.bool s, .slice p m c, .int .i64 e] 33)) := ⟨_, rfl⟩
  have Xd : Hid (B3q W0 (w.heap.size) (.bool s) (.slice p m c) (.int .i64 e)) := by rw [hW0]; exact ⟨by go_simp, by go_simp, by go_simp, by go_simp, by go_simp, by go_simp⟩
  have hb0 : Below w.heap.size w W0 := by rw [hW0]; exact below1 w _
  rw [← hW0]
  clear hW0
  have hbw : Below w.heap.size w w := Below.refl _ _
  obtain ⟨gd, hgd⟩ : ∃ g, g = w.heap.size := ⟨_, rfl⟩
  have HGd : Hid (w.heap.size ≤ gd) := by rw [hgd]; show _ ≤ _; omega
  rw [← hgd] at Xd
  try rw [← hgd]
  clear hgd
  replace hbw := Below.on hbw hb0
  clear hb0
  refine (docform_any (H.out.below hbw)).mono ?_
  rintro e2 v1 ⟨rfl, hw⟩
  obtain rfl := hw.symm
  clear hw
  rw [HF.out]
  obtain ⟨cd0, cd1, cd2, fd0, fd1, fd2⟩ := Xd.out
  have hned : gd < W0.heap.size := World.block_lt_of_cell? W0 _ cd0
  go_wp2_with fail
  clear cd0 cd1 cd2 fd0 fd1 fd2 hned
  go_ret
  exact ⟨rfl, hbw⟩
theorem docformd_hi {p : Option Addr} {m c : Nat} {xs : List Nat} {w : World} {e : Int} (s : Bool) (h : At w p m c xs) (hf : formB xs = true) (h0 : ¬ e < -1048576) (h1 : 1048576 < e) :
    Calls Tryz.prog 59 #[DV s p m c e] w fun en w' => en = .returned (.bool false) ∧ Below w.heap.size w w' := by
  have H : Hid (At w p m c xs) := h
  have HF : Hid (formB xs = true) := hf
  clear h hf
  go_enter Tryz.func59, Tryz.ntmps59
  go_wp2_with fail
  obtain ⟨W0, hW0⟩ : ∃ W0, W0 = (w.alloc (.cells #[.bool s, .slice p m c, .int .i64 e] 33)) := ⟨_, rfl⟩
  have Xd : Hid (B3q W0 (w.heap.size) (.bool s) (.slice p m c) (.int .i64 e)) := by rw [hW0]; exact ⟨by go_simp, by go_simp, by go_simp, by go_simp, by go_simp, by go_simp⟩
  have hb0 : Below w.heap.size w W0 := by rw [hW0]; exact below1 w _
  rw [← hW0]
  clear hW0
  have hbw : Below w.heap.size w w := Below.refl _ _
  obtain ⟨gd, hgd⟩ : ∃ g, g = w.heap.size := ⟨_, rfl⟩
  have HGd : Hid (w.heap.size ≤ gd) := by rw [hgd]; show _ ≤ _; omega
  rw [← hgd] at Xd
  try rw [← hgd]
  clear hgd
  replace hbw := Below.on hbw hb0
  clear hb0
  refine (docform_any (H.out.below hbw)).mono ?_
  rintro e2 v1 ⟨rfl, hw⟩
  obtain rfl := hw.symm
  clear hw
  rw [HF.out]
  obtain ⟨cd0, cd1, cd2, fd0, fd1, fd2⟩ := Xd.out
  have hned : gd < W0.heap.size := World.block_lt_of_cell? W0 _ cd0
  go_wp2_with fail
  clear cd0 cd1 cd2 fd0 fd1 fd2 hned
  go_ret
  exact ⟨rfl, hbw⟩
theorem docformd_z {p : Option Addr} {m c : Nat} {xs : List Nat} {w : World} {e : Int} (s : Bool) (h : At w p m c xs) (hf : formB xs = true) (h0 : ¬ e < -1048576) (h1 : ¬ 1048576 < e) (hm : m = 0) (bo : Bool) (hbo : bo = (!s && decide (e = 0))) :
    Calls Tryz.prog 59 #[DV s p m c e] w fun en w' => en = .returned (.bool bo) ∧ Below w.heap.size w w' := by
  have H : Hid (At w p m c xs) := h
  have HF : Hid (formB xs = true) := hf
  subst hm
  have HBO : Hid (bo = (!s && decide (e = 0))) := hbo
  clear hbo
  clear h hf
  go_enter Tryz.func59, Tryz.ntmps59
  go_wp2_with fail
  obtain ⟨W0, hW0⟩ : ∃ W0, W0 = (w.alloc (.cells #[.bool s, .slice p 0 c, .int .i64 e] 33)) := ⟨_, rfl⟩
  have Xd : Hid (B3q W0 (w.heap.size) (.bool s) (.slice p 0 c) (.int .i64 e)) := by rw [hW0]; exact ⟨by go_simp, by go_simp, by go_simp, by go_simp, by go_simp, by go_simp⟩
  have hb0 : Below w.heap.size w W0 := by rw [hW0]; exact below1 w _
  rw [← hW0]
  clear hW0
  have hbw : Below w.heap.size w w := Below.refl _ _
  obtain ⟨gd, hgd⟩ : ∃ g, g = w.heap.size := ⟨_, rfl⟩
  have HGd : Hid (w.heap.size ≤ gd) := by rw [hgd]; show _ ≤ _; omega
  rw [← hgd] at Xd
  try rw [← hgd]
  clear hgd
  replace hbw := Below.on hbw hb0
  clear hb0
  refine (docform_any (H.out.below hbw)).mono ?_
  rintro e2 v1 ⟨rfl, hw⟩
  obtain rfl := hw.symm
  clear hw
  rw [HF.out]
  cases s
  · by_cases he : e = 0
    · have h9 : (e == 0) = true := by simp [he]
      have hbo : bo = true := by rw [HBO.out, he]; rfl
      subst he
      subst hbo
      clear HBO
      obtain ⟨cd0, cd1, cd2, fd0, fd1, fd2⟩ := Xd.out
      have hned : gd < W0.heap.size := World.block_lt_of_cell? W0 _ cd0
      go_wp2_with fail
      clear cd0 cd1 cd2 fd0 fd1 fd2 hned
      go_ret
      exact ⟨rfl, hbw⟩
    · have h9 : (e == 0) = false := by simp [he]
      have hbo : bo = false := by rw [HBO.out, decide_eq_false he]; rfl
      subst hbo
      clear HBO
      obtain ⟨cd0, cd1, cd2, fd0, fd1, fd2⟩ := Xd.out
      have hned : gd < W0.heap.size := World.block_lt_of_cell? W0 _ cd0
      go_wp2_with fail
      clear cd0 cd1 cd2 fd0 fd1 fd2 hned
      go_ret
      exact ⟨rfl, hbw⟩
  · have hbo : bo = false := by rw [HBO.out]; rfl
    subst hbo
    clear HBO
    obtain ⟨cd0, cd1, cd2, fd0, fd1, fd2⟩ := Xd.out
    have hned : gd < W0.heap.size := World.block_lt_of_cell? W0 _ cd0
    go_wp2_with fail
    clear cd0 cd1 cd2 fd0 fd1 fd2 hned
    go_ret
    exact ⟨rfl, hbw⟩
theorem docformd_n {p : Option Addr} {m c : Nat} {xs : List Nat} {w : World} {e : Int} (s : Bool) (h : At w p m c xs) (hf : formB xs = true) (h0 : ¬ e < -1048576) (h1 : ¬ 1048576 < e) (hm : 0 < m) (bo : Bool) (hbo : bo = decide (xs.getD 0 0 % 2 = 1)) :
    Calls Tryz.prog 59 #[DV s p m c e] w fun en w' => en = .returned (.bool bo) ∧ Below w.heap.size w w' := by
  have H : Hid (At w p m c xs) := h
  have HF : Hid (formB xs = true) := hf
  have HMP : Hid (0 < m) := hm
  obtain ⟨g, off, rfl, hc⟩ := h.cells.resolve_left (by omega)
  have hc0 : w.cell? ⟨g, off, none⟩ = some (U (xs.getD 0 0)) := by have := hc 0 hm; rw [Nat.add_zero] at this; exact this
  have hx0 : xs.getD 0 0 < B64 := by
    have hl := h.len
    rw [List.getD_eq_getElem?_getD, List.getElem?_eq_getElem (by omega)]
    exact h.dig _ (List.getElem_mem _)
  obtain ⟨x0, hx⟩ : ∃ x0, x0 = xs.getD 0 0 := ⟨_, rfl⟩
  rw [← hx] at hc0 hx0 hbo
  have HC0 : Hid (w.cell? ⟨g, off, none⟩ = some (U x0)) := hc0
  have HLT : Hid (g < w.heap.size) := World.block_lt_of_cell? w _ hc0
  have f1 : bits BinOp.and IntKind.u64 (x0 : Int) 1 = ((x0 % 2 : Nat) : Int) := and_one_u64q x0 hx0
  have d3 : ((m : Int) == 0) = false := by simp; omega
  have d4 : ¬ m = 0 := by omega
  have HBO : Hid (bo = decide (x0 % 2 = 1)) := hbo
  clear hc hc0 hx0 hx hbo hm
  clear h hf
  go_enter Tryz.func59, Tryz.ntmps59
  go_wp2_with fail
  obtain ⟨W0, hW0⟩ : ∃ W0, W0 = (w.alloc (.cells #[.bool s, .slice (some ⟨g, off, none⟩) m c, .int .i64 e] 33)) := ⟨_, rfl⟩
  have Xd : Hid (B3q W0 (w.heap.size) (.bool s) (.slice (some ⟨g, off, none⟩) m c) (.int .i64 e)) := by rw [hW0]; exact ⟨by go_simp, by go_simp, by go_simp, by go_simp, by go_simp, by go_simp⟩
  have hb0 : Below w.heap.size w W0 := by rw [hW0]; exact below1 w _
  rw [← hW0]
  clear hW0
  have hbw : Below w.heap.size w w := Below.refl _ _
  obtain ⟨gd, hgd⟩ : ∃ g, g = w.heap.size := ⟨_, rfl⟩
  have HGd : Hid (w.heap.size ≤ gd) := by rw [hgd]; show _ ≤ _; omega
  rw [← hgd] at Xd
  try rw [← hgd]
  clear hgd
  replace hbw := Below.on hbw hb0
  clear hb0
  refine (docform_any (H.out.below hbw)).mono ?_
  rintro e2 v1 ⟨rfl, hw⟩
  obtain rfl := hw.symm
  clear hw
  rw [HF.out]
  have hc1 := (hbw.cell (p := ⟨g, off, none⟩) HLT.out).trans HC0.out
  have hl1 : g < W0.heap.size := Nat.lt_of_lt_of_le HLT.out hbw.size
  rcases Nat.mod_two_eq_zero_or_one x0 with h5 | h5
  · rw [h5] at f1
    have hbo : bo = false := by rw [HBO.out, h5]; rfl
    subst hbo
    clear HBO h5
    obtain ⟨cd0, cd1, cd2, fd0, fd1, fd2⟩ := Xd.out
    have hned : gd < W0.heap.size := World.block_lt_of_cell? W0 _ cd0
    go_wp2_with fail
    clear cd0 cd1 cd2 fd0 fd1 fd2 hned
    go_ret
    exact ⟨rfl, hbw⟩
  · rw [h5] at f1
    have hbo : bo = true := by rw [HBO.out, h5]; rfl
    subst hbo
    clear HBO h5
    obtain ⟨cd0, cd1, cd2, fd0, fd1, fd2⟩ := Xd.out
    have hned : gd < W0.heap.size := World.block_lt_of_cell? W0 _ cd0
    go_wp2_with fail
    clear cd0 cd1 cd2 fd0 fd1 fd2 hned
    go_ret
    exact ⟨rfl, hbw⟩
theorem docformd {p : Option Addr} {m c : Nat} {xs : List Nat} {w : World} {e : Int} (s : Bool) (h : At w p m c xs) :
    Calls Tryz.prog 59 #[DV s p m c e] w fun en w' => en = .returned (.bool (formD s xs e)) ∧ Below w.heap.size w w' := by
  have hl := h.len
  cases hf : formB xs
  · have h0 : formD s xs e = false := by unfold formD; rw [hf]; rfl
    rw [h0]
    exact docformd_f s h hf
  · by_cases h1 : e < -1048576
    · have h0 : formD s xs e = false := by unfold formD; rw [hf, decide_eq_false (p := -1048576 ≤ e) (by omega)]; rfl
      rw [h0]
      exact docformd_lo s h hf h1
    · by_cases h2 : 1048576 < e
      · have h0 : formD s xs e = false := by unfold formD; rw [hf, decide_eq_true (p := -1048576 ≤ e) (by omega), decide_eq_false (p := e ≤ 1048576) (by omega)]; rfl
        rw [h0]
        exact docformd_hi s h hf h1 h2
      · rcases Nat.eq_zero_or_pos m with hm | hm
        · exact docformd_z s h hf h1 h2 hm _ (by unfold formD; rw [hf, decide_eq_true (p := -1048576 ≤ e) (by omega), decide_eq_true (p := e ≤ 1048576) (by omega), if_pos (by omega)]; rfl)
        · exact docformd_n s h hf h1 h2 hm _ (by unfold formD; rw [hf, decide_eq_true (p := -1048576 ≤ e) (by omega), decide_eq_true (p := e ≤ 1048576) (by omega), if_neg (by omega)]; rfl)
theorem val_mod2 (xs : List Nat) : valB B64 xs % 2 = xs.getD 0 0 % 2 := by
  cases xs with
  | nil => rfl
  | cons a r =>
    show (a + B64 * valB B64 r) % 2 = a % 2
    rw [B64_eq]
    omega
theorem formD_dn {p : Option Addr} {m c : Nat} {xs : List Nat} {w : World} {e : Int} {s : Bool} (h : At w p m c xs) (hf : formD s xs e = true) : DN w s p m c e (iv s (valB B64 xs)) := by
  unfold formD at hf
  simp only [Bool.and_eq_true, decide_eq_true_eq] at hf
  obtain ⟨h1, h2, h3, h4⟩ := hf
  have hl := h.len
  have hN := (formB_nf h1 h.dig)
  have hv := val_mod2 xs
  by_cases h0 : xs.length = 0
  · rw [if_pos h0] at h4
    simp only [Bool.and_eq_true, Bool.not_eq_true', decide_eq_true_eq] at h4
    obtain ⟨rfl, rfl⟩ := h4
    have hx : xs = [] := List.eq_nil_of_length_eq_zero h0
    subst hx
    exact ⟨⟨⟨[], h, by exact hN.1, by have := hN.2; omega⟩, rfl⟩, .inl ⟨rfl, rfl⟩⟩
  · rw [if_neg h0] at h4
    have h5 := of_decide_eq_true h4
    refine ⟨⟨⟨xs, h, by rw [iv_natAbs]; exact hN.1, by have := hN.2; omega⟩, ?_⟩, .inr ⟨?_, h2, h3⟩⟩
    · rw [iv_lt, decide_eq_true (p := 0 < valB B64 xs) (by omega), Bool.and_true]
    · cases s
      · show ((valB B64 xs : Nat) : Int) % 2 = 1; omega
      · show (-((valB B64 xs : Nat) : Int)) % 2 = 1; omega
def formZ (s : Bool) (xs : List Nat) : Bool := formB xs && !(s && decide (xs = []))
theorem formZ_num {w : World} {p : Option Addr} {m c : Nat} {xs : List Nat} {s : Bool} (h : At w p m c xs) (hf : formZ s xs = true) : Num w p m c xs (valB B64 xs) ∧ (s = true → 0 < valB B64 xs) := by
  unfold formZ at hf
  rw [Bool.and_eq_true] at hf
  obtain ⟨hN, hL⟩ := formB_nf hf.1 h.dig
  rw [h.len] at hL
  refine ⟨⟨h, hN, hL⟩, fun hs => ?_⟩
  have h2 := hf.2
  rw [hs] at h2
  simp at h2
  rcases Nat.eq_zero_or_pos (valB B64 xs) with e | e
  · exact absurd ((hN.zero_iff B64_one).2 e) h2
  · exact e
theorem numform_f {p : Option Addr} {n c : Nat} {xs : List Nat} {w : World} (s : Bool) (h : At w p n c xs) (hf : formZ s xs = false) :
    Calls Tryz.prog 65 #[ZV s p n c] w fun e w' => e = .returned (.bool false) ∧ Below w.heap.size w w' := by
  have H : Hid (At w p n c xs) := h
  cases hb : formB xs
  · clear h hf
    go_enter Tryz.func65, Tryz.ntmps65
    go_wp2_with fail
    refine (form_false (H.out.alloc _) hb).mono ?_
    rintro e w' ⟨rfl, hw⟩
    obtain rfl := hw.symm
    clear hw hb
    go_wp2_with fail
    go_ret
    exact ⟨rfl, below1 w _⟩
  · have hs : s = true ∧ xs = [] := by
      unfold formZ at hf
      rw [hb] at hf
      simpa using hf
    obtain ⟨rfl, rfl⟩ := hs
    obtain rfl : n = 0 := h.len.symm
    clear h hf
    go_enter Tryz.func65, Tryz.ntmps65
    go_wp2_with fail
    refine (form_true (H.out.alloc _) hb).mono ?_
    rintro e w' ⟨rfl, hw⟩
    obtain rfl := hw.symm
    clear hw hb
    go_wp2_with fail
    go_ret
    exact ⟨rfl, below1 w _⟩
theorem dform_f0 {p : Option Addr} {m c : Nat} {xs : List Nat} {w : World} {e : Int} (s : Bool) (h : At w p m c xs) (hf : formZ s xs = false) :
    Calls Tryz.prog 30 #[DV s p m c e] w fun en w' => en = .returned (.bool false) ∧ Below w.heap.size w w' := by
  have H : Hid (At w p m c xs) := h
  have HF : Hid (formZ s xs = false) := hf
  clear h hf
  go_enter Tryz.func30, Tryz.ntmps30
  go_wp2_with fail
  obtain ⟨W0, hW0⟩ : ∃ W0, W0 = (w.alloc (.cells #[.bool s, .slice p m c, .int .i64 e] 33)) := ⟨_, rfl⟩
  have Xd : Hid (B3q W0 (w.heap.size) (.bool s) (.slice p m c) (.int .i64 e)) := by rw [hW0]; exact ⟨by go_simp, by go_simp, by go_simp, by go_simp, by go_simp, by go_simp⟩
  have hb0 : Below w.heap.size w W0 := by rw [hW0]; exact below1 w _
  rw [← hW0]
  clear hW0
  have hbw : Below w.heap.size w w := Below.refl _ _
  obtain ⟨gd, hgd⟩ : ∃ g, g = w.heap.size := ⟨_, rfl⟩
  have HGd : Hid (w.heap.size ≤ gd) := by rw [hgd]; show _ ≤ _; omega
  rw [← hgd] at Xd
  try rw [← hgd]
  clear hgd
  replace hbw := Below.on hbw hb0
  clear hb0
  refine (numform_f s (H.out.below hbw) HF.out).mono ?_
  rintro e v1 ⟨rfl, hb1⟩
  replace Xd : Hid _ := Xd.out.below hb1
  replace hbw := Below.on hbw hb1
  clear hb1
  obtain ⟨cd0, cd1, cd2, fd0, fd1, fd2⟩ := Xd.out
  have hned : gd < v1.heap.size := World.block_lt_of_cell? v1 _ cd0
  go_wp2_with fail
  clear cd0 cd1 cd2 fd0 fd1 fd2 hned
  go_ret
  exact ⟨rfl, hbw⟩
theorem dform_fz {p : Option Addr} {m c : Nat} {w : World} {z e : Int} {s : Bool} (h : ZN w s p m c z) (hz : z = 0) (he : e ≠ 0) :
    Calls Tryz.prog 30 #[DV s p m c e] w fun en w' => en = .returned (.bool false) ∧ Below w.heap.size w w' := by
  subst hz
  have h1 : (e == 0) = false := by simp [he]
  clear he
  have H : Hid (ZN w s p m c 0) := h
  clear h
  go_enter Tryz.func30, Tryz.ntmps30
  go_wp2_with fail
  obtain ⟨W0, hW0⟩ : ∃ W0, W0 = (w.alloc (.cells #[.bool s, .slice p m c, .int .i64 e] 33)) := ⟨_, rfl⟩
  have Xd : Hid (B3q W0 (w.heap.size) (.bool s) (.slice p m c) (.int .i64 e)) := by rw [hW0]; exact ⟨by go_simp, by go_simp, by go_simp, by go_simp, by go_simp, by go_simp⟩
  have hb0 : Below w.heap.size w W0 := by rw [hW0]; exact below1 w _
  rw [← hW0]
  clear hW0
  have hbw : Below w.heap.size w w := Below.refl _ _
  obtain ⟨gd, hgd⟩ : ∃ g, g = w.heap.size := ⟨_, rfl⟩
  have HGd : Hid (w.heap.size ≤ gd) := by rw [hgd]; show _ ≤ _; omega
  rw [← hgd] at Xd
  try rw [← hgd]
  clear hgd
  replace hbw := Below.on hbw hb0
  clear hb0
  refine (zform (H.out.below hbw)).mono ?_
  rintro e v1 ⟨rfl, hb1⟩
  replace Xd : Hid _ := Xd.out.below hb1
  replace hbw := Below.on hbw hb1
  clear hb1
  obtain ⟨cd0, cd1, cd2, fd0, fd1, fd2⟩ := Xd.out
  have hned : gd < v1.heap.size := World.block_lt_of_cell? v1 _ cd0
  go_wp2_with fail
  clear cd0 cd1 cd2 fd0 fd1 fd2 hned
  refine (zsign (H.out.below hbw)).mono ?_
  rintro e v2 ⟨rfl, hb2⟩
  rw [show sgnI 0 = 0 from rfl]
  replace Xd : Hid _ := Xd.out.below hb2
  replace hbw := Below.on hbw hb2
  clear hb2
  obtain ⟨cd0, cd1, cd2, fd0, fd1, fd2⟩ := Xd.out
  have hned : gd < v2.heap.size := World.block_lt_of_cell? v2 _ cd0
  go_wp2_with fail
  clear cd0 cd1 cd2 fd0 fd1 fd2 hned
  go_ret
  exact ⟨rfl, hbw⟩
theorem dform_fe {p : Option Addr} {m c : Nat} {w : World} {z e : Int} {s : Bool} (h : ZN w s p m c z) (hz : z % 2 = 0 ∧ z ≠ 0) :
    Calls Tryz.prog 30 #[DV s p m c e] w fun en w' => en = .returned (.bool false) ∧ Below w.heap.size w w' := by
  have H : Hid (ZN w s p m c z) := h
  have HZ : Hid (z % 2 = 0 ∧ z ≠ 0) := hz
  clear hz
  clear h
  go_enter Tryz.func30, Tryz.ntmps30
  go_wp2_with fail
  obtain ⟨W0, hW0⟩ : ∃ W0, W0 = (w.alloc (.cells #[.bool s, .slice p m c, .int .i64 e] 33)) := ⟨_, rfl⟩
  have Xd : Hid (B3q W0 (w.heap.size) (.bool s) (.slice p m c) (.int .i64 e)) := by rw [hW0]; exact ⟨by go_simp, by go_simp, by go_simp, by go_simp, by go_simp, by go_simp⟩
  have hb0 : Below w.heap.size w W0 := by rw [hW0]; exact below1 w _
  rw [← hW0]
  clear hW0
  have hbw : Below w.heap.size w w := Below.refl _ _
  obtain ⟨gd, hgd⟩ : ∃ g, g = w.heap.size := ⟨_, rfl⟩
  have HGd : Hid (w.heap.size ≤ gd) := by rw [hgd]; show _ ≤ _; omega
  rw [← hgd] at Xd
  try rw [← hgd]
  clear hgd
  replace hbw := Below.on hbw hb0
  clear hb0
  refine (zform (H.out.below hbw)).mono ?_
  rintro e v1 ⟨rfl, hb1⟩
  replace Xd : Hid _ := Xd.out.below hb1
  replace hbw := Below.on hbw hb1
  clear hb1
  obtain ⟨cd0, cd1, cd2, fd0, fd1, fd2⟩ := Xd.out
  have hned : gd < v1.heap.size := World.block_lt_of_cell? v1 _ cd0
  go_wp2_with fail
  clear cd0 cd1 cd2 fd0 fd1 fd2 hned
  refine (zsign (H.out.below hbw)).mono ?_
  rintro e v2 ⟨rfl, hb2⟩
  obtain ⟨sg, hsg⟩ : ∃ sg, sg = sgnI (z) := ⟨_, rfl⟩
  rw [← hsg]
  have hs0 : (sg == 0) = false := by rw [hsg]; have := HZ.out; unfold sgnI; split <;> (try split) <;> simp <;> omega
  clear hsg
  replace Xd : Hid _ := Xd.out.below hb2
  replace hbw := Below.on hbw hb2
  clear hb2
  obtain ⟨cd0, cd1, cd2, fd0, fd1, fd2⟩ := Xd.out
  have hned : gd < v2.heap.size := World.block_lt_of_cell? v2 _ cd0
  go_wp2_with fail
  clear cd0 cd1 cd2 fd0 fd1 fd2 hned
  obtain ⟨xs, hX⟩ := (H.out.below hbw).ex
  refine (bit_int hX.at_ (by have := hX.le; omega) 0 (by decide)).mono ?_
  rintro e2 v3 ⟨rfl, hw⟩
  obtain rfl := hw.symm
  clear hw
  rw [show bitO (valB B64 xs) 0 = false from by unfold bitO; rw [if_neg (by omega), hX.nf.val]; simp; have := HZ.out; omega]
  clear hX
  obtain ⟨cd0, cd1, cd2, fd0, fd1, fd2⟩ := Xd.out
  have hned : gd < v2.heap.size := World.block_lt_of_cell? v2 _ cd0
  go_wp2_with fail
  clear cd0 cd1 cd2 fd0 fd1 fd2 hned
  go_ret
  exact ⟨rfl, hbw⟩
theorem dform_fl {p : Option Addr} {m c : Nat} {w : World} {z e : Int} {s : Bool} (h : ZN w s p m c z) (hz : z % 2 = 1) (he : e < -1048576) :
    Calls Tryz.prog 30 #[DV s p m c e] w fun en w' => en = .returned (.bool false) ∧ Below w.heap.size w w' := by
  have H : Hid (ZN w s p m c z) := h
  have HZ : Hid (z % 2 = 1) := hz
  have h1 : ¬ (-1048576 : Int) ≤ e := by omega
  clear hz
  clear h
  go_enter Tryz.func30, Tryz.ntmps30
  go_wp2_with fail
  obtain ⟨W0, hW0⟩ : ∃ W0, W0 = (w.alloc (.cells #[.bool s, .slice p m c, .int .i64 e] 33)) := ⟨_, rfl⟩
  have Xd : Hid (B3q W0 (w.heap.size) (.bool s) (.slice p m c) (.int .i64 e)) := by rw [hW0]; exact ⟨by go_simp, by go_simp, by go_simp, by go_simp, by go_simp, by go_simp⟩
  have hb0 : Below w.heap.size w W0 := by rw [hW0]; exact below1 w _
  rw [← hW0]
  clear hW0
  have hbw : Below w.heap.size w w := Below.refl _ _
  obtain ⟨gd, hgd⟩ : ∃ g, g = w.heap.size := ⟨_, rfl⟩
  have HGd : Hid (w.heap.size ≤ gd) := by rw [hgd]; show _ ≤ _; omega
  rw [← hgd] at Xd
  try rw [← hgd]
  clear hgd
  replace hbw := Below.on hbw hb0
  clear hb0
  refine (zform (H.out.below hbw)).mono ?_
  rintro e v1 ⟨rfl, hb1⟩
  replace Xd : Hid _ := Xd.out.below hb1
  replace hbw := Below.on hbw hb1
  clear hb1
  obtain ⟨cd0, cd1, cd2, fd0, fd1, fd2⟩ := Xd.out
  have hned : gd < v1.heap.size := World.block_lt_of_cell? v1 _ cd0
  go_wp2_with fail
  clear cd0 cd1 cd2 fd0 fd1 fd2 hned
  refine (zsign (H.out.below hbw)).mono ?_
  rintro e v2 ⟨rfl, hb2⟩
  obtain ⟨sg, hsg⟩ : ∃ sg, sg = sgnI (z) := ⟨_, rfl⟩
  rw [← hsg]
  have hs0 : (sg == 0) = false := by rw [hsg]; have := HZ.out; unfold sgnI; split <;> (try split) <;> simp <;> omega
  clear hsg
  replace Xd : Hid _ := Xd.out.below hb2
  replace hbw := Below.on hbw hb2
  clear hb2
  obtain ⟨cd0, cd1, cd2, fd0, fd1, fd2⟩ := Xd.out
  have hned : gd < v2.heap.size := World.block_lt_of_cell? v2 _ cd0
  go_wp2_with fail
  clear cd0 cd1 cd2 fd0 fd1 fd2 hned
  obtain ⟨xs, hX⟩ := (H.out.below hbw).ex
  refine (bit_int hX.at_ (by have := hX.le; omega) 0 (by decide)).mono ?_
  rintro e2 v3 ⟨rfl, hw⟩
  obtain rfl := hw.symm
  clear hw
  rw [show bitO (valB B64 xs) 0 = true from by unfold bitO; rw [if_neg (by omega), hX.nf.val]; simp; have := HZ.out; omega]
  clear hX
  obtain ⟨cd0, cd1, cd2, fd0, fd1, fd2⟩ := Xd.out
  have hned : gd < v2.heap.size := World.block_lt_of_cell? v2 _ cd0
  go_wp2_with fail
  clear cd0 cd1 cd2 fd0 fd1 fd2 hned
  go_ret
  exact ⟨rfl, hbw⟩
theorem dform_fh {p : Option Addr} {m c : Nat} {w : World} {z e : Int} {s : Bool} (h : ZN w s p m c z) (hz : z % 2 = 1) (he : 1048576 < e) :
    Calls Tryz.prog 30 #[DV s p m c e] w fun en w' => en = .returned (.bool false) ∧ Below w.heap.size w w' := by
  have H : Hid (ZN w s p m c z) := h
  have HZ : Hid (z % 2 = 1) := hz
  have h1 : (-1048576 : Int) ≤ e := by omega
  have h2 : ¬ e ≤ (1048576 : Int) := by omega
  have h3 : ¬ e < (-1048576 : Int) := by omega
  clear hz
  clear h
  go_enter Tryz.func30, Tryz.ntmps30
  go_wp2_with fail
  obtain ⟨W0, hW0⟩ : ∃ W0, W0 = (w.alloc (.cells #[.bool s, .slice p m c, .int .i64 e] 33)) := ⟨_, rfl⟩
  have Xd : Hid (B3q W0 (w.heap.size) (.bool s) (.slice p m c) (.int .i64 e)) := by rw [hW0]; exact ⟨by go_simp, by go_simp, by go_simp, by go_simp, by go_simp, by go_simp⟩
  have hb0 : Below w.heap.size w W0 := by rw [hW0]; exact below1 w _
  rw [← hW0]
  clear hW0
  have hbw : Below w.heap.size w w := Below.refl _ _
  obtain ⟨gd, hgd⟩ : ∃ g, g = w.heap.size := ⟨_, rfl⟩
  have HGd : Hid (w.heap.size ≤ gd) := by rw [hgd]; show _ ≤ _; omega
  rw [← hgd] at Xd
  try rw [← hgd]
  clear hgd
  replace hbw := Below.on hbw hb0
  clear hb0
  refine (zform (H.out.below hbw)).mono ?_
  rintro e v1 ⟨rfl, hb1⟩
  replace Xd : Hid _ := Xd.out.below hb1
  replace hbw := Below.on hbw hb1
  clear hb1
  obtain ⟨cd0, cd1, cd2, fd0, fd1, fd2⟩ := Xd.out
  have hned : gd < v1.heap.size := World.block_lt_of_cell? v1 _ cd0
  go_wp2_with fail
  clear cd0 cd1 cd2 fd0 fd1 fd2 hned
  refine (zsign (H.out.below hbw)).mono ?_
  rintro e v2 ⟨rfl, hb2⟩
  obtain ⟨sg, hsg⟩ : ∃ sg, sg = sgnI (z) := ⟨_, rfl⟩
  rw [← hsg]
  have hs0 : (sg == 0) = false := by rw [hsg]; have := HZ.out; unfold sgnI; split <;> (try split) <;> simp <;> omega
  clear hsg
  replace Xd : Hid _ := Xd.out.below hb2
  replace hbw := Below.on hbw hb2
  clear hb2
  obtain ⟨cd0, cd1, cd2, fd0, fd1, fd2⟩ := Xd.out
  have hned : gd < v2.heap.size := World.block_lt_of_cell? v2 _ cd0
  go_wp2_with fail
  clear cd0 cd1 cd2 fd0 fd1 fd2 hned
  obtain ⟨xs, hX⟩ := (H.out.below hbw).ex
  refine (bit_int hX.at_ (by have := hX.le; omega) 0 (by decide)).mono ?_
  rintro e2 v3 ⟨rfl, hw⟩
  obtain rfl := hw.symm
  clear hw
  rw [show bitO (valB B64 xs) 0 = true from by unfold bitO; rw [if_neg (by omega), hX.nf.val]; simp; have := HZ.out; omega]
  clear hX
  obtain ⟨cd0, cd1, cd2, fd0, fd1, fd2⟩ := Xd.out
  have hned : gd < v2.heap.size := World.block_lt_of_cell? v2 _ cd0
  go_wp2_with fail
  clear cd0 cd1 cd2 fd0 fd1 fd2 hned
  go_ret
  refine ⟨?_, hbw⟩
  show Ending.returned (.bool (decide (e ≤ 1048576))) = _
  rw [decide_eq_false (by omega)]
theorem dform_f {p : Option Addr} {m c : Nat} {xs : List Nat} {w : World} {e : Int} (s : Bool) (h : At w p m c xs) (hf : formD s xs e = false) :
    Calls Tryz.prog 30 #[DV s p m c e] w fun en w' => en = .returned (.bool false) ∧ Below w.heap.size w w' := by
  cases hz : formZ s xs
  · exact dform_f0 s h hz
  obtain ⟨hN, hs⟩ := formZ_num h hz
  have hZ : ZN w s p m c (iv s (valB B64 xs)) := ZN.of hN hs
  unfold formZ at hz
  rw [Bool.and_eq_true] at hz
  unfold formD at hf
  rw [hz.1, Bool.true_and] at hf
  have hv := val_mod2 xs
  by_cases h0 : xs.length = 0
  · have hx : xs = [] := List.length_eq_zero_iff.1 h0
    subst hx
    have hs2 : s = false := by
      have := hz.2
      cases s
      · rfl
      · simp at this
    subst hs2
    refine dform_fz hZ rfl ?_
    intro h9
    subst h9
    simp at hf
  · rw [if_neg h0] at hf
    have hne : valB B64 xs ≠ 0 := by
      intro h9
      have h8 := hN.zero
      have h7 := hN.at_.len
      rw [h9] at h8
      have := h8.2 rfl
      omega
    by_cases h5 : xs.getD 0 0 % 2 = 1
    · rw [decide_eq_true h5, Bool.and_true] at hf
      have ho : iv s (valB B64 xs) % 2 = 1 := by cases s <;> simp only [iv] <;> simp <;> omega
      rcases Int.lt_or_le e (-1048576) with h6 | h6
      · exact dform_fl hZ ho h6
      · rcases Int.lt_or_le 1048576 e with h7 | h7
        · exact dform_fh hZ ho h7
        · rw [decide_eq_true h6, decide_eq_true h7] at hf
          exact absurd hf (by decide)
    · refine dform_fe hZ ?_
      cases s <;> simp only [iv] <;> simp <;> omega
structure Pm (f p m l : Int) (S I H : Nat) : Prop where
  fm : Fm f p m l S I
  pt : ∀ (s : Nat) w, s < S → Calls Tryz.prog 77 #[WV p m l, U s] w fun e w' => e = .returned (.tuple #[U (s - (s / H - 1) * H), .int .i64 (l + ((s / H - 1 : Nat) : Int))]) ∧ Below w.heap.size w w'
  hp : 0 < H
  h2 : 2 * H ≤ I
  h9 : 2 * H ≤ 9007199254740992
  lo : -1074 ≤ l ∧ l ≤ -149
  st : ∀ s, s < I → s / H - 1 ≤ 2045
theorem pm_32 : Pm 32 32 24 (-149) 2147483648 2139095040 8388608 :=
  ⟨fm_32, fun s w hs => parts_32 s _ _ rfl rfl hs w, by decide, by decide, by decide, by decide, fun s hs => by omega⟩
theorem pm_64 : Pm 64 64 53 (-1074) 9223372036854775808 9218868437227405312 4503599627370496 :=
  ⟨fm_64, fun s w hs => parts_64 s _ _ rfl rfl hs w, by decide, by decide, by decide, by decide, fun s hs => by omega⟩
theorem beyond_32 (w : World) : Calls Tryz.prog 47 #[WV 32 24 (-149)] w fun e w' => e = .returned (.int .i64 128) ∧ Below w.heap.size w w' := by
  go_enter Tryz.func47, Tryz.ntmps47
  go_wp2_with fail
  have X0 : B3 (w.alloc (.cells #[.int .i64 32, .int .i64 24, .int .i64 (-149)] 47)) w.heap.size (.int .i64 32) (.int .i64 24) (.int .i64 (-149)) := B3.new ..
  have hb0 : Below w.heap.size w (w.alloc (.cells #[.int .i64 32, .int .i64 24, .int .i64 (-149)] 47)) := bwAlloc w _
  generalize w.alloc (.cells #[.int .i64 32, .int .i64 24, .int .i64 (-149)] 47) = W at *
  obtain ⟨g, hg⟩ : ∃ g, g = w.heap.size := ⟨_, rfl⟩
  rw [← hg] at X0 ⊢
  clear hg
  have XB : Hid (B3 W.drew g (.int .i64 32) (.int .i64 24) (.int .i64 (-149))) := X0.drew
  have HBW : Hid (Below w.heap.size w W.drew) := bwDrew hb0
  have XW : Hid (B3 W g (.int .i64 32) (.int .i64 24) (.int .i64 (-149))) := X0
  have HB0 : Hid (Below w.heap.size w W) := hb0
  clear X0 hb0
  refine wp_region_J (fun W' => B3 W' g (.int .i64 32) (.int .i64 24) (.int .i64 (-149))) (by kernel_rfl) ?_
  refine wpJ_take (i := 0) (v := ?v1x0) rfl (by kernel_rfl) (by kernel_rfl) (by kernel_rfl) (fun _ _ _ h => h) (by rfl) ?hy1x0 XB.out ?rest1x0
  case hy1x0 => (intro W' hJ; obtain ⟨c0, c1, c2, c3, c4, c5⟩ := hJ; go_simp; first | done | with_reducible rfl)
  refine wpJ_take (i := 2) (v := ?v2x2) rfl (by kernel_rfl) (by kernel_rfl) (by kernel_rfl) (fun _ _ _ h => h) (by rfl) ?hy2x2 XB.out ?rest2x2
  case hy2x2 => (intro W' hJ; obtain ⟨c0, c1, c2, c3, c4, c5⟩ := hJ; go_simp; first | done | with_reducible rfl)
  refine wpJ_on 1 rfl fun K hK => ?_
  go_simp
  refine (infinity_32 _).mono ?_
  rintro e w1 ⟨rfl, hb1⟩
  have Xw1 : Hid (B3 w1 g (.int .i64 32) (.int .i64 24) (.int .i64 (-149))) := XB.out.below hb1
  have HBw1 : Hid (Below w.heap.size w w1) := bwOn HBW.out hb1
  clear hb1
  refine hK _ _ Xw1.out ?_
  clear hK
  refine wpJ_on 3 rfl fun K hK => ?_
  go_simp
  refine (stored_32 _).mono ?_
  rintro e w2 ⟨rfl, hb2⟩
  have Xw2 : Hid (B3 w2 g (.int .i64 32) (.int .i64 24) (.int .i64 (-149))) := Xw1.out.below hb2
  have HBw2 : Hid (Below w.heap.size w w2) := bwOn HBw1.out hb2
  clear hb2
  refine hK _ _ Xw2.out ?_
  clear hK
  refine wpJ_take (i := 4) (v := ?v3x4) rfl (by kernel_rfl) (by kernel_rfl) (by kernel_rfl) (fun _ _ _ h => h) (by rfl) ?hy3x4 Xw2.out ?rest3x4
  case hy3x4 => (intro W' hJ; obtain ⟨c0, c1, c2, c3, c4, c5⟩ := hJ; go_simp; first | done | with_reducible rfl)
  refine wpJ_take (i := 5) (v := ?v4x5) rfl (by kernel_rfl) (by kernel_rfl) (by kernel_rfl) (fun _ _ _ h => h) (by rfl) ?hy4x5 Xw2.out ?rest4x5
  case hy4x5 => (intro W' hJ; obtain ⟨c0, c1, c2, c3, c4, c5⟩ := hJ; go_simp; first | done | with_reducible rfl)
  refine wpJ_take (i := 6) (v := ?v5x6) rfl (by kernel_rfl) (by kernel_rfl) (by kernel_rfl) (fun _ _ _ h => h) (by rfl) ?hy5x6 Xw2.out ?rest5x6
  case hy5x6 => (intro W' hJ; obtain ⟨c0, c1, c2, c3, c4, c5⟩ := hJ; go_simp; first | done | with_reducible rfl)
  refine wpJ_done (by kernel_rfl) ?_ _
  clear XB HBW XW HB0 Xw1 HBw1
  have XB : Hid (B3 w2.drew g (.int .i64 32) (.int .i64 24) (.int .i64 (-149))) := Xw2.out.drew
  have HBW : Hid (Below w.heap.size w w2.drew) := bwDrew HBw2.out
  have hwr : IntKind.i64.wrap 255 = 255 := by decide
  go_wp2_with fail
  refine wp_region_J (fun W' => B3 W' g (.int .i64 32) (.int .i64 24) (.int .i64 (-149))) (by kernel_rfl) ?_
  refine wpJ_take (i := 0) (v := ?v6x0) rfl (by kernel_rfl) (by kernel_rfl) (by kernel_rfl) (fun _ _ _ h => h) (by rfl) ?hy6x0 XB.out ?rest6x0
  case hy6x0 => (intro W' hJ; obtain ⟨c0, c1, c2, c3, c4, c5⟩ := hJ; go_simp; first | done | with_reducible rfl)
  refine wpJ_take (i := 1) (v := ?v7x1) rfl (by kernel_rfl) (by kernel_rfl) (by kernel_rfl) (fun _ _ _ h => h) (by rfl) ?hy7x1 XB.out ?rest7x1
  case hy7x1 => (intro W' hJ; obtain ⟨c0, c1, c2, c3, c4, c5⟩ := hJ; go_simp; first | done | with_reducible rfl)
  refine wpJ_take (i := 2) (v := ?v8x2) rfl (by kernel_rfl) (by kernel_rfl) (by kernel_rfl) (fun _ _ _ h => h) (by rfl) ?hy8x2 XB.out ?rest8x2
  case hy8x2 => (intro W' hJ; obtain ⟨c0, c1, c2, c3, c4, c5⟩ := hJ; go_simp; first | done | with_reducible rfl)
  refine wpJ_take (i := 3) (v := ?v9x3) rfl (by kernel_rfl) (by kernel_rfl) (by kernel_rfl) (fun _ _ _ h => h) (by rfl) ?hy9x3 XB.out ?rest9x3
  case hy9x3 => (intro W' hJ; obtain ⟨c0, c1, c2, c3, c4, c5⟩ := hJ; go_simp; first | done | with_reducible rfl)
  refine wpJ_take (i := 4) (v := ?v10x4) rfl (by kernel_rfl) (by kernel_rfl) (by kernel_rfl) (fun _ _ _ h => h) (by rfl) ?hy10x4 XB.out ?rest10x4
  case hy10x4 => (intro W' hJ; obtain ⟨c0, c1, c2, c3, c4, c5⟩ := hJ; go_simp; first | done | with_reducible rfl)
  refine wpJ_take (i := 5) (v := ?v11x5) rfl (by kernel_rfl) (by kernel_rfl) (by kernel_rfl) (fun _ _ _ h => h) (by rfl) ?hy11x5 XB.out ?rest11x5
  case hy11x5 => (intro W' hJ; obtain ⟨c0, c1, c2, c3, c4, c5⟩ := hJ; go_simp; first | done | with_reducible rfl)
  refine wpJ_on 6 rfl fun K hK => ?_
  go_simp
  refine (stored_32 _).mono ?_
  rintro e w3 ⟨rfl, hb3⟩
  have Xw3 : Hid (B3 w3 g (.int .i64 32) (.int .i64 24) (.int .i64 (-149))) := XB.out.below hb3
  have HBw3 : Hid (Below w.heap.size w w3) := bwOn HBW.out hb3
  clear hb3
  refine hK _ _ Xw3.out ?_
  clear hK
  refine wpJ_take (i := 7) (v := ?v12x7) rfl (by kernel_rfl) (by kernel_rfl) (by kernel_rfl) (fun _ _ _ h => h) (by rfl) ?hy12x7 Xw3.out ?rest12x7
  case hy12x7 => (intro W' hJ; obtain ⟨c0, c1, c2, c3, c4, c5⟩ := hJ; go_simp; first | done | with_reducible rfl)
  refine wpJ_take (i := 8) (v := ?v13x8) rfl (by kernel_rfl) (by kernel_rfl) (by kernel_rfl) (fun _ _ _ h => h) (by rfl) ?hy13x8 Xw3.out ?rest13x8
  case hy13x8 => (intro W' hJ; obtain ⟨c0, c1, c2, c3, c4, c5⟩ := hJ; go_simp; first | done | with_reducible rfl)
  refine wpJ_done (by kernel_rfl) ?_ _
  go_wp2_with fail
  go_ret
  exact ⟨rfl, HBw3.out⟩
theorem unitg_64 (top : Int) (h1 : -1000000000000 ≤ top) (h2 : top ≤ 5000) (w : World) : Calls Tryz.prog 48 #[WV 64 53 (-1074), .int .i64 top] w fun e w' => e = .returned (.int .i64 (max (top - 52) (-1074))) ∧ Below w.heap.size w w' := by
  obtain ⟨r0, hr0⟩ : ∃ r, r = top - 52 := ⟨_, rfl⟩
  obtain ⟨r, hr⟩ : ∃ r, r = max (top - 52) (-1074) := ⟨_, rfl⟩
  have e1 : IntKind.i64.wrap (top - 52) = r0 := by rw [hr0]; simp [IntKind.wrap, IntKind.signed, IntKind.bits]; omega
  have e2 : max r0 (-1074) = r := by omega
  rw [← hr]
  clear hr hr0 h1 h2
  go_enter Tryz.func48, Tryz.ntmps48
  go_wp2_with fail
  have X0 : B3 (w.alloc (.cells #[.int .i64 64, .int .i64 53, .int .i64 (-1074)] 47)) w.heap.size (.int .i64 64) (.int .i64 53) (.int .i64 (-1074)) := B3.new ..
  have hb0 : Below w.heap.size w (w.alloc (.cells #[.int .i64 64, .int .i64 53, .int .i64 (-1074)] 47)) := bwAlloc w _
  generalize w.alloc (.cells #[.int .i64 64, .int .i64 53, .int .i64 (-1074)] 47) = W at *
  obtain ⟨g, hg⟩ : ∃ g, g = w.heap.size := ⟨_, rfl⟩
  rw [← hg] at X0 ⊢
  clear hg
  have XB : Hid (B3 W.drew g (.int .i64 64) (.int .i64 53) (.int .i64 (-1074))) := X0.drew
  have HBW : Hid (Below w.heap.size w W.drew) := bwDrew hb0
  have XW : Hid (B3 W g (.int .i64 64) (.int .i64 53) (.int .i64 (-1074))) := X0
  have HB0 : Hid (Below w.heap.size w W) := hb0
  clear X0 hb0
  refine wp_region_J (fun W' => B3 W' g (.int .i64 64) (.int .i64 53) (.int .i64 (-1074))) (by kernel_rfl) ?_
  refine wpJ_take (i := 0) (v := ?v14x0) rfl (by kernel_rfl) (by kernel_rfl) (by kernel_rfl) (fun _ _ _ h => h) (by rfl) ?hy14x0 XB.out ?rest14x0
  case hy14x0 => (intro W' hJ; obtain ⟨c0, c1, c2, c3, c4, c5⟩ := hJ; go_simp; first | done | with_reducible rfl)
  refine wpJ_take (i := 1) (v := ?v15x1) rfl (by kernel_rfl) (by kernel_rfl) (by kernel_rfl) (fun _ _ _ h => h) (by rfl) ?hy15x1 XB.out ?rest15x1
  case hy15x1 => (intro W' hJ; obtain ⟨c0, c1, c2, c3, c4, c5⟩ := hJ; go_simp; first | done | with_reducible rfl)
  refine wpJ_take (i := 4) (v := ?v16x4) rfl (by kernel_rfl) (by kernel_rfl) (by kernel_rfl) (fun _ _ _ h => h) (by rfl) ?hy16x4 XB.out ?rest16x4
  case hy16x4 => (intro W' hJ; obtain ⟨c0, c1, c2, c3, c4, c5⟩ := hJ; go_simp; first | done | with_reducible rfl)
  refine wpJ_take (i := 5) (v := ?v17x5) rfl (by kernel_rfl) (by kernel_rfl) (by kernel_rfl) (fun _ _ _ h => h) (by rfl) ?hy17x5 XB.out ?rest17x5
  case hy17x5 => (intro W' hJ; obtain ⟨c0, c1, c2, c3, c4, c5⟩ := hJ; go_simp; first | done | with_reducible rfl)
  refine wpJ_on 2 rfl fun K hK => ?_
  go_simp
  refine (stored_64 _).mono ?_
  rintro e w2 ⟨rfl, hb2⟩
  have Xw2 : Hid (B3 w2 g (.int .i64 64) (.int .i64 53) (.int .i64 (-1074))) := XB.out.below hb2
  have HBw2 : Hid (Below w.heap.size w w2) := bwOn HBW.out hb2
  clear hb2
  refine hK _ _ Xw2.out ?_
  clear hK
  refine wpJ_take (i := 3) (v := ?v18x3) rfl (by kernel_rfl) (by kernel_rfl) (by kernel_rfl) (fun _ _ _ h => h) (by rfl) ?hy18x3 Xw2.out ?rest18x3
  case hy18x3 => (intro W' hJ; obtain ⟨c0, c1, c2, c3, c4, c5⟩ := hJ; go_simp; first | done | with_reducible rfl)
  refine wpJ_take (i := 6) (v := ?v19x6) rfl (by kernel_rfl) (by kernel_rfl) (by kernel_rfl) (fun _ _ _ h => h) (by rfl) ?hy19x6 Xw2.out ?rest19x6
  case hy19x6 => (intro W' hJ; obtain ⟨c0, c1, c2, c3, c4, c5⟩ := hJ; go_simp; first | done | with_reducible rfl)
  refine wpJ_take (i := 7) (v := ?v20x7) rfl (by kernel_rfl) (by kernel_rfl) (by kernel_rfl) (fun _ _ _ h => h) (by rfl) ?hy20x7 Xw2.out ?rest20x7
  case hy20x7 => (intro W' hJ; obtain ⟨c0, c1, c2, c3, c4, c5⟩ := hJ; go_simp; first | done | with_reducible rfl)
  refine wpJ_done (by kernel_rfl) ?_ _
  clear XB HBW XW HB0
  go_wp2_with fail
  go_ret
  exact ⟨rfl, HBw2.out⟩
theorem unitg_32 (top : Int) (h1 : -1000000000000 ≤ top) (h2 : top ≤ 5000) (w : World) : Calls Tryz.prog 48 #[WV 32 24 (-149), .int .i64 top] w fun e w' => e = .returned (.int .i64 (max (top - 23) (-149))) ∧ Below w.heap.size w w' := by
  obtain ⟨r0, hr0⟩ : ∃ r, r = top - 23 := ⟨_, rfl⟩
  obtain ⟨r, hr⟩ : ∃ r, r = max (top - 23) (-149) := ⟨_, rfl⟩
  have e1 : IntKind.i64.wrap (top - 23) = r0 := by rw [hr0]; simp [IntKind.wrap, IntKind.signed, IntKind.bits]; omega
  have e2 : max r0 (-149) = r := by omega
  rw [← hr]
  clear hr hr0 h1 h2
  go_enter Tryz.func48, Tryz.ntmps48
  go_wp2_with fail
  have X0 : B3 (w.alloc (.cells #[.int .i64 32, .int .i64 24, .int .i64 (-149)] 47)) w.heap.size (.int .i64 32) (.int .i64 24) (.int .i64 (-149)) := B3.new ..
  have hb0 : Below w.heap.size w (w.alloc (.cells #[.int .i64 32, .int .i64 24, .int .i64 (-149)] 47)) := bwAlloc w _
  generalize w.alloc (.cells #[.int .i64 32, .int .i64 24, .int .i64 (-149)] 47) = W at *
  obtain ⟨g, hg⟩ : ∃ g, g = w.heap.size := ⟨_, rfl⟩
  rw [← hg] at X0 ⊢
  clear hg
  have XB : Hid (B3 W.drew g (.int .i64 32) (.int .i64 24) (.int .i64 (-149))) := X0.drew
  have HBW : Hid (Below w.heap.size w W.drew) := bwDrew hb0
  have XW : Hid (B3 W g (.int .i64 32) (.int .i64 24) (.int .i64 (-149))) := X0
  have HB0 : Hid (Below w.heap.size w W) := hb0
  clear X0 hb0
  refine wp_region_J (fun W' => B3 W' g (.int .i64 32) (.int .i64 24) (.int .i64 (-149))) (by kernel_rfl) ?_
  refine wpJ_take (i := 0) (v := ?v14x0) rfl (by kernel_rfl) (by kernel_rfl) (by kernel_rfl) (fun _ _ _ h => h) (by rfl) ?hy14x0 XB.out ?rest14x0
  case hy14x0 => (intro W' hJ; obtain ⟨c0, c1, c2, c3, c4, c5⟩ := hJ; go_simp; first | done | with_reducible rfl)
  refine wpJ_take (i := 1) (v := ?v15x1) rfl (by kernel_rfl) (by kernel_rfl) (by kernel_rfl) (fun _ _ _ h => h) (by rfl) ?hy15x1 XB.out ?rest15x1
  case hy15x1 => (intro W' hJ; obtain ⟨c0, c1, c2, c3, c4, c5⟩ := hJ; go_simp; first | done | with_reducible rfl)
  refine wpJ_take (i := 4) (v := ?v16x4) rfl (by kernel_rfl) (by kernel_rfl) (by kernel_rfl) (fun _ _ _ h => h) (by rfl) ?hy16x4 XB.out ?rest16x4
  case hy16x4 => (intro W' hJ; obtain ⟨c0, c1, c2, c3, c4, c5⟩ := hJ; go_simp; first | done | with_reducible rfl)
  refine wpJ_take (i := 5) (v := ?v17x5) rfl (by kernel_rfl) (by kernel_rfl) (by kernel_rfl) (fun _ _ _ h => h) (by rfl) ?hy17x5 XB.out ?rest17x5
  case hy17x5 => (intro W' hJ; obtain ⟨c0, c1, c2, c3, c4, c5⟩ := hJ; go_simp; first | done | with_reducible rfl)
  refine wpJ_on 2 rfl fun K hK => ?_
  go_simp
  refine (stored_32 _).mono ?_
  rintro e w2 ⟨rfl, hb2⟩
  have Xw2 : Hid (B3 w2 g (.int .i64 32) (.int .i64 24) (.int .i64 (-149))) := XB.out.below hb2
  have HBw2 : Hid (Below w.heap.size w w2) := bwOn HBW.out hb2
  clear hb2
  refine hK _ _ Xw2.out ?_
  clear hK
  refine wpJ_take (i := 3) (v := ?v18x3) rfl (by kernel_rfl) (by kernel_rfl) (by kernel_rfl) (fun _ _ _ h => h) (by rfl) ?hy18x3 Xw2.out ?rest18x3
  case hy18x3 => (intro W' hJ; obtain ⟨c0, c1, c2, c3, c4, c5⟩ := hJ; go_simp; first | done | with_reducible rfl)
  refine wpJ_take (i := 6) (v := ?v19x6) rfl (by kernel_rfl) (by kernel_rfl) (by kernel_rfl) (fun _ _ _ h => h) (by rfl) ?hy19x6 Xw2.out ?rest19x6
  case hy19x6 => (intro W' hJ; obtain ⟨c0, c1, c2, c3, c4, c5⟩ := hJ; go_simp; first | done | with_reducible rfl)
  refine wpJ_take (i := 7) (v := ?v20x7) rfl (by kernel_rfl) (by kernel_rfl) (by kernel_rfl) (fun _ _ _ h => h) (by rfl) ?hy20x7 Xw2.out ?rest20x7
  case hy20x7 => (intro W' hJ; obtain ⟨c0, c1, c2, c3, c4, c5⟩ := hJ; go_simp; first | done | with_reducible rfl)
  refine wpJ_done (by kernel_rfl) ?_ _
  clear XB HBW XW HB0
  go_wp2_with fail
  go_ret
  exact ⟨rfl, HBw2.out⟩
theorem size_32 (man q : Nat) (u : Int) (hu : u = (q : Int) - 149) (hq : q < 2048) (hm : man ≤ 16777216) (w : World) : Calls Tryz.prog 49 #[WV 32 24 (-149), U man, .int .i64 u] w fun e w' => e = .returned (U (q * 8388608 + man)) ∧ Below w.heap.size w w' := by
  obtain ⟨r, hr⟩ : ∃ r, r = q * 8388608 + man := ⟨_, rfl⟩
  obtain ⟨y, hy⟩ : ∃ y, y = q * 8388608 := ⟨_, rfl⟩
  rw [← hr]
  have e1 : IntKind.i64.wrap (u - -149) = (q : Int) := by simp [IntKind.wrap, IntKind.signed, IntKind.bits]; omega
  have e1' : IntKind.i64.wrap (u + 149) = (q : Int) := by simp [IntKind.wrap, IntKind.signed, IntKind.bits]; omega
  have e2 : IntKind.u64.wrap (q : Int) = (q : Int) := by rw [IntKind.wrap_u64]; omega
  have e3 : IntKind.u64.wrap ((q : Int) * 8388608) = (y : Int) := by rw [IntKind.wrap_u64]; omega
  have e4 : IntKind.u64.wrap ((y : Int) + (man : Int)) = (r : Int) := by rw [IntKind.wrap_u64]; omega
  clear hr hy hq hm hu
  go_enter Tryz.func49, Tryz.ntmps49
  go_wp2_with fail
  have X0 : B3 (w.alloc (.cells #[.int .i64 32, .int .i64 24, .int .i64 (-149)] 47)) w.heap.size (.int .i64 32) (.int .i64 24) (.int .i64 (-149)) := B3.new ..
  have hb0 : Below w.heap.size w (w.alloc (.cells #[.int .i64 32, .int .i64 24, .int .i64 (-149)] 47)) := bwAlloc w _
  generalize w.alloc (.cells #[.int .i64 32, .int .i64 24, .int .i64 (-149)] 47) = W at *
  obtain ⟨g, hg⟩ : ∃ g, g = w.heap.size := ⟨_, rfl⟩
  rw [← hg] at X0 ⊢
  clear hg
  have XB : Hid (B3 W.drew g (.int .i64 32) (.int .i64 24) (.int .i64 (-149))) := X0.drew
  have HBW : Hid (Below w.heap.size w W.drew) := bwDrew hb0
  have XW : Hid (B3 W g (.int .i64 32) (.int .i64 24) (.int .i64 (-149))) := X0
  have HB0 : Hid (Below w.heap.size w W) := hb0
  clear X0 hb0
  refine wp_region_J (fun W' => B3 W' g (.int .i64 32) (.int .i64 24) (.int .i64 (-149))) (by kernel_rfl) ?_
  refine wpJ_take (i := 0) (v := ?v21x0) rfl (by kernel_rfl) (by kernel_rfl) (by kernel_rfl) (fun _ _ _ h => h) (by rfl) ?hy21x0 XB.out ?rest21x0
  case hy21x0 => (intro W' hJ; obtain ⟨c0, c1, c2, c3, c4, c5⟩ := hJ; go_simp; first | done | with_reducible rfl)
  refine wpJ_take (i := 1) (v := ?v22x1) rfl (by kernel_rfl) (by kernel_rfl) (by kernel_rfl) (fun _ _ _ h => h) (by rfl) ?hy22x1 XB.out ?rest22x1
  case hy22x1 => (intro W' hJ; obtain ⟨c0, c1, c2, c3, c4, c5⟩ := hJ; go_simp; first | done | with_reducible rfl)
  refine wpJ_take (i := 2) (v := ?v23x2) rfl (by kernel_rfl) (by kernel_rfl) (by kernel_rfl) (fun _ _ _ h => h) (by rfl) ?hy23x2 XB.out ?rest23x2
  case hy23x2 => (intro W' hJ; obtain ⟨c0, c1, c2, c3, c4, c5⟩ := hJ; go_simp; first | done | with_reducible rfl)
  refine wpJ_take (i := 3) (v := ?v24x3) rfl (by kernel_rfl) (by kernel_rfl) (by kernel_rfl) (fun _ _ _ h => h) (by rfl) ?hy24x3 XB.out ?rest24x3
  case hy24x3 => (intro W' hJ; obtain ⟨c0, c1, c2, c3, c4, c5⟩ := hJ; go_simp; first | done | with_reducible rfl)
  refine wpJ_take (i := 4) (v := ?v25x4) rfl (by kernel_rfl) (by kernel_rfl) (by kernel_rfl) (fun _ _ _ h => h) (by rfl) ?hy25x4 XB.out ?rest25x4
  case hy25x4 => (intro W' hJ; obtain ⟨c0, c1, c2, c3, c4, c5⟩ := hJ; go_simp; first | done | with_reducible rfl)
  refine wpJ_take (i := 5) (v := ?v26x5) rfl (by kernel_rfl) (by kernel_rfl) (by kernel_rfl) (fun _ _ _ h => h) (by rfl) ?hy26x5 XB.out ?rest26x5
  case hy26x5 => (intro W' hJ; obtain ⟨c0, c1, c2, c3, c4, c5⟩ := hJ; go_simp; first | done | with_reducible rfl)
  refine wpJ_take (i := 8) (v := ?v27x8) rfl (by kernel_rfl) (by kernel_rfl) (by kernel_rfl) (fun _ _ _ h => h) (by rfl) ?hy27x8 XB.out ?rest27x8
  case hy27x8 => (intro W' hJ; obtain ⟨c0, c1, c2, c3, c4, c5⟩ := hJ; go_simp; first | done | with_reducible rfl)
  refine wpJ_on 6 rfl fun K hK => ?_
  go_simp
  refine (stored_32 _).mono ?_
  rintro e w2 ⟨rfl, hb2⟩
  have Xw2 : Hid (B3 w2 g (.int .i64 32) (.int .i64 24) (.int .i64 (-149))) := XB.out.below hb2
  have HBw2 : Hid (Below w.heap.size w w2) := bwOn HBW.out hb2
  clear hb2
  refine hK _ _ Xw2.out ?_
  clear hK
  refine wpJ_take (i := 7) (v := ?v28x7) rfl (by kernel_rfl) (by kernel_rfl) (by kernel_rfl) (fun _ _ _ h => h) (by rfl) ?hy28x7 Xw2.out ?rest28x7
  case hy28x7 => (intro W' hJ; obtain ⟨c0, c1, c2, c3, c4, c5⟩ := hJ; go_simp; first | done | with_reducible rfl)
  refine wpJ_take (i := 9) (v := ?v29x9) rfl (by kernel_rfl) (by kernel_rfl) (by kernel_rfl) (fun _ _ _ h => h) (by rfl) ?hy29x9 Xw2.out ?rest29x9
  case hy29x9 => (intro W' hJ; obtain ⟨c0, c1, c2, c3, c4, c5⟩ := hJ; go_simp; first | done | with_reducible rfl)
  refine wpJ_take (i := 10) (v := ?v30x10) rfl (by kernel_rfl) (by kernel_rfl) (by kernel_rfl) (fun _ _ _ h => h) (by rfl) ?hy30x10 Xw2.out ?rest30x10
  case hy30x10 => (intro W' hJ; obtain ⟨c0, c1, c2, c3, c4, c5⟩ := hJ; go_simp; first | done | with_reducible rfl)
  refine wpJ_done (by kernel_rfl) ?_ _
  clear XB HBW XW HB0
  go_wp2_with fail
  go_ret
  exact ⟨rfl, HBw2.out⟩
def Says (fn : FuncId) (x y : Value) (v u : Value) : Prop := ∀ w, Calls Tryz.prog fn #[x, y] w fun e w' => e = .returned (.tuple #[v, u]) ∧ Below w.heap.size w w'
variable {f p m l P E G : Int} {S I Q : Nat}
theorem Says.cast {fn : FuncId} {x y v u : Value} {v' : Value} (h : Says fn x y v u) (e : v = v') : Says fn x y v' u := e ▸ h
theorem dn_formD {p : Option Addr} {m c : Nat} {xs : List Nat} {w : World} {z e : Int} {s : Bool} (h : DN w s p m c e z) (hX : Num w p m c xs z.natAbs) : formD s xs e = true := by
  have h1 := hX.nf.form (by rw [hX.at_.len]; exact hX.le)
  have hv := val_mod2 xs
  have hval : valB B64 xs = z.natAbs := hX.nf.val
  have hsg := h.zn.sg
  unfold formD
  rcases h.fm with ⟨h2, h3⟩ | ⟨h2, h3, h4⟩
  · subst h2
    subst h3
    have hx : xs = [] := (hX.nf.zero_iff B64_one).2 rfl
    subst hx
    rw [h1, hsg]
    rfl
  · have h0 : ¬ xs.length = 0 := by
      intro e0
      have hx : xs = [] := List.eq_nil_of_length_eq_zero e0
      subst hx
      have : z.natAbs = 0 := hval.symm
      omega
    rw [h1, decide_eq_true h3, decide_eq_true h4, if_neg h0, decide_eq_true (p := xs.getD 0 0 % 2 = 1) (by omega)]
    rfl
structure RSubR (w : World) (g N : Nat) (xs ys : List Nat) (i ow : Nat) (ss : List Nat) (wr : World) : Prop where
  bel : Below g w wr
  own : wr.ownsRow g 171 1 (.slice (some ⟨g, 0, none⟩) i N) i (cellsV ss)
  len : ss.length = i
  dig : Dig B32 ss
  car : ow ≤ 1
  sum : valB B32 ss + valB B32 (ys.take i) = valB B32 (xs.take i) + B32 ^ i * ow
theorem RSubR.at_ {w : World} {g N : Nat} {xs ys : List Nat} {i cy : Nat} {ss : List Nat} {wr : World} (h : RSubR w g N xs ys i cy ss wr) : At32 wr (some ⟨g, 0, none⟩) i N ss := by
  rcases h.own.2 with ⟨h', _⟩ | ⟨g', cap', cur, h', hbase, hgc, hcap', hmx, hsz, htake⟩
  · simp at h'
  · simp only [Value.slice.injEq, Option.some.injEq, Addr.mk.injEq, and_true, true_and] at h'
    obtain ⟨rfl, rfl⟩ := h'
    refine ⟨h.len, hcap', hmx, h.dig, .inr ⟨g, 0, rfl, fun jj hj => ?_⟩⟩
    rw [Nat.zero_add, cell_of_row wr g jj _ _ _ hgc]
    have e1 := cellsV_get ss jj (by rw [h.len]; exact hj)
    rw [← htake, Nat.mul_one, List.getElem?_take, if_pos hj] at e1
    rw [← Array.getElem?_toList]; exact e1
structure ZR (w : World) (s : Bool) (p : Option Addr) (m : Nat) (z : Int) : Prop where
  ex : ∃ zs, At32 w p m m zs ∧ Nf B32 zs z.natAbs
  sg : s = decide (z < 0)
theorem ZR.below {w w' : World} {s : Bool} {p : Option Addr} {m : Nat} {z : Int} (h : ZR w s p m z) (hb : Below w.heap.size w w') : ZR w' s p m z := by
  obtain ⟨zs, hA, hN⟩ := h.ex
  exact ⟨⟨zs, hA.below hb, hN⟩, h.sg⟩
theorem ZR.cast {w : World} {s : Bool} {p : Option Addr} {m : Nat} {z z' : Int} (h : ZR w s p m z) (e : z = z') : ZR w s p m z' := e ▸ h
theorem ZR.zero {w : World} {s : Bool} {p : Option Addr} {m : Nat} {z : Int} (h : ZR w s p m z) : m = 0 ↔ z = 0 := by
  obtain ⟨zs, hA, hN⟩ := h.ex
  have h1 := hN.zero_iff B32_one
  have h2 := hA.len
  constructor
  · intro e
    have := h1.1 (List.eq_nil_of_length_eq_zero (by omega))
    omega
  · intro e
    have := h1.2 (by omega)
    rw [← h2, this]; rfl
theorem ZR.iv {w : World} {s : Bool} {p : Option Addr} {m : Nat} {z : Int} (h : ZR w s p m z) : Go.Proofs.YtfmbifocgljieaaGreatDoor.iv s z.natAbs = z := by rw [h.sg]; exact iv_abs z
def GotR (B : Nat) (w' : World) (v : Value) (z : Int) (L : Nat) : Prop := ∃ s g m, v = .agg #[.bool s, .slice (some ⟨g, 0, none⟩) m m] ∧ B ≤ g ∧ ZR w' s (some ⟨g, 0, none⟩) m z ∧ m ≤ L
theorem ZR.set {w : World} {s : Bool} {g m : Nat} {z : Int} (h : ZR w s (some ⟨g, 0, none⟩) m z) (g2 o2 : Nat) (v : Value) (hne : g ≠ g2) : ZR (w.setCell ⟨g2, o2, none⟩ v) s (some ⟨g, 0, none⟩) m z := by
  obtain ⟨zs, hA, hN⟩ := h.ex
  exact ⟨⟨zs, hA.setOther g2 o2 v hne, hN⟩, h.sg⟩
theorem rmk_any {p : Option Addr} {n c : Nat} {xs : List Nat} {a : Nat} {w : World} (s : Bool) (h : At32 w p n c xs) (hx : Nf B32 xs a) (hn : n ≤ 35184372088832) :
    Calls Tryz.prog 105 #[.bool s, .slice p n c] w fun e w' => ∃ v, e = .returned v ∧ GotR w.heap.size w' v (iv s a) n ∧ Below w.heap.size w w' := by
  refine (mk04 s h hn).mono ?_
  rintro e w1 ⟨g, m, hm, rfl, hg, hA, hb⟩
  rw [trimL_of_Top hx.top] at hm hA
  have hl := h.len
  refine ⟨_, rfl, ⟨_, g, m, rfl, hg, ⟨⟨xs, hA, by rw [iv_natAbs]; exact hx⟩, ?_⟩, by omega⟩, hb⟩
  rw [iv_lt]
  have : decide (0 < m) = decide (0 < a) := by
    refine decide_eq_decide.2 ?_
    have h1 := hx.zero_iff B32_one
    constructor
    · intro h0
      rcases Nat.eq_zero_or_pos a with e | e
      · have := h1.2 e; rw [this] at hm; simp at hm; omega
      · exact e
    · intro h0
      rcases Nat.eq_zero_or_pos m with e | e
      · have := h1.1 (List.eq_nil_of_length_eq_zero (by omega)); omega
      · exact e
  rw [this]
theorem rshr_0 {p : Option Addr} {n c : Nat} {xs : List Nat} {v : Nat} {w : World} (h : At32 w p n c xs) (hx : Nf B32 xs v) (hn : n ≤ 16384) :
    Calls Tryz.prog 103 #[.slice p n c, .int .i64 0] w fun e w' => ∃ g, e = .returned (.slice (some ⟨g, 0, none⟩) n n) ∧ At32 w' (some ⟨g, 0, none⟩) n n xs ∧ Below w.heap.size w w' := by
  have H : Hid (At32 w p n c xs) := h
  have HX : Hid (Nf B32 xs v) := hx
  have HN : Hid (n ≤ 16384) := hn
  have HL : Hid (xs.length = n) := h.len
  clear h hx hn
  go_enter Tryz.func103, Tryz.ntmps103
  go_wp2_with fail
  refine (rnorm_any H.out (by have := HN.out; omega)).mono ?_
  rintro e w1 ⟨g, rfl, hg, hblk, hb⟩
  rw [trimL_of_Top HX.out.top] at hblk ⊢
  rw [HL.out]
  have HB : Hid (At32 w1 (some ⟨g, 0, none⟩) n n xs) := hblk.at_ HX.out.dig HL.out (by unfold maxLen; have := HN.out; omega)
  clear hblk hg
  go_wp2_with fail
  go_ret
  exact ⟨g, rfl, HB.out, hb⟩
theorem told5 {p : Option Addr} {m : Nat} {w : World} {z e : Int} (s : Bool) (h : ZR w s p m z) (hz : z % 2 = 1) (hm : m ≤ 8000) (he : -1048576 ≤ e ∧ e ≤ 1048576) :
    Calls Tryz.prog 61 #[.agg #[.bool s, .slice p m m], .int .i64 e] w fun en w' => ∃ g m' c', en = .returned (.tuple #[DV s (some ⟨g, 0, none⟩) m' c' e, .int .i64 0]) ∧ w.heap.size ≤ g ∧ DN w' s (some ⟨g, 0, none⟩) m' c' e z ∧ Below w.heap.size w w' := by
  obtain ⟨xs, hA, hN⟩ := h.ex
  have AX : Hid (At32 w p m m xs) := hA
  have NX : Hid (Nf B32 xs z.natAbs) := hN
  have HZ : Hid (z % 2 = 1 ∧ s = decide (z < 0) ∧ m ≤ 8000) := ⟨hz, h.sg, hm⟩
  have HE : Hid (-1048576 ≤ e ∧ e ≤ 1048576) := he
  have hm0 : ¬ m = 0 := fun e0 => by have := h.zero.1 e0; omega
  have hm1 : ((m : Int) == 0) = false := by simp; omega
  have g1 : ¬ 1048576 < e := by omega
  have g2 : ¬ e < -1099511627776 := by omega
  have g3 : ¬ e < -1048576 := by omega
  have g4 : ¬ (16384 : Int) < (m : Int) := by omega
  have g5 : wrap64 e = e := by simp only [wrap64]; omega
  clear h hz hm hA hN he
  go_enter Tryz.func61, Tryz.ntmps61
  go_wp2_with fail
  obtain ⟨W0, hW0⟩ : ∃ W0, W0 = ((w.alloc (.cells #[.bool s, .slice p m m] 104)).alloc (.cells #[.bool false, .slice none 0 0, .int .i64 0] 33)) := ⟨_, rfl⟩
  have Xm : Hid (Box W0 (w.heap.size) (.bool s) (.slice p m m)) := by rw [hW0]; exact ⟨by go_simp, by go_simp, by go_simp, by go_simp⟩
  have Xr : Hid (B3q W0 (w.heap.size + 1) (.bool false) (.slice none 0 0) (.int .i64 0)) := by rw [hW0]; exact ⟨by go_simp, by go_simp, by go_simp, by go_simp, by go_simp, by go_simp⟩
  have hb0 : Below w.heap.size w W0 := by rw [hW0]; exact below2 w _ _
  rw [← hW0]
  clear hW0
  have hbw : Below w.heap.size w w := Below.refl _ _
  obtain ⟨gr, hgr⟩ : ∃ g, g = w.heap.size + 1 := ⟨_, rfl⟩
  have HGr : Hid (w.heap.size ≤ gr) := by rw [hgr]; show _ ≤ _; omega
  rw [← hgr] at Xr
  try rw [← hgr]
  obtain ⟨gm, hgm⟩ : ∃ g, g = w.heap.size := ⟨_, rfl⟩
  have HGm : Hid (w.heap.size ≤ gm) := by rw [hgm]; show _ ≤ _; omega
  rw [← hgm] at Xm
  try rw [← hgm]
  have HGD : Hid (gm ≠ gr ∧ gr ≠ gm) := by rw [hgm, hgr]; exact ⟨by omega, by omega⟩
  clear hgm hgr
  replace hbw := Below.on hbw hb0
  clear hb0
  refine (rzeros_any (k := 0) (AX.out.below hbw) NX.out (by have := HZ.out; omega) ⟨by rw [Nat.pow_zero, Nat.mod_one], by rw [Nat.pow_zero, Nat.div_one]; have := HZ.out; omega⟩ (by have := HZ.out; omega)).mono ?_
  rintro e2 v1 ⟨rfl, hw⟩
  obtain rfl := hw.symm
  clear hw
  obtain ⟨cm0, cm1, fm0, fm1⟩ := Xm.out
  have hnem := Xm.out.lt
  go_wp2_with fail
  clear cm0 cm1 fm0 fm1 hnem
  refine (rshr_0 (AX.out.below hbw) NX.out (by have := HZ.out; omega)).mono ?_
  rintro e2 v3 ⟨g3, rfl, hA3, hb3⟩
  replace Xm : Hid _ := Xm.out.below hb3
  replace Xr : Hid _ := Xr.out.below hb3
  replace hbw := Below.on hbw hb3
  clear hb3
  have A3 : Hid (At32 v3 (some ⟨g3, 0, none⟩) m m xs) := hA3
  clear hA3
  obtain ⟨cm0, cm1, fm0, fm1⟩ := Xm.out
  have hnem := Xm.out.lt
  go_wp2_with fail
  clear cm0 cm1 fm0 fm1 hnem
  refine (rmk_any s A3.out NX.out (by have := HZ.out; omega)).mono ?_
  rintro e v5 ⟨v, rfl, hv, hb5⟩
  obtain ⟨s5, g5, m5, rfl, hg5, hz5, hl5⟩ := hv
  have HN5 : Hid (v3.heap.size ≤ g5) := hg5
  have HB5 : Hid (v3.heap.size ≤ v5.heap.size) := hb5.size
  replace Xm : Hid _ := Xm.out.below hb5
  replace Xr : Hid _ := Xr.out.below hb5
  replace A3 : Hid _ := A3.out.below hb5
  replace hbw := Below.on hbw hb5
  clear hb5
  have Z5 : Hid (ZR v5 s5 (some ⟨g5, 0, none⟩) m5 (iv s z.natAbs)) := hz5
  have HL5 : Hid (m5 ≤ m) := hl5
  clear hz5 hl5 hg5
  have hz5 := Z5.out.cast (show iv s z.natAbs = z from by rw [HZ.out.2.1]; exact iv_abs z)
  obtain rfl : s5 = s := by rw [hz5.sg, HZ.out.2.1]
  obtain ⟨zs, hA5, hN5⟩ := hz5.ex
  have h05 : s5 = true → 0 < m5 := fun h8 => Nat.pos_of_ne_zero fun e0 => by have := hz5.zero.1 e0; have := HZ.out.1; omega
  have HZ5 : Hid (At32 v5 (some ⟨g5, 0, none⟩) m5 m5 zs ∧ Nf B32 zs z.natAbs ∧ (s5 = true → 0 < m5) ∧ m5 ≤ m) := ⟨hA5, hN5, h05, HL5.out⟩
  clear hz5 hA5 hN5 h05 Z5
  go_wp2_with fail
  have HRL : Hid (gr < v5.heap.size ∧ w.heap.size ≤ v5.heap.size) := ⟨Xr.out.lt, hbw.size⟩
  refine (to04_any s5 HZ5.out.1 HZ5.out.2.1 (by have := HZ5.out; have := HZ.out; omega) HZ5.out.2.2.1).mono ?_
  rintro e2 v6 ⟨g6, k6, c6, us, rfl, hA6, hN6, hg6, hb6⟩
  replace Xm : Hid _ := Xm.out.below hb6
  replace Xr : Hid _ := Xr.out.below hb6
  replace A3 : Hid _ := A3.out.below hb6
  replace hbw := Below.on hbw hb6
  clear hb6
  have A6 : Hid (At v6 (some ⟨g6, 0, none⟩) k6 c6 us) := hA6
  have N6 : Hid (Nf B64 us z.natAbs ∧ gr < g6) := ⟨hN6, Nat.lt_of_lt_of_le HRL.out.1 hg6⟩
  clear hA6 hN6 hg6
  obtain ⟨cr0, cr1, cr2, fr0, fr1, fr2⟩ := Xr.out
  have hner : gr < v6.heap.size := World.block_lt_of_cell? v6 _ cr0
  go_wp2_with fail
  refine bodyPost_ret (v := .tuple #[DV s5 (some ⟨g6, 0, none⟩) k6 c6 e, .int .i64 0]) (by rw [results_cell_tmp rfl]; go_simp) rfl ⟨g6, k6, c6, rfl, Nat.le_trans HGr.out (Nat.le_of_lt N6.out.2), ⟨⟨⟨us, ?_, N6.out.1, ?_⟩, HZ.out.2.1⟩, .inr ⟨HZ.out.1, HE.out⟩⟩, ?_⟩
  · have := N6.out.2
    exact ((A6.out.setOther _ _ _ (by omega)).setOther _ _ _ (by omega)).setOther _ _ _ (by omega)
  · have h1 := (NX.out.len_le B32_one (k := m)).1 (by rw [AX.out.len]; exact Nat.le_refl _)
    have h2 := (N6.out.1.len_le B64_one (k := m)).2 (Nat.lt_of_lt_of_le h1 (Nat.pow_le_pow_left (by decide) m))
    rw [A6.out.len] at h2
    have := HZ.out
    omega
  · exact bSet (bSet (bSet hbw _ _ _ HGr.out) _ _ _ HGr.out) _ _ _ HGr.out
theorem rfrom5 {p : Option Addr} {n c : Nat} {xs : List Nat} {w : World} (s : Bool) (h : At w p n c xs) (hn : n ≤ 17592186044416) :
    Calls Tryz.prog 62 #[ZV s p n c] w fun e w' => ∃ s' p' m', e = .returned (.agg #[.bool s', .slice p' m' m']) ∧ ZR w' s' p' m' (iv s (valB B64 xs)) ∧ m' ≤ 2 * n ∧ Below w.heap.size w w' := by
  refine (from04 s h hn).mono ?_
  rintro e w1 ⟨p1, m1, z1, rfl, hA, hN, hl, hb⟩
  refine ⟨_, p1, m1, rfl, ⟨⟨z1, hA, by rw [iv_natAbs]; exact hN⟩, ?_⟩, hl, hb⟩
  rw [iv_lt]
  have : decide (0 < m1) = decide (0 < valB B64 xs) := by
    refine decide_eq_decide.2 ?_
    have h1 := hN.zero_iff B32_one
    have h2 := hA.len
    constructor
    · intro h0
      rcases Nat.eq_zero_or_pos (valB B64 xs) with e | e
      · have := h1.2 e; rw [this] at h2; simp at h2; omega
      · exact e
    · intro h0
      rcases Nat.eq_zero_or_pos m1 with e | e
      · have := h1.1 (List.eq_nil_of_length_eq_zero (by omega)); omega
      · exact e
  rw [this]
theorem DN.set {w : World} {s : Bool} {g m c : Nat} {e z : Int} (h : DN w s (some ⟨g, 0, none⟩) m c e z) (g2 o2 : Nat) (v : Value) (hne : g ≠ g2) : DN (w.setCell ⟨g2, o2, none⟩ v) s (some ⟨g, 0, none⟩) m c e z := by
  obtain ⟨xs, hX⟩ := h.zn.ex
  exact ⟨⟨⟨xs, hX.at_.setOther g2 o2 v hne, hX.nf, hX.le⟩, h.zn.sg⟩, h.fm⟩
theorem docof5 {w : World} (z : Int) (h0 : -9223372036854775808 ≤ z) (h1 : z ≤ 9223372036854775807) (hz : z % 2 = 1) :
    Calls Tryz.prog 28 #[.int .i64 z] w fun en w' => ∃ s' g m' c', en = .returned (DV s' (some ⟨g, 0, none⟩) m' c' 0) ∧ w.heap.size ≤ g ∧ DN w' s' (some ⟨g, 0, none⟩) m' c' 0 z ∧ Below w.heap.size w w' := by
  have HZ : Hid (-9223372036854775808 ≤ z ∧ z ≤ 9223372036854775807 ∧ z % 2 = 1) := ⟨h0, h1, hz⟩
  clear h0 h1 hz
  go_enter Tryz.func28, Tryz.ntmps28
  go_wp2_with fail
  obtain ⟨W0, hW0⟩ : ∃ W0, W0 = (w.alloc (.cells #[.bool false, .slice none 0 0, .int .i64 0] 33)) := ⟨_, rfl⟩
  have Xr : Hid (B3q W0 (w.heap.size) (.bool false) (.slice none 0 0) (.int .i64 0)) := by rw [hW0]; exact ⟨by go_simp, by go_simp, by go_simp, by go_simp, by go_simp, by go_simp⟩
  have hb0 : Below w.heap.size w W0 := by rw [hW0]; exact below1 w _
  rw [← hW0]
  clear hW0
  have hbw : Below w.heap.size w w := Below.refl _ _
  obtain ⟨gr, hgr⟩ : ∃ g, g = w.heap.size := ⟨_, rfl⟩
  have HGr : Hid (w.heap.size ≤ gr) := by rw [hgr]; show _ ≤ _; omega
  rw [← hgr] at Xr
  try rw [← hgr]
  clear hgr
  replace hbw := Below.on hbw hb0
  clear hb0
  refine (rof_any z _ HZ.out.1 HZ.out.2.1).mono ?_
  rintro e2 v1 ⟨g1, m1, zs, rfl, hA1, hN1, hl1, hb1⟩
  replace Xr : Hid _ := Xr.out.below hb1
  replace hbw := Below.on hbw hb1
  clear hb1
  have Z1 : Hid (ZR v1 (decide (z < 0)) (some ⟨g1, 0, none⟩) m1 z) := ⟨⟨zs, hA1, hN1⟩, rfl⟩
  have HL1 : Hid (m1 ≤ 3) := hl1
  clear hA1 hN1 hl1
  obtain ⟨s1, hs1⟩ : ∃ b, b = decide (z < 0) := ⟨_, rfl⟩
  rw [← hs1] at Z1 ⊢
  clear hs1
  go_wp2_with fail
  refine (told5 s1 Z1.out HZ.out.2.2 (by have := HL1.out; omega) (by omega)).mono ?_
  rintro e2 v2 ⟨g2, m2, c2, rfl, hg2, hd2, hb2⟩
  have HR2 : Hid (gr < g2 ∧ w.heap.size ≤ g2) := ⟨Nat.lt_of_lt_of_le Xr.out.lt hg2, Nat.le_trans hbw.size hg2⟩
  replace Xr : Hid _ := Xr.out.below hb2
  replace Z1 : Hid _ := Z1.out.below hb2
  replace hbw := Below.on hbw hb2
  clear hb2
  have D2 : Hid (DN v2 s1 (some ⟨g2, 0, none⟩) m2 c2 0 z) := hd2
  clear hd2 hg2
  obtain ⟨cr0, cr1, cr2, fr0, fr1, fr2⟩ := Xr.out
  have hner : gr < v2.heap.size := World.block_lt_of_cell? v2 _ cr0
  go_wp2_with fail
  refine bodyPost_ret (v := DV s1 (some ⟨g2, 0, none⟩) m2 c2 0) (by rw [results_cell1 rfl]; go_simp) rfl ⟨s1, g2, m2, c2, rfl, HR2.out.2, ?_, ?_⟩
  · have := HR2.out.1
    exact (((D2.out.set _ _ _ (by omega)).set _ _ _ (by omega)).set _ _ _ (by omega)).below (below1 _ _)
  · exact Below.on (bSet (bSet (bSet hbw _ _ _ HGr.out) _ _ _ HGr.out) _ _ _ HGr.out) (below1 _ _)
theorem nought5 {p : Option Addr} {m c : Nat} {w : World} {e : Int} {s : Bool} (hm : 0 < m) :
    Calls Tryz.prog 60 #[DV s p m c e] w fun en w' => en = .returned (.bool false) ∧ Below w.heap.size w w' := by
  have h1 : ((m : Int) == 0) = false := by simp; omega
  have h2 : ¬ m = 0 := by omega
  clear hm
  go_enter Tryz.func60, Tryz.ntmps60
  go_wp2_with fail
  go_ret
  exact ⟨rfl, below1 w _⟩
theorem docscale5 {p : Option Addr} {m c : Nat} {w : World} {z e n : Int} {s : Bool} (h : DN w s p m c e z) (hz : z % 2 = 1) (hm : m ≤ 4000) (hn : -2000 ≤ n ∧ n ≤ 2000) (he : -2000 ≤ e ∧ e ≤ 2000) :
    Calls Tryz.prog 27 #[DV s p m c e, .int .i64 n] w fun en w' => ∃ s' g m' c', en = .returned (.tuple #[DV s' (some ⟨g, 0, none⟩) m' c' (e + n), .int .i64 0]) ∧ w.heap.size ≤ g ∧ DN w' s' (some ⟨g, 0, none⟩) m' c' (e + n) z ∧ Below w.heap.size w w' := by
  have H : Hid (DN w s p m c e z) := h
  have HZ : Hid (z % 2 = 1 ∧ m ≤ 4000 ∧ -2000 ≤ n ∧ n ≤ 2000 ∧ -2000 ≤ e ∧ e ≤ 2000) := ⟨hz, hm, hn.1, hn.2, he.1, he.2⟩
  have g1 : ¬ 2097152 < n := by omega
  have g2 : ¬ n < -2097152 := by omega
  have g5 : wrap64 (e + n) = e + n := by simp only [wrap64]; omega
  have g6 : IntKind.i64.wrap (e + n) = e + n := by simp [IntKind.wrap, IntKind.signed, IntKind.bits]; omega
  clear h hz hm hn he
  go_enter Tryz.func27, Tryz.ntmps27
  go_wp2_with fail
  obtain ⟨W0, hW0⟩ : ∃ W0, W0 = ((w.alloc (.cells #[.bool s, .slice p m c, .int .i64 e] 33)).alloc (.cells #[.bool false, .slice none 0 0, .int .i64 0] 33)) := ⟨_, rfl⟩
  have Xd : Hid (B3q W0 (w.heap.size) (.bool s) (.slice p m c) (.int .i64 e)) := by rw [hW0]; exact ⟨by go_simp, by go_simp, by go_simp, by go_simp, by go_simp, by go_simp⟩
  have Xr : Hid (B3q W0 (w.heap.size + 1) (.bool false) (.slice none 0 0) (.int .i64 0)) := by rw [hW0]; exact ⟨by go_simp, by go_simp, by go_simp, by go_simp, by go_simp, by go_simp⟩
  have hb0 : Below w.heap.size w W0 := by rw [hW0]; exact below2 w _ _
  rw [← hW0]
  clear hW0
  have hbw : Below w.heap.size w w := Below.refl _ _
  obtain ⟨gr, hgr⟩ : ∃ g, g = w.heap.size + 1 := ⟨_, rfl⟩
  have HGr : Hid (w.heap.size ≤ gr) := by rw [hgr]; show _ ≤ _; omega
  rw [← hgr] at Xr
  try rw [← hgr]
  obtain ⟨gd, hgd⟩ : ∃ g, g = w.heap.size := ⟨_, rfl⟩
  have HGd : Hid (w.heap.size ≤ gd) := by rw [hgd]; show _ ≤ _; omega
  rw [← hgd] at Xd
  try rw [← hgd]
  have HGD : Hid (gd ≠ gr ∧ gr ≠ gd) := by rw [hgd, hgr]; exact ⟨by omega, by omega⟩
  clear hgd hgr
  replace hbw := Below.on hbw hb0
  clear hb0
  obtain ⟨xs, hX⟩ := (H.out.zn.below hbw).ex
  have HV : Hid (valB B64 xs = z.natAbs) := hX.nf.val
  have HMP : Hid (0 < m) := by
    rcases Nat.eq_zero_or_pos m with e0 | e0
    · subst e0
      have h8 := hX.nf.val
      rw [List.eq_nil_of_length_eq_zero hX.at_.len] at h8
      have h9 := HZ.out.1
      have : z.natAbs = 0 := h8.symm
      omega
    · exact e0
  have AX : Hid (At W0 p m c xs) := hX.at_
  refine (docformd s hX.at_).mono ?_
  rintro e2 v1 ⟨rfl, hb1⟩
  rw [show formD s xs e = true from dn_formD (H.out.below hbw) hX]
  clear hX
  replace Xd : Hid _ := Xd.out.below hb1
  replace Xr : Hid _ := Xr.out.below hb1
  replace AX : Hid _ := AX.out.below hb1
  replace hbw := Below.on hbw hb1
  clear hb1
  obtain ⟨cd0, cd1, cd2, fd0, fd1, fd2⟩ := Xd.out
  have hned : gd < v1.heap.size := World.block_lt_of_cell? v1 _ cd0
  go_wp2_with fail
  clear cd0 cd1 cd2 fd0 fd1 fd2 hned
  refine (nought5 HMP.out).mono ?_
  rintro e v2 ⟨rfl, hb2⟩
  replace Xd : Hid _ := Xd.out.below hb2
  replace Xr : Hid _ := Xr.out.below hb2
  replace AX : Hid _ := AX.out.below hb2
  replace hbw := Below.on hbw hb2
  clear hb2
  obtain ⟨cd0, cd1, cd2, fd0, fd1, fd2⟩ := Xd.out
  have hned : gd < v2.heap.size := World.block_lt_of_cell? v2 _ cd0
  go_wp2_with fail
  clear cd0 cd1 cd2 fd0 fd1 fd2 hned
  obtain ⟨W5, hW5⟩ : ∃ W1, W1 = v2.drew := ⟨_, rfl⟩
  have hbd : Below v2.heap.size v2 W5 := by rw [hW5]; exact bDrew1 (Below.refl _ _)
  replace Xd : Hid _ := Xd.out.below hbd
  replace Xr : Hid _ := Xr.out.below hbd
  replace AX : Hid _ := AX.out.below hbd
  replace hbw := Below.on hbw hbd
  clear hbd
  have HJ : Hid ((fun W' : World => W'.cell? ⟨gd, 0, none⟩ = some (.bool s) ∧ W'.cell? ⟨gd, 1, none⟩ = some (.slice p m c) ∧ W'.cell? ⟨gd, 2, none⟩ = some (.int .i64 e)) W5) := ⟨Xd.out.c0, Xd.out.c1, Xd.out.c2⟩
  refine wp_region_J (fun W' => W'.cell? ⟨gd, 0, none⟩ = some (.bool s) ∧ W'.cell? ⟨gd, 1, none⟩ = some (.slice p m c) ∧ W'.cell? ⟨gd, 2, none⟩ = some (.int .i64 e)) (by kernel_rfl) ?_
  rw [← hW5]
  clear hW5
  refine wpJ_tq 0 rfl HJ.out ?_
  refine wpJ_tq 1 rfl HJ.out ?_
  refine wpJ_tq 3 rfl HJ.out ?_
  refine wpJ_tq 4 rfl HJ.out ?_
  refine wpJ_tq 5 rfl HJ.out ?_
  refine wpJ_tq 6 rfl HJ.out ?_
  refine wpJ_on 2 rfl fun KJ hK => ?_
  go_simp
  refine (rfrom5 s AX.out (by have := HZ.out; omega)).mono ?_
  rintro e2 v3 ⟨s3, p3, m3, rfl, hz3, hl3, hb3⟩
  rw [HV.out, H.out.zn.iv] at hz3
  replace Xd : Hid _ := Xd.out.below hb3
  replace Xr : Hid _ := Xr.out.below hb3
  replace AX : Hid _ := AX.out.below hb3
  replace hbw := Below.on hbw hb3
  clear hb3
  have Z3 : Hid (ZR v3 s3 p3 m3 z) := hz3
  have HL3 : Hid (m3 ≤ 8000) := by have := HZ.out; show m3 ≤ _; omega
  clear hz3 hl3
  refine hK _ _ ⟨Xd.out.c0, Xd.out.c1, Xd.out.c2⟩ ?_
  clear hK
  refine wpJ_on 7 rfl fun KJ hK => ?_
  go_simp
  refine (told5 s3 Z3.out HZ.out.1 HL3.out (by have := HZ.out; omega)).mono ?_
  rintro e2 v4 ⟨g4, m4, c4, rfl, hg4, hd4, hb4⟩
  have HR4 : Hid (gr < g4 ∧ w.heap.size ≤ g4) := ⟨Nat.lt_of_lt_of_le Xr.out.lt hg4, Nat.le_trans hbw.size hg4⟩
  replace Xd : Hid _ := Xd.out.below hb4
  replace Xr : Hid _ := Xr.out.below hb4
  replace AX : Hid _ := AX.out.below hb4
  replace Z3 : Hid _ := Z3.out.below hb4
  replace hbw := Below.on hbw hb4
  clear hb4
  have D4 : Hid (DN v4 s3 (some ⟨g4, 0, none⟩) m4 c4 (e + n) z) := hd4
  clear hd4 hg4
  clear HJ
  have HJ : Hid ((fun W' : World => W'.cell? ⟨gd, 0, none⟩ = some (.bool s) ∧ W'.cell? ⟨gd, 1, none⟩ = some (.slice p m c) ∧ W'.cell? ⟨gd, 2, none⟩ = some (.int .i64 e)) v4) := ⟨Xd.out.c0, Xd.out.c1, Xd.out.c2⟩
  refine hK _ _ HJ.out ?_
  clear hK
  refine wpJ_tq 8 rfl HJ.out ?_
  refine wpJ_tq 9 rfl HJ.out ?_
  obtain ⟨cr0, cr1, cr2, fr0, fr1, fr2⟩ := Xr.out
  have hner : gr < v4.heap.size := World.block_lt_of_cell? v4 _ cr0
  obtain ⟨cd0, cd1, cd2, fd0, fd1, fd2⟩ := Xd.out
  have hned : gd < v4.heap.size := World.block_lt_of_cell? v4 _ cd0
  obtain ⟨hgd0, hgd1⟩ := HGD.out
  refine wpJ_on 10 rfl fun KJ hK => ?_
  go_simp
  have HJ2 : Hid ((fun W' : World => W'.cell? ⟨gd, 0, none⟩ = some (.bool s) ∧ W'.cell? ⟨gd, 1, none⟩ = some (.slice p m c) ∧ W'.cell? ⟨gd, 2, none⟩ = some (.int .i64 e)) (((v4.setCell ⟨gr, 0, none⟩ (.bool s3)).setCell ⟨gr, 1, none⟩ (.slice (some ⟨g4, 0, none⟩) m4 c4)).setCell ⟨gr, 2, none⟩ (.int .i64 (e + n)))) := ⟨by go_simp, by go_simp, by go_simp⟩
  refine hK _ _ HJ2.out ?_
  clear hK HJ
  have HJ := HJ2
  clear HJ2
  refine wpJ_tq 11 rfl HJ.out ?_
  refine wpJ_done (by kernel_rfl) ?_ _
  clear HJ
  go_wp2_with fail
  refine bodyPost_ret (v := .tuple #[DV s3 (some ⟨g4, 0, none⟩) m4 c4 (e + n), .int .i64 0]) (by rw [results_cell_tmp rfl]; go_simp) rfl ⟨s3, g4, m4, c4, rfl, HR4.out.2, ?_, ?_⟩
  · have := HR4.out.1
    exact ((D4.out.set _ _ _ (by omega)).set _ _ _ (by omega)).set _ _ _ (by omega)
  · exact bSet (bSet (bSet hbw _ _ _ HGr.out) _ _ _ HGr.out) _ _ _ HGr.out
theorem sgn3 (x : Int) : (x < 0 ∧ sgnI x = -1) ∨ (x = 0 ∧ sgnI x = 0) ∨ (0 < x ∧ sgnI x = 1) := by
  unfold sgnI
  rcases Int.lt_trichotomy x 0 with h | h | h
  · exact .inl ⟨h, if_pos h⟩
  · exact .inr (.inl ⟨h, by rw [if_neg (by omega), if_pos h]⟩)
  · exact .inr (.inr ⟨h, by rw [if_neg (by omega), if_neg (by omega)]⟩)
end Go.Proofs.YtfmbifocgljieaaGreatDoor
namespace Go.Proofs.YtfmbifocgljieaaGreatDoor
open Go.RowKit
set_option maxRecDepth 20000
set_option maxHeartbeats 0
def vs (H s : Nat) : Nat := (s - (s / H - 1) * H) * 2 ^ (s / H - 1)
theorem vs_zero (H : Nat) : vs H 0 = 0 := by unfold vs; simp
theorem vs_succ {H : Nat} (hH : 0 < H) (s : Nat) : vs H s < vs H (s + 1) := by
  have h1 := Nat.div_add_mod s H
  have h2 := Nat.mod_lt s hH
  have h3 := Nat.div_add_mod (s + 1) H
  have h4 := Nat.mod_lt (s + 1) hH
  have h5 : s / H ≤ (s + 1) / H := Nat.div_le_div_right (by omega)
  have h6 : (s + 1) / H ≤ s / H + 1 := by
    have : (s + 1) / H ≤ (s + H) / H := Nat.div_le_div_right (by omega)
    rw [Nat.add_div_right _ hH] at this
    exact this
  unfold vs
  by_cases h7 : (s + 1) / H = s / H
  · rw [h7]
    have hq : (s / H - 1) * H ≤ s := by
      rw [Nat.sub_mul, Nat.mul_comm]; omega
    have hp : 0 < 2 ^ (s / H - 1) := Nat.pow_pos (by omega)
    exact Nat.mul_lt_mul_of_pos_right (by omega) hp
  · have h8 : (s + 1) / H = s / H + 1 := by omega
    rw [h8, Nat.add_sub_cancel]
    rw [h8, Nat.mul_add, Nat.mul_one] at h3
    obtain ⟨k, hk⟩ : ∃ k, k = s / H := ⟨_, rfl⟩
    rw [← hk] at h1 h3 ⊢
    obtain ⟨y, hy⟩ : ∃ y, y = H * k := ⟨_, rfl⟩
    rw [← hy] at h1 h3
    rw [Nat.mul_comm k H, ← hy]
    by_cases h9 : k = 0
    · subst h9
      have : y = 0 := by rw [hy]; simp
      simp
      omega
    · obtain ⟨j, rfl⟩ : ∃ j, k = j + 1 := ⟨k - 1, by omega⟩
      rw [Nat.add_sub_cancel, Nat.pow_succ]
      have hj : j * H + H = y := by rw [hy, Nat.mul_comm H, Nat.add_mul, Nat.one_mul]
      have hp : 0 < 2 ^ j := Nat.pow_pos (by omega)
      have e1 : s + 1 - y = H := by omega
      rw [e1, Nat.mul_comm (2 ^ j) 2, ← Nat.mul_assoc]
      exact Nat.mul_lt_mul_of_pos_right (by omega) hp
theorem vs_mono {H : Nat} (hH : 0 < H) {s t : Nat} (h : s < t) : vs H s < vs H t := by
  induction t with
  | zero => omega
  | succ t ih =>
    rcases Nat.lt_or_ge s t with h1 | h1
    · exact Nat.lt_trans (ih h1) (vs_succ hH t)
    · rw [show s = t by omega]; exact vs_succ hH t
def gR (H : Nat) (r : Int) : Int := if r < 0 then -(vs H r.natAbs : Int) else (vs H r.natAbs : Int)
def rkS (S b : Nat) : Int := if S ≤ b then -((b % S : Nat) : Int) else ((b % S : Nat) : Int)
def svS (S H b : Nat) : Int := gR H (rkS S b)
theorem svS_eq (S H b : Nat) : svS S H b = if S ≤ b then -(vs H (b % S) : Int) else (vs H (b % S) : Int) := by
  have hz := vs_zero H
  unfold svS gR rkS
  by_cases h : S ≤ b
  · rw [if_pos h, if_pos h]
    by_cases h0 : b % S = 0
    · rw [h0, hz]; simp [hz]
    · rw [if_pos (by omega), Int.natAbs_neg, Int.natAbs_natCast]
  · rw [if_neg h, if_neg h, if_neg (by omega), Int.natAbs_natCast]
end Go.Proofs.YtfmbifocgljieaaGreatDoor
namespace Go.Proofs.YtfmbifocgljieaaGreatDoor
open Go.RowKit Go.Shelf
set_option maxRecDepth 20000
set_option maxHeartbeats 0
structure VF (S H : Nat) (l : Int) (b : Nat) (zo eo : Int) : Prop where
  fm : DFm zo eo
  v : dv zo eo = dv (svS S H b) l
def qTzIs (v k : Nat) : Prop := v % 2 ^ k = 0 ∧ v / 2 ^ k % 2 = 1
theorem qTzIs.inj {v k l : Nat} (h : qTzIs v k) (h' : qTzIs v l) : k = l := by
  have aux : ∀ {a b : Nat}, qTzIs v a → qTzIs v b → ¬ a < b := by
    intro a b ha hb hab
    obtain ⟨d, hd⟩ : ∃ d, b = a + (d + 1) := ⟨b - a - 1, by omega⟩
    have h1 := Nat.dvd_of_mod_eq_zero hb.1
    obtain ⟨q, hq⟩ := h1
    have h2 := ha.2
    rw [hq, hd, Nat.pow_add, Nat.mul_assoc, Nat.mul_div_cancel_left _ (Nat.pow_pos (by decide)), Nat.pow_succ, Nat.mul_comm (2 ^ d) 2, Nat.mul_assoc, Nat.mul_mod_right] at h2
    exact absurd h2 (by decide)
  rcases Nat.lt_trichotomy k l with e | e | e
  · exact absurd e (aux h h')
  · exact e
  · exact absurd e (aux h' h)
def qTab (w : World) : Prop := TabAt 2 Lib.deBruijn64tab w
theorem qTab.below {w w' : World} (h : qTab w) (hb : Below w.heap.size w w') : qTab w' := by
  intro j hj
  have h1 := h j hj
  have hl : 2 < w.heap.size := World.block_lt_of_cell? w _ h1
  exact (hb.cell (p := ⟨2, j, none⟩) hl).trans h1
def wV (z : Nat) : Nat :=
  if z = 0 then 0 else
  (872 + (z / 8388608 - 1) + bl_bitsN (z - (z / 8388608 - 1) * 8388608)) * 4503599627370496 + (z - (z / 8388608 - 1) * 8388608) * 2 ^ (53 - bl_bitsN (z - (z / 8388608 - 1) * 8388608))
structure Jm (f p m l : Int) (S I H sd : Nat) (Be : Int) : Prop where
  pm : Pm f p m l S I H
  be : ∀ w, Calls Tryz.prog 47 #[WV p m l] w fun e w' => e = .returned (.int .i64 Be) ∧ Below w.heap.size w w'
  un : ∀ (top : Int) w, -1000000000000 ≤ top → top ≤ 5000 → Calls Tryz.prog 48 #[WV p m l, .int .i64 top] w fun e w' => e = .returned (.int .i64 (max (top - sd) l)) ∧ Below w.heap.size w w'
  sz : ∀ (man q : Nat) (u : Int) w, u = l + q → q < 2046 → (q : Int) < Be - l - sd → man ≤ 2 * H → Calls Tryz.prog 49 #[WV p m l, U man, .int .i64 u] w fun e w' => e = .returned (U (q * H + man)) ∧ Below w.heap.size w w'
  hs : H = 2 ^ sd
  sl : 1 ≤ sd ∧ sd ≤ 52
  bq : ∀ s, s < I → ((s / H - 1 : Nat) : Int) ≤ Be - l - sd - 1
  bu : Be ≤ 1024 ∧ 0 < Be
theorem jm_32 : Jm 32 32 24 (-149) 2147483648 2139095040 8388608 23 128 :=
  ⟨pm_32, beyond_32, fun top w h1 h2 => unitg_32 top h1 h2 w, fun man q u w h1 _ h3 h2 => size_32 man q u (by omega) (by omega) h2 w, by decide, by decide, fun s hs => by omega, by decide⟩
theorem jm_64 : Jm 64 64 53 (-1074) 9223372036854775808 9218868437227405312 4503599627370496 52 1024 :=
  ⟨pm_64, beyond_64, fun top w h1 h2 => unitg_64 top h1 h2 w, fun man q u w h1 _ _ h2 => size_64 man q u (by omega) (by omega) h2 w, by decide, by decide, fun s hs => by omega, by decide⟩
structure B5 (W : World) (g : Nat) (v0 v1 v2 v3 v4 : Value) : Prop where
  c0 : W.cell? ⟨g, 0, none⟩ = some v0
  c1 : W.cell? ⟨g, 1, none⟩ = some v1
  c2 : W.cell? ⟨g, 2, none⟩ = some v2
  c3 : W.cell? ⟨g, 3, none⟩ = some v3
  c4 : W.cell? ⟨g, 4, none⟩ = some v4
  f0 : W.frozen? ⟨g, 0, none⟩ = false
  f1 : W.frozen? ⟨g, 1, none⟩ = false
  f2 : W.frozen? ⟨g, 2, none⟩ = false
  f3 : W.frozen? ⟨g, 3, none⟩ = false
  f4 : W.frozen? ⟨g, 4, none⟩ = false
theorem B5.below {W W' : World} {g : Nat} {v0 v1 v2 v3 v4 : Value} (h : B5 W g v0 v1 v2 v3 v4) (hb : Below W.heap.size W W') : B5 W' g v0 v1 v2 v3 v4 := by
  have hl : g < W.heap.size := World.block_lt_of_cell? W _ h.c0
  exact ⟨(hb.cell (p := ⟨g, 0, none⟩) hl).trans h.c0, (hb.cell (p := ⟨g, 1, none⟩) hl).trans h.c1, (hb.cell (p := ⟨g, 2, none⟩) hl).trans h.c2, (hb.cell (p := ⟨g, 3, none⟩) hl).trans h.c3, (hb.cell (p := ⟨g, 4, none⟩) hl).trans h.c4,
    (hb.frozen (p := ⟨g, 0, none⟩) hl).trans h.f0, (hb.frozen (p := ⟨g, 1, none⟩) hl).trans h.f1, (hb.frozen (p := ⟨g, 2, none⟩) hl).trans h.f2, (hb.frozen (p := ⟨g, 3, none⟩) hl).trans h.f3, (hb.frozen (p := ⟨g, 4, none⟩) hl).trans h.f4⟩
theorem B5.new (w : World) (ty : TypeId) (v0 v1 v2 v3 v4 : Value) : B5 (w.alloc (.cells #[v0, v1, v2, v3, v4] ty)) w.heap.size v0 v1 v2 v3 v4 :=
  ⟨by go_simp, by go_simp, by go_simp, by go_simp, by go_simp, by go_simp, by go_simp, by go_simp, by go_simp, by go_simp⟩
theorem DocIs.inj {v : Nat} {us us' : List Nat} {f f' : Int} (h : DocIs v us f) (k : DocIs v us' f') : us = us' ∧ f = f' := by
  rcases h with ⟨h1, h2, rfl⟩ | ⟨h1, rfl, rfl⟩ <;> rcases k with ⟨k1, k2, rfl⟩ | ⟨k1, rfl, rfl⟩
  · exact ⟨h2.inj B64_one k2, rfl⟩
  · omega
  · omega
  · exact ⟨rfl, rfl⟩
theorem DocIs.er {v : Nat} {us : List Nat} {f : Int} (h : DocIs v us f) : f = 0 ∨ f = 5 := by
  rcases h with ⟨_, _, rfl⟩ | ⟨_, _, rfl⟩ <;> simp
structure Op7 where
  k : Int
  f : Int
  b : Nat
  neg : Bool
  n : Int
structure Scr7 (w : World) (P : Option Addr) (N C : Nat) (its : List Op7) : Prop where
  len : its.length = N
  cap : N ≤ C
  big : C ≤ maxLen
  ats : ∀ t ∈ its, t.b < B64 ∧ -9223372036854775808 ≤ t.n ∧ t.n ≤ 9223372036854775807
  cells : N = 0 ∨ ∃ g off, P = some ⟨g, off, none⟩ ∧ ∀ i (h : i < its.length), w.cell? ⟨g, off + i * 5, none⟩ = some (.int .i64 its[i].k) ∧ w.cell? ⟨g, off + i * 5 + 1, none⟩ = some (.int .i64 its[i].f) ∧
    w.cell? ⟨g, off + i * 5 + 2, none⟩ = some (U its[i].b) ∧ w.cell? ⟨g, off + i * 5 + 3, none⟩ = some (.bool its[i].neg) ∧ w.cell? ⟨g, off + i * 5 + 4, none⟩ = some (.int .i64 its[i].n)
theorem Scr7.below {w w' : World} {P : Option Addr} {N C : Nat} {its : List Op7} (h : Scr7 w P N C its) (hb : Below w.heap.size w w') : Scr7 w' P N C its := by
  refine ⟨h.len, h.cap, h.big, h.ats, ?_⟩
  rcases h.cells with h0 | ⟨g, off, hP, hc⟩
  · exact .inl h0
  · refine .inr ⟨g, off, hP, fun i hi => ?_⟩
    obtain ⟨h0, h1, h2, h3, h4⟩ := hc i hi
    have hl : g < w.heap.size := World.block_lt_of_cell? w _ h0
    exact ⟨(hb.cell (p := ⟨g, off + i * 5, none⟩) hl).trans h0, (hb.cell (p := ⟨g, off + i * 5 + 1, none⟩) hl).trans h1, (hb.cell (p := ⟨g, off + i * 5 + 2, none⟩) hl).trans h2,
      (hb.cell (p := ⟨g, off + i * 5 + 3, none⟩) hl).trans h3, (hb.cell (p := ⟨g, off + i * 5 + 4, none⟩) hl).trans h4⟩
structure Kds (w : World) (g : Nat) (ks : List Int) : Prop where
  c : ∀ j (h : j < ks.length), w.cell? ⟨g, j, none⟩ = some (.int .i64 ks[j])
  lt : g < w.heap.size
theorem Kds.below {w w' : World} {g : Nat} {ks : List Int} (h : Kds w g ks) (hb : Below w.heap.size w w') : Kds w' g ks :=
  ⟨fun j hj => (hb.cell (p := ⟨g, j, none⟩) h.lt).trans (h.c j hj), Nat.lt_of_lt_of_le h.lt hb.size⟩
theorem blb_le {m k : Nat} (h : m < 2 ^ k) : bl_bitsN m ≤ k := by
  by_cases h0 : m = 0
  · rw [h0, bl_bitsN_zero]; omega
  have h1 := bl_bitsN_le m h0
  have := (Nat.pow_lt_pow_iff_right (by omega : 1 < 2)).1 (Nat.lt_of_le_of_lt h1 h)
  omega
theorem blb_pos {m : Nat} (h : m ≠ 0) : 0 < bl_bitsN m := by unfold bl_bitsN; rw [if_neg h]; omega
theorem wV_parts {z : Nat} (hz : z < 2139095040) (h0 : z ≠ 0) : ∃ q m L, q = z / 8388608 - 1 ∧ m = z - q * 8388608 ∧ L = bl_bitsN m ∧ 1 ≤ L ∧ L ≤ 24 ∧ q ≤ 253 ∧ wV z = (872 + q + L) * 4503599627370496 + m * 2 ^ (53 - L) ∧ 4503599627370496 ≤ m * 2 ^ (53 - L) ∧ m * 2 ^ (53 - L) < 2 * 4503599627370496 := by
  obtain ⟨q, hq⟩ : ∃ q, q = z / 8388608 - 1 := ⟨_, rfl⟩
  obtain ⟨m, hm⟩ : ∃ m, m = z - q * 8388608 := ⟨_, rfl⟩
  obtain ⟨L, hL⟩ : ∃ L, L = bl_bitsN m := ⟨_, rfl⟩
  have hm0 : m ≠ 0 := by omega
  have hm1 : m < 16777216 := by omega
  have l1 := blb_pos hm0
  have l2 := blb_le (m := m) (k := 24) (by omega)
  have b1 := bl_bitsN_lt m
  have b2 := bl_bitsN_le m hm0
  rw [← hL] at l1 l2 b1 b2
  have e1 : (2 : Nat) ^ 52 = 4503599627370496 := by decide
  have h1 : 2 ^ (L - 1) * 2 ^ (53 - L) ≤ m * 2 ^ (53 - L) := Nat.mul_le_mul_right _ b2
  have h2 : m * 2 ^ (53 - L) < 2 ^ L * 2 ^ (53 - L) := Nat.mul_lt_mul_of_pos_right b1 (Nat.pow_pos (by omega))
  rw [← Nat.pow_add, show L - 1 + (53 - L) = 52 from by omega, e1] at h1
  rw [← Nat.pow_add, show L + (53 - L) = 52 + 1 from by omega, Nat.pow_succ, e1] at h2
  refine ⟨q, m, L, hq, hm, hL, l1, l2, by omega, ?_, h1, by omega⟩
  unfold wV
  rw [if_neg h0, ← hq, ← hm, ← hL]
theorem wV_vs {z K : Nat} (hz : z < 2139095040) (hK : K = 925) : vs 4503599627370496 (wV z) = vs 8388608 z * 2 ^ K := by
  by_cases h0 : z = 0
  · subst h0
    unfold wV
    rw [if_pos rfl, vs_zero, vs_zero, Nat.zero_mul]
  obtain ⟨q, m, L, hq, hm, _, l1, l2, l3, hw, h1, h2⟩ := wV_parts hz h0
  have hd : wV z / 4503599627370496 - 1 = 872 + q + L := by
    rw [hw]
    generalize m * 2 ^ (53 - L) = M at *
    omega
  have e1 : vs 8388608 z = m * 2 ^ q := by unfold vs; rw [← hq, ← hm]
  have e2 : wV z - (872 + q + L) * 4503599627370496 = m * 2 ^ (53 - L) := by
    rw [hw]
    generalize m * 2 ^ (53 - L) = M at *
    omega
  rw [e1]
  unfold vs
  rw [hd, e2, Nat.mul_assoc, Nat.mul_assoc, ← Nat.pow_add, ← Nat.pow_add, show 53 - L + (872 + q + L) = q + K from by omega]
theorem wV_lt {y z : Nat} (hy : y < 2139095040) (hz : z < 2139095040) (h : y < z) : wV y < wV z := by
  rcases Nat.lt_or_ge (wV y) (wV z) with h1 | h1
  · exact h1
  · have h2 := vs_mono (H := 8388608) (by decide) h
    have h3 : vs 4503599627370496 (wV z) ≤ vs 4503599627370496 (wV y) := by
      rcases Nat.lt_or_eq_of_le h1 with h4 | h4
      · exact Nat.le_of_lt (vs_mono (by decide) h4)
      · rw [h4]; exact Nat.le_refl _
    obtain ⟨K, hK⟩ : ∃ K, K = 925 := ⟨_, rfl⟩
    rw [wV_vs hy hK, wV_vs hz hK] at h3
    have h5 := Nat.le_of_mul_le_mul_right h3 (Nat.pow_pos (by omega))
    omega
theorem wV_cls {z : Nat} (hz : z < 2139095040) : wV z < 9218868437227405312 ∧ (z = 0 → wV z = 0) ∧ (z ≠ 0 → 4503599627370496 ≤ wV z) := by
  by_cases h0 : z = 0
  · subst h0
    have : wV 0 = 0 := by unfold wV; rw [if_pos rfl]
    rw [this]
    exact ⟨by decide, fun _ => rfl, fun h => absurd rfl h⟩
  obtain ⟨q, m, L, hq, hm, _, l1, l2, l3, hw, h1, h2⟩ := wV_parts hz h0
  rw [hw]
  generalize m * 2 ^ (53 - L) = M at *
  exact ⟨by omega, fun h => absurd h h0, fun _ => by omega⟩
structure WF (a x : Nat) : Prop where
  lt : x < 2 * 9223372036854775808
  nan : 2139095040 < a % 2147483648 → 9218868437227405312 < x % 9223372036854775808
  inf : a % 2147483648 = 2139095040 → x % 9223372036854775808 = 9218868437227405312
  fin : a % 2147483648 < 2139095040 → x % 9223372036854775808 = wV (a % 2147483648) ∧ (9223372036854775808 ≤ x ↔ 2147483648 ≤ a)
theorem cls_four {H I s : Nat} (hH : H ≤ I) : (clsN H I s == 4) = decide (I < s) := by
  by_cases h : I < s
  · rw [cls_nan hH h, decide_eq_true h]; rfl
  · rw [decide_eq_false h]; simp [cls_ne (Nat.le_of_not_lt h)]
theorem WF.cls {a x : Nat} (h : WF a x) : (clsN 8388608 2139095040 (a % 2147483648) == 4) = (clsN 4503599627370496 9218868437227405312 (x % 9223372036854775808) == 4) ∧ (clsN 8388608 2139095040 (a % 2147483648) == 3) = (clsN 4503599627370496 9218868437227405312 (x % 9223372036854775808) == 3) := by
  rw [cls_four (by decide), cls_four (by decide), cls_inf (by decide) (by decide), cls_inf (by decide) (by decide)]
  have h1 := h.nan
  have h2 := h.inf
  have h3 := h.fin
  rcases Nat.lt_trichotomy (a % 2147483648) 2139095040 with k | k | k
  · have k1 := (wV_cls k).1
    rw [← (h3 k).1] at k1
    refine ⟨decide_eq_decide.2 ⟨?_, ?_⟩, decide_eq_decide.2 ⟨?_, ?_⟩⟩ <;> omega
  · have := h2 k
    refine ⟨decide_eq_decide.2 ⟨?_, ?_⟩, decide_eq_decide.2 ⟨?_, ?_⟩⟩ <;> omega
  · have := h1 k
    refine ⟨decide_eq_decide.2 ⟨?_, ?_⟩, decide_eq_decide.2 ⟨?_, ?_⟩⟩ <;> omega
theorem WF.val {zo eo : Int} {a' x' : Nat} (h : WF a' x') (hf : a' % 2147483648 < 2139095040) (hv : VF 2147483648 8388608 (-149) a' zo eo) : VF 9223372036854775808 4503599627370496 (-1074) x' zo eo := by
  obtain ⟨h1, h2⟩ := h.fin hf
  refine ⟨hv.fm, ?_⟩
  obtain ⟨K, hK⟩ : ∃ K, K = 925 := ⟨_, rfl⟩
  have h3 := wV_vs hf hK
  rw [hv.v, show (-149 : Int) = -1074 + (K : Int) from by omega, dv_up K (by decide), svS_eq, svS_eq, h1, h3]
  by_cases h4 : 2147483648 ≤ a'
  · rw [if_pos h4, if_pos (h2.2 h4), Int.neg_mul, ← Int.natCast_mul]
  · rw [if_neg h4, if_neg (fun k => h4 (h2.1 k)), ← Int.natCast_mul]
theorem WF.rank {a x b y : Nat} (h : WF a x) (k : WF b y) (ha : a % 2147483648 < 2139095040) (hb : b % 2147483648 < 2139095040) : rkS 2147483648 a < rkS 2147483648 b ↔ rkS 9223372036854775808 x < rkS 9223372036854775808 y := by
  obtain ⟨h1, h2⟩ := h.fin ha
  obtain ⟨k1, k2⟩ := k.fin hb
  have a0 := (wV_cls ha).2
  have b0 := (wV_cls hb).2
  have l1 : a % 2147483648 < b % 2147483648 → wV (a % 2147483648) < wV (b % 2147483648) := wV_lt ha hb
  have l2 : b % 2147483648 < a % 2147483648 → wV (b % 2147483648) < wV (a % 2147483648) := wV_lt hb ha
  have l3 : a % 2147483648 = b % 2147483648 → wV (a % 2147483648) = wV (b % 2147483648) := fun e => by rw [e]
  unfold rkS
  rw [h1, k1]
  generalize a % 2147483648 = A at *
  generalize b % 2147483648 = B at *
  generalize wV A = WA at *
  generalize wV B = WB at *
  by_cases c1 : 2147483648 ≤ a <;> by_cases c2 : 2147483648 ≤ b
  · rw [if_pos c1, if_pos c2, if_pos (h2.2 c1), if_pos (k2.2 c2)]; omega
  · rw [if_pos c1, if_neg c2, if_pos (h2.2 c1), if_neg (fun e => c2 (k2.1 e))]; omega
  · rw [if_neg c1, if_pos c2, if_neg (fun e => c1 (h2.1 e)), if_pos (k2.2 c2)]; omega
  · rw [if_neg c1, if_neg c2, if_neg (fun e => c1 (h2.1 e)), if_neg (fun e => c2 (k2.1 e))]; omega
theorem clsof_32 (b : Nat) (hb : b < 2 * 2147483648) (w : World) :
    Calls Tryz.prog 18 #[.int .i64 32, U b] w fun en w' => en = .returned (.tuple #[.int .i64 (clsN 8388608 2139095040 (b % 2147483648)), .int .i64 0]) ∧ Below w.heap.size w w' := by
  have hbw : Below w.heap.size w w := Below.refl _ _
  obtain ⟨z, hz⟩ : ∃ z : Nat, z = b % 2147483648 := ⟨_, rfl⟩
  obtain ⟨s, hs⟩ : ∃ s, s = decide (2147483648 ≤ b) := ⟨_, rfl⟩
  obtain ⟨c, hc⟩ : ∃ c, c = clsN 8388608 2139095040 z := ⟨_, rfl⟩
  have HPT : Hid (∀ w, Calls Tryz.prog 41 #[.int .i64 32, U b] w fun e w' => e = .returned (.tuple #[PV 32 24 (-149) s z, .int .i64 0]) ∧ Below w.heap.size w w') := by rw [hz, hs]; exact fun w => fm_32.pat b w hb
  rw [← hz, ← hc]
  have HC : Hid (clsN 8388608 2139095040 z = c) := hc.symm
  clear hz hs hc hb
  go_enter Tryz.func18, Tryz.ntmps18
  go_wp2_with fail
  refine (HPT.out _).mono ?_
  rintro e v1 ⟨rfl, hb1⟩
  replace hbw := Below.on hbw hb1
  clear hb1
  go_wp2_with fail
  have Xp0 : Hid (B5q (v1.alloc (.cells #[.int .i64 32, .int .i64 24, .int .i64 (-149), .bool s, U z] 78)) v1.heap.size (.int .i64 32) (.int .i64 24) (.int .i64 (-149)) (.bool s) (U z)) := B5q.new v1 _ _ _ _ _ _
  have hbn : Below v1.heap.size v1 (v1.alloc (.cells #[.int .i64 32, .int .i64 24, .int .i64 (-149), .bool s, U z] 78)) := below1 v1 _
  generalize v1.alloc (.cells #[.int .i64 32, .int .i64 24, .int .i64 (-149), .bool s, U z] 78) = Wp at *
  have HGp : Hid (w.heap.size ≤ v1.heap.size) := hbw.size
  replace hbw := Below.on hbw hbn
  clear hbn
  generalize v1.heap.size = gp at *
  have Xp := Xp0
  clear Xp0
  refine (class_32 rfl s z _).mono ?_
  rintro e2 v2 ⟨rfl, hb2⟩
  rw [HC.out]
  replace Xp : Hid _ := Xp.out.below hb2
  replace hbw := Below.on hbw hb2
  clear hb2
  go_wp2_with fail
  go_ret2
  exact ⟨rfl, hbw⟩
theorem clsof_64 (b : Nat) (hb : b < 2 * 9223372036854775808) (w : World) :
    Calls Tryz.prog 18 #[.int .i64 64, U b] w fun en w' => en = .returned (.tuple #[.int .i64 (clsN 4503599627370496 9218868437227405312 (b % 9223372036854775808)), .int .i64 0]) ∧ Below w.heap.size w w' := by
  have hbw : Below w.heap.size w w := Below.refl _ _
  obtain ⟨z, hz⟩ : ∃ z : Nat, z = b % 9223372036854775808 := ⟨_, rfl⟩
  obtain ⟨s, hs⟩ : ∃ s, s = decide (9223372036854775808 ≤ b) := ⟨_, rfl⟩
  obtain ⟨c, hc⟩ : ∃ c, c = clsN 4503599627370496 9218868437227405312 z := ⟨_, rfl⟩
  have HPT : Hid (∀ w, Calls Tryz.prog 41 #[.int .i64 64, U b] w fun e w' => e = .returned (.tuple #[PV 64 53 (-1074) s z, .int .i64 0]) ∧ Below w.heap.size w w') := by rw [hz, hs]; exact fun w => fm_64.pat b w hb
  rw [← hz, ← hc]
  have HC : Hid (clsN 4503599627370496 9218868437227405312 z = c) := hc.symm
  clear hz hs hc hb
  go_enter Tryz.func18, Tryz.ntmps18
  go_wp2_with fail
  refine (HPT.out _).mono ?_
  rintro e v1 ⟨rfl, hb1⟩
  replace hbw := Below.on hbw hb1
  clear hb1
  go_wp2_with fail
  have Xp0 : Hid (B5q (v1.alloc (.cells #[.int .i64 64, .int .i64 53, .int .i64 (-1074), .bool s, U z] 78)) v1.heap.size (.int .i64 64) (.int .i64 53) (.int .i64 (-1074)) (.bool s) (U z)) := B5q.new v1 _ _ _ _ _ _
  have hbn : Below v1.heap.size v1 (v1.alloc (.cells #[.int .i64 64, .int .i64 53, .int .i64 (-1074), .bool s, U z] 78)) := below1 v1 _
  generalize v1.alloc (.cells #[.int .i64 64, .int .i64 53, .int .i64 (-1074), .bool s, U z] 78) = Wp at *
  have HGp : Hid (w.heap.size ≤ v1.heap.size) := hbw.size
  replace hbw := Below.on hbw hbn
  clear hbn
  generalize v1.heap.size = gp at *
  have Xp := Xp0
  clear Xp0
  refine (class_64 rfl s z _).mono ?_
  rintro e2 v2 ⟨rfl, hb2⟩
  rw [HC.out]
  replace Xp : Hid _ := Xp.out.below hb2
  replace hbw := Below.on hbw hb2
  clear hb2
  go_wp2_with fail
  go_ret2
  exact ⟨rfl, hbw⟩
theorem vs_next {H : Nat} (hH : 0 < H) (s : Nat) : vs H (s + 1) = vs H s + 2 ^ (s / H - 1) := by
  have h1 := Nat.div_add_mod s H
  have h2 := Nat.mod_lt s hH
  have h3 := Nat.div_add_mod (s + 1) H
  have h4 := Nat.mod_lt (s + 1) hH
  have h5 : s / H ≤ (s + 1) / H := Nat.div_le_div_right (by omega)
  have h6 : (s + 1) / H ≤ s / H + 1 := by
    have : (s + 1) / H ≤ (s + H) / H := Nat.div_le_div_right (by omega)
    rw [Nat.add_div_right _ hH] at this
    exact this
  unfold vs
  by_cases h7 : (s + 1) / H = s / H
  · rw [h7]
    have hq : (s / H - 1) * H ≤ s := by
      rw [Nat.sub_mul, Nat.mul_comm]; omega
    rw [show s + 1 - (s / H - 1) * H = s - (s / H - 1) * H + 1 from by omega, Nat.add_mul, Nat.one_mul]
  · have h8 : (s + 1) / H = s / H + 1 := by omega
    rw [h8, Nat.add_sub_cancel]
    rw [h8, Nat.mul_add, Nat.mul_one] at h3
    obtain ⟨k, hk⟩ : ∃ k, k = s / H := ⟨_, rfl⟩
    rw [← hk] at h1 h3 ⊢
    obtain ⟨y, hy⟩ : ∃ y, y = H * k := ⟨_, rfl⟩
    rw [← hy] at h1 h3
    rw [Nat.mul_comm k H, ← hy]
    by_cases h9 : k = 0
    · subst h9
      have : y = 0 := by rw [hy]; simp
      simp
      omega
    · obtain ⟨j, rfl⟩ : ∃ j, k = j + 1 := ⟨k - 1, by omega⟩
      rw [Nat.add_sub_cancel, Nat.pow_succ]
      have hj : j * H + H = y := by rw [hy, Nat.mul_comm H, Nat.add_mul, Nat.one_mul]
      have e1 : s + 1 - y = H := by omega
      have e2 : s - j * H = 2 * H - 1 := by omega
      rw [e1, e2, Nat.mul_comm (2 ^ j) 2, ← Nat.mul_assoc, Nat.sub_mul, Nat.one_mul, Nat.mul_comm H 2]
      have : 1 * 2 ^ j ≤ 2 * H * 2 ^ j := Nat.mul_le_mul_right _ (by omega)
      omega
theorem dv_lt {x y : Int} (e : Int) (h : x < y) : dv x e < dv y e := by
  have h1 : (0 : Int) < ((2 ^ (e + 4194304).toNat : Nat) : Int) := by have := Nat.pow_pos (n := (e + 4194304).toNat) (show 0 < 2 by omega); omega
  exact Int.mul_lt_mul_of_pos_right h h1
def neN (a d : Nat) : Nat := a / d + (neUp a d).toNat
theorem neN_mul (a d c : Nat) (hc : 0 < c) : neN (a * c) (d * c) = neN a d := by
  have h1 : a * c / (d * c) = a / d := Nat.mul_div_mul_right _ _ hc
  have h2 : a * c % (d * c) = a % d * c := Nat.mul_mod_mul_right _ _ _
  have h3 : decide (d * c < 2 * (a % d * c)) = decide (d < 2 * (a % d)) := by
    rw [← Nat.mul_assoc]
    exact decide_eq_decide.2 (Nat.mul_lt_mul_right hc)
  have h4 : decide (2 * (a % d * c) = d * c) = decide (2 * (a % d) = d) := by
    rw [← Nat.mul_assoc]
    exact decide_eq_decide.2 (Nat.mul_right_cancel_iff hc)
  unfold neN neUp
  rw [h1, h2, h3, h4]
theorem neN_ex (a d : Nat) (hd : 0 < d) : neN (a * d) d = a := by
  unfold neN neUp
  rw [Nat.mul_div_cancel _ hd, Nat.mul_mod_left]
  have h1 : decide (d < 2 * 0) = false := decide_eq_false (by omega)
  have h2 : decide (2 * 0 = d) = false := decide_eq_false (by omega)
  rw [h1, h2]
  rfl
def hv (H z : Nat) : Nat := 2 * vs H z + 2 ^ (z / H - 1)
theorem hv_gt (H z : Nat) : 2 * vs H z < hv H z := by
  unfold hv
  have : 0 < 2 ^ (z / H - 1) := Nat.pow_pos (by omega)
  omega
theorem hv_lt {H : Nat} (hH : 0 < H) (z : Nat) : hv H z < 2 * vs H (z + 1) := by
  have : 0 < 2 ^ (z / H - 1) := Nat.pow_pos (by omega)
  rw [vs_next hH]
  unfold hv
  omega
theorem vs_le {H : Nat} (hH : 0 < H) {s t : Nat} (h : s ≤ t) : vs H s ≤ vs H t := by
  rcases Nat.lt_or_eq_of_le h with h1 | h1
  · exact Nat.le_of_lt (vs_mono hH h1)
  · rw [h1]; exact Nat.le_refl _
structure RNz (H : Nat) (l : Int) (I : Nat) (A : Int) (Z : Nat) : Prop where
  le : Z ≤ I
  lo : ∀ z, z < I → A < dv (hv H z : Int) (l - 1) → Z ≤ z
  hi : ∀ z, z < I → dv (hv H z : Int) (l - 1) < A → z < Z
  eq : ∀ z, z < I → A = dv (hv H z : Int) (l - 1) → (Z = z ∨ Z = z + 1) ∧ Z % 2 = 0
theorem RNz.mono {H : Nat} {l : Int} {I : Nat} {A B : Int} {Z Y : Nat} (h : RNz H l I A Z) (k : RNz H l I B Y) (hAB : A ≤ B) : Z ≤ Y := by
  refine Nat.le_of_not_lt fun hlt => ?_
  have hY : Y < I := Nat.lt_of_lt_of_le hlt h.le
  have hz : ∀ x : Int, x = dv (hv H Y : Int) (l - 1) → False := fun x hx => by
    rcases Int.lt_trichotomy B x with h1 | h1 | h1
    · have := h.lo Y hY (by omega); omega
    · have h2 := k.eq Y hY (by omega)
      rcases Int.lt_or_eq_of_le hAB with h3 | h3
      · have := h.lo Y hY (by omega); omega
      · have h4 := h.eq Y hY (by omega)
        omega
    · have := k.hi Y hY (by omega); omega
  exact hz _ rfl
theorem RNz.uniq {H : Nat} {l : Int} {I : Nat} {A : Int} {Z Y : Nat} (h : RNz H l I A Z) (k : RNz H l I A Y) : Z = Y :=
  Nat.le_antisymm (h.mono k (Int.le_refl _)) (k.mono h (Int.le_refl _))
def rnz (l : Int) (sd : Nat) (Be : Int) (I m : Nat) (e : Int) : Nat :=
  if Be ≤ e + bitsN m - 1 then I
  else ((max (e + bitsN m - 1 - sd) l - l).toNat) * 2 ^ sd +
    (if e < max (e + bitsN m - 1 - sd) l then neN m (2 ^ (max (e + bitsN m - 1 - sd) l - e).toNat) else m * 2 ^ (e - max (e + bitsN m - 1 - sd) l).toNat)
theorem dv_lt_iff {x y : Int} (e : Int) : dv x e < dv y e ↔ x < y := by
  refine ⟨fun h => ?_, dv_lt e⟩
  rcases Int.lt_or_le x y with h1 | h1
  · exact h1
  · have := dv_le e h1; omega
theorem nat_pow_split {a b c : Nat} (h : a + b = c) : 2 ^ a * 2 ^ b = 2 ^ c := by rw [← Nat.pow_add, h]
theorem rnz_ok {l : Int} {sd : Nat} {Be : Int} {I m : Nat} {e : Int} (hI : (I : Int) = (Be - l - sd + 1) * ((2 ^ sd : Nat) : Int)) (hsd : 1 ≤ sd) (hBe : 0 < Be - l - sd) (hl : -4194303 ≤ l) (hm : m ≠ 0) (he : -4194304 ≤ e) :
    RNz (2 ^ sd) l I (dv m e) (rnz l sd Be I m e) := by
  obtain ⟨H, hH⟩ : ∃ H, H = 2 ^ sd := ⟨_, rfl⟩
  have hHp : 0 < H := by rw [hH]; exact Nat.pow_pos (by omega)
  have hH2 : H % 2 = 0 := by
    obtain ⟨k, rfl⟩ : ∃ k, sd = k + 1 := ⟨sd - 1, by omega⟩
    rw [hH, Nat.pow_succ]; omega
  obtain ⟨t, ht⟩ : ∃ t : Int, t = min e (l - 1) := ⟨_, rfl⟩
  have hB1 := bitsN_lt m
  have hB2 := bitsN_le m hm
  have hB0 : 1 ≤ bitsN m := by unfold bitsN; rw [if_neg hm]; omega
  obtain ⟨L, hL⟩ : ∃ L, L = bitsN m := ⟨_, rfl⟩
  obtain ⟨A, hA⟩ : ∃ A, A = m * 2 ^ (e - t).toNat := ⟨_, rfl⟩
  obtain ⟨K, hK⟩ : ∃ K, K = 2 ^ (l - 1 - t).toNat := ⟨_, rfl⟩
  have hKp : 0 < K := by rw [hK]; exact Nat.pow_pos (by omega)
  have eA : dv m e = dv (A : Int) t := by
    have := dv_shift (z := (m : Int)) (e := e) (f := t) (by omega) (by omega)
    rw [this, hA, Int.natCast_mul]
  have eM : ∀ z : Nat, dv (hv H z : Int) (l - 1) = dv ((hv H z * K : Nat) : Int) t := fun z => by
    have := dv_shift (z := (hv H z : Int)) (e := l - 1) (f := t) (by omega) (by omega)
    rw [this, hK, Int.natCast_mul]
  have key : ∀ Z : Nat, Z ≤ I → (∀ z, z < I → (A < hv H z * K → Z ≤ z) ∧ (hv H z * K < A → z < Z) ∧ (A = hv H z * K → (Z = z ∨ Z = z + 1) ∧ Z % 2 = 0)) → RNz H l I (dv m e) Z := fun Z h1 h2 =>
    ⟨h1, fun z hz h => (h2 z hz).1 (by rw [eA, eM, dv_lt_iff] at h; omega), fun z hz h => (h2 z hz).2.1 (by rw [eA, eM, dv_lt_iff] at h; omega), fun z hz h => (h2 z hz).2.2 (by
      rw [eA, eM] at h
      rcases Nat.lt_trichotomy A (hv H z * K) with h3 | h3 | h3
      · have := dv_lt t (Int.ofNat_lt.2 h3); omega
      · exact h3
      · have := dv_lt t (Int.ofNat_lt.2 h3); omega)⟩
  obtain ⟨N, hN⟩ : ∃ N : Nat, (N : Int) = Be - l - sd := ⟨(Be - l - sd).toNat, by omega⟩
  have hIN : I = (N + 1) * H := by
    rw [← hN, ← hH] at hI
    exact Int.ofNat.inj (by rw [Int.ofNat_eq_natCast, hI, Int.ofNat_eq_natCast, Int.natCast_mul]; rfl)
  rw [← hH]
  unfold rnz
  rw [← hL, ← hH]
  rw [← hL] at hB1 hB2 hB0
  by_cases htop : Be ≤ e + L - 1
  · rw [if_pos htop]
    refine key I (Nat.le_refl _) fun z hz => ?_
    have h1 : hv H z * K < A := by
      have h2 := hv_lt hHp z
      have h3 := vs_le hHp (show z + 1 ≤ I from hz)
      have h4 : vs H I = H * 2 ^ N := by
        unfold vs
        rw [hIN, Nat.mul_div_cancel _ hHp, Nat.add_sub_cancel, Nat.add_mul, Nat.one_mul, Nat.add_sub_cancel_left]
      have h5 : hv H z < 2 * (H * 2 ^ N) := by omega
      have h6 : hv H z * K < 2 * (H * 2 ^ N) * K := Nat.mul_lt_mul_of_pos_right h5 hKp
      have h7 : 2 * (H * 2 ^ N) * K = 2 ^ (Be - t).toNat := by
        rw [hH, hK, nat_pow_split (rfl : sd + N = sd + N), ← Nat.pow_succ', nat_pow_split rfl]
        congr 1
        omega
      have h8 : 2 ^ (Be - t).toNat ≤ A := by
        rw [hA]
        have h9 : 2 ^ (L - 1) * 2 ^ (e - t).toNat ≤ m * 2 ^ (e - t).toNat := Nat.mul_le_mul_right _ hB2
        rw [nat_pow_split rfl] at h9
        exact Nat.le_trans (Nat.pow_le_pow_right (by omega) (by omega)) h9
      omega
    exact ⟨fun h => by omega, fun _ => hz, fun h => by omega⟩
  · rw [if_neg htop]
    obtain ⟨u, hu⟩ : ∃ u : Int, u = max (e + L - 1 - sd) l := ⟨_, rfl⟩
    rw [← hu]
    obtain ⟨q, hq⟩ : ∃ q, q = (u - l).toNat := ⟨_, rfl⟩
    rw [← hq]
    obtain ⟨D, hD⟩ : ∃ D, D = 2 ^ (u - t).toNat := ⟨_, rfl⟩
    have hDp : 0 < D := by rw [hD]; exact Nat.pow_pos (by omega)
    have hDK : D = 2 * (2 ^ q * K) := by
      rw [hD, hK, nat_pow_split rfl, ← Nat.pow_succ']
      congr 1
      omega
    have hz0 : (if e < u then neN m (2 ^ (u - e).toNat) else m * 2 ^ (e - u).toNat) = neN A D := by
      by_cases heu : e < u
      · rw [if_pos heu, hA, hD, ← neN_mul m (2 ^ (u - e).toNat) (2 ^ (e - t).toNat) (Nat.pow_pos (by omega)), nat_pow_split (a := (u - e).toNat) rfl]
        congr 2
        omega
      · rw [if_neg heu, ← neN_ex (m * 2 ^ (e - u).toNat) D hDp, hA, hD, Nat.mul_assoc, nat_pow_split (a := (e - u).toNat) rfl]
        congr 3
        omega
    rw [hz0]
    obtain ⟨y, hy⟩ : ∃ y, y = A / D := ⟨_, rfl⟩
    obtain ⟨r, hr⟩ : ∃ r, r = A % D := ⟨_, rfl⟩
    have hAyr : D * y + r = A := by rw [hy, hr]; exact Nat.div_add_mod A D
    have hrD : r < D := by rw [hr]; exact Nat.mod_lt _ hDp
    have hAlt : A < 2 * H * D := by
      have h1 : A < 2 ^ L * 2 ^ (e - t).toNat := by rw [hA]; exact Nat.mul_lt_mul_of_pos_right hB1 (Nat.pow_pos (by omega))
      rw [nat_pow_split rfl] at h1
      refine Nat.lt_of_lt_of_le h1 ?_
      rw [hH, hD, ← Nat.pow_succ', nat_pow_split rfl]
      exact Nat.pow_le_pow_right (by omega) (by omega)
    have hy2 : y < 2 * H := by rw [hy]; exact Nat.div_lt_of_lt_mul (by rw [Nat.mul_comm]; exact hAlt)
    have hyH : q ≠ 0 → H ≤ y := by
      intro hq0
      rw [hy]
      refine (Nat.le_div_iff_mul_le hDp).2 ?_
      have h9 : 2 ^ (L - 1) * 2 ^ (e - t).toNat ≤ A := by rw [hA]; exact Nat.mul_le_mul_right _ hB2
      rw [nat_pow_split rfl] at h9
      refine Nat.le_trans ?_ h9
      rw [hH, hD, nat_pow_split rfl]
      exact Nat.pow_le_pow_right (by omega) (by omega)
    obtain ⟨zf, hzf⟩ : ∃ zf, zf = q * H + y := ⟨_, rfl⟩
    have hzq : zf / H - 1 = q := by
      have h1 : zf / H = q + y / H := by rw [hzf, Nat.mul_comm, Nat.mul_add_div hHp]
      rw [h1]
      have h3 : y / H < 2 := Nat.div_lt_of_lt_mul (by omega)
      by_cases hq0 : q = 0
      · omega
      · have h2 : 1 ≤ y / H := (Nat.le_div_iff_mul_le hHp).2 (by have := hyH hq0; omega)
        omega
    have hvz : vs H zf = y * 2 ^ q := by unfold vs; rw [hzq, hzf, Nat.add_sub_cancel_left]
    have hvn : vs H (zf + 1) = (y + 1) * 2 ^ q := by rw [vs_next hHp, hvz, hzq, Nat.add_mul, Nat.one_mul]
    have hqN : q < N := by omega
    have hzI : zf < I := by
      have h1 : (q + 2) * H ≤ (N + 1) * H := Nat.mul_le_mul_right _ (by omega)
      rw [Nat.add_mul] at h1
      omega
    have hDy : 2 * (y * 2 ^ q) * K = D * y := by
      rw [hDK, Nat.mul_comm y, Nat.mul_assoc, Nat.mul_assoc, Nat.mul_assoc, Nat.mul_assoc, Nat.mul_comm y K]
    have hDy1 : 2 * ((y + 1) * 2 ^ q) * K = D * y + D := by
      rw [hDK, Nat.mul_comm (y + 1), Nat.mul_assoc, Nat.mul_assoc, Nat.mul_comm (y + 1) K, ← Nat.mul_succ, Nat.mul_assoc, Nat.mul_assoc]
    have hmid : 2 * (hv H zf * K) = 2 * (D * y) + D := by
      have h1 : hv H zf = 2 * (y * 2 ^ q) + 2 ^ q := by unfold hv; rw [hvz, hzq]
      rw [h1, Nat.add_mul, hDy, Nat.mul_add, ← hDK]
    have hne : neN A D = y + (decide (D < 2 * r) || (decide (2 * r = D) && decide (y % 2 = 1))).toNat := by
      unfold neN neUp
      rw [← hy, ← hr]
    rw [hne]
    obtain ⟨b, hb⟩ : ∃ b, b = (decide (D < 2 * r) || (decide (2 * r = D) && decide (y % 2 = 1))).toNat := ⟨_, rfl⟩
    rw [← hb]
    have hb1 : b ≤ 1 := by rw [hb]; exact Bool.toNat_le _
    have hbl : 2 * r < D → b = 0 := fun h => by
      rw [hb, decide_eq_false (show ¬ D < 2 * r by omega), decide_eq_false (show ¬ 2 * r = D by omega)]; rfl
    have hbg : D < 2 * r → b = 1 := fun h => by rw [hb, decide_eq_true h]; rfl
    have hbe : 2 * r = D → b = y % 2 := fun h => by
      rw [hb, decide_eq_false (show ¬ D < 2 * r by omega), decide_eq_true h]
      rcases Nat.mod_two_eq_zero_or_one y with h1 | h1 <;> rw [h1] <;> rfl
    have hpar : (q * H + (y + b)) % 2 = (y + b) % 2 := by
      have : q * H % 2 = 0 := by rw [Nat.mul_mod, hH2]; simp
      omega
    refine key _ (by omega) fun z hz => ?_
    rcases Nat.lt_trichotomy z zf with h1 | h1 | h1
    · have h2 := hv_lt hHp z
      have h3 := vs_le hHp (show z + 1 ≤ zf from h1)
      have h4 : hv H z < 2 * (y * 2 ^ q) := by rw [← hvz]; omega
      have h5 : hv H z * K < 2 * (y * 2 ^ q) * K := Nat.mul_lt_mul_of_pos_right h4 hKp
      exact ⟨fun h => by omega, fun _ => by omega, fun h => by omega⟩
    · subst h1
      exact ⟨fun h => by have := hbl (by omega); omega, fun h => by have := hbg (by omega); omega, fun h => by have := hbe (by omega); omega⟩
    · have h2 := hv_gt H z
      have h3 := vs_le hHp (show zf + 1 ≤ z from h1)
      have h4 : 2 * ((y + 1) * 2 ^ q) < hv H z := by rw [← hvn]; omega
      have h5 : 2 * ((y + 1) * 2 ^ q) * K < hv H z * K := Nat.mul_lt_mul_of_pos_right h4 hKp
      exact ⟨fun _ => by omega, fun h => by omega, fun h => by omega⟩
theorem RNz.exact {H : Nat} {l : Int} {I Z : Nat} (hH : 0 < H) (hl : -4194303 ≤ l) (hZ : Z ≤ I) : RNz H l I (dv (vs H Z) l) Z := by
  have e1 : dv (vs H Z : Int) l = dv ((2 * vs H Z : Nat) : Int) (l - 1) := by
    have := dv_up (x := (vs H Z : Int)) (e := l - 1) 1 (by omega)
    rw [show l - 1 + ((1 : Nat) : Int) = l from by omega] at this
    rw [this, Nat.mul_comm, Int.natCast_mul]
  have low : ∀ z, z < Z → dv (hv H z : Int) (l - 1) < dv (vs H Z) l := fun z hz => by
    rw [e1]
    have h1 := hv_lt hH z
    have h2 := vs_le hH (show z + 1 ≤ Z from hz)
    exact dv_lt _ (by omega)
  have high : ∀ z, Z ≤ z → dv (vs H Z) l < dv (hv H z : Int) (l - 1) := fun z hz => by
    rw [e1]
    have h1 := hv_gt H z
    have h2 := vs_le hH hz
    exact dv_lt _ (by omega)
  refine ⟨hZ, fun z _ h => ?_, fun z _ h => ?_, fun z _ h => ?_⟩
  · refine Nat.le_of_not_lt fun h2 => ?_
    have := low z h2; omega
  · refine Nat.lt_of_not_le fun h2 => ?_
    have := high z h2; omega
  · rcases Nat.lt_or_ge z Z with h2 | h2
    · have := low z h2; omega
    · have := high z h2; omega
end Go.Proofs.YtfmbifocgljieaaGreatDoor
