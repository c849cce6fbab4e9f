import Derived.Test.YthobkfkeaealhaaGreatDoorJ9
import Derived.Test.YthobkfkeaealhaaGreatDoorJ8
import Derived.BigQuiet
import Derived.Deep.LoopGhost
import Derived.WalkMore
namespace Go.Proofs.YthobkfkeaealhaaGreatDoor
open Go.RowKit Go.Shelf
set_option maxRecDepth 20000
set_option maxHeartbeats 0
structure FrIs (B : Nat) (w : World) (s : Bool) (a d : Nat) (p : Option Addr) (m : Nat) (zs : List Nat) (x : Bool) (hf : Int) : Prop where
  own : Own B w p m zs
  nf : Nf B64 zs (a / d)
  le : m ≤ 8192
  ex : x = decide (a % d ≠ 0)
  hf : HfIs (a % d) d hf
  lim : a < LIM
theorem own_off {B : Nat} {w : World} {p : Option Addr} {m : Nat} {zs : List Nat} (h : Own B w p m zs) {gg : Nat} (hg : w.heap.size ≤ gg) : ∀ g, p = some ⟨g, 0, none⟩ → 0 < m → g ≠ gg := by
  intro g hp h0
  rcases h.mem with h1 | ⟨g3, hp3, hB3, hr3⟩
  · omega
  · rw [hp] at hp3
    simp only [Option.some.injEq, Addr.mk.injEq, and_true] at hp3
    have := hr3.lt h0
    omega
theorem FrIs.below {B : Nat} {w w' : World} {s : Bool} {a d : Nat} {p : Option Addr} {m : Nat} {zs : List Nat} {x : Bool} {hf : Int} (h : FrIs B w s a d p m zs x hf) (hb : Below w.heap.size w w') : FrIs B w' s a d p m zs x hf :=
  ⟨h.own.below hb, h.nf, h.le, h.ex, h.hf, h.lim⟩
theorem FrIs.up {B : Nat} {w : World} {s : Bool} {a d : Nat} {p : Option Addr} {m : Nat} {zs : List Nat} {hf : Int} (h : FrIs B w s a d p m zs true hf) : a / d + 1 < LIM := by
  have := ce_le (of_decide_eq_true h.ex.symm)
  have := h.lim
  omega
theorem FrIs.half {B : Nat} {w : World} {s : Bool} {a d : Nat} {p : Option Addr} {m : Nat} {zs : List Nat} {x : Bool} {hf : Int} (h : FrIs B w s a d p m zs x hf) (hd : 0 < d) (h0 : 0 ≤ hf) : x = true := by
  rw [h.ex]
  refine decide_eq_true ?_
  rcases h.hf with ⟨_, e⟩ | ⟨e, _⟩ | ⟨e, _⟩ <;> omega

theorem floor_any00 {B : Nat} {p : Option Addr} {m : Nat} {zs : List Nat} {a d : Nat} {w : World} (hf : Int) (h : FrIs B w false a d p m zs false hf) (hB : B ≤ w.heap.size) :
    Calls Tryz.prog 99 #[FR false p m m false hf] w fun e w' => ∃ v, e = .returned v ∧ AnsZ B w' v (fl false a d) ∧ Below w.heap.size w w' := by
  have H : Hid (FrIs B w false a d p m zs false hf) := h
  have HB : Hid (B ≤ w.heap.size) := hB
  have HVAL : Hid (fl false a d = iv false (a / d)) := by
    have e := h.ex
    show _ = _
    unfold fl
    rw [← e]; rfl
  clear h hB
  rw [HVAL.out]
  clear HVAL
  have HOF : Hid (∀ gg, w.heap.size ≤ gg → ∀ g, p = some ⟨g, 0, none⟩ → 0 < m → g ≠ gg) := fun gg hg => own_off H.out.own hg
  go_enter Tryz.func99, Tryz.ntmps99
  go_wp2_with fail
  obtain ⟨W0, hW0⟩ : ∃ W0, W0 = ((w.alloc (.cells #[.bool false, .slice p m m, .bool false, .int .i64 hf] 131)).alloc (.cells #[.bool false, .slice none 0 0] 45)) := ⟨_, rfl⟩
  have Xf : Hid (B4q W0 (w.heap.size) (.bool false) (.slice p m m) (.bool false) (.int .i64 hf)) := by rw [hW0]; exact ⟨by go_simp, by go_simp, by go_simp, by go_simp, by go_simp, by go_simp, by go_simp, by go_simp⟩
  have Xr : Hid (Box W0 (w.heap.size + 1) (.bool false) (.slice none 0 0)) := by rw [hW0]; exact ⟨by go_simp, by go_simp, by go_simp, by go_simp⟩
  have hb0 : Below w.heap.size w W0 := by rw [hW0]; exact below2 w _ _
  rw [← hW0]
  clear hW0
  have hbw : Below w.heap.size w w := Below.refl _ _
  obtain ⟨gr, hgr⟩ : ∃ g, g = w.heap.size + 1 := ⟨_, rfl⟩
  have HGr : Hid (w.heap.size ≤ gr) := by rw [hgr]; show _ ≤ _; omega
  rw [← hgr] at Xr
  try rw [← hgr]
  obtain ⟨gf, hgf⟩ : ∃ g, g = w.heap.size := ⟨_, rfl⟩
  have HGf : Hid (w.heap.size ≤ gf) := by rw [hgf]; show _ ≤ _; omega
  rw [← hgf] at Xf
  try rw [← hgf]
  have HGD : Hid (gf ≠ gr ∧ gr ≠ gf) := by rw [hgf, hgr]; exact ⟨by omega, by omega⟩
  clear hgf hgr
  replace H : Hid _ := H.out.below hb0
  replace hbw := Below.on hbw hb0
  clear hb0
  refine (rounded_f p m false false hf W0).mono ?_
  rintro e w9 ⟨rfl, hb9⟩
  replace Xf : Hid _ := Xf.out.below hb9
  replace Xr : Hid _ := Xr.out.below hb9
  replace H : Hid _ := H.out.below hb9
  replace hbw := Below.on hbw hb9
  clear hb9
  obtain ⟨b9, hb9⟩ : ∃ b, b = (false && decide (0 < m)) := ⟨_, rfl⟩
  rw [← hb9]
  have HB9 : Hid (b9 = (false && decide (0 < m))) := hb9
  clear hb9
  obtain ⟨cr0, cr1, fr0, fr1⟩ := Xr.out
  have hner := Xr.out.lt
  go_wp2_with fail
  refine bodyPost_ret (v := ZV b9 p m m) (by rw [results_cell1 rfl]; go_simp) rfl ⟨_, rfl, ?_, ?_⟩
  · rw [HB9.out]
    exact AnsZ.mk _ ((H.out.own.setNot _ _ _ (HOF.out _ HGr.out)).setNot _ _ _ (HOF.out _ HGr.out)) H.out.nf H.out.le
  · exact bSet (bSet hbw _ _ _ HGr.out) _ _ _ HGr.out
theorem floor_any01 {B : Nat} {p : Option Addr} {m : Nat} {zs : List Nat} {a d : Nat} {w : World} (hf : Int) (h : FrIs B w false a d p m zs true hf) (hB : B ≤ w.heap.size) :
    Calls Tryz.prog 99 #[FR false p m m true hf] w fun e w' => ∃ v, e = .returned v ∧ AnsZ B w' v (fl false a d) ∧ Below w.heap.size w w' := by
  have H : Hid (FrIs B w false a d p m zs true hf) := h
  have HB : Hid (B ≤ w.heap.size) := hB
  have HVAL : Hid (fl false a d = iv false (a / d)) := by
    have e := h.ex
    show _ = _
    unfold fl
    rw [← e]; rfl
  clear h hB
  rw [HVAL.out]
  clear HVAL
  have HOF : Hid (∀ gg, w.heap.size ≤ gg → ∀ g, p = some ⟨g, 0, none⟩ → 0 < m → g ≠ gg) := fun gg hg => own_off H.out.own hg
  go_enter Tryz.func99, Tryz.ntmps99
  go_wp2_with fail
  obtain ⟨W0, hW0⟩ : ∃ W0, W0 = ((w.alloc (.cells #[.bool false, .slice p m m, .bool true, .int .i64 hf] 131)).alloc (.cells #[.bool false, .slice none 0 0] 45)) := ⟨_, rfl⟩
  have Xf : Hid (B4q W0 (w.heap.size) (.bool false) (.slice p m m) (.bool true) (.int .i64 hf)) := by rw [hW0]; exact ⟨by go_simp, by go_simp, by go_simp, by go_simp, by go_simp, by go_simp, by go_simp, by go_simp⟩
  have Xr : Hid (Box W0 (w.heap.size + 1) (.bool false) (.slice none 0 0)) := by rw [hW0]; exact ⟨by go_simp, by go_simp, by go_simp, by go_simp⟩
  have hb0 : Below w.heap.size w W0 := by rw [hW0]; exact below2 w _ _
  rw [← hW0]
  clear hW0
  have hbw : Below w.heap.size w w := Below.refl _ _
  obtain ⟨gr, hgr⟩ : ∃ g, g = w.heap.size + 1 := ⟨_, rfl⟩
  have HGr : Hid (w.heap.size ≤ gr) := by rw [hgr]; show _ ≤ _; omega
  rw [← hgr] at Xr
  try rw [← hgr]
  obtain ⟨gf, hgf⟩ : ∃ g, g = w.heap.size := ⟨_, rfl⟩
  have HGf : Hid (w.heap.size ≤ gf) := by rw [hgf]; show _ ≤ _; omega
  rw [← hgf] at Xf
  try rw [← hgf]
  have HGD : Hid (gf ≠ gr ∧ gr ≠ gf) := by rw [hgf, hgr]; exact ⟨by omega, by omega⟩
  clear hgf hgr
  replace H : Hid _ := H.out.below hb0
  replace hbw := Below.on hbw hb0
  clear hb0
  refine (rounded_f p m false true hf W0).mono ?_
  rintro e w9 ⟨rfl, hb9⟩
  replace Xf : Hid _ := Xf.out.below hb9
  replace Xr : Hid _ := Xr.out.below hb9
  replace H : Hid _ := H.out.below hb9
  replace hbw := Below.on hbw hb9
  clear hb9
  obtain ⟨b9, hb9⟩ : ∃ b, b = (false && decide (0 < m)) := ⟨_, rfl⟩
  rw [← hb9]
  have HB9 : Hid (b9 = (false && decide (0 < m))) := hb9
  clear hb9
  obtain ⟨cr0, cr1, fr0, fr1⟩ := Xr.out
  have hner := Xr.out.lt
  go_wp2_with fail
  refine bodyPost_ret (v := ZV b9 p m m) (by rw [results_cell1 rfl]; go_simp) rfl ⟨_, rfl, ?_, ?_⟩
  · rw [HB9.out]
    exact AnsZ.mk _ ((H.out.own.setNot _ _ _ (HOF.out _ HGr.out)).setNot _ _ _ (HOF.out _ HGr.out)) H.out.nf H.out.le
  · exact bSet (bSet hbw _ _ _ HGr.out) _ _ _ HGr.out
theorem floor_any10 {B : Nat} {p : Option Addr} {m : Nat} {zs : List Nat} {a d : Nat} {w : World} (hf : Int) (h : FrIs B w true a d p m zs false hf) (hB : B ≤ w.heap.size) :
    Calls Tryz.prog 99 #[FR true p m m false hf] w fun e w' => ∃ v, e = .returned v ∧ AnsZ B w' v (fl true a d) ∧ Below w.heap.size w w' := by
  have H : Hid (FrIs B w true a d p m zs false hf) := h
  have HB : Hid (B ≤ w.heap.size) := hB
  have HVAL : Hid (fl true a d = iv true (a / d)) := by
    have e := h.ex
    show _ = _
    unfold fl
    rw [← e]; rfl
  clear h hB
  rw [HVAL.out]
  clear HVAL
  have HOF : Hid (∀ gg, w.heap.size ≤ gg → ∀ g, p = some ⟨g, 0, none⟩ → 0 < m → g ≠ gg) := fun gg hg => own_off H.out.own hg
  go_enter Tryz.func99, Tryz.ntmps99
  go_wp2_with fail
  obtain ⟨W0, hW0⟩ : ∃ W0, W0 = ((w.alloc (.cells #[.bool true, .slice p m m, .bool false, .int .i64 hf] 131)).alloc (.cells #[.bool false, .slice none 0 0] 45)) := ⟨_, rfl⟩
  have Xf : Hid (B4q W0 (w.heap.size) (.bool true) (.slice p m m) (.bool false) (.int .i64 hf)) := by rw [hW0]; exact ⟨by go_simp, by go_simp, by go_simp, by go_simp, by go_simp, by go_simp, by go_simp, by go_simp⟩
  have Xr : Hid (Box W0 (w.heap.size + 1) (.bool false) (.slice none 0 0)) := by rw [hW0]; exact ⟨by go_simp, by go_simp, by go_simp, by go_simp⟩
  have hb0 : Below w.heap.size w W0 := by rw [hW0]; exact below2 w _ _
  rw [← hW0]
  clear hW0
  have hbw : Below w.heap.size w w := Below.refl _ _
  obtain ⟨gr, hgr⟩ : ∃ g, g = w.heap.size + 1 := ⟨_, rfl⟩
  have HGr : Hid (w.heap.size ≤ gr) := by rw [hgr]; show _ ≤ _; omega
  rw [← hgr] at Xr
  try rw [← hgr]
  obtain ⟨gf, hgf⟩ : ∃ g, g = w.heap.size := ⟨_, rfl⟩
  have HGf : Hid (w.heap.size ≤ gf) := by rw [hgf]; show _ ≤ _; omega
  rw [← hgf] at Xf
  try rw [← hgf]
  have HGD : Hid (gf ≠ gr ∧ gr ≠ gf) := by rw [hgf, hgr]; exact ⟨by omega, by omega⟩
  clear hgf hgr
  replace H : Hid _ := H.out.below hb0
  replace hbw := Below.on hbw hb0
  clear hb0
  refine (rounded_f p m true false hf W0).mono ?_
  rintro e w9 ⟨rfl, hb9⟩
  replace Xf : Hid _ := Xf.out.below hb9
  replace Xr : Hid _ := Xr.out.below hb9
  replace H : Hid _ := H.out.below hb9
  replace hbw := Below.on hbw hb9
  clear hb9
  obtain ⟨b9, hb9⟩ : ∃ b, b = (true && decide (0 < m)) := ⟨_, rfl⟩
  rw [← hb9]
  have HB9 : Hid (b9 = (true && decide (0 < m))) := hb9
  clear hb9
  obtain ⟨cr0, cr1, fr0, fr1⟩ := Xr.out
  have hner := Xr.out.lt
  go_wp2_with fail
  refine bodyPost_ret (v := ZV b9 p m m) (by rw [results_cell1 rfl]; go_simp) rfl ⟨_, rfl, ?_, ?_⟩
  · rw [HB9.out]
    exact AnsZ.mk _ ((H.out.own.setNot _ _ _ (HOF.out _ HGr.out)).setNot _ _ _ (HOF.out _ HGr.out)) H.out.nf H.out.le
  · exact bSet (bSet hbw _ _ _ HGr.out) _ _ _ HGr.out
theorem floor_any11 {B : Nat} {p : Option Addr} {m : Nat} {zs : List Nat} {a d : Nat} {w : World} (hf : Int) (h : FrIs B w true a d p m zs true hf) (hB : B ≤ w.heap.size) :
    Calls Tryz.prog 99 #[FR true p m m true hf] w fun e w' => ∃ v, e = .returned v ∧ AnsZ B w' v (fl true a d) ∧ Below w.heap.size w w' := by
  have H : Hid (FrIs B w true a d p m zs true hf) := h
  have HB : Hid (B ≤ w.heap.size) := hB
  have HVAL : Hid (fl true a d = iv true (a / d + 1)) := by
    have e := h.ex
    show _ = _
    unfold fl
    rw [← e]; rfl
  clear h hB
  rw [HVAL.out]
  clear HVAL
  have HOF : Hid (∀ gg, w.heap.size ≤ gg → ∀ g, p = some ⟨g, 0, none⟩ → 0 < m → g ≠ gg) := fun gg hg => own_off H.out.own hg
  go_enter Tryz.func99, Tryz.ntmps99
  go_wp2_with fail
  obtain ⟨W0, hW0⟩ : ∃ W0, W0 = ((w.alloc (.cells #[.bool true, .slice p m m, .bool true, .int .i64 hf] 131)).alloc (.cells #[.bool false, .slice none 0 0] 45)) := ⟨_, rfl⟩
  have Xf : Hid (B4q W0 (w.heap.size) (.bool true) (.slice p m m) (.bool true) (.int .i64 hf)) := by rw [hW0]; exact ⟨by go_simp, by go_simp, by go_simp, by go_simp, by go_simp, by go_simp, by go_simp, by go_simp⟩
  have Xr : Hid (Box W0 (w.heap.size + 1) (.bool false) (.slice none 0 0)) := by rw [hW0]; exact ⟨by go_simp, by go_simp, by go_simp, by go_simp⟩
  have hb0 : Below w.heap.size w W0 := by rw [hW0]; exact below2 w _ _
  rw [← hW0]
  clear hW0
  have hbw : Below w.heap.size w w := Below.refl _ _
  obtain ⟨gr, hgr⟩ : ∃ g, g = w.heap.size + 1 := ⟨_, rfl⟩
  have HGr : Hid (w.heap.size ≤ gr) := by rw [hgr]; show _ ≤ _; omega
  rw [← hgr] at Xr
  try rw [← hgr]
  obtain ⟨gf, hgf⟩ : ∃ g, g = w.heap.size := ⟨_, rfl⟩
  have HGf : Hid (w.heap.size ≤ gf) := by rw [hgf]; show _ ≤ _; omega
  rw [← hgf] at Xf
  try rw [← hgf]
  have HGD : Hid (gf ≠ gr ∧ gr ≠ gf) := by rw [hgf, hgr]; exact ⟨by omega, by omega⟩
  clear hgf hgr
  replace H : Hid _ := H.out.below hb0
  replace hbw := Below.on hbw hb0
  clear hb0
  have HRL : Hid (gr < W0.heap.size ∧ w.heap.size ≤ W0.heap.size) := ⟨Xr.out.lt, hbw.size⟩
  refine (rounded_t _ _ _ H.out.own H.out.nf H.out.le H.out.up).mono ?_
  rintro e w9 ⟨v, rfl, hv, hb9⟩
  replace Xf : Hid _ := Xf.out.below hb9
  replace Xr : Hid _ := Xr.out.below hb9
  replace H : Hid _ := H.out.below hb9
  replace hbw := Below.on hbw hb9
  clear hb9
  obtain ⟨p9, m9, z9, rfl, ho, hn, hm⟩ := hv
  have HO9 : Hid (Own W0.heap.size w9 p9 m9 z9) := ho
  have HN9 : Hid (Nf B64 z9 (iv true (a / d + 1)).natAbs ∧ m9 ≤ 8192) := ⟨hn, hm⟩
  clear ho hn hm
  obtain ⟨b9, hb9⟩ : ∃ b, b = decide (iv true (a / d + 1) < 0) := ⟨_, rfl⟩
  rw [← hb9]
  have HB9 : Hid (b9 = decide (iv true (a / d + 1) < 0)) := hb9
  clear hb9
  obtain ⟨cr0, cr1, fr0, fr1⟩ := Xr.out
  have hner := Xr.out.lt
  go_wp2_with fail
  refine bodyPost_ret (v := ZV b9 p9 m9 m9) (by rw [results_cell1 rfl]; go_simp) rfl ⟨_, rfl, ⟨p9, m9, z9, by rw [HB9.out], ?_, HN9.out.1, HN9.out.2⟩, ?_⟩
  · exact own_set2 HO9.out HRL.out.1 (Nat.le_trans HB.out HRL.out.2) _ _
  · exact bSet (bSet hbw _ _ _ HGr.out) _ _ _ HGr.out
theorem floor_any {B : Nat} {p : Option Addr} {m : Nat} {zs : List Nat} {a d : Nat} {w : World} (s x : Bool) (hf : Int) (h : FrIs B w s a d p m zs x hf) (hB : B ≤ w.heap.size) :
    Calls Tryz.prog 99 #[FR s p m m x hf] w fun e w' => ∃ v, e = .returned v ∧ AnsZ B w' v (fl s a d) ∧ Below w.heap.size w w' := by
  cases s <;> cases x
  · exact floor_any00 hf h hB
  · exact floor_any01 hf h hB
  · exact floor_any10 hf h hB
  · exact floor_any11 hf h hB
end Go.Proofs.YthobkfkeaealhaaGreatDoor
namespace Go.Proofs.YthobkfkeaealhaaGreatDoor
open Go.RowKit
set_option maxRecDepth 20000
set_option maxHeartbeats 0
structure UpRel (w : World) (g n : Nat) (zs : List Nat) (s ov k : Nat) (dk : List Nat) (wr : World) : Prop where
  wrs : Wr g 0 n w wr
  row : Row wr g 0 n dk
  lo : dk.take (n - k) = zs.take (n - k)
  sum : valB B64 (dk.drop (n - k)) + B64 ^ k * ov = 2 ^ s * valB B64 (zs.drop (n - k)) + cin zs s (n - k)

theorem getD_of_take {dk zs : List Nat} {m j : Nat} (h : dk.take m = zs.take m) (hj : j < m) : dk.getD j 0 = zs.getD j 0 := by
  have := congrArg (fun l : List Nat => l[j]?) h
  simp only [List.getElem?_take, hj, if_true] at this
  rw [List.getD_eq_getElem?_getD, List.getD_eq_getElem?_getD, this]
theorem drop_set_at (dk : List Nat) (a y : Nat) (ha : a < dk.length) : (dk.set a y).drop a = y :: dk.drop (a + 1) := by
  rw [drop_getD _ a (by simpa using ha), getD_set dk a y a ha, if_pos rfl, drop_set_lt]
theorem take_set_at (dk : List Nat) (a y : Nat) : (dk.set a y).take a = dk.take a := by
  rw [List.take_set, List.set_eq_of_length_le (by simp; omega)]
theorem take_of_take {dk zs : List Nat} {m j : Nat} (h : dk.take m = zs.take m) (hj : j ≤ m) : dk.take j = zs.take j := by
  have := congrArg (List.take j) h
  rw [List.take_take, List.take_take, Nat.min_eq_left hj] at this
  exact this

theorem UpRel.step {w : World} {g n : Nat} {zs : List Nat} {s ov k : Nat} {dk : List Nat} {wr wr' : World} (h : UpRel w g n zs s ov k dk wr) (hk : k < n) (hz : zs.length = n) {d : Nat}
    (hd : d = shlW (dk.getD (n - 1 - k) 0) s + cin zs s (n - 1 - k)) (hw : Wr g 0 n w wr') (hr : Row wr' g 0 n (dk.set (n - 1 - k) d)) : UpRel w g n zs s ov (k + 1) (dk.set (n - 1 - k) d) wr' := by
  have hl := h.row.len
  have e : n - (k + 1) = n - 1 - k := by omega
  have e2 : n - 1 - k + 1 = n - k := by omega
  refine ⟨hw, hr, ?_, ?_⟩
  · rw [e, take_set_at]; exact take_of_take h.lo (by omega)
  · rw [e, drop_set_at dk _ d (by omega), e2]
    have h1 := h.sum
    rw [← e2] at h1
    have hdz : d = shlW (zs.getD (n - 1 - k) 0) s + cin zs s (n - 1 - k) := by rw [hd, getD_of_take h.lo (by omega)]
    rw [← e2]
    exact up_step (by omega) hdz h1

theorem sup_gen (g n c s : Nat) (zs : List Nat) (w : World) (hz : Row w g 0 n zs) (hnc : n ≤ c) (hbig : c ≤ 9223372036854775807) (hs : s < 64) :
    Calls Tryz.prog 101 #[.slice (some ⟨g, 0, none⟩) n c, .int .i64 s] w fun e w' =>
      ∃ zs', e = .returned (.tuple #[]) ∧ Wr g 0 n w w' ∧ Row w' g 0 n zs' ∧ valB B64 zs' + B64 ^ n * cin zs s n = 2 ^ s * valB B64 zs := by
  obtain ⟨ov, hov⟩ : ∃ ov, ov = cin zs s n := ⟨_, rfl⟩
  rw [← hov]
  have HOV : Hid (ov = cin zs s n) := hov
  clear hov
  have hl := hz.len
  go_enter Tryz.func101, Tryz.ntmps101
  go_wp2
  go_loopw [4, 5, 8] (fun _ _ i wr => ∃ (k : Nat) (dk : List Nat), k ≤ n ∧ i = .int .i64 k ∧ UpRel w g n zs s ov k dk wr) (fun _ _ i _ => n - (intOf i).toNat)
  case atStart =>
    refine ⟨0, zs, Nat.zero_le _, rfl, Wr.refl _ _ _ _, hz, rfl, ?_⟩
    rw [Nat.sub_zero, List.drop_of_length_le (by omega), HOV.out]; simp [valB]
  case round =>
    obtain ⟨k, dk, hk, rfl, hR⟩ := hrel
    by_cases hlt : k < n
    · obtain ⟨x, hx⟩ : ∃ x, x = dk.getD (n - 1 - k) 0 := ⟨_, rfl⟩
      have HR : Hid (UpRel w g n zs s ov k dk wr) := hR
      have HX : Hid (x = dk.getD (n - 1 - k) 0) := hx
      by_cases hlast : n ≤ k + 1
      · have hc0 : wr.cell? ⟨g, 0, none⟩ = some (U x) := by
          have := hR.row.cell (n - 1 - k) (by omega)
          rw [← hx, show 0 + (n - 1 - k) = 0 by omega] at this; exact this
        have hf0 : wr.frozen? ⟨g, 0, none⟩ = false := hR.row.frozen 0 (by omega)
        clear hR hx
        go_wp2
        go_roundw
        case rel =>
          have e0 : n - 1 - k = 0 := by omega
          have hh := HR.out
          have hxx := HX.out
          rw [walk_shl]
          refine ⟨k + 1, dk.set (n - 1 - k) (shlW x s), by omega, by go_num, ?_⟩
          refine hh.step hlt hl (by rw [← hxx, e0]; simp [cin]) (hh.wrs.setCell 0 ⟨by omega, by omega⟩ _) ?_
          rw [e0]
          exact hh.row.set 0 _ (by omega) (shlW_lt x s)
        case measure => simp [intOf]; omega
      · obtain ⟨y, hy⟩ : ∃ y, y = dk.getD (n - 1 - k - 1) 0 := ⟨_, rfl⟩
        have hcx : wr.cell? ⟨g, n - 1 - k, none⟩ = some (U x) := by
          have := hR.row.cell (n - 1 - k) (by omega)
          rw [← hx, Nat.zero_add] at this; exact this
        have hfx : wr.frozen? ⟨g, n - 1 - k, none⟩ = false := by
          have := hR.row.frozen (n - 1 - k) (by omega)
          rw [Nat.zero_add] at this; exact this
        have hcy : wr.cell? ⟨g, n - 1 - k - 1, none⟩ = some (U y) := by
          have := hR.row.cell (n - 1 - k - 1) (by omega)
          rw [← hy, Nat.zero_add] at this; exact this
        have HY : Hid (y = dk.getD (n - 1 - k - 1) 0) := hy
        have hyb : y < B64 := by rw [hy]; exact hR.row.dig.getD B64_pos _
        clear hR hx hy
        go_wp2
        go_region
        go_wp2
        go_roundw
        case rel =>
          have hh := HR.out
          have hxx := HX.out
          have hyy := HY.out
          rw [walk_up x y s (by omega) hyb, walk_shl]
          refine ⟨k + 1, dk.set (n - 1 - k) (shlW x s + y * 2 ^ s / B64), by omega, by go_num, ?_⟩
          refine hh.step hlt hl ?_ ((((hh.wrs.setCell (n - 1 - k) ⟨by omega, by omega⟩ _).setCell (n - 1 - k) ⟨by omega, by omega⟩ _)).drew) ?_
          · rw [← hxx]; unfold cin
            rw [if_neg (by omega), hyy, getD_of_take hh.lo (by omega)]
          · have h1 := (hh.row.set (n - 1 - k) (shlW x s) (by omega) (shlW_lt x s)).set (n - 1 - k) _ (by omega) (up_lt x y s (by omega) hyb)
            rw [Nat.zero_add, List.set_set] at h1
            exact h1.drew
        case measure => simp [intOf]; omega
    · obtain rfl : k = n := by omega
      have HR : Hid (UpRel w g k zs s ov k dk wr) := hR
      clear hR
      go_wp2
      go_end0
      have hh := HR.out
      refine ⟨dk, rfl, hh.wrs, hh.row, ?_⟩
      have := hh.sum
      rw [Nat.sub_self, List.drop_zero, List.drop_zero] at this
      simpa [cin] using this

theorem sup_any (g n c s : Nat) (zs : List Nat) (w : World) (hz : Row w g 0 n zs) (hnc : n ≤ c) (hbig : c ≤ 9223372036854775807) (hs : s < 64) (htop : n = 0 ∨ zs.getD (n - 1) 0 = 0) :
    Calls Tryz.prog 101 #[.slice (some ⟨g, 0, none⟩) n c, .int .i64 s] w fun e w' =>
      ∃ zs', e = .returned (.tuple #[]) ∧ Wr g 0 n w w' ∧ Row w' g 0 n zs' ∧ valB B64 zs' = 2 ^ s * valB B64 zs := by
  refine (sup_gen g n c s zs w hz hnc hbig hs).mono ?_
  rintro e w' ⟨zs', rfl, h1, h2, h3⟩
  refine ⟨zs', rfl, h1, h2, ?_⟩
  have e0 : cin zs s n = 0 := by
    unfold cin
    rcases htop with h | h
    · simp [h]
    · rw [h]; simp
  rw [e0, Nat.mul_zero, Nat.add_zero] at h3; exact h3
structure DnRel (w : World) (g n : Nat) (zs : List Nat) (s k : Nat) (dk : List Nat) (wr : World) : Prop where
  wrs : Wr g 0 n w wr
  row : Row wr g 0 n dk
  hi : dk.drop k = zs.drop k
  sum : 2 ^ s * valB B64 (dk.take k) + cout zs s 0 = valB B64 (zs.take k) + B64 ^ k * cout zs s k

theorem DnRel.step {w : World} {g n : Nat} {zs : List Nat} {s k : Nat} {dk : List Nat} {wr wr' : World} (h : DnRel w g n zs s k dk wr) (hk : k < n) (hz : zs.length = n) (hs : s ≤ 64) {d : Nat}
    (hd : d = dk.getD k 0 / 2 ^ s + 2 ^ (64 - s) * cout zs s (k + 1)) (hw : Wr g 0 n w wr') (hr : Row wr' g 0 n (dk.set k d)) : DnRel w g n zs s (k + 1) (dk.set k d) wr' := by
  have hl := h.row.len
  refine ⟨hw, hr, ?_, ?_⟩
  · rw [drop_set_lt]; exact drop_succ_of_drop h.hi
  · rw [take_set_succ dk k d (by omega), valB_snoc, List.length_take, hl, Nat.min_eq_left (by omega)]
    exact down_step hs (by rw [hd, getD_of_drop h.hi]) h.sum (by omega)

theorem sdn_any (g n c s : Nat) (zs : List Nat) (w : World) (hz : Row w g 0 n zs) (hnc : n ≤ c) (hbig : c ≤ 9223372036854775807) (hs : s < 64) :
    Calls Tryz.prog 114 #[.slice (some ⟨g, 0, none⟩) n c, .int .i64 s] w fun e w' =>
      ∃ zs', e = .returned (.tuple #[]) ∧ Wr g 0 n w w' ∧ Row w' g 0 n zs' ∧ valB B64 zs' = valB B64 zs / 2 ^ s := by
  have hl := hz.len
  go_enter Tryz.func114, Tryz.ntmps114
  go_wp2
  go_loopw [4, 7] (fun _ i wr => ∃ (k : Nat) (dk : List Nat), k ≤ n ∧ i = .int .i64 k ∧ DnRel w g n zs s k dk wr) (fun _ i _ => n - (intOf i).toNat)
  case atStart => exact ⟨0, zs, Nat.zero_le _, rfl, Wr.refl _ _ _ _, hz, rfl, by simp [valB]⟩
  case round =>
    obtain ⟨k, dk, hk, rfl, hR⟩ := hrel
    by_cases hlt : k < n
    · obtain ⟨x, hx⟩ : ∃ x, x = dk.getD k 0 := ⟨_, rfl⟩
      have HR : Hid (DnRel w g n zs s k dk wr) := hR
      have HX : Hid (x = dk.getD k 0) := hx
      have hxb : x < B64 := by rw [hx]; exact hR.row.dig.getD B64_pos _
      have hcx : wr.cell? ⟨g, k, none⟩ = some (U x) := by
        have := hR.row.cell k hlt
        rw [← hx, Nat.zero_add] at this; exact this
      have hfx : wr.frozen? ⟨g, k, none⟩ = false := by
        have := hR.row.frozen k hlt
        rw [Nat.zero_add] at this; exact this
      by_cases hlast : n ≤ k + 1
      · clear hR hx
        go_wp2
        go_roundw
        case rel =>
          have hh := HR.out
          have hxx := HX.out
          rw [walk_shr]
          refine ⟨k + 1, dk.set k (x / 2 ^ s), by omega, by go_num, ?_⟩
          refine hh.step hlt hl (by omega) ?_ (hh.wrs.setCell k ⟨by omega, by omega⟩ _) ?_
          · rw [← hxx]; unfold cout
            rw [List.getD_eq_getElem?_getD, List.getElem?_eq_none (by omega)]; simp
          · have h1 := hh.row.set k (x / 2 ^ s) hlt (Nat.lt_of_le_of_lt (Nat.div_le_self _ _) hxb)
            rw [Nat.zero_add] at h1; exact h1
        case measure => simp [intOf]; omega
      · obtain ⟨z, hy⟩ : ∃ z, z = dk.getD (k + 1) 0 := ⟨_, rfl⟩
        have hcz : wr.cell? ⟨g, k + 1, none⟩ = some (U z) := by
          have := hR.row.cell (k + 1) (by omega)
          rw [← hy, Nat.zero_add] at this; exact this
        have HY : Hid (z = dk.getD (k + 1) 0) := hy
        clear hR hx hy
        go_wp2
        go_region
        go_wp2
        go_roundw
        case rel =>
          have hh := HR.out
          have hxx := HX.out
          have hyy := HY.out
          have hxd : x / 2 ^ s < B64 := Nat.lt_of_le_of_lt (Nat.div_le_self _ _) hxb
          rw [walk_down x z s (by omega) hxb, walk_shr]
          refine ⟨k + 1, dk.set k (x / 2 ^ s + 2 ^ (64 - s) * (z % 2 ^ s)), by omega, by go_num, ?_⟩
          refine hh.step hlt hl (by omega) ?_ (((hh.wrs.setCell k ⟨by omega, by omega⟩ _).setCell k ⟨by omega, by omega⟩ _).drew) ?_
          · rw [← hxx]; unfold cout
            rw [hyy, getD_of_drop (drop_succ_of_drop hh.hi)]
          · have h1 := (hh.row.set k (x / 2 ^ s) hlt hxd).set k _ hlt (down_lt x z s (by omega) hxb)
            rw [Nat.zero_add, List.set_set] at h1
            exact h1.drew
        case measure => simp [intOf]; omega
    · obtain rfl : k = n := by omega
      have HR : Hid (DnRel w g k zs s k dk wr) := hR
      clear hR
      go_wp2
      go_end0
      have hh := HR.out
      refine ⟨dk, rfl, hh.wrs, hh.row, ?_⟩
      have h1 := hh.sum
      have hlk := hh.row.len
      rw [List.take_of_length_le (by omega), List.take_of_length_le (by omega)] at h1
      have h2 : cout zs s k = 0 := by unfold cout; rw [List.getD_eq_getElem?_getD, List.getElem?_eq_none (by omega)]; simp
      have h3 : cout zs s 0 < 2 ^ s := Nat.mod_lt _ (Nat.two_pow_pos _)
      rw [h2, Nat.mul_zero, Nat.add_zero] at h1
      rw [← h1, Nat.mul_add_div (Nat.two_pow_pos _), Nat.div_eq_of_lt h3, Nat.add_zero]
theorem bitsN_pos {a : Nat} (h : a ≠ 0) : 0 < bitsN a := by unfold bitsN; rw [if_neg h]; omega
theorem lt_pow_bits (x K : Nat) : x < 2 ^ K ↔ bitsN x ≤ K := by
  constructor
  · intro h
    by_cases h0 : x = 0
    · subst h0; simp [bitsN]
    · have h1 := bitsN_le x h0
      have h2 : bitsN x - 1 < K := (Nat.pow_lt_pow_iff_right (by decide : 1 < 2)).1 (Nat.lt_of_le_of_lt h1 h)
      omega
  · intro h
    exact Nat.lt_of_lt_of_le (bitsN_lt x) (Nat.pow_le_pow_right (by decide) h)
theorem bitsN_shl (a n : Nat) (h : a ≠ 0) : bitsN (2 ^ n * a) = n + bitsN a := by
  have := bitsN_top (lo := 0) (k := n) (Nat.two_pow_pos n) (bitsN_lt a) (bitsN_le a h) (by have := bitsN_pos h; omega)
  rw [Nat.zero_add] at this; exact this
theorem LIM_two (k : Nat) (hk : k = 524288) : LIM = 2 ^ k := by
  obtain ⟨K, hK⟩ : ∃ K, K = 8192 := ⟨_, rfl⟩
  rw [LIM_eq K hK, B64_pow, show 64 * K = k by omega]
theorem lim_bits (x : Nat) : x < LIM ↔ bitsN x ≤ 524288 := by
  obtain ⟨K, hK⟩ : ∃ K, K = 524288 := ⟨_, rfl⟩
  rw [LIM_two K hK, lt_pow_bits, hK]
theorem lim_shl (a n : Nat) (h : a ≠ 0) : 2 ^ n * a < LIM ↔ n + bitsN a ≤ 524288 := by rw [lim_bits, bitsN_shl a n h]
theorem splice_mid (L o : Nat) (xs : List Nat) (h : o + xs.length ≤ L) : splice (cellsU (List.replicate L 0)) o (cellsU xs) = cellsU (List.replicate o 0 ++ xs ++ List.replicate (L - (o + xs.length)) 0) := by
  unfold splice cellsU
  simp only [List.map_append, List.map_replicate, List.take_replicate, List.drop_replicate, List.length_map, List.append_assoc]
  rw [Nat.min_eq_left (by omega)]
theorem valB_shifted (o r : Nat) (xs : List Nat) : valB B64 (List.replicate o 0 ++ xs ++ List.replicate r 0) = B64 ^ o * valB B64 xs := by
  rw [valB_append_zeros, valB_append, valB_replicate, List.length_replicate, Nat.zero_add]
theorem shl_split (n a : Nat) : 2 ^ (n % 64) * (B64 ^ (n / 64) * a) = 2 ^ n * a := by
  rw [B64_pow, ← Nat.mul_assoc, ← Nat.pow_add, Nat.mod_add_div]

theorem shl_nf {p : Option Addr} {m c : Nat} {xs : List Nat} {a : Nat} {w : World} (h : At w p m c xs) (hx : Nf B64 xs a) (hm : m ≤ 8192) (n : Nat) (hn : n ≤ 9223372036854775807) :
    Calls Tryz.prog 89 #[.slice p m c, .int .i64 n] w fun e w' => Ans w.heap.size w' e (2 ^ n * a) ∧ Below w.heap.size w w' := by
  have fx := hx.form (by rw [h.len]; exact hm)
  have hl := h.len
  have HX : Hid (Nf B64 xs a) := hx
  clear hx
  by_cases h0 : m = 0
  · subst h0
    have hxe : xs = [] := List.eq_nil_of_length_eq_zero hl
    have ha : a = 0 := (HX.out.zero_iff B64_one).1 hxe
    have HA : Hid (2 ^ n * a = 0) := by rw [ha]; exact Nat.mul_zero _
    clear ha hxe hl
    go_enter Tryz.func89, Tryz.ntmps89
    go_wp2_with fail
    refine (form_true h fx).mono ?_
    rintro e w' ⟨rfl, hw⟩
    obtain rfl := hw.symm
    clear hw fx
    go_wp2_with fail
    go_ret2
    refine ⟨.inl ⟨?_, none, 0, [], rfl, ⟨rfl, Dig.nil _, .inl rfl⟩, ?_, by omega⟩, Below.refl _ _⟩
    · rw [HA.out]; exact (Nf.nil B64).lim.1 (by simp)
    · rw [HA.out]; exact Nf.nil _
  · have ha : a ≠ 0 := by
      intro e
      have := (HX.out.zero_iff B64_one).2 e
      rw [this] at hl; simp at hl; omega
    have h0' : ((m : Int) == 0) = false := by simp; omega
    have hls := lim_shl a n ha
    have hbl : bitsN a ≤ 524288 := by rw [← lim_bits]; exact HX.out.lim.1 (by omega)
    have HL : Hid (2 ^ n * a < LIM ↔ n + bitsN a ≤ 524288) := hls
    clear hls ha
    go_enter Tryz.func89, Tryz.ntmps89
    go_wp2_with fail
    refine (form_true h fx).mono ?_
    rintro e w' ⟨rfl, hw⟩
    obtain rfl := hw.symm
    clear hw fx
    go_wp2_with fail
    refine (bits_any h (by omega)).mono ?_
    rintro e w' ⟨rfl, hw⟩
    obtain rfl := hw.symm
    clear hw
    rw [HX.out.val]
    by_cases hbig : n + bitsN a ≤ 524288
    · obtain ⟨i0, hi, hz0, hz1, hz2⟩ := info_parts Tryz.infoU64
      go_wp2_with (first
        | (at_make; refine wpList_make_full _ rfl _ _ 43 rfl w.heap.size 22 i0 (.int .u64 0) 1 Tryz.underlying43 hi hz0 hz1 _ _ _ _ (m + n / 64 + 1) rfl rfl (by omega) (by omega) (by rw [hz2]; omega) (by unfold maxLen; omega) (Nat.le_refl _) ?_; intro w1 hown hgrow; have hb := made_blk hown hgrow; clear hown hgrow)
        | (refine wpList_copy_splice rfl (.tmp 30) (.tmp 31) 43 43 rfl 22 Tryz.underlying43 Tryz.sizeU64 (some ⟨w.heap.size, n / 64, none⟩) p (m + n / 64 + 1 - n / 64) (m + n / 64 + 1 - n / 64) m c rfl rfl w.heap.size (n / 64) (cellsU (List.replicate (m + n / 64 + 1) 0)) 22 hb.1 (cellsU xs) (by rw [cellsU_length, hl]; exact (Nat.min_eq_left (by omega)).symm) (fun h0 => ⟨rfl, (h.below hb.2).src (by rw [cellsU_length] at h0; omega)⟩) (by simp [cellsU_length]; omega) (cellsU_one xs) w.heap.size w hb.2 (Nat.le_refl _) ?_; intro w2 hg2 hb2))
      have hg3 : Blk w2 w.heap.size (List.replicate (n / 64) 0 ++ xs ++ List.replicate (m + n / 64 + 1 - (n / 64 + xs.length)) 0) := by
        have := hg2.out
        rw [splice_mid _ _ _ (by omega)] at this; exact this
      clear hg2 hb
      have hdz : Dig B64 (List.replicate (n / 64) 0 ++ xs ++ List.replicate (m + n / 64 + 1 - (n / 64 + xs.length)) 0) := dig_pad ((Dig.replicate _ _ B64_pos).append HX.out.dig) _
      have hr := hg3.row hdz
      have hlz : (List.replicate (n / 64) 0 ++ xs ++ List.replicate (m + n / 64 + 1 - (n / 64 + xs.length)) 0).length = m + n / 64 + 1 := by simp; omega
      rw [hlz] at hr
      refine (sup_any w.heap.size (m + n / 64 + 1) (m + n / 64 + 1) (n % 64) _ _ hr (Nat.le_refl _) (by omega) (by omega) (.inr ?_)).mono ?_
      · rw [Nat.add_sub_cancel, List.getD_eq_getElem?_getD, List.getElem?_append_right (by simp; omega), List.getElem?_replicate]
        split <;> rfl
      rintro e w3 ⟨zs, rfl, hwr, hrow, hval⟩
      rw [valB_shifted, HX.out.val, shl_split] at hval
      have A3 := hrow.at_ (Nat.le_refl _) (by unfold maxLen; omega)
      have hN := Nf.trim hrow.dig
      rw [hval] at hN
      have HV : Hid (Nf B64 (trimL zs) (2 ^ n * a)) := hN
      have hb3 : Below w.heap.size w w3 := hb2.trans (hwr.below (Nat.le_refl _))
      clear hval hN hg3 hdz hr hlz hb2
      go_wp2_with fail
      refine (trim_any A3).mono ?_
      rintro e w4 ⟨p', m', rfl, hm', hp', hw⟩
      obtain rfl := hw.symm
      have HM : Hid (m' = (trimL zs).length) := hm'
      clear hw hm'
      go_wp2_with fail
      go_ret2
      have e1 := HM.out
      have e2 := HL.out.2 hbig
      exact ⟨.inl ⟨e2, p', m', trimL zs, rfl, hrow.own (Nat.le_refl _) e1 hp', HV.out, by have := HV.out.lim.2 e2; omega⟩, hb3⟩
    · go_wp2_with fail
      go_ret2
      refine ⟨.inr ⟨?_, rfl⟩, Below.refl _ _⟩
      have := mt HL.out.1 hbig
      omega
theorem div_pow_zero {a n : Nat} (h : bitsN a ≤ n) : a / 2 ^ n = 0 := Nat.div_eq_of_lt ((lt_pow_bits a n).2 h)
theorem len_bits {xs : List Nat} {a m : Nat} (hx : Nf B64 xs a) (hl : xs.length = m) : bitsN a ≤ 64 * m := by
  rw [← lt_pow_bits, ← B64_pow]; exact (hx.len_le B64_one).1 (by omega)
theorem drop_div {xs : List Nat} {a k : Nat} (hx : Nf B64 xs a) (hk : k ≤ xs.length) : valB B64 (xs.drop k) = a / B64 ^ k := by
  have h1 := valB_split B64 xs k hk
  have h2 := valB_lt B64_pos (hx.dig.take k)
  rw [List.length_take, Nat.min_eq_left hk] at h2
  rw [hx.val] at h1
  rw [h1, Nat.add_mul_div_left _ _ (Nat.pow_pos B64_pos), Nat.div_eq_of_lt h2, Nat.zero_add]
theorem shr_split (n a : Nat) : a / B64 ^ (n / 64) / 2 ^ (n % 64) = a / 2 ^ n := by
  rw [B64_pow, Nat.div_div_eq_div_mul, ← Nat.pow_add, Nat.div_add_mod]
theorem Own.empty (B : Nat) (w : World) (p : Option Addr) : Own B w p 0 [] := ⟨rfl, Dig.nil _, .inl rfl⟩
theorem At.drop {w : World} {g off n c : Nat} {xs : List Nat} (h : At w (some ⟨g, off, none⟩) n c xs) (k : Nat) (hk : k < n) : At w (some ⟨g, off + k, none⟩) (n - k) (n - k) (xs.drop k) := by
  have h1 := h.len; have h2 := h.cap; have h3 := h.big
  refine ⟨by rw [List.length_drop, h1], Nat.le_refl _, by omega, h.dig.drop k, .inr ⟨g, off + k, rfl, fun j hj => ?_⟩⟩
  obtain ⟨g', off', hp, hc⟩ := h.cells.resolve_left (by omega)
  simp only [Option.some.injEq, Addr.mk.injEq, and_true] at hp
  obtain ⟨rfl, rfl⟩ := hp
  have e : (xs.drop k).getD j 0 = xs.getD (k + j) 0 := by rw [List.getD_eq_getElem?_getD, List.getD_eq_getElem?_getD, List.getElem?_drop]
  rw [e, Nat.add_assoc]; exact hc (k + j) (by omega)

theorem shr_nf {p : Option Addr} {m c : Nat} {xs : List Nat} {a : Nat} {w : World} (h : At w p m c xs) (hx : Nf B64 xs a) (hm : m ≤ 8192) (n : Nat) (hn : n ≤ 9223372036854775807) :
    Calls Tryz.prog 110 #[.slice p m c, .int .i64 n] w fun e w' =>
      (∃ p' m' zs, e = .returned (.tuple #[.slice p' m' m', .int .i64 0]) ∧ Own w.heap.size w' p' m' zs ∧ Nf B64 zs (a / 2 ^ n) ∧ m' ≤ 8192) ∧ Below w.heap.size w w' := by
  have fx := hx.form (by rw [h.len]; exact hm)
  have hl := h.len
  have hcap := h.cap
  have HX : Hid (Nf B64 xs a) := hx
  have hbm := len_bits hx hl
  clear hx
  go_enter Tryz.func110, Tryz.ntmps110
  go_wp2_with fail
  refine (form_true h fx).mono ?_
  rintro e w' ⟨rfl, hw⟩
  obtain rfl := hw.symm
  clear hw fx
  go_wp2_with fail
  refine (bits_any h (by omega)).mono ?_
  rintro e w' ⟨rfl, hw⟩
  obtain rfl := hw.symm
  clear hw
  rw [HX.out.val]
  by_cases hbig : bitsN a ≤ n
  · have HZ : Hid (a / 2 ^ n = 0) := div_pow_zero hbig
    go_wp2_with fail
    go_ret2
    exact ⟨⟨none, 0, [], rfl, Own.empty _ _ _, by rw [HZ.out]; exact Nf.nil _, by omega⟩, Below.refl _ _⟩
  · obtain ⟨g, off, rfl, _⟩ := h.cells.resolve_left (by omega)
    have hkm : n / 64 < m := by omega
    go_wp2_with fail
    rw [show ((n : Int) / 64) = ((n / 64 : Nat) : Int) by omega]
    refine (cut_row g off m c (n / 64) _ hcap (by omega)).mono ?_
    rintro e w1 ⟨rfl, r, hw⟩
    obtain rfl := hw.symm
    clear hw
    rw [cutOff_lt hkm]
    have A1 := (h.drop (n / 64) hkm).drewN r
    go_wp2_with fail
    refine (copied_any A1 (m - n / 64) (Nat.le_refl _) (by omega)).mono ?_
    rintro e w2 ⟨g2, rfl, hg, hblk, hb⟩
    rw [Nat.sub_self, List.replicate_zero, List.append_nil] at hblk
    have hr := hblk.row A1.dig
    rw [A1.len] at hr
    go_wp2_with fail
    rw [show ((n : Int) % 64) = ((n % 64 : Nat) : Int) by omega]
    refine (sdn_any g2 (m - n / 64) (m - n / 64) (n % 64) _ _ hr (Nat.le_refl _) (by omega) (by omega)).mono ?_
    rintro e w3 ⟨zs, rfl, hwr, hrow, hval⟩
    rw [drop_div HX.out (by omega), shr_split] at hval
    have A3 := hrow.at_ (Nat.le_refl _) (by unfold maxLen; omega)
    have hN := Nf.trim hrow.dig
    rw [hval] at hN
    have HV : Hid (Nf B64 (trimL zs) (a / 2 ^ n)) := hN
    have hb3 : Below w.heap.size w w3 := (bDrewN (Below.refl _ _) r).trans (hb.trans (hwr.below hg))
    clear hval hN hblk hr hb A1
    go_wp2_with fail
    refine (trim_any A3).mono ?_
    rintro e w4 ⟨p', m', rfl, hm', hp', hw⟩
    obtain rfl := hw.symm
    have HM : Hid (m' = (trimL zs).length) := hm'
    clear hw hm'
    go_wp2_with fail
    go_ret2
    have e1 := HM.out
    have e2 := trimL_length_le zs
    have e3 := hrow.len
    exact ⟨⟨p', m', trimL zs, rfl, hrow.own hg e1 hp', HV.out, by omega⟩, hb3⟩
end Go.Proofs.YthobkfkeaealhaaGreatDoor
namespace Go.Proofs.YthobkfkeaealhaaGreatDoor
open Go.RowKit Go.Shelf
set_option maxRecDepth 20000
set_option maxHeartbeats 0
theorem shifted_any {p : Option Addr} {m c : Nat} {xs : List Nat} {a k : Nat} {w : World} (s : Bool) (h : Num w p m c xs a) (hs : s = true → 0 < a) (n : Nat) (hn : n ≤ 9223372036854775807) (hk : TzO a k) (hT : Tab w) :
    Calls Tryz.prog 98 #[ZV s p m c, .int .i64 n] w fun e w' => ∃ p' m' zs x hf, e = .returned (.tuple #[FR s p' m' m' x hf, .int .i64 0]) ∧ Own w.heap.size w' p' m' zs ∧ Nf B64 zs (a / 2 ^ n) ∧ m' ≤ 8192 ∧ x = decide (a % 2 ^ n ≠ 0) ∧ HfIs (a % 2 ^ n) (2 ^ n) hf ∧ Below w.heap.size w w' := by
  have H : Hid (Num w p m c xs a) := h
  have HW0 : Hid (Num w p m c xs a ∧ Tab w) := ⟨h, hT⟩
  have HS : Hid (s = true → 0 < a) := hs
  have HK : Hid (TzO a k) := hk
  have HT : Hid (Tab w) := hT
  have HN : Hid (n ≤ 9223372036854775807) := hn
  have c0 : decide ((n : Int) < 0) = false := decide_eq_false (by omega)
  clear h hs hk hT
  go_enter Tryz.func98, Tryz.ntmps98
  go_wp2_with fail
  have X0 : Box (w.alloc (.cells #[.bool s, .slice p m c] 45)) w.heap.size (.bool s) (.slice p m c) := ⟨by go_simp, by go_simp, by go_simp, by go_simp⟩
  have hb0 := below1 w (.cells #[.bool s, .slice p m c] 45)
  have hsz : (w.alloc (.cells #[.bool s, .slice p m c] 45)).heap.size = w.heap.size + 1 := by simp
  generalize w.alloc (.cells #[.bool s, .slice p m c] 45) = W1 at *
  have R0 := B4q.new W1 131 (.bool false) (.slice none 0 0) (.bool false) (.int .i64 0)
  have hb1 := below1 W1 (.cells #[.bool false, .slice none 0 0, .bool false, .int .i64 0] 131)
  generalize W1.alloc (.cells #[.bool false, .slice none 0 0, .bool false, .int .i64 0] 131) = W at *
  rw [hsz] at R0
  obtain ⟨g, hg⟩ : ∃ g, g = w.heap.size := ⟨_, rfl⟩
  obtain ⟨r, hr⟩ : ∃ r, r = g + 1 := ⟨_, rfl⟩
  have HGR : Hid (w.heap.size ≤ g ∧ w.heap.size ≤ r ∧ r ≠ g) := ⟨by omega, by omega, by omega⟩
  rw [← hg, ← hr] at R0 ⊢
  rw [← hg] at X0
  clear hg hr hsz
  have HBW : Hid (Below w.heap.size w W) := Below.on hb0 hb1
  have XR : Hid (Box W g (.bool s) (.slice p m c) ∧ B4q W r (.bool false) (.slice none 0 0) (.bool false) (.int .i64 0)) := ⟨X0.below hb1, R0⟩
  have H2 : Hid (Num W p m c xs a) := H.out.below HBW.out
  have HT2 : Hid (Tab W) := HT.out.below HBW.out
  clear hb0 hb1 X0 R0 H HT
  refine (numform_t s H2.out HS.out).mono ?_
  rintro e w3 ⟨rfl, hb3⟩
  have XR3 : Hid (Box w3 g (.bool s) (.slice p m c) ∧ B4q w3 r (.bool false) (.slice none 0 0) (.bool false) (.int .i64 0)) := ⟨XR.out.1.below hb3, XR.out.2.below hb3⟩
  have H3 : Hid (Num w3 p m c xs a) := H2.out.below hb3
  have HT3 : Hid (Tab w3) := HT2.out.below hb3
  have HB3 : Hid (Below w.heap.size w w3) := Below.on HBW.out hb3
  clear hb3 XR H2 HT2 HBW c0
  obtain ⟨⟨x0, x1, x2, x3⟩, ⟨r0, r1, r2, r3, r4, r5, r6, r7⟩⟩ := XR3.out
  go_wp2_with fail
  refine (shr_nf H3.out.at_ H3.out.nf H3.out.le n HN.out).mono ?_
  rintro e w4 ⟨⟨p4, m4, z4, rfl, hO4, hN4, hm4⟩, hb4⟩
  have XR4 : Hid (Box w4 g (.bool s) (.slice p m c) ∧ B4q w4 r (.bool false) (.slice none 0 0) (.bool false) (.int .i64 0)) := ⟨XR3.out.1.below hb4, XR3.out.2.below hb4⟩
  have H4 : Hid (Num w4 p m c xs a) := H3.out.below hb4
  have HT4 : Hid (Tab w4) := HT3.out.below hb4
  have HB4 : Hid (Below w.heap.size w w4) := Below.on HB3.out hb4
  have O4 : Hid (Own w.heap.size w4 p4 m4 z4) := hO4.mono HB3.out.size
  have N4 : Hid (Nf B64 z4 (a / 2 ^ n) ∧ m4 ≤ 8192) := ⟨hN4, hm4⟩
  have HP4 : Hid (∀ g2, p4 = some ⟨g2, 0, none⟩ → 0 < m4 → g2 ≠ r) := by
    intro g2 hp hm
    rcases hO4.mem with h0 | ⟨g3, hp3, hB3, hr3⟩
    · omega
    · rw [hp] at hp3
      simp only [Option.some.injEq, Addr.mk.injEq, and_true] at hp3
      have := XR3.out.2.lt
      omega
  clear hb4 hO4 hN4 hm4 XR3 H3 HT3 HB3 x0 x1 x2 x3 r0 r1 r2 r3 r4 r5 r6 r7
  obtain ⟨⟨x0, x1, x2, x3⟩, ⟨r0, r1, r2, r3, r4, r5, r6, r7⟩⟩ := XR4.out
  have hgl : g < w4.heap.size := World.block_lt_of_cell? _ _ XR4.out.1.c0
  have hrl : r < w4.heap.size := XR4.out.2.lt
  have hz := H4.out.zero
  by_cases hm0 : 0 < m
  · have ha0 : a ≠ 0 := fun e => by have := hz.2 e; omega
    have hmb : decide ((0 : Int) < (m : Int)) = true := decide_eq_true (by omega)
    have hmb' : decide (0 < m) = true := decide_eq_true hm0
    have HA0 : Hid (a ≠ 0) := ha0
    have hmp : (0 : Int) < (m : Int) := by omega
    obtain ⟨b1, hb1⟩ : ∃ b1, b1 = decide ((k : Int) < (n : Int)) := ⟨_, rfl⟩
    have HB1 : Hid (b1 = decide ((k : Int) < (n : Int))) := hb1
    clear hz ha0 hb1
    go_wp2_with fail
    have F5 := B4q.new w4 131 (.bool s) (.slice p4 m4 m4) (.bool false) (.int .i64 (-1))
    have hb5 := below1 w4 (.cells #[.bool s, .slice p4 m4 m4, .bool false, .int .i64 (-1)] 131)
    generalize w4.alloc (.cells #[.bool s, .slice p4 m4 m4, .bool false, .int .i64 (-1)] 131) = W5 at *
    obtain ⟨fb, hfb⟩ : ∃ fb, fb = w4.heap.size := ⟨_, rfl⟩
    have HFB : Hid (w.heap.size ≤ fb ∧ fb ≠ g ∧ fb ≠ r) := ⟨by rw [hfb]; exact HB4.out.size, by omega, by omega⟩
    have HPX : Hid (∀ g2, p4 = some ⟨g2, 0, none⟩ → 0 < m4 → g2 ≠ fb ∧ g2 ≠ r) := by
      intro g2 hp hm
      rcases O4.out.mem with h0 | ⟨g3, hp3, hB3, hr3⟩
      · omega
      · rw [hp] at hp3
        simp only [Option.some.injEq, Addr.mk.injEq, and_true] at hp3
        have hl3 : g3 < w4.heap.size := World.block_lt_of_cell? _ _ (hr3.cell 0 (by omega))
        exact ⟨by omega, by have := HP4.out g3 (by rw [hp, hp3]) hm; omega⟩
    rw [← hfb] at F5 ⊢
    clear hfb hgl hrl x0 x1 x2 x3 r0 r1 r2 r3 r4 r5 r6 r7
    have XF : Hid (Box W5 g (.bool s) (.slice p m c) ∧ B4q W5 r (.bool false) (.slice none 0 0) (.bool false) (.int .i64 0) ∧ B4q W5 fb (.bool s) (.slice p4 m4 m4) (.bool false) (.int .i64 (-1))) := ⟨XR4.out.1.below hb5, XR4.out.2.below hb5, F5⟩
    have H5 : Hid (Num W5 p m c xs a) := H4.out.below hb5
    have HT5 : Hid (Tab W5) := HT4.out.below hb5
    have HB5 : Hid (Below w.heap.size w W5) := Below.on HB4.out hb5
    have O5 : Hid (Own w.heap.size W5 p4 m4 z4) := O4.out.below hb5
    have HPN : Hid (∀ g2, p4 = some ⟨g2, 0, none⟩ → 0 < m4 → g2 ≠ fb ∧ g2 ≠ r) := HPX.out
    clear hb5 F5 XR4 H4 HT4 HB4 O4
    refine (trail_any H5.out.at_ (by have := H5.out.le; omega) (by rw [H5.out.nf.val]; exact HK.out) HT5.out).mono ?_
    rintro e w6 ⟨rfl, hw⟩
    obtain rfl := hw.symm
    clear hw
    obtain ⟨⟨x0, x1, x2, x3⟩, ⟨r0, r1, r2, r3, r4, r5, r6, r7⟩, ⟨f0, f1, f2, f3, f4, f5, f6, f7⟩⟩ := XF.out
    have hne1 : ¬ fb = g := HFB.out.2.1
    have hne2 : ¬ fb = r := HFB.out.2.2
    have hne3 : ¬ g = fb := fun e => hne1 e.symm
    have hne4 : ¬ r = fb := fun e => hne2 e.symm
    go_wp2_with fail
    obtain ⟨b2, hb2⟩ : ∃ b2, b2 = decide (k < n) := ⟨_, rfl⟩
    rw [← hb2]
    have HB2 : Hid (b2 = decide (k < n)) := hb2
    have XF6 : Hid (Box (W5.setCell ⟨fb, 2, none⟩ (.bool b2)) g (.bool s) (.slice p m c) ∧ B4q (W5.setCell ⟨fb, 2, none⟩ (.bool b2)) r (.bool false) (.slice none 0 0) (.bool false) (.int .i64 0) ∧ B4q (W5.setCell ⟨fb, 2, none⟩ (.bool b2)) fb (.bool s) (.slice p4 m4 m4) (.bool b2) (.int .i64 (-1))) :=
      ⟨⟨by go_simp, by go_simp, by go_simp, by go_simp⟩, ⟨by go_simp, by go_simp, by go_simp, by go_simp, by go_simp, by go_simp, by go_simp, by go_simp⟩, ⟨by go_simp, by go_simp, by go_simp, by go_simp, by go_simp, by go_simp, by go_simp, by go_simp⟩⟩
    have HB6 : Hid (Below w.heap.size w (W5.setCell ⟨fb, 2, none⟩ (.bool b2))) := bSet HB5.out _ _ _ HFB.out.1
    have O6 : Hid (Own w.heap.size (W5.setCell ⟨fb, 2, none⟩ (.bool b2)) p4 m4 z4) := O5.out.setNot fb 2 _ (fun g2 hp hm => (HPN.out g2 hp hm).1)
    generalize W5.setCell ⟨fb, 2, none⟩ (.bool b2) = W6 at *
    have H6 : Hid (Num W6 p m c xs a) := HW0.out.1.below HB6.out
    have HT6 : Hid (Tab W6) := HW0.out.2.below HB6.out
    clear hb2 x0 x1 x2 x3 r0 r1 r2 r3 r4 r5 r6 r7 f0 f1 f2 f3 f4 f5 f6 f7 XF H5 HT5 HB5 O5
    refine (bit_int H6.out.at_ (by have := H6.out.le; omega) ((n : Int) - 1) (by omega)).mono ?_
    rintro e w7 ⟨rfl, hw⟩
    obtain rfl := hw.symm
    clear hw
    obtain ⟨bb, hbb⟩ : ∃ bb, bb = bitO (valB B64 xs) ((n : Int) - 1) := ⟨_, rfl⟩
    rw [← hbb]
    have HBB : Hid (bb = bitO a ((n : Int) - 1)) := by rw [H6.out.nf.val] at hbb; exact hbb
    clear hbb
    obtain ⟨⟨x0, x1, x2, x3⟩, ⟨r0, r1, r2, r3, r4, r5, r6, r7⟩, ⟨f0, f1, f2, f3, f4, f5, f6, f7⟩⟩ := XF6.out
    have HX : Hid (b2 = decide (a % 2 ^ n ≠ 0)) := by
      show _ = _
      rw [HB2.out]
      rcases HK.out with ⟨e, _⟩ | ⟨_, e⟩
      · exact absurd e HA0.out
      · exact tz_lt e
    have HTZ : Hid (TzIs a k) := by
      rcases HK.out with ⟨e, _⟩ | ⟨_, e⟩
      · exact absurd e HA0.out
      · exact e
    have HPR : Hid (∀ g2, p4 = some ⟨g2, 0, none⟩ → 0 < m4 → g2 ≠ r) := HP4.out
    cases bb
    · go_wp2_with fail
      refine bodyPost_ret (v := .tuple #[FR s p4 m4 m4 b2 (-1), .int .i64 0]) (by rw [results_cell_tmp rfl]; go_simp) rfl ?_
      exact ⟨p4, m4, z4, b2, (-1), rfl, (((O6.out.setNot r 0 _ (fun g2 hp hm => HPR.out g2 hp hm)).setNot r 1 _ (fun g2 hp hm => HPR.out g2 hp hm)).setNot r 2 _ (fun g2 hp hm => HPR.out g2 hp hm)).setNot r 3 _ (fun g2 hp hm => HPR.out g2 hp hm), N4.out.1, N4.out.2, HX.out, half_lt HBB.out rfl, bSet (bSet (bSet (bSet HB6.out _ _ _ HGR.out.2.1) _ _ _ HGR.out.2.1) _ _ _ HGR.out.2.1) _ _ _ HGR.out.2.1⟩
    · have XF7 : Hid (Box (W6.setCell ⟨fb, 3, none⟩ (.int .i64 0)) g (.bool s) (.slice p m c) ∧ B4q (W6.setCell ⟨fb, 3, none⟩ (.int .i64 0)) r (.bool false) (.slice none 0 0) (.bool false) (.int .i64 0) ∧ B4q (W6.setCell ⟨fb, 3, none⟩ (.int .i64 0)) fb (.bool s) (.slice p4 m4 m4) (.bool b2) (.int .i64 0)) :=
        ⟨⟨by go_simp, by go_simp, by go_simp, by go_simp⟩, ⟨by go_simp, by go_simp, by go_simp, by go_simp, by go_simp, by go_simp, by go_simp, by go_simp⟩, ⟨by go_simp, by go_simp, by go_simp, by go_simp, by go_simp, by go_simp, by go_simp, by go_simp⟩⟩
      have HB7 : Hid (Below w.heap.size w (W6.setCell ⟨fb, 3, none⟩ (.int .i64 0))) := bSet HB6.out _ _ _ HFB.out.1
      have O7 : Hid (Own w.heap.size (W6.setCell ⟨fb, 3, none⟩ (.int .i64 0)) p4 m4 z4) := O6.out.setNot fb 3 _ (fun g2 hp hm => (HPN.out g2 hp hm).1)
      go_wp2_with fail
      generalize W6.setCell ⟨fb, 3, none⟩ (.int .i64 0) = W7 at *
      have H7 : Hid (Num W7 p m c xs a) := HW0.out.1.below HB7.out
      have HT7 : Hid (Tab W7) := HW0.out.2.below HB7.out
      clear x0 x1 x2 x3 r0 r1 r2 r3 r4 r5 r6 r7 f0 f1 f2 f3 f4 f5 f6 f7 XF6 H6 HT6 HB6 O6
      refine (trail_any H7.out.at_ (by have := H7.out.le; omega) (by rw [H7.out.nf.val]; exact HK.out) HT7.out).mono ?_
      rintro e w8 ⟨rfl, hw⟩
      obtain rfl := hw.symm
      clear hw
      obtain ⟨⟨x0, x1, x2, x3⟩, ⟨r0, r1, r2, r3, r4, r5, r6, r7⟩, ⟨f0, f1, f2, f3, f4, f5, f6, f7⟩⟩ := XF7.out
      by_cases hk1 : (k : Int) < (n : Int) - 1
      · have hk1b : decide ((k : Int) < (n : Int) - 1) = true := decide_eq_true hk1
        have O8 : Hid (Own w.heap.size (W7.setCell ⟨fb, 3, none⟩ (.int .i64 1)) p4 m4 z4) := O7.out.setNot fb 3 _ (fun g2 hp hm => (HPN.out g2 hp hm).1)
        have HB8 : Hid (Below w.heap.size w (W7.setCell ⟨fb, 3, none⟩ (.int .i64 1))) := bSet HB7.out _ _ _ HFB.out.1
        go_wp2_with fail
        refine bodyPost_ret (v := .tuple #[FR s p4 m4 m4 b2 1, .int .i64 0]) (by rw [results_cell_tmp rfl]; go_simp) rfl ?_
        exact ⟨p4, m4, z4, b2, 1, rfl, (((O8.out.setNot r 0 _ (fun g2 hp hm => HPR.out g2 hp hm)).setNot r 1 _ (fun g2 hp hm => HPR.out g2 hp hm)).setNot r 2 _ (fun g2 hp hm => HPR.out g2 hp hm)).setNot r 3 _ (fun g2 hp hm => HPR.out g2 hp hm), N4.out.1, N4.out.2, HX.out, half_ge HBB.out HTZ.out (by rw [if_pos hk1]), bSet (bSet (bSet (bSet HB8.out _ _ _ HGR.out.2.1) _ _ _ HGR.out.2.1) _ _ _ HGR.out.2.1) _ _ _ HGR.out.2.1⟩
      · have hk1b : decide ((k : Int) < (n : Int) - 1) = false := decide_eq_false hk1
        go_wp2_with fail
        refine bodyPost_ret (v := .tuple #[FR s p4 m4 m4 b2 0, .int .i64 0]) (by rw [results_cell_tmp rfl]; go_simp) rfl ?_
        exact ⟨p4, m4, z4, b2, 0, rfl, (((O7.out.setNot r 0 _ (fun g2 hp hm => HPR.out g2 hp hm)).setNot r 1 _ (fun g2 hp hm => HPR.out g2 hp hm)).setNot r 2 _ (fun g2 hp hm => HPR.out g2 hp hm)).setNot r 3 _ (fun g2 hp hm => HPR.out g2 hp hm), N4.out.1, N4.out.2, HX.out, half_ge HBB.out HTZ.out (by rw [if_neg (Int.not_lt.2 hk1)]), bSet (bSet (bSet (bSet HB7.out _ _ _ HGR.out.2.1) _ _ _ HGR.out.2.1) _ _ _ HGR.out.2.1) _ _ _ HGR.out.2.1⟩
  · have ha0 : a = 0 := hz.1 (by omega)
    have hmb : decide ((0 : Int) < (m : Int)) = false := decide_eq_false (by omega)
    have hmb' : decide (0 < m) = false := decide_eq_false hm0
    have hmp : ¬ (0 : Int) < (m : Int) := by omega
    have HA0 : Hid (a = 0) := ha0
    clear hz ha0
    obtain ⟨fb, hfb⟩ : ∃ fb, fb = w4.heap.size := ⟨_, rfl⟩
    have HFB : Hid (w.heap.size ≤ fb ∧ fb ≠ g ∧ fb ≠ r) := ⟨by rw [hfb]; exact HB4.out.size, by omega, by omega⟩
    have HPX : Hid (∀ g2, p4 = some ⟨g2, 0, none⟩ → 0 < m4 → g2 ≠ fb ∧ g2 ≠ r) := by
      intro g2 hp hm
      rcases O4.out.mem with h0 | ⟨g3, hp3, hB3, hr3⟩
      · omega
      · rw [hp] at hp3
        simp only [Option.some.injEq, Addr.mk.injEq, and_true] at hp3
        have hl3 : g3 < w4.heap.size := World.block_lt_of_cell? _ _ (hr3.cell 0 (by omega))
        exact ⟨by omega, by have := HP4.out g3 (by rw [hp, hp3]) hm; omega⟩
    go_wp2_with fail
    have F5 := B4q.new w4 131 (.bool s) (.slice p4 m4 m4) (.bool false) (.int .i64 (-1))
    have hb5 := below1 w4 (.cells #[.bool s, .slice p4 m4 m4, .bool false, .int .i64 (-1)] 131)
    generalize w4.alloc (.cells #[.bool s, .slice p4 m4 m4, .bool false, .int .i64 (-1)] 131) = W5 at *
    rw [← hfb] at F5 ⊢
    have XF : Hid (Box W5 g (.bool s) (.slice p m c) ∧ B4q W5 r (.bool false) (.slice none 0 0) (.bool false) (.int .i64 0) ∧ B4q W5 fb (.bool s) (.slice p4 m4 m4) (.bool false) (.int .i64 (-1))) := ⟨XR4.out.1.below hb5, XR4.out.2.below hb5, F5⟩
    have H5 : Hid (Num W5 p m c xs a) := H4.out.below hb5
    have HB5 : Hid (Below w.heap.size w W5) := Below.on HB4.out hb5
    have O5 : Hid (Own w.heap.size W5 p4 m4 z4) := O4.out.below hb5
    clear hfb hgl hrl x0 x1 x2 x3 r0 r1 r2 r3 r4 r5 r6 r7 hb5 F5 XR4 H4 HT4 HB4 O4
    have XF6 := XF
    have HB6 := HB5
    have O6 := O5
    have H6 := H5
    clear XF HB5 O5 H5
    refine (bit_int H6.out.at_ (by have := H6.out.le; omega) ((n : Int) - 1) (by omega)).mono ?_
    rintro e w7 ⟨rfl, hw⟩
    obtain rfl := hw.symm
    clear hw
    rw [show bitO (valB B64 xs) ((n : Int) - 1) = false from by rw [H6.out.nf.val, HA0.out, bitO_half]; exact decide_eq_false (by rw [Nat.zero_mod]; have : 0 < 2 ^ n := Nat.pow_pos (by omega); omega)]
    obtain ⟨⟨x0, x1, x2, x3⟩, ⟨r0, r1, r2, r3, r4, r5, r6, r7⟩, ⟨f0, f1, f2, f3, f4, f5, f6, f7⟩⟩ := XF6.out
    have hne1 : ¬ fb = g := HFB.out.2.1
    have hne2 : ¬ fb = r := HFB.out.2.2
    have hne3 : ¬ g = fb := fun e => hne1 e.symm
    have hne4 : ¬ r = fb := fun e => hne2 e.symm
    have HPR : Hid (∀ g2, p4 = some ⟨g2, 0, none⟩ → 0 < m4 → g2 ≠ r) := HP4.out
    go_wp2_with fail
    refine bodyPost_ret (v := .tuple #[FR s p4 m4 m4 false (-1), .int .i64 0]) (by rw [results_cell_tmp rfl]; go_simp) rfl ?_
    exact ⟨p4, m4, z4, false, (-1), rfl, (((O6.out.setNot r 0 _ (fun g2 hp hm => HPR.out g2 hp hm)).setNot r 1 _ (fun g2 hp hm => HPR.out g2 hp hm)).setNot r 2 _ (fun g2 hp hm => HPR.out g2 hp hm)).setNot r 3 _ (fun g2 hp hm => HPR.out g2 hp hm), N4.out.1, N4.out.2, by rw [HA0.out, Nat.zero_mod]; rfl, .inl ⟨by rw [HA0.out, Nat.zero_mod]; have : 0 < 2 ^ n := Nat.pow_pos (by omega); omega, rfl⟩, bSet (bSet (bSet (bSet HB6.out _ _ _ HGR.out.2.1) _ _ _ HGR.out.2.1) _ _ _ HGR.out.2.1) _ _ _ HGR.out.2.1⟩
def GeW (B : Nat) (w : World) : Prop := B ≤ w.heap.size
theorem GeW.below {B : Nat} {w w' : World} (h : GeW B w) (hb : Below w.heap.size w w') : GeW B w' := Nat.le_trans h hb.size
theorem fshr_any {p : Option Addr} {m c : Nat} {xs : List Nat} {a : Nat} {w : World} (s : Bool) (h : Num w p m c xs a) (hs : s = true → 0 < a) (n : Nat) (hn : n ≤ 9223372036854775807) (hT : Tab w) :
    Calls Tryz.prog 82 #[ZV s p m c, .int .i64 n] w fun e w' => ∃ v, e = .returned (.tuple #[v, .int .i64 0]) ∧ AnsZ w.heap.size w' v (fl s a (2 ^ n)) ∧ Below w.heap.size w w' := by
  have H : Hid (Num w p m c xs a) := h
  have HS : Hid (s = true → 0 < a) := hs
  have HT : Hid (Tab w) := hT
  have HN : Hid (n ≤ 9223372036854775807) := hn
  obtain ⟨z, hz⟩ : ∃ z, z = fl s a (2 ^ n) := ⟨_, rfl⟩
  rw [← hz]
  have HZ : Hid (z = fl s a (2 ^ n)) := hz
  obtain ⟨k, hk⟩ := TzO.ex a
  have HK : Hid (TzO a k) := hk
  clear h hs hT hn hz hk
  go_enter Tryz.func82, Tryz.ntmps82
  go_wp2_with fail
  obtain ⟨W0, hW0⟩ : ∃ W0, W0 = ((w.alloc (.cells #[.bool s, .slice p m c] 45)).alloc (.cells #[.bool false, .slice none 0 0] 45)) := ⟨_, rfl⟩
  have Xx : Hid (Box W0 (w.heap.size) (.bool s) (.slice p m c)) := by rw [hW0]; exact ⟨by go_simp, by go_simp, by go_simp, by go_simp⟩
  have Xr : Hid (Box W0 (w.heap.size + 1) (.bool false) (.slice none 0 0)) := by rw [hW0]; exact ⟨by go_simp, by go_simp, by go_simp, by go_simp⟩
  have hb0 : Below w.heap.size w W0 := by rw [hW0]; exact below2 w _ _
  rw [← hW0]
  clear hW0
  have hbw : Below w.heap.size w w := Below.refl _ _
  obtain ⟨gr, hgr⟩ : ∃ g, g = w.heap.size + 1 := ⟨_, rfl⟩
  have HGr : Hid (w.heap.size ≤ gr) := by rw [hgr]; show _ ≤ _; omega
  rw [← hgr] at Xr
  try rw [← hgr]
  obtain ⟨gx, hgx⟩ : ∃ g, g = w.heap.size := ⟨_, rfl⟩
  have HGx : Hid (w.heap.size ≤ gx) := by rw [hgx]; show _ ≤ _; omega
  rw [← hgx] at Xx
  try rw [← hgx]
  have HGD : Hid (gx ≠ gr ∧ gr ≠ gx) := by rw [hgx, hgr]; exact ⟨by omega, by omega⟩
  clear hgx hgr
  replace H : Hid _ := H.out.below hb0
  replace HT : Hid (Tab W0) := HT.out.below hb0
  replace hbw := Below.on hbw hb0
  clear hb0
  have HSZ : Hid (GeW W0.heap.size W0) := Nat.le_refl _
  have HRL : Hid (gr < W0.heap.size ∧ w.heap.size ≤ W0.heap.size) := ⟨Xr.out.lt, hbw.size⟩
  refine (shifted_any s H.out HS.out n HN.out HK.out HT.out).mono ?_
  rintro e w2 ⟨p2, m2, z2, x2, hf2, rfl, ho2, hn2, hm2, hx2, hh2, hb2⟩
  replace Xx : Hid _ := Xx.out.below hb2
  replace Xr : Hid _ := Xr.out.below hb2
  replace H : Hid _ := H.out.below hb2
  replace HT : Hid (Tab w2) := HT.out.below hb2
  replace HSZ : Hid (GeW W0.heap.size w2) := HSZ.out.below hb2
  replace hbw := Below.on hbw hb2
  clear hb2
  have HF : Hid (FrIs W0.heap.size w2 s a (2 ^ n) p2 m2 z2 x2 hf2) := ⟨ho2, hn2, hm2, hx2, hh2, H.out.lim⟩
  clear ho2 hn2 hm2 hx2 hh2
  obtain ⟨cr0, cr1, fr0, fr1⟩ := Xr.out
  have hner := Xr.out.lt
  go_wp2_with fail
  clear cr0 cr1 fr0 fr1 hner
  have Xf0 : Hid (B4q (w2.alloc (.cells #[.bool s, .slice p2 m2 m2, .bool x2, .int .i64 hf2] 131)) w2.heap.size (.bool s) (.slice p2 m2 m2) (.bool x2) (.int .i64 hf2)) := B4q.new w2 _ _ _ _ _
  have hbn : Below w2.heap.size w2 (w2.alloc (.cells #[.bool s, .slice p2 m2 m2, .bool x2, .int .i64 hf2] 131)) := below1 w2 _
  generalize w2.alloc (.cells #[.bool s, .slice p2 m2 m2, .bool x2, .int .i64 hf2] 131) = W3 at *
  have HGf : Hid (w.heap.size ≤ w2.heap.size) := hbw.size
  replace Xx : Hid _ := Xx.out.below hbn
  replace Xr : Hid _ := Xr.out.below hbn
  replace H : Hid _ := H.out.below hbn
  replace HT : Hid (Tab W3) := HT.out.below hbn
  replace HSZ : Hid (GeW W0.heap.size W3) := HSZ.out.below hbn
  replace HF : Hid _ := HF.out.below hbn
  replace hbw := Below.on hbw hbn
  clear hbn
  generalize w2.heap.size = gf at *
  have Xf := Xf0
  clear Xf0
  have hBs : W0.heap.size ≤ W3.heap.size := HSZ.out
  refine (floor_any s x2 hf2 HF.out hBs).mono ?_
  rintro e w4 ⟨v, rfl, hv, hb4⟩
  clear hBs
  rw [← HZ.out] at hv
  obtain ⟨p4, m4, z4, rfl, ho, hn, hm⟩ := hv
  replace Xx : Hid _ := Xx.out.below hb4
  replace Xr : Hid _ := Xr.out.below hb4
  replace Xf : Hid _ := Xf.out.below hb4
  replace H : Hid _ := H.out.below hb4
  replace HT : Hid (Tab w4) := HT.out.below hb4
  replace HSZ : Hid (GeW W0.heap.size w4) := HSZ.out.below hb4
  replace HF : Hid _ := HF.out.below hb4
  replace hbw := Below.on hbw hb4
  clear hb4
  have HO4 : Hid (Own W0.heap.size w4 p4 m4 z4) := ho
  have HN4 : Hid (Nf B64 z4 z.natAbs ∧ m4 ≤ 8192) := ⟨hn, hm⟩
  clear ho hn hm
  obtain ⟨b9, hb9⟩ : ∃ b, b = decide (z < 0) := ⟨_, rfl⟩
  rw [← hb9]
  have HB9 : Hid (b9 = decide (z < 0)) := hb9
  clear hb9
  obtain ⟨cr0, cr1, fr0, fr1⟩ := Xr.out
  have hner := Xr.out.lt
  go_wp2_with fail
  refine bodyPost_ret (v := .tuple #[ZV b9 p4 m4 m4, .int .i64 0]) (by rw [results_cell_tmp rfl]; go_simp) rfl ⟨_, rfl, ⟨p4, m4, z4, by rw [HB9.out], ?_, HN4.out.1, HN4.out.2⟩, ?_⟩
  · exact own_set2 HO4.out HRL.out.1 HRL.out.2 _ _
  · exact bSet (bSet hbw _ _ _ HGr.out) _ _ _ HGr.out
structure WinRel (w : World) (g off n : Nat) (W D d b : Nat) (ws : List Nat) (wr : World) : Prop where
  wrs : Wr g off (n + 1) w wr
  row : Row wr g off (n + 1) ws
  db : d < B64
  bb : b ≤ 1
  ge : W / D ≤ d
  sum : valB B64 ws + D * d = W + B64 ^ (n + 1) * b
theorem WinRel.done {w : World} {g off n W D d : Nat} {ws : List Nat} {wr : World} (h : WinRel w g off n W D d 0 ws wr) (hD : 0 < D) : d = W / D ∧ valB B64 ws = W % D := by
  have h1 := h.sum; have h2 := h.ge
  rw [Nat.mul_zero, Nat.add_zero] at h1
  have h3 : d ≤ W / D := (Nat.le_div_iff_mul_le hD).2 (by rw [Nat.mul_comm]; omega)
  have h4 : d = W / D := by omega
  refine ⟨h4, ?_⟩
  have h5 := Nat.div_add_mod W D
  rw [← h4] at h5
  omega
structure DigRel (w : World) (gq gr L n : Nat) (A D : Nat) (k : Nat) (qs rs : List Nat) (wr : World) : Prop where
  bel : ∀ B, B ≤ gq → B ≤ gr → Below B w wr
  rowq : Row wr gq 0 L qs
  rowr : Row wr gr 0 (L + n) rs
  cell : ∀ b o, b ≠ gq → b ≠ gr → wr.cell? ⟨b, o, none⟩ = w.cell? ⟨b, o, none⟩
  lt : valB B64 (rs.drop (L - k)) < D
  sum : valB B64 rs + B64 ^ (L - k) * valB B64 (qs.drop (L - k)) * D = A

theorem win_take (rs : List Nat) (a m : Nat) (h : a + m ≤ rs.length) : valB B64 rs = valB B64 (rs.take a) + B64 ^ a * (valB B64 ((rs.drop a).take m) + B64 ^ m * valB B64 (rs.drop (a + m))) := by
  rw [valB_split B64 rs a (by omega), valB_split B64 (rs.drop a) m (by rw [List.length_drop]; omega), List.drop_drop]
def winPut (rs ws : List Nat) (a : Nat) : List Nat := rs.take a ++ ws ++ rs.drop (a + ws.length)
theorem winPut_len (rs ws : List Nat) (a : Nat) (h : a + ws.length ≤ rs.length) : (winPut rs ws a).length = rs.length := by
  unfold winPut; simp; omega
theorem winPut_drop (rs ws : List Nat) (a : Nat) (h : a + ws.length ≤ rs.length) : (winPut rs ws a).drop a = ws ++ rs.drop (a + ws.length) := by
  unfold winPut
  rw [List.append_assoc, List.drop_append_of_le_length (by simp; omega), List.drop_of_length_le (by simp; omega), List.nil_append]
theorem winPut_take (rs ws : List Nat) (a : Nat) (h : a + ws.length ≤ rs.length) : (winPut rs ws a).take a = rs.take a := by
  unfold winPut
  rw [List.append_assoc, List.take_append_of_le_length (by simp; omega), List.take_take, Nat.min_self]
theorem winPut_get (rs ws : List Nat) (a j : Nat) (h : a + ws.length ≤ rs.length) : (winPut rs ws a).getD j 0 = if a ≤ j ∧ j < a + ws.length then ws.getD (j - a) 0 else rs.getD j 0 := by
  unfold winPut
  rw [List.getD_eq_getElem?_getD, List.getElem?_append, List.getElem?_append]
  simp only [List.length_append, List.length_take, Nat.min_eq_left (by omega : a ≤ rs.length)]
  by_cases h1 : j < a
  · rw [if_pos (by omega), if_pos (by omega), List.getElem?_take, if_pos h1, if_neg (by omega), List.getD_eq_getElem?_getD]
  · by_cases h2 : j < a + ws.length
    · rw [if_pos h2, if_neg h1, if_pos ⟨by omega, h2⟩, List.getD_eq_getElem?_getD]
    · rw [if_neg h2, if_neg (by omega), List.getElem?_drop, List.getD_eq_getElem?_getD]
      congr 2; omega
theorem Row.win {w : World} {g m : Nat} {rs : List Nat} (h : Row w g 0 m rs) (a l : Nat) (ha : a + l ≤ m) : Row w g a l ((rs.drop a).take l) := by
  have hl := h.len
  refine ⟨by simp; omega, (h.dig.drop a).take l, fun j hj => ?_, fun j hj => ?_⟩
  · have e : ((rs.drop a).take l).getD j 0 = rs.getD (a + j) 0 := by
      rw [List.getD_eq_getElem?_getD, List.getD_eq_getElem?_getD, List.getElem?_take, if_pos hj, List.getElem?_drop]
    rw [e]
    have := h.cell (a + j) (by omega)
    rw [Nat.zero_add] at this; exact this
  · have := h.frozen (a + j) (by omega)
    rw [Nat.zero_add] at this; exact this
theorem Row.put {w w' : World} {g m a l : Nat} {rs ws : List Nat} (h : Row w g 0 m rs) (hwr : Wr g a l w w') (hr : Row w' g a l ws) (ha : a + l ≤ m) : Row w' g 0 m (winPut rs ws a) := by
  have hl := h.len; have hwl := hr.len
  have hle : a + ws.length ≤ rs.length := by omega
  refine ⟨by rw [winPut_len rs ws a hle]; exact hl, ?_, fun j hj => ?_, fun j hj => ?_⟩
  · unfold winPut; exact ((h.dig.take a).append hr.dig).append (h.dig.drop _)
  · rw [winPut_get rs ws a j hle, Nat.zero_add]
    by_cases hc : a ≤ j ∧ j < a + ws.length
    · rw [if_pos hc]
      have := hr.cell (j - a) (by omega)
      rw [show a + (j - a) = j by omega] at this; exact this
    · rw [if_neg hc, hwr.cell g j (by omega)]
      have := h.cell j hj
      rw [Nat.zero_add] at this; exact this
  · rw [hwr.frozen]; exact h.frozen j hj
theorem Row.other {w : World} {g off n : Nat} {xs : List Nat} (h : Row w g off n xs) (g2 o2 : Nat) (v : Value) (hne : g ≠ g2) : Row (w.setCell ⟨g2, o2, none⟩ v) g off n xs := by
  refine ⟨h.len, h.dig, fun j hj => ?_, fun j hj => by rw [World.frozen?_setCell]; exact h.frozen j hj⟩
  exact (World.cell?_setCell_other _ _ _ _ (by intro e; apply hne; have := congrArg Addr.block e; simp at this; omega)).trans (h.cell j hj)
theorem Row.wr {w w' : World} {g off n g2 o2 l2 : Nat} {xs : List Nat} (h : Row w g off n xs) (hwr : Wr g2 o2 l2 w w') (hne : g ≠ g2) : Row w' g off n xs :=
  ⟨h.len, h.dig, fun j hj => (hwr.cell g (off + j) (.inl hne)).trans (h.cell j hj), fun j hj => (hwr.frozen _).trans (h.frozen j hj)⟩
theorem At.wr {w w' : World} {g off n c g2 o2 l2 : Nat} {xs : List Nat} (h : At w (some ⟨g, off, none⟩) n c xs) (hwr : Wr g2 o2 l2 w w') (hne : g ≠ g2) : At w' (some ⟨g, off, none⟩) n c xs :=
  ⟨h.len, h.cap, h.big, h.dig, by
    rcases h.cells with h0 | ⟨g', o', he, hc⟩
    · exact .inl h0
    · refine .inr ⟨g', o', he, fun j hj => ?_⟩
      simp only [Option.some.injEq, Addr.mk.injEq, and_true] at he
      rw [← he.1, ← he.2] at hc ⊢
      exact (hwr.cell g (off + j) (.inl hne)).trans (hc j hj)⟩
theorem dig_abs {P W q r D T Q A : Nat} (hW : q * D + r = W) (h : T + P * W + P * B64 * Q * D = A) : T + P * r + P * (q + B64 * Q) * D = A := by
  subst hW
  have e1 : P * (q + B64 * Q) * D = P * (q * D) + P * B64 * Q * D := by
    rw [Nat.mul_add, Nat.add_mul, Nat.mul_assoc P q D, ← Nat.mul_assoc P B64 Q]
  rw [e1]
  rw [Nat.mul_add] at h
  omega
theorem DigRel.window {w : World} {gq gr L n A D k : Nat} {qs rs : List Nat} {wr : World} (h : DigRel w gq gr L n A D k qs rs wr) (hk : k < L) (hDn : D < B64 ^ n) :
    ∃ a ws, a = L - 1 - k ∧ ws = (rs.drop a).take (n + 1) ∧ Row wr gr a (n + 1) ws ∧ valB B64 ws < B64 * D ∧ valB B64 rs = valB B64 (rs.take a) + B64 ^ a * valB B64 ws ∧ valB B64 (rs.drop (a + (n + 1))) = 0 := by
  have hl := h.rowr.len
  obtain ⟨a, ha⟩ : ∃ a, a = L - 1 - k := ⟨_, rfl⟩
  have hlt := h.lt
  rw [show L - k = a + 1 by omega] at hlt
  have hz : valB B64 (rs.drop (a + (n + 1))) = 0 := by
    have hs := valB_split B64 (rs.drop (a + 1)) n (by rw [List.length_drop]; omega)
    rw [List.drop_drop, show a + 1 + n = a + (n + 1) by omega] at hs
    rcases Nat.eq_zero_or_pos (valB B64 (rs.drop (a + (n + 1)))) with e | e
    · exact e
    · exfalso
      have : B64 ^ n * 1 ≤ B64 ^ n * valB B64 (rs.drop (a + (n + 1))) := Nat.mul_le_mul_left _ e
      omega
  have hw := win_take rs a (n + 1) (by omega)
  rw [hz, Nat.mul_zero, Nat.add_zero] at hw
  refine ⟨a, _, ha, rfl, h.rowr.win a (n + 1) (by omega), ?_, hw, hz⟩
  have hs := valB_split B64 (rs.drop a) (n + 1) (by rw [List.length_drop]; omega)
  rw [List.drop_drop, hz, Nat.mul_zero, Nat.add_zero] at hs
  rw [← hs, valB_drop B64 rs a (by omega)]
  have hb := h.rowr.dig.getD B64_pos a
  have : B64 * (valB B64 (rs.drop (a + 1)) + 1) ≤ B64 * D := Nat.mul_le_mul_left _ hlt
  rw [Nat.mul_add] at this
  omega
theorem DigRel.step {w : World} {gq gr L n A D k : Nat} {qs rs : List Nat} {wr wr' : World} (h : DigRel w gq gr L n A D k qs rs wr) (hk : k < L) (hne : gq ≠ gr) {a q : Nat} {ws ws' : List Nat} (ha : a = L - 1 - k)
    (hrs : valB B64 rs = valB B64 (rs.take a) + B64 ^ a * valB B64 ws) (hz : valB B64 (rs.drop (a + (n + 1))) = 0) (hD : 0 < D) (hq : q = valB B64 ws / D) (hqb : q < B64) (hr : valB B64 ws' = valB B64 ws % D)
    (hwr : Wr gr a (n + 1) wr wr') (hrow : Row wr' gr a (n + 1) ws') : DigRel w gq gr L n A D (k + 1) (qs.set a q) (winPut rs ws' a) (wr'.setCell ⟨gq, a, none⟩ (U q)) := by
  have hl := h.rowr.len; have hql := h.rowq.len; have hwl := hrow.len
  have hle : a + ws'.length ≤ rs.length := by omega
  have e1 : L - (k + 1) = a := by omega
  have e2 : L - k = a + 1 := by omega
  have hdrop : valB B64 ((winPut rs ws' a).drop a) = valB B64 ws % D := by
    rw [winPut_drop rs ws' a hle, valB_append, hwl, hz, Nat.mul_zero, Nat.add_zero, hr]
  refine ⟨fun B h1 h2 => ?_, ?_, ?_, fun b o h1 h2 => ?_, ?_, ?_⟩
  · exact ((h.bel B h1 h2).trans (hwr.below h2)).trans ((Wr.refl gq 0 L wr').setCell a ⟨by omega, by omega⟩ (U q) |>.below h1)
  · have := (h.rowq.wr hwr hne).set a q (by omega) hqb
    rw [Nat.zero_add] at this; exact this
  · exact (h.rowr.put hwr hrow (by omega)).other gq a _ (Ne.symm hne)
  · rw [World.cell?_setCell_other _ _ _ _ (by intro e; apply h1; have := congrArg Addr.block e; simp at this; omega), hwr.cell b o (.inl h2)]
    exact h.cell b o h1 h2
  · rw [e1, hdrop]; exact Nat.mod_lt _ hD
  · have hs := h.sum
    rw [e2, hrs, Nat.pow_succ] at hs
    rw [e1, valB_split B64 (winPut rs ws' a) a (by rw [winPut_len rs ws' a hle]; omega), winPut_take rs ws' a hle, hdrop, drop_set_at qs a q (by omega), valB_cons]
    refine dig_abs (W := valB B64 ws) (q := q) ?_ hs
    rw [hq, Nat.mul_comm]; exact Nat.div_add_mod _ _
end Go.Proofs.YthobkfkeaealhaaGreatDoor
namespace Go.Proofs.YthobkfkeaealhaaGreatDoor
open Go.RowKit
set_option maxRecDepth 20000
set_option maxHeartbeats 0
structure DivRel (w : World) (g n : Nat) (zs : List Nat) (v k re : Nat) (dk : List Nat) (wr : World) : Prop where
  wrs : ∀ B, B ≤ g → Below B w wr
  row : Row wr g 0 n dk
  lo : dk.take (n - k) = zs.take (n - k)
  rlt : re < v
  sum : valB B64 (zs.drop (n - k)) = valB B64 (dk.drop (n - k)) * v + re
theorem DivRel.step {w : World} {g n : Nat} {zs : List Nat} {v k re : Nat} {dk : List Nat} {wr wr' : World} (h : DivRel w g n zs v k re dk wr) (hk : k < n) (hz : zs.length = n) {x q r : Nat}
    (hx : x = dk.getD (n - 1 - k) 0) (hq : re * B64 + x = q * v + r) (hr : r < v) (hw : ∀ B, B ≤ g → Below B w wr') (hrow : Row wr' g 0 n (dk.set (n - 1 - k) q)) : DivRel w g n zs v (k + 1) r (dk.set (n - 1 - k) q) wr' := by
  have hl := h.row.len
  have e : n - (k + 1) = n - 1 - k := by omega
  have e2 : n - 1 - k + 1 = n - k := by omega
  have hxz : x = zs.getD (n - 1 - k) 0 := hx.trans (getD_of_take h.lo (by omega))
  refine ⟨hw, hrow, ?_, hr, ?_⟩
  · rw [e, take_set_at]; exact take_of_take h.lo (by omega)
  · rw [e, drop_set_at dk _ q (by omega), valB_drop _ zs (n - 1 - k) (by omega), ← hxz, valB_cons, e2, h.sum, Nat.add_mul, Nat.mul_add]
    have e3 : B64 * (valB B64 (dk.drop (n - k)) * v) = B64 * valB B64 (dk.drop (n - k)) * v := by rw [Nat.mul_assoc]
    rw [e3, Nat.mul_comm B64 re]
    omega
end Go.Proofs.YthobkfkeaealhaaGreatDoor
namespace Go.Proofs.YthobkfkeaealhaaGreatDoor
open Go.RowKit Go.Shelf
set_option maxRecDepth 20000
set_option maxHeartbeats 0
theorem Nf.one {ys : List Nat} {b : Nat} (hy : Nf B64 ys b) (hl : ys.length = 1) : ys = [b] := by
  match ys, hl with
  | [y], _ => have := hy.val; simp [valB] at this; rw [this]
def cmpI (x y : Int) : Int := if x < y then -1 else if x = y then 0 else 1
theorem cmpI_nat (a b : Nat) : cmpI (a : Int) (b : Int) = cmpN a b := by
  unfold cmpI
  rcases Nat.lt_trichotomy a b with h | h | h
  · rw [if_pos (by omega), cmpN_lt h]
  · rw [if_neg (by omega), if_pos (by omega), cmpN_eq h]
  · rw [if_neg (by omega), if_neg (by omega), cmpN_gt h]
theorem cmpI_neg (a b : Nat) : cmpI (-(a : Int)) (-(b : Int)) = cmpN b a := by
  unfold cmpI
  rcases Nat.lt_trichotomy a b with h | h | h
  · rw [if_neg (by omega), if_neg (by omega), cmpN_gt h]
  · rw [if_neg (by omega), if_pos (by omega), cmpN_eq h.symm]
  · rw [if_pos (by omega), cmpN_lt h]
theorem Num.drewN {w : World} {p : Option Addr} {m c : Nat} {xs : List Nat} {a : Nat} (h : Num w p m c xs a) (r : Nat) : Num (w.drewN r) p m c xs a := ⟨h.at_.drewN r, h.nf, h.le⟩
theorem neg_any {p : Option Addr} {m c : Nat} {xs : List Nat} {a : Nat} {w : World} (s : Bool) (h : Num w p m c xs a) (hs : s = true → 0 < a) :
    Calls Tryz.prog 62 #[ZV s p m c] w fun e w' => ∃ v, e = .returned (.tuple #[v, .int .i64 0]) ∧ AnsZ w.heap.size w' v (iv (!s) a) ∧ Below w.heap.size w w' := by
  have H : Hid (Num w p m c xs a) := h
  have HS : Hid (s = true → 0 < a) := hs
  clear h hs
  go_enter Tryz.func62, Tryz.ntmps62
  go_wp2_with fail
  obtain ⟨W0, hW0⟩ : ∃ W0, W0 = ((w.alloc (.cells #[.bool s, .slice p m c] 45)).alloc (.cells #[.bool false, .slice none 0 0] 45)) := ⟨_, rfl⟩
  have Xx : Hid (Box W0 (w.heap.size) (.bool s) (.slice p m c)) := by rw [hW0]; exact ⟨by go_simp, by go_simp, by go_simp, by go_simp⟩
  have Xr : Hid (Box W0 (w.heap.size + 1) (.bool false) (.slice none 0 0)) := by rw [hW0]; exact ⟨by go_simp, by go_simp, by go_simp, by go_simp⟩
  have hb0 : Below w.heap.size w W0 := by rw [hW0]; exact below2 w _ _
  rw [← hW0]
  clear hW0
  have hbw : Below w.heap.size w w := Below.refl _ _
  obtain ⟨gr, hgr⟩ : ∃ g, g = w.heap.size + 1 := ⟨_, rfl⟩
  have HGr : Hid (w.heap.size ≤ gr) := by rw [hgr]; show _ ≤ _; omega
  rw [← hgr] at Xr
  try rw [← hgr]
  obtain ⟨gx, hgx⟩ : ∃ g, g = w.heap.size := ⟨_, rfl⟩
  have HGx : Hid (w.heap.size ≤ gx) := by rw [hgx]; show _ ≤ _; omega
  rw [← hgx] at Xx
  try rw [← hgx]
  have HGD : Hid (gx ≠ gr ∧ gr ≠ gx) := by rw [hgx, hgr]; exact ⟨by omega, by omega⟩
  clear hgx hgr
  replace H : Hid _ := H.out.below hb0
  replace hbw := Below.on hbw hb0
  clear hb0
  refine (numform_t s H.out HS.out).mono ?_
  rintro e w1 ⟨rfl, hb1⟩
  replace Xx : Hid _ := Xx.out.below hb1
  replace Xr : Hid _ := Xr.out.below hb1
  replace H : Hid _ := H.out.below hb1
  replace hbw := Below.on hbw hb1
  clear hb1
  obtain ⟨cx0, cx1, fx0, fx1⟩ := Xx.out
  have hnex := Xx.out.lt
  go_wp2_with fail
  clear cx0 cx1 fx0 fx1 hnex
  have hrl : gr < w1.heap.size := Xr.out.lt
  have HRL : Hid (gr < w1.heap.size ∧ w.heap.size ≤ w1.heap.size) := ⟨hrl, hbw.size⟩
  clear hrl
  refine (norm_any H.out.at_).mono ?_
  rintro e w2 ⟨ha, hb2⟩
  rw [H.out.nf.val] at ha
  obtain ⟨p2, m2, z2, rfl, ho2, hn2, hm2⟩ := ha.ok H.out.lim
  clear ha
  replace Xx : Hid _ := Xx.out.below hb2
  replace Xr : Hid _ := Xr.out.below hb2
  replace H : Hid _ := H.out.below hb2
  replace hbw := Below.on hbw hb2
  clear hb2
  have HO2 : Hid (Own w1.heap.size w2 p2 m2 z2) := ho2
  have HN2 : Hid (Nf B64 z2 a ∧ m2 ≤ 8192) := ⟨hn2, hm2⟩
  clear ho2 hn2 hm2
  obtain ⟨cx0, cx1, fx0, fx1⟩ := Xx.out
  have hnex := Xx.out.lt
  go_wp2_with fail
  clear cx0 cx1 fx0 fx1 hnex
  refine (signed_any (!s) p2 m2 m2 w2).mono ?_
  rintro e w3 ⟨rfl, hb3⟩
  replace Xx : Hid _ := Xx.out.below hb3
  replace Xr : Hid _ := Xr.out.below hb3
  replace H : Hid _ := H.out.below hb3
  replace HO2 : Hid (Own w1.heap.size w3 p2 m2 z2) := HO2.out.below hb3
  replace hbw := Below.on hbw hb3
  clear hb3
  obtain ⟨b, hb⟩ : ∃ b, b = ((!s) && decide (0 < m2)) := ⟨_, rfl⟩
  rw [← hb]
  have HBB : Hid (b = ((!s) && decide (0 < m2))) := hb
  clear hb
  obtain ⟨cr0, cr1, fr0, fr1⟩ := Xr.out
  have hner := Xr.out.lt
  go_wp2_with fail
  refine bodyPost_ret (v := .tuple #[ZV b p2 m2 m2, .int .i64 0]) (by rw [results_cell_tmp rfl]; go_simp) rfl ⟨_, rfl, ?_, ?_⟩
  · rw [HBB.out]
    exact AnsZ.mk (!s) (own_set2 HO2.out HRL.out.1 HRL.out.2 _ _) HN2.out.1 HN2.out.2
  · exact bSet (bSet hbw _ _ _ HGr.out) _ _ _ HGr.out
theorem nshl_any {p : Option Addr} {m c : Nat} {xs : List Nat} {a : Nat} {w : World} (s : Bool) (h : Num w p m c xs a) (hs : s = true → 0 < a) (n : Nat) (hn : n ≤ 9223372036854775807) :
    Calls Tryz.prog 67 #[ZV s p m c, .int .i64 n] w fun e w' => AnsI w.heap.size w' e (iv s (2 ^ n * a)) ∧ Below w.heap.size w w' := by
  have H : Hid (Num w p m c xs a) := h
  have HS : Hid (s = true → 0 < a) := hs
  clear h hs
  have HN : Hid (n ≤ 9223372036854775807) := hn
  have c0 : decide ((n : Int) < 0) = false := decide_eq_false (by omega)
  clear hn
  go_enter Tryz.func67, Tryz.ntmps67
  go_wp2_with fail
  obtain ⟨W0, hW0⟩ : ∃ W0, W0 = ((w.alloc (.cells #[.bool s, .slice p m c] 45)).alloc (.cells #[.bool false, .slice none 0 0] 45)) := ⟨_, rfl⟩
  have Xx : Hid (Box W0 (w.heap.size) (.bool s) (.slice p m c)) := by rw [hW0]; exact ⟨by go_simp, by go_simp, by go_simp, by go_simp⟩
  have Xr : Hid (Box W0 (w.heap.size + 1) (.bool false) (.slice none 0 0)) := by rw [hW0]; exact ⟨by go_simp, by go_simp, by go_simp, by go_simp⟩
  have hb0 : Below w.heap.size w W0 := by rw [hW0]; exact below2 w _ _
  rw [← hW0]
  clear hW0
  have hbw : Below w.heap.size w w := Below.refl _ _
  obtain ⟨gr, hgr⟩ : ∃ g, g = w.heap.size + 1 := ⟨_, rfl⟩
  have HGr : Hid (w.heap.size ≤ gr) := by rw [hgr]; show _ ≤ _; omega
  rw [← hgr] at Xr
  try rw [← hgr]
  obtain ⟨gx, hgx⟩ : ∃ g, g = w.heap.size := ⟨_, rfl⟩
  have HGx : Hid (w.heap.size ≤ gx) := by rw [hgx]; show _ ≤ _; omega
  rw [← hgx] at Xx
  try rw [← hgx]
  have HGD : Hid (gx ≠ gr ∧ gr ≠ gx) := by rw [hgx, hgr]; exact ⟨by omega, by omega⟩
  clear hgx hgr
  replace H : Hid _ := H.out.below hb0
  replace hbw := Below.on hbw hb0
  clear hb0
  refine (numform_t s H.out HS.out).mono ?_
  rintro e w1 ⟨rfl, hb1⟩
  replace Xx : Hid _ := Xx.out.below hb1
  replace Xr : Hid _ := Xr.out.below hb1
  replace H : Hid _ := H.out.below hb1
  replace hbw := Below.on hbw hb1
  clear hb1
  clear c0
  obtain ⟨cx0, cx1, fx0, fx1⟩ := Xx.out
  have hnex := Xx.out.lt
  go_wp2_with fail
  clear cx0 cx1 fx0 fx1 hnex
  have hrl : gr < w1.heap.size := Xr.out.lt
  have HRL : Hid (gr < w1.heap.size ∧ w.heap.size ≤ w1.heap.size) := ⟨hrl, hbw.size⟩
  clear hrl
  obtain ⟨v, hv⟩ : ∃ v, v = 2 ^ n * a := ⟨_, rfl⟩
  have HV : Hid (v = 2 ^ n * a) := hv
  refine (shl_nf H.out.at_ H.out.nf H.out.le n HN.out).mono ?_
  rintro e w2 ⟨ha, hb2⟩
  rw [← hv] at ha
  clear hv
  replace Xx : Hid _ := Xx.out.below hb2
  replace Xr : Hid _ := Xr.out.below hb2
  replace H : Hid _ := H.out.below hb2
  replace hbw := Below.on hbw hb2
  clear hb2
  rcases ha with ⟨hl, p2, m2, z2, rfl, ho2, hn2, hm2⟩ | ⟨hl, rfl⟩
  · have HL : Hid (v < LIM) := hl
    clear hl
    have HO2 : Hid (Own w1.heap.size w2 p2 m2 z2) := ho2
    have HN2 : Hid (Nf B64 z2 v ∧ m2 ≤ 8192) := ⟨hn2, hm2⟩
    clear ho2 hn2 hm2
    obtain ⟨cx0, cx1, fx0, fx1⟩ := Xx.out
    have hnex := Xx.out.lt
    go_wp2_with fail
    clear cx0 cx1 fx0 fx1 hnex
    refine (signed_any s p2 m2 m2 w2).mono ?_
    rintro e w3 ⟨rfl, hb3⟩
    replace Xx : Hid _ := Xx.out.below hb3
    replace Xr : Hid _ := Xr.out.below hb3
    replace H : Hid _ := H.out.below hb3
    replace HO2 : Hid (Own w1.heap.size w3 p2 m2 z2) := HO2.out.below hb3
    replace hbw := Below.on hbw hb3
    clear hb3
    obtain ⟨b, hb⟩ : ∃ b, b = (s && decide (0 < m2)) := ⟨_, rfl⟩
    rw [← hb]
    have HBB : Hid (b = (s && decide (0 < m2))) := hb
    clear hb
    obtain ⟨cr0, cr1, fr0, fr1⟩ := Xr.out
    have hner := Xr.out.lt
    go_wp2_with fail
    refine bodyPost_ret (v := .tuple #[ZV b p2 m2 m2, .int .i64 0]) (by rw [results_cell_tmp rfl]; go_simp) rfl ⟨.inl ⟨by rw [iv_natAbs, ← HV.out]; exact HL.out, p2, m2, z2, ?_, ?_, ?_, HN2.out.2⟩, ?_⟩
    · rw [HBB.out, iv_lt, ← HV.out, HN2.out.1.lenpos HO2.out.len]
    · exact own_set2 HO2.out HRL.out.1 HRL.out.2 _ _
    · rw [iv_natAbs, ← HV.out]; exact HN2.out.1
    · exact bSet (bSet hbw _ _ _ HGr.out) _ _ _ HGr.out
  · have HL : Hid (LIM ≤ v) := hl
    clear hl
    obtain ⟨cx0, cx1, fx0, fx1⟩ := Xx.out
    have hnex := Xx.out.lt
    go_wp2_with fail
    clear cx0 cx1 fx0 fx1 hnex
    refine (signed_any s none 0 0 w2).mono ?_
    rintro e w3 ⟨rfl, hb3⟩
    replace Xx : Hid _ := Xx.out.below hb3
    replace Xr : Hid _ := Xr.out.below hb3
    replace H : Hid _ := H.out.below hb3
    replace hbw := Below.on hbw hb3
    clear hb3
    rw [show (s && decide (0 < 0)) = false from by simp]
    obtain ⟨cr0, cr1, fr0, fr1⟩ := Xr.out
    have hner := Xr.out.lt
    go_wp2_with fail
    refine bodyPost_ret (v := .tuple #[ZV false none 0 0, .int .i64 5]) (by rw [results_cell_tmp rfl]; go_simp) rfl ⟨.inr ⟨by rw [iv_natAbs, ← HV.out]; exact HL.out, rfl⟩, ?_⟩
    exact bSet (bSet hbw _ _ _ HGr.out) _ _ _ HGr.out
theorem ncmp_any {p q : Option Addr} {m c n d : Nat} {xs ys : List Nat} {a b : Nat} {w : World} (s t : Bool) (h : Num w p m c xs a) (hs : s = true → 0 < a) (k : Num w q n d ys b) (ht : t = true → 0 < b) :
    Calls Tryz.prog 41 #[ZV s p m c, ZV t q n d] w fun e w' => e = .returned (.tuple #[.int .i64 (cmpI (iv s a) (iv t b)), .int .i64 0]) ∧ Below w.heap.size w w' := by
  have H : Hid (Num w p m c xs a) := h
  have HS : Hid (s = true → 0 < a) := hs
  clear h hs
  have K : Hid (Num w q n d ys b) := k
  have HT : Hid (t = true → 0 < b) := ht
  clear k ht
  go_enter Tryz.func41, Tryz.ntmps41
  go_wp2_with fail
  obtain ⟨W0, hW0⟩ : ∃ W0, W0 = ((w.alloc (.cells #[.bool s, .slice p m c] 45)).alloc (.cells #[.bool t, .slice q n d] 45)) := ⟨_, rfl⟩
  have Xx : Hid (Box W0 (w.heap.size) (.bool s) (.slice p m c)) := by rw [hW0]; exact ⟨by go_simp, by go_simp, by go_simp, by go_simp⟩
  have Xy : Hid (Box W0 (w.heap.size + 1) (.bool t) (.slice q n d)) := by rw [hW0]; exact ⟨by go_simp, by go_simp, by go_simp, by go_simp⟩
  have hb0 : Below w.heap.size w W0 := by rw [hW0]; exact below2 w _ _
  rw [← hW0]
  clear hW0
  have hbw : Below w.heap.size w w := Below.refl _ _
  obtain ⟨gy, hgy⟩ : ∃ g, g = w.heap.size + 1 := ⟨_, rfl⟩
  have HGy : Hid (w.heap.size ≤ gy) := by rw [hgy]; show _ ≤ _; omega
  rw [← hgy] at Xy
  try rw [← hgy]
  obtain ⟨gx, hgx⟩ : ∃ g, g = w.heap.size := ⟨_, rfl⟩
  have HGx : Hid (w.heap.size ≤ gx) := by rw [hgx]; show _ ≤ _; omega
  rw [← hgx] at Xx
  try rw [← hgx]
  have HGD : Hid (gx ≠ gy ∧ gy ≠ gx) := by rw [hgx, hgy]; exact ⟨by omega, by omega⟩
  clear hgx hgy
  replace H : Hid _ := H.out.below hb0
  replace K : Hid _ := K.out.below hb0
  replace hbw := Below.on hbw hb0
  clear hb0
  refine (numform_t s H.out HS.out).mono ?_
  rintro e w1 ⟨rfl, hb1⟩
  replace Xx : Hid _ := Xx.out.below hb1
  replace Xy : Hid _ := Xy.out.below hb1
  replace H : Hid _ := H.out.below hb1
  replace K : Hid _ := K.out.below hb1
  replace hbw := Below.on hbw hb1
  clear hb1
  obtain ⟨cy0, cy1, fy0, fy1⟩ := Xy.out
  have hney := Xy.out.lt
  go_wp2_with fail
  clear cy0 cy1 fy0 fy1 hney
  refine (numform_t t K.out HT.out).mono ?_
  rintro e w2 ⟨rfl, hb2⟩
  replace Xx : Hid _ := Xx.out.below hb2
  replace Xy : Hid _ := Xy.out.below hb2
  replace H : Hid _ := H.out.below hb2
  replace K : Hid _ := K.out.below hb2
  replace hbw := Below.on hbw hb2
  clear hb2
  cases s <;> cases t
  · obtain ⟨cx0, cx1, fx0, fx1⟩ := Xx.out
    have hnex : gx < w2.heap.size := World.block_lt_of_cell? w2 _ cx0
    obtain ⟨cy0, cy1, fy0, fy1⟩ := Xy.out
    have hney := Xy.out.lt
    go_wp2_with fail
    clear cx0 cx1 fx0 fx1 hnex
    clear cy0 cy1 fy0 fy1 hney
    refine (cmp_wN H.out.at_ K.out.at_ H.out.nf K.out.nf).mono ?_
    rintro e w3 ⟨rfl, r, rfl⟩
    have hbr := bDrewN hbw r
    go_wp2_with fail
    go_ret2
    refine ⟨?_, hbr⟩
    show Ending.returned (.tuple #[.int .i64 (cmpN a b), .int .i64 0]) = _
    rw [iv_f, iv_f, cmpI_nat]
  · obtain ⟨cx0, cx1, fx0, fx1⟩ := Xx.out
    have hnex : gx < w2.heap.size := World.block_lt_of_cell? w2 _ cx0
    obtain ⟨cy0, cy1, fy0, fy1⟩ := Xy.out
    have hney := Xy.out.lt
    go_wp2_with fail
    clear cx0 cx1 fx0 fx1 hnex
    clear cy0 cy1 fy0 fy1 hney
    go_ret2
    refine ⟨?_, hbw⟩
    show Ending.returned (.tuple #[.int .i64 (1), .int .i64 0]) = _
    have := HT.out (by simp)
    rw [iv_f, iv_t, show cmpI (a : Int) (-(b : Int)) = 1 from by unfold cmpI; rw [if_neg (by omega), if_neg (by omega)]]
  · obtain ⟨cx0, cx1, fx0, fx1⟩ := Xx.out
    have hnex : gx < w2.heap.size := World.block_lt_of_cell? w2 _ cx0
    obtain ⟨cy0, cy1, fy0, fy1⟩ := Xy.out
    have hney := Xy.out.lt
    go_wp2_with fail
    clear cx0 cx1 fx0 fx1 hnex
    clear cy0 cy1 fy0 fy1 hney
    go_ret2
    refine ⟨?_, hbw⟩
    show Ending.returned (.tuple #[.int .i64 (-1), .int .i64 0]) = _
    have := HS.out (by simp)
    rw [iv_t, iv_f, show cmpI (-(a : Int)) (b : Int) = -1 from by unfold cmpI; rw [if_pos (by omega)]]
  · obtain ⟨cx0, cx1, fx0, fx1⟩ := Xx.out
    have hnex : gx < w2.heap.size := World.block_lt_of_cell? w2 _ cx0
    obtain ⟨cy0, cy1, fy0, fy1⟩ := Xy.out
    have hney := Xy.out.lt
    go_wp2_with fail
    clear cx0 cx1 fx0 fx1 hnex
    clear cy0 cy1 fy0 fy1 hney
    refine (cmp_wN K.out.at_ H.out.at_ K.out.nf H.out.nf).mono ?_
    rintro e w3 ⟨rfl, r, rfl⟩
    have hbr := bDrewN hbw r
    go_wp2_with fail
    go_ret2
    refine ⟨?_, hbr⟩
    show Ending.returned (.tuple #[.int .i64 (cmpN b a), .int .i64 0]) = _
    rw [iv_t, iv_t, cmpI_neg]
structure Row32 (w : World) (g off n : Nat) (xs : List Nat) : Prop where
  len : xs.length = n
  dig : Dig B32 xs
  cell : ∀ j, j < n → w.cell? ⟨g, off + j, none⟩ = some (V (xs.getD j 0))
  frozen : ∀ j, j < n → w.frozen? ⟨g, off + j, none⟩ = false
theorem Row32.at_ {w : World} {g off n c : Nat} {xs : List Nat} (h : Row32 w g off n xs) (hc : n ≤ c) (hb : c ≤ maxLen) : At32 w (some ⟨g, off, none⟩) n c xs :=
  ⟨h.len, hc, hb, h.dig, .inr ⟨g, off, rfl, h.cell⟩⟩
theorem Row32.set {w : World} {g off n : Nat} {xs : List Nat} (h : Row32 w g off n xs) (k y : Nat) (hk : k < n) (hy : y < B32) : Row32 (w.setCell ⟨g, off + k, none⟩ (V y)) g off n (xs.set k y) := by
  refine ⟨by rw [List.length_set]; exact h.len, h.dig.set k hy, fun j hj => ?_, fun j hj => by rw [World.frozen?_setCell]; exact h.frozen j hj⟩
  rw [getD_set xs k y j (by rw [h.len]; exact hk)]
  by_cases e : j = k
  · subst e; rw [if_pos rfl]; exact World.cell?_setCell_same _ _ _ (h.cell j hj)
  · rw [if_neg e]
    exact (World.cell?_setCell_other _ _ _ _ (by intro e2; apply e; have := congrArg Addr.off e2; simp at this; omega)).trans (h.cell j hj)
theorem Row32.drewN {w : World} {g off n : Nat} {xs : List Nat} (h : Row32 w g off n xs) (q : Nat) : Row32 (w.drewN q) g off n xs := ⟨h.len, h.dig, h.cell, h.frozen⟩
theorem Row32.drew {w : World} {g off n : Nat} {xs : List Nat} (h : Row32 w g off n xs) : Row32 w.drew g off n xs := ⟨h.len, h.dig, h.cell, h.frozen⟩
theorem Blk32.frozen {w : World} {g : Nat} {xs : List Nat} (h : Blk32 w g xs) (j : Nat) : w.frozen? ⟨g, j, none⟩ = false := frozen_of_row w g j _ _ h
theorem Blk32.row {w : World} {g : Nat} {xs : List Nat} (h : Blk32 w g xs) (hd : Dig B32 xs) : Row32 w g 0 xs.length xs :=
  ⟨rfl, hd, fun j hj => by rw [Nat.zero_add]; exact h.cell j hj, fun j _ => h.frozen _⟩
theorem Row32.win {w : World} {g m : Nat} {rs : List Nat} (h : Row32 w g 0 m rs) (a l : Nat) (ha : a + l ≤ m) : Row32 w g a l ((rs.drop a).take l) := by
  have hl := h.len
  refine ⟨by simp; omega, (h.dig.drop a).take l, fun j hj => ?_, fun j hj => ?_⟩
  · have e : ((rs.drop a).take l).getD j 0 = rs.getD (a + j) 0 := by
      rw [List.getD_eq_getElem?_getD, List.getD_eq_getElem?_getD, List.getElem?_take, if_pos hj, List.getElem?_drop]
    rw [e]
    have := h.cell (a + j) (by omega)
    rw [Nat.zero_add] at this; exact this
  · have := h.frozen (a + j) (by omega)
    rw [Nat.zero_add] at this; exact this
theorem Row32.put {w w' : World} {g m a l : Nat} {rs ws : List Nat} (h : Row32 w g 0 m rs) (hwr : Wr g a l w w') (hr : Row32 w' g a l ws) (ha : a + l ≤ m) : Row32 w' g 0 m (winPut rs ws a) := by
  have hl := h.len; have hwl := hr.len
  have hle : a + ws.length ≤ rs.length := by omega
  refine ⟨by rw [winPut_len rs ws a hle]; exact hl, ?_, fun j hj => ?_, fun j hj => ?_⟩
  · unfold winPut; exact ((h.dig.take a).append hr.dig).append (h.dig.drop _)
  · rw [winPut_get rs ws a j hle, Nat.zero_add]
    by_cases hc : a ≤ j ∧ j < a + ws.length
    · rw [if_pos hc]
      have := hr.cell (j - a) (by omega)
      rw [show a + (j - a) = j by omega] at this; exact this
    · rw [if_neg hc, hwr.cell g j (by omega)]
      have := h.cell j hj
      rw [Nat.zero_add] at this; exact this
  · rw [hwr.frozen]; exact h.frozen j hj
theorem win_take32 (rs : List Nat) (a m : Nat) (h : a + m ≤ rs.length) : valB B32 rs = valB B32 (rs.take a) + B32 ^ a * (valB B32 ((rs.drop a).take m) + B32 ^ m * valB B32 (rs.drop (a + m))) := by
  rw [valB_split B32 rs a (by omega), valB_split B32 (rs.drop a) m (by rw [List.length_drop]; omega), List.drop_drop]

structure RMulRel (w : World) (g off m : Nat) (zs ys : List Nat) (v k cy : Nat) (dk : List Nat) (wr : World) : Prop where
  wrs : Wr g off m w wr
  row : Row32 wr g off m dk
  hi : dk.drop k = zs.drop k
  car : cy < B32
  sum : valB B32 (dk.take k) + B32 ^ k * cy = valB B32 (zs.take k) + valB B32 (ys.take k) * v
theorem RMulRel.step {w : World} {g off m : Nat} {zs ys : List Nat} {v k cy : Nat} {dk : List Nat} {wr : World} (h : RMulRel w g off m zs ys v k cy dk wr) (hk : k < m)
    {x z l d : Nat} (hz : z = dk.getD k 0) (hx : x = ys.getD k 0) (hs : x * v + z + cy = l + B32 * d) (hl : l < B32) (hd : d < B32) :
    RMulRel w g off m zs ys v (k + 1) d (dk.set k l) (wr.setCell ⟨g, off + k, none⟩ (V l)) := by
  have hlen := h.row.len
  refine ⟨h.wrs.setCell (off + k) ⟨by omega, by omega⟩ _, h.row.set k l hk hl, ?_, hd, ?_⟩
  · rw [drop_set_lt]; exact drop_succ_of_drop h.hi
  · have hzz : z = zs.getD k 0 := hz.trans (getD_of_drop h.hi)
    rw [take_set_succ dk k l (by omega), valB_snoc, List.length_take, hlen, Nat.min_eq_left (by omega), valB_take_any _ zs k, valB_take_any _ ys k, ← hzz, ← hx, Nat.pow_succ, Nat.add_mul]
    have e1 := h.sum
    have e2 : B32 ^ k * (x * v + z + cy) = B32 ^ k * (l + B32 * d) := by rw [hs]
    rw [Nat.mul_add, Nat.mul_add, Nat.mul_add, ← Nat.mul_assoc] at e2
    have e3 : B32 ^ k * x * v = B32 ^ k * (x * v) := Nat.mul_assoc _ _ _
    have e4 : B32 ^ k * B32 * d = B32 ^ k * (B32 * d) := Nat.mul_assoc _ _ _
    rw [e3, e4]
    rw [← Nat.mul_assoc] at e2
    generalize B32 ^ k * x * v = X0 at *
    generalize B32 ^ k * (x * v) = X1 at *
    generalize B32 ^ k * B32 * d = X2 at *
    generalize B32 ^ k * (B32 * d) = X3 at *
    generalize B32 ^ k * z = X4 at *
    generalize B32 ^ k * cy = X5 at *
    generalize B32 ^ k * l = X6 at *
    omega

theorem RMulRel.drewN {w : World} {g off m : Nat} {zs ys : List Nat} {v k cy : Nat} {dk : List Nat} {wr : World} (h : RMulRel w g off m zs ys v k cy dk wr) (q : Nat) : RMulRel w g off m zs ys v k cy dk (wr.drewN q) :=
  ⟨h.wrs.drewN q, h.row.drewN q, h.hi, h.car, h.sum⟩
theorem valB_set_zero (b : Nat) (xs : List Nat) (k y : Nat) (hk : k < xs.length) (h0 : xs.getD k 0 = 0) : valB b (xs.set k y) = valB b xs + b ^ k * y := by
  have h1 := valB_split b xs k (by omega)
  have h2 := valB_split b (xs.set k y) k (by simp; omega)
  rw [drop_set_at xs k y hk, take_set_at, valB_cons] at h2
  rw [valB_drop b xs k hk, h0] at h1
  rw [h2, h1, Nat.mul_add, Nat.zero_add]
  omega
theorem valB_drop_zero {b : Nat} (hb : 0 < b) {xs : List Nat} {k : Nat} (h : valB b (xs.drop k) = 0) : xs.getD k 0 = 0 ∧ valB b (xs.drop (k + 1)) = 0 := by
  by_cases hk : k < xs.length
  · rw [valB_drop b xs k hk] at h
    have h1 : b * valB b (xs.drop (k + 1)) = 0 := by omega
    refine ⟨by omega, ?_⟩
    rcases Nat.mul_eq_zero.1 h1 with e | e
    · omega
    · exact e
  · refine ⟨?_, ?_⟩
    · rw [List.getD_eq_getElem?_getD, List.getElem?_eq_none (by omega)]; rfl
    · rw [List.drop_of_length_le (by omega)]; rfl
structure RMulO (w : World) (g N m : Nat) (xs ys : List Nat) (i : Nat) (ps : List Nat) (wr : World) : Prop where
  bel : Below g w wr
  row : Row32 wr g 0 N ps
  val : valB B32 ps = valB B32 (xs.take i) * valB B32 ys
  zero : valB B32 (ps.drop (i + m)) = 0
theorem rmul_abs {P Y x T Z D V cy B m : Nat} (h1 : V = T + P * Z) (h2 : D + B ^ m * cy = Z + Y * x) : T + P * D + P * B ^ m * cy = V + P * (Y * x) := by
  have e1 : P * (D + B ^ m * cy) = P * (Z + Y * x) := by rw [h2]
  rw [Nat.mul_add, Nat.mul_add, ← Nat.mul_assoc] at e1
  omega
theorem RMulO.step {w : World} {g N m n : Nat} {xs ys : List Nat} {i : Nat} {ps : List Nat} {wr wr' : World} (h : RMulO w g N m xs ys i ps wr) (hi : i < n) (hN : N = n + m) (hx : xs.length = n) (hy : ys.length = m) {x cy : Nat} {dk : List Nat} (ex : x = xs.getD i 0) (hR : RMulRel wr g i m ((ps.drop i).take m) ys x m cy dk wr') :
    RMulO w g N m xs ys (i + 1) ((winPut ps dk i).set (i + m) cy) (wr'.setCell ⟨g, i + m, none⟩ (V cy)) := by
  have hl := h.row.len; have hdl := hR.row.len
  have hle : i + dk.length ≤ ps.length := by omega
  have hrow := h.row.put hR.wrs hR.row (by omega)
  have hz := valB_drop_zero B32_pos h.zero
  have hsum := hR.sum
  have t1 : dk.take m = dk := List.take_of_length_le (by omega)
  have t2 : ((ps.drop i).take m).take m = (ps.drop i).take m := by rw [List.take_take, Nat.min_self]
  have t3 : ys.take m = ys := List.take_of_length_le (by omega)
  rw [t1, t2, t3] at hsum
  have hv := win_take32 ps i m (by omega)
  rw [h.zero, Nat.mul_zero, Nat.add_zero] at hv
  have hv1 : valB B32 (winPut ps dk i) = valB B32 (ps.take i) + B32 ^ i * valB B32 dk := by
    rw [valB_split B32 (winPut ps dk i) i (by rw [winPut_len ps dk i hle]; omega), winPut_take ps dk i hle, winPut_drop ps dk i hle, valB_append, hdl, h.zero, Nat.mul_zero, Nat.add_zero]
  have hg0 : (winPut ps dk i).getD (i + m) 0 = 0 := by
    rw [winPut_get ps dk i (i + m) hle, if_neg (by omega)]; exact hz.1
  refine ⟨(h.bel.trans (hR.wrs.below (Nat.le_refl _))).trans (((Wr.refl g 0 N wr').setCell (i + m) ⟨by omega, by omega⟩ (V cy)).below (Nat.le_refl _)), ?_, ?_, ?_⟩
  · have := hrow.set (i + m) cy (by omega) hR.car
    rw [Nat.zero_add] at this; exact this
  · rw [valB_set_zero B32 _ (i + m) cy (by rw [winPut_len ps dk i hle]; omega) hg0, hv1, Nat.pow_add, rmul_abs hv hsum, h.val, valB_take_succ B32 xs i (by omega), ← ex, Nat.add_mul, Nat.mul_assoc, Nat.mul_comm (valB B32 ys) x]
  · rw [show i + 1 + m = i + m + 1 by omega, drop_set_lt]
    have e : (winPut ps dk i).drop (i + m + 1) = ps.drop (i + m + 1) := by
      have e1 : (winPut ps dk i).drop (i + m) = ps.drop (i + m) := by
        have := congrArg (List.drop dk.length) (winPut_drop ps dk i hle)
        rw [List.drop_drop, List.drop_left, hdl] at this
        exact this
      have := congrArg (List.drop 1) e1
      rw [List.drop_drop, List.drop_drop] at this; exact this
    rw [e]; exact hz.2
structure RAddR (w : World) (g N M : Nat) (xs ys : List Nat) (i cy : Nat) (ss : List Nat) (wr : World) : Prop where
  bel : Below g w wr
  own : wr.ownsRow g 155 1 (.slice (some ⟨g, 0, none⟩) i N) i (cellsV ss)
  len : ss.length = i
  dig : Dig B32 ss
  car : cy ≤ 1
  fin : i ≤ M + 1
  last : i = M + 1 → cy = 0
  sum : valB B32 ss + B32 ^ i * cy = valB B32 (xs.take i) + valB B32 (ys.take i)
theorem RAddR.at_ {w : World} {g N M : Nat} {xs ys : List Nat} {i cy : Nat} {ss : List Nat} {wr : World} (h : RAddR w g N M xs ys i cy ss wr) : At32 wr (some ⟨g, 0, none⟩) i N ss := by
  rcases h.own.2 with ⟨h', _⟩ | ⟨g', cap', cur, h', hbase, hgc, hcap', hmx, hsz, htake⟩
  · simp at h'
  · simp only [Value.slice.injEq, Option.some.injEq, Addr.mk.injEq, and_true, true_and] at h'
    obtain ⟨rfl, rfl⟩ := h'
    refine ⟨h.len, hcap', hmx, h.dig, .inr ⟨g, 0, rfl, fun jj hj => ?_⟩⟩
    rw [Nat.zero_add, cell_of_row wr g jj _ _ _ hgc]
    have e1 := cellsV_get ss jj (by rw [h.len]; exact hj)
    rw [← htake, Nat.mul_one, List.getElem?_take, if_pos hj] at e1
    rw [← Array.getElem?_toList]; exact e1
def sgnI (z : Int) : Int := if z < 0 then -1 else if z = 0 then 0 else 1
theorem bits_zero (a : Nat) : bitsN a = 0 ↔ a = 0 := by
  have h1 := lt_pow_bits a 0
  constructor
  · intro e
    have := h1.2 (by omega)
    omega
  · rintro rfl
    have := h1.1 (by omega)
    omega
theorem sign_any {p : Option Addr} {m c : Nat} {xs : List Nat} {a : Nat} {w : World} (s : Bool) (h : Num w p m c xs a) :
    Calls Tryz.prog 35 #[ZV s p m c] w fun e w' => e = .returned (.int .i64 (sgnI (iv s a))) ∧ Below w.heap.size w w' := by
  have H : Hid (Num w p m c xs a) := h
  have hm := h.le
  obtain ⟨bb, hbb⟩ : ∃ bb, bb = bitsN a := ⟨_, rfl⟩
  have HBB : Hid (bb = bitsN a) := hbb
  clear h hbb
  by_cases ha : a = 0
  · have hb0 : bb = 0 := by rw [HBB.out]; exact (bits_zero a).2 ha
    have hr : sgnI (iv s a) = 0 := by rw [ha]; cases s <;> rfl
    rw [hr]
    clear hr ha
    go_enter Tryz.func35, Tryz.ntmps35
    go_wp2_with fail
    refine (bits_any (H.out.at_.alloc _) (by omega)).mono ?_
    rintro e w1 ⟨rfl, hw⟩
    rw [H.out.nf.val, ← HBB.out, hb0]
    have hbw : Below w.heap.size w w1 := by rw [hw]; exact below1 w _
    clear hw hb0
    go_wp2_with fail
    go_ret
    exact ⟨rfl, hbw⟩
  · have hb0 : ((bb : Int) == 0) = false := by have := mt (bits_zero a).1 ha; rw [← HBB.out] at this; simpa using this
    obtain ⟨sg, hsg⟩ : ∃ sg, sg = sgnI (iv s a) := ⟨_, rfl⟩
    rw [← hsg]
    have HSG : Hid (sg = if s = true then -1 else 1) := by
      show _ = _
      rw [hsg]; unfold sgnI
      cases s
      · rw [iv_f, if_neg (by omega), if_neg (by omega), if_neg (by simp)]
      · rw [iv_t, if_pos (by omega), if_pos rfl]
    clear hsg ha
    cases s
    · go_enter Tryz.func35, Tryz.ntmps35
      go_wp2_with fail
      refine (bits_any (H.out.at_.alloc _) (by omega)).mono ?_
      rintro e w1 ⟨rfl, hw⟩
      rw [H.out.nf.val, ← HBB.out]
      have hbw : Below w.heap.size w w1 := by rw [hw]; exact below1 w _
      have B0 : Box (w.alloc (.cells #[.bool false, .slice p m c] 45)) w.heap.size (.bool false) (.slice p m c) := ⟨by go_simp, by go_simp, by go_simp, by go_simp⟩
      obtain ⟨c0, c1, f0, f1⟩ := B0
      rw [← hw] at c0 c1 f0 f1
      clear hw
      go_wp2_with fail
      go_ret
      exact ⟨by rw [HSG.out]; rfl, hbw⟩
    · go_enter Tryz.func35, Tryz.ntmps35
      go_wp2_with fail
      refine (bits_any (H.out.at_.alloc _) (by omega)).mono ?_
      rintro e w1 ⟨rfl, hw⟩
      rw [H.out.nf.val, ← HBB.out]
      have hbw : Below w.heap.size w w1 := by rw [hw]; exact below1 w _
      have B0 : Box (w.alloc (.cells #[.bool true, .slice p m c] 45)) w.heap.size (.bool true) (.slice p m c) := ⟨by go_simp, by go_simp, by go_simp, by go_simp⟩
      obtain ⟨c0, c1, f0, f1⟩ := B0
      rw [← hw] at c0 c1 f0 f1
      clear hw
      go_wp2_with fail
      go_ret
      exact ⟨by rw [HSG.out]; rfl, hbw⟩
theorem Box.put {W : World} {g : Nat} {v0 v1 : Value} (h : Box W g v0 v1) (u0 u1 : Value) : Box ((W.setCell ⟨g, 0, none⟩ u0).setCell ⟨g, 1, none⟩ u1) g u0 u1 := by
  obtain ⟨c0, c1, f0, f1⟩ := h
  exact ⟨by go_simp, by go_simp, by go_simp, by go_simp⟩
structure ZN (w : World) (s : Bool) (p : Option Addr) (m c : Nat) (z : Int) : Prop where
  ex : ∃ xs, Num w p m c xs z.natAbs
  sg : s = decide (z < 0)
theorem ZN.below {w w' : World} {s : Bool} {p : Option Addr} {m c : Nat} {z : Int} (h : ZN w s p m c z) (hb : Below w.heap.size w w') : ZN w' s p m c z := by
  obtain ⟨xs, hx⟩ := h.ex
  exact ⟨⟨xs, hx.below hb⟩, h.sg⟩
theorem ZN.iv {w : World} {s : Bool} {p : Option Addr} {m c : Nat} {z : Int} (h : ZN w s p m c z) : iv s z.natAbs = z := by rw [h.sg]; exact iv_abs z
theorem ZN.pos {w : World} {s : Bool} {p : Option Addr} {m c : Nat} {z : Int} (h : ZN w s p m c z) : s = true → 0 < z.natAbs := by rw [h.sg]; exact sgn_pos z
theorem ZN.lim {w : World} {s : Bool} {p : Option Addr} {m c : Nat} {z : Int} (h : ZN w s p m c z) : z.natAbs < LIM := by
  obtain ⟨xs, hx⟩ := h.ex
  exact hx.lim
theorem ZN.le {w : World} {s : Bool} {p : Option Addr} {m c : Nat} {z : Int} (h : ZN w s p m c z) : m ≤ 8192 := by
  obtain ⟨xs, hx⟩ := h.ex
  exact hx.le
theorem ZN.cast {w : World} {s : Bool} {p : Option Addr} {m c : Nat} {z z' : Int} (h : ZN w s p m c z) (e : z = z') : ZN w s p m c z' := e ▸ h
theorem ZN.of {w : World} {p : Option Addr} {m c : Nat} {xs : List Nat} {a : Nat} {t : Bool} (h : Num w p m c xs a) (ht : t = true → 0 < a) : ZN w t p m c (Go.Proofs.YthobkfkeaealhaaGreatDoor.iv t a) :=
  ⟨⟨xs, by rw [iv_natAbs]; exact h⟩, by
    cases t
    · rw [iv_f]; exact (decide_eq_false (Int.not_lt.2 (Int.natCast_nonneg _))).symm
    · rw [iv_t]; have := ht rfl; exact (decide_eq_true (by omega)).symm⟩
def Got (w' : World) (e : Ending) (z : Int) : Prop := ∃ s p m, e = .returned (.tuple #[ZV s p m m, .int .i64 0]) ∧ ZN w' s p m m z
theorem AnsZ.zn {B : Nat} {w' : World} {v : Value} {z : Int} (h : AnsZ B w' v z) : ∃ s p m, v = ZV s p m m ∧ ZN w' s p m m z := by
  obtain ⟨p, m, zs, rfl, ho, hn, hm⟩ := h
  exact ⟨_, p, m, rfl, ⟨zs, Num.of ho hn hm⟩, rfl⟩
theorem AnsI.zn {B : Nat} {w' : World} {e : Ending} {z : Int} (h : AnsI B w' e z) : (z.natAbs < LIM ∧ Got w' e z) ∨ (LIM ≤ z.natAbs ∧ e = .returned (.tuple #[ZV false none 0 0, .int .i64 5])) := by
  rcases h with ⟨hl, p, m, zs, rfl, ho, hn, hm⟩ | ⟨hl, rfl⟩
  · exact .inl ⟨hl, _, p, m, rfl, ⟨zs, Num.of ho hn hm⟩, rfl⟩
  · exact .inr ⟨hl, rfl⟩
theorem AnsI.got {B : Nat} {w' : World} {e : Ending} {z : Int} (h : AnsI B w' e z) (hz : z.natAbs < LIM) : Got w' e z := by
  rcases h.zn with ⟨_, k⟩ | ⟨k, _⟩
  · exact k
  · omega
variable {w : World} {s t : Bool} {p q : Option Addr} {m c n d : Nat} {x y : Int}
theorem zadd (h : ZN w s p m c x) (k : ZN w t q n d y) : Calls Tryz.prog 59 #[ZV s p m c, ZV t q n d] w fun e w' => AnsI w.heap.size w' e (x + y) ∧ Below w.heap.size w w' := by
  obtain ⟨xs, hx⟩ := h.ex
  obtain ⟨ys, hy⟩ := k.ex
  have := nadd_any s t hx hy h.pos k.pos
  rwa [h.iv, k.iv] at this
theorem zcmp (h : ZN w s p m c x) (k : ZN w t q n d y) : Calls Tryz.prog 41 #[ZV s p m c, ZV t q n d] w fun e w' => e = .returned (.tuple #[.int .i64 (cmpI x y), .int .i64 0]) ∧ Below w.heap.size w w' := by
  obtain ⟨xs, hx⟩ := h.ex
  obtain ⟨ys, hy⟩ := k.ex
  have := ncmp_any s t hx h.pos hy k.pos
  rwa [h.iv, k.iv] at this
theorem zshl (h : ZN w s p m c x) (k : Nat) (hk : k ≤ 9223372036854775807) : Calls Tryz.prog 67 #[ZV s p m c, .int .i64 k] w fun e w' => AnsI w.heap.size w' e (x * 2 ^ k) ∧ Below w.heap.size w w' := by
  obtain ⟨xs, hx⟩ := h.ex
  have := nshl_any s hx h.pos k hk
  rwa [show Go.Proofs.YthobkfkeaealhaaGreatDoor.iv s (2 ^ k * x.natAbs) = x * 2 ^ k from by
    have e := h.iv
    rw [show Go.Proofs.YthobkfkeaealhaaGreatDoor.iv s (2 ^ k * x.natAbs) = Go.Proofs.YthobkfkeaealhaaGreatDoor.iv s x.natAbs * 2 ^ k from by cases s <;> simp [Go.Proofs.YthobkfkeaealhaaGreatDoor.iv, Int.mul_comm, Int.neg_mul], e]] at this
theorem zsign (h : ZN w s p m c x) : Calls Tryz.prog 35 #[ZV s p m c] w fun e w' => e = .returned (.int .i64 (sgnI x)) ∧ Below w.heap.size w w' := by
  obtain ⟨xs, hx⟩ := h.ex
  have := sign_any s hx
  rwa [h.iv] at this
theorem zform (h : ZN w s p m c x) : Calls Tryz.prog 63 #[ZV s p m c] w fun e w' => e = .returned (.bool true) ∧ Below w.heap.size w w' := by
  obtain ⟨xs, hx⟩ := h.ex
  exact numform_t s hx h.pos
structure B3q (W : World) (g : Nat) (v0 v1 v2 : Value) : Prop where
  c0 : W.cell? ⟨g, 0, none⟩ = some v0
  c1 : W.cell? ⟨g, 1, none⟩ = some v1
  c2 : W.cell? ⟨g, 2, none⟩ = some v2
  f0 : W.frozen? ⟨g, 0, none⟩ = false
  f1 : W.frozen? ⟨g, 1, none⟩ = false
  f2 : W.frozen? ⟨g, 2, none⟩ = false
theorem B3q.lt {w : World} {g : Nat} {a b c : Value} (h : B3q w g a b c) : g < w.heap.size := World.block_lt_of_cell? w _ h.c0
theorem B3q.below {W W' : World} {g : Nat} {v0 v1 v2 : Value} (h : B3q W g v0 v1 v2) (hb : Below W.heap.size W W') : B3q W' g v0 v1 v2 := by
  have hl : g < W.heap.size := World.block_lt_of_cell? W _ h.c0
  exact ⟨(hb.cell (p := ⟨g, 0, none⟩) hl).trans h.c0, (hb.cell (p := ⟨g, 1, none⟩) hl).trans h.c1, (hb.cell (p := ⟨g, 2, none⟩) hl).trans h.c2, (hb.frozen (p := ⟨g, 0, none⟩) hl).trans h.f0, (hb.frozen (p := ⟨g, 1, none⟩) hl).trans h.f1, (hb.frozen (p := ⟨g, 2, none⟩) hl).trans h.f2⟩
theorem B3q.new (w : World) (ty : TypeId) (v0 v1 v2 : Value) : B3q (w.alloc (.cells #[v0, v1, v2] ty)) w.heap.size v0 v1 v2 := ⟨by go_simp, by go_simp, by go_simp, by go_simp, by go_simp, by go_simp⟩
abbrev DV (s : Bool) (p : Option Addr) (m c : Nat) (e : Int) : Value := .agg #[.bool s, .slice p m c, .int .i64 e]
def DFm (z e : Int) : Prop := (z = 0 ∧ e = 0) ∨ (z % 2 = 1 ∧ -1048576 ≤ e ∧ e ≤ 1048576)
structure DN (w : World) (s : Bool) (p : Option Addr) (m c : Nat) (e z : Int) : Prop where
  zn : ZN w s p m c z
  fm : DFm z e
theorem DN.below {w w' : World} {s : Bool} {p : Option Addr} {m c : Nat} {e z : Int} (h : DN w s p m c e z) (hb : Below w.heap.size w w') : DN w' s p m c e z := ⟨h.zn.below hb, h.fm⟩
def dv (z e : Int) : Int := z * ((2 ^ (e + 4194304).toNat : Nat) : Int)
theorem pow_pos_int (k : Nat) : ((2 ^ k : Nat) : Int) ≠ 0 := by
  have : 0 < 2 ^ k := Nat.pow_pos (by omega)
  intro h
  have := Int.ofNat.inj h
  omega
theorem dpow_split {a b : Nat} (h : a ≤ b) : ((2 ^ b : Nat) : Int) = ((2 ^ (b - a) : Nat) : Int) * ((2 ^ a : Nat) : Int) := by
  have : 2 ^ b = 2 ^ (b - a) * 2 ^ a := by rw [← Nat.pow_add, Nat.sub_add_cancel h]
  rw [this, Int.natCast_mul]
theorem dv_zero (e : Int) : dv 0 e = 0 := by unfold dv; rw [Int.zero_mul]
theorem dv_eq_zero {z e : Int} (h : dv z e = 0) : z = 0 := by
  unfold dv at h
  exact (Int.mul_eq_zero.1 h).resolve_right (pow_pos_int _)
theorem odd_ne {z z' : Int} {a b : Nat} (hz : z % 2 = 1) (h : z * ((2 ^ a : Nat) : Int) = z' * ((2 ^ b : Nat) : Int)) : b ≤ a := by
  refine Nat.le_of_not_lt fun hlt => ?_
  rw [dpow_split (Nat.le_of_lt hlt), ← Int.mul_assoc] at h
  have h1 := Int.eq_of_mul_eq_mul_right (pow_pos_int a) h
  obtain ⟨k, hk⟩ : ∃ k, b - a = k + 1 := ⟨b - a - 1, by omega⟩
  rw [hk, Nat.pow_succ, Int.natCast_mul] at h1
  have h2 : z = (z' * ((2 ^ k : Nat) : Int)) * 2 := by rw [h1, Int.mul_assoc]; rfl
  generalize z' * ((2 ^ k : Nat) : Int) = q at h2
  omega
theorem dv_inj {z e z' e' : Int} (h : DFm z e) (h' : DFm z' e') (hv : dv z e = dv z' e') : z = z' ∧ e = e' := by
  rcases h with ⟨rfl, rfl⟩ | ⟨h1, h2, h3⟩
  · rw [dv_zero] at hv
    have := dv_eq_zero hv.symm
    subst this
    rcases h' with ⟨_, rfl⟩ | ⟨k1, _⟩
    · exact ⟨rfl, rfl⟩
    · omega
  · rcases h' with ⟨rfl, rfl⟩ | ⟨k1, k2, k3⟩
    · rw [dv_zero] at hv
      have := dv_eq_zero hv
      subst this
      omega
    · unfold dv at hv
      have a1 := odd_ne h1 hv
      have a2 := odd_ne k1 hv.symm
      have he : e = e' := by omega
      subst he
      exact ⟨Int.eq_of_mul_eq_mul_right (pow_pos_int _) hv, rfl⟩
theorem dv_shift {z e f : Int} (h : f ≤ e) (hf : -4194304 ≤ f) : dv z e = dv (z * ((2 ^ (e - f).toNat : Nat) : Int)) f := by
  unfold dv
  rw [dpow_split (a := (f + 4194304).toNat) (b := (e + 4194304).toNat) (by omega), ← Int.mul_assoc, show (e + 4194304).toNat - (f + 4194304).toNat = (e - f).toNat from by omega]
theorem dv_add (x y e : Int) : dv (x + y) e = dv x e + dv y e := by unfold dv; rw [Int.add_mul]
theorem dv_neg (x e : Int) : dv (-x) e = - dv x e := by unfold dv; rw [Int.neg_mul]
theorem own_set3 {B b : Nat} {w' : World} {p : Option Addr} {m : Nat} {zs : List Nat} (h : Own B w' p m zs) {r : Nat} (hr : r < B) (hb : b ≤ B) (v0 v1 v2 : Value) : Own b (((w'.setCell ⟨r, 0, none⟩ v0).setCell ⟨r, 1, none⟩ v1).setCell ⟨r, 2, none⟩ v2) p m zs :=
  (((h.setOld _ _ _ hr).setOld _ _ _ hr).setOld _ _ _ hr).mono hb
def AnsD (B : Nat) (w' : World) (v : Value) (z e : Int) : Prop :=
  ∃ p m zs, v = DV (decide (z < 0)) p m m e ∧ Own B w' p m zs ∧ Nf B64 zs z.natAbs ∧ m ≤ 8192
theorem AnsD.dn {B : Nat} {w' : World} {v : Value} {z e : Int} (h : AnsD B w' v z e) (hf : DFm z e) : ∃ s p m, v = DV s p m m e ∧ DN w' s p m m e z := by
  obtain ⟨p, m, zs, rfl, ho, hn, hm⟩ := h
  exact ⟨_, p, m, rfl, ⟨⟨zs, Num.of ho hn hm⟩, rfl⟩, hf⟩
theorem tz_split {z : Int} {k : Nat} (hz : z ≠ 0) (h : TzO z.natAbs k) : fl (decide (z < 0)) z.natAbs (2 ^ k) % 2 = 1 ∧ fl (decide (z < 0)) z.natAbs (2 ^ k) * ((2 ^ k : Nat) : Int) = z ∧ (fl (decide (z < 0)) z.natAbs (2 ^ k)).natAbs ≤ z.natAbs := by
  rcases h with ⟨h0, _⟩ | ⟨_, h1, h2⟩
  · omega
  · have hd := Nat.div_add_mod z.natAbs (2 ^ k)
    rw [h1, Nat.add_zero, Nat.mul_comm] at hd
    have hle := Nat.div_le_self z.natAbs (2 ^ k)
    unfold fl
    rw [h1]
    generalize z.natAbs / 2 ^ k = q at *
    have hc : (q : Int) * ((2 ^ k : Nat) : Int) = (z.natAbs : Int) := by rw [← Int.natCast_mul, hd]
    by_cases hs : z < 0
    · rw [decide_eq_true hs]
      simp only [ne_eq, not_true_eq_false, decide_false, Bool.and_false, Bool.toNat_false, Nat.add_zero, iv, if_true]
      refine ⟨by omega, by rw [Int.neg_mul, hc]; omega, by omega⟩
    · rw [decide_eq_false hs]
      simp only [ne_eq, not_true_eq_false, decide_false, Bool.and_false, Bool.toNat_false, Nat.add_zero, iv]
      refine ⟨?_, ?_, ?_⟩
      · show (q : Int) % 2 = 1; omega
      · show (q : Int) * _ = z; rw [hc]; omega
      · show (q : Int).natAbs ≤ _; omega
end Go.Proofs.YthobkfkeaealhaaGreatDoor
