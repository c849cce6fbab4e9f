import Derived.Test.YtglkjbkpgfencaaGreatDoorJ11
import Derived.Test.YtglkjbkpgfencaaGreatDoorJ9
import Derived.WalkSmall
import Derived.Recover
import Derived.Laws.Bits64b
import Derived.Deep.RegionWith
import Derived.Test.YtglkjbkpgfencaaGreatDoorChecked
import Derived.Test.YtglkjbkpgfencaaGreatDoorMem
import Derived.Shelf.Strconv.Itoa0
import Derived.BigQuiet
import Derived.Test.YtglkjbkpgfencaaGreatDoorJ8
import Derived.Deep.DeepCutAuto
namespace Go.Proofs.YtglkjbkpgfencaaGreatDoor
open Go.RowKit Go.Shelf
set_option maxRecDepth 20000
set_option maxHeartbeats 0
theorem make_far {p : Option Addr} {m c : Nat} {w : World} {z e : Int} {s : Bool} (h : ZN w s p m c z) (hT : Tab w) {k : Nat} (hz : z ≠ 0) (hk : TzO z.natAbs k) (hr : ¬ (-1048576 ≤ k + e ∧ k + e ≤ 1048576)) :
    Calls Tryz.prog 57 #[ZV s p m c, .int .i64 e] w fun en w' => en = .returned (.tuple #[DV false none 0 0 0, .int .i64 5]) ∧ Below w.heap.size w w' := by
  have H : Hid (ZN w s p m c z) := h
  have TB : Hid (Tab w) := hT
  have HZ : Hid (z ≠ 0) := hz
  have HR : Hid (¬ (-1048576 ≤ k + e ∧ k + e ≤ 1048576)) := hr
  have HK : Hid (TzO z.natAbs k) := hk
  clear h hT hz hr
  go_enter Tryz.func57, Tryz.ntmps57
  go_wp2_with fail
  obtain ⟨W0, hW0⟩ : ∃ W0, W0 = ((w.alloc (.cells #[.bool s, .slice p m c] 63)).alloc (.cells #[.bool false, .slice none 0 0, .int .i64 0] 65)) := ⟨_, rfl⟩
  have Xm : Hid (Box W0 (w.heap.size) (.bool s) (.slice p m c)) := by rw [hW0]; exact ⟨by go_simp, by go_simp, by go_simp, by go_simp⟩
  have Xr : Hid (B3q W0 (w.heap.size + 1) (.bool false) (.slice none 0 0) (.int .i64 0)) := by rw [hW0]; exact ⟨by go_simp, by go_simp, by go_simp, by go_simp, by go_simp, by go_simp⟩
  have hb0 : Below w.heap.size w W0 := by rw [hW0]; exact below2 w _ _
  rw [← hW0]
  clear hW0
  have hbw : Below w.heap.size w w := Below.refl _ _
  obtain ⟨gr, hgr⟩ : ∃ g, g = w.heap.size + 1 := ⟨_, rfl⟩
  have HGr : Hid (w.heap.size ≤ gr) := by rw [hgr]; show _ ≤ _; omega
  rw [← hgr] at Xr
  try rw [← hgr]
  obtain ⟨gm, hgm⟩ : ∃ g, g = w.heap.size := ⟨_, rfl⟩
  have HGm : Hid (w.heap.size ≤ gm) := by rw [hgm]; show _ ≤ _; omega
  rw [← hgm] at Xm
  try rw [← hgm]
  have HGD : Hid (gm ≠ gr ∧ gr ≠ gm) := by rw [hgm, hgr]; exact ⟨by omega, by omega⟩
  clear hgm hgr
  replace hbw := Below.on hbw hb0
  clear hb0
  refine (zform (H.out.below hbw)).mono ?_
  rintro e v1 ⟨rfl, hb1⟩
  replace Xm : Hid _ := Xm.out.below hb1
  replace Xr : Hid _ := Xr.out.below hb1
  replace hbw := Below.on hbw hb1
  clear hb1
  obtain ⟨cm0, cm1, fm0, fm1⟩ := Xm.out
  have hnem := Xm.out.lt
  go_wp2_with fail
  clear cm0 cm1 fm0 fm1 hnem
  refine (zsign (H.out.below hbw)).mono ?_
  rintro e v2 ⟨rfl, hb2⟩
  obtain ⟨sg, hsg⟩ : ∃ sg, sg = sgnI (z) := ⟨_, rfl⟩
  rw [← hsg]
  have hs0 : (sg == 0) = false := by rw [hsg]; have := HZ.out; unfold sgnI; split <;> (try split) <;> simp <;> omega
  clear hsg
  replace Xm : Hid _ := Xm.out.below hb2
  replace Xr : Hid _ := Xr.out.below hb2
  replace hbw := Below.on hbw hb2
  clear hb2
  obtain ⟨cm0, cm1, fm0, fm1⟩ := Xm.out
  have hnem := Xm.out.lt
  go_wp2_with fail
  clear cm0 cm1 fm0 fm1 hnem
  have hkb : k ≤ 524288 := by
    have h1 := (lim_bits z.natAbs).1 H.out.lim
    rcases hk with ⟨h0, _⟩ | ⟨_, h2, h3⟩
    · exact absurd (Int.natAbs_eq_zero.1 h0) HZ.out
    · have h4 : 2 ^ k ≤ z.natAbs := by
        rcases Nat.lt_or_ge z.natAbs (2 ^ k) with h | h
        · rw [Nat.div_eq_of_lt h] at h3; omega
        · exact h
      have h5 := bitsN_lt z.natAbs
      have h6 := (Nat.pow_lt_pow_iff_right (by omega : 1 < 2)).1 (Nat.lt_of_le_of_lt h4 h5)
      omega
  have HKB : Hid (k ≤ 524288) := hkb
  clear hk hkb
  obtain ⟨xs, hX⟩ := (H.out.below hbw).ex
  refine (trail_any hX.at_ (by have := hX.le; omega) (k := k) (by rw [hX.nf.val]; exact HK.out) (TB.out.below hbw)).mono ?_
  rintro e2 v3 ⟨rfl, hw⟩
  obtain rfl := hw.symm
  clear hw hX
  go_wp2_with fail
  refine (moved_no k e _ (by have := HKB.out; omega) HR.out).mono ?_
  rintro e2 v4 ⟨rfl, hw⟩
  obtain rfl := hw.symm
  clear hw
  obtain ⟨cr0, cr1, cr2, fr0, fr1, fr2⟩ := Xr.out
  have hner : gr < v2.heap.size := World.block_lt_of_cell? v2 _ cr0
  go_wp2_with fail
  refine bodyPost_ret (v := .tuple #[DV false none 0 0 0, .int .i64 5]) (by rw [results_cell_tmp rfl]; go_simp) rfl ⟨rfl, ?_⟩
  first | exact hbw | exact bSet (bSet (bSet hbw _ _ _ HGr.out) _ _ _ HGr.out) _ _ _ HGr.out
theorem make_bad {p : Option Addr} {m c : Nat} {xs : List Nat} {w : World} {e : Int} (s : Bool) (h : At w p m c xs) (hf : formZ s xs = false) :
    Calls Tryz.prog 57 #[ZV s p m c, .int .i64 e] w fun en w' => en = .returned (.tuple #[DV false none 0 0 0, .int .i64 2]) ∧ Below w.heap.size w w' := by
  have H : Hid (At w p m c xs) := h
  have HF : Hid (formZ s xs = false) := hf
  clear h hf
  go_enter Tryz.func57, Tryz.ntmps57
  go_wp2_with fail
  obtain ⟨W0, hW0⟩ : ∃ W0, W0 = ((w.alloc (.cells #[.bool s, .slice p m c] 63)).alloc (.cells #[.bool false, .slice none 0 0, .int .i64 0] 65)) := ⟨_, rfl⟩
  have Xm : Hid (Box W0 (w.heap.size) (.bool s) (.slice p m c)) := by rw [hW0]; exact ⟨by go_simp, by go_simp, by go_simp, by go_simp⟩
  have Xr : Hid (B3q W0 (w.heap.size + 1) (.bool false) (.slice none 0 0) (.int .i64 0)) := by rw [hW0]; exact ⟨by go_simp, by go_simp, by go_simp, by go_simp, by go_simp, by go_simp⟩
  have hb0 : Below w.heap.size w W0 := by rw [hW0]; exact below2 w _ _
  rw [← hW0]
  clear hW0
  have hbw : Below w.heap.size w w := Below.refl _ _
  obtain ⟨gr, hgr⟩ : ∃ g, g = w.heap.size + 1 := ⟨_, rfl⟩
  have HGr : Hid (w.heap.size ≤ gr) := by rw [hgr]; show _ ≤ _; omega
  rw [← hgr] at Xr
  try rw [← hgr]
  obtain ⟨gm, hgm⟩ : ∃ g, g = w.heap.size := ⟨_, rfl⟩
  have HGm : Hid (w.heap.size ≤ gm) := by rw [hgm]; show _ ≤ _; omega
  rw [← hgm] at Xm
  try rw [← hgm]
  have HGD : Hid (gm ≠ gr ∧ gr ≠ gm) := by rw [hgm, hgr]; exact ⟨by omega, by omega⟩
  clear hgm hgr
  replace hbw := Below.on hbw hb0
  clear hb0
  refine (numform_f s (H.out.below hbw) HF.out).mono ?_
  rintro e v1 ⟨rfl, hb1⟩
  replace Xm : Hid _ := Xm.out.below hb1
  replace Xr : Hid _ := Xr.out.below hb1
  replace hbw := Below.on hbw hb1
  clear hb1
  obtain ⟨cr0, cr1, cr2, fr0, fr1, fr2⟩ := Xr.out
  have hner : gr < v1.heap.size := World.block_lt_of_cell? v1 _ cr0
  go_wp2_with fail
  refine bodyPost_ret (v := .tuple #[DV false none 0 0 0, .int .i64 2]) (by rw [results_cell_tmp rfl]; go_simp) rfl ⟨rfl, ?_⟩
  first | exact hbw | exact bSet (bSet (bSet hbw _ _ _ HGr.out) _ _ _ HGr.out) _ _ _ HGr.out
theorem tz_lim {p : Option Addr} {m c : Nat} {w : World} {z : Int} {s : Bool} (h : ZN w s p m c z) (hz : z ≠ 0) {k : Nat} (hk : TzO z.natAbs k) : k ≤ 524288 := by
  have h1 := (lim_bits z.natAbs).1 h.lim
  rcases hk with ⟨h0, _⟩ | ⟨_, h2, h3⟩
  · exact absurd (Int.natAbs_eq_zero.1 h0) hz
  · have h4 : 2 ^ k ≤ z.natAbs := by
      rcases Nat.lt_or_ge z.natAbs (2 ^ k) with h | h
      · rw [Nat.div_eq_of_lt h] at h3; omega
      · exact h
    have h5 := bitsN_lt z.natAbs
    have h6 := (Nat.pow_lt_pow_iff_right (by omega : 1 < 2)).1 (Nat.lt_of_le_of_lt h4 h5)
    omega
theorem makep_z0 {B : Nat} {w' : World} {en : Ending} {e : Int} (h : MakeP B w' en 0 e) : MakeP B w' en 0 0 := by
  rcases h with ⟨v, zo, eo, h1, h2, h3, h4⟩ | ⟨h1, h2⟩
  · exact .inl ⟨v, zo, eo, h1, h2, h3, by rw [h4, dv_zero, dv_zero]⟩
  · exact absurd (by rw [dv_zero, dv_zero]) (h2 0 0 (.inl ⟨rfl, rfl⟩))
def MakeA (s : Bool) (xs : List Nat) (e zo eo er : Int) : Prop := (formZ s xs = false ∧ zo = 0 ∧ eo = 0 ∧ er = 2) ∨ (formZ s xs = true ∧ MkR (iv s (valB B64 xs)) e zo eo er)
theorem MakeA.uniq {s : Bool} {xs : List Nat} {e zo eo er zo' eo' er' : Int} (h : MakeA s xs e zo eo er) (k : MakeA s xs e zo' eo' er') : zo = zo' ∧ eo = eo' ∧ er = er' := by
  rcases h with ⟨h0, rfl, rfl, rfl⟩ | ⟨h0, h⟩ <;> rcases k with ⟨k0, rfl, rfl, rfl⟩ | ⟨k0, k⟩
  · exact ⟨rfl, rfl, rfl⟩
  · rw [h0] at k0; cases k0
  · rw [h0] at k0; cases k0
  · exact h.uniq k
theorem makeA {p : Option Addr} {m c : Nat} {xs : List Nat} {w : World} {e : Int} (s : Bool) (h : At w p m c xs) (hT : Tab w) :
    Calls Tryz.prog 57 #[ZV s p m c, .int .i64 e] w fun en w' => ∃ zo eo er, SaidD w.heap.size w' en zo eo er ∧ MakeA s xs e zo eo er ∧ Below w.heap.size w w' := by
  cases hz : formZ s xs
  · exact (make_bad s h hz).mono fun en w' ⟨h1, h2⟩ => ⟨0, 0, 2, h1 ▸ SaidD.err _ _ 2, .inl ⟨hz, rfl, rfl, rfl⟩, h2⟩
  obtain ⟨hN, hs⟩ := formZ_num h hz
  have hZ : ZN w s p m c (iv s (valB B64 xs)) := ZN.of hN hs
  by_cases he : -3145728 ≤ e ∧ e ≤ 3145728
  · exact (makep hZ he hT).mono fun en w' ⟨h1, h2⟩ => by
      obtain ⟨zo, eo, er, h3, h4⟩ := h1.mk (by omega)
      exact ⟨zo, eo, er, h3, .inr ⟨hz, h4⟩, h2⟩
  by_cases h0 : iv s (valB B64 xs) = 0
  · exact (makep_z hZ h0).mono fun en w' ⟨h1, h2⟩ => by
      have h5 : MakeP w.heap.size w' en (iv s (valB B64 xs)) 0 := by rw [h0] at h1 ⊢; exact (makep_z0 h1)
      obtain ⟨zo, eo, er, h3, h4⟩ := h5.mk (by decide)
      refine ⟨zo, eo, er, h3, .inr ⟨hz, ?_⟩, h2⟩
      rw [h0] at h4 ⊢
      rcases h4 with h4 | h4
      · exact .inl h4
      · exact absurd rfl h4.1
  · obtain ⟨k, hk⟩ := TzO.ex (iv s (valB B64 xs)).natAbs
    have hb : k ≤ 524288 := tz_lim hZ h0 hk
    have hr : ¬ (-1048576 ≤ (k : Int) + e ∧ (k : Int) + e ≤ 1048576) := by omega
    exact (make_far hZ hT h0 hk hr).mono fun en w' ⟨h1, h2⟩ => ⟨0, 0, 5, h1 ▸ SaidD.err _ _ 5, .inr ⟨hz, .inr ⟨h0, k, hk.is h0, .inr ⟨by omega, rfl, rfl, rfl⟩⟩⟩, h2⟩
abbrev hexs : List UInt8 := [48, 49, 50, 51, 52, 53, 54, 55, 56, 57, 97, 98, 99, 100, 101, 102, 65, 66, 67, 68, 69, 70]
theorem hexs_asc : ∀ (j : Nat) b, hexs[j]? = some b → b.toNat < 128 := by
  intro j b h
  have h1 : b ∈ hexs := List.mem_of_getElem? h
  have h2 : ∀ b ∈ hexs, b.toNat < 128 := by decide
  exact h2 b h1
theorem hexs_in {l : List UInt8} : ∀ c ∈ l.takeWhile (hexs.contains ·), hexd c = true := by
  intro c hc
  have h1 : hexs.contains c = true := List.all_eq_true.1 (List.all_takeWhile (p := (hexs.contains ·)) (l := l)) c hc
  have h2 : c ∈ hexs := List.contains_iff_mem.1 h1
  have h3 : ∀ c ∈ hexs, hexd c = true := by decide
  exact h3 c h2
theorem digs_in (l : List UInt8) : ∀ c ∈ (digsF hexs l).1, hexd c = true := by
  intro c hc
  unfold digsF at hc
  split at hc
  · exact hexs_in c hc
  · rcases List.mem_append.1 hc with h | h
    · exact hexs_in c h
    · exact hexs_in c h
theorem trim_in {l p : List UInt8} {f : UInt8 → Bool} (h : ∀ c ∈ l, f c = true) : ∀ c ∈ Lib.trimLeftS l p, f c = true := fun c hc => h c ((List.dropWhile_sublist _).subset hc)
theorem digs_len (p l : List UInt8) : (digsF p l).1.length ≤ 2 * l.length ∧ (digsF p l).2.1 ≤ l.length ∧ (digsF p l).2.2.length ≤ l.length := by
  have h1 : (l.takeWhile (p.contains ·)).length ≤ l.length := (List.takeWhile_sublist _).length_le
  have h2 := trimS_len l p
  unfold digsF
  split
  · exact ⟨by show (l.takeWhile _).length ≤ _; omega, by show 0 ≤ _; omega, h2⟩
  · rename_i r2 h
    have h3 := takes_len h
    have h4 : (r2.takeWhile (p.contains ·)).length ≤ r2.length := (List.takeWhile_sublist _).length_le
    have h5 := trimS_len r2 p
    refine ⟨?_, ?_, ?_⟩
    · show (_ ++ _ : List UInt8).length ≤ _; rw [List.length_append]; omega
    · show (r2.takeWhile _).length ≤ _; omega
    · show (Lib.trimLeftS r2 p).length ≤ _; omega
theorem farF_le : ∀ (l : List UInt8) (n : Nat), n ≤ 100000 → farF n l ≤ 100000
  | [], _, h => h
  | _ :: l, _, _ => farF_le l _ (Nat.min_le_right _ _)
theorem exp_le (l : List UInt8) : -100000 ≤ (expF l).2.1 ∧ (expF l).2.1 ≤ 100000 := by
  have h := farF_le ((minusF l).2.takeWhile (decs.contains ·)) 0 (by decide)
  have e : (expF l).2.1 = (if (minusF l).1 then -((farF 0 ((minusF l).2.takeWhile (decs.contains ·)) : Nat) : Int) else ((farF 0 ((minusF l).2.takeWhile (decs.contains ·)) : Nat) : Int)) := rfl
  rw [e]
  split <;> omega
theorem B3q.growX {w w' : World} {k : Nat} {v0 v1 v2 : Value} {row : Option Nat} (h : B3q w k v0 v1 v2) (hg : w.grownBy w' row) (hne : some k ≠ row) : B3q w' k v0 v1 v2 :=
  ⟨hg.cell h.c0 hne, hg.cell h.c1 hne, hg.cell h.c2 hne, (hg.frozen_far ⟨k, 0, none⟩ h.lt hne).trans h.f0, (hg.frozen_far ⟨k, 1, none⟩ h.lt hne).trans h.f1, (hg.frozen_far ⟨k, 2, none⟩ h.lt hne).trans h.f2⟩
theorem gaveOn {n : Int} {w a w' : World} {g B : Nat} {en : Ending} (h : w.grownBy a (some g)) (hg : B ≤ g) (hw : g < w.heap.size) (k : Gave n a w' en B) : Gave n w w' en B := ⟨k.1, (gbBelow h hg (by omega)).trans k.2⟩
theorem gaveUp {n : Int} {a w' : World} {B : Nat} {en : Ending} (k : Gave n a w' en a.heap.size) (hB : B ≤ a.heap.size) : Gave n a w' en B := ⟨k.1, k.2.mono hB⟩
theorem Tab.belowB {w w' : World} {B : Nat} (h : Tab w) (hb : Below B w w') (hB : 0 < B) : Tab w' := by
  intro j hj
  exact (hb.cell (p := ⟨0, _, none⟩) hB).trans (h j hj)
def numF (l : List UInt8) : Option (List UInt8 × Nat × Int) :=
  match takesF [[48, 120], [48, 88]] l with
  | none => none
  | some r1 => if (digsF hexs r1).1 = [] then none else match takesF [[112], [80]] (digsF hexs r1).2.2 with
    | none => none
    | some r2 => if (expF r2).1 = [] then none else if (expF r2).2.2 = [] then some (Lib.trimLeftS (digsF hexs r1).1 [48], (digsF hexs r1).2.1, (expF r2).2.1) else none
theorem numF_1 {l : List UInt8} (h : takesF [[48, 120], [48, 88]] l = none) : numF l = none := by unfold numF; rw [h]
theorem numF_2 {l r1 : List UInt8} (h : takesF [[48, 120], [48, 88]] l = some r1) (h1 : (digsF hexs r1).1 = []) : numF l = none := by unfold numF; rw [h]; exact if_pos h1
theorem numF_3 {l r1 : List UInt8} (h : takesF [[48, 120], [48, 88]] l = some r1) (h1 : (digsF hexs r1).1 ≠ []) (h2 : takesF [[112], [80]] (digsF hexs r1).2.2 = none) : numF l = none := by
  unfold numF; rw [h]; show (if _ then _ else _) = _; rw [if_neg h1, h2]
theorem numF_s {l r1 r2 : List UInt8} (h : takesF [[48, 120], [48, 88]] l = some r1) (h1 : (digsF hexs r1).1 ≠ []) (h2 : takesF [[112], [80]] (digsF hexs r1).2.2 = some r2) : numF l = if (expF r2).1 = [] then none else if (expF r2).2.2 = [] then some (Lib.trimLeftS (digsF hexs r1).1 [48], (digsF hexs r1).2.1, (expF r2).2.1) else none := by
  unfold numF; rw [h]; show (if _ then _ else _) = _; rw [if_neg h1, h2]
theorem number_c {g B : Nat} {l : List UInt8} {w : World} (h : B1t w g (.string (bs l))) (hB : B ≤ g) (hl : l.length ≤ 4000) (hT : Tab w) (hTB : 0 < B) :
    Calls Tryz.prog 27 #[.pointer (some ⟨g, 0, none⟩)] w fun en w' => (numF l = none ∧ Gave 8 w w' en B) ∨ (∃ ds be ex zo eo er s p m c, numF l = some (ds, be, ex) ∧ MakeA false (limbsF ds.length ds) (ex - 4 * ((be : Nat) : Int)) zo eo er ∧ en = .returned (DV s p m c eo) ∧ DQ B w' s p m c eo zo ∧ Below B w w') := by
  have H : Hid (B1t w g (.string (bs l)) ∧ B ≤ g ∧ l.length ≤ 4000 ∧ Tab w ∧ 0 < B) := ⟨h, hB, hl, hT, hTB⟩
  clear h hB hl hT hTB
  go_enter Tryz.func27, Tryz.ntmps27
  go_wp2_with fail
  obtain ⟨W0, hW0⟩ : ∃ W0, W0 = w.alloc (.cells #[.bool false, .slice none 0 0, .int .i64 0] 65) := ⟨_, rfl⟩
  have hs0 : W0.heap.size = w.heap.size + 1 := by rw [hW0]; simp
  have hb0 : Below w.heap.size w W0 := by rw [hW0]; exact below1 w _
  have hr0 : B3q W0 w.heap.size (.bool false) (.slice none 0 0) (.int .i64 0) := by rw [hW0]; exact B3q.new w _ _ _ _
  rw [← hW0, ← hs0]
  clear hW0 hs0
  obtain ⟨gr, hgr⟩ : ∃ gr, gr = w.heap.size := ⟨_, rfl⟩
  rw [← hgr] at hr0
  have HR : Hid (gr ≠ g ∧ some gr ≠ some g ∧ gr = w.heap.size ∧ B ≤ gr) := by have h1 := H.out.1.lt; have h2 := H.out.2.1; exact ⟨by omega, by intro e; cases e; omega, hgr, by omega⟩
  rw [← hgr]
  clear hgr
  have X0 : Hid (B1t W0 g (.string (bs (l)))) := H.out.1.below hb0
  have G0 : Hid (w.grownBy W0 (some g)) := gb hb0
  have R0 : Hid (B3q W0 gr (.bool false) (.slice none 0 0) (.int .i64 0)) := hr0
  have S0 : Hid (B ≤ W0.heap.size) := by have := X0.out.lt; have := H.out.2.1; show _ ≤ _; omega
  clear hb0 hr0
  have hba : Below W0.heap.size W0 (W0.alloc (.cells #[.string (bs [48, 120]), .string (bs [48, 88])] 9)) := below1 W0 _
  refine (needs_ok (ps := [[48, 120], [48, 88]]) (X0.out.below hba) (lit_w2 W0 9 [48, 120] [48, 88]) rfl (by decide)).mono ?_
  rintro e V1 (⟨ht, hv⟩ | ⟨r1, ht, rfl, rfl⟩)
  · have hv2 := gaveOn (G0.out.trans (gb hba)) H.out.2.1 H.out.1.lt (gaveUp hv (by have := hba.size; have := S0.out; omega))
    have hnum : numF l = none := numF_1 ht
    obtain ⟨rfl, hbb⟩ := hv2
    exact ⟨rfl, .inl ⟨hnum, rfl, hbb⟩⟩
  · have hgs : W0.grownBy ((W0.alloc (.cells #[.string (bs [48, 120]), .string (bs [48, 88])] 9)).setCell ⟨g, 0, none⟩ (.string (bs r1))) (some g) := gbSet (gb hba) 0 _
    have hxs : B1t ((W0.alloc (.cells #[.string (bs [48, 120]), .string (bs [48, 88])] 9)).setCell ⟨g, 0, none⟩ (.string (bs r1))) g (.string (bs r1)) := (X0.out.below hba).put _
    generalize ((W0.alloc (.cells #[.string (bs [48, 120]), .string (bs [48, 88])] 9)).setCell ⟨g, 0, none⟩ (.string (bs r1))) = V1 at *
    have X1 : Hid (B1t V1 g (.string (bs (r1)))) := hxs
    have G1 : Hid (w.grownBy V1 (some g)) := G0.out.trans hgs
    have R1 : Hid (B3q V1 gr (.bool false) (.slice none 0 0) (.int .i64 0)) := R0.out.growX hgs HR.out.2.1
    have S1 : Hid (B ≤ V1.heap.size) := by have := X1.out.lt; have := H.out.2.1; show _ ≤ _; omega
    clear hgs hxs hba X0 G0 R0 S0
    have T1 : Hid (takesF [[48, 120], [48, 88]] l = some r1 ∧ r1.length ≤ 4000) := ⟨ht, Nat.le_trans (takes_len ht) H.out.2.2.1⟩
    clear ht
    go_wp2_with fail
    refine (digits_ok (p := hexs) X1.out H.out.2.1 (by decide) hexs_asc (by have := T1.out.2; omega)).mono ?_
    rintro e V2 (⟨hd, hv⟩ | ⟨hd, rfl, hx, hg⟩)
    · obtain ⟨rfl, hbb⟩ := gaveOn G1.out H.out.2.1 H.out.1.lt hv
      exact ⟨rfl, .inl ⟨numF_2 T1.out.1 hd, rfl, hbb⟩⟩
    · have HL := digs_len hexs r1
      obtain ⟨D, hD⟩ : ∃ D, D = digsF hexs r1 := ⟨_, rfl⟩
      rw [← hD] at hx hd HL
      rw [← hD]
      have T2 : Hid (D = digsF hexs r1 ∧ D.1 ≠ [] ∧ D.1.length ≤ 8000 ∧ D.2.1 ≤ 4000 ∧ D.2.2.length ≤ 4000) := by have h4 := T1.out.2; exact ⟨hD, hd, by omega, by omega, by omega⟩
      clear hd hD HL
      have X2 : Hid (B1t V2 g (.string (bs (D.2.2)))) := hx
      have G2 : Hid (w.grownBy V2 (some g)) := G1.out.trans hg
      have R2 : Hid (B3q V2 gr (.bool false) (.slice none 0 0) (.int .i64 0)) := R1.out.growX hg HR.out.2.1
      have S2 : Hid (B ≤ V2.heap.size) := by have := X2.out.lt; have := H.out.2.1; show _ ≤ _; omega
      clear hx hg X1 G1 R1 S1
      go_wp2_with fail
      have hba : Below V2.heap.size V2 (V2.alloc (.cells #[.string (bs [112]), .string (bs [80])] 9)) := below1 V2 _
      refine (needs_ok (ps := [[112], [80]]) (X2.out.below hba) (lit_w2 V2 9 [112] [80]) rfl (by decide)).mono ?_
      rintro e V3 (⟨ht, hv⟩ | ⟨r3, ht, rfl, rfl⟩)
      · have hv2 := gaveOn (G2.out.trans (gb hba)) H.out.2.1 H.out.1.lt (gaveUp hv (by have := hba.size; have := S2.out; omega))
        have hnum : numF l = none := numF_3 T1.out.1 (T2.out.1 ▸ T2.out.2.1) (T2.out.1 ▸ ht)
        obtain ⟨rfl, hbb⟩ := hv2
        exact ⟨rfl, .inl ⟨hnum, rfl, hbb⟩⟩
      · have hgs : V2.grownBy ((V2.alloc (.cells #[.string (bs [112]), .string (bs [80])] 9)).setCell ⟨g, 0, none⟩ (.string (bs r3))) (some g) := gbSet (gb hba) 0 _
        have hxs : B1t ((V2.alloc (.cells #[.string (bs [112]), .string (bs [80])] 9)).setCell ⟨g, 0, none⟩ (.string (bs r3))) g (.string (bs r3)) := (X2.out.below hba).put _
        generalize ((V2.alloc (.cells #[.string (bs [112]), .string (bs [80])] 9)).setCell ⟨g, 0, none⟩ (.string (bs r3))) = V3 at *
        have X3 : Hid (B1t V3 g (.string (bs (r3)))) := hxs
        have G3 : Hid (w.grownBy V3 (some g)) := G2.out.trans hgs
        have R3 : Hid (B3q V3 gr (.bool false) (.slice none 0 0) (.int .i64 0)) := R2.out.growX hgs HR.out.2.1
        have S3 : Hid (B ≤ V3.heap.size) := by have := X3.out.lt; have := H.out.2.1; show _ ≤ _; omega
        clear hgs hxs hba X2 G2 R2 S2
        have T3 : Hid (takesF [[112], [80]] D.2.2 = some r3 ∧ r3.length ≤ 4000) := ⟨ht, Nat.le_trans (takes_len ht) T2.out.2.2.2.2⟩
        have HNS : Hid (numF l = if (expF r3).1 = [] then none else if (expF r3).2.2 = [] then some (Lib.trimLeftS D.1 [48], D.2.1, (expF r3).2.1) else none) := by have h := numF_s (r2 := r3) T1.out.1 (T2.out.1 ▸ T2.out.2.1) (T2.out.1 ▸ ht); rw [← T2.out.1] at h; exact h
        clear ht
        go_wp2_with fail
        refine (exponent_ok X3.out H.out.2.1 (by have := T3.out.2; omega)).mono ?_
        rintro e V4 (⟨hd, hv⟩ | ⟨hd, rfl, hx, hg⟩)
        · obtain ⟨rfl, hbb⟩ := gaveOn G3.out H.out.2.1 H.out.1.lt hv
          exact ⟨rfl, .inl ⟨by rw [HNS.out, if_pos hd], rfl, hbb⟩⟩
        · have HE := exp_le r3
          obtain ⟨E, hE⟩ : ∃ E, E = expF r3 := ⟨_, rfl⟩
          rw [← hE] at hx hd HE HNS
          rw [← hE]
          have HNS2 : Hid (numF l = if E.2.2 = [] then some (Lib.trimLeftS D.1 [48], D.2.1, E.2.1) else none) := by have h := HNS.out; rw [if_neg hd] at h; exact h
          have T4 : Hid (-100000 ≤ E.2.1 ∧ E.2.1 ≤ 100000) := HE
          clear hd hE HE HNS
          have X4 : Hid (B1t V4 g (.string (bs (E.2.2)))) := hx
          have G4 : Hid (w.grownBy V4 (some g)) := G3.out.trans hg
          have R4 : Hid (B3q V4 gr (.bool false) (.slice none 0 0) (.int .i64 0)) := R3.out.growX hg HR.out.2.1
          have S4 : Hid (B ≤ V4.heap.size) := by have := X4.out.lt; have := H.out.2.1; show _ ≤ _; omega
          clear hx hg X3 G3 R3 S3
          go_wp2_with fail
          rcases Classical.em (E.2.2 = []) with hE | hE
          · have X5 : B1t V4 g (.string (bs [])) := by rw [← hE]; exact X4.out
            have HN5 : Hid (numF l = some (Lib.trimLeftS D.1 [48], D.2.1, E.2.1)) := by rw [HNS2.out, if_pos hE]; rfl
            refine (end_y X5).mono ?_
            rintro e V5 ⟨rfl, rfl⟩
            clear X5 hE HNS2
            go_wp2_with fail
            refine (natural_c (l := Lib.trimLeftS D.1 [48]) (by have := trimS_len D.1 [48]; have := T2.out.2.2.1; omega) (trim_in (by rw [T2.out.1]; exact digs_in r1))).mono ?_
            rintro e V6 ⟨p, c, xs, rfl, hxs, hA, hg6, hb6⟩
            have A6 : Hid (At V6 p xs.length c xs ∧ xs = limbsF (Lib.trimLeftS D.1 [48]).length (Lib.trimLeftS D.1 [48])) := ⟨hA, hxs⟩
            have G6 : Hid (w.grownBy V6 (some g)) := G4.out.trans (gb hb6)
            have R6 : Hid (B3q V6 gr (.bool false) (.slice none 0 0) (.int .i64 0)) := R4.out.below hb6
            have TB : Hid (Tab V6) := Tab.belowB H.out.2.2.2.1 (gbBelow G6.out H.out.2.1 (by have := H.out.1.lt; have := H.out.2.1; omega)) H.out.2.2.2.2
            obtain ⟨ex, hex⟩ : ∃ ex, ex = E.2.1 := ⟨_, rfl⟩
            obtain ⟨be, hbe⟩ : ∃ be, be = D.2.1 := ⟨_, rfl⟩
            rw [← hex] at HN5 T4
            rw [← hbe] at HN5
            have HBE : Hid (be ≤ 4000) := by rw [hbe]; exact T2.out.2.2.2.1
            rw [← hex, ← hbe]
            have hex1 := T4.out.1
            have hex2 := T4.out.2
            have hbe1 : be ≤ 4000 := HBE.out
            clear hex hbe hxs hA hg6 hb6 X4 G4 R4 S4
            go_wp2_with fail
            refine (makeA (e := ex - 4 * ((be : Nat) : Int)) false A6.out.1 TB.out).mono ?_
            rintro e V7 ⟨zo, eo, er, ⟨s7, p7, m7, c7, rfl, hQ⟩, hM, hb7⟩
            have R7 : Hid (B3q V7 gr (.bool false) (.slice none 0 0) (.int .i64 0)) := R6.out.below hb7
            have Q7 : Hid (DQ V6.heap.size V7 s7 p7 m7 c7 eo zo ∧ gr < V6.heap.size) := ⟨hQ, R6.out.lt⟩
            have G7 : Hid (Below B w V7) := (gbBelow G6.out H.out.2.1 (by have := H.out.1.lt; have := H.out.2.1; omega)).trans (hb7.mono (by have := R6.out.lt; have := HR.out.2.2.2; omega))
            have M7 : Hid (MakeA false xs (ex - 4 * ((be : Nat) : Int)) zo eo er) := hM
            clear hQ hM hb7 R6 G6 TB
            obtain ⟨cr0, cr1, cr2, fr0, fr1, fr2⟩ := R7.out
            have hner : gr < V7.heap.size := R7.out.lt
            go_wp2_with fail
            have hf : m7 = 0 ∨ ∃ g', p7 = some ⟨g', 0, none⟩ ∧ g' ≠ gr := Q7.out.1.nw.imp id (fun ⟨g', h1, h2⟩ => ⟨g', h1, by have := Q7.out.2; omega⟩)
            have hBV : B ≤ V6.heap.size := by have := HR.out.2.2.2; have := Q7.out.2; omega
            refine bodyPost_ret (v := DV s7 p7 m7 c7 eo) (by rw [results_cell1 rfl]; go_simp) rfl (.inr ⟨_, be, ex, zo, eo, er, s7, p7, m7, c7, HN5.out, by rw [← A6.out.2]; exact M7.out, rfl, ?_, ?_⟩)
            · exact ⟨(((Q7.out.1.dn.setOff hf).setOff hf).setOff hf).below (below1 _ _), (Q7.out.1.mono hBV).nw⟩
            · exact (bSet (bSet (bSet G7.out _ _ _ HR.out.2.2.2) _ _ _ HR.out.2.2.2) _ _ _ HR.out.2.2.2).trans ((below1 _ _).mono (by have := HR.out.2.2.2; simp; omega))
          · refine (end_n X4.out hE).mono ?_
            intro e V5 hv
            obtain ⟨rfl, hbb⟩ := gaveOn G4.out H.out.2.1 H.out.1.lt (gaveUp hv S4.out)
            exact ⟨rfl, .inl ⟨by rw [HNS2.out, if_neg hE], rfl, hbb⟩⟩
theorem hexF_app : ∀ (a b : List UInt8) (n : Nat), hexF n (a ++ b) = hexF (hexF n a) b
  | [], _, _ => rfl
  | _ :: a, b, _ => hexF_app a b _
theorem hexF_off : ∀ (l : List UInt8) (n : Nat), hexF n l = n * 16 ^ l.length + hexF 0 l
  | [], n => by show n = n * 1 + 0; omega
  | c :: l, n => by
    have h1 := hexF_off l (16 * n + hexv c)
    have h2 := hexF_off l (16 * 0 + hexv c)
    show hexF (16 * n + hexv c) l = n * 16 ^ (l.length + 1) + hexF (16 * 0 + hexv c) l
    rw [h1, h2, Nat.pow_succ, Nat.add_mul, Nat.add_mul, Nat.mul_zero, Nat.zero_mul, Nat.mul_comm 16 n, Nat.mul_assoc, Nat.mul_comm 16]
    omega
theorem limbs_val : ∀ (f : Nat) (l : List UInt8), l.length ≤ f → valB B64 (limbsF f l) = hexF 0 l
  | 0, l, h => by
    obtain rfl : l = [] := List.eq_nil_of_length_eq_zero (by omega)
    rfl
  | f + 1, l, h => by
    show valB B64 (if l.length = 0 then [] else _) = _
    by_cases h0 : l.length = 0
    · rw [if_pos h0, List.eq_nil_of_length_eq_zero h0]; rfl
    · rw [if_neg h0]
      show hexF 0 (l.drop (l.length - 16)) + B64 * valB B64 (limbsF f (l.take (l.length - 16))) = _
      rw [limbs_val f _ (by rw [List.length_take]; omega)]
      have h1 : hexF 0 l = hexF (hexF 0 (l.take (l.length - 16))) (l.drop (l.length - 16)) := by rw [← hexF_app, List.take_append_drop]
      rw [h1, hexF_off (l.drop (l.length - 16)) (hexF 0 (l.take (l.length - 16))), List.length_drop]
      by_cases h2 : 16 ≤ l.length
      · rw [show l.length - (l.length - 16) = 16 by omega, show (16 : Nat) ^ 16 = B64 from rfl, Nat.mul_comm]
        omega
      · rw [show l.length - 16 = 0 by omega]
        show hexF 0 l + B64 * 0 = 0 * 16 ^ (l.length - 0) + hexF 0 l
        omega
theorem limbs_len : ∀ (f : Nat) (l : List UInt8), 16 * (limbsF f l).length ≤ l.length + 15
  | 0, l => by show 16 * 0 ≤ _; omega
  | f + 1, l => by
    show 16 * (if l.length = 0 then [] else _ : List Nat).length ≤ _
    by_cases h0 : l.length = 0
    · rw [if_pos h0]; show 16 * 0 ≤ _; omega
    · rw [if_neg h0, List.length_cons]
      have := limbs_len f (l.take (l.length - 16))
      rw [List.length_take] at this
      by_cases h2 : 16 ≤ l.length
      · omega
      · rw [show l.length - 16 = 0 by omega, List.take_zero, limbs_nil]
        show 16 * (0 + 1) ≤ _
        omega
theorem hexF_pos {l : List UInt8} {c : UInt8} (h : hexv c ≠ 0) : hexF 0 (c :: l) ≠ 0 := by
  show hexF (16 * 0 + hexv c) l ≠ 0
  rw [hexF_off]
  have h1 : 0 < 16 ^ l.length := Nat.pow_pos (by decide)
  have h2 : 0 < (16 * 0 + hexv c) * 16 ^ l.length := Nat.mul_pos (by omega) h1
  omega
theorem limbs_top : ∀ (f : Nat) (l : List UInt8), l.length ≤ f → (∀ c r, l = c :: r → hexv c ≠ 0) → Top (limbsF f l)
  | 0, l, h, _ => by intro x hx; cases hx
  | f + 1, l, h, hc => by
    show Top (if l.length = 0 then [] else _)
    by_cases h0 : l.length = 0
    · rw [if_pos h0]; intro x hx; cases hx
    · rw [if_neg h0]
      cases l with
      | nil => exact absurd rfl h0
      | cons c r =>
        have hcc := hc c r rfl
        by_cases h2 : (c :: r).length ≤ 16
        · rw [show (c :: r).length - 16 = 0 by omega, List.take_zero, limbs_nil]
          intro x hx
          cases hx
          exact hexF_pos hcc
        · obtain ⟨k, hk⟩ : ∃ k, (c :: r).length - 16 = k + 1 := ⟨(c :: r).length - 17, by omega⟩
          rw [hk]
          have hT := limbs_top f ((c :: r).take (k + 1)) (by rw [List.length_take]; omega) (by intro c' r' e; rw [List.take_succ_cons] at e; cases e; exact hcc)
          intro x hx
          have hne : limbsF f ((c :: r).take (k + 1)) ≠ [] := by
            cases f with
            | zero => exfalso; have : (c :: r).length = r.length + 1 := rfl; omega
            | succ f =>
              show (if _ then _ else _) ≠ _
              rw [if_neg (by rw [List.take_succ_cons]; exact Nat.succ_ne_zero _)]
              exact List.cons_ne_nil _ _
          obtain ⟨a, b, hab⟩ := List.exists_cons_of_ne_nil hne
          rw [hab] at hx hT
          rw [List.getLast?_cons_cons] at hx
          exact hT x hx
theorem hexvN_0 : ∀ n, n < 256 → hexdN n = true → hexvN n = 0 → n = 48 := by decide +kernel
theorem trim_hd {l : List UInt8} (hd : ∀ c ∈ l, hexd c = true) : ∀ c r, Lib.trimLeftS l [48] = c :: r → hexv c ≠ 0 := by
  intro c r e h0
  have h1 : c ∈ Lib.trimLeftS l [48] := by rw [e]; exact List.mem_cons_self
  have h2 : c.toNat = 48 := hexvN_0 _ c.toNat_lt (trim_in hd c h1) h0
  have h3 : c = 48 := UInt8.toNat.inj (by rw [h2]; rfl)
  have h4 := List.head?_dropWhile_not (([48] : List UInt8).contains ·) l
  unfold Lib.trimLeftS at e
  rw [e, h3] at h4
  exact absurd h4 (by show ¬ (([48] : List UInt8).contains 48 = false); decide)
theorem hexF_trim : ∀ (l : List UInt8), hexF 0 (Lib.trimLeftS l [48]) = hexF 0 l
  | [] => rfl
  | c :: l => by
    unfold Lib.trimLeftS
    rw [List.dropWhile_cons]
    by_cases h : c = 48
    · rw [if_pos (by rw [h]; decide)]
      have := hexF_trim l
      unfold Lib.trimLeftS at this
      rw [this, h]
      rfl
    · rw [if_neg (by intro e; exact h (by simpa using e))]
theorem make_text {l : List UInt8} {e zo eo er : Int} (hd : ∀ c ∈ l, hexd c = true) (hl : l.length ≤ 8000) (he : -200000 ≤ e ∧ e ≤ 200000) (h : MakeA false (limbsF (Lib.trimLeftS l [48]).length (Lib.trimLeftS l [48])) e zo eo er) :
    er = 0 ∧ 0 ≤ zo ∧ -1048576 ≤ eo ∧ dv zo eo = dv (hexF 0 l : Int) e := by
  obtain ⟨d, hdd⟩ : ∃ d, d = Lib.trimLeftS l [48] := ⟨_, rfl⟩
  have hdl : d.length ≤ 8000 := by rw [hdd]; exact Nat.le_trans (trimS_len _ _) hl
  have hdh : ∀ c ∈ d, hexd c = true := by rw [hdd]; exact trim_in hd
  have hdt : ∀ c r, d = c :: r → hexv c ≠ 0 := by rw [hdd]; exact trim_hd hd
  rw [← hexF_trim l, ← hdd]
  rw [← hdd] at h
  have hv := limbs_val d.length d (Nat.le_refl _)
  have hL := limbs_len d.length d
  have hf : formZ false (limbsF d.length d) = true := by
    unfold formZ
    rw [(formB_iff _).2 ⟨by omega, limbs_top _ _ (Nat.le_refl _) hdt⟩]
    rfl
  rcases h with ⟨h1, _⟩ | ⟨_, h⟩
  · rw [hf] at h1; cases h1
  have hi : iv false (valB B64 (limbsF d.length d)) = (hexF 0 d : Int) := by rw [hv]; rfl
  rw [hi] at h
  rcases h with ⟨h0, rfl, rfl, rfl⟩ | ⟨h0, k, hk, h⟩
  · exact ⟨rfl, Int.le_refl _, by omega, by rw [h0, dv_zero, dv_zero]⟩
  · have hlt : hexF 0 d < 16 ^ d.length := by have := hexF_lt d 0 hdh; rwa [Nat.zero_add, Nat.one_mul] at this
    have hn : (hexF 0 d : Int).natAbs = hexF 0 d := Int.natAbs_natCast _
    rw [hn] at hk
    have hk2 : k < 4 * d.length := by
      have h1 : 2 ^ k ≤ hexF 0 d := Nat.le_of_dvd (by omega) (Nat.dvd_of_mod_eq_zero hk.1)
      have h2 : 2 ^ k < 2 ^ (4 * d.length) := Nat.lt_of_le_of_lt h1 (by rw [Nat.pow_mul]; exact hlt)
      exact (Nat.pow_lt_pow_iff_right (by decide)).1 h2
    rcases h with ⟨h1, h2, h3, rfl, rfl⟩ | ⟨h1, _⟩
    · refine ⟨rfl, ?_, h1, ?_⟩
      · have hp : (0 : Int) < ((2 ^ k : Nat) : Int) := Int.natCast_pos.2 (Nat.pow_pos (by decide))
        have : 0 ≤ zo * ((2 ^ k : Nat) : Int) := by rw [h3]; exact Int.natCast_nonneg _
        exact Int.nonneg_of_mul_nonneg_left this hp
      · rw [dv_up k (by omega), h3]
    · exact absurd ⟨by omega, by omega⟩ h1
end Go.Proofs.YtglkjbkpgfencaaGreatDoor
namespace Go.Proofs.YtglkjbkpgfencaaGreatDoor
open Go.RowKit
set_option maxRecDepth 20000
set_option maxHeartbeats 0
theorem bwAlloc (w : World) (o : Obj) : Below w.heap.size w (w.alloc o) := (Below.refl _ _).alloc (Nat.le_refl _) o
theorem bwOn {w w1 w2 : World} (h : Below w.heap.size w w1) (k : Below w1.heap.size w1 w2) : Below w.heap.size w w2 := h.trans (k.mono h.size)
theorem bwDrew {B : Nat} {a w : World} (h : Below B a w) : Below B a w.drew := ⟨h.os, h.tape, h.output, h.size, h.block⟩
theorem bwSet {B : Nat} {a w : World} (h : Below B a w) (g o : Nat) (v : Value) (hB : B ≤ g) : Below B a (w.setCell ⟨g, o, none⟩ v) :=
  h.trans ((Wr.refl g o 1 w).setCell o ⟨by omega, by omega⟩ v |>.below hB)
theorem results_c1 {fn : Func} {p : Tmp} {ty : TypeId} (h : fn.results = #[.cell p ty]) (tmps : Array Value) (P : Program) (w : World) :
    (results fn tmps).run P w = ((asAddr (tmps.getD p undef)).run P w).andThen fun a w₁ => (loadVar ty a).run P w₁ := by
  simp only [results, h]
  simp [Sem.run_bind, Result.andThen]
theorem results_ct {fn : Func} {p q : Tmp} {ty : TypeId} (h : fn.results = #[.cell p ty, .tmp q]) (tmps : Array Value) (P : Program) (w : World) :
    (results fn tmps).run P w = ((asAddr (tmps.getD p undef)).run P w).andThen fun a w₁ => ((loadVar ty a).run P w₁).andThen fun v w₂ => .ok (.tuple #[v, tmps.getD q undef]) w₂ := by
  simp only [results, h]
  simp [Sem.run_bind, Result.andThen]

abbrev WV (p m l : Int) : Value := .agg #[.int .i64 p, .int .i64 m, .int .i64 l]
structure B3 (W : World) (g : Nat) (v0 v1 v2 : Value) : Prop where
  c0 : W.cell? ⟨g, 0, none⟩ = some v0
  c1 : W.cell? ⟨g, 1, none⟩ = some v1
  c2 : W.cell? ⟨g, 2, none⟩ = some v2
  f0 : W.frozen? ⟨g, 0, none⟩ = false
  f1 : W.frozen? ⟨g, 1, none⟩ = false
  f2 : W.frozen? ⟨g, 2, none⟩ = false
theorem B3.below {W W' : World} {g : Nat} {v0 v1 v2 : Value} (h : B3 W g v0 v1 v2) (hb : Below W.heap.size W W') : B3 W' g v0 v1 v2 := by
  have hl : g < W.heap.size := World.block_lt_of_cell? W _ h.c0
  exact ⟨(hb.cell (p := ⟨g, 0, none⟩) hl).trans h.c0, (hb.cell (p := ⟨g, 1, none⟩) hl).trans h.c1, (hb.cell (p := ⟨g, 2, none⟩) hl).trans h.c2,
    (hb.frozen (p := ⟨g, 0, none⟩) hl).trans h.f0, (hb.frozen (p := ⟨g, 1, none⟩) hl).trans h.f1, (hb.frozen (p := ⟨g, 2, none⟩) hl).trans h.f2⟩
theorem B3.new (w : World) (ty : TypeId) (v0 v1 v2 : Value) : B3 (w.alloc (.cells #[v0, v1, v2] ty)) w.heap.size v0 v1 v2 :=
  ⟨by go_simp, by go_simp, by go_simp, by go_simp, by go_simp, by go_simp⟩
theorem B3.lt {W : World} {g : Nat} {v0 v1 v2 : Value} (h : B3 W g v0 v1 v2) : g < W.heap.size := World.block_lt_of_cell? W _ h.c0

theorem widths_32 (w : World) : Calls Tryz.prog 45 #[.int .i64 32] w fun e w' => e = .returned (WV 32 24 (-149)) ∧ Below w.heap.size w w' := by
  go_enter Tryz.func45, Tryz.ntmps45
  go_wp2_with fail
  exact bodyPost_ret (v := WV 32 24 (-149)) (by rw [results_c1 rfl]; go_simp) rfl ⟨rfl, bwAlloc w _⟩
theorem widths_64 (w : World) : Calls Tryz.prog 45 #[.int .i64 64] w fun e w' => e = .returned (WV 64 53 (-1074)) ∧ Below w.heap.size w w' := by
  go_enter Tryz.func45, Tryz.ntmps45
  go_wp2_with fail
  exact bodyPost_ret (v := WV 64 53 (-1074)) (by rw [results_c1 rfl]; go_simp) rfl ⟨rfl, bwAlloc w _⟩
theorem widths_x (f : Int) (h1 : f ≠ 32) (h2 : f ≠ 64) (w : World) : Calls Tryz.prog 45 #[.int .i64 f] w fun e w' => e = .returned (WV 0 0 0) ∧ Below w.heap.size w w' := by
  have h1' : (f == 32) = false := by simp [h1]
  have h2' : (f == 64) = false := by simp [h2]
  go_enter Tryz.func45, Tryz.ntmps45
  go_wp2_with fail
  exact bodyPost_ret (v := WV 0 0 0) (by rw [results_c1 rfl]; go_simp) rfl ⟨rfl, bwAlloc w _⟩
theorem of_32 (w : World) : Calls Tryz.prog 15 #[.int .i64 32] w fun e w' => e = .returned (.tuple #[WV 32 24 (-149), .int .i64 0]) ∧ Below w.heap.size w w' := by
  go_enter Tryz.func15, Tryz.ntmps15
  go_wp2_with fail
  have X0 : B3 (w.alloc (.cells #[.int .i64 0, .int .i64 0, .int .i64 0] 46)) w.heap.size (.int .i64 0) (.int .i64 0) (.int .i64 0) := B3.new ..
  have hb0 : Below w.heap.size w (w.alloc (.cells #[.int .i64 0, .int .i64 0, .int .i64 0] 46)) := bwAlloc w _
  generalize w.alloc (.cells #[.int .i64 0, .int .i64 0, .int .i64 0] 46) = W at *
  obtain ⟨g, hg⟩ : ∃ g, g = w.heap.size := ⟨_, rfl⟩
  have HG : Hid (w.heap.size ≤ g) := by show _ ≤ _; omega
  rw [← hg] at X0 ⊢
  clear hg
  refine (widths_32 _).mono ?_
  rintro e w1 ⟨rfl, hb1⟩
  obtain ⟨d0, d1, d2, d3, d4, d5⟩ := X0.below hb1
  have hgl : g < w1.heap.size := (X0.below hb1).lt
  have HB : Hid (Below w.heap.size w w1) := bwOn hb0 hb1
  clear hb0 hb1 X0
  go_wp2_with fail
  refine bodyPost_ret (v := .tuple #[WV 32 24 (-149), .int .i64 0]) (by rw [results_ct rfl]; go_simp) rfl ⟨rfl, ?_⟩
  exact Below.alloc (bwSet (bwSet (bwSet HB.out _ _ _ HG.out) _ _ _ HG.out) _ _ _ HG.out) (by simpa using HB.out.size) _
theorem of_64 (w : World) : Calls Tryz.prog 15 #[.int .i64 64] w fun e w' => e = .returned (.tuple #[WV 64 53 (-1074), .int .i64 0]) ∧ Below w.heap.size w w' := by
  go_enter Tryz.func15, Tryz.ntmps15
  go_wp2_with fail
  have X0 : B3 (w.alloc (.cells #[.int .i64 0, .int .i64 0, .int .i64 0] 46)) w.heap.size (.int .i64 0) (.int .i64 0) (.int .i64 0) := B3.new ..
  have hb0 : Below w.heap.size w (w.alloc (.cells #[.int .i64 0, .int .i64 0, .int .i64 0] 46)) := bwAlloc w _
  generalize w.alloc (.cells #[.int .i64 0, .int .i64 0, .int .i64 0] 46) = W at *
  obtain ⟨g, hg⟩ : ∃ g, g = w.heap.size := ⟨_, rfl⟩
  have HG : Hid (w.heap.size ≤ g) := by show _ ≤ _; omega
  rw [← hg] at X0 ⊢
  clear hg
  refine (widths_64 _).mono ?_
  rintro e w1 ⟨rfl, hb1⟩
  obtain ⟨d0, d1, d2, d3, d4, d5⟩ := X0.below hb1
  have hgl : g < w1.heap.size := (X0.below hb1).lt
  have HB : Hid (Below w.heap.size w w1) := bwOn hb0 hb1
  clear hb0 hb1 X0
  go_wp2_with fail
  refine bodyPost_ret (v := .tuple #[WV 64 53 (-1074), .int .i64 0]) (by rw [results_ct rfl]; go_simp) rfl ⟨rfl, ?_⟩
  exact Below.alloc (bwSet (bwSet (bwSet HB.out _ _ _ HG.out) _ _ _ HG.out) _ _ _ HG.out) (by simpa using HB.out.size) _
theorem of_x (f : Int) (h1 : f ≠ 32) (h2 : f ≠ 64) (w : World) : Calls Tryz.prog 15 #[.int .i64 f] w fun e w' => e = .returned (.tuple #[WV 0 0 0, .int .i64 1]) ∧ Below w.heap.size w w' := by
  go_enter Tryz.func15, Tryz.ntmps15
  go_wp2_with fail
  have X0 : B3 (w.alloc (.cells #[.int .i64 0, .int .i64 0, .int .i64 0] 46)) w.heap.size (.int .i64 0) (.int .i64 0) (.int .i64 0) := B3.new ..
  have hb0 : Below w.heap.size w (w.alloc (.cells #[.int .i64 0, .int .i64 0, .int .i64 0] 46)) := bwAlloc w _
  generalize w.alloc (.cells #[.int .i64 0, .int .i64 0, .int .i64 0] 46) = W at *
  obtain ⟨g, hg⟩ : ∃ g, g = w.heap.size := ⟨_, rfl⟩
  have HG : Hid (w.heap.size ≤ g) := by show _ ≤ _; omega
  rw [← hg] at X0 ⊢
  clear hg
  refine (widths_x f h1 h2 _).mono ?_
  rintro e w1 ⟨rfl, hb1⟩
  obtain ⟨d0, d1, d2, d3, d4, d5⟩ := X0.below hb1
  have hgl : g < w1.heap.size := (X0.below hb1).lt
  have HB : Hid (Below w.heap.size w w1) := bwOn hb0 hb1
  clear hb0 hb1 X0
  go_wp2_with fail
  refine bodyPost_ret (v := .tuple #[WV 0 0 0, .int .i64 1]) (by rw [results_ct rfl]; go_simp) rfl ⟨rfl, ?_⟩
  exact Below.alloc (bwSet (bwSet (bwSet HB.out _ _ _ HG.out) _ _ _ HG.out) _ _ _ HG.out) (by simpa using HB.out.size) _
theorem stored_32 (w : World) : Calls Tryz.prog 50 #[WV 32 24 (-149)] w fun e w' => e = .returned (.int .i64 23) ∧ Below w.heap.size w w' := by
  go_enter Tryz.func50, Tryz.ntmps50
  go_wp2_with fail
  go_ret
  exact ⟨rfl, bwAlloc w _⟩
theorem sign_32 (w : World) : Calls Tryz.prog 16 #[WV 32 24 (-149)] w fun e w' => e = .returned (.int .u64 2147483648) ∧ Below w.heap.size w w' := by
  go_enter Tryz.func16, Tryz.ntmps16
  go_wp2_with fail
  go_ret
  exact ⟨rfl, bwAlloc w _⟩
theorem infinity_32 (w : World) : Calls Tryz.prog 25 #[WV 32 24 (-149)] w fun e w' => e = .returned (.int .u64 2139095040) ∧ Below w.heap.size w w' := by
  go_enter Tryz.func25, Tryz.ntmps25
  go_wp2_with fail
  have X0 : B3 (w.alloc (.cells #[.int .i64 32, .int .i64 24, .int .i64 (-149)] 46)) w.heap.size (.int .i64 32) (.int .i64 24) (.int .i64 (-149)) := B3.new ..
  have hb0 : Below w.heap.size w (w.alloc (.cells #[.int .i64 32, .int .i64 24, .int .i64 (-149)] 46)) := bwAlloc w _
  generalize w.alloc (.cells #[.int .i64 32, .int .i64 24, .int .i64 (-149)] 46) = W at *
  obtain ⟨g, hg⟩ : ∃ g, g = w.heap.size := ⟨_, rfl⟩
  have HG : Hid (w.heap.size ≤ g) := by show _ ≤ _; omega
  rw [← hg] at X0 ⊢
  clear hg
  have XB : Hid (B3 W.drew g (.int .i64 32) (.int .i64 24) (.int .i64 (-149))) := ⟨X0.c0, X0.c1, X0.c2, X0.f0, X0.f1, X0.f2⟩
  have HBW : Hid (Below w.heap.size w W.drew) := bwDrew hb0
  obtain ⟨c0, c1, c2, c3, c4, c5⟩ := X0
  clear hb0
  go_region_with (first
      | (go_at_call 16; (with_reducible refine (sign_32 _).mono ?_); rintro e w1 ⟨rfl, hb1⟩; obtain ⟨d0, d1, d2, d3, d4, d5⟩ := XB.out.below hb1; have HBW1 : Hid (Below w.heap.size w w1) := bwOn HBW.out hb1; clear hb1)
      | (go_at_call 50; (with_reducible refine (stored_32 _).mono ?_); rintro e w2 ⟨rfl, hb2⟩; have HBW2 : Hid (Below w.heap.size w w2) := bwOn HBW1.out hb2; clear hb2))
  all_goals
    (go_wp2_with fail
     go_ret
     exact ⟨rfl, HBW2.out⟩)
theorem stored_64 (w : World) : Calls Tryz.prog 50 #[WV 64 53 (-1074)] w fun e w' => e = .returned (.int .i64 52) ∧ Below w.heap.size w w' := by
  go_enter Tryz.func50, Tryz.ntmps50
  go_wp2_with fail
  go_ret
  exact ⟨rfl, bwAlloc w _⟩
theorem sign_64 (w : World) : Calls Tryz.prog 16 #[WV 64 53 (-1074)] w fun e w' => e = .returned (.int .u64 9223372036854775808) ∧ Below w.heap.size w w' := by
  go_enter Tryz.func16, Tryz.ntmps16
  go_wp2_with fail
  go_ret
  exact ⟨rfl, bwAlloc w _⟩
theorem infinity_64 (w : World) : Calls Tryz.prog 25 #[WV 64 53 (-1074)] w fun e w' => e = .returned (.int .u64 9218868437227405312) ∧ Below w.heap.size w w' := by
  go_enter Tryz.func25, Tryz.ntmps25
  go_wp2_with fail
  have X0 : B3 (w.alloc (.cells #[.int .i64 64, .int .i64 53, .int .i64 (-1074)] 46)) w.heap.size (.int .i64 64) (.int .i64 53) (.int .i64 (-1074)) := B3.new ..
  have hb0 : Below w.heap.size w (w.alloc (.cells #[.int .i64 64, .int .i64 53, .int .i64 (-1074)] 46)) := bwAlloc w _
  generalize w.alloc (.cells #[.int .i64 64, .int .i64 53, .int .i64 (-1074)] 46) = W at *
  obtain ⟨g, hg⟩ : ∃ g, g = w.heap.size := ⟨_, rfl⟩
  have HG : Hid (w.heap.size ≤ g) := by show _ ≤ _; omega
  rw [← hg] at X0 ⊢
  clear hg
  have XB : Hid (B3 W.drew g (.int .i64 64) (.int .i64 53) (.int .i64 (-1074))) := ⟨X0.c0, X0.c1, X0.c2, X0.f0, X0.f1, X0.f2⟩
  have HBW : Hid (Below w.heap.size w W.drew) := bwDrew hb0
  obtain ⟨c0, c1, c2, c3, c4, c5⟩ := X0
  clear hb0
  go_region_with (first
      | (go_at_call 16; (with_reducible refine (sign_64 _).mono ?_); rintro e w1 ⟨rfl, hb1⟩; obtain ⟨d0, d1, d2, d3, d4, d5⟩ := XB.out.below hb1; have HBW1 : Hid (Below w.heap.size w w1) := bwOn HBW.out hb1; clear hb1)
      | (go_at_call 50; (with_reducible refine (stored_64 _).mono ?_); rintro e w2 ⟨rfl, hb2⟩; have HBW2 : Hid (Below w.heap.size w w2) := bwOn HBW1.out hb2; clear hb2))
  all_goals
    (go_wp2_with fail
     go_ret
     exact ⟨rfl, HBW2.out⟩)
theorem land_two_pow (b k : Nat) : b &&& 2 ^ k = if b / 2 ^ k % 2 = 1 then 2 ^ k else 0 := by
  refine Nat.eq_of_testBit_eq fun i => ?_
  rw [Nat.testBit_and, Nat.testBit_two_pow]
  by_cases h : k = i
  · subst h
    by_cases h2 : b / 2 ^ k % 2 = 1
    · rw [if_pos h2, Nat.testBit_two_pow_self]; simp [Nat.testBit_eq_decide_div_mod_eq, h2]
    · rw [if_neg h2]; simp [Nat.testBit_eq_decide_div_mod_eq, h2]
  · by_cases h2 : b / 2 ^ k % 2 = 1
    · rw [if_pos h2, Nat.testBit_two_pow]; simp [h]
    · rw [if_neg h2]; simp [h]
theorem sign_and (b S k : Nat) (hS : S = 2 ^ k) (hk : k < 64) (hb : b < 2 * S) : bits BinOp.and IntKind.u64 (b : Int) (S : Int) = ((if S ≤ b then S else 0 : Nat) : Int) := by
  have h1 : S ≤ 9223372036854775808 := by rw [hS]; exact Nat.le_trans (Nat.pow_le_pow_right (by decide) (by omega : k ≤ 63)) (by decide)
  rw [bits_and_u64_nat b S (by omega) (by omega)]
  congr 1
  rw [hS] at hb ⊢
  rw [land_two_pow]
  have hp := Nat.two_pow_pos k
  by_cases h : 2 ^ k ≤ b
  · have : b / 2 ^ k = 1 := by
      rw [Nat.div_eq_of_lt_le] <;> omega
    rw [this, if_pos rfl, if_pos h]
  · rw [Nat.div_eq_of_lt (by omega), if_neg (by decide), if_neg h]
theorem andNot_bv (b k : Nat) (hb : b < 2 ^ (k + 1)) (hk : k < 64) : (BitVec.ofNat 64 b &&& ~~~ BitVec.ofNat 64 (2 ^ k)) = BitVec.ofNat 64 (b % 2 ^ k) := by
  refine BitVec.eq_of_getLsbD_eq fun i hi => ?_
  simp only [BitVec.getLsbD_and, BitVec.getLsbD_not, BitVec.getLsbD_ofNat, Nat.testBit_two_pow, Nat.testBit_mod_two_pow, hi, decide_true, Bool.true_and]
  rcases Nat.lt_trichotomy i k with h | h | h
  · have h2 : ¬ k = i := by omega
    simp [h, h2]
  · subst h; simp
  · have h2 : b.testBit i = false := Nat.testBit_lt_two_pow (Nat.lt_of_lt_of_le hb (Nat.pow_le_pow_right (by decide) h))
    simp [h2]
theorem sign_andNot (b S k : Nat) (hS : S = 2 ^ k) (hk : k < 64) (hb : b < 2 * S) : bits BinOp.andNot IntKind.u64 (b : Int) (S : Int) = ((b % S : Nat) : Int) := by
  have h1 : S ≤ 9223372036854775808 := by rw [hS]; exact Nat.le_trans (Nat.pow_le_pow_right (by decide) (by omega : k ≤ 63)) (by decide)
  have hb2 : b < 2 ^ (k + 1) := by rw [Nat.pow_succ, ← hS]; omega
  show IntKind.u64.wrap ((BitVec.ofInt 64 (b : Int) &&& ~~~ BitVec.ofInt 64 (S : Int)).toNat : Int) = _
  rw [BitVec.ofInt_natCast, BitVec.ofInt_natCast, hS, andNot_bv b k hb2 hk, ← hS, BitVec.toNat_ofNat, IntKind.wrap_u64]
  have h2 : b % S < S := Nat.mod_lt _ (by rw [hS]; exact Nat.two_pow_pos k)
  omega
theorem sign_or (s S k : Nat) (hS : S = 2 ^ k) (hk : k < 64) (hs : s < S) : bits BinOp.or IntKind.u64 (S : Int) (s : Int) = ((S + s : Nat) : Int) := by
  have h1 : S ≤ 9223372036854775808 := by rw [hS]; exact Nat.le_trans (Nat.pow_le_pow_right (by decide) (by omega : k ≤ 63)) (by decide)
  have h2 := Nat.two_pow_add_eq_or_of_lt (i := k) (b := s) (hS ▸ hs) 1
  rw [Nat.mul_one] at h2
  rw [bits_or_u64_nat S s (by omega) (by omega), hS, ← h2]
end Go.Proofs.YtglkjbkpgfencaaGreatDoor
namespace Go.Proofs.YtglkjbkpgfencaaGreatDoor
open Go.RowKit Go.Shelf
set_option maxRecDepth 20000
set_option maxHeartbeats 0
def bl_renLen : Ren := ⟨fun x => match x with | 129 => 47 | n => n, fun x => match x with | 53 => 25 | 3 => 3 | 4 => 4 | 46 => 128 | 5 => 5 | 9 => 9 | n => n, fun n => n⟩
theorem bl_laysLen : Lays.n129 Tryz.prog bl_renLen :=
  { mixed := by kernel_rfl, f129 := Tryz.func47.trans (congrArg some (by kernel_rfl)),
    t3 := Tryz.underlying3, a3 := Tryz.isAgg3, z3 := Tryz.sizeOf3, v3 := Tryz.zeroValue3, t4 := Tryz.underlying4, a4 := Tryz.isAgg4, z4 := Tryz.sizeOf4, v4 := Tryz.zeroValue4,
    t5 := Tryz.underlying5, a5 := Tryz.isAgg5, z5 := Tryz.sizeOf5, v5 := Tryz.zeroValue5, t9 := Tryz.underlying9, a9 := Tryz.isAgg9, z9 := Tryz.sizeOf9, v9 := Tryz.zeroValue9,
    t46 := Tryz.underlying128, a46 := Tryz.isAgg128, z46 := Tryz.sizeOf128, v46 := Tryz.zeroValue128, t53 := Tryz.underlying25, a53 := Tryz.isAgg25, z53 := Tryz.sizeOf25, v53 := Tryz.zeroValue25 }

def bl_bitsN (n : Nat) : Nat := if n = 0 then 0 else n.log2 + 1
theorem bl_bitsN_zero : bl_bitsN 0 = 0 := rfl
theorem bl_bitsN_lt (n : Nat) : n < 2 ^ bl_bitsN n := by
  unfold bl_bitsN
  split
  · rename_i h; subst h; decide
  · exact Nat.lt_log2_self
theorem bl_bitsN_le (n : Nat) (h : n ≠ 0) : 2 ^ (bl_bitsN n - 1) ≤ n := by
  unfold bl_bitsN
  rw [if_neg h, Nat.add_sub_cancel]
  exact Nat.log2_self_le h
theorem bl_bitsN_unique {n k : Nat} (h1 : n < 2 ^ k) (h2 : n ≠ 0 → 2 ^ (k - 1) ≤ n) (h3 : n = 0 → k = 0) : bl_bitsN n = k := by
  by_cases h0 : n = 0
  · subst h0; rw [h3 rfl]; rfl
  · have a1 := bl_bitsN_lt n
    have a2 := bl_bitsN_le n h0
    have b2 := h2 h0
    have c1 : bl_bitsN n - 1 < k := (Nat.pow_lt_pow_iff_right (by decide : 1 < 2)).1 (Nat.lt_of_le_of_lt a2 h1)
    have c2 : k - 1 < bl_bitsN n := (Nat.pow_lt_pow_iff_right (by decide : 1 < 2)).1 (Nat.lt_of_le_of_lt b2 a1)
    have c3 : bl_bitsN n ≠ 0 := by unfold bl_bitsN; rw [if_neg h0]; omega
    omega
theorem bl_bitsN_half (n : Nat) (h : n ≠ 0) : bl_bitsN n = 1 + bl_bitsN (n / 2) := by
  refine bl_bitsN_unique ?_ ?_ (fun e => absurd e h)
  · have := bl_bitsN_lt (n / 2)
    rw [Nat.add_comm, Nat.pow_succ]; omega
  · intro _
    by_cases h2 : n / 2 = 0
    · rw [h2]; simp [bl_bitsN]; omega
    · have a := bl_bitsN_le _ h2
      have c3 : bl_bitsN (n / 2) ≠ 0 := by unfold bl_bitsN; rw [if_neg h2]; omega
      have e : 1 + bl_bitsN (n / 2) - 1 = bl_bitsN (n / 2) - 1 + 1 := by omega
      rw [e, Nat.pow_succ]; omega
theorem bl_bitLen_eq : ∀ (k n : Nat), n < 2 ^ k → k ≤ 64 → Lib.bitLen n = bl_bitsN n := by
  intro k
  induction k with
  | zero => intro n h _; have : n = 0 := by simpa using h
            subst this; rfl
  | succ k ih =>
    intro n h hk
    by_cases h0 : n = 0
    · subst h0; rfl
    · rw [Lib.bitLen_half n h0 (Nat.lt_of_lt_of_le h (Nat.pow_le_pow_right (by decide) hk)), bl_bitsN_half n h0, ih (n / 2) (by rw [Nat.pow_succ] at h; omega) (by omega)]

theorem bl_len_any (x : Nat) (w : World) (hx : x < B64) : Calls Tryz.prog 47 #[U x] w fun e w' => e = .returned (.int .i64 (bl_bitsN x)) ∧ w' = w := by
  rw [B64_eq] at hx
  have h := Any.bits_Len64 bl_laysLen (x : Int) w (by omega) (by omega)
  rw [Int.toNat_natCast, bl_bitLen_eq 64 x hx (Nat.le_refl _)] at h
  exact h

theorem bl_gt32 {b : Nat} (h : 4294967296 ≤ b) : 32 < bl_bitsN b := by
  rcases Nat.lt_or_ge 32 (bl_bitsN b) with e | e
  · exact e
  · have h1 := bl_bitsN_lt b
    have h2 : 2 ^ bl_bitsN b ≤ 2 ^ 32 := Nat.pow_le_pow_right (by decide) e
    omega
theorem bl_le {b k : Nat} (h : b < 2 ^ k) : bl_bitsN b ≤ k := by
  by_cases h0 : b = 0
  · subst h0; rw [bl_bitsN_zero]; omega
  · have h1 := bl_bitsN_le b h0
    have h2 := (Nat.pow_lt_pow_iff_right (by decide : 1 < 2)).1 (Nat.lt_of_le_of_lt h1 h)
    omega
abbrev PV (p m l : Int) (s : Bool) (z : Nat) : Value := .agg #[.int .i64 p, .int .i64 m, .int .i64 l, .bool s, U z]
structure B5q (W : World) (g : Nat) (v0 v1 v2 v3 v4 : Value) : Prop where
  c0 : W.cell? ⟨g, 0, none⟩ = some v0
  c1 : W.cell? ⟨g, 1, none⟩ = some v1
  c2 : W.cell? ⟨g, 2, none⟩ = some v2
  c3 : W.cell? ⟨g, 3, none⟩ = some v3
  c4 : W.cell? ⟨g, 4, none⟩ = some v4
  f0 : W.frozen? ⟨g, 0, none⟩ = false
  f1 : W.frozen? ⟨g, 1, none⟩ = false
  f2 : W.frozen? ⟨g, 2, none⟩ = false
  f3 : W.frozen? ⟨g, 3, none⟩ = false
  f4 : W.frozen? ⟨g, 4, none⟩ = false
theorem B5q.below {W W' : World} {g : Nat} {v0 v1 v2 v3 v4 : Value} (h : B5q W g v0 v1 v2 v3 v4) (hb : Below W.heap.size W W') : B5q W' g v0 v1 v2 v3 v4 := by
  have hl : g < W.heap.size := World.block_lt_of_cell? W _ h.c0
  exact ⟨(hb.cell (p := ⟨g, 0, none⟩) hl).trans h.c0, (hb.cell (p := ⟨g, 1, none⟩) hl).trans h.c1, (hb.cell (p := ⟨g, 2, none⟩) hl).trans h.c2, (hb.cell (p := ⟨g, 3, none⟩) hl).trans h.c3, (hb.cell (p := ⟨g, 4, none⟩) hl).trans h.c4,
    (hb.frozen (p := ⟨g, 0, none⟩) hl).trans h.f0, (hb.frozen (p := ⟨g, 1, none⟩) hl).trans h.f1, (hb.frozen (p := ⟨g, 2, none⟩) hl).trans h.f2, (hb.frozen (p := ⟨g, 3, none⟩) hl).trans h.f3, (hb.frozen (p := ⟨g, 4, none⟩) hl).trans h.f4⟩
theorem B5q.new (w : World) (ty : TypeId) (v0 v1 v2 v3 v4 : Value) : B5q (w.alloc (.cells #[v0, v1, v2, v3, v4] ty)) w.heap.size v0 v1 v2 v3 v4 :=
  ⟨by go_simp, by go_simp, by go_simp, by go_simp, by go_simp, by go_simp, by go_simp, by go_simp, by go_simp, by go_simp⟩
theorem B5q.lt {W : World} {g : Nat} {v0 v1 v2 v3 v4 : Value} (h : B5q W g v0 v1 v2 v3 v4) : g < W.heap.size := World.block_lt_of_cell? W _ h.c0
theorem B5q.drew {W : World} {g : Nat} {v0 v1 v2 v3 v4 : Value} (h : B5q W g v0 v1 v2 v3 v4) : B5q W.drew g v0 v1 v2 v3 v4 := ⟨h.c0, h.c1, h.c2, h.c3, h.c4, h.f0, h.f1, h.f2, h.f3, h.f4⟩
theorem B3.drew {W : World} {g : Nat} {v0 v1 v2 : Value} (h : B3 W g v0 v1 v2) : B3 W.drew g v0 v1 v2 := ⟨h.c0, h.c1, h.c2, h.f0, h.f1, h.f2⟩
theorem beyond_64 (w : World) : Calls Tryz.prog 59 #[WV 64 53 (-1074)] w fun e w' => e = .returned (.int .i64 1024) ∧ Below w.heap.size w w' := by
  go_enter Tryz.func59, Tryz.ntmps59
  go_wp2_with fail
  have X0 : B3 (w.alloc (.cells #[.int .i64 64, .int .i64 53, .int .i64 (-1074)] 46)) w.heap.size (.int .i64 64) (.int .i64 53) (.int .i64 (-1074)) := B3.new ..
  have hb0 : Below w.heap.size w (w.alloc (.cells #[.int .i64 64, .int .i64 53, .int .i64 (-1074)] 46)) := bwAlloc w _
  generalize w.alloc (.cells #[.int .i64 64, .int .i64 53, .int .i64 (-1074)] 46) = W at *
  obtain ⟨g, hg⟩ : ∃ g, g = w.heap.size := ⟨_, rfl⟩
  rw [← hg] at X0 ⊢
  clear hg
  have XB : Hid (B3 W.drew g (.int .i64 64) (.int .i64 53) (.int .i64 (-1074))) := X0.drew
  have HBW : Hid (Below w.heap.size w W.drew) := bwDrew hb0
  have XW : Hid (B3 W g (.int .i64 64) (.int .i64 53) (.int .i64 (-1074))) := X0
  have HB0 : Hid (Below w.heap.size w W) := hb0
  clear X0 hb0
  refine wp_region_J (fun W' => B3 W' g (.int .i64 64) (.int .i64 53) (.int .i64 (-1074))) (by kernel_rfl) ?_
  refine wpJ_take (i := 0) (v := ?v1x0) rfl (by kernel_rfl) (by kernel_rfl) (by kernel_rfl) (fun _ _ _ h => h) (by rfl) ?hy1x0 XB.out ?rest1x0
  case hy1x0 => (intro W' hJ; obtain ⟨c0, c1, c2, c3, c4, c5⟩ := hJ; go_simp; first | done | with_reducible rfl)
  refine wpJ_take (i := 2) (v := ?v2x2) rfl (by kernel_rfl) (by kernel_rfl) (by kernel_rfl) (fun _ _ _ h => h) (by rfl) ?hy2x2 XB.out ?rest2x2
  case hy2x2 => (intro W' hJ; obtain ⟨c0, c1, c2, c3, c4, c5⟩ := hJ; go_simp; first | done | with_reducible rfl)
  refine wpJ_on 1 rfl fun K hK => ?_
  go_simp
  refine (infinity_64 _).mono ?_
  rintro e w1 ⟨rfl, hb1⟩
  have Xw1 : Hid (B3 w1 g (.int .i64 64) (.int .i64 53) (.int .i64 (-1074))) := XB.out.below hb1
  have HBw1 : Hid (Below w.heap.size w w1) := bwOn HBW.out hb1
  clear hb1
  refine hK _ _ Xw1.out ?_
  clear hK
  refine wpJ_on 3 rfl fun K hK => ?_
  go_simp
  refine (stored_64 _).mono ?_
  rintro e w2 ⟨rfl, hb2⟩
  have Xw2 : Hid (B3 w2 g (.int .i64 64) (.int .i64 53) (.int .i64 (-1074))) := Xw1.out.below hb2
  have HBw2 : Hid (Below w.heap.size w w2) := bwOn HBw1.out hb2
  clear hb2
  refine hK _ _ Xw2.out ?_
  clear hK
  refine wpJ_take (i := 4) (v := ?v3x4) rfl (by kernel_rfl) (by kernel_rfl) (by kernel_rfl) (fun _ _ _ h => h) (by rfl) ?hy3x4 Xw2.out ?rest3x4
  case hy3x4 => (intro W' hJ; obtain ⟨c0, c1, c2, c3, c4, c5⟩ := hJ; go_simp; first | done | with_reducible rfl)
  refine wpJ_take (i := 5) (v := ?v4x5) rfl (by kernel_rfl) (by kernel_rfl) (by kernel_rfl) (fun _ _ _ h => h) (by rfl) ?hy4x5 Xw2.out ?rest4x5
  case hy4x5 => (intro W' hJ; obtain ⟨c0, c1, c2, c3, c4, c5⟩ := hJ; go_simp; first | done | with_reducible rfl)
  refine wpJ_take (i := 6) (v := ?v5x6) rfl (by kernel_rfl) (by kernel_rfl) (by kernel_rfl) (fun _ _ _ h => h) (by rfl) ?hy5x6 Xw2.out ?rest5x6
  case hy5x6 => (intro W' hJ; obtain ⟨c0, c1, c2, c3, c4, c5⟩ := hJ; go_simp; first | done | with_reducible rfl)
  refine wpJ_done (by kernel_rfl) ?_ _
  clear XB HBW XW HB0 Xw1 HBw1
  have XB : Hid (B3 w2.drew g (.int .i64 64) (.int .i64 53) (.int .i64 (-1074))) := Xw2.out.drew
  have HBW : Hid (Below w.heap.size w w2.drew) := bwDrew HBw2.out
  have hwr : IntKind.i64.wrap 2047 = 2047 := by decide
  go_wp2_with fail
  refine wp_region_J (fun W' => B3 W' g (.int .i64 64) (.int .i64 53) (.int .i64 (-1074))) (by kernel_rfl) ?_
  refine wpJ_take (i := 0) (v := ?v6x0) rfl (by kernel_rfl) (by kernel_rfl) (by kernel_rfl) (fun _ _ _ h => h) (by rfl) ?hy6x0 XB.out ?rest6x0
  case hy6x0 => (intro W' hJ; obtain ⟨c0, c1, c2, c3, c4, c5⟩ := hJ; go_simp; first | done | with_reducible rfl)
  refine wpJ_take (i := 1) (v := ?v7x1) rfl (by kernel_rfl) (by kernel_rfl) (by kernel_rfl) (fun _ _ _ h => h) (by rfl) ?hy7x1 XB.out ?rest7x1
  case hy7x1 => (intro W' hJ; obtain ⟨c0, c1, c2, c3, c4, c5⟩ := hJ; go_simp; first | done | with_reducible rfl)
  refine wpJ_take (i := 2) (v := ?v8x2) rfl (by kernel_rfl) (by kernel_rfl) (by kernel_rfl) (fun _ _ _ h => h) (by rfl) ?hy8x2 XB.out ?rest8x2
  case hy8x2 => (intro W' hJ; obtain ⟨c0, c1, c2, c3, c4, c5⟩ := hJ; go_simp; first | done | with_reducible rfl)
  refine wpJ_take (i := 3) (v := ?v9x3) rfl (by kernel_rfl) (by kernel_rfl) (by kernel_rfl) (fun _ _ _ h => h) (by rfl) ?hy9x3 XB.out ?rest9x3
  case hy9x3 => (intro W' hJ; obtain ⟨c0, c1, c2, c3, c4, c5⟩ := hJ; go_simp; first | done | with_reducible rfl)
  refine wpJ_take (i := 4) (v := ?v10x4) rfl (by kernel_rfl) (by kernel_rfl) (by kernel_rfl) (fun _ _ _ h => h) (by rfl) ?hy10x4 XB.out ?rest10x4
  case hy10x4 => (intro W' hJ; obtain ⟨c0, c1, c2, c3, c4, c5⟩ := hJ; go_simp; first | done | with_reducible rfl)
  refine wpJ_take (i := 5) (v := ?v11x5) rfl (by kernel_rfl) (by kernel_rfl) (by kernel_rfl) (fun _ _ _ h => h) (by rfl) ?hy11x5 XB.out ?rest11x5
  case hy11x5 => (intro W' hJ; obtain ⟨c0, c1, c2, c3, c4, c5⟩ := hJ; go_simp; first | done | with_reducible rfl)
  refine wpJ_on 6 rfl fun K hK => ?_
  go_simp
  refine (stored_64 _).mono ?_
  rintro e w3 ⟨rfl, hb3⟩
  have Xw3 : Hid (B3 w3 g (.int .i64 64) (.int .i64 53) (.int .i64 (-1074))) := XB.out.below hb3
  have HBw3 : Hid (Below w.heap.size w w3) := bwOn HBW.out hb3
  clear hb3
  refine hK _ _ Xw3.out ?_
  clear hK
  refine wpJ_take (i := 7) (v := ?v12x7) rfl (by kernel_rfl) (by kernel_rfl) (by kernel_rfl) (fun _ _ _ h => h) (by rfl) ?hy12x7 Xw3.out ?rest12x7
  case hy12x7 => (intro W' hJ; obtain ⟨c0, c1, c2, c3, c4, c5⟩ := hJ; go_simp; first | done | with_reducible rfl)
  refine wpJ_take (i := 8) (v := ?v13x8) rfl (by kernel_rfl) (by kernel_rfl) (by kernel_rfl) (fun _ _ _ h => h) (by rfl) ?hy13x8 Xw3.out ?rest13x8
  case hy13x8 => (intro W' hJ; obtain ⟨c0, c1, c2, c3, c4, c5⟩ := hJ; go_simp; first | done | with_reducible rfl)
  refine wpJ_done (by kernel_rfl) ?_ _
  go_wp2_with fail
  go_ret
  exact ⟨rfl, HBw3.out⟩
theorem unit_64 (top : Int) (h1 : -1022 ≤ top) (h2 : top ≤ 5000) (w : World) : Calls Tryz.prog 61 #[WV 64 53 (-1074), .int .i64 top] w fun e w' => e = .returned (.int .i64 (top - 52)) ∧ Below w.heap.size w w' := by
  obtain ⟨r, hr⟩ : ∃ r, r = top - 52 := ⟨_, rfl⟩
  have e1 : IntKind.i64.wrap (top - 52) = r := by rw [hr]; simp [IntKind.wrap, IntKind.signed, IntKind.bits]; omega
  have e2 : max r (-1074) = r := by omega
  rw [← hr]
  clear hr h1 h2
  go_enter Tryz.func61, Tryz.ntmps61
  go_wp2_with fail
  have X0 : B3 (w.alloc (.cells #[.int .i64 64, .int .i64 53, .int .i64 (-1074)] 46)) w.heap.size (.int .i64 64) (.int .i64 53) (.int .i64 (-1074)) := B3.new ..
  have hb0 : Below w.heap.size w (w.alloc (.cells #[.int .i64 64, .int .i64 53, .int .i64 (-1074)] 46)) := bwAlloc w _
  generalize w.alloc (.cells #[.int .i64 64, .int .i64 53, .int .i64 (-1074)] 46) = W at *
  obtain ⟨g, hg⟩ : ∃ g, g = w.heap.size := ⟨_, rfl⟩
  rw [← hg] at X0 ⊢
  clear hg
  have XB : Hid (B3 W.drew g (.int .i64 64) (.int .i64 53) (.int .i64 (-1074))) := X0.drew
  have HBW : Hid (Below w.heap.size w W.drew) := bwDrew hb0
  have XW : Hid (B3 W g (.int .i64 64) (.int .i64 53) (.int .i64 (-1074))) := X0
  have HB0 : Hid (Below w.heap.size w W) := hb0
  clear X0 hb0
  refine wp_region_J (fun W' => B3 W' g (.int .i64 64) (.int .i64 53) (.int .i64 (-1074))) (by kernel_rfl) ?_
  refine wpJ_take (i := 0) (v := ?v14x0) rfl (by kernel_rfl) (by kernel_rfl) (by kernel_rfl) (fun _ _ _ h => h) (by rfl) ?hy14x0 XB.out ?rest14x0
  case hy14x0 => (intro W' hJ; obtain ⟨c0, c1, c2, c3, c4, c5⟩ := hJ; go_simp; first | done | with_reducible rfl)
  refine wpJ_take (i := 1) (v := ?v15x1) rfl (by kernel_rfl) (by kernel_rfl) (by kernel_rfl) (fun _ _ _ h => h) (by rfl) ?hy15x1 XB.out ?rest15x1
  case hy15x1 => (intro W' hJ; obtain ⟨c0, c1, c2, c3, c4, c5⟩ := hJ; go_simp; first | done | with_reducible rfl)
  refine wpJ_take (i := 4) (v := ?v16x4) rfl (by kernel_rfl) (by kernel_rfl) (by kernel_rfl) (fun _ _ _ h => h) (by rfl) ?hy16x4 XB.out ?rest16x4
  case hy16x4 => (intro W' hJ; obtain ⟨c0, c1, c2, c3, c4, c5⟩ := hJ; go_simp; first | done | with_reducible rfl)
  refine wpJ_take (i := 5) (v := ?v17x5) rfl (by kernel_rfl) (by kernel_rfl) (by kernel_rfl) (fun _ _ _ h => h) (by rfl) ?hy17x5 XB.out ?rest17x5
  case hy17x5 => (intro W' hJ; obtain ⟨c0, c1, c2, c3, c4, c5⟩ := hJ; go_simp; first | done | with_reducible rfl)
  refine wpJ_on 2 rfl fun K hK => ?_
  go_simp
  refine (stored_64 _).mono ?_
  rintro e w2 ⟨rfl, hb2⟩
  have Xw2 : Hid (B3 w2 g (.int .i64 64) (.int .i64 53) (.int .i64 (-1074))) := XB.out.below hb2
  have HBw2 : Hid (Below w.heap.size w w2) := bwOn HBW.out hb2
  clear hb2
  refine hK _ _ Xw2.out ?_
  clear hK
  refine wpJ_take (i := 3) (v := ?v18x3) rfl (by kernel_rfl) (by kernel_rfl) (by kernel_rfl) (fun _ _ _ h => h) (by rfl) ?hy18x3 Xw2.out ?rest18x3
  case hy18x3 => (intro W' hJ; obtain ⟨c0, c1, c2, c3, c4, c5⟩ := hJ; go_simp; first | done | with_reducible rfl)
  refine wpJ_take (i := 6) (v := ?v19x6) rfl (by kernel_rfl) (by kernel_rfl) (by kernel_rfl) (fun _ _ _ h => h) (by rfl) ?hy19x6 Xw2.out ?rest19x6
  case hy19x6 => (intro W' hJ; obtain ⟨c0, c1, c2, c3, c4, c5⟩ := hJ; go_simp; first | done | with_reducible rfl)
  refine wpJ_take (i := 7) (v := ?v20x7) rfl (by kernel_rfl) (by kernel_rfl) (by kernel_rfl) (fun _ _ _ h => h) (by rfl) ?hy20x7 Xw2.out ?rest20x7
  case hy20x7 => (intro W' hJ; obtain ⟨c0, c1, c2, c3, c4, c5⟩ := hJ; go_simp; first | done | with_reducible rfl)
  refine wpJ_done (by kernel_rfl) ?_ _
  clear XB HBW XW HB0
  go_wp2_with fail
  go_ret
  exact ⟨rfl, HBw2.out⟩
theorem size_64 (man q : Nat) (u : Int) (hu : u = (q : Int) - 1074) (hq : q < 2048) (hm : man ≤ 9007199254740992) (w : World) : Calls Tryz.prog 62 #[WV 64 53 (-1074), U man, .int .i64 u] w fun e w' => e = .returned (U (q * 4503599627370496 + man)) ∧ Below w.heap.size w w' := by
  obtain ⟨r, hr⟩ : ∃ r, r = q * 4503599627370496 + man := ⟨_, rfl⟩
  obtain ⟨y, hy⟩ : ∃ y, y = q * 4503599627370496 := ⟨_, rfl⟩
  rw [← hr]
  have e1 : IntKind.i64.wrap (u - -1074) = (q : Int) := by simp [IntKind.wrap, IntKind.signed, IntKind.bits]; omega
  have e1' : IntKind.i64.wrap (u + 1074) = (q : Int) := by simp [IntKind.wrap, IntKind.signed, IntKind.bits]; omega
  have e2 : IntKind.u64.wrap (q : Int) = (q : Int) := by rw [IntKind.wrap_u64]; omega
  have e3 : IntKind.u64.wrap ((q : Int) * 4503599627370496) = (y : Int) := by rw [IntKind.wrap_u64]; omega
  have e4 : IntKind.u64.wrap ((y : Int) + (man : Int)) = (r : Int) := by rw [IntKind.wrap_u64]; omega
  clear hr hy hq hm hu
  go_enter Tryz.func62, Tryz.ntmps62
  go_wp2_with fail
  have X0 : B3 (w.alloc (.cells #[.int .i64 64, .int .i64 53, .int .i64 (-1074)] 46)) w.heap.size (.int .i64 64) (.int .i64 53) (.int .i64 (-1074)) := B3.new ..
  have hb0 : Below w.heap.size w (w.alloc (.cells #[.int .i64 64, .int .i64 53, .int .i64 (-1074)] 46)) := bwAlloc w _
  generalize w.alloc (.cells #[.int .i64 64, .int .i64 53, .int .i64 (-1074)] 46) = W at *
  obtain ⟨g, hg⟩ : ∃ g, g = w.heap.size := ⟨_, rfl⟩
  rw [← hg] at X0 ⊢
  clear hg
  have XB : Hid (B3 W.drew g (.int .i64 64) (.int .i64 53) (.int .i64 (-1074))) := X0.drew
  have HBW : Hid (Below w.heap.size w W.drew) := bwDrew hb0
  have XW : Hid (B3 W g (.int .i64 64) (.int .i64 53) (.int .i64 (-1074))) := X0
  have HB0 : Hid (Below w.heap.size w W) := hb0
  clear X0 hb0
  refine wp_region_J (fun W' => B3 W' g (.int .i64 64) (.int .i64 53) (.int .i64 (-1074))) (by kernel_rfl) ?_
  refine wpJ_take (i := 0) (v := ?v21x0) rfl (by kernel_rfl) (by kernel_rfl) (by kernel_rfl) (fun _ _ _ h => h) (by rfl) ?hy21x0 XB.out ?rest21x0
  case hy21x0 => (intro W' hJ; obtain ⟨c0, c1, c2, c3, c4, c5⟩ := hJ; go_simp; first | done | with_reducible rfl)
  refine wpJ_take (i := 1) (v := ?v22x1) rfl (by kernel_rfl) (by kernel_rfl) (by kernel_rfl) (fun _ _ _ h => h) (by rfl) ?hy22x1 XB.out ?rest22x1
  case hy22x1 => (intro W' hJ; obtain ⟨c0, c1, c2, c3, c4, c5⟩ := hJ; go_simp; first | done | with_reducible rfl)
  refine wpJ_take (i := 2) (v := ?v23x2) rfl (by kernel_rfl) (by kernel_rfl) (by kernel_rfl) (fun _ _ _ h => h) (by rfl) ?hy23x2 XB.out ?rest23x2
  case hy23x2 => (intro W' hJ; obtain ⟨c0, c1, c2, c3, c4, c5⟩ := hJ; go_simp; first | done | with_reducible rfl)
  refine wpJ_take (i := 3) (v := ?v24x3) rfl (by kernel_rfl) (by kernel_rfl) (by kernel_rfl) (fun _ _ _ h => h) (by rfl) ?hy24x3 XB.out ?rest24x3
  case hy24x3 => (intro W' hJ; obtain ⟨c0, c1, c2, c3, c4, c5⟩ := hJ; go_simp; first | done | with_reducible rfl)
  refine wpJ_take (i := 4) (v := ?v25x4) rfl (by kernel_rfl) (by kernel_rfl) (by kernel_rfl) (fun _ _ _ h => h) (by rfl) ?hy25x4 XB.out ?rest25x4
  case hy25x4 => (intro W' hJ; obtain ⟨c0, c1, c2, c3, c4, c5⟩ := hJ; go_simp; first | done | with_reducible rfl)
  refine wpJ_take (i := 5) (v := ?v26x5) rfl (by kernel_rfl) (by kernel_rfl) (by kernel_rfl) (fun _ _ _ h => h) (by rfl) ?hy26x5 XB.out ?rest26x5
  case hy26x5 => (intro W' hJ; obtain ⟨c0, c1, c2, c3, c4, c5⟩ := hJ; go_simp; first | done | with_reducible rfl)
  refine wpJ_take (i := 8) (v := ?v27x8) rfl (by kernel_rfl) (by kernel_rfl) (by kernel_rfl) (fun _ _ _ h => h) (by rfl) ?hy27x8 XB.out ?rest27x8
  case hy27x8 => (intro W' hJ; obtain ⟨c0, c1, c2, c3, c4, c5⟩ := hJ; go_simp; first | done | with_reducible rfl)
  refine wpJ_on 6 rfl fun K hK => ?_
  go_simp
  refine (stored_64 _).mono ?_
  rintro e w2 ⟨rfl, hb2⟩
  have Xw2 : Hid (B3 w2 g (.int .i64 64) (.int .i64 53) (.int .i64 (-1074))) := XB.out.below hb2
  have HBw2 : Hid (Below w.heap.size w w2) := bwOn HBW.out hb2
  clear hb2
  refine hK _ _ Xw2.out ?_
  clear hK
  refine wpJ_take (i := 7) (v := ?v28x7) rfl (by kernel_rfl) (by kernel_rfl) (by kernel_rfl) (fun _ _ _ h => h) (by rfl) ?hy28x7 Xw2.out ?rest28x7
  case hy28x7 => (intro W' hJ; obtain ⟨c0, c1, c2, c3, c4, c5⟩ := hJ; go_simp; first | done | with_reducible rfl)
  refine wpJ_take (i := 9) (v := ?v29x9) rfl (by kernel_rfl) (by kernel_rfl) (by kernel_rfl) (fun _ _ _ h => h) (by rfl) ?hy29x9 Xw2.out ?rest29x9
  case hy29x9 => (intro W' hJ; obtain ⟨c0, c1, c2, c3, c4, c5⟩ := hJ; go_simp; first | done | with_reducible rfl)
  refine wpJ_take (i := 10) (v := ?v30x10) rfl (by kernel_rfl) (by kernel_rfl) (by kernel_rfl) (fun _ _ _ h => h) (by rfl) ?hy30x10 Xw2.out ?rest30x10
  case hy30x10 => (intro W' hJ; obtain ⟨c0, c1, c2, c3, c4, c5⟩ := hJ; go_simp; first | done | with_reducible rfl)
  refine wpJ_done (by kernel_rfl) ?_ _
  clear XB HBW XW HB0
  go_wp2_with fail
  go_ret
  exact ⟨rfl, HBw2.out⟩
theorem parts_32 (s q m : Nat) (hq : q = s / 8388608 - 1) (hm : m = s - q * 8388608) (hs : s < 2147483648) (w : World) : Calls Tryz.prog 31 #[WV 32 24 (-149), U s] w fun e w' => e = .returned (.tuple #[U m, .int .i64 (-149 + (q : Int))]) ∧ Below w.heap.size w w' := by
  obtain ⟨r, hr⟩ : ∃ r : Int, r = -149 + (q : Int) := ⟨_, rfl⟩
  obtain ⟨y, hy⟩ : ∃ y, y = q * 8388608 := ⟨_, rfl⟩
  rw [← hr]
  have e0 : max ((s : Int) / 8388608 - 1) 0 = (q : Int) := by omega
  have e1 : IntKind.u64.wrap (q : Int) = (q : Int) := by rw [IntKind.wrap_u64]; omega
  have e2 : IntKind.u64.wrap ((q : Int) * 8388608) = (y : Int) := by rw [IntKind.wrap_u64]; omega
  have e3 : IntKind.u64.wrap ((s : Int) - (y : Int)) = (m : Int) := by rw [IntKind.wrap_u64]; omega
  have e4 : IntKind.i64.wrap (-149 + (q : Int)) = r := by rw [hr]; simp [IntKind.wrap, IntKind.signed, IntKind.bits]; omega
  have HS : Hid (s < 2147483648) := hs
  have hs31 : (s : Int) < 2147483648 := by omega
  clear hr hy hq hm hs
  go_enter Tryz.func31, Tryz.ntmps31
  go_wp2_with fail
  have X0 : B3 (w.alloc (.cells #[.int .i64 32, .int .i64 24, .int .i64 (-149)] 46)) w.heap.size (.int .i64 32) (.int .i64 24) (.int .i64 (-149)) := B3.new ..
  have hb0 : Below w.heap.size w (w.alloc (.cells #[.int .i64 32, .int .i64 24, .int .i64 (-149)] 46)) := bwAlloc w _
  generalize w.alloc (.cells #[.int .i64 32, .int .i64 24, .int .i64 (-149)] 46) = W at *
  obtain ⟨g, hg⟩ : ∃ g, g = w.heap.size := ⟨_, rfl⟩
  rw [← hg] at X0 ⊢
  clear hg
  have XB : Hid (B3 W.drew g (.int .i64 32) (.int .i64 24) (.int .i64 (-149))) := X0.drew
  have HBW : Hid (Below w.heap.size w W.drew) := bwDrew hb0
  have XW : Hid (B3 W g (.int .i64 32) (.int .i64 24) (.int .i64 (-149))) := X0
  have HB0 : Hid (Below w.heap.size w W) := hb0
  clear X0 hb0
  refine (stored_32 _).mono ?_
  rintro e w1 ⟨rfl, hb1⟩
  have Xw1 : Hid (B3 w1 g (.int .i64 32) (.int .i64 24) (.int .i64 (-149))) := XW.out.below hb1
  have HBw1 : Hid (Below w.heap.size w w1) := bwOn HB0.out hb1
  clear hb1
  have c6 := Xw1.out
  obtain ⟨c0, c1, c2, c3, c4, c5⟩ := c6
  go_wp2_with fail
  clear c0 c1 c2 c3 c4 c5 XB HBW XW HB0
  have XB : Hid (B3 w1.drew g (.int .i64 32) (.int .i64 24) (.int .i64 (-149))) := Xw1.out.drew
  have HBW : Hid (Below w.heap.size w w1.drew) := bwDrew HBw1.out
  refine wp_region_J (fun W' => B3 W' g (.int .i64 32) (.int .i64 24) (.int .i64 (-149))) (by kernel_rfl) ?_
  refine wpJ_take (i := 0) (v := ?v31x0) rfl (by kernel_rfl) (by kernel_rfl) (by kernel_rfl) (fun _ _ _ h => h) (by rfl) ?hy31x0 XB.out ?rest31x0
  case hy31x0 => (intro W' hJ; obtain ⟨c0, c1, c2, c3, c4, c5⟩ := hJ; go_simp; first | done | with_reducible rfl)
  refine wpJ_take (i := 1) (v := ?v32x1) rfl (by kernel_rfl) (by kernel_rfl) (by kernel_rfl) (fun _ _ _ h => h) (by rfl) ?hy32x1 XB.out ?rest32x1
  case hy32x1 => (intro W' hJ; obtain ⟨c0, c1, c2, c3, c4, c5⟩ := hJ; go_simp; first | done | with_reducible rfl)
  refine wpJ_take (i := 2) (v := ?v33x2) rfl (by kernel_rfl) (by kernel_rfl) (by kernel_rfl) (fun _ _ _ h => h) (by rfl) ?hy33x2 XB.out ?rest33x2
  case hy33x2 => (intro W' hJ; obtain ⟨c0, c1, c2, c3, c4, c5⟩ := hJ; go_simp; first | done | with_reducible rfl)
  refine wpJ_take (i := 3) (v := ?v34x3) rfl (by kernel_rfl) (by kernel_rfl) (by kernel_rfl) (fun _ _ _ h => h) (by rfl) ?hy34x3 XB.out ?rest34x3
  case hy34x3 => (intro W' hJ; obtain ⟨c0, c1, c2, c3, c4, c5⟩ := hJ; go_simp; first | done | with_reducible rfl)
  refine wpJ_take (i := 7) (v := ?v35x7) rfl (by kernel_rfl) (by kernel_rfl) (by kernel_rfl) (fun _ _ _ h => h) (by rfl) ?hy35x7 XB.out ?rest35x7
  case hy35x7 => (intro W' hJ; obtain ⟨c0, c1, c2, c3, c4, c5⟩ := hJ; go_simp; first | done | with_reducible rfl)
  refine wpJ_take (i := 8) (v := ?v36x8) rfl (by kernel_rfl) (by kernel_rfl) (by kernel_rfl) (fun _ _ _ h => h) (by rfl) ?hy36x8 XB.out ?rest36x8
  case hy36x8 => (intro W' hJ; obtain ⟨c0, c1, c2, c3, c4, c5⟩ := hJ; go_simp; first | done | with_reducible rfl)
  refine wpJ_take (i := 9) (v := ?v37x9) rfl (by kernel_rfl) (by kernel_rfl) (by kernel_rfl) (fun _ _ _ h => h) (by rfl) ?hy37x9 XB.out ?rest37x9
  case hy37x9 => (intro W' hJ; obtain ⟨c0, c1, c2, c3, c4, c5⟩ := hJ; go_simp; first | done | with_reducible rfl)
  refine wpJ_take (i := 10) (v := ?v38x10) rfl (by kernel_rfl) (by kernel_rfl) (by kernel_rfl) (fun _ _ _ h => h) (by rfl) ?hy38x10 XB.out ?rest38x10
  case hy38x10 => (intro W' hJ; obtain ⟨c0, c1, c2, c3, c4, c5⟩ := hJ; go_simp; first | done | with_reducible rfl)
  refine wpJ_on 4 rfl fun K hK => ?_
  go_simp
  refine (stored_32 _).mono ?_
  rintro e w2 ⟨rfl, hb2⟩
  have Xw2 : Hid (B3 w2 g (.int .i64 32) (.int .i64 24) (.int .i64 (-149))) := XB.out.below hb2
  have HBw2 : Hid (Below w.heap.size w w2) := bwOn HBW.out hb2
  clear hb2
  refine hK _ _ Xw2.out ?_
  clear hK
  refine wpJ_take (i := 5) (v := ?v39x5) rfl (by kernel_rfl) (by kernel_rfl) (by kernel_rfl) (fun _ _ _ h => h) (by rfl) ?hy39x5 Xw2.out ?rest39x5
  case hy39x5 => (intro W' hJ; obtain ⟨c0, c1, c2, c3, c4, c5⟩ := hJ; go_simp; first | done | with_reducible rfl)
  refine wpJ_take (i := 6) (v := ?v40x6) rfl (by kernel_rfl) (by kernel_rfl) (by kernel_rfl) (fun _ _ _ h => h) (by rfl) ?hy40x6 Xw2.out ?rest40x6
  case hy40x6 => (intro W' hJ; obtain ⟨c0, c1, c2, c3, c4, c5⟩ := hJ; go_simp; first | done | with_reducible rfl)
  refine wpJ_take (i := 11) (v := ?v41x11) rfl (by kernel_rfl) (by kernel_rfl) (by kernel_rfl) (fun _ _ _ h => h) (by rfl) ?hy41x11 Xw2.out ?rest41x11
  case hy41x11 => (intro W' hJ; obtain ⟨c0, c1, c2, c3, c4, c5⟩ := hJ; go_simp; first | done | with_reducible rfl)
  refine wpJ_take (i := 12) (v := ?v42x12) rfl (by kernel_rfl) (by kernel_rfl) (by kernel_rfl) (fun _ _ _ h => h) (by rfl) ?hy42x12 Xw2.out ?rest42x12
  case hy42x12 => (intro W' hJ; obtain ⟨c0, c1, c2, c3, c4, c5⟩ := hJ; go_simp; first | done | with_reducible rfl)
  refine wpJ_done (by kernel_rfl) ?_ _
  go_wp2_with fail
  go_ret2
  exact ⟨rfl, HBw2.out⟩
theorem parts_64 (s q m : Nat) (hq : q = s / 4503599627370496 - 1) (hm : m = s - q * 4503599627370496) (hs : s < 9223372036854775808) (w : World) : Calls Tryz.prog 31 #[WV 64 53 (-1074), U s] w fun e w' => e = .returned (.tuple #[U m, .int .i64 (-1074 + (q : Int))]) ∧ Below w.heap.size w w' := by
  obtain ⟨r, hr⟩ : ∃ r : Int, r = -1074 + (q : Int) := ⟨_, rfl⟩
  obtain ⟨y, hy⟩ : ∃ y, y = q * 4503599627370496 := ⟨_, rfl⟩
  rw [← hr]
  have e0 : max ((s : Int) / 4503599627370496 - 1) 0 = (q : Int) := by omega
  have e1 : IntKind.u64.wrap (q : Int) = (q : Int) := by rw [IntKind.wrap_u64]; omega
  have e2 : IntKind.u64.wrap ((q : Int) * 4503599627370496) = (y : Int) := by rw [IntKind.wrap_u64]; omega
  have e3 : IntKind.u64.wrap ((s : Int) - (y : Int)) = (m : Int) := by rw [IntKind.wrap_u64]; omega
  have e4 : IntKind.i64.wrap (-1074 + (q : Int)) = r := by rw [hr]; simp [IntKind.wrap, IntKind.signed, IntKind.bits]; omega
  have HS : Hid (s < 9223372036854775808) := hs
  have hs31 : (s : Int) < 9223372036854775808 := by omega
  clear hr hy hq hm hs
  go_enter Tryz.func31, Tryz.ntmps31
  go_wp2_with fail
  have X0 : B3 (w.alloc (.cells #[.int .i64 64, .int .i64 53, .int .i64 (-1074)] 46)) w.heap.size (.int .i64 64) (.int .i64 53) (.int .i64 (-1074)) := B3.new ..
  have hb0 : Below w.heap.size w (w.alloc (.cells #[.int .i64 64, .int .i64 53, .int .i64 (-1074)] 46)) := bwAlloc w _
  generalize w.alloc (.cells #[.int .i64 64, .int .i64 53, .int .i64 (-1074)] 46) = W at *
  obtain ⟨g, hg⟩ : ∃ g, g = w.heap.size := ⟨_, rfl⟩
  rw [← hg] at X0 ⊢
  clear hg
  have XB : Hid (B3 W.drew g (.int .i64 64) (.int .i64 53) (.int .i64 (-1074))) := X0.drew
  have HBW : Hid (Below w.heap.size w W.drew) := bwDrew hb0
  have XW : Hid (B3 W g (.int .i64 64) (.int .i64 53) (.int .i64 (-1074))) := X0
  have HB0 : Hid (Below w.heap.size w W) := hb0
  clear X0 hb0
  refine (stored_64 _).mono ?_
  rintro e w1 ⟨rfl, hb1⟩
  have Xw1 : Hid (B3 w1 g (.int .i64 64) (.int .i64 53) (.int .i64 (-1074))) := XW.out.below hb1
  have HBw1 : Hid (Below w.heap.size w w1) := bwOn HB0.out hb1
  clear hb1
  have c6 := Xw1.out
  obtain ⟨c0, c1, c2, c3, c4, c5⟩ := c6
  go_wp2_with fail
  clear c0 c1 c2 c3 c4 c5 XB HBW XW HB0
  have XB : Hid (B3 w1.drew g (.int .i64 64) (.int .i64 53) (.int .i64 (-1074))) := Xw1.out.drew
  have HBW : Hid (Below w.heap.size w w1.drew) := bwDrew HBw1.out
  refine wp_region_J (fun W' => B3 W' g (.int .i64 64) (.int .i64 53) (.int .i64 (-1074))) (by kernel_rfl) ?_
  refine wpJ_take (i := 0) (v := ?v31x0) rfl (by kernel_rfl) (by kernel_rfl) (by kernel_rfl) (fun _ _ _ h => h) (by rfl) ?hy31x0 XB.out ?rest31x0
  case hy31x0 => (intro W' hJ; obtain ⟨c0, c1, c2, c3, c4, c5⟩ := hJ; go_simp; first | done | with_reducible rfl)
  refine wpJ_take (i := 1) (v := ?v32x1) rfl (by kernel_rfl) (by kernel_rfl) (by kernel_rfl) (fun _ _ _ h => h) (by rfl) ?hy32x1 XB.out ?rest32x1
  case hy32x1 => (intro W' hJ; obtain ⟨c0, c1, c2, c3, c4, c5⟩ := hJ; go_simp; first | done | with_reducible rfl)
  refine wpJ_take (i := 2) (v := ?v33x2) rfl (by kernel_rfl) (by kernel_rfl) (by kernel_rfl) (fun _ _ _ h => h) (by rfl) ?hy33x2 XB.out ?rest33x2
  case hy33x2 => (intro W' hJ; obtain ⟨c0, c1, c2, c3, c4, c5⟩ := hJ; go_simp; first | done | with_reducible rfl)
  refine wpJ_take (i := 3) (v := ?v34x3) rfl (by kernel_rfl) (by kernel_rfl) (by kernel_rfl) (fun _ _ _ h => h) (by rfl) ?hy34x3 XB.out ?rest34x3
  case hy34x3 => (intro W' hJ; obtain ⟨c0, c1, c2, c3, c4, c5⟩ := hJ; go_simp; first | done | with_reducible rfl)
  refine wpJ_take (i := 7) (v := ?v35x7) rfl (by kernel_rfl) (by kernel_rfl) (by kernel_rfl) (fun _ _ _ h => h) (by rfl) ?hy35x7 XB.out ?rest35x7
  case hy35x7 => (intro W' hJ; obtain ⟨c0, c1, c2, c3, c4, c5⟩ := hJ; go_simp; first | done | with_reducible rfl)
  refine wpJ_take (i := 8) (v := ?v36x8) rfl (by kernel_rfl) (by kernel_rfl) (by kernel_rfl) (fun _ _ _ h => h) (by rfl) ?hy36x8 XB.out ?rest36x8
  case hy36x8 => (intro W' hJ; obtain ⟨c0, c1, c2, c3, c4, c5⟩ := hJ; go_simp; first | done | with_reducible rfl)
  refine wpJ_take (i := 9) (v := ?v37x9) rfl (by kernel_rfl) (by kernel_rfl) (by kernel_rfl) (fun _ _ _ h => h) (by rfl) ?hy37x9 XB.out ?rest37x9
  case hy37x9 => (intro W' hJ; obtain ⟨c0, c1, c2, c3, c4, c5⟩ := hJ; go_simp; first | done | with_reducible rfl)
  refine wpJ_take (i := 10) (v := ?v38x10) rfl (by kernel_rfl) (by kernel_rfl) (by kernel_rfl) (fun _ _ _ h => h) (by rfl) ?hy38x10 XB.out ?rest38x10
  case hy38x10 => (intro W' hJ; obtain ⟨c0, c1, c2, c3, c4, c5⟩ := hJ; go_simp; first | done | with_reducible rfl)
  refine wpJ_on 4 rfl fun K hK => ?_
  go_simp
  refine (stored_64 _).mono ?_
  rintro e w2 ⟨rfl, hb2⟩
  have Xw2 : Hid (B3 w2 g (.int .i64 64) (.int .i64 53) (.int .i64 (-1074))) := XB.out.below hb2
  have HBw2 : Hid (Below w.heap.size w w2) := bwOn HBW.out hb2
  clear hb2
  refine hK _ _ Xw2.out ?_
  clear hK
  refine wpJ_take (i := 5) (v := ?v39x5) rfl (by kernel_rfl) (by kernel_rfl) (by kernel_rfl) (fun _ _ _ h => h) (by rfl) ?hy39x5 Xw2.out ?rest39x5
  case hy39x5 => (intro W' hJ; obtain ⟨c0, c1, c2, c3, c4, c5⟩ := hJ; go_simp; first | done | with_reducible rfl)
  refine wpJ_take (i := 6) (v := ?v40x6) rfl (by kernel_rfl) (by kernel_rfl) (by kernel_rfl) (fun _ _ _ h => h) (by rfl) ?hy40x6 Xw2.out ?rest40x6
  case hy40x6 => (intro W' hJ; obtain ⟨c0, c1, c2, c3, c4, c5⟩ := hJ; go_simp; first | done | with_reducible rfl)
  refine wpJ_take (i := 11) (v := ?v41x11) rfl (by kernel_rfl) (by kernel_rfl) (by kernel_rfl) (fun _ _ _ h => h) (by rfl) ?hy41x11 Xw2.out ?rest41x11
  case hy41x11 => (intro W' hJ; obtain ⟨c0, c1, c2, c3, c4, c5⟩ := hJ; go_simp; first | done | with_reducible rfl)
  refine wpJ_take (i := 12) (v := ?v42x12) rfl (by kernel_rfl) (by kernel_rfl) (by kernel_rfl) (fun _ _ _ h => h) (by rfl) ?hy42x12 Xw2.out ?rest42x12
  case hy42x12 => (intro W' hJ; obtain ⟨c0, c1, c2, c3, c4, c5⟩ := hJ; go_simp; first | done | with_reducible rfl)
  refine wpJ_done (by kernel_rfl) ?_ _
  go_wp2_with fail
  go_ret2
  exact ⟨rfl, HBw2.out⟩
theorem patternOf_32 (b : Nat) (hb : b < 2 * 2147483648) (w : World) :
    Calls Tryz.prog 28 #[.int .i64 32, U b] w fun en w' => en = .returned (.tuple #[PV 32 24 (-149) (decide (2147483648 ≤ b)) (b % 2147483648), .int .i64 0]) ∧ Below w.heap.size w w' := by
  have hl : bl_bitsN b ≤ 32 := bl_le (by omega)
  have e1 : bits BinOp.and IntKind.u64 (b : Int) 2147483648 = _ := sign_and b 2147483648 31 (by decide) (by decide) hb
  have e2 : bits BinOp.andNot IntKind.u64 (b : Int) 2147483648 = _ := sign_andNot b 2147483648 31 (by decide) (by decide) hb
  obtain ⟨z, hz⟩ : ∃ z, z = b % 2147483648 := ⟨_, rfl⟩
  obtain ⟨s, hs⟩ : ∃ s, s = decide (2147483648 ≤ b) := ⟨_, rfl⟩
  obtain ⟨y, hy⟩ : ∃ y, y = (if 2147483648 ≤ b then 2147483648 else 0) := ⟨_, rfl⟩
  rw [← hz] at e2 ⊢
  rw [← hy] at e1
  rw [← hs]
  have hys2 : ((y : Int) == 0) = !s := by
    rw [hy, hs]
    by_cases h : 2147483648 ≤ b <;> simp [h]
  have hys : ((y : Int) != 0) = s := by simp [bne, hys2]
  obtain ⟨ln, hll⟩ : ∃ l, l = bl_bitsN b := ⟨_, rfl⟩
  rw [← hll] at hl
  have hltb : decide ((32 : Int) < (ln : Int)) = false := decide_eq_false (by omega)
  have HLL : Hid (bl_bitsN b = ln) := hll.symm
  have HBB : Hid (b < B64) := by show b < B64; rw [B64_eq]; omega
  clear hz hs hy hl hb hll
  go_enter Tryz.func28, Tryz.ntmps28
  go_wp2_with fail
  obtain ⟨W0, hW0⟩ : ∃ W0, W0 = (w.alloc (.cells #[.int .i64 0, .int .i64 0, .int .i64 0, .bool false, .int .u64 0] 68)) := ⟨_, rfl⟩
  have Xr : Hid (B5q W0 (w.heap.size) (.int .i64 0) (.int .i64 0) (.int .i64 0) (.bool false) (.int .u64 0)) := by rw [hW0]; exact ⟨by go_simp, by go_simp, by go_simp, by go_simp, by go_simp, by go_simp, by go_simp, by go_simp, by go_simp, by go_simp⟩
  have hb0 : Below w.heap.size w W0 := by rw [hW0]; exact below1 w _
  rw [← hW0]
  clear hW0
  have hbw : Below w.heap.size w w := Below.refl _ _
  obtain ⟨gr, hgr⟩ : ∃ g, g = w.heap.size := ⟨_, rfl⟩
  have HGr : Hid (w.heap.size ≤ gr) := by rw [hgr]; show _ ≤ _; omega
  rw [← hgr] at Xr
  try rw [← hgr]
  clear hgr
  replace hbw := Below.on hbw hb0
  clear hb0
  refine (of_32 _).mono ?_
  rintro e v1 ⟨rfl, hb1⟩
  replace Xr : Hid _ := Xr.out.below hb1
  replace hbw := Below.on hbw hb1
  clear hb1
  go_wp2_with fail
  have HDr : Hid (gr ≠ v1.heap.size) := Nat.ne_of_lt Xr.out.lt
  have Xg0 : Hid (B3q (v1.alloc (.cells #[.int .i64 32, .int .i64 24, .int .i64 (-149)] 46)) v1.heap.size (.int .i64 32) (.int .i64 24) (.int .i64 (-149))) := B3q.new v1 _ _ _ _
  have hbn : Below v1.heap.size v1 (v1.alloc (.cells #[.int .i64 32, .int .i64 24, .int .i64 (-149)] 46)) := below1 v1 _
  generalize v1.alloc (.cells #[.int .i64 32, .int .i64 24, .int .i64 (-149)] 46) = Wg at *
  have HGg : Hid (w.heap.size ≤ v1.heap.size) := hbw.size
  replace Xr : Hid _ := Xr.out.below hbn
  replace hbw := Below.on hbw hbn
  clear hbn
  generalize v1.heap.size = gg at *
  have Xg := Xg0
  clear Xg0
  obtain ⟨W3, hW3⟩ : ∃ W1, W1 = Wg.drew := ⟨_, rfl⟩
  have hbd : Below Wg.heap.size Wg W3 := by rw [hW3]; exact bDrew1 (Below.refl _ _)
  replace Xr : Hid _ := Xr.out.below hbd
  replace Xg : Hid _ := Xg.out.below hbd
  replace hbw := Below.on hbw hbd
  clear hbd
  have HJ : Hid ((fun W' : World => W'.cell? ⟨gg, 0, none⟩ = some (.int .i64 32)) W3) := Xg.out.c0
  refine wp_region_J (fun W' => W'.cell? ⟨gg, 0, none⟩ = some (.int .i64 32)) (by kernel_rfl) ?_
  rw [← hW3]
  clear hW3
  refine wpJ_tk 0 (v := ?v1x0) rfl ?hy1x0 HJ.out ?_
  case hy1x0 => (intro W' hJ; have j0 := hJ; go_simp; first | done | with_reducible rfl)
  refine wpJ_tk 2 (v := ?v2x2) rfl ?hy2x2 HJ.out ?_
  case hy2x2 => (intro W' hJ; have j0 := hJ; go_simp; first | done | with_reducible rfl)
  refine wpJ_tk 3 (v := ?v3x3) rfl ?hy3x3 HJ.out ?_
  case hy3x3 => (intro W' hJ; have j0 := hJ; go_simp; first | done | with_reducible rfl)
  refine wpJ_on 1 rfl fun KJ hK => ?_
  go_simp
  refine (bl_len_any b _ HBB.out).mono ?_
  rintro e2 v2 ⟨rfl, hw⟩
  obtain rfl := hw.symm
  clear hw
  rw [HLL.out]
  clear HJ
  have HJ : Hid ((fun W' : World => W'.cell? ⟨gg, 0, none⟩ = some (.int .i64 32)) W3) := Xg.out.c0
  refine hK _ _ HJ.out ?_
  clear hK
  refine wpJ_tk 4 (v := ?v4x4) rfl ?hy4x4 HJ.out ?_
  case hy4x4 => (intro W' hJ; have j0 := hJ; go_simp; first | done | with_reducible rfl)
  refine wpJ_done (by kernel_rfl) ?_ _
  clear HJ
  obtain ⟨cg0, cg1, cg2, fg0, fg1, fg2⟩ := Xg.out
  have hneg : gg < W3.heap.size := World.block_lt_of_cell? W3 _ cg0
  go_wp2_with fail
  clear cg0 cg1 cg2 fg0 fg1 fg2 hneg
  obtain ⟨W6, hW6⟩ : ∃ W1, W1 = W3.drew := ⟨_, rfl⟩
  have hbd : Below W3.heap.size W3 W6 := by rw [hW6]; exact bDrew1 (Below.refl _ _)
  replace Xr : Hid _ := Xr.out.below hbd
  replace Xg : Hid _ := Xg.out.below hbd
  replace hbw := Below.on hbw hbd
  clear hbd
  have HJ : Hid ((fun W' : World => W'.cell? ⟨gg, 0, none⟩ = some (.int .i64 32) ∧ W'.cell? ⟨gg, 1, none⟩ = some (.int .i64 24) ∧ W'.cell? ⟨gg, 2, none⟩ = some (.int .i64 (-149))) W6) := ⟨Xg.out.c0, Xg.out.c1, Xg.out.c2⟩
  refine wp_region_J (fun W' => W'.cell? ⟨gg, 0, none⟩ = some (.int .i64 32) ∧ W'.cell? ⟨gg, 1, none⟩ = some (.int .i64 24) ∧ W'.cell? ⟨gg, 2, none⟩ = some (.int .i64 (-149))) (by kernel_rfl) ?_
  rw [← hW6]
  clear hW6
  refine wpJ_tq 0 rfl HJ.out ?_
  refine wpJ_tq 1 rfl HJ.out ?_
  refine wpJ_tq 2 rfl HJ.out ?_
  refine wpJ_tq 6 rfl HJ.out ?_
  refine wpJ_tq 7 rfl HJ.out ?_
  refine wpJ_on 3 rfl fun KJ hK => ?_
  go_simp
  refine (sign_32 _).mono ?_
  rintro e v4 ⟨rfl, hb4⟩
  replace Xr : Hid _ := Xr.out.below hb4
  replace Xg : Hid _ := Xg.out.below hb4
  replace hbw := Below.on hbw hb4
  clear hb4
  clear HJ
  have HJ : Hid ((fun W' : World => W'.cell? ⟨gg, 0, none⟩ = some (.int .i64 32) ∧ W'.cell? ⟨gg, 1, none⟩ = some (.int .i64 24) ∧ W'.cell? ⟨gg, 2, none⟩ = some (.int .i64 (-149))) v4) := ⟨Xg.out.c0, Xg.out.c1, Xg.out.c2⟩
  refine hK _ _ HJ.out ?_
  clear hK
  refine wpJ_tq 4 rfl HJ.out ?_
  refine wpJ_tq 5 rfl HJ.out ?_
  refine wpJ_on 8 rfl fun KJ hK => ?_
  go_simp
  refine (sign_32 _).mono ?_
  rintro e v5 ⟨rfl, hb5⟩
  replace Xr : Hid _ := Xr.out.below hb5
  replace Xg : Hid _ := Xg.out.below hb5
  replace hbw := Below.on hbw hb5
  clear hb5
  clear HJ
  have HJ : Hid ((fun W' : World => W'.cell? ⟨gg, 0, none⟩ = some (.int .i64 32) ∧ W'.cell? ⟨gg, 1, none⟩ = some (.int .i64 24) ∧ W'.cell? ⟨gg, 2, none⟩ = some (.int .i64 (-149))) v5) := ⟨Xg.out.c0, Xg.out.c1, Xg.out.c2⟩
  refine hK _ _ HJ.out ?_
  clear hK
  refine wpJ_tq 9 rfl HJ.out ?_
  refine wpJ_tq 10 rfl HJ.out ?_
  obtain ⟨cr0, cr1, cr2, cr3, cr4, fr0, fr1, fr2, fr3, fr4⟩ := Xr.out
  have hner : gr < v5.heap.size := World.block_lt_of_cell? v5 _ cr0
  obtain ⟨cg0, cg1, cg2, fg0, fg1, fg2⟩ := Xg.out
  have hneg : gg < v5.heap.size := World.block_lt_of_cell? v5 _ cg0
  have qa := HDr.out
  have qb : gg ≠ gr := fun h => qa h.symm
  refine wpJ_on 11 rfl fun KJ hK => ?_
  go_simp
  have HJ2 : Hid ((fun W' : World => W'.cell? ⟨gg, 0, none⟩ = some (.int .i64 32) ∧ W'.cell? ⟨gg, 1, none⟩ = some (.int .i64 24) ∧ W'.cell? ⟨gg, 2, none⟩ = some (.int .i64 (-149))) (((((v5.setCell ⟨gr, 0, none⟩ (.int .i64 32)).setCell ⟨gr, 1, none⟩ (.int .i64 24)).setCell ⟨gr, 2, none⟩ (.int .i64 (-149))).setCell ⟨gr, 3, none⟩ (.bool s)).setCell ⟨gr, 4, none⟩ (U z))) := ⟨by go_simp, by go_simp, by go_simp⟩
  refine hK _ _ HJ2.out ?_
  clear hK HJ
  have HJ := HJ2
  clear HJ2
  refine wpJ_tq 12 rfl HJ.out ?_
  refine wpJ_done (by kernel_rfl) ?_ _
  clear HJ
  go_wp2_with fail
  refine bodyPost_ret (v := .tuple #[PV 32 24 (-149) s z, .int .i64 0]) (by rw [results_ct rfl]; go_simp) rfl ⟨rfl, ?_⟩
  exact bSet (bSet (bSet (bSet (bSet hbw _ _ _ HGr.out) _ _ _ HGr.out) _ _ _ HGr.out) _ _ _ HGr.out) _ _ _ HGr.out
theorem patternOf_64 (b : Nat) (hb : b < 2 * 9223372036854775808) (w : World) :
    Calls Tryz.prog 28 #[.int .i64 64, U b] w fun en w' => en = .returned (.tuple #[PV 64 53 (-1074) (decide (9223372036854775808 ≤ b)) (b % 9223372036854775808), .int .i64 0]) ∧ Below w.heap.size w w' := by
  have hl : bl_bitsN b ≤ 64 := bl_le (by omega)
  have e1 : bits BinOp.and IntKind.u64 (b : Int) 9223372036854775808 = _ := sign_and b 9223372036854775808 63 (by decide) (by decide) hb
  have e2 : bits BinOp.andNot IntKind.u64 (b : Int) 9223372036854775808 = _ := sign_andNot b 9223372036854775808 63 (by decide) (by decide) hb
  obtain ⟨z, hz⟩ : ∃ z, z = b % 9223372036854775808 := ⟨_, rfl⟩
  obtain ⟨s, hs⟩ : ∃ s, s = decide (9223372036854775808 ≤ b) := ⟨_, rfl⟩
  obtain ⟨y, hy⟩ : ∃ y, y = (if 9223372036854775808 ≤ b then 9223372036854775808 else 0) := ⟨_, rfl⟩
  rw [← hz] at e2 ⊢
  rw [← hy] at e1
  rw [← hs]
  have hys2 : ((y : Int) == 0) = !s := by
    rw [hy, hs]
    by_cases h : 9223372036854775808 ≤ b <;> simp [h]
  have hys : ((y : Int) != 0) = s := by simp [bne, hys2]
  obtain ⟨ln, hll⟩ : ∃ l, l = bl_bitsN b := ⟨_, rfl⟩
  rw [← hll] at hl
  have hltb : decide ((64 : Int) < (ln : Int)) = false := decide_eq_false (by omega)
  have HLL : Hid (bl_bitsN b = ln) := hll.symm
  have HBB : Hid (b < B64) := by show b < B64; rw [B64_eq]; omega
  clear hz hs hy hl hb hll
  go_enter Tryz.func28, Tryz.ntmps28
  go_wp2_with fail
  obtain ⟨W0, hW0⟩ : ∃ W0, W0 = (w.alloc (.cells #[.int .i64 0, .int .i64 0, .int .i64 0, .bool false, .int .u64 0] 68)) := ⟨_, rfl⟩
  have Xr : Hid (B5q W0 (w.heap.size) (.int .i64 0) (.int .i64 0) (.int .i64 0) (.bool false) (.int .u64 0)) := by rw [hW0]; exact ⟨by go_simp, by go_simp, by go_simp, by go_simp, by go_simp, by go_simp, by go_simp, by go_simp, by go_simp, by go_simp⟩
  have hb0 : Below w.heap.size w W0 := by rw [hW0]; exact below1 w _
  rw [← hW0]
  clear hW0
  have hbw : Below w.heap.size w w := Below.refl _ _
  obtain ⟨gr, hgr⟩ : ∃ g, g = w.heap.size := ⟨_, rfl⟩
  have HGr : Hid (w.heap.size ≤ gr) := by rw [hgr]; show _ ≤ _; omega
  rw [← hgr] at Xr
  try rw [← hgr]
  clear hgr
  replace hbw := Below.on hbw hb0
  clear hb0
  refine (of_64 _).mono ?_
  rintro e v1 ⟨rfl, hb1⟩
  replace Xr : Hid _ := Xr.out.below hb1
  replace hbw := Below.on hbw hb1
  clear hb1
  go_wp2_with fail
  have HDr : Hid (gr ≠ v1.heap.size) := Nat.ne_of_lt Xr.out.lt
  have Xg0 : Hid (B3q (v1.alloc (.cells #[.int .i64 64, .int .i64 53, .int .i64 (-1074)] 46)) v1.heap.size (.int .i64 64) (.int .i64 53) (.int .i64 (-1074))) := B3q.new v1 _ _ _ _
  have hbn : Below v1.heap.size v1 (v1.alloc (.cells #[.int .i64 64, .int .i64 53, .int .i64 (-1074)] 46)) := below1 v1 _
  generalize v1.alloc (.cells #[.int .i64 64, .int .i64 53, .int .i64 (-1074)] 46) = Wg at *
  have HGg : Hid (w.heap.size ≤ v1.heap.size) := hbw.size
  replace Xr : Hid _ := Xr.out.below hbn
  replace hbw := Below.on hbw hbn
  clear hbn
  generalize v1.heap.size = gg at *
  have Xg := Xg0
  clear Xg0
  obtain ⟨W3, hW3⟩ : ∃ W1, W1 = Wg.drew := ⟨_, rfl⟩
  have hbd : Below Wg.heap.size Wg W3 := by rw [hW3]; exact bDrew1 (Below.refl _ _)
  replace Xr : Hid _ := Xr.out.below hbd
  replace Xg : Hid _ := Xg.out.below hbd
  replace hbw := Below.on hbw hbd
  clear hbd
  have HJ : Hid ((fun W' : World => W'.cell? ⟨gg, 0, none⟩ = some (.int .i64 64)) W3) := Xg.out.c0
  refine wp_region_J (fun W' => W'.cell? ⟨gg, 0, none⟩ = some (.int .i64 64)) (by kernel_rfl) ?_
  rw [← hW3]
  clear hW3
  refine wpJ_tk 0 (v := ?v15x0) rfl ?hy15x0 HJ.out ?_
  case hy15x0 => (intro W' hJ; have j0 := hJ; go_simp; first | done | with_reducible rfl)
  refine wpJ_tk 2 (v := ?v16x2) rfl ?hy16x2 HJ.out ?_
  case hy16x2 => (intro W' hJ; have j0 := hJ; go_simp; first | done | with_reducible rfl)
  refine wpJ_tk 3 (v := ?v17x3) rfl ?hy17x3 HJ.out ?_
  case hy17x3 => (intro W' hJ; have j0 := hJ; go_simp; first | done | with_reducible rfl)
  refine wpJ_on 1 rfl fun KJ hK => ?_
  go_simp
  refine (bl_len_any b _ HBB.out).mono ?_
  rintro e2 v2 ⟨rfl, hw⟩
  obtain rfl := hw.symm
  clear hw
  rw [HLL.out]
  clear HJ
  have HJ : Hid ((fun W' : World => W'.cell? ⟨gg, 0, none⟩ = some (.int .i64 64)) W3) := Xg.out.c0
  refine hK _ _ HJ.out ?_
  clear hK
  refine wpJ_tk 4 (v := ?v18x4) rfl ?hy18x4 HJ.out ?_
  case hy18x4 => (intro W' hJ; have j0 := hJ; go_simp; first | done | with_reducible rfl)
  refine wpJ_done (by kernel_rfl) ?_ _
  clear HJ
  obtain ⟨cg0, cg1, cg2, fg0, fg1, fg2⟩ := Xg.out
  have hneg : gg < W3.heap.size := World.block_lt_of_cell? W3 _ cg0
  go_wp2_with fail
  clear cg0 cg1 cg2 fg0 fg1 fg2 hneg
  obtain ⟨W6, hW6⟩ : ∃ W1, W1 = W3.drew := ⟨_, rfl⟩
  have hbd : Below W3.heap.size W3 W6 := by rw [hW6]; exact bDrew1 (Below.refl _ _)
  replace Xr : Hid _ := Xr.out.below hbd
  replace Xg : Hid _ := Xg.out.below hbd
  replace hbw := Below.on hbw hbd
  clear hbd
  have HJ : Hid ((fun W' : World => W'.cell? ⟨gg, 0, none⟩ = some (.int .i64 64) ∧ W'.cell? ⟨gg, 1, none⟩ = some (.int .i64 53) ∧ W'.cell? ⟨gg, 2, none⟩ = some (.int .i64 (-1074))) W6) := ⟨Xg.out.c0, Xg.out.c1, Xg.out.c2⟩
  refine wp_region_J (fun W' => W'.cell? ⟨gg, 0, none⟩ = some (.int .i64 64) ∧ W'.cell? ⟨gg, 1, none⟩ = some (.int .i64 53) ∧ W'.cell? ⟨gg, 2, none⟩ = some (.int .i64 (-1074))) (by kernel_rfl) ?_
  rw [← hW6]
  clear hW6
  refine wpJ_tq 0 rfl HJ.out ?_
  refine wpJ_tq 1 rfl HJ.out ?_
  refine wpJ_tq 2 rfl HJ.out ?_
  refine wpJ_tq 6 rfl HJ.out ?_
  refine wpJ_tq 7 rfl HJ.out ?_
  refine wpJ_on 3 rfl fun KJ hK => ?_
  go_simp
  refine (sign_64 _).mono ?_
  rintro e v4 ⟨rfl, hb4⟩
  replace Xr : Hid _ := Xr.out.below hb4
  replace Xg : Hid _ := Xg.out.below hb4
  replace hbw := Below.on hbw hb4
  clear hb4
  clear HJ
  have HJ : Hid ((fun W' : World => W'.cell? ⟨gg, 0, none⟩ = some (.int .i64 64) ∧ W'.cell? ⟨gg, 1, none⟩ = some (.int .i64 53) ∧ W'.cell? ⟨gg, 2, none⟩ = some (.int .i64 (-1074))) v4) := ⟨Xg.out.c0, Xg.out.c1, Xg.out.c2⟩
  refine hK _ _ HJ.out ?_
  clear hK
  refine wpJ_tq 4 rfl HJ.out ?_
  refine wpJ_tq 5 rfl HJ.out ?_
  refine wpJ_on 8 rfl fun KJ hK => ?_
  go_simp
  refine (sign_64 _).mono ?_
  rintro e v5 ⟨rfl, hb5⟩
  replace Xr : Hid _ := Xr.out.below hb5
  replace Xg : Hid _ := Xg.out.below hb5
  replace hbw := Below.on hbw hb5
  clear hb5
  clear HJ
  have HJ : Hid ((fun W' : World => W'.cell? ⟨gg, 0, none⟩ = some (.int .i64 64) ∧ W'.cell? ⟨gg, 1, none⟩ = some (.int .i64 53) ∧ W'.cell? ⟨gg, 2, none⟩ = some (.int .i64 (-1074))) v5) := ⟨Xg.out.c0, Xg.out.c1, Xg.out.c2⟩
  refine hK _ _ HJ.out ?_
  clear hK
  refine wpJ_tq 9 rfl HJ.out ?_
  refine wpJ_tq 10 rfl HJ.out ?_
  obtain ⟨cr0, cr1, cr2, cr3, cr4, fr0, fr1, fr2, fr3, fr4⟩ := Xr.out
  have hner : gr < v5.heap.size := World.block_lt_of_cell? v5 _ cr0
  obtain ⟨cg0, cg1, cg2, fg0, fg1, fg2⟩ := Xg.out
  have hneg : gg < v5.heap.size := World.block_lt_of_cell? v5 _ cg0
  have qa := HDr.out
  have qb : gg ≠ gr := fun h => qa h.symm
  refine wpJ_on 11 rfl fun KJ hK => ?_
  go_simp
  have HJ2 : Hid ((fun W' : World => W'.cell? ⟨gg, 0, none⟩ = some (.int .i64 64) ∧ W'.cell? ⟨gg, 1, none⟩ = some (.int .i64 53) ∧ W'.cell? ⟨gg, 2, none⟩ = some (.int .i64 (-1074))) (((((v5.setCell ⟨gr, 0, none⟩ (.int .i64 64)).setCell ⟨gr, 1, none⟩ (.int .i64 53)).setCell ⟨gr, 2, none⟩ (.int .i64 (-1074))).setCell ⟨gr, 3, none⟩ (.bool s)).setCell ⟨gr, 4, none⟩ (U z))) := ⟨by go_simp, by go_simp, by go_simp⟩
  refine hK _ _ HJ2.out ?_
  clear hK HJ
  have HJ := HJ2
  clear HJ2
  refine wpJ_tq 12 rfl HJ.out ?_
  refine wpJ_done (by kernel_rfl) ?_ _
  clear HJ
  go_wp2_with fail
  refine bodyPost_ret (v := .tuple #[PV 64 53 (-1074) s z, .int .i64 0]) (by rw [results_ct rfl]; go_simp) rfl ⟨rfl, ?_⟩
  exact bSet (bSet (bSet (bSet (bSet hbw _ _ _ HGr.out) _ _ _ HGr.out) _ _ _ HGr.out) _ _ _ HGr.out) _ _ _ HGr.out
theorem patternOf_32_big (b : Nat) (hb : b < B64) (hg : 4294967296 ≤ b) (w : World) : Calls Tryz.prog 28 #[.int .i64 32, U b] w fun e w' => e = .returned (.tuple #[PV 0 0 0 false 0, .int .i64 2]) ∧ Below w.heap.size w w' := by
  have hl := bl_gt32 hg
  have hlt : (32 : Int) < (bl_bitsN b : Int) := by omega
  have hbb : b < B64 := hb
  clear hl hb hg
  obtain ⟨l, hll⟩ : ∃ l, l = bl_bitsN b := ⟨_, rfl⟩
  rw [← hll] at hlt
  have hltb : decide ((32 : Int) < (l : Int)) = true := decide_eq_true hlt
  have HLL : Hid (l = bl_bitsN b) := hll
  have HBB : Hid (b < B64) := hbb
  clear hll hbb
  go_enter Tryz.func28, Tryz.ntmps28
  go_wp2_with fail
  have X := B5q.new (w) 68 (.int .i64 0) (.int .i64 0) (.int .i64 0) (.bool false) (.int .u64 0)
  have hb0 := bwAlloc (w) (.cells #[.int .i64 0, .int .i64 0, .int .i64 0, .bool false, .int .u64 0] 68)
  generalize (w).alloc (.cells #[.int .i64 0, .int .i64 0, .int .i64 0, .bool false, .int .u64 0] 68) = W at *
  obtain ⟨g, hg⟩ : ∃ g, g = (w).heap.size := ⟨_, rfl⟩
  have HGg : Hid ((w).heap.size ≤ g) := by show _ ≤ _; omega
  rw [← hg] at X ⊢
  clear hg
  refine (of_32 _).mono ?_
  rintro e w1 ⟨rfl, hb1⟩
  have X1 := X.below hb1
  have HB1 : Hid (Below w.heap.size w w1) := bwOn hb0 hb1
  clear X hb0 hb1
  go_wp2_with fail
  have Y := B3.new (w1) 46 (.int .i64 32) (.int .i64 24) (.int .i64 (-149))
  have hb2 := bwAlloc (w1) (.cells #[.int .i64 32, .int .i64 24, .int .i64 (-149)] 46)
  generalize (w1).alloc (.cells #[.int .i64 32, .int .i64 24, .int .i64 (-149)] 46) = W2 at *
  obtain ⟨h, hh⟩ : ∃ h, h = (w1).heap.size := ⟨_, rfl⟩
  have HGh : Hid ((w1).heap.size ≤ h) := by show _ ≤ _; omega
  rw [← hh] at Y ⊢
  clear hh
  have X2 := X1.below hb2
  have HB2 : Hid (Below w.heap.size w W2) := bwOn HB1.out hb2
  clear X1 hb2 HB1
  have X3 : Hid (B5q W2.drew g _ _ _ _ _) := X2.drew
  have Y3 : Hid (B3 W2.drew h _ _ _) := Y.drew
  have HB3 : Hid (Below w.heap.size w W2.drew) := bwDrew HB2.out
  obtain ⟨y0, y1, y2, y3, y4, y5⟩ := Y
  obtain ⟨x0, x1, x2, x3, x4, x5, x6, x7, x8, x9⟩ := X2
  go_region_with (first
    | (go_at_call 47; (with_reducible refine (bl_len_any _ _ HBB.out).mono ?_); rintro e w' ⟨rfl, hw⟩; rw [← HLL.out]; obtain rfl := hw.symm; clear hw))
  all_goals
    (go_wp2_with fail
     refine bodyPost_ret (v := .tuple #[PV 0 0 0 false 0, .int .i64 2]) (by rw [results_ct rfl]; go_simp) rfl ⟨rfl, ?_⟩
     exact bwDrew (bwSet (bwSet (bwSet (bwSet (bwSet HB2.out _ _ _ HGg.out) _ _ _ HGg.out) _ _ _ HGg.out) _ _ _ HGg.out) _ _ _ HGg.out))
theorem bwDrewN {B : Nat} {a w : World} (h : Below B a w) (r : Nat) : Below B a (w.drewN r) := ⟨h.os, h.tape, h.output, h.size, h.block⟩
theorem B5q.drewN {W : World} {g : Nat} {v0 v1 v2 v3 v4 : Value} (h : B5q W g v0 v1 v2 v3 v4) (r : Nat) : B5q (W.drewN r) g v0 v1 v2 v3 v4 := ⟨h.c0, h.c1, h.c2, h.c3, h.c4, h.f0, h.f1, h.f2, h.f3, h.f4⟩
def clsN (H I s : Nat) : Int := if s = 0 then 0 else if s < H then 1 else if s < I then 2 else if s = I then 3 else 4
theorem infinity_32v {I : Nat} (hI : I = 2139095040) (w : World) : Calls Tryz.prog 25 #[WV 32 24 (-149)] w fun e w' => e = .returned (U I) ∧ Below w.heap.size w w' := by
  subst hI
  exact infinity_32 w
theorem class_32 {I : Nat} (hI : I = 2139095040) (neg : Bool) (s : Nat) (w : World) : Calls Tryz.prog 29 #[PV 32 24 (-149) neg s] w fun e w' => e = .returned (.int .i64 (clsN 8388608 I s)) ∧ Below w.heap.size w w' := by
  obtain ⟨c, hc⟩ : ∃ c, c = clsN 8388608 I s := ⟨_, rfl⟩
  rw [← hc]
  have HC : Hid (c = clsN 8388608 I s) := hc
  have HI : Hid (I = 2139095040) := hI
  have hHI : 8388608 ≤ I := by omega
  clear hc hI
  go_enter Tryz.func29, Tryz.ntmps29
  by_cases h0 : s = 0
  · subst h0
    have HC2 : Hid (c = 0) := HC.out
    go_wp2_with fail
    go_ret
    exact ⟨ret_int HC2.out.symm, bwAlloc w _⟩
  have h0b : ((s : Int) == 0) = false := by simp; omega
  by_cases h1 : s < 8388608
  · have HC2 : Hid (c = 1) := by show _ = _; rw [HC.out]; simp [clsN, h0, h1]
    have h1b : decide ((s : Int) < 8388608) = true := decide_eq_true (by omega)
    go_wp2_with fail
    go_quiet (fail)
    go_wp2_with fail
    go_ret
    exact ⟨ret_int HC2.out.symm, bwDrewN (bwAlloc w _) _⟩
  have h1b : decide ((s : Int) < 8388608) = false := decide_eq_false (by omega)
  go_wp2_with fail
  go_quiet (fail)
  go_wp2_with fail
  clear h0b h1b
  have X := (B5q.new w 68 (.int .i64 32) (.int .i64 24) (.int .i64 (-149)) (.bool neg) (U s)).drewN nq
  have hb0 := bwDrewN (bwAlloc w (.cells #[.int .i64 32, .int .i64 24, .int .i64 (-149), .bool neg, U s] 68)) nq
  generalize (w.alloc (.cells #[.int .i64 32, .int .i64 24, .int .i64 (-149), .bool neg, U s] 68)).drewN nq = W2 at *
  obtain ⟨g, hg⟩ : ∃ g, g = w.heap.size := ⟨_, rfl⟩
  rw [← hg] at X ⊢
  clear hg
  have X2 : Hid (B5q W2.drew g (.int .i64 32) (.int .i64 24) (.int .i64 (-149)) (.bool neg) (U s)) := X.drew
  have HB2 : Hid (Below w.heap.size w W2.drew) := bwDrew hb0
  obtain ⟨x0, x1, x2, x3, x4, x5, x6, x7, x8, x9⟩ := X
  clear hb0
  by_cases h2 : s < I
  · have HC2 : Hid (c = 2) := by show _ = _; rw [HC.out]; simp [clsN, h0, h1, h2]
    have h2b : decide ((s : Int) < (I : Int)) = true := decide_eq_true (by omega)
    have h2n : decide (s < I) = true := decide_eq_true h2
    clear h0 h1 h2 hHI
    go_region_with (go_at_call 25; (with_reducible refine (infinity_32v HI.out W2.drew).mono ?_); rintro e w3 ⟨rfl, hb3⟩; have X3 : Hid (B5q w3 g (.int .i64 32) (.int .i64 24) (.int .i64 (-149)) (.bool neg) (U s)) := X2.out.below hb3; obtain ⟨p0, p1, p2, p3, p4, p5, p6, p7, p8, p9⟩ := X3.out; have HB3 : Hid (Below w.heap.size w w3) := bwOn HB2.out hb3; clear hb3)
    all_goals
      (go_wp2_with fail
       go_ret
       exact ⟨ret_int HC2.out.symm, HB3.out⟩)
  have h2b : decide ((s : Int) < (I : Int)) = false := decide_eq_false (by omega)
  have h2n : decide (s < I) = false := decide_eq_false h2
  by_cases h3 : s = I
  · have HC2 : Hid (c = 3) := by show _ = _; rw [HC.out]; unfold clsN; rw [if_neg h0, if_neg h1, if_neg h2, if_pos h3]
    have h3b : ((s : Int) == (I : Int)) = true := by simp; omega
    have h3n : (s == I) = true := by simp [h3]
    have h3m : decide (s = I) = true := decide_eq_true h3
    clear h0 h1 h2 h3 hHI
    go_region_with (go_at_call 25; (with_reducible refine (infinity_32v HI.out W2.drew).mono ?_); rintro e w3 ⟨rfl, hb3⟩; have X3 : Hid (B5q w3 g (.int .i64 32) (.int .i64 24) (.int .i64 (-149)) (.bool neg) (U s)) := X2.out.below hb3; obtain ⟨p0, p1, p2, p3, p4, p5, p6, p7, p8, p9⟩ := X3.out; have HB3 : Hid (Below w.heap.size w w3) := bwOn HB2.out hb3; clear hb3)
    all_goals
      (clear x0 x1 x2 x3 x4 x5 x6 x7 x8 x9
       go_wp2_with fail
       clear h2b h2n
       go_region_with (go_at_call 25; (with_reducible refine (infinity_32v HI.out w3.drew).mono ?_); rintro e w4 ⟨rfl, hb4⟩; obtain ⟨q0, q1, q2, q3, q4, q5, q6, q7, q8, q9⟩ := X3.out.drew.below hb4; have HB4 : Hid (Below w.heap.size w w4) := bwOn (bwDrew HB3.out) hb4; clear hb4)
       all_goals
         (go_wp2_with fail
          go_ret
          exact ⟨ret_int HC2.out.symm, HB4.out⟩))
  have h3b : ((s : Int) == (I : Int)) = false := by simp; omega
  have h3n : (s == I) = false := by simp [h3]
  have h3m : decide (s = I) = false := decide_eq_false h3
  have HC2 : Hid (c = 4) := by show _ = _; rw [HC.out]; simp [clsN, h0, h1, h2, h3]
  clear h0 h1 h2 h3 hHI
  go_region_with (go_at_call 25; (with_reducible refine (infinity_32v HI.out W2.drew).mono ?_); rintro e w3 ⟨rfl, hb3⟩; have X3 : Hid (B5q w3 g (.int .i64 32) (.int .i64 24) (.int .i64 (-149)) (.bool neg) (U s)) := X2.out.below hb3; obtain ⟨p0, p1, p2, p3, p4, p5, p6, p7, p8, p9⟩ := X3.out; have HB3 : Hid (Below w.heap.size w w3) := bwOn HB2.out hb3; clear hb3)
  all_goals
    (clear x0 x1 x2 x3 x4 x5 x6 x7 x8 x9
     go_wp2_with fail
     clear h2b h2n
     go_region_with (go_at_call 25; (with_reducible refine (infinity_32v HI.out w3.drew).mono ?_); rintro e w4 ⟨rfl, hb4⟩; obtain ⟨q0, q1, q2, q3, q4, q5, q6, q7, q8, q9⟩ := X3.out.drew.below hb4; have HB4 : Hid (Below w.heap.size w w4) := bwOn (bwDrew HB3.out) hb4; clear hb4)
     all_goals
       (go_wp2_with fail
        go_ret
        exact ⟨ret_int HC2.out.symm, HB4.out⟩))
theorem infinity_64v {I : Nat} (hI : I = 9218868437227405312) (w : World) : Calls Tryz.prog 25 #[WV 64 53 (-1074)] w fun e w' => e = .returned (U I) ∧ Below w.heap.size w w' := by
  subst hI
  exact infinity_64 w
theorem class_64 {I : Nat} (hI : I = 9218868437227405312) (neg : Bool) (s : Nat) (w : World) : Calls Tryz.prog 29 #[PV 64 53 (-1074) neg s] w fun e w' => e = .returned (.int .i64 (clsN 4503599627370496 I s)) ∧ Below w.heap.size w w' := by
  obtain ⟨c, hc⟩ : ∃ c, c = clsN 4503599627370496 I s := ⟨_, rfl⟩
  rw [← hc]
  have HC : Hid (c = clsN 4503599627370496 I s) := hc
  have HI : Hid (I = 9218868437227405312) := hI
  have hHI : 4503599627370496 ≤ I := by omega
  clear hc hI
  go_enter Tryz.func29, Tryz.ntmps29
  by_cases h0 : s = 0
  · subst h0
    have HC2 : Hid (c = 0) := HC.out
    go_wp2_with fail
    go_ret
    exact ⟨ret_int HC2.out.symm, bwAlloc w _⟩
  have h0b : ((s : Int) == 0) = false := by simp; omega
  by_cases h1 : s < 4503599627370496
  · have HC2 : Hid (c = 1) := by show _ = _; rw [HC.out]; simp [clsN, h0, h1]
    have h1b : decide ((s : Int) < 4503599627370496) = true := decide_eq_true (by omega)
    go_wp2_with fail
    go_quiet (fail)
    go_wp2_with fail
    go_ret
    exact ⟨ret_int HC2.out.symm, bwDrewN (bwAlloc w _) _⟩
  have h1b : decide ((s : Int) < 4503599627370496) = false := decide_eq_false (by omega)
  go_wp2_with fail
  go_quiet (fail)
  go_wp2_with fail
  clear h0b h1b
  have X := (B5q.new w 68 (.int .i64 64) (.int .i64 53) (.int .i64 (-1074)) (.bool neg) (U s)).drewN nq
  have hb0 := bwDrewN (bwAlloc w (.cells #[.int .i64 64, .int .i64 53, .int .i64 (-1074), .bool neg, U s] 68)) nq
  generalize (w.alloc (.cells #[.int .i64 64, .int .i64 53, .int .i64 (-1074), .bool neg, U s] 68)).drewN nq = W2 at *
  obtain ⟨g, hg⟩ : ∃ g, g = w.heap.size := ⟨_, rfl⟩
  rw [← hg] at X ⊢
  clear hg
  have X2 : Hid (B5q W2.drew g (.int .i64 64) (.int .i64 53) (.int .i64 (-1074)) (.bool neg) (U s)) := X.drew
  have HB2 : Hid (Below w.heap.size w W2.drew) := bwDrew hb0
  obtain ⟨x0, x1, x2, x3, x4, x5, x6, x7, x8, x9⟩ := X
  clear hb0
  by_cases h2 : s < I
  · have HC2 : Hid (c = 2) := by show _ = _; rw [HC.out]; simp [clsN, h0, h1, h2]
    have h2b : decide ((s : Int) < (I : Int)) = true := decide_eq_true (by omega)
    have h2n : decide (s < I) = true := decide_eq_true h2
    clear h0 h1 h2 hHI
    go_region_with (go_at_call 25; (with_reducible refine (infinity_64v HI.out W2.drew).mono ?_); rintro e w3 ⟨rfl, hb3⟩; have X3 : Hid (B5q w3 g (.int .i64 64) (.int .i64 53) (.int .i64 (-1074)) (.bool neg) (U s)) := X2.out.below hb3; obtain ⟨p0, p1, p2, p3, p4, p5, p6, p7, p8, p9⟩ := X3.out; have HB3 : Hid (Below w.heap.size w w3) := bwOn HB2.out hb3; clear hb3)
    all_goals
      (go_wp2_with fail
       go_ret
       exact ⟨ret_int HC2.out.symm, HB3.out⟩)
  have h2b : decide ((s : Int) < (I : Int)) = false := decide_eq_false (by omega)
  have h2n : decide (s < I) = false := decide_eq_false h2
  by_cases h3 : s = I
  · have HC2 : Hid (c = 3) := by show _ = _; rw [HC.out]; unfold clsN; rw [if_neg h0, if_neg h1, if_neg h2, if_pos h3]
    have h3b : ((s : Int) == (I : Int)) = true := by simp; omega
    have h3n : (s == I) = true := by simp [h3]
    have h3m : decide (s = I) = true := decide_eq_true h3
    clear h0 h1 h2 h3 hHI
    go_region_with (go_at_call 25; (with_reducible refine (infinity_64v HI.out W2.drew).mono ?_); rintro e w3 ⟨rfl, hb3⟩; have X3 : Hid (B5q w3 g (.int .i64 64) (.int .i64 53) (.int .i64 (-1074)) (.bool neg) (U s)) := X2.out.below hb3; obtain ⟨p0, p1, p2, p3, p4, p5, p6, p7, p8, p9⟩ := X3.out; have HB3 : Hid (Below w.heap.size w w3) := bwOn HB2.out hb3; clear hb3)
    all_goals
      (clear x0 x1 x2 x3 x4 x5 x6 x7 x8 x9
       go_wp2_with fail
       clear h2b h2n
       go_region_with (go_at_call 25; (with_reducible refine (infinity_64v HI.out w3.drew).mono ?_); rintro e w4 ⟨rfl, hb4⟩; obtain ⟨q0, q1, q2, q3, q4, q5, q6, q7, q8, q9⟩ := X3.out.drew.below hb4; have HB4 : Hid (Below w.heap.size w w4) := bwOn (bwDrew HB3.out) hb4; clear hb4)
       all_goals
         (go_wp2_with fail
          go_ret
          exact ⟨ret_int HC2.out.symm, HB4.out⟩))
  have h3b : ((s : Int) == (I : Int)) = false := by simp; omega
  have h3n : (s == I) = false := by simp [h3]
  have h3m : decide (s = I) = false := decide_eq_false h3
  have HC2 : Hid (c = 4) := by show _ = _; rw [HC.out]; simp [clsN, h0, h1, h2, h3]
  clear h0 h1 h2 h3 hHI
  go_region_with (go_at_call 25; (with_reducible refine (infinity_64v HI.out W2.drew).mono ?_); rintro e w3 ⟨rfl, hb3⟩; have X3 : Hid (B5q w3 g (.int .i64 64) (.int .i64 53) (.int .i64 (-1074)) (.bool neg) (U s)) := X2.out.below hb3; obtain ⟨p0, p1, p2, p3, p4, p5, p6, p7, p8, p9⟩ := X3.out; have HB3 : Hid (Below w.heap.size w w3) := bwOn HB2.out hb3; clear hb3)
  all_goals
    (clear x0 x1 x2 x3 x4 x5 x6 x7 x8 x9
     go_wp2_with fail
     clear h2b h2n
     go_region_with (go_at_call 25; (with_reducible refine (infinity_64v HI.out w3.drew).mono ?_); rintro e w4 ⟨rfl, hb4⟩; obtain ⟨q0, q1, q2, q3, q4, q5, q6, q7, q8, q9⟩ := X3.out.drew.below hb4; have HB4 : Hid (Below w.heap.size w w4) := bwOn (bwDrew HB3.out) hb4; clear hb4)
     all_goals
       (go_wp2_with fail
        go_ret
        exact ⟨ret_int HC2.out.symm, HB4.out⟩))
theorem patternOf_x (f : Int) (h1 : f ≠ 32) (h2 : f ≠ 64) (b : Nat) (w : World) : Calls Tryz.prog 28 #[.int .i64 f, U b] w fun e w' => e = .returned (.tuple #[PV 0 0 0 false 0, .int .i64 1]) ∧ Below w.heap.size w w' := by
  have H1 : Hid (f ≠ 32) := h1
  have H2 : Hid (f ≠ 64) := h2
  clear h1 h2
  go_enter Tryz.func28, Tryz.ntmps28
  go_wp2_with fail
  have X := B5q.new (w) 68 (.int .i64 0) (.int .i64 0) (.int .i64 0) (.bool false) (.int .u64 0)
  have hb0 := bwAlloc (w) (.cells #[.int .i64 0, .int .i64 0, .int .i64 0, .bool false, .int .u64 0] 68)
  generalize (w).alloc (.cells #[.int .i64 0, .int .i64 0, .int .i64 0, .bool false, .int .u64 0] 68) = W at *
  obtain ⟨g, hg⟩ : ∃ g, g = (w).heap.size := ⟨_, rfl⟩
  have HGg : Hid ((w).heap.size ≤ g) := by show _ ≤ _; omega
  rw [← hg] at X ⊢
  clear hg
  refine (of_x f H1.out H2.out _).mono ?_
  rintro e w1 ⟨rfl, hb1⟩
  have X1 := X.below hb1
  have hgl := X1.lt
  have HB1 : Hid (Below w.heap.size w w1) := bwOn hb0 hb1
  clear X hb0 hb1
  obtain ⟨x0, x1, x2, x3, x4, x5, x6, x7, x8, x9⟩ := X1
  go_wp2_with fail
  refine bodyPost_ret (v := .tuple #[PV 0 0 0 false 0, .int .i64 1]) (by rw [results_ct rfl]; go_simp) rfl ⟨rfl, ?_⟩
  exact Below.alloc (bwSet (bwSet (bwSet (bwSet (bwSet HB1.out _ _ _ HGg.out) _ _ _ HGg.out) _ _ _ HGg.out) _ _ _ HGg.out) _ _ _ HGg.out) (by simpa using HB1.out.size) _

theorem cls_ne {H I s : Nat} (h : s ≤ I) : clsN H I s ≠ 4 := by
  unfold clsN
  by_cases h0 : s = 0
  · rw [if_pos h0]; decide
  · rw [if_neg h0]
    by_cases h1 : s < H
    · rw [if_pos h1]; decide
    · rw [if_neg h1]
      by_cases h2 : s < I
      · rw [if_pos h2]; decide
      · rw [if_neg h2, if_pos (by omega)]; decide
theorem cls_nan {H I s : Nat} (hH : H ≤ I) (h : I < s) : clsN H I s = 4 := by
  unfold clsN
  rw [if_neg (by omega), if_neg (by omega), if_neg (by omega), if_neg (by omega)]
theorem cls_inf {H I s : Nat} (hH : H ≤ I) (h0 : 0 < I) : (clsN H I s == 3) = decide (s = I) := by
  unfold clsN
  by_cases h3 : s = I
  · rw [if_neg (by omega), if_neg (by omega), if_neg (by omega), if_pos h3]; simp [h3]
  · rw [decide_eq_false h3]
    by_cases h0 : s = 0
    · rw [if_pos h0]; decide
    · rw [if_neg h0]
      by_cases h1 : s < H
      · rw [if_pos h1]; decide
      · rw [if_neg h1]
        by_cases h2 : s < I
        · rw [if_pos h2]; decide
        · rw [if_neg h2, if_neg h3]; decide

theorem signed_32 (neg : Bool) (s : Nat) (hs : s < 2147483648) (w : World) : Calls Tryz.prog 24 #[WV 32 24 (-149), .bool neg, U s] w fun e w' => e = .returned (U (if neg then 2147483648 + s else s)) ∧ Below w.heap.size w w' := by
  have e1 : bits BinOp.or IntKind.u64 2147483648 (s : Int) = _ := sign_or s 2147483648 31 (by decide) (by decide) hs
  obtain ⟨r, hr⟩ : ∃ r, r = 2147483648 + s := ⟨_, rfl⟩
  rw [← hr] at e1 ⊢
  clear hr hs
  cases neg
  · clear e1
    go_enter Tryz.func24, Tryz.ntmps24
    go_wp2_with fail
    go_ret
    exact ⟨rfl, bwAlloc w _⟩
  · go_enter Tryz.func24, Tryz.ntmps24
    go_wp2_with fail
    refine (sign_32 _).mono ?_
    rintro e w1 ⟨rfl, hb1⟩
    have HB1 : Hid (Below w.heap.size w w1) := bwOn (bwAlloc w _) hb1
    clear hb1
    go_wp2_with fail
    go_ret
    exact ⟨rfl, HB1.out⟩
theorem signed_64 (neg : Bool) (s : Nat) (hs : s < 9223372036854775808) (w : World) : Calls Tryz.prog 24 #[WV 64 53 (-1074), .bool neg, U s] w fun e w' => e = .returned (U (if neg then 9223372036854775808 + s else s)) ∧ Below w.heap.size w w' := by
  have e1 : bits BinOp.or IntKind.u64 9223372036854775808 (s : Int) = _ := sign_or s 9223372036854775808 63 (by decide) (by decide) hs
  obtain ⟨r, hr⟩ : ∃ r, r = 9223372036854775808 + s := ⟨_, rfl⟩
  rw [← hr] at e1 ⊢
  clear hr hs
  cases neg
  · clear e1
    go_enter Tryz.func24, Tryz.ntmps24
    go_wp2_with fail
    go_ret
    exact ⟨rfl, bwAlloc w _⟩
  · go_enter Tryz.func24, Tryz.ntmps24
    go_wp2_with fail
    refine (sign_64 _).mono ?_
    rintro e w1 ⟨rfl, hb1⟩
    have HB1 : Hid (Below w.heap.size w w1) := bwOn (bwAlloc w _) hb1
    clear hb1
    go_wp2_with fail
    go_ret
    exact ⟨rfl, HB1.out⟩
end Go.Proofs.YtglkjbkpgfencaaGreatDoor
