import Derived.Test.YtmhkabomabkkfaaGreatDoorJ13
import Derived.Test.YtmhkabomabkkfaaGreatDoorJ14
import Derived.Test.YtmhkabomabkkfaaGreatDoorJ12
import Derived.Laws.EntriesVeiled
import Derived.Test.YtmhkabomabkkfaaGreatDoorJ8
import Derived.Test.YtmhkabomabkkfaaGreatDoorJ9
import Derived.Deep.LoopGhost
import Derived.Test.YtmhkabomabkkfaaGreatDoorJ11
import Derived.Laws.Bits64b
import Derived.Test.YtmhkabomabkkfaaGreatDoorJ10
namespace Go.Proofs.YtmhkabomabkkfaaGreatDoor
open Go.RowKit Go.Shelf
set_option maxRecDepth 20000
set_option maxHeartbeats 0
structure DO (B : Nat) (w : World) (s : Bool) (p : Option Addr) (m : Nat) (e z : Int) : Prop where
  own : ∃ zs, Own B w p m zs ∧ Nf B64 zs z.natAbs ∧ m ≤ 8192
  sg : s = decide (z < 0)
  fm : DFm z e
theorem DO.dn {B : Nat} {w : World} {s : Bool} {p : Option Addr} {m : Nat} {e z : Int} (h : DO B w s p m e z) : DN w s p m m e z := by
  obtain ⟨zs, h1, h2, h3⟩ := h.own
  exact ⟨⟨⟨zs, Num.of h1 h2 h3⟩, h.sg⟩, h.fm⟩
theorem DO.below {B : Nat} {w w' : World} {s : Bool} {p : Option Addr} {m : Nat} {e z : Int} (h : DO B w s p m e z) (hb : Below w.heap.size w w') : DO B w' s p m e z := by
  obtain ⟨zs, h1, h2, h3⟩ := h.own
  exact ⟨⟨zs, h1.below hb, h2, h3⟩, h.sg, h.fm⟩
theorem DO.set {B : Nat} {w : World} {s : Bool} {p : Option Addr} {m : Nat} {e z : Int} (h : DO B w s p m e z) (g o : Nat) (v : Value) (hg : g < B) : DO B (w.setCell ⟨g, o, none⟩ v) s p m e z := by
  obtain ⟨zs, h1, h2, h3⟩ := h.own
  exact ⟨⟨zs, h1.setOld _ _ _ hg, h2, h3⟩, h.sg, h.fm⟩
theorem DO.of {B : Nat} {w : World} {v : Value} {e z : Int} (h : AnsD B w v z e) (hf : DFm z e) : ∃ s p m, v = DV s p m m e ∧ DO B w s p m e z := by
  obtain ⟨p, m, zs, rfl, h1, h2, h3⟩ := h
  exact ⟨_, p, m, rfl, ⟨zs, h1, h2, h3⟩, rfl, hf⟩
structure B1s (W : World) (g : Nat) (v0 : Value) : Prop where
  c0 : W.cell? ⟨g, 0, none⟩ = some v0
  f0 : W.frozen? ⟨g, 0, none⟩ = false
theorem B1s.lt {w : World} {g : Nat} {a : Value} (h : B1s w g a) : g < w.heap.size := World.block_lt_of_cell? w _ h.c0
theorem B1s.below {W W' : World} {g : Nat} {v0 : Value} (h : B1s W g v0) (hb : Below W.heap.size W W') : B1s W' g v0 := by
  have hl : g < W.heap.size := World.block_lt_of_cell? W _ h.c0
  exact ⟨(hb.cell (p := ⟨g, 0, none⟩) hl).trans h.c0, (hb.frozen (p := ⟨g, 0, none⟩) hl).trans h.f0⟩
theorem B1s.new (w : World) (ty : TypeId) (v0 : Value) : B1s (w.alloc (.cells #[v0] ty)) w.heap.size v0 := ⟨by go_simp, by go_simp⟩
structure Jq (f p m l : Int) (S I H sd : Nat) (Be : Int) (Q : Nat) : Prop where
  jn : Jn f p m l S I H sd Be
  qt : ∀ w, Calls Tryz.prog 49 #[.int .i64 f] w fun e w' => e = .returned (.tuple #[U Q, .int .i64 0]) ∧ Below w.heap.size w w'
  qb : Q < 2 * S ∧ I < Q % S
theorem jq_32 : Jq 32 32 24 (-149) 2147483648 2139095040 8388608 23 128 2143289345 := ⟨jn_32, quiet_32, by decide⟩
theorem jq_64 : Jq 64 64 53 (-1074) 9223372036854775808 9218868437227405312 4503599627370496 52 1024 9221120237041090561 := ⟨jn_64, quiet_64, by decide⟩
abbrev VNan : Value := .iface 118 (.agg #[])
abbrev VInf (s : Bool) : Value := .iface 116 (.agg #[.bool s])
abbrev VNo (s : Bool) : Value := .iface 119 (.agg #[.bool s])
abbrev VFin (s : Bool) (p : Option Addr) (m c : Nat) (e : Int) : Value := .iface 122 (.agg #[.bool s, .slice p m c, .int .i64 e])
def OpV (w : World) (v : Value) (o : Opd) : Prop :=
  (v = VNan ∧ o = onan) ∨ (∃ s, v = VInf s ∧ o = oinf s) ∨ (∃ s, v = VNo s ∧ o = ono s) ∨ ∃ s p m c e x, v = VFin s p m c e ∧ DN w s p m c e x ∧ x ≠ 0 ∧ o = ofin x e
theorem OpV.below {w w' : World} {v : Value} {o : Opd} (h : OpV w v o) (hb : Below w.heap.size w w') : OpV w' v o := by
  rcases h with h | h | h | ⟨s, p, m, c, e, x, h1, h2, h3, h4⟩
  · exact .inl h
  · exact .inr (.inl h)
  · exact .inr (.inr (.inl h))
  · exact .inr (.inr (.inr ⟨s, p, m, c, e, x, h1, h2.below hb, h3, h4⟩))
def OpO (B : Nat) (w : World) (v : Value) (o : Opd) : Prop :=
  (v = VNan ∧ o = onan) ∨ (∃ s, v = VInf s ∧ o = oinf s) ∨ (∃ s, v = VNo s ∧ o = ono s) ∨ ∃ s p m e x, v = VFin s p m m e ∧ DO B w s p m e x ∧ x ≠ 0 ∧ o = ofin x e
theorem OpO.below {B : Nat} {w w' : World} {v : Value} {o : Opd} (h : OpO B w v o) (hb : Below w.heap.size w w') : OpO B w' v o := by
  rcases h with h | h | h | ⟨s, p, m, e, x, h1, h2, h3, h4⟩
  · exact .inl h
  · exact .inr (.inl h)
  · exact .inr (.inr (.inl h))
  · exact .inr (.inr (.inr ⟨s, p, m, e, x, h1, h2.below hb, h3, h4⟩))
theorem OpO.set {B : Nat} {w : World} {v : Value} {o : Opd} (h : OpO B w v o) (g k : Nat) (u : Value) (hg : g < B) : OpO B (w.setCell ⟨g, k, none⟩ u) v o := by
  rcases h with h | h | h | ⟨s, p, m, e, x, h1, h2, h3, h4⟩
  · exact .inl h
  · exact .inr (.inl h)
  · exact .inr (.inr (.inl h))
  · exact .inr (.inr (.inr ⟨s, p, m, e, x, h1, h2.set g k u hg, h3, h4⟩))
theorem OpO.v {B : Nat} {w : World} {v : Value} {o : Opd} (h : OpO B w v o) : OpV w v o := by
  rcases h with h | h | h | ⟨s, p, m, e, x, h1, h2, h3, h4⟩
  · exact .inl h
  · exact .inr (.inl h)
  · exact .inr (.inr (.inl h))
  · exact .inr (.inr (.inr ⟨s, p, m, m, e, x, h1, h2.dn, h3, h4⟩))
theorem below_nan (w : World) :
    Calls Tryz.prog 189 #[.agg #[]] w fun en w' => en = .returned (.bool false) ∧ Below w.heap.size w w' := by
  go_enter Tryz.func189, Tryz.ntmps189
  go_wp2_with fail
  go_ret
  exact ⟨rfl, by first | exact below1 w _ | exact Below.refl _ _⟩
theorem signed_nan (t : Bool) (w : World) :
    Calls Tryz.prog 190 #[.agg #[], .bool t] w fun en w' => en = .returned (VNan) ∧ Below w.heap.size w w' := by
  go_enter Tryz.func190, Tryz.ntmps190
  go_wp2_with fail
  go_ret
  exact ⟨rfl, by first | exact below1 w _ | exact below2 w _ _ | exact Below.refl _ _ | exact bSet (below1 w _) _ _ _ (Nat.le_refl _)⟩
theorem meth_below_nan (v : Value) (w : World) : Sem.run Tryz.prog (method 320 118 v "gnomon/soft.below") w = .ok (189, v) w := by kernel_rfl
theorem meth_signed_nan (v : Value) (w : World) : Sem.run Tryz.prog (method 320 118 v "gnomon/soft.signed") w = .ok (190, v) w := by kernel_rfl
theorem nila_signed_nan (v : Value) (w : World) : Sem.run Tryz.prog (nilAhead 320 118 v "gnomon/soft.signed") w = .ok (some false) w := by kernel_rfl
theorem meth_pattern_nan (v : Value) (w : World) : Sem.run Tryz.prog (method 320 118 v "gnomon/soft.pattern") w = .ok (93, v) w := by kernel_rfl
theorem opp_nan (w : World) :
    Calls Tryz.prog 40 #[VNan] w fun en w' => en = .returned (VNan) ∧ Below w.heap.size w w' := by
  have m1 := meth_below_nan
  have m2 := meth_signed_nan
  have m3 := nila_signed_nan
  go_enter Tryz.func40, Tryz.ntmps40
  go_wp2_with fail
  have hbw : Below w.heap.size w w := Below.refl _ _
  obtain ⟨W1, hW1⟩ : ∃ W1, W1 = w.drew := ⟨_, rfl⟩
  have hbd : Below w.heap.size w W1 := by rw [hW1]; exact bDrew1 (Below.refl _ _)
  replace hbw := Below.on hbw hbd
  clear hbd
  have HJ : Hid ((fun W' : World => True) W1) := trivial
  refine wp_region_J (fun W' => True) (by kernel_rfl) ?_
  rw [← hW1]
  clear hW1
  refine wpJ_tk 0 (v := ?v1x0) rfl ?hy1x0 HJ.out ?_
  case hy1x0 => (intro W' hJ; have j0 := hJ; go_simp; first | done | with_reducible rfl)
  refine wpJ_tk 1 (v := ?v2x1) rfl ?hy2x1 HJ.out ?_
  case hy2x1 => (intro W' hJ; have j0 := hJ; go_simp; first | done | with_reducible rfl)
  refine wpJ_tk 4 (v := ?v3x4) rfl ?hy3x4 HJ.out ?_
  case hy3x4 => (intro W' hJ; have j0 := hJ; go_simp; first | done | with_reducible rfl)
  refine wpJ_tk 5 (v := ?v4x5) rfl ?hy4x5 HJ.out ?_
  case hy4x5 => (intro W' hJ; have j0 := hJ; go_simp; first | done | with_reducible rfl)
  refine wpJ_tk 6 (v := ?v5x6) rfl ?hy5x6 HJ.out ?_
  case hy5x6 => (intro W' hJ; have j0 := hJ; go_simp; first | done | with_reducible rfl)
  refine wpJ_on 2 rfl fun KJ hK => ?_
  go_simp
  refine (below_nan _).mono ?_
  rintro e v2 ⟨rfl, hb2⟩
  replace hbw := Below.on hbw hb2
  clear hb2
  clear HJ
  have HJ : Hid ((fun W' : World => True) v2) := trivial
  refine hK _ _ HJ.out ?_
  clear hK
  refine wpJ_tk 3 (v := ?v6x3) rfl ?hy6x3 HJ.out ?_
  case hy6x3 => (intro W' hJ; have j0 := hJ; go_simp; first | done | with_reducible rfl)
  refine wpJ_on 7 rfl fun KJ hK => ?_
  go_simp
  refine (signed_nan _ _).mono ?_
  rintro e v7 ⟨rfl, hb7⟩
  replace hbw := Below.on hbw hb7
  clear hb7
  clear HJ
  have HJ : Hid ((fun W' : World => True) v7) := trivial
  refine hK _ _ HJ.out ?_
  clear hK
  refine wpJ_tk 8 (v := ?v7x8) rfl ?hy7x8 HJ.out ?_
  case hy7x8 => (intro W' hJ; have j0 := hJ; go_simp; first | done | with_reducible rfl)
  refine wpJ_done (by kernel_rfl) ?_ _
  clear HJ
  go_wp2_with fail
  go_ret
  exact ⟨rfl, hbw⟩
theorem below_inf (s : Bool) (w : World) :
    Calls Tryz.prog 187 #[.agg #[.bool s]] w fun en w' => en = .returned (.bool s) ∧ Below w.heap.size w w' := by
  go_enter Tryz.func187, Tryz.ntmps187
  go_wp2_with fail
  go_ret
  exact ⟨rfl, by first | exact below1 w _ | exact Below.refl _ _⟩
theorem signed_inf (s : Bool) (t : Bool) (w : World) :
    Calls Tryz.prog 188 #[.agg #[.bool s], .bool t] w fun en w' => en = .returned (VInf t) ∧ Below w.heap.size w w' := by
  go_enter Tryz.func188, Tryz.ntmps188
  go_wp2_with fail
  go_ret
  exact ⟨rfl, by first | exact below1 w _ | exact below2 w _ _ | exact Below.refl _ _ | exact bSet (below1 w _) _ _ _ (Nat.le_refl _)⟩
theorem meth_below_inf (v : Value) (w : World) : Sem.run Tryz.prog (method 320 116 v "gnomon/soft.below") w = .ok (187, v) w := by kernel_rfl
theorem meth_signed_inf (v : Value) (w : World) : Sem.run Tryz.prog (method 320 116 v "gnomon/soft.signed") w = .ok (188, v) w := by kernel_rfl
theorem nila_signed_inf (v : Value) (w : World) : Sem.run Tryz.prog (nilAhead 320 116 v "gnomon/soft.signed") w = .ok (some false) w := by kernel_rfl
theorem meth_pattern_inf (v : Value) (w : World) : Sem.run Tryz.prog (method 320 116 v "gnomon/soft.pattern") w = .ok (90, v) w := by kernel_rfl
theorem opp_inf (s : Bool) (w : World) :
    Calls Tryz.prog 40 #[VInf s] w fun en w' => en = .returned (VInf (!s)) ∧ Below w.heap.size w w' := by
  have m1 := meth_below_inf
  have m2 := meth_signed_inf
  have m3 := nila_signed_inf
  go_enter Tryz.func40, Tryz.ntmps40
  go_wp2_with fail
  have hbw : Below w.heap.size w w := Below.refl _ _
  obtain ⟨W1, hW1⟩ : ∃ W1, W1 = w.drew := ⟨_, rfl⟩
  have hbd : Below w.heap.size w W1 := by rw [hW1]; exact bDrew1 (Below.refl _ _)
  replace hbw := Below.on hbw hbd
  clear hbd
  have HJ : Hid ((fun W' : World => True) W1) := trivial
  refine wp_region_J (fun W' => True) (by kernel_rfl) ?_
  rw [← hW1]
  clear hW1
  refine wpJ_tk 0 (v := ?v8x0) rfl ?hy8x0 HJ.out ?_
  case hy8x0 => (intro W' hJ; have j0 := hJ; go_simp; first | done | with_reducible rfl)
  refine wpJ_tk 1 (v := ?v9x1) rfl ?hy9x1 HJ.out ?_
  case hy9x1 => (intro W' hJ; have j0 := hJ; go_simp; first | done | with_reducible rfl)
  refine wpJ_tk 4 (v := ?v10x4) rfl ?hy10x4 HJ.out ?_
  case hy10x4 => (intro W' hJ; have j0 := hJ; go_simp; first | done | with_reducible rfl)
  refine wpJ_tk 5 (v := ?v11x5) rfl ?hy11x5 HJ.out ?_
  case hy11x5 => (intro W' hJ; have j0 := hJ; go_simp; first | done | with_reducible rfl)
  refine wpJ_tk 6 (v := ?v12x6) rfl ?hy12x6 HJ.out ?_
  case hy12x6 => (intro W' hJ; have j0 := hJ; go_simp; first | done | with_reducible rfl)
  refine wpJ_on 2 rfl fun KJ hK => ?_
  go_simp
  refine (below_inf s _).mono ?_
  rintro e v2 ⟨rfl, hb2⟩
  replace hbw := Below.on hbw hb2
  clear hb2
  clear HJ
  have HJ : Hid ((fun W' : World => True) v2) := trivial
  refine hK _ _ HJ.out ?_
  clear hK
  refine wpJ_tk 3 (v := ?v13x3) rfl ?hy13x3 HJ.out ?_
  case hy13x3 => (intro W' hJ; have j0 := hJ; go_simp; first | done | with_reducible rfl)
  refine wpJ_on 7 rfl fun KJ hK => ?_
  go_simp
  refine (signed_inf s _ _).mono ?_
  rintro e v7 ⟨rfl, hb7⟩
  replace hbw := Below.on hbw hb7
  clear hb7
  clear HJ
  have HJ : Hid ((fun W' : World => True) v7) := trivial
  refine hK _ _ HJ.out ?_
  clear hK
  refine wpJ_tk 8 (v := ?v14x8) rfl ?hy14x8 HJ.out ?_
  case hy14x8 => (intro W' hJ; have j0 := hJ; go_simp; first | done | with_reducible rfl)
  refine wpJ_done (by kernel_rfl) ?_ _
  clear HJ
  go_wp2_with fail
  go_ret
  exact ⟨rfl, hbw⟩
theorem below_no (s : Bool) (w : World) :
    Calls Tryz.prog 191 #[.agg #[.bool s]] w fun en w' => en = .returned (.bool s) ∧ Below w.heap.size w w' := by
  go_enter Tryz.func191, Tryz.ntmps191
  go_wp2_with fail
  go_ret
  exact ⟨rfl, by first | exact below1 w _ | exact Below.refl _ _⟩
theorem signed_no (s : Bool) (t : Bool) (w : World) :
    Calls Tryz.prog 192 #[.agg #[.bool s], .bool t] w fun en w' => en = .returned (VNo t) ∧ Below w.heap.size w w' := by
  go_enter Tryz.func192, Tryz.ntmps192
  go_wp2_with fail
  go_ret
  exact ⟨rfl, by first | exact below1 w _ | exact below2 w _ _ | exact Below.refl _ _ | exact bSet (below1 w _) _ _ _ (Nat.le_refl _)⟩
theorem meth_below_no (v : Value) (w : World) : Sem.run Tryz.prog (method 320 119 v "gnomon/soft.below") w = .ok (191, v) w := by kernel_rfl
theorem meth_signed_no (v : Value) (w : World) : Sem.run Tryz.prog (method 320 119 v "gnomon/soft.signed") w = .ok (192, v) w := by kernel_rfl
theorem nila_signed_no (v : Value) (w : World) : Sem.run Tryz.prog (nilAhead 320 119 v "gnomon/soft.signed") w = .ok (some false) w := by kernel_rfl
theorem meth_pattern_no (v : Value) (w : World) : Sem.run Tryz.prog (method 320 119 v "gnomon/soft.pattern") w = .ok (89, v) w := by kernel_rfl
theorem opp_no (s : Bool) (w : World) :
    Calls Tryz.prog 40 #[VNo s] w fun en w' => en = .returned (VNo (!s)) ∧ Below w.heap.size w w' := by
  have m1 := meth_below_no
  have m2 := meth_signed_no
  have m3 := nila_signed_no
  go_enter Tryz.func40, Tryz.ntmps40
  go_wp2_with fail
  have hbw : Below w.heap.size w w := Below.refl _ _
  obtain ⟨W1, hW1⟩ : ∃ W1, W1 = w.drew := ⟨_, rfl⟩
  have hbd : Below w.heap.size w W1 := by rw [hW1]; exact bDrew1 (Below.refl _ _)
  replace hbw := Below.on hbw hbd
  clear hbd
  have HJ : Hid ((fun W' : World => True) W1) := trivial
  refine wp_region_J (fun W' => True) (by kernel_rfl) ?_
  rw [← hW1]
  clear hW1
  refine wpJ_tk 0 (v := ?v15x0) rfl ?hy15x0 HJ.out ?_
  case hy15x0 => (intro W' hJ; have j0 := hJ; go_simp; first | done | with_reducible rfl)
  refine wpJ_tk 1 (v := ?v16x1) rfl ?hy16x1 HJ.out ?_
  case hy16x1 => (intro W' hJ; have j0 := hJ; go_simp; first | done | with_reducible rfl)
  refine wpJ_tk 4 (v := ?v17x4) rfl ?hy17x4 HJ.out ?_
  case hy17x4 => (intro W' hJ; have j0 := hJ; go_simp; first | done | with_reducible rfl)
  refine wpJ_tk 5 (v := ?v18x5) rfl ?hy18x5 HJ.out ?_
  case hy18x5 => (intro W' hJ; have j0 := hJ; go_simp; first | done | with_reducible rfl)
  refine wpJ_tk 6 (v := ?v19x6) rfl ?hy19x6 HJ.out ?_
  case hy19x6 => (intro W' hJ; have j0 := hJ; go_simp; first | done | with_reducible rfl)
  refine wpJ_on 2 rfl fun KJ hK => ?_
  go_simp
  refine (below_no s _).mono ?_
  rintro e v2 ⟨rfl, hb2⟩
  replace hbw := Below.on hbw hb2
  clear hb2
  clear HJ
  have HJ : Hid ((fun W' : World => True) v2) := trivial
  refine hK _ _ HJ.out ?_
  clear hK
  refine wpJ_tk 3 (v := ?v20x3) rfl ?hy20x3 HJ.out ?_
  case hy20x3 => (intro W' hJ; have j0 := hJ; go_simp; first | done | with_reducible rfl)
  refine wpJ_on 7 rfl fun KJ hK => ?_
  go_simp
  refine (signed_no s _ _).mono ?_
  rintro e v7 ⟨rfl, hb7⟩
  replace hbw := Below.on hbw hb7
  clear hb7
  clear HJ
  have HJ : Hid ((fun W' : World => True) v7) := trivial
  refine hK _ _ HJ.out ?_
  clear hK
  refine wpJ_tk 8 (v := ?v21x8) rfl ?hy21x8 HJ.out ?_
  case hy21x8 => (intro W' hJ; have j0 := hJ; go_simp; first | done | with_reducible rfl)
  refine wpJ_done (by kernel_rfl) ?_ _
  clear HJ
  go_wp2_with fail
  go_ret
  exact ⟨rfl, hbw⟩
theorem below_fin {s : Bool} {pa : Option Addr} {na ca : Nat} {e : Int} (w : World) :
    Calls Tryz.prog 91 #[.agg #[.bool s, .slice pa na ca, .int .i64 e]] w fun en w' => en = .returned (.bool s) ∧ Below w.heap.size w w' := by
  go_enter Tryz.func91, Tryz.ntmps91
  go_wp2_with fail
  go_ret
  exact ⟨rfl, by first | exact below1 w _ | exact Below.refl _ _⟩
theorem signed_fin {s : Bool} {pa : Option Addr} {na ca : Nat} {e : Int} (t : Bool) (w : World) :
    Calls Tryz.prog 194 #[.agg #[.bool s, .slice pa na ca, .int .i64 e], .bool t] w fun en w' => en = .returned (VFin t pa na ca e) ∧ Below w.heap.size w w' := by
  go_enter Tryz.func194, Tryz.ntmps194
  go_wp2_with fail
  go_ret
  exact ⟨rfl, by first | exact below1 w _ | exact below2 w _ _ | exact Below.refl _ _ | exact bSet (below1 w _) _ _ _ (Nat.le_refl _)⟩
theorem meth_below_fin (v : Value) (w : World) : Sem.run Tryz.prog (method 320 122 v "gnomon/soft.below") w = .ok (91, v) w := by kernel_rfl
theorem meth_signed_fin (v : Value) (w : World) : Sem.run Tryz.prog (method 320 122 v "gnomon/soft.signed") w = .ok (194, v) w := by kernel_rfl
theorem nila_signed_fin (v : Value) (w : World) : Sem.run Tryz.prog (nilAhead 320 122 v "gnomon/soft.signed") w = .ok (some false) w := by kernel_rfl
theorem meth_pattern_fin (v : Value) (w : World) : Sem.run Tryz.prog (method 320 122 v "gnomon/soft.pattern") w = .ok (193, v) w := by kernel_rfl
theorem pat_nan {f p m l : Int} {S I H sd : Nat} {Be : Int} {Q : Nat} (J : Jq f p m l S I H sd Be Q) (w : World) :
    Calls Tryz.prog 93 #[.agg #[], .int .i64 f] w fun en w' => en = .returned (U Q) ∧ Below w.heap.size w w' := by
  have HQJ : Hid (Jq f p m l S I H sd Be Q) := J
  clear J
  go_enter Tryz.func93, Tryz.ntmps93
  go_wp2_with fail
  refine (HQJ.out.qt _).mono ?_
  rintro e v1 ⟨rfl, hb1⟩
  go_wp2_with fail
  go_ret
  exact ⟨rfl, Below.on (below1 w _) hb1⟩
theorem pat_inf {f p m l : Int} {S I H sd : Nat} {Be : Int} {Q : Nat} (J : Jq f p m l S I H sd Be Q) (s : Bool) (w : World) :
    Calls Tryz.prog 90 #[.agg #[.bool s], .int .i64 f] w fun en w' => en = .returned (U (if s then S + I else I)) ∧ Below w.heap.size w w' := by
  obtain ⟨r, hr⟩ : ∃ r, r = (if s then S + I else I) := ⟨_, rfl⟩
  have HR : Hid ((if s then S + I else I) = r) := hr.symm
  rw [← hr]
  have HIS : Hid (I < S) := J.jn.jm.pm.fm.lt
  clear hr
  have HQJ : Hid (Jq f p m l S I H sd Be Q) := J
  clear J
  go_enter Tryz.func90, Tryz.ntmps90
  go_wp2_with fail
  obtain ⟨W0, hW0⟩ : ∃ W0, W0 = (w.alloc (.cells #[.bool s] 116)) := ⟨_, rfl⟩
  have Xx : Hid (B1s W0 (w.heap.size) (.bool s)) := by rw [hW0]; exact ⟨by go_simp, by go_simp⟩
  have hb0 : Below w.heap.size w W0 := by rw [hW0]; exact below1 w _
  rw [← hW0]
  clear hW0
  have hbw : Below w.heap.size w w := Below.refl _ _
  obtain ⟨gx, hgx⟩ : ∃ g, g = w.heap.size := ⟨_, rfl⟩
  have HGx : Hid (w.heap.size ≤ gx) := by rw [hgx]; show _ ≤ _; omega
  rw [← hgx] at Xx
  try rw [← hgx]
  clear hgx
  replace hbw := Below.on hbw hb0
  clear hb0
  refine (HQJ.out.jn.jm.pm.fm.of _).mono ?_
  rintro e v1 ⟨rfl, hb1⟩
  replace Xx : Hid (B1s v1 gx (.bool s)) := Xx.out.below hb1
  replace hbw := Below.on hbw hb1
  clear hb1
  obtain ⟨cx0, fx0⟩ := Xx.out
  have hnex : gx < v1.heap.size := World.block_lt_of_cell? v1 _ cx0
  go_wp2_with fail
  clear cx0 fx0 hnex
  have Xg0 : Hid (B3q (v1.alloc (.cells #[.int .i64 p, .int .i64 m, .int .i64 l] 75)) v1.heap.size (.int .i64 p) (.int .i64 m) (.int .i64 l)) := B3q.new v1 _ _ _ _
  have hbn : Below v1.heap.size v1 (v1.alloc (.cells #[.int .i64 p, .int .i64 m, .int .i64 l] 75)) := below1 v1 _
  generalize v1.alloc (.cells #[.int .i64 p, .int .i64 m, .int .i64 l] 75) = Wg at *
  have HGg : Hid (w.heap.size ≤ v1.heap.size) := hbw.size
  replace Xx : Hid (B1s Wg gx (.bool s)) := Xx.out.below hbn
  replace hbw := Below.on hbw hbn
  clear hbn
  generalize v1.heap.size = gg at *
  have Xg := Xg0
  clear Xg0
  obtain ⟨W2, hW2⟩ : ∃ W1, W1 = Wg.drew := ⟨_, rfl⟩
  have hbd : Below Wg.heap.size Wg W2 := by rw [hW2]; exact bDrew1 (Below.refl _ _)
  replace Xx : Hid (B1s W2 gx (.bool s)) := Xx.out.below hbd
  replace Xg : Hid _ := Xg.out.below hbd
  replace hbw := Below.on hbw hbd
  clear hbd
  have HJ : Hid ((fun W' : World => W'.cell? ⟨gg, 0, none⟩ = some (.int .i64 p) ∧ W'.cell? ⟨gg, 1, none⟩ = some (.int .i64 m) ∧ W'.cell? ⟨gg, 2, none⟩ = some (.int .i64 l) ∧ W'.cell? ⟨gx, 0, none⟩ = some (.bool s)) W2) := ⟨Xg.out.c0, Xg.out.c1, Xg.out.c2, Xx.out.c0⟩
  refine wp_region_J (fun W' => W'.cell? ⟨gg, 0, none⟩ = some (.int .i64 p) ∧ W'.cell? ⟨gg, 1, none⟩ = some (.int .i64 m) ∧ W'.cell? ⟨gg, 2, none⟩ = some (.int .i64 l) ∧ W'.cell? ⟨gx, 0, none⟩ = some (.bool s)) (by kernel_rfl) ?_
  rw [← hW2]
  clear hW2
  refine wpJ_tq 0 rfl HJ.out ?_
  refine wpJ_tq 1 rfl HJ.out ?_
  refine wpJ_tq 2 rfl HJ.out ?_
  refine wpJ_tq 3 rfl HJ.out ?_
  refine wpJ_on 4 rfl fun KJ hK => ?_
  go_simp
  refine (HQJ.out.jn.jm.pm.fm.inf _).mono ?_
  rintro e v4 ⟨rfl, hb4⟩
  replace Xx : Hid (B1s v4 gx (.bool s)) := Xx.out.below hb4
  replace Xg : Hid _ := Xg.out.below hb4
  replace hbw := Below.on hbw hb4
  clear hb4
  refine hK _ _ ⟨Xg.out.c0, Xg.out.c1, Xg.out.c2, Xx.out.c0⟩ ?_
  clear hK
  refine wpJ_on 5 rfl fun KJ hK => ?_
  go_simp
  refine (HQJ.out.jn.jm.pm.fm.sgn s I _ HIS.out).mono ?_
  rintro e v5 ⟨rfl, hb5⟩
  rw [HR.out]
  replace Xx : Hid (B1s v5 gx (.bool s)) := Xx.out.below hb5
  replace Xg : Hid _ := Xg.out.below hb5
  replace hbw := Below.on hbw hb5
  clear hb5
  clear HJ
  have HJ : Hid ((fun W' : World => W'.cell? ⟨gg, 0, none⟩ = some (.int .i64 p) ∧ W'.cell? ⟨gg, 1, none⟩ = some (.int .i64 m) ∧ W'.cell? ⟨gg, 2, none⟩ = some (.int .i64 l) ∧ W'.cell? ⟨gx, 0, none⟩ = some (.bool s)) v5) := ⟨Xg.out.c0, Xg.out.c1, Xg.out.c2, Xx.out.c0⟩
  refine hK _ _ HJ.out ?_
  clear hK
  refine wpJ_tq 6 rfl HJ.out ?_
  refine wpJ_done (by kernel_rfl) ?_ _
  clear HJ
  go_wp2_with fail
  go_ret
  exact ⟨rfl, hbw⟩
theorem pat_no {f p m l : Int} {S I H sd : Nat} {Be : Int} {Q : Nat} (J : Jq f p m l S I H sd Be Q) (s : Bool) (w : World) :
    Calls Tryz.prog 89 #[.agg #[.bool s], .int .i64 f] w fun en w' => en = .returned (U (if s then S + 0 else 0)) ∧ Below w.heap.size w w' := by
  obtain ⟨r, hr⟩ : ∃ r, r = (if s then S + 0 else 0) := ⟨_, rfl⟩
  have HR : Hid ((if s then S + 0 else 0) = r) := hr.symm
  rw [← hr]
  have HIS : Hid (I < S) := J.jn.jm.pm.fm.lt
  clear hr
  have HQJ : Hid (Jq f p m l S I H sd Be Q) := J
  clear J
  go_enter Tryz.func89, Tryz.ntmps89
  go_wp2_with fail
  obtain ⟨W0, hW0⟩ : ∃ W0, W0 = (w.alloc (.cells #[.bool s] 119)) := ⟨_, rfl⟩
  have Xx : Hid (B1s W0 (w.heap.size) (.bool s)) := by rw [hW0]; exact ⟨by go_simp, by go_simp⟩
  have hb0 : Below w.heap.size w W0 := by rw [hW0]; exact below1 w _
  rw [← hW0]
  clear hW0
  have hbw : Below w.heap.size w w := Below.refl _ _
  obtain ⟨gx, hgx⟩ : ∃ g, g = w.heap.size := ⟨_, rfl⟩
  have HGx : Hid (w.heap.size ≤ gx) := by rw [hgx]; show _ ≤ _; omega
  rw [← hgx] at Xx
  try rw [← hgx]
  clear hgx
  replace hbw := Below.on hbw hb0
  clear hb0
  refine (HQJ.out.jn.jm.pm.fm.of _).mono ?_
  rintro e v1 ⟨rfl, hb1⟩
  replace Xx : Hid (B1s v1 gx (.bool s)) := Xx.out.below hb1
  replace hbw := Below.on hbw hb1
  clear hb1
  obtain ⟨cx0, fx0⟩ := Xx.out
  have hnex : gx < v1.heap.size := World.block_lt_of_cell? v1 _ cx0
  go_wp2_with fail
  clear cx0 fx0 hnex
  have Xg0 : Hid (B3q (v1.alloc (.cells #[.int .i64 p, .int .i64 m, .int .i64 l] 75)) v1.heap.size (.int .i64 p) (.int .i64 m) (.int .i64 l)) := B3q.new v1 _ _ _ _
  have hbn : Below v1.heap.size v1 (v1.alloc (.cells #[.int .i64 p, .int .i64 m, .int .i64 l] 75)) := below1 v1 _
  generalize v1.alloc (.cells #[.int .i64 p, .int .i64 m, .int .i64 l] 75) = Wg at *
  have HGg : Hid (w.heap.size ≤ v1.heap.size) := hbw.size
  replace Xx : Hid (B1s Wg gx (.bool s)) := Xx.out.below hbn
  replace hbw := Below.on hbw hbn
  clear hbn
  generalize v1.heap.size = gg at *
  have Xg := Xg0
  clear Xg0
  refine (HQJ.out.jn.jm.pm.fm.sgn s 0 _ (by have := HIS.out; omega)).mono ?_
  rintro e v5 ⟨rfl, hb5⟩
  rw [HR.out]
  replace Xx : Hid (B1s v5 gx (.bool s)) := Xx.out.below hb5
  replace Xg : Hid _ := Xg.out.below hb5
  replace hbw := Below.on hbw hb5
  clear hb5
  go_wp2_with fail
  go_ret
  exact ⟨rfl, hbw⟩
theorem Own.word {B : Nat} {w : World} {p : Option Addr} {m y : Nat} {zs : List Nat} (ho : Own B w p m zs) (hn : Nf B64 zs y) (hy : y < B64) :
    (y = 0 ∧ m = 0) ∨ (y ≠ 0 ∧ m = 1 ∧ ∃ g, p = some ⟨g, 0, none⟩ ∧ B ≤ g ∧ w.cell? ⟨g, 0, none⟩ = some (U y)) := by
  have hl := ho.len
  have h1 : zs.length ≤ 1 := (hn.len_le B64_one (k := 1)).2 (by rw [Nat.pow_one]; exact hy)
  rcases Nat.eq_zero_or_pos m with h0 | h0
  · left
    rw [h0] at hl
    have := hn.val
    rw [List.eq_nil_of_length_eq_zero hl] at this
    exact ⟨this.symm, h0⟩
  · right
    have hm1 : m = 1 := by omega
    subst hm1
    obtain ⟨a, rfl⟩ : ∃ a, zs = [a] := List.length_eq_one_iff.1 hl
    have hv : a = y := by have := hn.val; simpa [valB] using this
    obtain ⟨g, hp, hB, hc⟩ := ho.mem.resolve_left (by omega)
    refine ⟨?_, rfl, g, hp, hB, ?_⟩
    · intro h9
      have h8 : ([a] : List Nat) = [] := hn.inj B64_one (by rw [h9]; exact Nf.nil _)
      cases h8
    · have := hc.cell 0 (by omega)
      rw [Nat.add_zero] at this
      rw [this]
      simp [hv]
theorem multiple_n {p : Option Addr} {m c : Nat} {w : World} {x : Int} {s : Bool} (h : ZN w s p m c x) (k r : Nat) (n : Int) (hn : n = -(k : Int)) (hk : 0 < k ∧ k ≤ 4611686018427387904) (hr : r = neN x.natAbs (2 ^ k)) (hl : r < B64) (hT : Tab w) :
    Calls Tryz.prog 99 #[ZV s p m c, .int .i64 n] w fun en w' => en = .returned (U r) ∧ Below w.heap.size w w' := by
  have H : Hid (ZN w s p m c x) := h
  have HV : Hid (r < B64 ∧ r = neN x.natAbs (2 ^ k) ∧ k ≤ 9223372036854775807) := ⟨hl, hr, by omega⟩
  have TB : Hid (Tab w) := hT
  have d1 : decide (n < 0) = true := decide_eq_true (by omega)
  have d2 : wrap64 (-n) = (k : Int) := by rw [hn]; simp only [wrap64]; omega
  have d3 : IntKind.i64.wrap (-n) = (k : Int) := by rw [hn]; simp [IntKind.wrap, IntKind.signed, IntKind.bits]; omega
  clear h hr hl hT hn hk
  go_enter Tryz.func99, Tryz.ntmps99
  go_wp2_with fail
  obtain ⟨W0, hW0⟩ : ∃ W0, W0 = (w.alloc (.cells #[.bool s, .slice p m c] 95)) := ⟨_, rfl⟩
  have Xm : Hid (Box W0 (w.heap.size) (.bool s) (.slice p m c)) := by rw [hW0]; exact ⟨by go_simp, by go_simp, by go_simp, by go_simp⟩
  have hb0 : Below w.heap.size w W0 := by rw [hW0]; exact below1 w _
  rw [← hW0]
  clear hW0
  have hbw : Below w.heap.size w w := Below.refl _ _
  obtain ⟨gm, hgm⟩ : ∃ g, g = w.heap.size := ⟨_, rfl⟩
  have HGm : Hid (w.heap.size ≤ gm) := by rw [hgm]; show _ ≤ _; omega
  rw [← hgm] at Xm
  try rw [← hgm]
  clear hgm
  replace hbw := Below.on hbw hb0
  clear hb0
  have HL : Hid (gm < W0.heap.size) := Xm.out.lt
  obtain ⟨xs, hX⟩ := (H.out.below hbw).ex
  refine (rshr_any s hX H.out.pos k HV.out.2.2 (TB.out.below hbw)).mono ?_
  rintro e2 v1 ⟨v, rfl, hv, hb1⟩
  obtain ⟨p1, m1, z1, rfl, ho1, hn1, hm1⟩ := hv
  rw [show (ne s x.natAbs (2 ^ k)).natAbs = r from by rw [HV.out.2.1]; exact iv_natAbs _ _] at hn1
  generalize decide (ne s x.natAbs (2 ^ k) < 0) = s1
  clear hX
  replace Xm : Hid _ := Xm.out.below hb1
  replace hbw := Below.on hbw hb1
  clear hb1
  have HO : Hid (Own W0.heap.size v1 p1 m1 z1) := ho1
  have HN : Hid (Nf B64 z1 r ∧ m1 ≤ 8192) := ⟨hn1, hm1⟩
  clear ho1 hn1 hm1
  rcases HO.out.word HN.out.1 HV.out.1 with ⟨h0, h1⟩ | ⟨h0, h1, g1, h2, hg1, h3⟩
  · subst h1
    have hr0 : r = 0 := h0
    clear HV
    subst hr0
    obtain ⟨cm0, cm1, fm0, fm1⟩ := Xm.out
    have hnem := Xm.out.lt
    go_wp2_with fail
    go_ret
    exact ⟨rfl, bSet (bSet hbw _ _ _ HGm.out) _ _ _ HGm.out⟩
  · subst h1
    subst h2
    have hgm : gm ≠ g1 := by have := HL.out; omega
    have hgm2 : g1 ≠ gm := fun h => hgm h.symm
    have hg2 : g1 < v1.heap.size := World.block_lt_of_cell? v1 _ h3
    obtain ⟨cm0, cm1, fm0, fm1⟩ := Xm.out
    have hnem := Xm.out.lt
    go_wp2_with fail
    go_ret
    exact ⟨rfl, bSet (bSet hbw _ _ _ HGm.out) _ _ _ HGm.out⟩
theorem multiple_p {p : Option Addr} {m c : Nat} {w : World} {x : Int} {s : Bool} (h : ZN w s p m c x) (k r : Nat) (n : Int) (hn : n = (k : Int)) (hk : k ≤ 4611686018427387904) (hr : r = x.natAbs * 2 ^ k) (hl : r < B64) :
    Calls Tryz.prog 99 #[ZV s p m c, .int .i64 n] w fun en w' => en = .returned (U r) ∧ Below w.heap.size w w' := by
  have H : Hid (ZN w s p m c x) := h
  have HV : Hid (r < B64 ∧ r = x.natAbs * 2 ^ k ∧ k ≤ 9223372036854775807) := ⟨hl, hr, by omega⟩
  have d1 : decide (n < 0) = false := decide_eq_false (by omega)
  subst hn
  clear h hr hl hk
  go_enter Tryz.func99, Tryz.ntmps99
  go_wp2_with fail
  obtain ⟨W0, hW0⟩ : ∃ W0, W0 = (w.alloc (.cells #[.bool s, .slice p m c] 95)) := ⟨_, rfl⟩
  have Xm : Hid (Box W0 (w.heap.size) (.bool s) (.slice p m c)) := by rw [hW0]; exact ⟨by go_simp, by go_simp, by go_simp, by go_simp⟩
  have hb0 : Below w.heap.size w W0 := by rw [hW0]; exact below1 w _
  rw [← hW0]
  clear hW0
  have hbw : Below w.heap.size w w := Below.refl _ _
  obtain ⟨gm, hgm⟩ : ∃ g, g = w.heap.size := ⟨_, rfl⟩
  have HGm : Hid (w.heap.size ≤ gm) := by rw [hgm]; show _ ≤ _; omega
  rw [← hgm] at Xm
  try rw [← hgm]
  clear hgm
  replace hbw := Below.on hbw hb0
  clear hb0
  have HL : Hid (gm < W0.heap.size) := Xm.out.lt
  obtain ⟨xs, hX⟩ := (H.out.below hbw).ex
  refine (nshl_any s hX H.out.pos k HV.out.2.2).mono ?_
  rintro e2 v1 ⟨ha, hb1⟩
  obtain ⟨p1, m1, z1, rfl, ho1, hn1, hm1⟩ := ha.ok (lt_LIM (L := 64) (by rw [iv_natAbs, Nat.mul_comm, ← HV.out.2.1]; exact HV.out.1) (by decide))
  clear ha
  rw [show (iv s (2 ^ k * x.natAbs)).natAbs = r from by rw [iv_natAbs, HV.out.2.1, Nat.mul_comm]] at hn1
  generalize decide (iv s (2 ^ k * x.natAbs) < 0) = s1
  clear hX
  replace Xm : Hid _ := Xm.out.below hb1
  replace hbw := Below.on hbw hb1
  clear hb1
  have HO : Hid (Own W0.heap.size v1 p1 m1 z1) := ho1
  have HN : Hid (Nf B64 z1 r ∧ m1 ≤ 8192) := ⟨hn1, hm1⟩
  clear ho1 hn1 hm1
  rcases HO.out.word HN.out.1 HV.out.1 with ⟨h0, h1⟩ | ⟨h0, h1, g1, h2, hg1, h3⟩
  · subst h1
    have hr0 : r = 0 := h0
    clear HV
    subst hr0
    obtain ⟨cm0, cm1, fm0, fm1⟩ := Xm.out
    have hnem := Xm.out.lt
    go_wp2_with fail
    go_ret
    exact ⟨rfl, bSet (bSet hbw _ _ _ HGm.out) _ _ _ HGm.out⟩
  · subst h1
    subst h2
    have hgm : gm ≠ g1 := by have := HL.out; omega
    have hgm2 : g1 ≠ gm := fun h => hgm h.symm
    have hg2 : g1 < v1.heap.size := World.block_lt_of_cell? v1 _ h3
    obtain ⟨cm0, cm1, fm0, fm1⟩ := Xm.out
    have hnem := Xm.out.lt
    go_wp2_with fail
    go_ret
    exact ⟨rfl, bSet (bSet hbw _ _ _ HGm.out) _ _ _ HGm.out⟩
theorem nearest_z {f p m l : Int} {S I H sd : Nat} {Be : Int} (_J : Jn f p m l S I H sd Be) {q : Option Addr} {n c : Nat} {w : World} {x e : Int} {s : Bool} (h : ZN w s q n c x) (h0 : x = 0) :
    Calls Tryz.prog 60 #[WV p m l, ZV s q n c, .int .i64 e] w fun en w' => en = .returned (U (rnp l sd Be S I x e)) ∧ Below w.heap.size w w' := by
  have HZN : Hid (ZN w s q n c x) := h
  have h1 : rnp l sd Be S I x e = 0 := by unfold rnp; rw [if_pos h0]
  have HS : Hid (sgnI x = 0) := by rw [h0]; rfl
  rw [h1]
  clear _J h h0 h1
  go_enter Tryz.func60, Tryz.ntmps60
  go_wp2_with fail
  obtain ⟨W0, hW0⟩ : ∃ W0, W0 = ((w.alloc (.cells #[.int .i64 p, .int .i64 m, .int .i64 l] 75)).alloc (.cells #[.bool s, .slice q n c] 95)) := ⟨_, rfl⟩
  have Xg : Hid (B3q W0 (w.heap.size) (.int .i64 p) (.int .i64 m) (.int .i64 l)) := by rw [hW0]; exact ⟨by go_simp, by go_simp, by go_simp, by go_simp, by go_simp, by go_simp⟩
  have Xm : Hid (Box W0 (w.heap.size + 1) (.bool s) (.slice q n c)) := by rw [hW0]; exact ⟨by go_simp, by go_simp, by go_simp, by go_simp⟩
  have hb0 : Below w.heap.size w W0 := by rw [hW0]; exact below2 w _ _
  rw [← hW0]
  clear hW0
  have hbw : Below w.heap.size w w := Below.refl _ _
  obtain ⟨gm, hgm⟩ : ∃ g, g = w.heap.size + 1 := ⟨_, rfl⟩
  have HGm : Hid (w.heap.size ≤ gm) := by rw [hgm]; show _ ≤ _; omega
  rw [← hgm] at Xm
  try rw [← hgm]
  obtain ⟨gg, hgg⟩ : ∃ g, g = w.heap.size := ⟨_, rfl⟩
  have HGg : Hid (w.heap.size ≤ gg) := by rw [hgg]; show _ ≤ _; omega
  rw [← hgg] at Xg
  try rw [← hgg]
  have HGD : Hid (gg ≠ gm ∧ gm ≠ gg) := by rw [hgg, hgm]; exact ⟨by omega, by omega⟩
  clear hgg hgm
  replace hbw := Below.on hbw hb0
  clear hb0
  refine (zsign (HZN.out.below hbw)).mono ?_
  rintro e v1 ⟨rfl, hb1⟩
  rw [HS.out]
  replace Xg : Hid _ := Xg.out.below hb1
  replace Xm : Hid _ := Xm.out.below hb1
  replace hbw := Below.on hbw hb1
  clear hb1
  obtain ⟨cm0, cm1, fm0, fm1⟩ := Xm.out
  have hnem := Xm.out.lt
  go_wp2_with fail
  clear cm0 cm1 fm0 fm1 hnem
  go_ret
  exact ⟨rfl, hbw⟩
theorem nearest_b {f p m l : Int} {S I H sd : Nat} {Be : Int} (J : Jn f p m l S I H sd Be) {q : Option Addr} {n c : Nat} {w : World} {x e : Int} {s : Bool} (h : ZN w s q n c x) (he : -4194304 ≤ e ∧ e ≤ 4194304) (h0 : x ≠ 0) (ht : Be ≤ e + bitsN x.natAbs - 1) :
    Calls Tryz.prog 60 #[WV p m l, ZV s q n c, .int .i64 e] w fun en w' => en = .returned (U (rnp l sd Be S I x e)) ∧ Below w.heap.size w w' := by
  have HZN : Hid (ZN w s q n c x) := h
  have HJN : Hid (Jn f p m l S I H sd Be) := J
  have hsg : (sgnI x == 0) = false := by
    have : sgnI x ≠ 0 := by rcases sgn3 x with ⟨_, h2⟩ | ⟨h1, _⟩ | ⟨_, h2⟩ <;> omega
    simp [this]
  obtain ⟨sx, hsx⟩ : ∃ sx, sx = sgnI x := ⟨_, rfl⟩
  rw [← hsx] at hsg
  have HSX : Hid (sgnI x = sx) := hsx.symm
  have hbn := (lim_bits x.natAbs).1 h.lim
  have hb0 := bitsN_pos (a := x.natAbs) (by omega)
  have hB1 := bitsN_lt x.natAbs
  have hB2 := bitsN_le x.natAbs (by omega)
  obtain ⟨L, hL⟩ : ∃ L, L = bitsN x.natAbs := ⟨_, rfl⟩
  rw [← hL] at ht
  have HLB : Hid (bitsN x.natAbs = L) := hL.symm
  obtain ⟨s1, hs1⟩ : ∃ s1 : Int, s1 = e + L := ⟨_, rfl⟩
  obtain ⟨top, htop⟩ : ∃ t : Int, t = s1 - 1 := ⟨_, rfl⟩
  rw [← hL] at hbn hb0 hB1 hB2
  have a1 : wrap64 (e + (L : Int)) = s1 := by rw [hs1]; simp only [wrap64]; omega
  have a2 : IntKind.i64.wrap (e + (L : Int)) = s1 := by rw [hs1]; simp [IntKind.wrap, IntKind.signed, IntKind.bits]; omega
  have a3 : wrap64 (s1 - 1) = top := by rw [htop]; simp only [wrap64]; omega
  have a4 : IntKind.i64.wrap (s1 - 1) = top := by rw [htop]; simp [IntKind.wrap, IntKind.signed, IntKind.bits]; omega
  have hneg : decide (x < 0) = s := h.sg.symm
  have d1 : decide (Be ≤ top) = true := decide_eq_true (by omega)
  obtain ⟨r, hr⟩ : ∃ r, r = rnp l sd Be S I x e := ⟨_, rfl⟩
  have HR : Hid ((if s then S + I else I) = r) := by
    show (if s then S + I else I) = r
    rw [hr]; unfold rnp rnz
    rw [if_neg h0, ← hL, if_pos (show Be ≤ e + L - 1 by omega), ← hneg]
    by_cases hx : x < 0
    · rw [decide_eq_true hx, if_pos rfl, if_pos hx]
    · rw [decide_eq_false hx, if_neg (by simp), if_neg hx]
  have HIS : Hid (I < S) := J.jm.pm.fm.lt
  rw [← hr]
  clear J h h0 hsx hbn hb0 hB1 hB2 hL hs1 htop hneg hr ht he
  go_enter Tryz.func60, Tryz.ntmps60
  go_wp2_with fail
  obtain ⟨W0, hW0⟩ : ∃ W0, W0 = ((w.alloc (.cells #[.int .i64 p, .int .i64 m, .int .i64 l] 75)).alloc (.cells #[.bool s, .slice q n c] 95)) := ⟨_, rfl⟩
  have Xg : Hid (B3q W0 (w.heap.size) (.int .i64 p) (.int .i64 m) (.int .i64 l)) := by rw [hW0]; exact ⟨by go_simp, by go_simp, by go_simp, by go_simp, by go_simp, by go_simp⟩
  have Xm : Hid (Box W0 (w.heap.size + 1) (.bool s) (.slice q n c)) := by rw [hW0]; exact ⟨by go_simp, by go_simp, by go_simp, by go_simp⟩
  have hb0 : Below w.heap.size w W0 := by rw [hW0]; exact below2 w _ _
  rw [← hW0]
  clear hW0
  have hbw : Below w.heap.size w w := Below.refl _ _
  obtain ⟨gm, hgm⟩ : ∃ g, g = w.heap.size + 1 := ⟨_, rfl⟩
  have HGm : Hid (w.heap.size ≤ gm) := by rw [hgm]; show _ ≤ _; omega
  rw [← hgm] at Xm
  try rw [← hgm]
  obtain ⟨gg, hgg⟩ : ∃ g, g = w.heap.size := ⟨_, rfl⟩
  have HGg : Hid (w.heap.size ≤ gg) := by rw [hgg]; show _ ≤ _; omega
  rw [← hgg] at Xg
  try rw [← hgg]
  have HGD : Hid (gg ≠ gm ∧ gm ≠ gg) := by rw [hgg, hgm]; exact ⟨by omega, by omega⟩
  clear hgg hgm
  replace hbw := Below.on hbw hb0
  clear hb0
  refine (zsign (HZN.out.below hbw)).mono ?_
  rintro e v1 ⟨rfl, hb1⟩
  rw [HSX.out]
  replace Xg : Hid _ := Xg.out.below hb1
  replace Xm : Hid _ := Xm.out.below hb1
  replace hbw := Below.on hbw hb1
  clear hb1
  obtain ⟨cm0, cm1, fm0, fm1⟩ := Xm.out
  have hnem := Xm.out.lt
  go_wp2_with fail
  clear cm0 cm1 fm0 fm1 hnem
  obtain ⟨xs, hX⟩ := (HZN.out.below hbw).ex
  refine (bits_any hX.at_ (by have := hX.le; omega)).mono ?_
  rintro e2 v2 ⟨rfl, hw⟩
  obtain rfl := hw.symm
  clear hw
  rw [hX.nf.val, HLB.out]
  clear hX
  obtain ⟨cg0, cg1, cg2, fg0, fg1, fg2⟩ := Xg.out
  have hneg : gg < v1.heap.size := World.block_lt_of_cell? v1 _ cg0
  go_wp2_with fail
  clear cg0 cg1 cg2 fg0 fg1 fg2 hneg
  refine (HJN.out.jm.be _).mono ?_
  rintro e v3 ⟨rfl, hb3⟩
  replace Xg : Hid _ := Xg.out.below hb3
  replace Xm : Hid _ := Xm.out.below hb3
  replace hbw := Below.on hbw hb3
  clear hb3
  obtain ⟨cg0, cg1, cg2, fg0, fg1, fg2⟩ := Xg.out
  have hneg : gg < v3.heap.size := World.block_lt_of_cell? v3 _ cg0
  obtain ⟨cm0, cm1, fm0, fm1⟩ := Xm.out
  have hnem := Xm.out.lt
  go_wp2_with fail
  clear cg0 cg1 cg2 fg0 fg1 fg2 hneg
  clear cm0 cm1 fm0 fm1 hnem
  obtain ⟨W5, hW5⟩ : ∃ W1, W1 = v3.drew := ⟨_, rfl⟩
  have hbd : Below v3.heap.size v3 W5 := by rw [hW5]; exact bDrew1 (Below.refl _ _)
  replace Xg : Hid _ := Xg.out.below hbd
  replace Xm : Hid _ := Xm.out.below hbd
  replace hbw := Below.on hbw hbd
  clear hbd
  have HJ : Hid ((fun W' : World => W'.cell? ⟨gg, 0, none⟩ = some (.int .i64 p) ∧ W'.cell? ⟨gg, 1, none⟩ = some (.int .i64 m) ∧ W'.cell? ⟨gg, 2, none⟩ = some (.int .i64 l) ∧ W'.cell? ⟨gm, 0, none⟩ = some (.bool s)) W5) := ⟨Xg.out.c0, Xg.out.c1, Xg.out.c2, Xm.out.c0⟩
  refine wp_region_J (fun W' => W'.cell? ⟨gg, 0, none⟩ = some (.int .i64 p) ∧ W'.cell? ⟨gg, 1, none⟩ = some (.int .i64 m) ∧ W'.cell? ⟨gg, 2, none⟩ = some (.int .i64 l) ∧ W'.cell? ⟨gm, 0, none⟩ = some (.bool s)) (by kernel_rfl) ?_
  rw [← hW5]
  clear hW5
  refine wpJ_tq 0 rfl HJ.out ?_
  refine wpJ_tq 1 rfl HJ.out ?_
  refine wpJ_tq 2 rfl HJ.out ?_
  refine wpJ_tq 3 rfl HJ.out ?_
  refine wpJ_on 4 rfl fun KJ hK => ?_
  go_simp
  refine (HJN.out.jm.pm.fm.inf _).mono ?_
  rintro e v5 ⟨rfl, hb5⟩
  replace Xg : Hid _ := Xg.out.below hb5
  replace Xm : Hid _ := Xm.out.below hb5
  replace hbw := Below.on hbw hb5
  clear hb5
  refine hK _ _ ⟨Xg.out.c0, Xg.out.c1, Xg.out.c2, Xm.out.c0⟩ ?_
  clear hK
  refine wpJ_on 5 rfl fun KJ hK => ?_
  go_simp
  refine (HJN.out.jm.pm.fm.sgn s I _ HIS.out).mono ?_
  rintro e v6 ⟨rfl, hb6⟩
  rw [HR.out]
  replace Xg : Hid _ := Xg.out.below hb6
  replace Xm : Hid _ := Xm.out.below hb6
  replace hbw := Below.on hbw hb6
  clear hb6
  clear HJ
  have HJ : Hid ((fun W' : World => W'.cell? ⟨gg, 0, none⟩ = some (.int .i64 p) ∧ W'.cell? ⟨gg, 1, none⟩ = some (.int .i64 m) ∧ W'.cell? ⟨gg, 2, none⟩ = some (.int .i64 l) ∧ W'.cell? ⟨gm, 0, none⟩ = some (.bool s)) v6) := ⟨Xg.out.c0, Xg.out.c1, Xg.out.c2, Xm.out.c0⟩
  refine hK _ _ HJ.out ?_
  clear hK
  refine wpJ_tq 6 rfl HJ.out ?_
  refine wpJ_done (by kernel_rfl) ?_ _
  clear HJ
  go_wp2_with fail
  go_ret
  exact ⟨rfl, hbw⟩
theorem nearest_n {f p m l : Int} {S I H sd : Nat} {Be : Int} (J : Jn f p m l S I H sd Be) {q : Option Addr} {n c : Nat} {w : World} {x e : Int} {s : Bool} (h : ZN w s q n c x) (he : -4194304 ≤ e ∧ e ≤ 4194304) (h0 : x ≠ 0) (ht : ¬ Be ≤ e + bitsN x.natAbs - 1) (heu : e < max (e + bitsN x.natAbs - 1 - sd) l) (hT : Tab w) :
    Calls Tryz.prog 60 #[WV p m l, ZV s q n c, .int .i64 e] w fun en w' => en = .returned (U (rnp l sd Be S I x e)) ∧ Below w.heap.size w w' := by
  have HZN : Hid (ZN w s q n c x) := h
  have HJN : Hid (Jn f p m l S I H sd Be) := J
  have hsg : (sgnI x == 0) = false := by
    have : sgnI x ≠ 0 := by rcases sgn3 x with ⟨_, h2⟩ | ⟨h1, _⟩ | ⟨_, h2⟩ <;> omega
    simp [this]
  obtain ⟨sx, hsx⟩ : ∃ sx, sx = sgnI x := ⟨_, rfl⟩
  rw [← hsx] at hsg
  have HSX : Hid (sgnI x = sx) := hsx.symm
  have hbn := (lim_bits x.natAbs).1 h.lim
  have hb0 := bitsN_pos (a := x.natAbs) (by omega)
  have hB1 := bitsN_lt x.natAbs
  have hB2 := bitsN_le x.natAbs (by omega)
  obtain ⟨L, hL⟩ : ∃ L, L = bitsN x.natAbs := ⟨_, rfl⟩
  rw [← hL] at ht heu
  have HLB : Hid (bitsN x.natAbs = L) := hL.symm
  obtain ⟨s1, hs1⟩ : ∃ s1 : Int, s1 = e + L := ⟨_, rfl⟩
  obtain ⟨top, htop⟩ : ∃ t : Int, t = s1 - 1 := ⟨_, rfl⟩
  rw [← hL] at hbn hb0 hB1 hB2
  have a1 : wrap64 (e + (L : Int)) = s1 := by rw [hs1]; simp only [wrap64]; omega
  have a2 : IntKind.i64.wrap (e + (L : Int)) = s1 := by rw [hs1]; simp [IntKind.wrap, IntKind.signed, IntKind.bits]; omega
  have a3 : wrap64 (s1 - 1) = top := by rw [htop]; simp only [wrap64]; omega
  have a4 : IntKind.i64.wrap (s1 - 1) = top := by rw [htop]; simp [IntKind.wrap, IntKind.signed, IntKind.bits]; omega
  have hneg : decide (x < 0) = s := h.sg.symm
  have d1 : decide (Be ≤ top) = false := decide_eq_false (by omega)
  have hRN := rn_of J (n := x.natAbs) (e := e) (by omega) he.1
  have hsl := J.jm.sl
  have hlo := J.jm.pm.lo
  have h9 := J.jm.pm.h9
  have hbu := J.jm.bu
  have hlt := J.jm.pm.fm.lt
  obtain ⟨u, hu⟩ : ∃ u : Int, u = max (top - sd) l := ⟨_, rfl⟩
  obtain ⟨k, hk⟩ : ∃ k : Nat, k = (u - e).toNat := ⟨_, rfl⟩
  obtain ⟨Q, hQ⟩ : ∃ Q : Nat, Q = (u - l).toNat := ⟨_, rfl⟩
  obtain ⟨y, hy⟩ : ∃ y : Nat, y = neN x.natAbs (2 ^ k) := ⟨_, rfl⟩
  obtain ⟨nn, hnn⟩ : ∃ nn : Int, nn = e - u := ⟨_, rfl⟩
  have hrz : rnz l sd Be I x.natAbs e = Q * H + y := by
    unfold rnz
    rw [← hL, if_neg (show ¬ Be ≤ e + L - 1 by omega), show e + (L : Int) - 1 - sd = top - sd from by omega, ← hu, ← hQ, ← J.jm.hs, if_pos (show e < u by omega), ← hk, ← hy]
  have hy2 : y ≤ 2 * H := by
    have g1 := hRN.le
    rw [hrz] at g1
    have g2 : y = x.natAbs / 2 ^ k + (neUp x.natAbs (2 ^ k)).toNat := by rw [hy]; rfl
    have g3 := Bool.toNat_le (neUp x.natAbs (2 ^ k))
    have g4 : x.natAbs / 2 ^ k < 2 * H := by
      refine Nat.div_lt_of_lt_mul (Nat.lt_of_lt_of_le hB1 ?_)
      rw [J.jm.hs, ← Nat.pow_succ', ← Nat.pow_add]
      exact Nat.pow_le_pow_right (by omega) (by omega)
    omega
  obtain ⟨r, hr⟩ : ∃ r, r = rnp l sd Be S I x e := ⟨_, rfl⟩
  have hQB : (Q : Int) < Be - l - sd := by have := J.hB; omega
  have HR : Hid ((if s then S + (Q * H + y) else Q * H + y) = r ∧ Q * H + y < S) := by
    refine ⟨?_, by rw [← hrz]; exact Nat.lt_of_le_of_lt hRN.le hlt⟩
    rw [hr]; unfold rnp
    rw [if_neg h0, hrz, ← hneg]
    by_cases hx : x < 0
    · rw [decide_eq_true hx, if_pos rfl, if_pos hx]
    · rw [decide_eq_false hx, if_neg (by simp), if_neg hx]
  have HTP : Hid (-1000000000000 ≤ top ∧ top ≤ 5000 ∧ max (top - sd) l = u) := ⟨by omega, by omega, hu.symm⟩
  have HSZ : Hid (u = l + Q ∧ Q < 2046 ∧ (Q : Int) < Be - l - sd ∧ y ≤ 2 * H) := ⟨by omega, by have := J.hB9; omega, hQB, hy2⟩
  have HMU : Hid (nn = -(k : Int) ∧ (0 < k ∧ k ≤ 4611686018427387904) ∧ y = neN x.natAbs (2 ^ k) ∧ y < B64) := ⟨by omega, by omega, hy, by rw [B64_eq]; omega⟩
  have a5 : wrap64 (e - u) = nn := by rw [hnn]; simp only [wrap64]; omega
  have a6 : IntKind.i64.wrap (e - u) = nn := by rw [hnn]; simp [IntKind.wrap, IntKind.signed, IntKind.bits]; omega
  rw [← hr]
  have TB : Hid (Tab w) := hT
  clear J h h0 hT hsx hbn hb0 hB1 hB2 hL hs1 htop hneg hr ht he hRN hsl hlo h9 hbu hlt hu hk hQ hy hnn hrz hy2 hQB heu
  go_enter Tryz.func60, Tryz.ntmps60
  go_wp2_with fail
  obtain ⟨W0, hW0⟩ : ∃ W0, W0 = ((w.alloc (.cells #[.int .i64 p, .int .i64 m, .int .i64 l] 75)).alloc (.cells #[.bool s, .slice q n c] 95)) := ⟨_, rfl⟩
  have Xg : Hid (B3q W0 (w.heap.size) (.int .i64 p) (.int .i64 m) (.int .i64 l)) := by rw [hW0]; exact ⟨by go_simp, by go_simp, by go_simp, by go_simp, by go_simp, by go_simp⟩
  have Xm : Hid (Box W0 (w.heap.size + 1) (.bool s) (.slice q n c)) := by rw [hW0]; exact ⟨by go_simp, by go_simp, by go_simp, by go_simp⟩
  have hb0 : Below w.heap.size w W0 := by rw [hW0]; exact below2 w _ _
  rw [← hW0]
  clear hW0
  have hbw : Below w.heap.size w w := Below.refl _ _
  obtain ⟨gm, hgm⟩ : ∃ g, g = w.heap.size + 1 := ⟨_, rfl⟩
  have HGm : Hid (w.heap.size ≤ gm) := by rw [hgm]; show _ ≤ _; omega
  rw [← hgm] at Xm
  try rw [← hgm]
  obtain ⟨gg, hgg⟩ : ∃ g, g = w.heap.size := ⟨_, rfl⟩
  have HGg : Hid (w.heap.size ≤ gg) := by rw [hgg]; show _ ≤ _; omega
  rw [← hgg] at Xg
  try rw [← hgg]
  have HGD : Hid (gg ≠ gm ∧ gm ≠ gg) := by rw [hgg, hgm]; exact ⟨by omega, by omega⟩
  clear hgg hgm
  replace hbw := Below.on hbw hb0
  clear hb0
  refine (zsign (HZN.out.below hbw)).mono ?_
  rintro e v1 ⟨rfl, hb1⟩
  rw [HSX.out]
  replace Xg : Hid _ := Xg.out.below hb1
  replace Xm : Hid _ := Xm.out.below hb1
  replace hbw := Below.on hbw hb1
  clear hb1
  obtain ⟨cm0, cm1, fm0, fm1⟩ := Xm.out
  have hnem := Xm.out.lt
  go_wp2_with fail
  clear cm0 cm1 fm0 fm1 hnem
  obtain ⟨xs, hX⟩ := (HZN.out.below hbw).ex
  refine (bits_any hX.at_ (by have := hX.le; omega)).mono ?_
  rintro e2 v2 ⟨rfl, hw⟩
  obtain rfl := hw.symm
  clear hw
  rw [hX.nf.val, HLB.out]
  clear hX
  obtain ⟨cg0, cg1, cg2, fg0, fg1, fg2⟩ := Xg.out
  have hneg : gg < v1.heap.size := World.block_lt_of_cell? v1 _ cg0
  go_wp2_with fail
  clear cg0 cg1 cg2 fg0 fg1 fg2 hneg
  refine (HJN.out.jm.be _).mono ?_
  rintro e v3 ⟨rfl, hb3⟩
  replace Xg : Hid _ := Xg.out.below hb3
  replace Xm : Hid _ := Xm.out.below hb3
  replace hbw := Below.on hbw hb3
  clear hb3
  obtain ⟨cg0, cg1, cg2, fg0, fg1, fg2⟩ := Xg.out
  have hneg : gg < v3.heap.size := World.block_lt_of_cell? v3 _ cg0
  obtain ⟨cm0, cm1, fm0, fm1⟩ := Xm.out
  have hnem := Xm.out.lt
  go_wp2_with fail
  clear cg0 cg1 cg2 fg0 fg1 fg2 hneg
  clear cm0 cm1 fm0 fm1 hnem
  refine (HJN.out.jm.un top _ HTP.out.1 HTP.out.2.1).mono ?_
  rintro e v4 ⟨rfl, hb4⟩
  rw [HTP.out.2.2]
  replace Xg : Hid _ := Xg.out.below hb4
  replace Xm : Hid _ := Xm.out.below hb4
  replace hbw := Below.on hbw hb4
  clear hb4
  obtain ⟨cg0, cg1, cg2, fg0, fg1, fg2⟩ := Xg.out
  have hneg : gg < v4.heap.size := World.block_lt_of_cell? v4 _ cg0
  obtain ⟨cm0, cm1, fm0, fm1⟩ := Xm.out
  have hnem := Xm.out.lt
  go_wp2_with fail
  clear cg0 cg1 cg2 fg0 fg1 fg2 hneg
  clear cm0 cm1 fm0 fm1 hnem
  obtain ⟨W5, hW5⟩ : ∃ W1, W1 = v4.drew := ⟨_, rfl⟩
  have hbd : Below v4.heap.size v4 W5 := by rw [hW5]; exact bDrew1 (Below.refl _ _)
  replace Xg : Hid _ := Xg.out.below hbd
  replace Xm : Hid _ := Xm.out.below hbd
  replace hbw := Below.on hbw hbd
  clear hbd
  have HJ : Hid ((fun W' : World => W'.cell? ⟨gg, 0, none⟩ = some (.int .i64 p) ∧ W'.cell? ⟨gg, 1, none⟩ = some (.int .i64 m) ∧ W'.cell? ⟨gg, 2, none⟩ = some (.int .i64 l) ∧ W'.cell? ⟨gm, 0, none⟩ = some (.bool s) ∧ W'.cell? ⟨gm, 1, none⟩ = some (.slice q n c)) W5) := ⟨Xg.out.c0, Xg.out.c1, Xg.out.c2, Xm.out.c0, Xm.out.c1⟩
  refine wp_region_J (fun W' => W'.cell? ⟨gg, 0, none⟩ = some (.int .i64 p) ∧ W'.cell? ⟨gg, 1, none⟩ = some (.int .i64 m) ∧ W'.cell? ⟨gg, 2, none⟩ = some (.int .i64 l) ∧ W'.cell? ⟨gm, 0, none⟩ = some (.bool s) ∧ W'.cell? ⟨gm, 1, none⟩ = some (.slice q n c)) (by kernel_rfl) ?_
  rw [← hW5]
  clear hW5
  refine wpJ_tq 0 rfl HJ.out ?_
  refine wpJ_tq 1 rfl HJ.out ?_
  refine wpJ_tq 2 rfl HJ.out ?_
  refine wpJ_tq 3 rfl HJ.out ?_
  refine wpJ_tq 4 rfl HJ.out ?_
  refine wpJ_tq 5 rfl HJ.out ?_
  refine wpJ_tq 6 rfl HJ.out ?_
  refine wpJ_tq 7 rfl HJ.out ?_
  refine wpJ_tq 9 rfl HJ.out ?_
  refine wpJ_on 8 rfl fun KJ hK => ?_
  go_simp
  refine (multiple_n (HZN.out.below hbw) k y nn HMU.out.1 HMU.out.2.1 HMU.out.2.2.1 HMU.out.2.2.2 (TB.out.below hbw)).mono ?_
  rintro e v5 ⟨rfl, hb5⟩
  replace Xg : Hid _ := Xg.out.below hb5
  replace Xm : Hid _ := Xm.out.below hb5
  replace hbw := Below.on hbw hb5
  clear hb5
  refine hK _ _ ⟨Xg.out.c0, Xg.out.c1, Xg.out.c2, Xm.out.c0, Xm.out.c1⟩ ?_
  clear hK
  refine wpJ_on 10 rfl fun KJ hK => ?_
  go_simp
  refine (HJN.out.jm.sz y Q u _ HSZ.out.1 HSZ.out.2.1 HSZ.out.2.2.1 HSZ.out.2.2.2).mono ?_
  rintro e v6 ⟨rfl, hb6⟩
  replace Xg : Hid _ := Xg.out.below hb6
  replace Xm : Hid _ := Xm.out.below hb6
  replace hbw := Below.on hbw hb6
  clear hb6
  refine hK _ _ ⟨Xg.out.c0, Xg.out.c1, Xg.out.c2, Xm.out.c0, Xm.out.c1⟩ ?_
  clear hK
  refine wpJ_on 11 rfl fun KJ hK => ?_
  go_simp
  refine (HJN.out.jm.pm.fm.sgn s (Q * H + y) _ HR.out.2).mono ?_
  rintro e v7 ⟨rfl, hb7⟩
  rw [HR.out.1]
  replace Xg : Hid _ := Xg.out.below hb7
  replace Xm : Hid _ := Xm.out.below hb7
  replace hbw := Below.on hbw hb7
  clear hb7
  clear HJ
  have HJ : Hid ((fun W' : World => W'.cell? ⟨gg, 0, none⟩ = some (.int .i64 p) ∧ W'.cell? ⟨gg, 1, none⟩ = some (.int .i64 m) ∧ W'.cell? ⟨gg, 2, none⟩ = some (.int .i64 l) ∧ W'.cell? ⟨gm, 0, none⟩ = some (.bool s) ∧ W'.cell? ⟨gm, 1, none⟩ = some (.slice q n c)) v7) := ⟨Xg.out.c0, Xg.out.c1, Xg.out.c2, Xm.out.c0, Xm.out.c1⟩
  refine hK _ _ HJ.out ?_
  clear hK
  refine wpJ_tq 12 rfl HJ.out ?_
  refine wpJ_done (by kernel_rfl) ?_ _
  clear HJ
  go_wp2_with fail
  go_ret
  exact ⟨rfl, hbw⟩
theorem nearest_p {f p m l : Int} {S I H sd : Nat} {Be : Int} (J : Jn f p m l S I H sd Be) {q : Option Addr} {n c : Nat} {w : World} {x e : Int} {s : Bool} (h : ZN w s q n c x) (he : -4194304 ≤ e ∧ e ≤ 4194304) (h0 : x ≠ 0) (ht : ¬ Be ≤ e + bitsN x.natAbs - 1) (heu : ¬ e < max (e + bitsN x.natAbs - 1 - sd) l) :
    Calls Tryz.prog 60 #[WV p m l, ZV s q n c, .int .i64 e] w fun en w' => en = .returned (U (rnp l sd Be S I x e)) ∧ Below w.heap.size w w' := by
  have HZN : Hid (ZN w s q n c x) := h
  have HJN : Hid (Jn f p m l S I H sd Be) := J
  have hsg : (sgnI x == 0) = false := by
    have : sgnI x ≠ 0 := by rcases sgn3 x with ⟨_, h2⟩ | ⟨h1, _⟩ | ⟨_, h2⟩ <;> omega
    simp [this]
  obtain ⟨sx, hsx⟩ : ∃ sx, sx = sgnI x := ⟨_, rfl⟩
  rw [← hsx] at hsg
  have HSX : Hid (sgnI x = sx) := hsx.symm
  have hbn := (lim_bits x.natAbs).1 h.lim
  have hb0 := bitsN_pos (a := x.natAbs) (by omega)
  have hB1 := bitsN_lt x.natAbs
  have hB2 := bitsN_le x.natAbs (by omega)
  obtain ⟨L, hL⟩ : ∃ L, L = bitsN x.natAbs := ⟨_, rfl⟩
  rw [← hL] at ht heu
  have HLB : Hid (bitsN x.natAbs = L) := hL.symm
  obtain ⟨s1, hs1⟩ : ∃ s1 : Int, s1 = e + L := ⟨_, rfl⟩
  obtain ⟨top, htop⟩ : ∃ t : Int, t = s1 - 1 := ⟨_, rfl⟩
  rw [← hL] at hbn hb0 hB1 hB2
  have a1 : wrap64 (e + (L : Int)) = s1 := by rw [hs1]; simp only [wrap64]; omega
  have a2 : IntKind.i64.wrap (e + (L : Int)) = s1 := by rw [hs1]; simp [IntKind.wrap, IntKind.signed, IntKind.bits]; omega
  have a3 : wrap64 (s1 - 1) = top := by rw [htop]; simp only [wrap64]; omega
  have a4 : IntKind.i64.wrap (s1 - 1) = top := by rw [htop]; simp [IntKind.wrap, IntKind.signed, IntKind.bits]; omega
  have hneg : decide (x < 0) = s := h.sg.symm
  have d1 : decide (Be ≤ top) = false := decide_eq_false (by omega)
  have hRN := rn_of J (n := x.natAbs) (e := e) (by omega) he.1
  have hsl := J.jm.sl
  have hlo := J.jm.pm.lo
  have h9 := J.jm.pm.h9
  have hbu := J.jm.bu
  have hlt := J.jm.pm.fm.lt
  obtain ⟨u, hu⟩ : ∃ u : Int, u = max (top - sd) l := ⟨_, rfl⟩
  obtain ⟨k, hk⟩ : ∃ k : Nat, k = (e - u).toNat := ⟨_, rfl⟩
  obtain ⟨Q, hQ⟩ : ∃ Q : Nat, Q = (u - l).toNat := ⟨_, rfl⟩
  obtain ⟨y, hy⟩ : ∃ y : Nat, y = x.natAbs * 2 ^ k := ⟨_, rfl⟩
  obtain ⟨nn, hnn⟩ : ∃ nn : Int, nn = e - u := ⟨_, rfl⟩
  have hrz : rnz l sd Be I x.natAbs e = Q * H + y := by
    unfold rnz
    rw [← hL, if_neg (show ¬ Be ≤ e + L - 1 by omega), show e + (L : Int) - 1 - sd = top - sd from by omega, ← hu, ← hQ, ← J.jm.hs, if_neg (show ¬ e < u by omega), ← hk, ← hy]
  have hy2 : y ≤ 2 * H := by
    have g4 : x.natAbs * 2 ^ k < 2 ^ L * 2 ^ k := Nat.mul_lt_mul_of_pos_right hB1 (Nat.pow_pos (by omega))
    have g5 : 2 ^ L * 2 ^ k ≤ 2 * H := by
      rw [J.jm.hs, ← Nat.pow_succ', ← Nat.pow_add]
      exact Nat.pow_le_pow_right (by omega) (by omega)
    omega
  obtain ⟨r, hr⟩ : ∃ r, r = rnp l sd Be S I x e := ⟨_, rfl⟩
  have hQB : (Q : Int) < Be - l - sd := by have := J.hB; omega
  have HR : Hid ((if s then S + (Q * H + y) else Q * H + y) = r ∧ Q * H + y < S) := by
    refine ⟨?_, by rw [← hrz]; exact Nat.lt_of_le_of_lt hRN.le hlt⟩
    rw [hr]; unfold rnp
    rw [if_neg h0, hrz, ← hneg]
    by_cases hx : x < 0
    · rw [decide_eq_true hx, if_pos rfl, if_pos hx]
    · rw [decide_eq_false hx, if_neg (by simp), if_neg hx]
  have HTP : Hid (-1000000000000 ≤ top ∧ top ≤ 5000 ∧ max (top - sd) l = u) := ⟨by omega, by omega, hu.symm⟩
  have HSZ : Hid (u = l + Q ∧ Q < 2046 ∧ (Q : Int) < Be - l - sd ∧ y ≤ 2 * H) := ⟨by omega, by have := J.hB9; omega, hQB, hy2⟩
  have HMU : Hid (nn = (k : Int) ∧ k ≤ 4611686018427387904 ∧ y = x.natAbs * 2 ^ k ∧ y < B64) := ⟨by omega, by omega, hy, by rw [B64_eq]; omega⟩
  have a5 : wrap64 (e - u) = nn := by rw [hnn]; simp only [wrap64]; omega
  have a6 : IntKind.i64.wrap (e - u) = nn := by rw [hnn]; simp [IntKind.wrap, IntKind.signed, IntKind.bits]; omega
  rw [← hr]
  clear J h h0 hsx hbn hb0 hB1 hB2 hL hs1 htop hneg hr ht he hRN hsl hlo h9 hbu hlt hu hk hQ hy hnn hrz hy2 hQB heu
  go_enter Tryz.func60, Tryz.ntmps60
  go_wp2_with fail
  obtain ⟨W0, hW0⟩ : ∃ W0, W0 = ((w.alloc (.cells #[.int .i64 p, .int .i64 m, .int .i64 l] 75)).alloc (.cells #[.bool s, .slice q n c] 95)) := ⟨_, rfl⟩
  have Xg : Hid (B3q W0 (w.heap.size) (.int .i64 p) (.int .i64 m) (.int .i64 l)) := by rw [hW0]; exact ⟨by go_simp, by go_simp, by go_simp, by go_simp, by go_simp, by go_simp⟩
  have Xm : Hid (Box W0 (w.heap.size + 1) (.bool s) (.slice q n c)) := by rw [hW0]; exact ⟨by go_simp, by go_simp, by go_simp, by go_simp⟩
  have hb0 : Below w.heap.size w W0 := by rw [hW0]; exact below2 w _ _
  rw [← hW0]
  clear hW0
  have hbw : Below w.heap.size w w := Below.refl _ _
  obtain ⟨gm, hgm⟩ : ∃ g, g = w.heap.size + 1 := ⟨_, rfl⟩
  have HGm : Hid (w.heap.size ≤ gm) := by rw [hgm]; show _ ≤ _; omega
  rw [← hgm] at Xm
  try rw [← hgm]
  obtain ⟨gg, hgg⟩ : ∃ g, g = w.heap.size := ⟨_, rfl⟩
  have HGg : Hid (w.heap.size ≤ gg) := by rw [hgg]; show _ ≤ _; omega
  rw [← hgg] at Xg
  try rw [← hgg]
  have HGD : Hid (gg ≠ gm ∧ gm ≠ gg) := by rw [hgg, hgm]; exact ⟨by omega, by omega⟩
  clear hgg hgm
  replace hbw := Below.on hbw hb0
  clear hb0
  refine (zsign (HZN.out.below hbw)).mono ?_
  rintro e v1 ⟨rfl, hb1⟩
  rw [HSX.out]
  replace Xg : Hid _ := Xg.out.below hb1
  replace Xm : Hid _ := Xm.out.below hb1
  replace hbw := Below.on hbw hb1
  clear hb1
  obtain ⟨cm0, cm1, fm0, fm1⟩ := Xm.out
  have hnem := Xm.out.lt
  go_wp2_with fail
  clear cm0 cm1 fm0 fm1 hnem
  obtain ⟨xs, hX⟩ := (HZN.out.below hbw).ex
  refine (bits_any hX.at_ (by have := hX.le; omega)).mono ?_
  rintro e2 v2 ⟨rfl, hw⟩
  obtain rfl := hw.symm
  clear hw
  rw [hX.nf.val, HLB.out]
  clear hX
  obtain ⟨cg0, cg1, cg2, fg0, fg1, fg2⟩ := Xg.out
  have hneg : gg < v1.heap.size := World.block_lt_of_cell? v1 _ cg0
  go_wp2_with fail
  clear cg0 cg1 cg2 fg0 fg1 fg2 hneg
  refine (HJN.out.jm.be _).mono ?_
  rintro e v3 ⟨rfl, hb3⟩
  replace Xg : Hid _ := Xg.out.below hb3
  replace Xm : Hid _ := Xm.out.below hb3
  replace hbw := Below.on hbw hb3
  clear hb3
  obtain ⟨cg0, cg1, cg2, fg0, fg1, fg2⟩ := Xg.out
  have hneg : gg < v3.heap.size := World.block_lt_of_cell? v3 _ cg0
  obtain ⟨cm0, cm1, fm0, fm1⟩ := Xm.out
  have hnem := Xm.out.lt
  go_wp2_with fail
  clear cg0 cg1 cg2 fg0 fg1 fg2 hneg
  clear cm0 cm1 fm0 fm1 hnem
  refine (HJN.out.jm.un top _ HTP.out.1 HTP.out.2.1).mono ?_
  rintro e v4 ⟨rfl, hb4⟩
  rw [HTP.out.2.2]
  replace Xg : Hid _ := Xg.out.below hb4
  replace Xm : Hid _ := Xm.out.below hb4
  replace hbw := Below.on hbw hb4
  clear hb4
  obtain ⟨cg0, cg1, cg2, fg0, fg1, fg2⟩ := Xg.out
  have hneg : gg < v4.heap.size := World.block_lt_of_cell? v4 _ cg0
  obtain ⟨cm0, cm1, fm0, fm1⟩ := Xm.out
  have hnem := Xm.out.lt
  go_wp2_with fail
  clear cg0 cg1 cg2 fg0 fg1 fg2 hneg
  clear cm0 cm1 fm0 fm1 hnem
  obtain ⟨W5, hW5⟩ : ∃ W1, W1 = v4.drew := ⟨_, rfl⟩
  have hbd : Below v4.heap.size v4 W5 := by rw [hW5]; exact bDrew1 (Below.refl _ _)
  replace Xg : Hid _ := Xg.out.below hbd
  replace Xm : Hid _ := Xm.out.below hbd
  replace hbw := Below.on hbw hbd
  clear hbd
  have HJ : Hid ((fun W' : World => W'.cell? ⟨gg, 0, none⟩ = some (.int .i64 p) ∧ W'.cell? ⟨gg, 1, none⟩ = some (.int .i64 m) ∧ W'.cell? ⟨gg, 2, none⟩ = some (.int .i64 l) ∧ W'.cell? ⟨gm, 0, none⟩ = some (.bool s) ∧ W'.cell? ⟨gm, 1, none⟩ = some (.slice q n c)) W5) := ⟨Xg.out.c0, Xg.out.c1, Xg.out.c2, Xm.out.c0, Xm.out.c1⟩
  refine wp_region_J (fun W' => W'.cell? ⟨gg, 0, none⟩ = some (.int .i64 p) ∧ W'.cell? ⟨gg, 1, none⟩ = some (.int .i64 m) ∧ W'.cell? ⟨gg, 2, none⟩ = some (.int .i64 l) ∧ W'.cell? ⟨gm, 0, none⟩ = some (.bool s) ∧ W'.cell? ⟨gm, 1, none⟩ = some (.slice q n c)) (by kernel_rfl) ?_
  rw [← hW5]
  clear hW5
  refine wpJ_tq 0 rfl HJ.out ?_
  refine wpJ_tq 1 rfl HJ.out ?_
  refine wpJ_tq 2 rfl HJ.out ?_
  refine wpJ_tq 3 rfl HJ.out ?_
  refine wpJ_tq 4 rfl HJ.out ?_
  refine wpJ_tq 5 rfl HJ.out ?_
  refine wpJ_tq 6 rfl HJ.out ?_
  refine wpJ_tq 7 rfl HJ.out ?_
  refine wpJ_tq 9 rfl HJ.out ?_
  refine wpJ_on 8 rfl fun KJ hK => ?_
  go_simp
  refine (multiple_p (HZN.out.below hbw) k y nn HMU.out.1 HMU.out.2.1 HMU.out.2.2.1 HMU.out.2.2.2).mono ?_
  rintro e v5 ⟨rfl, hb5⟩
  replace Xg : Hid _ := Xg.out.below hb5
  replace Xm : Hid _ := Xm.out.below hb5
  replace hbw := Below.on hbw hb5
  clear hb5
  refine hK _ _ ⟨Xg.out.c0, Xg.out.c1, Xg.out.c2, Xm.out.c0, Xm.out.c1⟩ ?_
  clear hK
  refine wpJ_on 10 rfl fun KJ hK => ?_
  go_simp
  refine (HJN.out.jm.sz y Q u _ HSZ.out.1 HSZ.out.2.1 HSZ.out.2.2.1 HSZ.out.2.2.2).mono ?_
  rintro e v6 ⟨rfl, hb6⟩
  replace Xg : Hid _ := Xg.out.below hb6
  replace Xm : Hid _ := Xm.out.below hb6
  replace hbw := Below.on hbw hb6
  clear hb6
  refine hK _ _ ⟨Xg.out.c0, Xg.out.c1, Xg.out.c2, Xm.out.c0, Xm.out.c1⟩ ?_
  clear hK
  refine wpJ_on 11 rfl fun KJ hK => ?_
  go_simp
  refine (HJN.out.jm.pm.fm.sgn s (Q * H + y) _ HR.out.2).mono ?_
  rintro e v7 ⟨rfl, hb7⟩
  rw [HR.out.1]
  replace Xg : Hid _ := Xg.out.below hb7
  replace Xm : Hid _ := Xm.out.below hb7
  replace hbw := Below.on hbw hb7
  clear hb7
  clear HJ
  have HJ : Hid ((fun W' : World => W'.cell? ⟨gg, 0, none⟩ = some (.int .i64 p) ∧ W'.cell? ⟨gg, 1, none⟩ = some (.int .i64 m) ∧ W'.cell? ⟨gg, 2, none⟩ = some (.int .i64 l) ∧ W'.cell? ⟨gm, 0, none⟩ = some (.bool s) ∧ W'.cell? ⟨gm, 1, none⟩ = some (.slice q n c)) v7) := ⟨Xg.out.c0, Xg.out.c1, Xg.out.c2, Xm.out.c0, Xm.out.c1⟩
  refine hK _ _ HJ.out ?_
  clear hK
  refine wpJ_tq 12 rfl HJ.out ?_
  refine wpJ_done (by kernel_rfl) ?_ _
  clear HJ
  go_wp2_with fail
  go_ret
  exact ⟨rfl, hbw⟩
theorem nearest_ok {f p m l : Int} {S I H sd : Nat} {Be : Int} (J : Jn f p m l S I H sd Be) {q : Option Addr} {n c : Nat} {w : World} {x e : Int} {s : Bool} (h : ZN w s q n c x) (he : -4194304 ≤ e ∧ e ≤ 4194304) (hT : Tab w) :
    Calls Tryz.prog 60 #[WV p m l, ZV s q n c, .int .i64 e] w fun en w' => en = .returned (U (rnp l sd Be S I x e)) ∧ Below w.heap.size w w' := by
  by_cases h0 : x = 0
  · exact nearest_z J h h0
  · by_cases ht : Be ≤ e + bitsN x.natAbs - 1
    · exact nearest_b J h he h0 ht
    · by_cases heu : e < max (e + bitsN x.natAbs - 1 - sd) l
      · exact nearest_n J h he h0 ht heu hT
      · exact nearest_p J h he h0 ht heu
theorem rnearest {f p m l : Int} {S I H sd : Nat} {Be : Int} (J : Jn f p m l S I H sd Be) {q : Option Addr} {n c : Nat} {w : World} {x e : Int} {s : Bool} (h : DN w s q n c e x) (hT : Tab w) :
    Calls Tryz.prog 195 #[.int .i64 f, DV s q n c e] w fun en w' => en = .returned (.tuple #[U (rnp l sd Be S I x e), .int .i64 0]) ∧ Below w.heap.size w w' := by
  have HJN : Hid (Jn f p m l S I H sd Be) := J
  have HDN : Hid (DN w s q n c e x) := h
  have TB : Hid (Tab w) := hT
  have HE : Hid (-4194304 ≤ e ∧ e ≤ 4194304) := by rcases h.fm with ⟨_, h2⟩ | ⟨_, h2, h3⟩ <;> (show _ ∧ _) <;> omega
  obtain ⟨r, hr⟩ : ∃ r, r = rnp l sd Be S I x e := ⟨_, rfl⟩
  have HR : Hid (rnp l sd Be S I x e = r) := hr.symm
  rw [← hr]
  clear J h hT hr
  go_enter Tryz.func195, Tryz.ntmps195
  go_wp2_with fail
  obtain ⟨W0, hW0⟩ : ∃ W0, W0 = (w.alloc (.cells #[.bool s, .slice q n c, .int .i64 e] 97)) := ⟨_, rfl⟩
  have Xd : Hid (B3q W0 (w.heap.size) (.bool s) (.slice q n c) (.int .i64 e)) := by rw [hW0]; exact ⟨by go_simp, by go_simp, by go_simp, by go_simp, by go_simp, by go_simp⟩
  have hb0 : Below w.heap.size w W0 := by rw [hW0]; exact below1 w _
  rw [← hW0]
  clear hW0
  have hbw : Below w.heap.size w w := Below.refl _ _
  obtain ⟨gd, hgd⟩ : ∃ g, g = w.heap.size := ⟨_, rfl⟩
  have HGd : Hid (w.heap.size ≤ gd) := by rw [hgd]; show _ ≤ _; omega
  rw [← hgd] at Xd
  try rw [← hgd]
  clear hgd
  replace hbw := Below.on hbw hb0
  clear hb0
  refine (HJN.out.jm.pm.fm.of _).mono ?_
  rintro e v1 ⟨rfl, hb1⟩
  replace Xd : Hid _ := Xd.out.below hb1
  replace hbw := Below.on hbw hb1
  clear hb1
  obtain ⟨cd0, cd1, cd2, fd0, fd1, fd2⟩ := Xd.out
  have hned : gd < v1.heap.size := World.block_lt_of_cell? v1 _ cd0
  go_wp2_with fail
  clear cd0 cd1 cd2 fd0 fd1 fd2 hned
  have Xg0 : Hid (B3q (v1.alloc (.cells #[.int .i64 p, .int .i64 m, .int .i64 l] 75)) v1.heap.size (.int .i64 p) (.int .i64 m) (.int .i64 l)) := B3q.new v1 _ _ _ _
  have hbn : Below v1.heap.size v1 (v1.alloc (.cells #[.int .i64 p, .int .i64 m, .int .i64 l] 75)) := below1 v1 _
  generalize v1.alloc (.cells #[.int .i64 p, .int .i64 m, .int .i64 l] 75) = Wg at *
  have HGg : Hid (w.heap.size ≤ v1.heap.size) := hbw.size
  replace Xd : Hid _ := Xd.out.below hbn
  replace hbw := Below.on hbw hbn
  clear hbn
  generalize v1.heap.size = gg at *
  have Xg := Xg0
  clear Xg0
  refine (dform_t (HDN.out.below hbw)).mono ?_
  rintro e v2 ⟨rfl, hb2⟩
  replace Xd : Hid _ := Xd.out.below hb2
  replace Xg : Hid _ := Xg.out.below hb2
  replace hbw := Below.on hbw hb2
  clear hb2
  obtain ⟨cd0, cd1, cd2, fd0, fd1, fd2⟩ := Xd.out
  have hned : gd < v2.heap.size := World.block_lt_of_cell? v2 _ cd0
  obtain ⟨cg0, cg1, cg2, fg0, fg1, fg2⟩ := Xg.out
  have hneg : gg < v2.heap.size := World.block_lt_of_cell? v2 _ cg0
  go_wp2_with fail
  clear cd0 cd1 cd2 fd0 fd1 fd2 hned
  clear cg0 cg1 cg2 fg0 fg1 fg2 hneg
  refine (nearest_ok HJN.out (HDN.out.zn.below hbw) HE.out (TB.out.below hbw)).mono ?_
  rintro e v3 ⟨rfl, hb3⟩
  rw [HR.out]
  replace Xd : Hid _ := Xd.out.below hb3
  replace Xg : Hid _ := Xg.out.below hb3
  replace hbw := Below.on hbw hb3
  clear hb3
  go_wp2_with fail
  go_ret2
  exact ⟨rfl, hbw⟩
structure It where
  p : Option Addr
  n : Nat
  c : Nat
  xs : List Nat
  a : Nat
structure Lists (w : World) (P : Option Addr) (N C : Nat) (its : List It) : Prop where
  len : its.length = N
  cap : N ≤ C
  big : C ≤ maxLen
  cells : N = 0 ∨ ∃ g off, P = some ⟨g, off, none⟩ ∧ ∀ j (h : j < its.length), w.cell? ⟨g, off + j, none⟩ = some (.slice its[j].p its[j].n its[j].c)
  nums : ∀ t ∈ its, Num w t.p t.n t.c t.xs t.a
theorem Lists.below {w w' : World} {P : Option Addr} {N C : Nat} {its : List It} (h : Lists w P N C its) (hb : Below w.heap.size w w') : Lists w' P N C its := by
  refine ⟨h.len, h.cap, h.big, ?_, fun t ht => (h.nums t ht).below hb⟩
  rcases h.cells with h0 | ⟨g, off, rfl, hc⟩
  · exact .inl h0
  · exact .inr ⟨g, off, rfl, fun j hj => (hb.cell (p := ⟨g, off + j, none⟩) (World.block_lt_of_cell? w _ (hc j hj))).trans (hc j hj)⟩
def prodI : List It → Nat
  | [] => 1
  | t :: ts => t.a * prodI ts
theorem Lists.take {w : World} {g off N C : Nat} {its : List It} (h : Lists w (some ⟨g, off, none⟩) N C its) (k : Nat) (hk : k ≤ N) : Lists w (some ⟨g, off, none⟩) k k (its.take k) := by
  have hl := h.len; have hc := h.cap; have hb := h.big
  refine ⟨by rw [List.length_take]; omega, Nat.le_refl _, by omega, ?_, fun t ht => h.nums t (List.mem_of_mem_take ht)⟩
  rcases h.cells with h0 | ⟨g', off', he, hcl⟩
  · exact .inl (by omega)
  · refine .inr ⟨g', off', he, fun j hj => ?_⟩
    have hj2 : j < its.length := by rw [List.length_take] at hj; omega
    rw [hcl j hj2]; simp
theorem Lists.drop {w : World} {g off N C : Nat} {its : List It} (h : Lists w (some ⟨g, off, none⟩) N C its) (k : Nat) (hk : k < N) : Lists w (some ⟨g, off + k, none⟩) (N - k) (C - k) (its.drop k) := by
  have hl := h.len; have hc := h.cap; have hb := h.big
  refine ⟨by rw [List.length_drop]; omega, by omega, by omega, ?_, fun t ht => h.nums t (List.mem_of_mem_drop ht)⟩
  rcases h.cells with h0 | ⟨g', off', he, hcl⟩
  · omega
  · simp only [Option.some.injEq, Addr.mk.injEq, and_true] at he
    obtain ⟨rfl, rfl⟩ := he
    refine .inr ⟨g, off + k, rfl, fun j hj => ?_⟩
    have hj2 : k + j < its.length := by rw [List.length_drop] at hj; omega
    have := hcl (k + j) hj2
    rw [← Nat.add_assoc] at this
    rw [this]; simp
theorem Lists.pos {w : World} {P : Option Addr} {N C : Nat} {its : List It} (_h : Lists w P N C its) (hp : ∀ t ∈ its, 0 < t.a) : 0 < prodI its := by
  clear _h
  induction its with
  | nil => simp [prodI]
  | cons t ts ih => exact Nat.mul_pos (hp t (by simp)) (ih (fun u hu => hp u (by simp [hu])))
end Go.Proofs.YtmhkabomabkkfaaGreatDoor
namespace Go.Proofs.YtmhkabomabkkfaaGreatDoor
open Go.RowKit
set_option maxRecDepth 20000
set_option maxHeartbeats 0
theorem sqr_any {p : Option Addr} {n c : Nat} {xs : List Nat} {a : Nat} {w : World} (h : At w p n c xs) (hx : Nf B64 xs a) (hlx : n ≤ 8192) :
    Calls Tryz.prog 161 #[.slice p n c] w fun e w' => Ans w.heap.size w' e (a * a) ∧ Below w.heap.size w w' := by
  have HX : Hid (Nf B64 xs a) := hx
  clear hx
  go_enter Tryz.func161, Tryz.ntmps161
  go_wp2_with fail
  refine (mul_any h h HX.out HX.out hlx hlx).mono ?_
  rintro e w1 ⟨ha, hb⟩
  rcases ha with ⟨hl, p1, m1, zs, rfl, ho, hn1, hm1⟩ | ⟨hl, rfl⟩
  · have HL : Hid (a * a < LIM) := hl
    clear hl
    go_wp2_with fail
    go_ret2
    exact ⟨.inl ⟨HL.out, p1, m1, zs, rfl, ho, hn1, hm1⟩, hb⟩
  · have HL : Hid (LIM ≤ a * a) := hl
    clear hl
    go_wp2_with fail
    go_ret2
    exact ⟨.inr ⟨HL.out, rfl⟩, hb⟩
theorem Nf.drop {xs : List Nat} {a k : Nat} (hx : Nf B64 xs a) (hk : k ≤ xs.length) : Nf B64 (xs.drop k) (a / B64 ^ k) := by
  refine ⟨hx.dig.drop k, ?_, drop_div hx hk⟩
  intro x h
  refine hx.top x ?_
  by_cases hkl : k < xs.length
  · rw [List.getLast?_drop, if_neg (by omega)] at h; exact h
  · rw [List.drop_of_length_le (by omega)] at h; simp at h
theorem Nf.low {xs : List Nat} {a k : Nat} (hx : Nf B64 xs a) (hk : k ≤ xs.length) : Nf B64 (trimL (xs.take k)) (a % B64 ^ k) := by
  have h := Nf.trim (hx.dig.take k)
  rw [take_mod hx hk] at h; exact h
end Go.Proofs.YtmhkabomabkkfaaGreatDoor
namespace Go.Proofs.YtmhkabomabkkfaaGreatDoor
open Go.RowKit Go.Shelf
set_option maxRecDepth 20000
set_option maxHeartbeats 0
theorem DO.mono {B B' : Nat} {w : World} {s : Bool} {p : Option Addr} {m : Nat} {e z : Int} (h : DO B w s p m e z) (hB : B' ≤ B) : DO B' w s p m e z := by
  obtain ⟨zs, h1, h2, h3⟩ := h.own
  exact ⟨⟨zs, h1.mono hB, h2, h3⟩, h.sg, h.fm⟩
theorem DO.zero (B : Nat) (w : World) : DO B w false none 0 0 0 := ⟨⟨[], Own.empty _ _ _, Nf.nil _, by decide⟩, rfl, .inl ⟨rfl, rfl⟩⟩
theorem pat_fin {f p m l : Int} {S I H sd : Nat} {Be : Int} {Q : Nat} (J : Jq f p m l S I H sd Be Q) {s : Bool} {pa : Option Addr} {na ca : Nat} {e x : Int} {w : World} (h : DN w s pa na ca e x) (hT : Tab w) :
    Calls Tryz.prog 193 #[.agg #[.bool s, .slice pa na ca, .int .i64 e], .int .i64 f] w fun en w' => en = .returned (U (rnp l sd Be S I x e)) ∧ Below w.heap.size w w' := by
  have HQJ : Hid (Jq f p m l S I H sd Be Q) := J
  have A : Hid (DN w s pa na ca e x) := h
  have TB : Hid (Tab w) := hT
  obtain ⟨r, hr⟩ : ∃ r, r = rnp l sd Be S I x e := ⟨_, rfl⟩
  have HR : Hid (rnp l sd Be S I x e = r) := hr.symm
  rw [← hr]
  clear J h hT hr
  go_enter Tryz.func193, Tryz.ntmps193
  go_wp2_with fail
  obtain ⟨W0, hW0⟩ : ∃ W0, W0 = (w.alloc (.cells #[.bool s, .slice pa na ca, .int .i64 e] 122)) := ⟨_, rfl⟩
  have Xx : Hid (B3q W0 (w.heap.size) (.bool s) (.slice pa na ca) (.int .i64 e)) := by rw [hW0]; exact ⟨by go_simp, by go_simp, by go_simp, by go_simp, by go_simp, by go_simp⟩
  have hb0 : Below w.heap.size w W0 := by rw [hW0]; exact below1 w _
  rw [← hW0]
  clear hW0
  have hbw : Below w.heap.size w w := Below.refl _ _
  obtain ⟨gx, hgx⟩ : ∃ g, g = w.heap.size := ⟨_, rfl⟩
  have HGx : Hid (w.heap.size ≤ gx) := by rw [hgx]; show _ ≤ _; omega
  rw [← hgx] at Xx
  try rw [← hgx]
  clear hgx
  replace hbw := Below.on hbw hb0
  clear hb0
  refine (rnearest HQJ.out.jn (A.out.below hbw) (TB.out.below hbw)).mono ?_
  rintro e v1 ⟨rfl, hb1⟩
  rw [HR.out]
  replace Xx : Hid _ := Xx.out.below hb1
  replace hbw := Below.on hbw hb1
  clear hb1
  go_wp2_with fail
  go_ret
  exact ⟨rfl, hbw⟩
theorem opp_fin {s : Bool} {pa : Option Addr} {na ca : Nat} {e : Int} (w : World) :
    Calls Tryz.prog 40 #[VFin s pa na ca e] w fun en w' => en = .returned (VFin (!s) pa na ca e) ∧ Below w.heap.size w w' := by
  have m1 := meth_below_fin
  have m2 := meth_signed_fin
  have m3 := nila_signed_fin
  go_enter Tryz.func40, Tryz.ntmps40
  go_wp2_with fail
  have hbw : Below w.heap.size w w := Below.refl _ _
  obtain ⟨W1, hW1⟩ : ∃ W1, W1 = w.drew := ⟨_, rfl⟩
  have hbd : Below w.heap.size w W1 := by rw [hW1]; exact bDrew1 (Below.refl _ _)
  replace hbw := Below.on hbw hbd
  clear hbd
  have HJ : Hid ((fun W' : World => True) W1) := trivial
  refine wp_region_J (fun W' => True) (by kernel_rfl) ?_
  rw [← hW1]
  clear hW1
  refine wpJ_tk 0 (v := ?v1x0) rfl ?hy1x0 HJ.out ?_
  case hy1x0 => (intro W' hJ; have j0 := hJ; go_simp; first | done | with_reducible rfl)
  refine wpJ_tk 1 (v := ?v2x1) rfl ?hy2x1 HJ.out ?_
  case hy2x1 => (intro W' hJ; have j0 := hJ; go_simp; first | done | with_reducible rfl)
  refine wpJ_tk 4 (v := ?v3x4) rfl ?hy3x4 HJ.out ?_
  case hy3x4 => (intro W' hJ; have j0 := hJ; go_simp; first | done | with_reducible rfl)
  refine wpJ_tk 5 (v := ?v4x5) rfl ?hy4x5 HJ.out ?_
  case hy4x5 => (intro W' hJ; have j0 := hJ; go_simp; first | done | with_reducible rfl)
  refine wpJ_tk 6 (v := ?v5x6) rfl ?hy5x6 HJ.out ?_
  case hy5x6 => (intro W' hJ; have j0 := hJ; go_simp; first | done | with_reducible rfl)
  refine wpJ_on 2 rfl fun KJ hK => ?_
  go_simp
  refine (below_fin _).mono ?_
  rintro e v2 ⟨rfl, hb2⟩
  replace hbw := Below.on hbw hb2
  clear hb2
  clear HJ
  have HJ : Hid ((fun W' : World => True) v2) := trivial
  refine hK _ _ HJ.out ?_
  clear hK
  refine wpJ_tk 3 (v := ?v6x3) rfl ?hy6x3 HJ.out ?_
  case hy6x3 => (intro W' hJ; have j0 := hJ; go_simp; first | done | with_reducible rfl)
  refine wpJ_on 7 rfl fun KJ hK => ?_
  go_simp
  refine (signed_fin _ _).mono ?_
  rintro e v7 ⟨rfl, hb7⟩
  replace hbw := Below.on hbw hb7
  clear hb7
  clear HJ
  have HJ : Hid ((fun W' : World => True) v7) := trivial
  refine hK _ _ HJ.out ?_
  clear hK
  refine wpJ_tk 8 (v := ?v7x8) rfl ?hy7x8 HJ.out ?_
  case hy7x8 => (intro W' hJ; have j0 := hJ; go_simp; first | done | with_reducible rfl)
  refine wpJ_done (by kernel_rfl) ?_ _
  clear HJ
  go_wp2_with fail
  go_ret
  exact ⟨rfl, hbw⟩
theorem opof_nan {f p m l : Int} {S I H sd : Nat} {Be : Int} {Q : Nat} (J : Jq f p m l S I H sd Be Q) (sgc : ∀ w, Calls Tryz.prog 56 #[WV p m l] w fun e w' => e = .returned (U S) ∧ Below w.heap.size w w') (han : ∀ b, b < 2 * S → bits BinOp.and IntKind.u64 (b : Int) (S : Int) = ((if S ≤ b then S else 0 : Nat) : Int)) (b : Nat) (hb : b < 2 * S) (hk : I < b % S) (w : World) (hT : Tab w) :
    Calls Tryz.prog 75 #[.int .i64 f, U b] w fun en w' => ∃ v o, en = .returned (.tuple #[v, .int .i64 0]) ∧ OpO w.heap.size w' v o ∧ OpB S I H l b o ∧ Below w.heap.size w w' := by
  have HSC : Hid (∀ w, Calls Tryz.prog 56 #[WV p m l] w fun e w' => e = .returned (U S) ∧ Below w.heap.size w w') := sgc
  clear sgc
  have HQJ : Hid (Jq f p m l S I H sd Be Q) := J
  have TB : Hid (Tab w) := hT
  have HB : Hid (b < 2 * S) := hb
  have h2 := J.jn.jm.pm.h2
  have hp := J.jn.jm.pm.hp
  obtain ⟨ng, hng⟩ : ∃ ng, ng = decide (S ≤ b) := ⟨_, rfl⟩
  have HNG : Hid (decide (S ≤ b) = ng) := hng.symm
  obtain ⟨ka, hka⟩ : ∃ ka, ka = (if S ≤ b then S else 0) := ⟨_, rfl⟩
  have a1 : bits BinOp.and IntKind.u64 (b : Int) (S : Int) = ((ka : Nat) : Int) := by rw [hka]; exact han b hb
  have hS0 : 0 < S := by have := J.jn.jm.pm.fm.lt; omega
  have a2 : ((ka : Int) == 0) = !ng := by
    rw [hka, hng]
    by_cases hx : S ≤ b
    · rw [if_pos hx, decide_eq_true hx]; simp; omega
    · rw [if_neg hx, decide_eq_false hx]; simp
  have a3 : ((ka : Int) != 0) = ng := by simp [bne, a2]
  have HCN : Hid (clsN H I (b % S) = 4) := by
    show clsN H I (b % S) = 4
    unfold clsN
    rw [if_neg (by omega), if_neg (by omega), if_neg (by omega), if_neg (by omega)]
  have HK : Hid (I < b % S) := hk
  clear J hT hb hk h2 hp hng hka hS0 han
  go_enter Tryz.func75, Tryz.ntmps75
  go_wp2_with fail
  have hbw : Below w.heap.size w w := Below.refl _ _
  refine (HQJ.out.jn.cl b _ HB.out).mono ?_
  rintro e v1 ⟨rfl, hb1⟩
  rw [HCN.out]
  replace hbw := Below.on hbw hb1
  clear hb1
  go_wp2_with fail
  refine (HQJ.out.jn.jm.pm.fm.of _).mono ?_
  rintro e v2 ⟨rfl, hb2⟩
  replace hbw := Below.on hbw hb2
  clear hb2
  go_wp2_with fail
  have Xg0 : Hid (B3q (v2.alloc (.cells #[.int .i64 p, .int .i64 m, .int .i64 l] 75)) v2.heap.size (.int .i64 p) (.int .i64 m) (.int .i64 l)) := B3q.new v2 _ _ _ _
  have hbn : Below v2.heap.size v2 (v2.alloc (.cells #[.int .i64 p, .int .i64 m, .int .i64 l] 75)) := below1 v2 _
  generalize v2.alloc (.cells #[.int .i64 p, .int .i64 m, .int .i64 l] 75) = Wg at *
  have HGg : Hid (w.heap.size ≤ v2.heap.size) := hbw.size
  replace hbw := Below.on hbw hbn
  clear hbn
  generalize v2.heap.size = gg at *
  have Xg := Xg0
  clear Xg0
  refine (HSC.out _).mono ?_
  rintro e v3 ⟨rfl, hb3⟩
  replace Xg : Hid _ := Xg.out.below hb3
  replace hbw := Below.on hbw hb3
  clear hb3
  obtain ⟨cg0, cg1, cg2, fg0, fg1, fg2⟩ := Xg.out
  have hneg : gg < v3.heap.size := World.block_lt_of_cell? v3 _ cg0
  go_wp2_with fail
  clear cg0 cg1 cg2 fg0 fg1 fg2 hneg
  go_ret2
  first | exact ⟨VNan, onan, rfl, .inl ⟨rfl, rfl⟩, .inl ⟨HK.out, rfl⟩, hbw⟩ | exact ⟨VNan, onan, rfl, .inl ⟨rfl, rfl⟩, .inl ⟨HK.out, rfl⟩, Below.on hbw (below1 _ _)⟩ | exact ⟨VNan, onan, rfl, .inl ⟨rfl, rfl⟩, .inl ⟨HK.out, rfl⟩, hbw⟩
theorem opof_inf {f p m l : Int} {S I H sd : Nat} {Be : Int} {Q : Nat} (J : Jq f p m l S I H sd Be Q) (sgc : ∀ w, Calls Tryz.prog 56 #[WV p m l] w fun e w' => e = .returned (U S) ∧ Below w.heap.size w w') (han : ∀ b, b < 2 * S → bits BinOp.and IntKind.u64 (b : Int) (S : Int) = ((if S ≤ b then S else 0 : Nat) : Int)) (b : Nat) (hb : b < 2 * S) (hk : b % S = I) (w : World) (hT : Tab w) :
    Calls Tryz.prog 75 #[.int .i64 f, U b] w fun en w' => ∃ v o, en = .returned (.tuple #[v, .int .i64 0]) ∧ OpO w.heap.size w' v o ∧ OpB S I H l b o ∧ Below w.heap.size w w' := by
  have HSC : Hid (∀ w, Calls Tryz.prog 56 #[WV p m l] w fun e w' => e = .returned (U S) ∧ Below w.heap.size w w') := sgc
  clear sgc
  have HQJ : Hid (Jq f p m l S I H sd Be Q) := J
  have TB : Hid (Tab w) := hT
  have HB : Hid (b < 2 * S) := hb
  have h2 := J.jn.jm.pm.h2
  have hp := J.jn.jm.pm.hp
  obtain ⟨ng, hng⟩ : ∃ ng, ng = decide (S ≤ b) := ⟨_, rfl⟩
  have HNG : Hid (decide (S ≤ b) = ng) := hng.symm
  obtain ⟨ka, hka⟩ : ∃ ka, ka = (if S ≤ b then S else 0) := ⟨_, rfl⟩
  have a1 : bits BinOp.and IntKind.u64 (b : Int) (S : Int) = ((ka : Nat) : Int) := by rw [hka]; exact han b hb
  have hS0 : 0 < S := by have := J.jn.jm.pm.fm.lt; omega
  have a2 : ((ka : Int) == 0) = !ng := by
    rw [hka, hng]
    by_cases hx : S ≤ b
    · rw [if_pos hx, decide_eq_true hx]; simp; omega
    · rw [if_neg hx, decide_eq_false hx]; simp
  have a3 : ((ka : Int) != 0) = ng := by simp [bne, a2]
  have HCN : Hid (clsN H I (b % S) = 3) := by
    show clsN H I (b % S) = 3
    unfold clsN
    rw [if_neg (by omega), if_neg (by omega), if_neg (by omega), if_pos hk]
  have HK : Hid (b % S = I) := hk
  clear J hT hb hk h2 hp hng hka hS0 han
  go_enter Tryz.func75, Tryz.ntmps75
  go_wp2_with fail
  have hbw : Below w.heap.size w w := Below.refl _ _
  refine (HQJ.out.jn.cl b _ HB.out).mono ?_
  rintro e v1 ⟨rfl, hb1⟩
  rw [HCN.out]
  replace hbw := Below.on hbw hb1
  clear hb1
  go_wp2_with fail
  refine (HQJ.out.jn.jm.pm.fm.of _).mono ?_
  rintro e v2 ⟨rfl, hb2⟩
  replace hbw := Below.on hbw hb2
  clear hb2
  go_wp2_with fail
  have Xg0 : Hid (B3q (v2.alloc (.cells #[.int .i64 p, .int .i64 m, .int .i64 l] 75)) v2.heap.size (.int .i64 p) (.int .i64 m) (.int .i64 l)) := B3q.new v2 _ _ _ _
  have hbn : Below v2.heap.size v2 (v2.alloc (.cells #[.int .i64 p, .int .i64 m, .int .i64 l] 75)) := below1 v2 _
  generalize v2.alloc (.cells #[.int .i64 p, .int .i64 m, .int .i64 l] 75) = Wg at *
  have HGg : Hid (w.heap.size ≤ v2.heap.size) := hbw.size
  replace hbw := Below.on hbw hbn
  clear hbn
  generalize v2.heap.size = gg at *
  have Xg := Xg0
  clear Xg0
  refine (HSC.out _).mono ?_
  rintro e v3 ⟨rfl, hb3⟩
  replace Xg : Hid _ := Xg.out.below hb3
  replace hbw := Below.on hbw hb3
  clear hb3
  obtain ⟨cg0, cg1, cg2, fg0, fg1, fg2⟩ := Xg.out
  have hneg : gg < v3.heap.size := World.block_lt_of_cell? v3 _ cg0
  go_wp2_with fail
  clear cg0 cg1 cg2 fg0 fg1 fg2 hneg
  go_ret2
  first | exact ⟨VInf ng, oinf ng, rfl, .inr (.inl ⟨ng, rfl, rfl⟩), .inr (.inl ⟨HK.out, by rw [HNG.out]⟩), hbw⟩ | exact ⟨VInf ng, oinf ng, rfl, .inr (.inl ⟨ng, rfl, rfl⟩), .inr (.inl ⟨HK.out, by rw [HNG.out]⟩), Below.on hbw (below1 _ _)⟩ | exact ⟨VInf ng, oinf ng, rfl, .inr (.inl ⟨ng, rfl, rfl⟩), .inr (.inl ⟨HK.out, by rw [HNG.out]⟩), hbw⟩
theorem opof_no {f p m l : Int} {S I H sd : Nat} {Be : Int} {Q : Nat} (J : Jq f p m l S I H sd Be Q) (sgc : ∀ w, Calls Tryz.prog 56 #[WV p m l] w fun e w' => e = .returned (U S) ∧ Below w.heap.size w w') (han : ∀ b, b < 2 * S → bits BinOp.and IntKind.u64 (b : Int) (S : Int) = ((if S ≤ b then S else 0 : Nat) : Int)) (b : Nat) (hb : b < 2 * S) (hk : b % S = 0) (w : World) (hT : Tab w) :
    Calls Tryz.prog 75 #[.int .i64 f, U b] w fun en w' => ∃ v o, en = .returned (.tuple #[v, .int .i64 0]) ∧ OpO w.heap.size w' v o ∧ OpB S I H l b o ∧ Below w.heap.size w w' := by
  have HSC : Hid (∀ w, Calls Tryz.prog 56 #[WV p m l] w fun e w' => e = .returned (U S) ∧ Below w.heap.size w w') := sgc
  clear sgc
  have HQJ : Hid (Jq f p m l S I H sd Be Q) := J
  have TB : Hid (Tab w) := hT
  have HB : Hid (b < 2 * S) := hb
  have h2 := J.jn.jm.pm.h2
  have hp := J.jn.jm.pm.hp
  obtain ⟨ng, hng⟩ : ∃ ng, ng = decide (S ≤ b) := ⟨_, rfl⟩
  have HNG : Hid (decide (S ≤ b) = ng) := hng.symm
  obtain ⟨ka, hka⟩ : ∃ ka, ka = (if S ≤ b then S else 0) := ⟨_, rfl⟩
  have a1 : bits BinOp.and IntKind.u64 (b : Int) (S : Int) = ((ka : Nat) : Int) := by rw [hka]; exact han b hb
  have hS0 : 0 < S := by have := J.jn.jm.pm.fm.lt; omega
  have a2 : ((ka : Int) == 0) = !ng := by
    rw [hka, hng]
    by_cases hx : S ≤ b
    · rw [if_pos hx, decide_eq_true hx]; simp; omega
    · rw [if_neg hx, decide_eq_false hx]; simp
  have a3 : ((ka : Int) != 0) = ng := by simp [bne, a2]
  have HCN : Hid (clsN H I (b % S) = 0) := by
    show clsN H I (b % S) = 0
    unfold clsN
    rw [if_pos hk]
  have HK : Hid (b % S = 0) := hk
  clear J hT hb hk h2 hp hng hka hS0 han
  go_enter Tryz.func75, Tryz.ntmps75
  go_wp2_with fail
  have hbw : Below w.heap.size w w := Below.refl _ _
  refine (HQJ.out.jn.cl b _ HB.out).mono ?_
  rintro e v1 ⟨rfl, hb1⟩
  rw [HCN.out]
  replace hbw := Below.on hbw hb1
  clear hb1
  go_wp2_with fail
  refine (HQJ.out.jn.jm.pm.fm.of _).mono ?_
  rintro e v2 ⟨rfl, hb2⟩
  replace hbw := Below.on hbw hb2
  clear hb2
  go_wp2_with fail
  have Xg0 : Hid (B3q (v2.alloc (.cells #[.int .i64 p, .int .i64 m, .int .i64 l] 75)) v2.heap.size (.int .i64 p) (.int .i64 m) (.int .i64 l)) := B3q.new v2 _ _ _ _
  have hbn : Below v2.heap.size v2 (v2.alloc (.cells #[.int .i64 p, .int .i64 m, .int .i64 l] 75)) := below1 v2 _
  generalize v2.alloc (.cells #[.int .i64 p, .int .i64 m, .int .i64 l] 75) = Wg at *
  have HGg : Hid (w.heap.size ≤ v2.heap.size) := hbw.size
  replace hbw := Below.on hbw hbn
  clear hbn
  generalize v2.heap.size = gg at *
  have Xg := Xg0
  clear Xg0
  refine (HSC.out _).mono ?_
  rintro e v3 ⟨rfl, hb3⟩
  replace Xg : Hid _ := Xg.out.below hb3
  replace hbw := Below.on hbw hb3
  clear hb3
  obtain ⟨cg0, cg1, cg2, fg0, fg1, fg2⟩ := Xg.out
  have hneg : gg < v3.heap.size := World.block_lt_of_cell? v3 _ cg0
  go_wp2_with fail
  clear cg0 cg1 cg2 fg0 fg1 fg2 hneg
  go_ret2
  first | exact ⟨VNo ng, ono ng, rfl, .inr (.inr (.inl ⟨ng, rfl, rfl⟩)), .inr (.inr (.inl ⟨HK.out, by rw [HNG.out]⟩)), hbw⟩ | exact ⟨VNo ng, ono ng, rfl, .inr (.inr (.inl ⟨ng, rfl, rfl⟩)), .inr (.inr (.inl ⟨HK.out, by rw [HNG.out]⟩)), Below.on hbw (below1 _ _)⟩ | exact ⟨VNo ng, ono ng, rfl, .inr (.inr (.inl ⟨ng, rfl, rfl⟩)), .inr (.inr (.inl ⟨HK.out, by rw [HNG.out]⟩)), hbw⟩
theorem opof_fin {f p m l : Int} {S I H sd : Nat} {Be : Int} {Q : Nat} (J : Jq f p m l S I H sd Be Q) (sgc : ∀ w, Calls Tryz.prog 56 #[WV p m l] w fun e w' => e = .returned (U S) ∧ Below w.heap.size w w') (han : ∀ b, b < 2 * S → bits BinOp.and IntKind.u64 (b : Int) (S : Int) = ((if S ≤ b then S else 0 : Nat) : Int)) (b : Nat) (hb : b < 2 * S) (hk : b % S ≠ 0 ∧ b % S < I) (w : World) (hT : Tab w) :
    Calls Tryz.prog 75 #[.int .i64 f, U b] w fun en w' => ∃ v o, en = .returned (.tuple #[v, .int .i64 0]) ∧ OpO w.heap.size w' v o ∧ OpB S I H l b o ∧ Below w.heap.size w w' := by
  have HSC : Hid (∀ w, Calls Tryz.prog 56 #[WV p m l] w fun e w' => e = .returned (U S) ∧ Below w.heap.size w w') := sgc
  clear sgc
  have HQJ : Hid (Jq f p m l S I H sd Be Q) := J
  have TB : Hid (Tab w) := hT
  have HB : Hid (b < 2 * S) := hb
  have h2 := J.jn.jm.pm.h2
  have hp := J.jn.jm.pm.hp
  obtain ⟨ng, hng⟩ : ∃ ng, ng = decide (S ≤ b) := ⟨_, rfl⟩
  have HNG : Hid (decide (S ≤ b) = ng) := hng.symm
  obtain ⟨ka, hka⟩ : ∃ ka, ka = (if S ≤ b then S else 0) := ⟨_, rfl⟩
  have a1 : bits BinOp.and IntKind.u64 (b : Int) (S : Int) = ((ka : Nat) : Int) := by rw [hka]; exact han b hb
  have hS0 : 0 < S := by have := J.jn.jm.pm.fm.lt; omega
  have a2 : ((ka : Int) == 0) = !ng := by
    rw [hka, hng]
    by_cases hx : S ≤ b
    · rw [if_pos hx, decide_eq_true hx]; simp; omega
    · rw [if_neg hx, decide_eq_false hx]; simp
  have a3 : ((ka : Int) != 0) = ng := by simp [bne, a2]
  obtain ⟨cn, hcn⟩ : ∃ cn, cn = clsN H I (b % S) := ⟨_, rfl⟩
  have HCN : Hid (clsN H I (b % S) = cn) := hcn.symm
  have hc : cn = 1 ∨ cn = 2 := by
    rw [hcn]; unfold clsN; rw [if_neg hk.1]
    by_cases a : b % S < H
    · rw [if_pos a]; exact .inl rfl
    · rw [if_neg a, if_pos hk.2]; exact .inr rfl
  have k0 : (cn == 0) = false := by rcases hc with h | h <;> rw [h] <;> rfl
  have k3 : (cn == 3) = false := by rcases hc with h | h <;> rw [h] <;> rfl
  have k4 : (cn == 4) = false := by rcases hc with h | h <;> rw [h] <;> rfl
  have HK : Hid (b % S ≠ 0 ∧ b % S < I) := hk
  obtain ⟨zr, er, hvr, _⟩ := vf_ex J.jn.jm.pm hk.2
  have HVF : Hid (VF S H l b zr er) := hvr
  have HZR : Hid (zr ≠ 0) := by
    intro h0
    have h1 := hvr.v
    rw [h0, dv_zero] at h1
    have h3 := dv_eq_zero h1.symm
    rw [svS_eq] at h3
    have h4 : vs H 0 < vs H (b % S) := vs_mono hp (by omega)
    rw [vs_zero] at h4
    split at h3 <;> omega
  clear J hT hb hk h2 hp hng hka hS0 hcn hc hvr han
  go_enter Tryz.func75, Tryz.ntmps75
  go_wp2_with fail
  have hbw : Below w.heap.size w w := Below.refl _ _
  refine (HQJ.out.jn.cl b _ HB.out).mono ?_
  rintro e v1 ⟨rfl, hb1⟩
  rw [HCN.out]
  replace hbw := Below.on hbw hb1
  clear hb1
  go_wp2_with fail
  refine (HQJ.out.jn.jm.pm.fm.of _).mono ?_
  rintro e v2 ⟨rfl, hb2⟩
  replace hbw := Below.on hbw hb2
  clear hb2
  go_wp2_with fail
  have Xg0 : Hid (B3q (v2.alloc (.cells #[.int .i64 p, .int .i64 m, .int .i64 l] 75)) v2.heap.size (.int .i64 p) (.int .i64 m) (.int .i64 l)) := B3q.new v2 _ _ _ _
  have hbn : Below v2.heap.size v2 (v2.alloc (.cells #[.int .i64 p, .int .i64 m, .int .i64 l] 75)) := below1 v2 _
  generalize v2.alloc (.cells #[.int .i64 p, .int .i64 m, .int .i64 l] 75) = Wg at *
  have HGg : Hid (w.heap.size ≤ v2.heap.size) := hbw.size
  replace hbw := Below.on hbw hbn
  clear hbn
  generalize v2.heap.size = gg at *
  have Xg := Xg0
  clear Xg0
  refine (HSC.out _).mono ?_
  rintro e v3 ⟨rfl, hb3⟩
  replace Xg : Hid _ := Xg.out.below hb3
  replace hbw := Below.on hbw hb3
  clear hb3
  obtain ⟨cg0, cg1, cg2, fg0, fg1, fg2⟩ := Xg.out
  have hneg : gg < v3.heap.size := World.block_lt_of_cell? v3 _ cg0
  go_wp2_with fail
  clear cg0 cg1 cg2 fg0 fg1 fg2 hneg
  refine (value_v HQJ.out.jn.jm.pm HB.out HK.out.2 HVF.out _ (TB.out.below hbw)).mono ?_
  rintro e9 v4 ⟨v, rfl, hv, hb4⟩
  obtain ⟨s4, p4, m4, rfl, hd4⟩ := DO.of hv HVF.out.fm
  have hd5 := hd4.mono hbw.size
  clear hv hd4
  replace Xg : Hid _ := Xg.out.below hb4
  replace hbw := Below.on hbw hb4
  clear hb4
  have D4 : Hid (DO w.heap.size v4 s4 p4 m4 er zr) := hd5
  clear hd5
  obtain ⟨cg0, cg1, cg2, fg0, fg1, fg2⟩ := Xg.out
  have hneg : gg < v4.heap.size := World.block_lt_of_cell? v4 _ cg0
  go_wp2_with fail
  clear cg0 cg1 cg2 fg0 fg1 fg2 hneg
  go_ret2
  first | exact ⟨VFin s4 p4 m4 m4 er, ofin zr er, rfl, .inr (.inr (.inr ⟨s4, p4, m4, er, zr, rfl, D4.out.below (below1 _ _), HZR.out, rfl⟩)), .inr (.inr (.inr ⟨HK.out.1, HK.out.2, zr, er, HVF.out, HZR.out, rfl⟩)), Below.on hbw (below1 _ _)⟩ | exact ⟨VFin s4 p4 m4 m4 er, ofin zr er, rfl, .inr (.inr (.inr ⟨s4, p4, m4, er, zr, rfl, D4.out.below (below1 _ _), HZR.out, rfl⟩)), .inr (.inr (.inr ⟨HK.out.1, HK.out.2, zr, er, HVF.out, HZR.out, rfl⟩)), Below.on hbw (below1 _ _)⟩ | exact ⟨VFin s4 p4 m4 m4 er, ofin zr er, rfl, .inr (.inr (.inr ⟨s4, p4, m4, er, zr, rfl, D4.out, HZR.out, rfl⟩)), .inr (.inr (.inr ⟨HK.out.1, HK.out.2, zr, er, HVF.out, HZR.out, rfl⟩)), hbw⟩
structure Jo (f p m l : Int) (S I H sd : Nat) (Be : Int) (Q : Nat) : Prop where
  jq : Jq f p m l S I H sd Be Q
  sg : ∀ w, Calls Tryz.prog 56 #[WV p m l] w fun e w' => e = .returned (U S) ∧ Below w.heap.size w w'
  an : ∀ b, b < 2 * S → bits BinOp.and IntKind.u64 (b : Int) (S : Int) = ((if S ≤ b then S else 0 : Nat) : Int)
theorem jo_32 : Jo 32 32 24 (-149) 2147483648 2139095040 8388608 23 128 2143289345 := ⟨jq_32, sign_32, fun b hb => sign_and b _ 31 (by decide) (by decide) hb⟩
theorem jo_64 : Jo 64 64 53 (-1074) 9223372036854775808 9218868437227405312 4503599627370496 52 1024 9221120237041090561 := ⟨jq_64, sign_64, fun b hb => sign_and b _ 63 (by decide) (by decide) hb⟩
theorem opof {f p m l : Int} {S I H sd : Nat} {Be : Int} {Q : Nat} (J : Jo f p m l S I H sd Be Q) (b : Nat) (hb : b < 2 * S) (w : World) (hT : Tab w) :
    Calls Tryz.prog 75 #[.int .i64 f, U b] w fun en w' => ∃ v o, en = .returned (.tuple #[v, .int .i64 0]) ∧ OpO w.heap.size w' v o ∧ OpB S I H l b o ∧ Below w.heap.size w w' := by
  rcases Nat.lt_trichotomy (b % S) I with h | h | h
  · by_cases h0 : b % S = 0
    · exact opof_no J.jq J.sg J.an b hb h0 w hT
    · exact opof_fin J.jq J.sg J.an b hb ⟨h0, h⟩ w hT
  · exact opof_inf J.jq J.sg J.an b hb h w hT
  · exact opof_nan J.jq J.sg J.an b hb h w hT
theorem OpO.mono {B B' : Nat} {w : World} {v : Value} {o : Opd} (h : OpO B w v o) (hB : B' ≤ B) : OpO B' w v o := by
  rcases h with h | h | h | ⟨s, p, m, e, x, h1, h2, h3, h4⟩
  · exact .inl h
  · exact .inr (.inl h)
  · exact .inr (.inr (.inl h))
  · exact .inr (.inr (.inr ⟨s, p, m, e, x, h1, h2.mono hB, h3, h4⟩))
theorem OpO.iface {B : Nat} {w : World} {v : Value} {o : Opd} (h : OpO B w v o) : ∃ t x, v = .iface t x := by
  rcases h with ⟨h, _⟩ | ⟨s, h, _⟩ | ⟨s, h, _⟩ | ⟨s, p, m, e, x, h, _⟩ <;> exact ⟨_, _, h⟩
def Ops2 (S I H : Nat) (l : Int) (w : World) (a b : Nat) (en : Ending) (w' : World) : Prop :=
  ∃ go va vb oa ob, en = .returned (.tuple #[.slice (some ⟨go, 0, none⟩) 2 2, .int .i64 0]) ∧ w.heap.size ≤ go ∧ Box w' go va vb ∧ OpV w' va oa ∧ OpV w' vb ob ∧ OpB S I H l a oa ∧ OpB S I H l b ob ∧ Below w.heap.size w w'
theorem operands2 {f p m l : Int} {S I H sd : Nat} {Be : Int} {Q : Nat} (J : Jo f p m l S I H sd Be Q) {g a b : Nat} (ha : a < 2 * S) (hb : b < 2 * S) {w : World} (hg : w.cell? ⟨g, 0, none⟩ = some (U a) ∧ w.cell? ⟨g, 1, none⟩ = some (U b)) (hT : Tab w) :
    Calls Tryz.prog 38 #[.int .i64 f, .slice (some ⟨g, 0, none⟩) 2 2] w fun en w' => Ops2 S I H l w a b en w' := by
  have HJO : Hid (Jo f p m l S I H sd Be Q) := J
  have HAB : Hid (a < 2 * S ∧ b < 2 * S) := ⟨ha, hb⟩
  have HCG : Hid (w.cell? ⟨g, 0, none⟩ = some (U a) ∧ w.cell? ⟨g, 1, none⟩ = some (U b) ∧ g < w.heap.size) := ⟨hg.1, hg.2, World.block_lt_of_cell? w _ hg.1⟩
  have TB : Hid (Tab w) := hT
  clear J ha hb hg hT
  go_enter Tryz.func38, Tryz.ntmps38
  go_wp2_with fail
  have mk : ∀ w : World, Sem.run Tryz.prog (Instr.makeSlice 62 (.int .i64 2) (.int .i64 2)) w = .ok (.slice (some ⟨w.heap.size, 0, none⟩) 2 2) (w.alloc (.cells #[.nilIface, .nilIface] 66)) := fun w => by kernel_rfl
  rw [mk]
  clear mk
  obtain ⟨W0, hW0⟩ : ∃ W0, W0 = w.alloc (.cells #[.nilIface, .nilIface] 66) := ⟨_, rfl⟩
  obtain ⟨go, hgo⟩ : ∃ go, go = w.heap.size := ⟨_, rfl⟩
  have HX : Hid (Box W0 go .nilIface .nilIface) := by rw [hW0, hgo]; exact ⟨by go_simp, by go_simp, by go_simp, by go_simp⟩
  have HB0 : Hid (Below w.heap.size w W0) := by rw [hW0]; exact below1 w _
  have HGO : Hid (w.heap.size ≤ go) := by rw [hgo]; exact Nat.le_refl _
  rw [← hW0, ← hgo]
  clear hW0 hgo
  go_wp2_with fail
  go_loopg [16] 2 (fun gk iv wr => ∃ k : Nat, k + gk = 2 ∧ iv = .int .i64 k ∧ ∃ v0 v1, Box wr go v0 v1 ∧ (0 < k → ∃ o, OpO (go + 1) wr v0 o ∧ OpB S I H l a o) ∧ (1 < k → ∃ o, OpO (go + 1) wr v1 o ∧ OpB S I H l b o) ∧ Below w.heap.size w wr)
  case atStart => exact ⟨0, by omega, rfl, _, _, HX.out, fun h => by omega, fun h => by omega, HB0.out⟩
  case round =>
    obtain ⟨k, hkg, rfl, v0, v1, hx, h0, h1, hbw⟩ := hrel
    cases gk with
    | zero =>
      obtain rfl : k = 2 := by omega
      obtain ⟨oa, q1, q2⟩ := h0 (by omega)
      obtain ⟨ob, q3, q4⟩ := h1 (by omega)
      have HQ : Hid (OpO (go + 1) wr v0 oa ∧ OpB S I H l a oa ∧ OpO (go + 1) wr v1 ob ∧ OpB S I H l b ob ∧ Box wr go v0 v1) := ⟨q1, q2, q3, q4, hx⟩
      clear h0 h1 q1 q2 q3 q4 hx
      go_wp2_with fail
      go_ret2
      exact ⟨go, v0, v1, oa, ob, rfl, HGO.out, HQ.out.2.2.2.2, HQ.out.1.v, HQ.out.2.2.1.v, HQ.out.2.1, HQ.out.2.2.2.1, hbw⟩
    | succ gg =>
      have HX1 : Hid (Box wr go v0 v1) := hx
      have HBW : Hid (Below w.heap.size w wr) := hbw
      have H0 : Hid (0 < k → ∃ o, OpO (go + 1) wr v0 o ∧ OpB S I H l a o) := h0
      rcases Nat.eq_zero_or_pos k with hk0 | hk0
      · subst hk0
        have e0 : wr.cell? ⟨g, 0, none⟩ = some (U a) := (hbw.cell (p := ⟨g, 0, none⟩) HCG.out.2.2).trans HCG.out.1
        clear h0 h1 hx hbw
        go_wp2_with fail
        refine (opof HJO.out a HAB.out.1 wr (TB.out.below HBW.out)).mono ?_
        rintro e9 v2 ⟨v, o, rfl, ho, hob, hb2⟩
        obtain ⟨vt, vx, rfl⟩ : ∃ t x, v = .iface t x := ho.iface
        have HO : Hid (OpO (go + 1) v2 (.iface vt vx) o ∧ OpB S I H l a o) := ⟨ho.mono HX1.out.lt, hob⟩
        have HX2 : Hid (Box v2 go v0 v1) := HX1.out.below hb2
        have HBV : Hid (Below w.heap.size w v2) := Below.on HBW.out hb2
        skip
        obtain ⟨c0, c1, f0, f1⟩ := HX2.out
        have hlt := HX2.out.lt
        clear ho hob hb2
        go_wp2_with fail
        go_roundg gg
        case measure => omega
        case rel =>
          refine ⟨1, by omega, by go_num, .iface vt vx, v1, ⟨by go_simp, by go_simp, by go_simp, by go_simp⟩, fun _ => ⟨o, HO.out.1.set _ _ _ (by omega), HO.out.2⟩, fun h => by omega, bSet HBV.out _ _ _ HGO.out⟩
          
      · obtain rfl : k = 1 := by omega
        have e0 : wr.cell? ⟨g, 1, none⟩ = some (U b) := (hbw.cell (p := ⟨g, 1, none⟩) HCG.out.2.2).trans HCG.out.2.1
        clear h0 h1 hx hbw
        go_wp2_with fail
        refine (opof HJO.out b HAB.out.2 wr (TB.out.below HBW.out)).mono ?_
        rintro e9 v2 ⟨v, o, rfl, ho, hob, hb2⟩
        obtain ⟨vt, vx, rfl⟩ : ∃ t x, v = .iface t x := ho.iface
        have HO : Hid (OpO (go + 1) v2 (.iface vt vx) o ∧ OpB S I H l b o) := ⟨ho.mono HX1.out.lt, hob⟩
        have HX2 : Hid (Box v2 go v0 v1) := HX1.out.below hb2
        have HBV : Hid (Below w.heap.size w v2) := Below.on HBW.out hb2
        have HP : Hid (∃ o, OpO (go + 1) v2 v0 o ∧ OpB S I H l a o) := by obtain ⟨o9, q1, q2⟩ := H0.out (by omega); exact ⟨o9, q1.below hb2, q2⟩
        obtain ⟨c0, c1, f0, f1⟩ := HX2.out
        have hlt := HX2.out.lt
        clear ho hob hb2
        go_wp2_with fail
        go_roundg gg
        case measure => omega
        case rel =>
          obtain ⟨o9, q1, q2⟩ := HP.out
          exact ⟨2, by omega, by go_num, v0, .iface vt vx, ⟨by go_simp, by go_simp, by go_simp, by go_simp⟩, fun _ => ⟨o9, q1.set _ _ _ (by omega), q2⟩, fun _ => ⟨o, HO.out.1.set _ _ _ (by omega), HO.out.2⟩, bSet HBV.out _ _ _ HGO.out⟩
end Go.Proofs.YtmhkabomabkkfaaGreatDoor
