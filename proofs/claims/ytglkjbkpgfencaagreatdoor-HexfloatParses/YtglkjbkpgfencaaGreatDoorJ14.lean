import Derived.Test.YtglkjbkpgfencaaGreatDoorJ13
import Derived.Test.YtglkjbkpgfencaaGreatDoorJ11
import Derived.WalkSmall
import Derived.Recover
import Derived.Test.YtglkjbkpgfencaaGreatDoorJ12
import Derived.Lib.ItoaMem
import Derived.Laws.IdiomStrings
import Derived.Shelf.Strings.Repeat
import Derived.Shelf.Strings.Trim
import Derived.Shelf.Strings.Builder1
import Derived.Shelf.Strconv.Itoa3
import Derived.Test.YtglkjbkpgfencaaGreatDoorSmall
import Derived.Laws.Concat
namespace Go.Proofs.YtglkjbkpgfencaaGreatDoor
open Go.RowKit Go.Shelf

set_option maxRecDepth 20000 in
set_option maxHeartbeats 0 in
theorem rnearest {f p m l : Int} {S I H sd : Nat} {Be : Int} (J : Jn f p m l S I H sd Be) {q : Option Addr} {n c : Nat} {w : World} {x e : Int} {s : Bool} (h : DN w s q n c e x) (hT : Tab w) :
    Calls Tryz.prog 52 #[.int .i64 f, DV s q n c e] w fun en w' => en = .returned (.tuple #[U (rnp l sd Be S I x e), .int .i64 0]) ∧ Below w.heap.size w w' := by
  have HJN : Hid (Jn f p m l S I H sd Be) := J
  have HDN : Hid (DN w s q n c e x) := h
  have TB : Hid (Tab w) := hT
  have HE : Hid (-4194304 ≤ e ∧ e ≤ 4194304) := by rcases h.fm with ⟨_, h2⟩ | ⟨_, h2, h3⟩ <;> (show _ ∧ _) <;> omega
  obtain ⟨r, hr⟩ : ∃ r, r = rnp l sd Be S I x e := ⟨_, rfl⟩
  have HR : Hid (rnp l sd Be S I x e = r) := hr.symm
  rw [← hr]
  clear J h hT hr
  go_enter Tryz.func52, Tryz.ntmps52
  go_wp2_with fail
  obtain ⟨W0, hW0⟩ : ∃ W0, W0 = (w.alloc (.cells #[.bool s, .slice q n c, .int .i64 e] 65)) := ⟨_, rfl⟩
  have Xd : Hid (B3q W0 (w.heap.size) (.bool s) (.slice q n c) (.int .i64 e)) := by rw [hW0]; exact ⟨by go_simp, by go_simp, by go_simp, by go_simp, by go_simp, by go_simp⟩
  have hb0 : Below w.heap.size w W0 := by rw [hW0]; exact below1 w _
  rw [← hW0]
  clear hW0
  have hbw : Below w.heap.size w w := Below.refl _ _
  obtain ⟨gd, hgd⟩ : ∃ g, g = w.heap.size := ⟨_, rfl⟩
  have HGd : Hid (w.heap.size ≤ gd) := by rw [hgd]; show _ ≤ _; omega
  rw [← hgd] at Xd
  try rw [← hgd]
  clear hgd
  replace hbw := Below.on hbw hb0
  clear hb0
  refine (HJN.out.jm.pm.fm.of _).mono ?_
  rintro e v1 ⟨rfl, hb1⟩
  replace Xd : Hid _ := Xd.out.below hb1
  replace hbw := Below.on hbw hb1
  clear hb1
  obtain ⟨cd0, cd1, cd2, fd0, fd1, fd2⟩ := Xd.out
  have hned : gd < v1.heap.size := World.block_lt_of_cell? v1 _ cd0
  go_wp2_with fail
  clear cd0 cd1 cd2 fd0 fd1 fd2 hned
  have Xg0 : Hid (B3q (v1.alloc (.cells #[.int .i64 p, .int .i64 m, .int .i64 l] 46)) v1.heap.size (.int .i64 p) (.int .i64 m) (.int .i64 l)) := B3q.new v1 _ _ _ _
  have hbn : Below v1.heap.size v1 (v1.alloc (.cells #[.int .i64 p, .int .i64 m, .int .i64 l] 46)) := below1 v1 _
  generalize v1.alloc (.cells #[.int .i64 p, .int .i64 m, .int .i64 l] 46) = Wg at *
  have HGg : Hid (w.heap.size ≤ v1.heap.size) := hbw.size
  replace Xd : Hid _ := Xd.out.below hbn
  replace hbw := Below.on hbw hbn
  clear hbn
  generalize v1.heap.size = gg at *
  have Xg := Xg0
  clear Xg0
  refine (dform_t (HDN.out.below hbw)).mono ?_
  rintro e v2 ⟨rfl, hb2⟩
  replace Xd : Hid _ := Xd.out.below hb2
  replace Xg : Hid _ := Xg.out.below hb2
  replace hbw := Below.on hbw hb2
  clear hb2
  obtain ⟨cd0, cd1, cd2, fd0, fd1, fd2⟩ := Xd.out
  have hned : gd < v2.heap.size := World.block_lt_of_cell? v2 _ cd0
  obtain ⟨cg0, cg1, cg2, fg0, fg1, fg2⟩ := Xg.out
  have hneg : gg < v2.heap.size := World.block_lt_of_cell? v2 _ cg0
  go_wp2_with fail
  clear cd0 cd1 cd2 fd0 fd1 fd2 hned
  clear cg0 cg1 cg2 fg0 fg1 fg2 hneg
  refine (nearest_ok HJN.out (HDN.out.zn.below hbw) HE.out (TB.out.below hbw)).mono ?_
  rintro e v3 ⟨rfl, hb3⟩
  rw [HR.out]
  replace Xd : Hid _ := Xd.out.below hb3
  replace Xg : Hid _ := Xg.out.below hb3
  replace hbw := Below.on hbw hb3
  clear hb3
  go_wp2_with fail
  go_ret2
  exact ⟨rfl, hbw⟩
end Go.Proofs.YtglkjbkpgfencaaGreatDoor

namespace Go.Proofs.YtglkjbkpgfencaaGreatDoor
open Go.RowKit Go.Shelf

set_option maxRecDepth 20000 in
set_option maxHeartbeats 0 in
theorem hnear {f p m l : Int} {S I H sd : Nat} {Be : Int} (J : Jn f p m l S I H sd Be) {q : Option Addr} {n c : Nat} {w : World} {x e : Int} {s : Bool} (h : DN w s q n c e x) (hT : Tab w) :
    Calls Tryz.prog 26 #[.int .i64 f, DV s q n c e] w fun en w' => en = .returned (U (rnp l sd Be S I x e)) ∧ Below w.heap.size w w' := by
  have HJN : Hid (Jn f p m l S I H sd Be) := J
  have HDN : Hid (DN w s q n c e x) := h
  have TB : Hid (Tab w) := hT
  obtain ⟨r, hr⟩ : ∃ r, r = rnp l sd Be S I x e := ⟨_, rfl⟩
  have HR : Hid (rnp l sd Be S I x e = r) := hr.symm
  rw [← hr]
  clear J h hT hr
  go_enter Tryz.func26, Tryz.ntmps26
  go_wp2_with fail
  obtain ⟨W0, hW0⟩ : ∃ W0, W0 = (w.alloc (.cells #[.bool s, .slice q n c, .int .i64 e] 65)) := ⟨_, rfl⟩
  have Xd : Hid (B3q W0 (w.heap.size) (.bool s) (.slice q n c) (.int .i64 e)) := by rw [hW0]; exact ⟨by go_simp, by go_simp, by go_simp, by go_simp, by go_simp, by go_simp⟩
  have hb0 : Below w.heap.size w W0 := by rw [hW0]; exact below1 w _
  rw [← hW0]
  clear hW0
  have hbw : Below w.heap.size w w := Below.refl _ _
  obtain ⟨gd, hgd⟩ : ∃ g, g = w.heap.size := ⟨_, rfl⟩
  have HGd : Hid (w.heap.size ≤ gd) := by rw [hgd]; show _ ≤ _; omega
  rw [← hgd] at Xd
  try rw [← hgd]
  clear hgd
  replace hbw := Below.on hbw hb0
  clear hb0
  obtain ⟨cd0, cd1, cd2, fd0, fd1, fd2⟩ := Xd.out
  have hned : gd < W0.heap.size := World.block_lt_of_cell? W0 _ cd0
  go_wp2_with fail
  clear cd0 cd1 cd2 fd0 fd1 fd2 hned
  refine (rnearest HJN.out (HDN.out.below hbw) (TB.out.below hbw)).mono ?_
  rintro e v1 ⟨rfl, hb1⟩
  rw [HR.out]
  replace Xd : Hid _ := Xd.out.below hb1
  replace hbw := Below.on hbw hb1
  clear hb1
  go_wp2_with fail
  go_ret
  exact ⟨rfl, hbw⟩
theorem wpS_act {P : Program} {c : Code} {Q : Exit → Act → List Frame → World → Prop} {a a' : Act} {cs : List Frame} {w : World} (h : a = a') (k : c.wpS P Q a' cs w) : c.wpS P Q a cs w := h ▸ k
theorem tafl (n : Int) : ∀ W : World, (Instr.typeAssert (FltV n) 20 54 true).run Tryz.prog W = .ok (.tuple #[.agg #[.int .i64 n], .bool true]) W := fun _ => by kernel_rfl
set_option maxRecDepth 20000 in
set_option maxHeartbeats 0 in
theorem pcatch {gb ge B : Nat} {x y n : Int} {w : World} (hb : B1t w gb (.int .u64 x)) (he : B1t w ge (.int .i64 y)) (hne : gb ≠ ge) (hB : B ≤ gb ∧ B ≤ ge) :
    CallsD Tryz.prog 19 #[.pointer (some ⟨gb, 0, none⟩), .pointer (some ⟨ge, 0, none⟩)] (.panicking [{ v := FltV n, recovered := false }]) w fun e u' w' =>
      e = .returned (.tuple #[]) ∧ u' = .panicking [{ v := FltV n, recovered := true }] ∧ B1t w' gb (.int .u64 0) ∧ B1t w' ge (.int .i64 n) ∧ Below B w w' := by
  have HX : Hid (B1t w gb (.int .u64 x) ∧ B1t w ge (.int .i64 y) ∧ gb ≠ ge ∧ B ≤ gb ∧ B ≤ ge) := ⟨hb, he, hne, hB⟩
  clear hb he hne hB
  refine callsD_of_wpS Tryz.func19 rfl fun c₀ cs hu => ?_
  apply wpS_seq
  apply wpS_region
  simp [wpOpsS, go_sem, recoverD, hu, Tryz.ntmps19, Exit.thenS]
  refine wpS_act (a' := ⟨#[.pointer (some ⟨gb, 0, none⟩), .pointer (some ⟨ge, 0, none⟩), FltV n, undef, undef, FltV n, undef, undef, undef, undef, undef, undef, undef, undef, undef, undef, undef], []⟩) rfl ?_
  refine wpS_of_wp ?_
  have hta := tafl n
  go_wp2_with fail
  obtain ⟨W0, hW0⟩ : ∃ W0, W0 = w.alloc (.cells #[.int .i64 n] 54) := ⟨_, rfl⟩
  have hbl : Below w.heap.size w W0 := by rw [hW0]; exact below1 w _
  obtain ⟨cf, ff⟩ : B1t W0 w.heap.size (.int .i64 n) := by rw [hW0]; exact B1t.new w _ _
  obtain ⟨cb, fb⟩ := HX.out.1.below hbl
  obtain ⟨ce, fe⟩ := HX.out.2.1.below hbl
  obtain ⟨gf, hgf⟩ : ∃ gf, gf = w.heap.size := ⟨_, rfl⟩
  have n1 : gf ≠ gb := by have := HX.out.1.lt; omega
  have n2 : gf ≠ ge := by have := HX.out.2.1.lt; omega
  have n3 : gb ≠ ge := HX.out.2.2.1
  have n4 : ge ≠ gb := Ne.symm n3
  have HBL : Hid (Below B w W0) := hbl.mono (by have := HX.out.1.lt; have := HX.out.2.2.2; omega)
  rw [← hgf] at cf ff
  rw [← hW0, ← hgf]
  clear hW0 hbl hgf
  go_region
  all_goals refine ⟨rfl, _, rfl, _, results_none rfl _ _ _, rfl, rfl, ⟨by go_simp, by go_simp⟩, ⟨by go_simp, by go_simp⟩, ?_⟩
  all_goals exact bDrew (bSet (bSet HBL.out _ _ _ HX.out.2.2.2.1) _ _ _ HX.out.2.2.2.2)
set_option maxRecDepth 20000 in
set_option maxHeartbeats 0 in
theorem pidle {gb ge : Nat} {w : World} :
    CallsD Tryz.prog 19 #[.pointer (some ⟨gb, 0, none⟩), .pointer (some ⟨ge, 0, none⟩)] .returning w fun e u' w' =>
      e = .returned (.tuple #[]) ∧ u' = .returning ∧ Below w.heap.size w w' := by
  refine callsD_of_wpS Tryz.func19 rfl fun c₀ cs hu => ?_
  apply wpS_seq
  apply wpS_region
  simp [wpOpsS, go_sem, recoverD, hu, Tryz.ntmps19, Exit.thenS]
  refine wpS_act (a' := ⟨#[.pointer (some ⟨gb, 0, none⟩), .pointer (some ⟨ge, 0, none⟩), .nilIface, undef, undef, .nilIface, undef, undef, undef, undef, undef, undef, undef, undef, undef, undef, undef], []⟩) rfl ?_
  refine wpS_of_wp ?_
  have hta : ∀ W : World, (Instr.typeAssert .nilIface 20 54 true).run Tryz.prog W = .ok (.tuple #[.agg #[.int .i64 0], .bool false]) W := fun _ => by kernel_rfl
  have hni : ∀ W : World, (binOp BinOp.neq 20 .nilIface .nilIface).run Tryz.prog W = .ok (.bool false) W := fun _ => by kernel_rfl
  go_wp2_with fail
  exact ⟨rfl, .returning, by rw [← hu], _, results_none rfl _ _ _, rfl, rfl, below1 w _⟩
end Go.Proofs.YtglkjbkpgfencaaGreatDoor

namespace Go.Proofs.YtglkjbkpgfencaaGreatDoor
open Go.RowKit Go.Shelf

theorem B1t.growX {w w' : World} {k : Nat} {v0 : Value} {row : Option Nat} (h : B1t w k v0) (hg : w.grownBy w' row) (hne : some k ≠ row) : B1t w' k v0 :=
  have hb := hg.block k h.lt hne
  ⟨by have h1 := h.c0; unfold World.cell? at h1 ⊢; rw [hb]; exact h1, by have h1 := h.f0; unfold World.frozen? at h1 ⊢; rw [hb]; exact h1⟩
theorem B1t.setOff {W : World} {g g2 : Nat} {v0 v : Value} (h : B1t W g v0) (hne : g ≠ g2) (o : Nat := 0) : B1t (W.setCell ⟨g2, o, none⟩ v) g v0 := by
  obtain ⟨c, f⟩ := h
  exact ⟨by go_simp, by go_simp⟩
def sgq (S : Nat) (neg : Bool) (s : Nat) : Nat := if neg then S + s else s
def parseF (le : Int) (sd : Nat) (Be : Int) (S I Q : Nat) (l : List UInt8) : Nat × Int :=
  if 4000 < l.length then (0, 7) else if l = [110, 97, 110] then (Q, 0) else if (minusF l).2 = [105, 110, 102] then (sgq S (minusF l).1 I, 0) else
    match numF (minusF l).2 with
    | none => (0, 8)
    | some (ds, be, ex) => (sgq S (minusF l).1 (rnp le sd Be S I (hexF 0 ds : Int) (ex - 4 * ((be : Nat) : Int))), 0)
theorem parseF_long {le : Int} {sd : Nat} {Be : Int} {S I Q : Nat} {l : List UInt8} (h : 4000 < l.length) : parseF le sd Be S I Q l = (0, 7) := by unfold parseF; rw [if_pos h]
theorem parseF_nan {le : Int} {sd : Nat} {Be : Int} {S I Q : Nat} {l : List UInt8} (h : ¬ 4000 < l.length) (h1 : l = [110, 97, 110]) : parseF le sd Be S I Q l = (Q, 0) := by unfold parseF; rw [if_neg h, if_pos h1]
theorem parseF_inf {le : Int} {sd : Nat} {Be : Int} {S I Q : Nat} {l : List UInt8} (h : ¬ 4000 < l.length) (h1 : l ≠ [110, 97, 110]) (h2 : (minusF l).2 = [105, 110, 102]) : parseF le sd Be S I Q l = (sgq S (minusF l).1 I, 0) := by unfold parseF; rw [if_neg h, if_neg h1, if_pos h2]
theorem parseF_no {le : Int} {sd : Nat} {Be : Int} {S I Q : Nat} {l : List UInt8} (h : ¬ 4000 < l.length) (h1 : l ≠ [110, 97, 110]) (h2 : (minusF l).2 ≠ [105, 110, 102]) (h3 : numF (minusF l).2 = none) : parseF le sd Be S I Q l = (0, 8) := by unfold parseF; rw [if_neg h, if_neg h1, if_neg h2, h3]
theorem parseF_num {le : Int} {sd : Nat} {Be : Int} {S I Q : Nat} {l ds : List UInt8} {be : Nat} {ex : Int} (h : ¬ 4000 < l.length) (h1 : l ≠ [110, 97, 110]) (h2 : (minusF l).2 ≠ [105, 110, 102]) (h3 : numF (minusF l).2 = some (ds, be, ex)) : parseF le sd Be S I Q l = (sgq S (minusF l).1 (rnp le sd Be S I (hexF 0 ds : Int) (ex - 4 * ((be : Nat) : Int))), 0) := by unfold parseF; rw [if_neg h, if_neg h1, if_neg h2, h3]
theorem B1t.belowB {W W' : World} {g B : Nat} {v0 : Value} (h : B1t W g v0) (hb : Below B W W') (hB : g < B) : B1t W' g v0 := ⟨(hb.cell (p := ⟨g, 0, none⟩) hB).trans h.c0, (hb.frozen (p := ⟨g, 0, none⟩) hB).trans h.f0⟩
theorem B3q.belowB {W W' : World} {g B : Nat} {v0 v1 v2 : Value} (h : B3q W g v0 v1 v2) (hb : Below B W W') (hB : g < B) : B3q W' g v0 v1 v2 := ⟨(hb.cell (p := ⟨g, 0, none⟩) hB).trans h.c0, (hb.cell (p := ⟨g, 1, none⟩) hB).trans h.c1, (hb.cell (p := ⟨g, 2, none⟩) hB).trans h.c2, (hb.frozen (p := ⟨g, 0, none⟩) hB).trans h.f0, (hb.frozen (p := ⟨g, 1, none⟩) hB).trans h.f1, (hb.frozen (p := ⟨g, 2, none⟩) hB).trans h.f2⟩
theorem numF_spec {l ds : List UInt8} {be : Nat} {ex : Int} (h : numF l = some (ds, be, ex)) : ∃ d, ds = Lib.trimLeftS d [48] ∧ (∀ c ∈ d, hexd c = true) ∧ d.length ≤ 2 * l.length ∧ be ≤ l.length ∧ -100000 ≤ ex ∧ ex ≤ 100000 := by
  unfold numF at h
  split at h
  · cases h
  · rename_i r1 h1
    have hl1 := takes_len h1
    have hd := digs_len hexs r1
    split at h
    · cases h
    · split at h
      · cases h
      · rename_i r2 h2
        split at h
        · cases h
        · split at h
          · cases h
            have he := exp_le r2
            exact ⟨_, rfl, digs_in r1, by omega, by omega, he.1, he.2⟩
          · cases h
theorem rnp_same {f p m l : Int} {S I H sd : Nat} {Be : Int} (J : Jn f p m l S I H sd Be) {x y e g : Int} (hx : 0 ≤ x) (hy : 0 ≤ y) (he : -4194304 ≤ e) (hg : -4194304 ≤ g) (h : dv x e = dv y g) : rnp l sd Be S I x e = rnp l sd Be S I y g := by
  obtain ⟨Z, _, h2, h3, _⟩ := rnp_is J x e he
  obtain ⟨Y, _, k2, k3, _⟩ := rnp_is J y g hg
  rw [h3, k3, if_neg (by omega), if_neg (by omega)]
  rw [show ((x.natAbs : Nat) : Int) = x by omega] at h2
  rw [show ((y.natAbs : Nat) : Int) = y by omega, ← h] at k2
  exact h2.uniq k2
theorem rnp_le {f p m l : Int} {S I H sd : Nat} {Be : Int} (J : Jn f p m l S I H sd Be) {x e : Int} (hx : 0 ≤ x) (he : -4194304 ≤ e) : rnp l sd Be S I x e ≤ I := by
  obtain ⟨Z, h1, _, h3, _⟩ := rnp_is J x e he
  rw [h3, if_neg (by omega)]
  exact h1
theorem results_cc {fn : Func} {p u : Tmp} {ty ty2 : TypeId} (h : fn.results = #[.cell p ty, .cell u ty2]) (tmps : Array Value) (P : Program) (w : World) :
    (results fn tmps).run P w = ((asAddr (tmps.getD p undef)).run P w).andThen fun a w₁ => ((loadVar ty a).run P w₁).andThen fun v w₂ => ((asAddr (tmps.getD u undef)).run P w₂).andThen fun b w₃ => ((loadVar ty2 b).run P w₃).andThen fun v2 w₄ => .ok (.tuple #[v, v2]) w₄ := by
  simp only [results, h]
  simp [Sem.run_bind, Result.andThen]
theorem res_P {tmps : Array Value} {gb ge : Nat} {a b : Int} {w : World} (h4 : tmps.getD 4 undef = .pointer (some ⟨gb, 0, none⟩)) (h5 : tmps.getD 5 undef = .pointer (some ⟨ge, 0, none⟩)) (hb : B1t w gb (.int .u64 a)) (he : B1t w ge (.int .i64 b)) :
    (results Tryz.f9 tmps).run Tryz.prog w = .ok (.tuple #[.int .u64 a, .int .i64 b]) w := by
  rw [results_cc rfl, h4, h5]
  obtain ⟨c0, f0⟩ := hb
  obtain ⟨c1, f1⟩ := he
  go_simp
theorem leaves_tm {P : Program} {fn : Func} {t1 t2 : Array Value} {R : Ending → World → Prop} (h : ∀ W, (results fn t1).run P W = (results fn t2).run P W) : ∀ (ds : List Deferred) (u : FrameMode) (w : World), Leaves P fn t1 R ds u w → Leaves P fn t2 R ds u w
  | [], .returning, w, ⟨v, h1, h2⟩ => ⟨v, (h w).symm.trans h1, h2⟩
  | [], .panicking _, _, k => k
  | [], .run, _, k => k
  | d :: ds, u, w, ⟨a, fv, cap, f, args, h1, h2, h3⟩ => ⟨a, fv, cap, f, args, h1, h2, h3.mono (by
      intro e u' w' k
      cases e with
      | returned v => exact leaves_tm h ds _ _ k
      | panicked c => exact leaves_tm h ds _ _ k
      | outgrown => exact k)⟩
theorem putP (k : Nat) {v : Value} {c : List PanicEntry} {a : Act} {w : World} {R : Ending → World → Prop} (hk : k ≠ 4) (hk5 : k ≠ 5) (h : bodyPostD Tryz.prog Tryz.f9 R (.panic c) (a.put (some k) v) w) : bodyPostD Tryz.prog Tryz.f9 R (.panic c) a w := by
  refine leaves_tm (fun W => ?_) a.defers _ w h
  have e : ∀ j, k ≠ j → (a.put (some k) v).tmps.getD j undef = a.tmps.getD j undef := by
    intro j hj
    show (a.tmps.setIfInBounds k v).getD j undef = _
    rw [Array.getD_eq_getD_getElem?, Array.getD_eq_getD_getElem?, Array.getElem?_setIfInBounds_ne hj]
  rw [results_cc rfl, results_cc rfl, e 4 hk, e 5 hk5]
theorem leaveG {tmps : Array Value} {gb ge B : Nat} {x y n : Int} {w V : World} {R : Ending → World → Prop} (h4 : tmps.getD 4 undef = .pointer (some ⟨gb, 0, none⟩)) (h5 : tmps.getD 5 undef = .pointer (some ⟨ge, 0, none⟩)) (hb : B1t V gb (.int .u64 x)) (he : B1t V ge (.int .i64 y)) (hne : gb ≠ ge) (hB : B ≤ gb ∧ B ≤ ge) (hbw : Below B w V) (hR : ∀ W, Below B w W → R (.returned (.tuple #[.int .u64 0, .int .i64 n])) W) :
    Leaves Tryz.prog Tryz.f9 tmps R [{ target := .fn (.func 19) #[.pointer (some ⟨gb, 0, none⟩), .pointer (some ⟨ge, 0, none⟩)], args := #[] }] (.panicking [{ v := FltV n, recovered := false }]) V := by
  refine leaves_cons (f := 19) (args := #[.pointer (some ⟨gb, 0, none⟩), .pointer (some ⟨ge, 0, none⟩)]) (by simp) (by simp [go_sem]) ?_
  refine (pcatch hb he hne hB).mono ?_
  rintro e u' W ⟨rfl, rfl, k1, k2, k3⟩
  exact ⟨_, res_P h4 h5 k1 k2, hR W (hbw.trans k3)⟩
theorem leaveR {tmps : Array Value} {gb ge B : Nat} {x y : Int} {w V : World} {R : Ending → World → Prop} (h4 : tmps.getD 4 undef = .pointer (some ⟨gb, 0, none⟩)) (h5 : tmps.getD 5 undef = .pointer (some ⟨ge, 0, none⟩)) (hb : B1t V gb (.int .u64 x)) (he : B1t V ge (.int .i64 y)) (hB : B ≤ V.heap.size) (hbw : Below B w V) (hR : ∀ W, Below B w W → R (.returned (.tuple #[.int .u64 x, .int .i64 y])) W) :
    Leaves Tryz.prog Tryz.f9 tmps R [{ target := .fn (.func 19) #[.pointer (some ⟨gb, 0, none⟩), .pointer (some ⟨ge, 0, none⟩)], args := #[] }] .returning V := by
  refine leaves_cons (f := 19) (args := #[.pointer (some ⟨gb, 0, none⟩), .pointer (some ⟨ge, 0, none⟩)]) (by simp) (by simp [go_sem]) ?_
  refine (pidle (gb := gb) (ge := ge)).mono ?_
  rintro e u' W ⟨rfl, rfl, k3⟩
  exact ⟨_, res_P h4 h5 (hb.below k3) (he.below k3), hR W (hbw.trans (k3.mono hB))⟩
set_option maxRecDepth 20000 in
set_option maxHeartbeats 0 in
theorem parse_c {f p m le : Int} {S I H sd Q : Nat} {Be : Int} (J : Jn f p m le S I H sd Be) (hQ : ∀ w, Calls Tryz.prog 22 #[WV p m le] w fun e w' => e = .returned (U Q) ∧ Below w.heap.size w w') {l : List UInt8} {w : World} (hT : Tab w) (hTB : 0 < w.heap.size) :
    Calls Tryz.prog 9 #[.int .i64 f, .string (bs l)] w fun en w' => en = .returned (.tuple #[U (parseF le sd Be S I Q l).1, .int .i64 (parseF le sd Be S I Q l).2]) ∧ Below w.heap.size w w' := by
  have HJN : Hid (Jn f p m le S I H sd Be) := J
  have HQ : Hid (∀ w, Calls Tryz.prog 22 #[WV p m le] w fun e w' => e = .returned (U Q) ∧ Below w.heap.size w w') := hQ
  have HT : Hid (Tab w ∧ 0 < w.heap.size) := ⟨hT, hTB⟩
  clear J hQ hT hTB
  have hmf : ∀ (fn : Fn) (first cap : Array Value) (w : World), (Instr.makeFunc fn first cap).run Tryz.prog w = .ok (.func fn first cap) w := fun _ _ _ _ => rfl
  go_enter_defers Tryz.func9, Tryz.ntmps9
  go_wp2_with fail
  obtain ⟨W0, hW0⟩ : ∃ W0, W0 = (w.alloc (.cells #[.int .u64 0] 25)).alloc (.cells #[.int .i64 0] 31) := ⟨_, rfl⟩
  have hb0 : Below w.heap.size w W0 := by rw [hW0]; exact below2 w _ _
  have XB : Hid (B1t W0 w.heap.size (.int .u64 0)) := by rw [hW0]; exact (B1t.new w _ _).below (below1 _ _)
  have XE : Hid (B1t W0 (w.heap.size + 1) (.int .i64 0)) := by rw [hW0]; have h := B1t.new (w.alloc (.cells #[.int .u64 0] 25)) 31 (.int .i64 0); rwa [show (w.alloc (.cells #[.int .u64 0] 25)).heap.size = w.heap.size + 1 by simp] at h
  obtain ⟨gb, hgb⟩ : ∃ gb, gb = w.heap.size := ⟨_, rfl⟩
  obtain ⟨ge, hge⟩ : ∃ ge, ge = w.heap.size + 1 := ⟨_, rfl⟩
  rw [← hW0]
  rw [← hge]
  rw [← hge] at XE
  rw [← hgb] at XB
  rw [← hgb]
  have HN : Hid (gb ≠ ge ∧ gb = w.heap.size ∧ w.heap.size ≤ gb ∧ w.heap.size ≤ ge) := ⟨by omega, hgb, by omega, by omega⟩
  have HB : Hid (Below w.heap.size w W0) := hb0
  clear hW0 hb0 hgb hge
  refine (HJN.out.jm.pm.fm.of _).mono ?_
  rintro e V1 ⟨rfl, hb1⟩
  have XB1 : Hid (B1t V1 gb (.int .u64 0)) := XB.out.below hb1
  have XE1 : Hid (B1t V1 ge (.int .i64 0)) := XE.out.below hb1
  have HB1 : Hid (Below w.heap.size w V1) := Below.on HB.out hb1
  clear XB XE HB hb1
  obtain ⟨ce, fe⟩ := XE1.out
  have lte : ge < V1.heap.size := XE1.out.lt
  go_wp2_with fail
  have XB2 : Hid (B1t ((V1.setCell ⟨ge, 0, none⟩ (.int .i64 0)).alloc (.cells #[.int .i64 p, .int .i64 m, .int .i64 le] 46)) gb (.int .u64 0)) := (XB1.out.setOff HN.out.1).below (below1 _ _)
  have XE2 : Hid (B1t ((V1.setCell ⟨ge, 0, none⟩ (.int .i64 0)).alloc (.cells #[.int .i64 p, .int .i64 m, .int .i64 le] 46)) ge (.int .i64 0)) := (XE1.out.put _).below (below1 _ _)
  have XW2 : Hid (B3q ((V1.setCell ⟨ge, 0, none⟩ (.int .i64 0)).alloc (.cells #[.int .i64 p, .int .i64 m, .int .i64 le] 46)) V1.heap.size (.int .i64 p) (.int .i64 m) (.int .i64 le)) := by have h := B3q.new (V1.setCell ⟨ge, 0, none⟩ (.int .i64 0)) 46 (.int .i64 p) (.int .i64 m) (.int .i64 le); rwa [show (V1.setCell ⟨ge, 0, none⟩ (.int .i64 0)).heap.size = V1.heap.size by simp] at h
  have HB2 : Hid (Below w.heap.size w ((V1.setCell ⟨ge, 0, none⟩ (.int .i64 0)).alloc (.cells #[.int .i64 p, .int .i64 m, .int .i64 le] 46))) := Below.on (bSet HB1.out _ _ _ HN.out.2.2.2) (below1 _ _)
  have HW : Hid (w.heap.size ≤ V1.heap.size) := HB1.out.size
  have HGV : Hid (V1.heap.size ≠ gb ∧ V1.heap.size ≠ ge) := by have h1 := XB1.out.lt; have h2 := XE1.out.lt; exact ⟨by omega, by omega⟩
  generalize ((V1.setCell ⟨ge, 0, none⟩ (.int .i64 0)).alloc (.cells #[.int .i64 p, .int .i64 m, .int .i64 le] 46)) = V2 at *
  obtain ⟨gw, hgw⟩ : ∃ gw, gw = V1.heap.size := ⟨_, rfl⟩
  rw [← hgw]
  rw [← hgw] at XW2 HW HGV
  clear ce fe lte hgw XB1 XE1 HB1
  rcases Nat.lt_or_ge 4000 l.length with hl | hl
  · refine (open_long hl).mono ?_
    rintro e V3 ⟨rfl, hb3⟩
    exact leaveG (B := w.heap.size) rfl rfl (XB2.out.below hb3) (XE2.out.below hb3) HN.out.1 HN.out.2.2 (Below.on HB2.out hb3) (fun W hW => ⟨by rw [parseF_long hl]; rfl, hW⟩)
  · refine (open_ok hl).mono ?_
    rintro e V3 ⟨g, rfl, hg, hx, hb3⟩
    have XB3 : Hid (B1t V3 gb (.int .u64 0)) := XB2.out.below hb3
    have XE3 : Hid (B1t V3 ge (.int .i64 0)) := XE2.out.below hb3
    have XW3 : Hid (B3q V3 gw (.int .i64 p) (.int .i64 m) (.int .i64 le)) := XW2.out.below hb3
    have HB3 : Hid (Below w.heap.size w V3) := Below.on HB2.out hb3
    have XT3 : Hid (B1t V3 g (.string (bs l))) := hx
    have HG : Hid (V2.heap.size ≤ g ∧ w.heap.size ≤ g ∧ w.heap.size ≤ V2.heap.size ∧ gb < V2.heap.size ∧ ge < V2.heap.size ∧ gw < V2.heap.size) := by have h1 := HB2.out.size; have h2 := XB2.out.lt; have h3 := XE2.out.lt; have h4 := XW2.out.lt; exact ⟨hg, by omega, h1, h2, h3, h4⟩
    have HGW : Hid (gw ≠ gb ∧ gw ≠ ge) := HGV.out
    have HL : Hid (l.length ≤ 4000) := hl
    clear hg hx hb3 XB2 XE2 XW2 HB2 hl
    go_wp2_with fail
    refine (is_ok (p := [110, 97, 110]) XT3.out).mono ?_
    rintro e V4 ⟨rfl, rfl⟩
    by_cases hn : l = [110, 97, 110]
    · rw [decide_eq_true hn]
      have HF : Hid (parseF le sd Be S I Q l = (Q, 0)) := parseF_nan (by have := HL.out; omega) hn
      clear hn
      obtain ⟨cw0, cw1, cw2, fw0, fw1, fw2⟩ := XW3.out
      have ltw : gw < V4.heap.size := XW3.out.lt
      go_wp2_with fail
      refine (HQ.out _).mono ?_
      rintro e V5 ⟨rfl, hb5⟩
      have XB5 : Hid (B1t V5 gb (.int .u64 0)) := XB3.out.below hb5
      have XE5 : Hid (B1t V5 ge (.int .i64 0)) := XE3.out.below hb5
      have HB5 : Hid (Below w.heap.size w V5) := Below.on HB3.out hb5
      clear cw0 cw1 cw2 fw0 fw1 fw2 ltw XB3 XE3 XW3 HB3 hb5
      obtain ⟨cb, fb⟩ := XB5.out
      obtain ⟨ce, fe⟩ := XE5.out
      have ltb : gb < V5.heap.size := XB5.out.lt
      have lte : ge < V5.heap.size := XE5.out.lt
      have n1 : gb ≠ ge := HN.out.1
      have n2 : ge ≠ gb := Ne.symm n1
      go_wp2_with fail
      refine leaveR (B := w.heap.size) (x := (Q : Int)) (y := 0) rfl rfl (((XB5.out.put _).setOff n1).below (Below.refl _ _)) ((XE5.out.setOff n2).put _) (by have := HB5.out.size; simpa using this) (bSet (bSet HB5.out _ _ _ HN.out.2.2.1) _ _ _ HN.out.2.2.2) (fun W hW => ⟨by rw [HF.out], hW⟩)
    · rw [decide_eq_false hn]
      have HNN : Hid (l ≠ [110, 97, 110] ∧ ¬ 4000 < l.length) := ⟨hn, by have := HL.out; omega⟩
      clear hn
      go_wp2_with fail
      refine (minus_ok XT3.out (Nat.le_refl _)).mono ?_
      rintro e V5 ⟨rfl, hx5, hg5⟩
      obtain ⟨M, hM⟩ : ∃ M, M = minusF l := ⟨_, rfl⟩
      rw [← hM] at hx5
      rw [← hM]
      have XB5 : Hid (B1t V5 gb (.int .u64 0)) := XB3.out.growX hg5 (by intro h; cases h; have := HG.out; omega)
      have XE5 : Hid (B1t V5 ge (.int .i64 0)) := XE3.out.growX hg5 (by intro h; cases h; have := HG.out; omega)
      have XW5 : Hid (B3q V5 gw (.int .i64 p) (.int .i64 m) (.int .i64 le)) := XW3.out.growX hg5 (by intro h; cases h; have := HG.out; omega)
      have HB5 : Hid (Below w.heap.size w V5) := HB3.out.trans (gbBelow hg5 HG.out.2.1 HB3.out.size)
      clear XB3 XE3 XW3 HB3
      have XT5 : Hid (B1t V5 g (.string (bs M.2))) := hx5
      have HM : Hid (M = minusF l ∧ M.2.length ≤ 4000) := ⟨hM, by rw [hM]; have := minusF_len l; have := HL.out; omega⟩
      clear hx5 hg5 hM XT3
      go_wp2_with fail
      refine (is_ok (p := [105, 110, 102]) XT5.out).mono ?_
      rintro e V6 ⟨rfl, rfl⟩
      by_cases hi : M.2 = [105, 110, 102]
      · rw [decide_eq_true hi]
        have HF : Hid (parseF le sd Be S I Q l = (sgq S M.1 I, 0)) := by rw [HM.out.1]; rw [HM.out.1] at hi; exact parseF_inf HNN.out.2 HNN.out.1 hi
        clear hi
        obtain ⟨cw0, cw1, cw2, fw0, fw1, fw2⟩ := XW5.out
        have ltw : gw < V6.heap.size := XW5.out.lt
        go_wp2_with fail
        clear cw0 cw1 cw2 fw0 fw1 fw2 ltw
        obtain ⟨V7, hV7⟩ : ∃ W1, W1 = V6.drew := ⟨_, rfl⟩
        have hbd : Below V6.heap.size V6 V7 := by rw [hV7]; exact bDrew1 (Below.refl _ _)
        have XB6 : Hid (B1t V7 gb (.int .u64 0)) := XB5.out.below hbd
        have XE6 : Hid (B1t V7 ge (.int .i64 0)) := XE5.out.below hbd
        have XW6 : Hid (B3q V7 gw (.int .i64 p) (.int .i64 m) (.int .i64 le)) := XW5.out.below hbd
        have HB6 : Hid (Below w.heap.size w V7) := Below.on HB5.out hbd
        have HJ6 : Hid ((fun W' : World => W'.cell? ⟨gw, 0, none⟩ = some (.int .i64 p) ∧ W'.cell? ⟨gw, 1, none⟩ = some (.int .i64 m) ∧ W'.cell? ⟨gw, 2, none⟩ = some (.int .i64 le)) V7) := ⟨XW6.out.c0, XW6.out.c1, XW6.out.c2⟩
        clear hbd XB5 XE5 XW5 HB5
        refine wp_region_J (fun W' => W'.cell? ⟨gw, 0, none⟩ = some (.int .i64 p) ∧ W'.cell? ⟨gw, 1, none⟩ = some (.int .i64 m) ∧ W'.cell? ⟨gw, 2, none⟩ = some (.int .i64 le)) (by kernel_rfl) ?_
        rw [← hV7]
        clear hV7
        refine wpJ_take (i := 0) (v := ?v1y0) rfl (by kernel_rfl) (by kernel_rfl) (by kernel_rfl) (fun _ _ _ h => putP 28 (by decide) (by decide) h) (by kernel_rfl) ?hy1y0 HJ6.out ?rest1y0
        case hy1y0 => (intro W' hJ; obtain ⟨j0, j1, j2⟩ := hJ; go_simp; first | done | with_reducible rfl)
        refine wpJ_take (i := 1) (v := ?v2y1) rfl (by kernel_rfl) (by kernel_rfl) (by kernel_rfl) (fun _ _ _ h => putP 29 (by decide) (by decide) h) (by kernel_rfl) ?hy2y1 HJ6.out ?rest2y1
        case hy2y1 => (intro W' hJ; obtain ⟨j0, j1, j2⟩ := hJ; go_simp; first | done | with_reducible rfl)
        refine wpJ_take (i := 2) (v := ?v3y2) rfl (by kernel_rfl) (by kernel_rfl) (by kernel_rfl) (fun _ _ _ h => putP 30 (by decide) (by decide) h) (by kernel_rfl) ?hy3y2 HJ6.out ?rest3y2
        case hy3y2 => (intro W' hJ; obtain ⟨j0, j1, j2⟩ := hJ; go_simp; first | done | with_reducible rfl)
        refine wpJ_on 3 rfl fun KJ hK => ?_
        go_simp
        refine (HJN.out.jm.pm.fm.inf _).mono ?_
        rintro e V8 ⟨rfl, hb8⟩
        have XB7 : Hid (B1t V8 gb (.int .u64 0)) := XB6.out.below hb8
        have XE7 : Hid (B1t V8 ge (.int .i64 0)) := XE6.out.below hb8
        have XW7 : Hid (B3q V8 gw (.int .i64 p) (.int .i64 m) (.int .i64 le)) := XW6.out.below hb8
        have HB7 : Hid (Below w.heap.size w V8) := Below.on HB6.out hb8
        have HJ7 : Hid ((fun W' : World => W'.cell? ⟨gw, 0, none⟩ = some (.int .i64 p) ∧ W'.cell? ⟨gw, 1, none⟩ = some (.int .i64 m) ∧ W'.cell? ⟨gw, 2, none⟩ = some (.int .i64 le)) V8) := ⟨XW7.out.c0, XW7.out.c1, XW7.out.c2⟩
        clear hb8 XB6 XE6 XW6 HB6
        refine hK _ _ HJ7.out ?_
        clear hK
        refine wpJ_on 4 rfl fun KJ hK => ?_
        go_simp
        refine (HJN.out.jm.pm.fm.sgn M.1 I _ HJN.out.jm.pm.fm.lt).mono ?_
        rintro e V9 ⟨rfl, hb9⟩
        rw [show (if M.1 = true then S + I else I) = sgq S M.1 I from rfl]
        have XB10 : Hid (B1t V9 gb (.int .u64 0)) := XB7.out.below hb9
        have XE10 : Hid (B1t V9 ge (.int .i64 0)) := XE7.out.below hb9
        have XW10 : Hid (B3q V9 gw (.int .i64 p) (.int .i64 m) (.int .i64 le)) := XW7.out.below hb9
        have HB10 : Hid (Below w.heap.size w V9) := Below.on HB7.out hb9
        have HJ10 : Hid ((fun W' : World => W'.cell? ⟨gw, 0, none⟩ = some (.int .i64 p) ∧ W'.cell? ⟨gw, 1, none⟩ = some (.int .i64 m) ∧ W'.cell? ⟨gw, 2, none⟩ = some (.int .i64 le)) V9) := ⟨XW10.out.c0, XW10.out.c1, XW10.out.c2⟩
        clear hb9 XB7 XE7 XW7 HB7
        refine hK _ _ HJ10.out ?_
        clear hK
        clear HJ6 HJ7
        obtain ⟨cb, fb⟩ := XB10.out
        obtain ⟨ce, fe⟩ := XE10.out
        have ltb : gb < V9.heap.size := XB10.out.lt
        have lte : ge < V9.heap.size := XE10.out.lt
        have n1 : gb ≠ ge := HN.out.1
        have n2 : ge ≠ gb := Ne.symm n1
        have n3 : gw ≠ gb := by have := HGW.out; omega
        have n4 : gw ≠ ge := by have := HGW.out; omega
        obtain ⟨j0, j1, j2⟩ := HJ10.out
        refine wpJ_on 5 rfl fun KJ hK => ?_
        go_simp
        have HJ8 : Hid ((fun W' : World => W'.cell? ⟨gw, 0, none⟩ = some (.int .i64 p) ∧ W'.cell? ⟨gw, 1, none⟩ = some (.int .i64 m) ∧ W'.cell? ⟨gw, 2, none⟩ = some (.int .i64 le)) (V9.setCell ⟨gb, 0, none⟩ (.int .u64 ((sgq S M.1 I : Nat) : Int)))) := ⟨by go_simp, by go_simp, by go_simp⟩
        refine hK _ _ HJ8.out ?_
        clear hK
        refine wpJ_on 6 rfl fun KJ hK => ?_
        go_simp
        have HJ9 : Hid ((fun W' : World => W'.cell? ⟨gw, 0, none⟩ = some (.int .i64 p) ∧ W'.cell? ⟨gw, 1, none⟩ = some (.int .i64 m) ∧ W'.cell? ⟨gw, 2, none⟩ = some (.int .i64 le)) ((V9.setCell ⟨gb, 0, none⟩ (.int .u64 ((sgq S M.1 I : Nat) : Int))).setCell ⟨ge, 0, none⟩ (.int .i64 0))) := ⟨by go_simp, by go_simp, by go_simp⟩
        refine hK _ _ HJ9.out ?_
        clear hK
        refine wpJ_done (by kernel_rfl) ?_ _
        clear HJ8 HJ9
        go_wp2_with fail
        exact leaveR (B := w.heap.size) (x := ((sgq S M.1 I : Nat) : Int)) (y := 0) rfl rfl (((XB10.out.put _).setOff n1).below (Below.refl _ _)) ((XE10.out.setOff n2).put _) (by have := HB10.out.size; simpa using this) (bSet (bSet HB10.out _ _ _ HN.out.2.2.1) _ _ _ HN.out.2.2.2) (fun W hW => ⟨by rw [HF.out], hW⟩)
      · rw [decide_eq_false hi]
        have HII : Hid (M.2 ≠ [105, 110, 102]) := hi
        clear hi
        obtain ⟨cw0, cw1, cw2, fw0, fw1, fw2⟩ := XW5.out
        have ltw : gw < V6.heap.size := XW5.out.lt
        go_wp2_with fail
        clear cw0 cw1 cw2 fw0 fw1 fw2 ltw
        obtain ⟨V7, hV7⟩ : ∃ W1, W1 = V6.drew := ⟨_, rfl⟩
        have hbd : Below V6.heap.size V6 V7 := by rw [hV7]; exact bDrew1 (Below.refl _ _)
        have XB6 : Hid (B1t V7 gb (.int .u64 0)) := XB5.out.below hbd
        have XE6 : Hid (B1t V7 ge (.int .i64 0)) := XE5.out.below hbd
        have XW6 : Hid (B3q V7 gw (.int .i64 p) (.int .i64 m) (.int .i64 le)) := XW5.out.below hbd
        have XT6 : Hid (B1t V7 g (.string (bs M.2))) := XT5.out.below hbd
        have HB6 : Hid (Below w.heap.size w V7) := Below.on HB5.out hbd
        have HJ6 : Hid ((fun W' : World => W'.cell? ⟨gw, 0, none⟩ = some (.int .i64 p) ∧ W'.cell? ⟨gw, 1, none⟩ = some (.int .i64 m) ∧ W'.cell? ⟨gw, 2, none⟩ = some (.int .i64 le)) V7) := ⟨XW6.out.c0, XW6.out.c1, XW6.out.c2⟩
        clear hbd XB5 XE5 XW5 XT5 HB5
        refine wp_region_J (fun W' => W'.cell? ⟨gw, 0, none⟩ = some (.int .i64 p) ∧ W'.cell? ⟨gw, 1, none⟩ = some (.int .i64 m) ∧ W'.cell? ⟨gw, 2, none⟩ = some (.int .i64 le)) (by kernel_rfl) ?_
        rw [← hV7]
        clear hV7
        refine wpJ_take (i := 0) (v := ?v4y0) rfl (by kernel_rfl) (by kernel_rfl) (by kernel_rfl) (fun _ _ _ h => putP 33 (by decide) (by decide) h) (by kernel_rfl) ?hy4y0 HJ6.out ?rest4y0
        case hy4y0 => (intro W' hJ; obtain ⟨j0, j1, j2⟩ := hJ; go_simp; first | done | with_reducible rfl)
        refine wpJ_take (i := 1) (v := ?v5y1) rfl (by kernel_rfl) (by kernel_rfl) (by kernel_rfl) (fun _ _ _ h => putP 34 (by decide) (by decide) h) (by kernel_rfl) ?hy5y1 HJ6.out ?rest5y1
        case hy5y1 => (intro W' hJ; obtain ⟨j0, j1, j2⟩ := hJ; go_simp; first | done | with_reducible rfl)
        refine wpJ_take (i := 2) (v := ?v6y2) rfl (by kernel_rfl) (by kernel_rfl) (by kernel_rfl) (fun _ _ _ h => putP 35 (by decide) (by decide) h) (by kernel_rfl) ?hy6y2 HJ6.out ?rest6y2
        case hy6y2 => (intro W' hJ; obtain ⟨j0, j1, j2⟩ := hJ; go_simp; first | done | with_reducible rfl)
        refine wpJ_take (i := 3) (v := ?v7y3) rfl (by kernel_rfl) (by kernel_rfl) (by kernel_rfl) (fun _ _ _ h => putP 36 (by decide) (by decide) h) (by kernel_rfl) ?hy7y3 HJ6.out ?rest7y3
        case hy7y3 => (intro W' hJ; obtain ⟨j0, j1, j2⟩ := hJ; go_simp; first | done | with_reducible rfl)
        refine wpJ_on 4 rfl fun KJ hK => ?_
        go_simp
        refine (number_c (B := V2.heap.size) XT6.out HG.out.1 HM.out.2 (Tab.belowB HT.out.1 HB6.out HT.out.2) (by have := HT.out.2; have := HG.out.2.2.1; omega)).mono ?_
        rintro e V8 (⟨hnn, rfl, hb8⟩ | ⟨ds, be, ex, zo, eo, er, s9, p9, m9, c9, hnn, hM, rfl, hQ9, hb8⟩)
        · exact leaveG (B := w.heap.size) rfl rfl (XB6.out.belowB hb8 HG.out.2.2.2.1) (XE6.out.belowB hb8 HG.out.2.2.2.2.1) HN.out.1 HN.out.2.2 (HB6.out.trans (hb8.mono HG.out.2.2.1)) (fun W hW => ⟨by rw [parseF_no HNN.out.2 HNN.out.1 (by rw [← HM.out.1]; exact HII.out) (by rw [← HM.out.1]; exact hnn)]; rfl, hW⟩)
        · obtain ⟨d, hds, hdh, hdl, hbe, hx1, hx2⟩ := numF_spec hnn
          have hml := HM.out.2
          obtain ⟨rfl, hz0, heo, hdv⟩ := make_text hdh (by omega) ⟨by omega, by omega⟩ (hds ▸ hM)
          have HNM : Hid (rnp le sd Be S I zo eo = rnp le sd Be S I (hexF 0 ds : Int) (ex - 4 * ((be : Nat) : Int))) := by rw [hds, hexF_trim]; exact rnp_same HJN.out hz0 (Int.natCast_nonneg _) (by omega) (by omega) hdv
          have HRL : Hid (rnp le sd Be S I zo eo < S) := Nat.lt_of_le_of_lt (rnp_le HJN.out hz0 (by omega)) HJN.out.jm.pm.fm.lt
          have HF : Hid (parseF le sd Be S I Q l = (sgq S M.1 (rnp le sd Be S I zo eo), 0)) := by rw [HNM.out, HM.out.1]; exact parseF_num HNN.out.2 HNN.out.1 (by rw [← HM.out.1]; exact HII.out) (by rw [← HM.out.1]; exact hnn)
          have D9 : Hid (DN V8 s9 p9 m9 c9 eo zo) := hQ9.dn
          clear hds hdh hdl hbe hx1 hx2 hml hz0 heo hdv hnn hM hQ9 HNM
          obtain ⟨R, hR⟩ : ∃ R, R = rnp le sd Be S I zo eo := ⟨_, rfl⟩
          rw [← hR] at HRL HF
          have XB7 : Hid (B1t V8 gb (.int .u64 0)) := XB6.out.belowB hb8 HG.out.2.2.2.1
          have XE7 : Hid (B1t V8 ge (.int .i64 0)) := XE6.out.belowB hb8 HG.out.2.2.2.2.1
          have XW7 : Hid (B3q V8 gw (.int .i64 p) (.int .i64 m) (.int .i64 le)) := XW6.out.belowB hb8 HG.out.2.2.2.2.2
          have HB7 : Hid (Below w.heap.size w V8) := HB6.out.trans (hb8.mono HG.out.2.2.1)
          have HJ7 : Hid ((fun W' : World => W'.cell? ⟨gw, 0, none⟩ = some (.int .i64 p) ∧ W'.cell? ⟨gw, 1, none⟩ = some (.int .i64 m) ∧ W'.cell? ⟨gw, 2, none⟩ = some (.int .i64 le)) V8) := ⟨XW7.out.c0, XW7.out.c1, XW7.out.c2⟩
          have HR9 : Hid (rnp le sd Be S I zo eo = R) := hR.symm
          clear hb8 hR XB6 XE6 XW6 XT6 HB6 HJ6
          refine hK _ _ HJ7.out ?_
          clear hK
          refine wpJ_on 5 rfl fun KJ hK => ?_
          go_simp
          refine (hnear HJN.out D9.out (Tab.belowB HT.out.1 HB7.out HT.out.2)).mono ?_
          rintro e V9 ⟨rfl, hb9⟩
          rw [HR9.out]
          have XB8 : Hid (B1t V9 gb (.int .u64 0)) := XB7.out.below hb9
          have XE8 : Hid (B1t V9 ge (.int .i64 0)) := XE7.out.below hb9
          have XW8 : Hid (B3q V9 gw (.int .i64 p) (.int .i64 m) (.int .i64 le)) := XW7.out.below hb9
          have HB8 : Hid (Below w.heap.size w V9) := Below.on HB7.out hb9
          have HJ8 : Hid ((fun W' : World => W'.cell? ⟨gw, 0, none⟩ = some (.int .i64 p) ∧ W'.cell? ⟨gw, 1, none⟩ = some (.int .i64 m) ∧ W'.cell? ⟨gw, 2, none⟩ = some (.int .i64 le)) V9) := ⟨XW8.out.c0, XW8.out.c1, XW8.out.c2⟩
          clear hb9 XB7 XE7 XW7 HB7
          refine hK _ _ HJ8.out ?_
          clear hK
          refine wpJ_on 6 rfl fun KJ hK => ?_
          go_simp
          refine (HJN.out.jm.pm.fm.sgn M.1 R _ HRL.out).mono ?_
          rintro e V10 ⟨rfl, hb10⟩
          rw [show (if M.1 = true then S + R else R) = sgq S M.1 R from rfl]
          have XB10 : Hid (B1t V10 gb (.int .u64 0)) := XB8.out.below hb10
          have XE10 : Hid (B1t V10 ge (.int .i64 0)) := XE8.out.below hb10
          have XW10 : Hid (B3q V10 gw (.int .i64 p) (.int .i64 m) (.int .i64 le)) := XW8.out.below hb10
          have HB10 : Hid (Below w.heap.size w V10) := Below.on HB8.out hb10
          have HJ10 : Hid ((fun W' : World => W'.cell? ⟨gw, 0, none⟩ = some (.int .i64 p) ∧ W'.cell? ⟨gw, 1, none⟩ = some (.int .i64 m) ∧ W'.cell? ⟨gw, 2, none⟩ = some (.int .i64 le)) V10) := ⟨XW10.out.c0, XW10.out.c1, XW10.out.c2⟩
          clear hb10 XB8 XE8 XW8 HB8
          refine hK _ _ HJ10.out ?_
          clear hK
          clear HJ7 HJ8
          obtain ⟨cb, fb⟩ := XB10.out
          obtain ⟨ce, fe⟩ := XE10.out
          have ltb : gb < V10.heap.size := XB10.out.lt
          have lte : ge < V10.heap.size := XE10.out.lt
          have n1 : gb ≠ ge := HN.out.1
          have n2 : ge ≠ gb := Ne.symm n1
          have n3 : gw ≠ gb := by have := HGW.out; omega
          have n4 : gw ≠ ge := by have := HGW.out; omega
          obtain ⟨j0, j1, j2⟩ := HJ10.out
          refine wpJ_on 7 rfl fun KJ hK => ?_
          go_simp
          have HJ8 : Hid ((fun W' : World => W'.cell? ⟨gw, 0, none⟩ = some (.int .i64 p) ∧ W'.cell? ⟨gw, 1, none⟩ = some (.int .i64 m) ∧ W'.cell? ⟨gw, 2, none⟩ = some (.int .i64 le)) (V10.setCell ⟨gb, 0, none⟩ (.int .u64 ((sgq S M.1 R : Nat) : Int)))) := ⟨by go_simp, by go_simp, by go_simp⟩
          refine hK _ _ HJ8.out ?_
          clear hK
          refine wpJ_on 8 rfl fun KJ hK => ?_
          go_simp
          have HJ9 : Hid ((fun W' : World => W'.cell? ⟨gw, 0, none⟩ = some (.int .i64 p) ∧ W'.cell? ⟨gw, 1, none⟩ = some (.int .i64 m) ∧ W'.cell? ⟨gw, 2, none⟩ = some (.int .i64 le)) ((V10.setCell ⟨gb, 0, none⟩ (.int .u64 ((sgq S M.1 R : Nat) : Int))).setCell ⟨ge, 0, none⟩ (.int .i64 0))) := ⟨by go_simp, by go_simp, by go_simp⟩
          refine hK _ _ HJ9.out ?_
          clear hK
          refine wpJ_done (by kernel_rfl) ?_ _
          clear HJ8 HJ9
          go_wp2_with fail
          exact leaveR (B := w.heap.size) (x := ((sgq S M.1 R : Nat) : Int)) (y := 0) rfl rfl (((XB10.out.put _).setOff n1).below (Below.refl _ _)) ((XE10.out.setOff n2).put _) (by have := HB10.out.size; simpa using this) (bSet (bSet HB10.out _ _ _ HN.out.2.2.1) _ _ _ HN.out.2.2.2) (fun W hW => ⟨by rw [HF.out], hW⟩)
end Go.Proofs.YtglkjbkpgfencaaGreatDoor

namespace Go.Proofs.YtglkjbkpgfencaaGreatDoor
open Go.RowKit Go.Shelf

def hxc (d : Nat) : Nat := if d < 10 then 48 + d else 87 + d
def hexL : Nat → Nat → List UInt8
  | 0, _ => []
  | f + 1, x => if x < 16 then [UInt8.ofNat (hxc x)] else hexL f (x / 16) ++ [UInt8.ofNat (hxc (x % 16))]
theorem dig36 (d : Nat) (h : d < (⟨#[48, 49, 50, 51, 52, 53, 54, 55, 56, 57, 97, 98, 99, 100, 101, 102, 103, 104, 105, 106, 107, 108, 109, 110, 111, 112, 113, 114, 115, 116, 117, 118, 119, 120, 121, 122]⟩ : ByteArray).size) (h16 : d < 16) : ((⟨#[48, 49, 50, 51, 52, 53, 54, 55, 56, 57, 97, 98, 99, 100, 101, 102, 103, 104, 105, 106, 107, 108, 109, 110, 111, 112, 113, 114, 115, 116, 117, 118, 119, 120, 121, 122]⟩ : ByteArray)[d]'h).toNat = hxc d := by
  obtain rfl | rfl | rfl | rfl | rfl | rfl | rfl | rfl | rfl | rfl | rfl | rfl | rfl | rfl | rfl | rfl : d = 0 ∨ d = 1 ∨ d = 2 ∨ d = 3 ∨ d = 4 ∨ d = 5 ∨ d = 6 ∨ d = 7 ∨ d = 8 ∨ d = 9 ∨ d = 10 ∨ d = 11 ∨ d = 12 ∨ d = 13 ∨ d = 14 ∨ d = 15 := by omega
  all_goals rfl
theorem hxc_lt {d : Nat} (h : d < 16) : hxc d < 256 := by unfold hxc; split <;> omega
theorem hxc_to {d : Nat} (h : d < 16) : (UInt8.ofNat (hxc d)).toNat = hxc d := by
  rw [UInt8.toNat_ofNat']
  exact Nat.mod_eq_of_lt (hxc_lt h)
theorem and15 (a : Nat) (ha : a < 18446744073709551616) : bits BinOp.and IntKind.u64 (a : Int) 15 = ((a % 16 : Nat) : Int) := by
  have h := bits_and_u64_nat a 15 ha (by decide)
  rw [show (15 : Nat) = 2 ^ 4 - 1 from rfl, Nat.and_two_pow_sub_one_eq_mod] at h
  exact h
structure By (w : World) (g n : Nat) (f : Nat → Nat) : Prop where
  cell : ∀ j, j < n → w.cell? ⟨g, j, none⟩ = some (.int .u8 (f j : Int))
  frz : ∀ j, j < n → w.frozen? ⟨g, j, none⟩ = false
theorem By.below {w w' : World} {g n : Nat} {f : Nat → Nat} (h : By w g n f) (hb : Below w.heap.size w w') : By w' g n f :=
  ⟨fun j hj => (hb.cell (p := ⟨g, j, none⟩) (World.block_lt_of_cell? w _ (h.cell j hj))).trans (h.cell j hj), fun j hj => (hb.frozen (p := ⟨g, j, none⟩) (World.block_lt_of_cell? w _ (h.cell j hj))).trans (h.frz j hj)⟩
theorem By.set {w : World} {g n : Nat} {f : Nat → Nat} (h : By w g n f) (k y : Nat) (hk : k < n) : By (w.setCell ⟨g, k, none⟩ (.int .u8 (y : Int))) g n (fun j => if j = k then y else f j) := by
  refine ⟨fun j hj => ?_, fun j hj => by rw [World.frozen?_setCell]; exact h.frz j hj⟩
  by_cases e : j = k
  · subst e; rw [if_pos rfl]; exact World.cell?_setCell_same _ _ _ (h.cell j hj)
  · rw [if_neg e, World.cell?_setCell_other _ _ _ _ (by intro e2; cases e2; exact e rfl)]; exact h.cell j hj
theorem By.new (w : World) : By (w.alloc (.cells Tryz.zeroCells210 210)) w.heap.size 65 (fun _ => 0) := by
  have hz : Tryz.zeroCells210 = Array.replicate 65 (.int .u8 0) := by kernel_rfl
  refine ⟨fun j hj => ?_, fun j hj => by go_simp⟩
  rw [hz, World.cell?_alloc_new]
  simp [hj]
theorem by_conv {w : World} {g n i : Nat} {f : Nat → Nat} {l : List UInt8} (c : Nat) (h : By w g n f) (hl : i + l.length ≤ n) (hf : ∀ j, j < l.length → (l.getD j 0).toNat = f (i + j)) :
    (convert 168 9 (.slice (some ⟨g, i, none⟩) l.length c)).run Tryz.prog w = .ok (.string (bs l)) w := by
  exact run_convert_bytes_back (P := Tryz.prog) w 168 9 5 ⟨g, i, none⟩ c l Tryz.underlying168 Tryz.underlying5 Tryz.underlying9 (fun j hj => by
    rw [Lib.add_plain, h.cell (i + j) (by omega), ← hf j hj, List.getD_eq_getElem?_getD, List.getElem?_eq_getElem hj]; rfl)
set_option maxRecDepth 20000 in
set_option maxHeartbeats 0 in
theorem ipow (w : World) : Calls Tryz.prog 158 #[.int .i64 16] w fun e w' => e = .returned (.bool true) ∧ w' = w := by
  go_enter Tryz.func158, Tryz.ntmps158
  go_wp2_with fail
  go_ret
  exact ⟨rfl, rfl⟩
set_option maxRecDepth 20000 in
set_option maxHeartbeats 0 in
theorem tz16 {w : World} (hT : Tab w) : Calls Tryz.prog 159 #[.int .u64 16] w fun e w' => e = .returned (.int .i64 4) ∧ w' = w := by
  have HT : Hid (Tab w) := hT
  clear hT
  go_enter Tryz.func159, Tryz.ntmps159
  go_wp2_with fail
  refine (tz_any (x := 16) (r := 4) (by decide) (by decide) (by unfold TzIs; decide) HT.out).mono ?_
  rintro e v ⟨rfl, rfl⟩
  go_wp2_with fail
  go_ret
  exact ⟨rfl, rfl⟩
set_option maxRecDepth 20000 in
set_option maxHeartbeats 0 in
theorem fbits {x : Nat} {w : World} (hx : x < B64) (hT : Tab w) :
    Calls Tryz.prog 136 #[.slice none 0 0, U x, .int .i64 16, .bool false, .bool false] w fun en w' => en = .returned (.tuple #[.slice none 0 0, .string (bs (hexL 16 x))]) ∧ Below w.heap.size w w' := by
  have H : Hid (x < B64 ∧ Tab w) := ⟨hx, hT⟩
  clear hx hT
  go_enter Tryz.func136, Tryz.ntmps136
  go_wp2_with fail
  obtain ⟨V0, hV0⟩ : ∃ V0, V0 = w.alloc (.cells Tryz.zeroCells210 210) := ⟨_, rfl⟩
  have hb0 : Below w.heap.size w V0 := by rw [hV0]; exact below1 w _
  have Y0 : Hid (By V0 w.heap.size 65 (fun _ => 0)) := by rw [hV0]; exact By.new w
  obtain ⟨ga, hga⟩ : ∃ ga, ga = w.heap.size := ⟨_, rfl⟩
  rw [← hV0]
  rw [← hga] at Y0
  have HA : Hid (w.heap.size ≤ ga ∧ Tab V0 ∧ Below w.heap.size w V0) := ⟨by omega, H.out.2.below hb0, hb0⟩
  rw [← hga]
  clear hV0 hb0 hga
  refine (ipow _).mono ?_
  rintro e v ⟨rfl, rfl⟩
  go_wp2_with fail
  refine (tz16 HA.out.2.1).mono ?_
  rintro e v1 ⟨rfl, rfl⟩
  go_wp2_with fail
  go_loopg [1, 13] x (fun gk uv iv wr => ∃ (t : Nat) (S : List UInt8) (f : Nat → Nat), uv = U gk ∧ iv = .int .i64 ((65 - t : Nat) : Int) ∧ t ≤ 15 ∧ gk < 16 ^ (16 - t) ∧ hexL 16 x = hexL (16 - t) gk ++ S ∧ S.length = t ∧ By wr ga 65 f ∧ (∀ j, j < t → (S.getD j 0).toNat = f (65 - t + j)) ∧ Below w.heap.size w wr)
  case atStart => exact ⟨0, [], _, rfl, rfl, by omega, H.out.1, (List.append_nil _).symm, rfl, Y0.out, fun j hj => absurd hj (Nat.not_lt_zero _), HA.out.2.2⟩
  case round =>
    obtain ⟨t, S, f, rfl, rfl, ht, hg, hx, hS, hY, hf, hbw⟩ := hrel
    have HR : Hid (t ≤ 15 ∧ gk < 16 ^ (16 - t) ∧ hexL 16 x = hexL (16 - t) gk ++ S ∧ S.length = t ∧ By wr ga 65 f ∧ (∀ j, j < t → (S.getD j 0).toNat = f (65 - t + j)) ∧ Below w.heap.size w wr) := ⟨ht, hg, hx, hS, hY, hf, hbw⟩
    obtain ⟨i, hi⟩ : ∃ i, i = 64 - t := ⟨_, rfl⟩
    have hi1 : 65 - t = i + 1 := by omega
    rw [hi1]
    have hi2 : i ≤ 64 := by omega
    have hi3 : 49 ≤ i := by omega
    have HI : Hid (i = 64 - t ∧ t = 64 - i) := ⟨hi, by omega⟩
    have hgB : gk < 18446744073709551616 := Nat.lt_of_lt_of_le hg (Nat.le_trans (Nat.pow_le_pow_right (by decide) (by omega : 16 - t ≤ 16)) (by decide))
    have hci := hY.cell i (by omega)
    have hfi := hY.frz i (by omega)
    clear hi hi1 ht hg hx hS hY hf hbw
    rcases Nat.lt_or_ge gk 16 with h16 | h16
    · have hd0 : decide ((16 : Int) ≤ (gk : Int)) = false := decide_eq_false (by omega)
      go_wp2_with fail
      rw [dig36 gk _ h16]
      have HL : Hid (hexL 16 x = UInt8.ofNat (hxc gk) :: S) := by obtain ⟨m, hm⟩ : ∃ m, 16 - t = m + 1 := ⟨15 - t, by have := HR.out.1; omega⟩; have h := HR.out.2.2.1; rw [hm] at h; rw [h]; show (if gk < 16 then _ else _) ++ S = _; rw [if_pos h16]; rfl
      have HT2 : Hid ((UInt8.ofNat (hxc gk)).toNat = hxc gk) := hxc_to h16
      obtain ⟨c, hc⟩ : ∃ c, c = hxc gk := ⟨_, rfl⟩
      rw [← hc]
      have Y2 : Hid (By (wr.setCell ⟨ga, i, none⟩ (.int .u8 (c : Int))) ga 65 (fun j => if j = i then c else f j)) := HR.out.2.2.2.2.1.set i c (by omega)
      have HB2 : Hid (Below w.heap.size w (wr.setCell ⟨ga, i, none⟩ (.int .u8 (c : Int)))) := bSet HR.out.2.2.2.2.2.2 _ _ _ HA.out.1
      generalize wr.setCell ⟨ga, i, none⟩ (.int .u8 (c : Int)) = V2 at *
      have hlen : (hexL 16 x).length = 65 - i := by rw [HL.out, List.length_cons, HR.out.2.2.2.1, HI.out.2]; omega
      have hcv := by_conv (w := V2) (g := ga) (n := 65) (i := i) (f := fun j => if j = i then c else f j) (l := hexL 16 x) (65 - i) Y2.out (by omega) (by intro j hj; rw [HL.out]; cases j with | zero => (show (UInt8.ofNat (hxc gk)).toNat = if i + 0 = i then c else _; rw [if_pos (Nat.add_zero i), HT2.out, hc]) | succ j => (show (S.getD j 0).toNat = if i + (j + 1) = i then c else f (i + (j + 1)); rw [if_neg (by omega), HR.out.2.2.2.2.2.1 j (by have := HI.out.2; omega)]; congr 1; have := HI.out.2; omega))
      rw [hlen] at hcv
      have hal : Program.arrayLen Tryz.prog 210 = 65 := by simp [Program.arrayLen, Tryz.underlying210]
      have hsl : ∀ W, (Instr.sliceAt 210 (.pointer (some ⟨ga, 0, none⟩)) (some (.int .i64 (i : Int))) none none).run Tryz.prog W = .ok (.slice (some ⟨ga, i, none⟩) (65 - i) (65 - i)) W := fun W => by rw [run_sliceAt_array_l W 210 ⟨ga, 0, none⟩ (by simp [Program.arrayLen, Program.elem, Tryz.underlying210]) .i64 (i : Int) (by omega) (by rw [hal]; omega)]; have hne : ¬ 65 = i := (by omega); go_simp
      clear hal hc hd0 h16 hci hfi hgB
      rw [hsl V2]
      go_simp
      go_wp2_with fail
      go_ret2
      exact ⟨rfl, HB2.out⟩
    · have hd0 : decide ((16 : Int) ≤ (gk : Int)) = true := decide_eq_true (by omega)
      have hand := and15 gk hgB
      obtain ⟨d, hd⟩ : ∃ d, d = gk % 16 := ⟨_, rfl⟩
      have hd16 : d < 16 := by omega
      rw [← hd] at hand
      have h36 : (d : Int) < 36 := by omega
      have HD : Hid (d = gk % 16 ∧ 16 ≤ gk) := ⟨hd, h16⟩
      clear hd
      go_wp2_with fail
      rw [dig36 d _ hd16]
      obtain ⟨m, hm⟩ : ∃ m, 16 - t = m + 1 := ⟨15 - t, by have := HR.out.1; omega⟩
      have ht14 : t ≤ 14 := by refine Nat.le_of_not_lt fun h => ?_; have h1 := HR.out.1; have h2 := HR.out.2.1; rw [show 16 - t = 1 by omega] at h2; have := HD.out.2; omega
      have hstep : hexL (16 - t) gk = hexL (16 - (t + 1)) (gk / 16) ++ [UInt8.ofNat (hxc d)] := by rw [show 16 - (t + 1) = m by omega, hm, HD.out.1]; show (if gk < 16 then _ else _) = _; rw [if_neg (by have := HD.out.2; omega)]
      have hlt2 : gk / 16 < 16 ^ (16 - (t + 1)) := by have h2 := HR.out.2.1; rw [hm, Nat.pow_succ] at h2; rw [show 16 - (t + 1) = m by omega]; omega
      have HT2 : Hid ((UInt8.ofNat (hxc d)).toNat = hxc d) := hxc_to hd16
      go_roundg (gk / 16)
      case measure => have := HD.out.2; omega
      case rel =>
        refine ⟨t + 1, UInt8.ofNat (hxc d) :: S, fun j => if j = i then hxc d else f j, congrArg (Value.int IntKind.u64) (by omega), congrArg (Value.int IntKind.i64) (by have := HI.out; omega), by omega, hlt2, by rw [HR.out.2.2.1, hstep, List.append_assoc]; rfl, by rw [List.length_cons, HR.out.2.2.2.1], HR.out.2.2.2.2.1.set i (hxc d) (by omega), ?_, bSet HR.out.2.2.2.2.2.2 _ _ _ HA.out.1⟩
        intro j hj
        have hit := HI.out
        cases j with
        | zero => (show (UInt8.ofNat (hxc d)).toNat = if 65 - (t + 1) + 0 = i then hxc d else _; rw [if_pos (by omega), HT2.out])
        | succ j => (show (S.getD j 0).toNat = if 65 - (t + 1) + (j + 1) = i then hxc d else f (65 - (t + 1) + (j + 1)); rw [if_neg (by omega), HR.out.2.2.2.2.2.1 j (by omega)]; congr 1; omega)
set_option maxRecDepth 20000 in
set_option maxHeartbeats 0 in
theorem fmt16i {x : Nat} {w : World} (hx : x < B64) (hT : Tab w) :
    Calls Tryz.prog 107 #[U x, .int .i64 16] w fun en w' => en = .returned (.string (bs (hexL 16 x))) ∧ Below w.heap.size w w' := by
  have H : Hid (x < B64 ∧ Tab w) := ⟨hx, hT⟩
  clear hx hT
  go_enter Tryz.func107, Tryz.ntmps107
  go_wp2_with fail
  refine (fbits H.out.1 H.out.2).mono ?_
  rintro e w2 ⟨rfl, hb⟩
  go_wp2_with fail
  go_ret
  exact ⟨rfl, hb⟩
set_option maxRecDepth 20000 in
set_option maxHeartbeats 0 in
theorem fmt16 {x : Nat} {w : World} (hx : x < B64) (hT : Tab w) :
    Calls Tryz.prog 81 #[U x, .int .i64 16] w fun en w' => en = .returned (.string (bs (hexL 16 x))) ∧ Below w.heap.size w w' := by
  have H : Hid (x < B64 ∧ Tab w) := ⟨hx, hT⟩
  clear hx hT
  go_enter Tryz.func81, Tryz.ntmps81
  go_wp2_with fail
  refine (fmt16i H.out.1 H.out.2).mono ?_
  rintro e w2 ⟨rfl, hb⟩
  go_wp2_with fail
  go_ret
  exact ⟨rfl, hb⟩
end Go.Proofs.YtglkjbkpgfencaaGreatDoor

namespace Go.Proofs.YtglkjbkpgfencaaGreatDoor
open Go.RowKit Go.Shelf

def renT : Ren := ⟨fun x => match x with | 99 => 113 | 103 => 84 | 105 => 83 | 119 => 173 | 120 => 160 | 129 => 47 | 137 => 172 | 151 => 139 | 152 => 161 | 161 => 88 | 162 => 82 | 165 => 114 | 166 => 115 | 169 => 117 | 170 => 116 | 171 => 44 | 197 => 145 | 205 => 170 | 206 => 142 | 210 => 118 | 212 => 112 | 217 => 178 | 224 => 174 | 225 => 175 | 227 => 109 | 228 => 137 | 231 => 120 | 232 => 108 | 233 => 121 | 234 => 110 | 235 => 122 | 236 => 111 | 240 => 143 | 241 => 144 | 243 => 79 | 245 => 127 | 246 => 106 | 260 => 164 | 263 => 140 | 264 => 141 | 266 => 180 | 271 => 138 | 276 => 162 | 277 => 163 | 279 => 150 | 280 => 151 | 281 => 152 | 282 => 153 | 283 => 133 | 284 => 134 | 285 => 135 | 286 => 136 | 287 => 126 | 316 => 169 | 317 => 156 | 318 => 157 | 319 => 158 | 320 => 159 | 321 => 148 | 322 => 149 | 337 => 171 | 338 => 60 | n => n, fun x => match x with | 0 => 0 | 1 => 1 | 2 => 2 | 3 => 3 | 4 => 4 | 5 => 5 | 6 => 6 | 7 => 7 | 8 => 8 | 9 => 9 | 10 => 10 | 11 => 11 | 12 => 12 | 13 => 13 | 14 => 14 | 15 => 15 | 16 => 16 | 17 => 17 | 18 => 18 | 19 => 19 | 20 => 20 | 21 => 21 | 22 => 166 | 23 => 129 | 24 => 82 | 25 => 132 | 26 => 130 | 27 => 227 | 31 => 131 | 37 => 168 | 40 => 226 | 41 => 191 | 46 => 128 | 47 => 212 | 51 => 118 | 52 => 224 | 53 => 25 | 54 => 96 | 55 => 225 | 63 => 194 | 64 => 213 | 69 => 134 | 70 => 167 | 71 => 169 | 72 => 170 | 73 => 171 | 74 => 140 | 75 => 141 | 76 => 172 | 77 => 173 | 80 => 174 | 81 => 100 | 83 => 94 | 84 => 156 | 104 => 58 | 105 => 192 | 106 => 193 | 108 => 223 | 109 => 164 | 110 => 165 | 111 => 211 | 114 => 107 | 115 => 158 | 116 => 159 | 117 => 160 | 118 => 161 | 119 => 228 | 122 => 157 | 123 => 162 | 124 => 163 | 127 => 199 | 128 => 182 | 137 => 229 | 138 => 230 | 139 => 231 | 143 => 234 | 144 => 235 | 145 => 236 | 146 => 195 | 147 => 196 | 148 => 197 | 149 => 198 | 164 => 214 | 165 => 215 | 166 => 216 | 167 => 201 | 168 => 203 | 169 => 204 | 170 => 205 | 171 => 187 | 172 => 188 | 173 => 189 | 174 => 190 | 175 => 142 | 176 => 143 | 209 => 221 | 210 => 222 | 211 => 208 | 212 => 209 | 213 => 210 | 214 => 202 | 220 => 49 | 232 => 237 | 233 => 144 | 238 => 239 | 239 => 240 | 240 => 241 | 241 => 242 | 242 => 243 | 243 => 244 | 244 => 245 | 245 => 246 | 246 => 247 | 247 => 248 | 248 => 249 | 249 => 250 | n => n, fun x => match x with | 1 => 4 | 3 => 5 | 4 => 6 | 15 => 2 | 16 => 3 | 17 => 1 | 18 => 7 | 19 => 0 | n => n⟩
theorem laytn105 : Lays.n105 Tryz.prog renT :=
  { mixed := by kernel_rfl, f99 := Tryz.func113.trans (congrArg some (by kernel_rfl)), f105 := Tryz.func83.trans (congrArg some (by kernel_rfl)), f165 := Tryz.func114.trans (congrArg some (by kernel_rfl)), f166 := Tryz.func115.trans (congrArg some (by kernel_rfl)), f169 := Tryz.func117.trans (congrArg some (by kernel_rfl)), f170 := Tryz.func116.trans (congrArg some (by kernel_rfl)), f206 := Tryz.func142.trans (congrArg some (by kernel_rfl)), f212 := Tryz.func112.trans (congrArg some (by kernel_rfl)), f240 := Tryz.func143.trans (congrArg some (by kernel_rfl)), f241 := Tryz.func144.trans (congrArg some (by kernel_rfl)), f263 := Tryz.func140.trans (congrArg some (by kernel_rfl)), f264 := Tryz.func141.trans (congrArg some (by kernel_rfl)), f276 := Tryz.func162.trans (congrArg some (by kernel_rfl)), f277 := Tryz.func163.trans (congrArg some (by kernel_rfl)), t0 := Tryz.underlying0, a0 := Tryz.isAgg0, z0 := Tryz.sizeOf0, v0 := Tryz.zeroValue0, t3 := Tryz.underlying3, a3 := Tryz.isAgg3, z3 := Tryz.sizeOf3, v3 := Tryz.zeroValue3, t4 := Tryz.underlying4, a4 := Tryz.isAgg4, z4 := Tryz.sizeOf4, v4 := Tryz.zeroValue4, t5 := Tryz.underlying5, a5 := Tryz.isAgg5, z5 := Tryz.sizeOf5, v5 := Tryz.zeroValue5, t9 := Tryz.underlying9, a9 := Tryz.isAgg9, z9 := Tryz.sizeOf9, v9 := Tryz.zeroValue9, t20 := Tryz.underlying20, a20 := Tryz.isAgg20, z20 := Tryz.sizeOf20, v20 := Tryz.zeroValue20, t37 := Tryz.underlying168, a37 := Tryz.isAgg168, z37 := Tryz.sizeOf168, v37 := Tryz.zeroValue168, t46 := Tryz.underlying128, a46 := Tryz.isAgg128, z46 := Tryz.sizeOf128, v46 := Tryz.zeroValue128, t51 := Tryz.underlying118, a51 := Tryz.isAgg118, z51 := Tryz.sizeOf118, v51 := Tryz.zeroValue118, t53 := Tryz.underlying25, a53 := Tryz.isAgg25, z53 := Tryz.sizeOf25, v53 := Tryz.zeroValue25, t70 := Tryz.underlying167, a70 := Tryz.isAgg167, z70 := Tryz.sizeOf167, v70 := Tryz.zeroValue167, t72 := Tryz.underlying170, a72 := Tryz.isAgg170, z72 := Tryz.sizeOf170, v72 := Tryz.zeroValue170, t75 := Tryz.underlying141, a75 := Tryz.isAgg141, z75 := Tryz.sizeOf141, v75 := Tryz.zeroValue141, t76 := Tryz.underlying172, a76 := Tryz.isAgg172, z76 := Tryz.sizeOf172, v76 := Tryz.zeroValue172, t109 := Tryz.underlying164, a109 := Tryz.isAgg164, z109 := Tryz.sizeOf164, v109 := Tryz.zeroValue164, t127 := Tryz.underlying199, a127 := Tryz.isAgg199, z127 := Tryz.sizeOf199, v127 := Tryz.zeroValue199, t146 := Tryz.underlying195, a146 := Tryz.isAgg195, z146 := Tryz.sizeOf195, v146 := Tryz.zeroValue195, t148 := Tryz.underlying197, a148 := Tryz.isAgg197, z148 := Tryz.sizeOf197, v148 := Tryz.zeroValue197, t164 := Tryz.underlying214, a164 := Tryz.isAgg214, z164 := Tryz.sizeOf214, v164 := Tryz.zeroValue214 }
theorem laytn232 : Lays.n232 Tryz.prog renT :=
  { mixed := by kernel_rfl, f232 := Tryz.func108.trans (congrArg some (by kernel_rfl)), t3 := Tryz.underlying3, a3 := Tryz.isAgg3, z3 := Tryz.sizeOf3, v3 := Tryz.zeroValue3, t4 := Tryz.underlying4, a4 := Tryz.isAgg4, z4 := Tryz.sizeOf4, v4 := Tryz.zeroValue4, t5 := Tryz.underlying5, a5 := Tryz.isAgg5, z5 := Tryz.sizeOf5, v5 := Tryz.zeroValue5, t9 := Tryz.underlying9, a9 := Tryz.isAgg9, z9 := Tryz.sizeOf9, v9 := Tryz.zeroValue9 }
theorem laytn171 : LaysM.n171 Tryz.prog renT :=
  { mixed := by kernel_rfl, f129 := Tryz.func47.trans (congrArg some (by kernel_rfl)), f171 := Tryz.func44.trans (congrArg some (by kernel_rfl)), f243 := Tryz.func79.trans (congrArg some (by kernel_rfl)), f246 := Tryz.func106.trans (congrArg some (by kernel_rfl)), f283 := Tryz.func133.trans (congrArg some (by kernel_rfl)), f284 := Tryz.func134.trans (congrArg some (by kernel_rfl)), f285 := Tryz.func135.trans (congrArg some (by kernel_rfl)), f286 := Tryz.func136.trans (congrArg some (by kernel_rfl)), f317 := Tryz.func156.trans (congrArg some (by kernel_rfl)), f318 := Tryz.func157.trans (congrArg some (by kernel_rfl)), f319 := Tryz.func158.trans (congrArg some (by kernel_rfl)), f320 := Tryz.func159.trans (congrArg some (by kernel_rfl)), f337 := Tryz.func171.trans (congrArg some (by kernel_rfl)), f338 := Tryz.func60.trans (congrArg some (by kernel_rfl)), t0 := Tryz.underlying0, a0 := Tryz.isAgg0, z0 := Tryz.sizeOf0, v0 := Tryz.zeroValue0, t2 := Tryz.underlying2, a2 := Tryz.isAgg2, z2 := Tryz.sizeOf2, v2 := Tryz.zeroValue2, t3 := Tryz.underlying3, a3 := Tryz.isAgg3, z3 := Tryz.sizeOf3, v3 := Tryz.zeroValue3, t4 := Tryz.underlying4, a4 := Tryz.isAgg4, z4 := Tryz.sizeOf4, v4 := Tryz.zeroValue4, t5 := Tryz.underlying5, a5 := Tryz.isAgg5, z5 := Tryz.sizeOf5, v5 := Tryz.zeroValue5, t9 := Tryz.underlying9, a9 := Tryz.isAgg9, z9 := Tryz.sizeOf9, v9 := Tryz.zeroValue9, t20 := Tryz.underlying20, a20 := Tryz.isAgg20, z20 := Tryz.sizeOf20, v20 := Tryz.zeroValue20, t37 := Tryz.underlying168, a37 := Tryz.isAgg168, z37 := Tryz.sizeOf168, v37 := Tryz.zeroValue168, t46 := Tryz.underlying128, a46 := Tryz.isAgg128, z46 := Tryz.sizeOf128, v46 := Tryz.zeroValue128, t51 := Tryz.underlying118, a51 := Tryz.isAgg118, z51 := Tryz.sizeOf118, v51 := Tryz.zeroValue118, t53 := Tryz.underlying25, a53 := Tryz.isAgg25, z53 := Tryz.sizeOf25, v53 := Tryz.zeroValue25, t171 := Tryz.underlying187, a171 := Tryz.isAgg187, z171 := Tryz.sizeOf187, v171 := Tryz.zeroValue187, t173 := Tryz.underlying189, a173 := Tryz.isAgg189, z173 := Tryz.sizeOf189, v173 := Tryz.zeroValue189, t212 := Tryz.underlying209, a212 := Tryz.isAgg209, z212 := Tryz.sizeOf209, v212 := Tryz.zeroValue209, t213 := Tryz.underlying210, a213 := Tryz.isAgg210, z213 := Tryz.sizeOf210, t232 := Tryz.underlying237, a232 := Tryz.isAgg237, z232 := Tryz.sizeOf237, v232 := Tryz.zeroValue237, t233 := Tryz.underlying144, a233 := Tryz.isAgg144, z233 := Tryz.sizeOf144, v233 := Tryz.zeroValue144, g17 := by kernel_rfl, g18 := by kernel_rfl, g19 := by kernel_rfl, i0 := by kernel_rfl, i2 := by kernel_rfl, i3 := by kernel_rfl, i4 := by kernel_rfl, i5 := by kernel_rfl, i9 := by kernel_rfl, i20 := by kernel_rfl, i37 := by kernel_rfl, i46 := by kernel_rfl, i51 := by kernel_rfl, i53 := by kernel_rfl, i171 := by kernel_rfl, i173 := by kernel_rfl, i212 := by kernel_rfl, i232 := by kernel_rfl, i233 := by kernel_rfl, m17 := by kernel_rfl, m18 := by kernel_rfl, m19 := by kernel_rfl }
theorem laytX : Builder.Extra Tryz.prog renT :=
  { sizeBuilder := by kernel_rfl, liesBuilder := by kernel_rfl, t5 := Tryz.underlying5, a5 := Tryz.isAgg5, z5 := Tryz.sizeOf5, v5 := Tryz.zeroValue5, infoByte := by kernel_rfl, cellsByte := by kernel_rfl, sizeByte := by kernel_rfl, neB5 := by decide }
end Go.Proofs.YtglkjbkpgfencaaGreatDoor

namespace Go.Proofs.YtglkjbkpgfencaaGreatDoor
open Go.RowKit Go.Shelf

def TbP (w : World) : Prop := Lib.TabIs Tryz.prog w "internal/strconv.uint64pow10" .u64 Lib.pow10Tab
theorem TbP.below {w w' : World} (h : TbP w) (hb : Below w.heap.size w w') : TbP w' := by
  unfold TbP Lib.TabIs World.var? at *
  cases hg : Program.globalNamed Tryz.prog "internal/strconv.uint64pow10" with
  | none => simp [hg] at h
  | some g =>
    simp only [hg, Option.bind_some] at h ⊢
    have hlt : g < w.heap.size := by
      rcases Nat.lt_or_ge g w.heap.size with h1 | h1
      · exact h1
      · rw [Array.getElem?_eq_none h1] at h; simp at h
    rw [hb.block g hlt]
    exact h
open Go.Sort in
theorem belGrow (w : World) (k : Nat) (os : Array Obj) : Below w.heap.size w (grow (w.drewN k) os) :=
  ⟨rfl, rfl, rfl, by simp [grow], fun i hi => by show ((w.drewN k).heap ++ os)[i]? = _; rw [Array.getElem?_append_left (by show i < w.heap.size; omega)]; rfl⟩
theorem repeat_c (l : List UInt8) (c : Nat) (w : World) (hc : c ≤ 100000) (hl : l.length ≤ 100000) :
    Calls Tryz.prog 83 #[.string (bs l), .int .i64 c] w fun e w' => e = .returned (.string (bs (Lib.repeatL l c))) ∧ Below w.heap.size w w' :=
  Any.strings_Repeat laytn105 laytX (bs l) c w (by omega) (by rw [bs_size]; exact Nat.le_trans (Nat.mul_le_mul hl hc) (by decide))
theorem trimrb_c (l : List UInt8) (c : UInt8) (w : World) (hl : l.length ≤ 100000) :
    Calls Tryz.prog 108 #[.string (bs l), .int .u8 c.toNat] w fun e w' => e = .returned (.string (bs (Lib.trimRightB l c))) ∧ w' = w :=
  Any.strings_trimRightByte laytn232 (bs l) c w (by rw [bs_size]; omega)
theorem itoa_c (n : Int) (h0 : -1000000 ≤ n) (h1 : n ≤ 1000000) (w : World) (htab : TbP w) :
    Calls Tryz.prog 44 #[.int .i64 n] w fun e w' => e = .returned (.string (bs (Lib.itoa n))) ∧ Below w.heap.size w w' :=
  (Any.strconv_Itoa laytn171 n (by omega) (by omega) w htab).mono fun e w' ⟨he, k, os, hw⟩ => ⟨he, hw ▸ belGrow w k os⟩
theorem repl1 (n : Nat) : Lib.repeatL [48] n = List.replicate n 48 := by
  induction n with
  | zero => rfl
  | succ n ih => rw [Lib.repeatL, ih, List.replicate_succ]; rfl
theorem hexL_len : ∀ (f x : Nat), (hexL f x).length ≤ f
  | 0, _ => Nat.le_refl _
  | f + 1, x => by
    show (if x < 16 then _ else _ : List UInt8).length ≤ _
    split
    · show 1 ≤ f + 1; omega
    · rw [List.length_append]; have := hexL_len f (x / 16); show _ + 1 ≤ _; omega
theorem hexL_ne {f : Nat} (hf : 0 < f) (x : Nat) : 0 < (hexL f x).length := by
  cases f with
  | zero => omega
  | succ f =>
    show 0 < (if x < 16 then _ else _ : List UInt8).length
    split
    · exact Nat.one_pos
    · rw [List.length_append]; exact Nat.lt_of_lt_of_le Nat.one_pos (Nat.le_add_left _ _)
def frF (x : Nat) : List UInt8 := Lib.trimRightB (List.replicate (16 - (hexL 16 x).length) 48 ++ hexL 16 x) 48
theorem ndig_le (u : Nat) : Lib.nDigits u ≤ u / 10 + 1 := by
  induction u using Nat.strongRecOn with
  | ind u ih =>
    by_cases h : u < 10
    · rw [Lib.nDigits_small h]; omega
    · rw [Lib.nDigits_big h]; have := ih (u / 10) (by omega); omega
theorem itoa_len {n : Int} (h0 : -100000 ≤ n) (h1 : n ≤ 100000) : (Lib.itoa n).length ≤ 100000 := by
  unfold Lib.itoa
  split
  · rw [List.length_cons, Lib.decDigits_length]; have := ndig_le n.natAbs; omega
  · rw [Lib.decDigits_length]; have := ndig_le n.toNat; omega
def sgT (n : Int) : List UInt8 := if n < 0 then Lib.itoa n else 43 :: Lib.itoa n
set_option maxRecDepth 20000 in
set_option maxHeartbeats 0 in
theorem trimr_c {l : List UInt8} {w : World} (hl : 1 ≤ l.length ∧ l.length ≤ 100000) :
    Calls Tryz.prog 82 #[.string (bs l), .string ⟨#[48]⟩] w fun en w' => en = .returned (.string (bs (Lib.trimRightB l 48))) ∧ w' = w := by
  have H : Hid (1 ≤ l.length ∧ l.length ≤ 100000) := hl
  have he : (bs l).toList.isEmpty = false := emp1 (by intro h; rw [h] at hl; exact absurd hl.1 (by decide))
  clear hl
  go_enter Tryz.func82, Tryz.ntmps82
  go_wp2_with fail
  refine (trimrb_c l 48 _ H.out.2).mono ?_
  rintro e w2 ⟨rfl, rfl⟩
  go_wp2_with fail
  go_ret
  exact ⟨rfl, rfl⟩
set_option maxRecDepth 20000 in
set_option maxHeartbeats 0 in
theorem fraction_c {x : Nat} {w : World} (hx : x < B64) (hT : Tab w) :
    Calls Tryz.prog 48 #[U x] w fun en w' => en = .returned (.string (bs (frF x))) ∧ Below w.heap.size w w' := by
  have H : Hid (x < B64 ∧ Tab w) := ⟨hx, hT⟩
  clear hx hT
  go_enter Tryz.func48, Tryz.ntmps48
  go_wp2_with fail
  refine (fmt16 H.out.1 H.out.2).mono ?_
  rintro e w2 ⟨rfl, hb2⟩
  have HB2 : Hid (Below w.heap.size w w2) := hb2
  obtain ⟨d, hd⟩ : ∃ d, d = hexL 16 x := ⟨_, rfl⟩
  have HD : Hid (d = hexL 16 x) := hd
  have hdl : d.length ≤ 16 := by rw [hd]; exact hexL_len 16 x
  have hd1 : 0 < d.length := by rw [hd]; exact hexL_ne (by decide) x
  rw [← hd]
  clear hb2 hd
  obtain ⟨n, hn⟩ : ∃ n, n = 16 - d.length := ⟨_, rfl⟩
  have hn16 : n ≤ 15 := by omega
  have HN : Hid (n = 16 - d.length ∧ 0 < d.length ∧ d.length ≤ 16) := ⟨hn, hd1, hdl⟩
  have hsz : (bs d).size = 16 - n := by rw [bs_size]; omega
  clear hdl hd1 hn
  go_wp2_with fail
  rw [show (16 : Int) - ((16 - n : Nat) : Int) = (n : Int) by omega]
  refine (repeat_c [48] n _ (by omega) (by decide)).mono ?_
  rintro e w3 ⟨rfl, hb3⟩
  rw [repl1]
  have HB3 : Hid (Below w.heap.size w w3) := Below.on HB2.out hb3
  obtain ⟨r, hr⟩ : ∃ r, r = List.replicate n (48 : UInt8) := ⟨_, rfl⟩
  rw [← hr]
  have HR : Hid (r = List.replicate n (48 : UInt8)) := hr
  have hrl : r.length = n := by rw [hr, List.length_replicate]
  have hcat : ∀ W, (Op.stringOp .add (bs r) (bs d)).run Tryz.prog W = .ok (.string (bs (r ++ d))) W := fun W => cat_run r d W (by have := HN.out; omega)
  have hsr : (bs r).size = n := by rw [bs_size, hrl]
  have hbd : ¬ ((bs r).size + (bs d).size > 9223372036854775807) := by rw [hsr, hsz]; omega
  clear hb3 hr HB2
  go_wp2_with fail
  refine (trimr_c (l := r ++ d) (by rw [List.length_append]; have := HN.out; omega)).mono ?_
  rintro e w4 ⟨rfl, rfl⟩
  go_wp2_with fail
  go_ret
  exact ⟨by unfold frF; rw [← HD.out, HR.out, HN.out.1]; rfl, HB3.out⟩
set_option maxRecDepth 20000 in
set_option maxHeartbeats 0 in
theorem signed_c {n : Int} {w : World} (h0 : -100000 ≤ n) (h1 : n ≤ 100000) (hT : TbP w) :
    Calls Tryz.prog 49 #[.int .i64 n] w fun en w' => en = .returned (.string (bs (sgT n))) ∧ Below w.heap.size w w' := by
  have H : Hid (-100000 ≤ n ∧ n ≤ 100000 ∧ TbP w) := ⟨h0, h1, hT⟩
  have hlen : (Lib.itoa n).length ≤ 100000 := itoa_len h0 h1
  clear h0 h1 hT
  by_cases hn : n < 0
  · have hd : decide (n < 0) = true := decide_eq_true hn
    have HS : Hid (sgT n = Lib.itoa n) := if_pos hn
    clear hn
    go_enter Tryz.func49, Tryz.ntmps49
    go_wp2_with fail
    refine (itoa_c n (by have := H.out; omega) (by have := H.out; omega) _ H.out.2.2).mono ?_
    rintro e w2 ⟨rfl, hb⟩
    go_wp2_with fail
    go_ret
    exact ⟨by rw [HS.out]; rfl, hb⟩
  have hd : decide (n < 0) = false := decide_eq_false hn
  have HS : Hid (sgT n = 43 :: Lib.itoa n) := if_neg hn
  clear hn
  go_enter Tryz.func49, Tryz.ntmps49
  go_wp2_with fail
  refine (itoa_c n (by have := H.out; omega) (by have := H.out; omega) _ H.out.2.2).mono ?_
  rintro e w2 ⟨rfl, hb⟩
  have hcat : ∀ W, (Op.stringOp .add ⟨#[43]⟩ (bs (Lib.itoa n))).run Tryz.prog W = .ok (.string (bs (43 :: Lib.itoa n))) W := fun W => cat_run [43] (Lib.itoa n) W (by show 1 + _ ≤ _; omega)
  have hbd : ¬ ((⟨#[43]⟩ : ByteArray).size + (bs (Lib.itoa n)).size > 9223372036854775807) := by rw [bs_size]; show ¬ (1 + _ > _); omega
  go_wp2_with fail
  go_ret
  exact ⟨by rw [HS.out]; rfl, hb⟩
end Go.Proofs.YtglkjbkpgfencaaGreatDoor

namespace Go.Proofs.YtglkjbkpgfencaaGreatDoor
open Go.RowKit Go.Shelf

def dgF (man : Nat) : List UInt8 := frF (man * 2 ^ (64 - (bitsN man - 1)) % B64)
def exF (man : Nat) (exp : Int) : List UInt8 :=
  if man = 0 then [48, 120, 48, 112, 43, 48] else [48, 120, 49] ++ (if dgF man = [] then [] else 46 :: dgF man) ++ [112] ++ sgT (exp + (bitsN man - 1 : Nat))
theorem bitsN_le64 {x : Nat} (h : x < B64) : bitsN x ≤ 64 := by
  by_cases h0 : x = 0
  · rw [h0, bitsN_zero]; omega
  · refine Nat.le_of_not_lt fun h1 => ?_
    have h2 := bitsN_le x h0
    have h3 : 2 ^ 64 ≤ 2 ^ (bitsN x - 1) := Nat.pow_le_pow_right (by decide) (by omega)
    exact absurd (Nat.lt_of_le_of_lt (Nat.le_trans h3 h2) h) (by decide)
theorem bitsN_posX {x : Nat} (h : x ≠ 0) : 0 < bitsN x := by rw [bitsN_half x h]; omega
theorem frF_len (x : Nat) : (frF x).length ≤ 32 := by
  unfold frF Lib.trimRightB
  rw [List.length_reverse]
  refine Nat.le_trans (List.dropWhile_sublist _).length_le ?_
  rw [List.length_reverse, List.length_append, List.length_replicate]
  have := hexL_len 16 x
  omega
set_option maxRecDepth 20000 in
set_option maxHeartbeats 0 in
theorem exact_0 {exp : Int} {w : World} :
    Calls Tryz.prog 18 #[U 0, .int .i64 exp] w fun en w' => en = .returned (.string (bs (exF 0 exp))) ∧ Below w.heap.size w w' := by
  go_enter Tryz.func18, Tryz.ntmps18
  go_wp2_with fail
  go_ret
  exact ⟨rfl, Below.refl _ _⟩
set_option maxRecDepth 20000 in
set_option maxHeartbeats 0 in
theorem exact_n {man : Nat} {exp : Int} {w : World} (h0 : man ≠ 0) (h1 : man < B64) (he : -2000 ≤ exp ∧ exp ≤ 2000) (hT : Tab w) (hP : TbP w) :
    Calls Tryz.prog 18 #[U man, .int .i64 exp] w fun en w' => en = .returned (.string (bs (exF man exp))) ∧ Below w.heap.size w w' := by
  have H : Hid (man ≠ 0 ∧ man < B64 ∧ (-2000 ≤ exp ∧ exp ≤ 2000) ∧ Tab w ∧ TbP w) := ⟨h0, h1, he, hT, hP⟩
  have hd : decide ((man : Int) = 0) = false := decide_eq_false (by omega)
  have hm0 : ¬ ((man : Int) = 0) := by omega
  clear h0 h1 he hT hP
  go_enter Tryz.func18, Tryz.ntmps18
  go_wp2_with fail
  refine (len_any man _ H.out.2.1).mono ?_
  rintro e w2 ⟨rfl, rfl⟩
  obtain ⟨t, ht⟩ : ∃ t, t = bitsN man - 1 := ⟨_, rfl⟩
  have hbn := bitsN_le64 H.out.2.1
  have hbp := bitsN_posX H.out.1
  have ht1 : (bitsN man : Int) - 1 = (t : Int) := by omega
  have htt : t ≤ 63 := by omega
  have HTT : Hid (t = bitsN man - 1) := ht
  rw [show bitsN man = t + 1 by omega]
  clear ht hbn hbp ht1
  go_wp2_with fail
  obtain ⟨y, hy⟩ : ∃ y, y = man * 2 ^ (64 - t) % B64 := ⟨_, rfl⟩
  have hyw : IntKind.u64.wrap ((man : Int) * 2 ^ (64 - t)) = (y : Int) := by rw [IntKind.wrap_u64, hy]; rw [Int.natCast_emod, Int.natCast_mul, Int.natCast_pow]; rfl
  have HY : Hid (y < B64 ∧ dgF man = frF y) := ⟨by rw [hy]; exact Nat.mod_lt _ (by decide), by unfold dgF; rw [← HTT.out, hy]⟩
  rw [hyw]
  clear hy hyw
  refine (fraction_c HY.out.1 H.out.2.2.2.1).mono ?_
  rintro e w3 ⟨rfl, hb3⟩
  have hql := frF_len y
  obtain ⟨q, hq⟩ : ∃ q, q = frF y := ⟨_, rfl⟩
  rw [← hq]
  rw [← hq] at hql HY
  have HB3 : Hid (Below w2.heap.size w2 w3) := hb3
  have HP3 : Hid (TbP w3) := H.out.2.2.2.2.below hb3
  have hx1 := H.out.2.2.1.1
  have hx2 := H.out.2.2.1.2
  obtain ⟨n, hn⟩ : ∃ n, n = exp + (t : Int) := ⟨_, rfl⟩
  have HNN : Hid (n = exp + (t : Int) ∧ -100000 ≤ n ∧ n ≤ 100000) := ⟨hn, by omega, by omega⟩
  clear hq hb3
  have hE0 : exF man exp = [48, 120, 49] ++ (if q = [] then [] else 46 :: q) ++ [112] ++ sgT n := by unfold exF; rw [if_neg H.out.1, HY.out.2, hn, HTT.out]
  have HE : Hid (exF man exp = [48, 120, 49] ++ (if q = [] then [] else 46 :: q) ++ [112] ++ sgT n) := hE0
  clear hE0
  have hsl : (sgT n).length ≤ 100001 := by have h := itoa_len HNN.out.2.1 HNN.out.2.2; unfold sgT; split <;> (try rw [List.length_cons]) <;> omega
  by_cases hq0 : q = []
  · subst hq0
    have hem : (bs ([] : List UInt8)).toList.isEmpty = true := emp0
    have hsh : (⟨#[48, 120, 49]⟩ : ByteArray) ++ (⟨#[112]⟩ : ByteArray) = bs [48, 120, 49, 112] := rfl
    go_wp2_with fail
    obtain ⟨T, hT⟩ : ∃ T : List UInt8, T = [48, 120, 49, 112] := ⟨_, rfl⟩
    rw [← hT]
    rw [← hn]
    refine (signed_c HNN.out.2.1 HNN.out.2.2 HP3.out).mono ?_
    rintro e w4 ⟨rfl, hb4⟩
    have HB4 : Hid (Below w2.heap.size w2 w4) := Below.on HB3.out hb4
    have hTl : T.length ≤ 100 := by rw [hT]; simp <;> omega
    have hTE : exF man exp = T ++ sgT n := by rw [HE.out, hT]; rfl
    have HTE : Hid (exF man exp = T ++ sgT n) := hTE
    clear hTE
    obtain ⟨s, hs⟩ : ∃ s, s = sgT n := ⟨_, rfl⟩
    rw [← hs] at HTE hsl
    rw [← hs]
    have hcB : ∀ W, (Op.stringOp .add (bs T) (bs s)).run Tryz.prog W = .ok (.string (bs (T ++ s))) W := fun W => cat_run T s W (by omega)
    have hbB : ¬ ((bs T).size + (bs s).size > 9223372036854775807) := by rw [bs_size, bs_size]; omega
    clear hs hT hb4
    go_wp2_with fail
    go_ret
    exact ⟨by rw [HTE.out]; rfl, HB4.out⟩
  · have hem : (bs q).toList.isEmpty = false := emp1 hq0
    have hcC : ∀ W, (Op.stringOp .add ⟨#[46]⟩ (bs q)).run Tryz.prog W = .ok (.string (bs (46 :: q))) W := fun W => cat_run [46] q W (by show 1 + _ ≤ _; omega)
    have hbC : ¬ ((⟨#[46]⟩ : ByteArray).size + (bs q).size > 9223372036854775807) := by rw [bs_size]; show ¬ (1 + _ > _); omega
    have hcD : ∀ W, (Op.stringOp .add ⟨#[48, 120, 49]⟩ (bs (46 :: q))).run Tryz.prog W = .ok (.string (bs ([48, 120, 49] ++ 46 :: q))) W := fun W => cat_run [48, 120, 49] (46 :: q) W (by show 3 + (_ + 1) ≤ _; omega)
    have hbD : ¬ ((⟨#[48, 120, 49]⟩ : ByteArray).size + (bs (46 :: q)).size > 9223372036854775807) := by rw [bs_size]; show ¬ (3 + (_ + 1) > _); omega
    have hbA : ¬ ((bs (48 :: 120 :: 49 :: 46 :: q)).size + (⟨#[112]⟩ : ByteArray).size > 9223372036854775807) := by rw [bs_size]; show ¬ (_ + 1 > _); simp <;> omega
    have hsh : bs (48 :: 120 :: 49 :: 46 :: q) ++ (⟨#[112]⟩ : ByteArray) = bs (48 :: 120 :: 49 :: 46 :: (q ++ [112])) := bs_cat _ [112]
    go_wp2_with fail
    obtain ⟨T, hT⟩ : ∃ T : List UInt8, T = 48 :: 120 :: 49 :: 46 :: (q ++ [112]) := ⟨_, rfl⟩
    rw [← hT]
    rw [← hn]
    refine (signed_c HNN.out.2.1 HNN.out.2.2 HP3.out).mono ?_
    rintro e w4 ⟨rfl, hb4⟩
    have HB4 : Hid (Below w2.heap.size w2 w4) := Below.on HB3.out hb4
    have hTl : T.length ≤ 100 := by rw [hT]; simp <;> omega
    have hTE : exF man exp = T ++ sgT n := by rw [HE.out, hT]; rw [if_neg hq0]; simp
    have HTE : Hid (exF man exp = T ++ sgT n) := hTE
    clear hTE
    obtain ⟨s, hs⟩ : ∃ s, s = sgT n := ⟨_, rfl⟩
    rw [← hs] at HTE hsl
    rw [← hs]
    have hcB : ∀ W, (Op.stringOp .add (bs T) (bs s)).run Tryz.prog W = .ok (.string (bs (T ++ s))) W := fun W => cat_run T s W (by omega)
    have hbB : ¬ ((bs T).size + (bs s).size > 9223372036854775807) := by rw [bs_size, bs_size]; omega
    clear hs hT hb4
    go_wp2_with fail
    go_ret
    exact ⟨by rw [HTE.out]; rfl, HB4.out⟩
def printF (le : Int) (H S I b : Nat) : List UInt8 :=
  if I < b % S then [110, 97, 110] else (if S ≤ b then [45] else []) ++ (if b % S = I then [105, 110, 102] else exF (b % S - (b % S / H - 1) * H) (le + ((b % S / H - 1 : Nat) : Int)))
theorem exF_len {man : Nat} {e : Int} (h0 : -2000 ≤ e) (h1 : e ≤ 2000) (hm : man < B64) : (exF man e).length ≤ 100200 := by
  unfold exF
  split
  · show 6 ≤ _; omega
  · have h1 : (dgF man).length ≤ 32 := frF_len _
    have h2 := bitsN_le64 hm
    have h3 : (sgT (e + (bitsN man - 1 : Nat))).length ≤ 100001 := by
      have h := itoa_len (n := e + (bitsN man - 1 : Nat)) (by omega) (by omega)
      unfold sgT
      split <;> (try rw [List.length_cons]) <;> omega
    simp only [List.length_append]
    split
    · show 3 + 0 + 1 + _ ≤ _; omega
    · have h4 : (46 :: dgF man).length ≤ 33 := by rw [List.length_cons]; omega
      show 3 + _ + 1 + _ ≤ _; omega
theorem exact_c {man : Nat} {exp : Int} {w : World} (h1 : man < B64) (he : -2000 ≤ exp ∧ exp ≤ 2000) (hT : Tab w) (hP : TbP w) :
    Calls Tryz.prog 18 #[U man, .int .i64 exp] w fun en w' => en = .returned (.string (bs (exF man exp))) ∧ Below w.heap.size w w' := by
  by_cases h0 : man = 0
  · subst h0; exact exact_0
  · exact exact_n h0 h1 he hT hP
theorem cls4 {H I z : Nat} (hH : 0 < H) (hHI : H ≤ I) : (clsN H I z = 4 ↔ I < z) ∧ (clsN H I z = 3 ↔ z = I) := by
  unfold clsN
  constructor <;> (split <;> (try split) <;> (try split) <;> (try split)) <;> omega
set_option maxRecDepth 20000 in
set_option maxHeartbeats 0 in
theorem print_c {f p m le : Int} {S I H sd : Nat} {Be : Int} (J : Jn f p m le S I H sd Be) (hSg : ∀ w, Calls Tryz.prog 16 #[WV p m le] w fun e w' => e = .returned (U S) ∧ Below w.heap.size w w') (hAN : ∀ b : Nat, b < 2 * S → bits BinOp.andNot IntKind.u64 (b : Int) (S : Int) = ((b % S : Nat) : Int)) {b : Nat} {w : World} (hb : b < 2 * S) (hT : Tab w) (hP : TbP w) :
    Calls Tryz.prog 8 #[.int .i64 f, U b] w fun en w' => en = .returned (.tuple #[.string (bs (printF le H S I b)), .int .i64 0]) ∧ Below w.heap.size w w' := by
  have HJ : Hid (Jn f p m le S I H sd Be) := J
  have HSg : Hid (∀ w, Calls Tryz.prog 16 #[WV p m le] w fun e w' => e = .returned (U S) ∧ Below w.heap.size w w') := hSg
  have HX : Hid (b < 2 * S ∧ Tab w ∧ TbP w) := ⟨hb, hT, hP⟩
  have han := hAN b hb
  obtain ⟨z, hz⟩ : ∃ z, z = b % S := ⟨_, rfl⟩
  rw [← hz] at han
  have HZ : Hid (z = b % S) := hz
  clear J hSg hAN hb hT hP hz
  go_enter Tryz.func8, Tryz.ntmps8
  go_wp2_with fail
  refine (HJ.out.cl b _ HX.out.1).mono ?_
  rintro e w2 ⟨rfl, hb2⟩
  rw [← HZ.out]
  have HB2 : Hid (Below w.heap.size w w2) := hb2
  obtain ⟨c, hc⟩ : ∃ c, c = clsN H I z := ⟨_, rfl⟩
  rw [← hc]
  have HC : Hid (c = clsN H I z) := hc
  clear hb2 hc
  by_cases hn : c = 4
  · have hIz : I < z := (cls4 HJ.out.jm.pm.hp (by have := HJ.out.jm.pm.h2; omega)).1.1 (HC.out ▸ hn)
    have HPR : Hid (printF le H S I b = [110, 97, 110]) := by have h := hIz; rw [HZ.out] at h; exact if_pos h
    clear hIz
    go_wp2_with fail
    go_ret2
    exact ⟨by rw [HPR.out]; rfl, HB2.out⟩
  · have hIz : ¬ I < z := fun h => hn (HC.out.trans ((cls4 HJ.out.jm.pm.hp (by have := HJ.out.jm.pm.h2; omega)).1.2 h))
    have HIZ : Hid (¬ I < z) := hIz
    have hd4 : (c == 4) = false := by simpa using hn
    clear hIz
    go_wp2_with fail
    refine (HJ.out.jm.pm.fm.of _).mono ?_
    rintro e w3 ⟨rfl, hb3⟩
    have HB3 : Hid (Below w.heap.size w w3) := Below.on HB2.out hb3
    clear hb3 HB2
    go_wp2_with fail
    refine (HSg.out _).mono ?_
    rintro e w4 ⟨rfl, hb4⟩
    have HB4 : Hid (Below w.heap.size w w4) := Below.on (Below.on HB3.out (below1 w3 _)) hb4
    clear hb4 HB3
    by_cases h3 : c = 3
    · have hzI : z = I := (cls4 HJ.out.jm.pm.hp (by have := HJ.out.jm.pm.h2; omega)).2.1 (HC.out ▸ h3)
      have hd3 : (c == 3) = true := by simpa using h3
      have HTX : Hid (printF le H S I b = (if S ≤ b then [45] else []) ++ [105, 110, 102]) := by unfold printF; rw [← HZ.out, if_neg HIZ.out, if_pos hzI]; rfl
      clear hzI
      have HTL : Hid (([105, 110, 102] : List UInt8).length ≤ 100200) := by show 3 ≤ _; omega
      have hzb : (z = b) ↔ ¬ S ≤ b := by have h1 := HZ.out; have h2 := HX.out.1; constructor <;> intro h <;> (first | (intro h3; rw [Nat.mod_eq_sub_mod h3, Nat.mod_eq_of_lt (by omega)] at h1; have := HJ.out.jm.pm.fm.lt; omega) | (rw [Nat.mod_eq_of_lt (by omega)] at h1; exact h1))
      by_cases hsg : S ≤ b
      · have hzz : ¬ (z : Int) = (b : Int) := fun h => (hzb.1 (by omega)) hsg
        have hzd : ((z : Int) == (b : Int)) = false := by simpa using hzz
        have HTY : Hid (printF le H S I b = 45 :: [105, 110, 102]) := by rw [HTX.out, if_pos hsg]; rfl
        have hcat : ∀ W, (Op.stringOp .add ⟨#[45]⟩ (bs ([105, 110, 102]))).run Tryz.prog W = .ok (.string (bs (45 :: [105, 110, 102]))) W := fun W => cat_run [45] ([105, 110, 102]) W (by show 1 + _ ≤ _; have := HTL.out; omega)
        have hbA : ¬ ((⟨#[45]⟩ : ByteArray).size + (bs ([105, 110, 102])).size > 9223372036854775807) := by rw [bs_size]; show ¬ (1 + _ > _); have := HTL.out; omega
        clear hzb
        go_wp2_with fail
        go_ret2
        exact ⟨by rw [HTY.out]; rfl, HB4.out⟩
      · have hzz : z = b := hzb.2 hsg
        have hzz2 : (z : Int) = (b : Int) := by omega
        have HTY : Hid (printF le H S I b = [105, 110, 102]) := by rw [HTX.out, if_neg hsg]; rfl
        clear hzb
        go_wp2_with fail
        go_ret2
        exact ⟨by rw [HTY.out]; rfl, HB4.out⟩
    · have hzI : z ≠ I := fun h => h3 (HC.out.trans ((cls4 HJ.out.jm.pm.hp (by have := HJ.out.jm.pm.h2; omega)).2.2 h))
      have hzlt : z < I := by have := HIZ.out; omega
      have hd3 : (c == 3) = false := by simpa using h3
      have HZI : Hid (z < I) := hzlt
      have HTX0 : Hid (printF le H S I b = (if S ≤ b then [45] else []) ++ exF (z - (z / H - 1) * H) (le + ((z / H - 1 : Nat) : Int))) := by unfold printF; rw [← HZ.out, if_neg HIZ.out, if_neg hzI]; rfl
      clear hzI hzlt
      go_wp2_with fail
      have hzS : z % S = z := Nat.mod_eq_of_lt (by have := HZI.out; have := HJ.out.jm.pm.fm.lt; omega)
      refine (split_ok HJ.out.jm.pm z (by have := HZI.out; have := HJ.out.jm.pm.fm.lt; omega) (by rw [hzS]; exact HZI.out) _).mono ?_
      rintro e w5 ⟨rfl, hb5⟩
      rw [hzS]
      have HB5 : Hid (Below w.heap.size w w5) := Below.on HB4.out hb5
      have hst := HJ.out.jm.pm.st z HZI.out
      have hlo := HJ.out.jm.pm.lo
      have hle := HJ.out.jm.pm.fm.le
      have hlt := HJ.out.jm.pm.fm.lt
      obtain ⟨mn, hmn⟩ : ∃ mn, mn = z - (z / H - 1) * H := ⟨_, rfl⟩
      obtain ⟨ex, hex⟩ : ∃ ex : Int, ex = le + ((z / H - 1 : Nat) : Int) := ⟨_, rfl⟩
      have HME : Hid (mn < B64 ∧ -2000 ≤ ex ∧ ex ≤ 2000) := ⟨Nat.lt_of_le_of_lt (by rw [hmn]; exact Nat.sub_le _ _) (Nat.lt_of_lt_of_le HZI.out (Nat.le_trans (Nat.le_of_lt hlt) (Nat.le_trans hle (by decide)))), by omega, by omega⟩
      rw [← hmn, ← hex] at HTX0
      rw [← hmn, ← hex]
      generalize decide (S ≤ z) = sb
      clear hb5 hzS hst hlo hle hlt hmn hex HB4
      go_wp2_with fail
      refine (exact_c HME.out.1 HME.out.2 (HX.out.2.1.below HB5.out) (HX.out.2.2.below HB5.out)).mono ?_
      rintro e w6 ⟨rfl, hb6⟩
      have HB6 : Hid (Below w.heap.size w w6) := Below.on HB5.out hb6
      have htl := exF_len HME.out.2.1 HME.out.2.2 HME.out.1
      obtain ⟨tx, htx⟩ : ∃ tx, tx = exF mn ex := ⟨_, rfl⟩
      rw [← htx] at htl HTX0
      rw [← htx]
      have HTL : Hid (tx.length ≤ 100200) := htl
      have HTX := HTX0
      clear htl htx hb6 HB5 HTX0
      have hzb : (z = b) ↔ ¬ S ≤ b := by have h1 := HZ.out; have h2 := HX.out.1; constructor <;> intro h <;> (first | (intro h3; rw [Nat.mod_eq_sub_mod h3, Nat.mod_eq_of_lt (by omega)] at h1; have := HJ.out.jm.pm.fm.lt; omega) | (rw [Nat.mod_eq_of_lt (by omega)] at h1; exact h1))
      by_cases hsg : S ≤ b
      · have hzz : ¬ (z : Int) = (b : Int) := fun h => (hzb.1 (by omega)) hsg
        have hzd : ((z : Int) == (b : Int)) = false := by simpa using hzz
        have HTY : Hid (printF le H S I b = 45 :: tx) := by rw [HTX.out, if_pos hsg]; rfl
        have hcat : ∀ W, (Op.stringOp .add ⟨#[45]⟩ (bs (tx))).run Tryz.prog W = .ok (.string (bs (45 :: tx))) W := fun W => cat_run [45] (tx) W (by show 1 + _ ≤ _; have := HTL.out; omega)
        have hbA : ¬ ((⟨#[45]⟩ : ByteArray).size + (bs (tx)).size > 9223372036854775807) := by rw [bs_size]; show ¬ (1 + _ > _); have := HTL.out; omega
        clear hzb
        go_wp2_with fail
        go_ret2
        exact ⟨by rw [HTY.out]; rfl, HB6.out⟩
      · have hzz : z = b := hzb.2 hsg
        have hzz2 : (z : Int) = (b : Int) := by omega
        have HTY : Hid (printF le H S I b = tx) := by rw [HTX.out, if_neg hsg]; rfl
        clear hzb
        go_wp2_with fail
        go_ret2
        exact ⟨by rw [HTY.out]; rfl, HB6.out⟩
end Go.Proofs.YtglkjbkpgfencaaGreatDoor

namespace Go.Proofs.YtglkjbkpgfencaaGreatDoor
open Go.RowKit Go.Shelf

theorem hm9 {p : Prop} (h : p) : Hid p := h
structure Hf (f p m le : Int) (S I H sd : Nat) (Be : Int) (Q : Nat) : Prop where
  j : Jn f p m le S I H sd Be
  q : ∀ w, Calls Tryz.prog 22 #[WV p m le] w fun e w' => e = .returned (U Q) ∧ Below w.heap.size w w'
  s : ∀ w, Calls Tryz.prog 16 #[WV p m le] w fun e w' => e = .returned (U S) ∧ Below w.heap.size w w'
  an : ∀ b : Nat, b < 2 * S → bits BinOp.andNot IntKind.u64 (b : Int) (S : Int) = ((b % S : Nat) : Int)
theorem hf_32 : Hf 32 32 24 (-149) 2147483648 2139095040 8388608 23 128 2143289345 := ⟨jn_32, wquiet_32, sign_32, fun b hb => sign_andNot b _ 31 rfl (by decide) hb⟩
theorem hf_64 : Hf 64 64 53 (-1074) 9223372036854775808 9218868437227405312 4503599627370496 52 1024 9221120237041090561 := ⟨jn_64, wquiet_64, sign_64, fun b hb => sign_andNot b _ 63 rfl (by decide) hb⟩
theorem aw_parse : parseF (-1074) 52 1024 9223372036854775808 9218868437227405312 9221120237041090561 [45, 48, 120, 49, 46, 56, 112, 49] = (13837309855095848960, 0) := by decide +kernel
theorem aw_print : printF (-1074) 4503599627370496 9223372036854775808 9218868437227405312 4609434218613702656 = [48, 120, 49, 46, 56, 112, 43, 48] := by decide +kernel
theorem bs_eqL (l p : List UInt8) : ((bs l).toList == p) = decide (l = p) := by
  rw [Lib.toList_data, bs_data]
  by_cases h : l = p
  · subst h; simp
  · simp [h]
theorem aw_eq : ((bs [48, 120, 49, 46, 56, 112, 43, 48]).toList == [48, 120, 49, 46, 56, 112, 43, 48]) = true := by rw [Lib.toList_data, bs_data]; rfl
structure Wd (w : World) : Prop where
  t : Tab w
  b : 0 < w.heap.size
  p : TbP w
theorem Wd.below {w w' : World} (h : Wd w) (hb : Below w.heap.size w w') : Wd w' := ⟨h.t.below hb, Nat.lt_of_lt_of_le h.b hb.size, h.p.below hb⟩
theorem Hf.parse {f p m le : Int} {S I H sd Q : Nat} {Be : Int} (h : Hf f p m le S I H sd Be Q) (l : List UInt8) {w : World} (hw : Wd w) {x : Nat} {e : Int} (hp : parseF le sd Be S I Q l = (x, e)) :
    Calls Tryz.prog 9 #[.int .i64 f, .string (bs l)] w fun en w' => en = .returned (.tuple #[U x, .int .i64 e]) ∧ Below w.heap.size w w' := by
  have h1 := parse_c h.j h.q (l := l) hw.t hw.b
  rw [hp] at h1
  exact h1
theorem Hf.print {f p m le : Int} {S I H sd Q : Nat} {Be : Int} (h : Hf f p m le S I H sd Be Q) {b : Nat} {w : World} (hb : b < 2 * S) (hw : Wd w) {t : List UInt8} (ht : printF le H S I b = t) :
    Calls Tryz.prog 8 #[.int .i64 f, U b] w fun en w' => en = .returned (.tuple #[.string (bs t), .int .i64 0]) ∧ Below w.heap.size w w' := by
  have h1 := print_c h.j h.s h.an hb hw.t hw.p
  rw [ht] at h1
  exact h1
set_option maxRecDepth 20000 in
set_option maxHeartbeats 0 in
theorem awake10 {w : World} (hw : Wd w) :
    Calls Tryz.prog 6 #[] w fun en w' => en = .returned (.bool true) ∧ Below w.heap.size w w' := by
  have HW : Hid (Wd w) := hw
  clear hw
  go_enter Tryz.func6, Tryz.ntmps6
  go_wp2_with fail
  refine (hf_64.parse [45, 48, 120, 49, 46, 56, 112, 49] HW.out aw_parse).mono ?_
  rintro e w1 ⟨rfl, hb1⟩
  have HB : Hid (Below w.heap.size w w1) := hb1
  clear hb1
  go_wp2_with fail
  refine (hf_64.print (b := 4609434218613702656) (by decide) (HW.out.below HB.out) aw_print).mono ?_
  rintro e w2 ⟨rfl, hb2⟩
  have HB2 : Hid (Below w.heap.size w w2) := Below.on HB.out hb2
  clear hb2
  go_wp2_with fail
  go_ret
  exact ⟨congrArg (fun b => Ending.returned (.bool b)) aw_eq, HB2.out⟩
theorem pre_cons (c : UInt8) (l : List UInt8) : Lib.hasPrefix (c :: l) [c] = true := List.isPrefixOf_iff_prefix.2 ⟨l, rfl⟩
theorem pre_other {c d : UInt8} (l : List UInt8) (h : c ≠ d) : Lib.hasPrefix (c :: l) [d] = false := by
  unfold Lib.hasPrefix
  rw [List.isPrefixOf_cons_cons, show (d == c) = false by simpa using (Ne.symm h)]; rfl
theorem minus_p (l : List UInt8) : minusF (43 :: l) = (false, l) := by unfold minusF; rw [if_pos (pre_cons _ _)]; rfl
theorem minus_m (l : List UInt8) : minusF (45 :: l) = (true, l) := by unfold minusF; rw [if_neg (by rw [pre_other _ (by decide)]; decide), if_pos (pre_cons _ _)]; rfl
theorem minus_n {l : List UInt8} (h : ∀ c r, l = c :: r → c ≠ 43 ∧ c ≠ 45) : minusF l = (false, l) := by
  cases l with
  | nil => rfl
  | cons c r => unfold minusF; rw [if_neg (by rw [pre_other _ (h c r rfl).1]; decide), if_neg (by rw [pre_other _ (h c r rfl).2]; decide)]
end Go.Proofs.YtglkjbkpgfencaaGreatDoor

namespace Go.Proofs.YtglkjbkpgfencaaGreatDoor
open Go.RowKit Go.Shelf

theorem tw_app {p A r : List UInt8} (hA : ∀ c ∈ A, c ∈ p) (hr : ∀ c t, r = c :: t → c ∉ p) : (A ++ r).takeWhile (p.contains ·) = A ∧ Lib.trimLeftS (A ++ r) p = r := by
  have hA' : ∀ c ∈ A, p.contains c = true := fun c hc => List.contains_iff_mem.2 (hA c hc)
  have h2 : r.takeWhile (p.contains ·) = [] ∧ r.dropWhile (p.contains ·) = r := by
    cases r with
    | nil => exact ⟨rfl, rfl⟩
    | cons c t =>
      have h3 : p.contains c = false := by
        cases h : p.contains c with
        | false => rfl
        | true => exact absurd (List.contains_iff_mem.1 h) (hr c t rfl)
      rw [List.takeWhile_cons, List.dropWhile_cons, h3]
      exact ⟨rfl, rfl⟩
  unfold Lib.trimLeftS
  rw [List.takeWhile_append_of_pos hA', List.dropWhile_append_of_pos hA', h2.1, h2.2, List.append_nil]
  exact ⟨rfl, rfl⟩
theorem pre_same (p r : List UInt8) : Lib.hasPrefix (p ++ r) p = true := List.isPrefixOf_iff_prefix.2 (List.prefix_append _ _)
theorem takes_same (p : List UInt8) (ps : List (List UInt8)) (r : List UInt8) : takesF (p :: ps) (p ++ r) = some r := by
  unfold takesF; rw [if_pos (pre_same p r), List.drop_left]
theorem takes_snd {p q r : List UInt8} (ps : List (List UInt8)) (h : Lib.hasPrefix (q ++ r) p = false) : takesF (p :: q :: ps) (q ++ r) = some r := by
  unfold takesF; rw [if_neg (by rw [h]; decide)]; exact takes_same q ps r
theorem pre_ne {c d : UInt8} {l p : List UInt8} (h : c ≠ d) : Lib.hasPrefix (c :: l) (d :: p) = false := by
  unfold Lib.hasPrefix
  rw [List.isPrefixOf_cons_cons, show (d == c) = false by simpa using (Ne.symm h)]; rfl
theorem takes_not {c d : UInt8} {r : List UInt8} (h : c ≠ d) : takesF [[d]] (c :: r) = none := by
  unfold takesF; rw [if_neg (by rw [pre_ne h]; decide)]; rfl
theorem hexs_mem {c : UInt8} (h : hexd c = true) : c ∈ hexs := by
  have h1 : ∀ n, n < 256 → hexdN n = true → UInt8.ofNat n ∈ hexs := by decide +kernel
  have h2 := h1 c.toNat c.toNat_lt h
  rwa [UInt8.ofNat_toNat] at h2
theorem digs_plain {A r : List UInt8} {c : UInt8} (hA : ∀ c ∈ A, hexd c = true) (hc : c ∉ hexs) (h46 : c ≠ 46) : digsF hexs (A ++ c :: r) = (A, 0, c :: r) := by
  obtain ⟨h1, h2⟩ := tw_app (p := hexs) (A := A) (r := c :: r) (fun c hc => hexs_mem (hA c hc)) (by rintro d t ⟨rfl⟩; exact hc)
  unfold digsF
  rw [h2, takes_not h46, h1]
theorem digs_point {A B r : List UInt8} {c : UInt8} (hA : ∀ c ∈ A, hexd c = true) (hB : ∀ c ∈ B, hexd c = true) (hc : c ∉ hexs) : digsF hexs (A ++ 46 :: (B ++ c :: r)) = (A ++ B, B.length, c :: r) := by
  obtain ⟨h1, h2⟩ := tw_app (p := hexs) (A := A) (r := 46 :: (B ++ c :: r)) (fun c hc => hexs_mem (hA c hc)) (by rintro d t ⟨rfl⟩; decide)
  obtain ⟨h3, h4⟩ := tw_app (p := hexs) (A := B) (r := c :: r) (fun c hc => hexs_mem (hB c hc)) (by rintro d t ⟨rfl⟩; exact hc)
  unfold digsF
  rw [h2, show (46 : UInt8) :: (B ++ c :: r) = [46] ++ (B ++ c :: r) from rfl, takes_same [46] [] _]
  show (_, _, _) = _
  rw [show ([46] : List UInt8) ++ (B ++ c :: r) = 46 :: (B ++ c :: r) from rfl, h1, h3, h4]
def ExT (E : List UInt8) (n : Int) : Prop := (expF E).1 ≠ [] ∧ (expF E).2.1 = n ∧ (expF E).2.2 = []
theorem numF_plain {x p : UInt8} {A E : List UInt8} {n : Int} (hx : x = 120 ∨ x = 88) (hp : p = 112 ∨ p = 80) (hA : ∀ c ∈ A, hexd c = true) (hA0 : A ≠ []) (hE : ExT E n) :
    numF (48 :: x :: (A ++ p :: E)) = some (Lib.trimLeftS A [48], 0, n) := by
  have h1 : takesF [[48, 120], [48, 88]] (48 :: x :: (A ++ p :: E)) = some (A ++ p :: E) := by
    rcases hx with rfl | rfl
    · exact takes_same [48, 120] [[48, 88]] _
    · refine takes_snd (p := [48, 120]) (q := [48, 88]) [] ?_
      unfold Lib.hasPrefix; rfl
  have h2 : digsF hexs (A ++ p :: E) = (A, 0, p :: E) := digs_plain hA (by rcases hp with rfl | rfl <;> decide) (by rcases hp with rfl | rfl <;> decide)
  have h3 : takesF [[112], [80]] (p :: E) = some E := by
    rcases hp with rfl | rfl
    · exact takes_same [112] [[80]] _
    · exact takes_snd (p := [112]) (q := [80]) [] (pre_ne (by decide))
  rw [numF_s h1 (by rw [h2]; exact hA0) (by rw [h2]; exact h3), if_neg hE.1, if_pos hE.2.2, h2, hE.2.1]
theorem numF_point {x p : UInt8} {A B E : List UInt8} {n : Int} (hx : x = 120 ∨ x = 88) (hp : p = 112 ∨ p = 80) (hA : ∀ c ∈ A, hexd c = true) (hB : ∀ c ∈ B, hexd c = true) (hA0 : A ++ B ≠ []) (hE : ExT E n) :
    numF (48 :: x :: (A ++ 46 :: (B ++ p :: E))) = some (Lib.trimLeftS (A ++ B) [48], B.length, n) := by
  have h1 : takesF [[48, 120], [48, 88]] (48 :: x :: (A ++ 46 :: (B ++ p :: E))) = some (A ++ 46 :: (B ++ p :: E)) := by
    rcases hx with rfl | rfl
    · exact takes_same [48, 120] [[48, 88]] _
    · refine takes_snd (p := [48, 120]) (q := [48, 88]) [] ?_
      unfold Lib.hasPrefix; rfl
  have h2 : digsF hexs (A ++ 46 :: (B ++ p :: E)) = (A ++ B, B.length, p :: E) := digs_point hA hB (by rcases hp with rfl | rfl <;> decide)
  have h3 : takesF [[112], [80]] (p :: E) = some E := by
    rcases hp with rfl | rfl
    · exact takes_same [112] [[80]] _
    · exact takes_snd (p := [112]) (q := [80]) [] (pre_ne (by decide))
  rw [numF_s h1 (by rw [h2]; exact hA0) (by rw [h2]; exact h3), if_neg hE.1, if_pos hE.2.2, h2, hE.2.1]
theorem rnp_eq {f p m l : Int} {S I H sd : Nat} {Be : Int} (J : Jn f p m l S I H sd Be) {x e : Int} {Z : Nat} (hx : 0 ≤ x) (he : -4194304 ≤ e) (h : RNz H l I (dv x e) Z) : rnp l sd Be S I x e = Z := by
  obtain ⟨Y, _, h2, h3, _⟩ := rnp_is J x e he
  rw [show ((x.natAbs : Nat) : Int) = x by omega] at h2
  rw [h3, if_neg (by omega)]
  exact h2.uniq h
end Go.Proofs.YtglkjbkpgfencaaGreatDoor

namespace Go.Proofs.YtglkjbkpgfencaaGreatDoor
open Go.RowKit Go.Shelf

def findF (a b : UInt8) : List UInt8 → Option Nat
  | [] => none
  | c :: l => if c = a ∨ c = b then some 0 else (findF a b l).map (· + 1)
theorem find_at {a b c : UInt8} {A r : List UInt8} (hA : ∀ d ∈ A, d ≠ a ∧ d ≠ b) (hc : c = a ∨ c = b) : findF a b (A ++ c :: r) = some A.length := by
  induction A with
  | nil => show (if c = a ∨ c = b then some 0 else _) = _; rw [if_pos hc]; rfl
  | cons d A ih =>
    have hd := hA d (List.mem_cons_self ..)
    rw [show findF a b ((d :: A) ++ c :: r) = (if d = a ∨ d = b then some 0 else (findF a b (A ++ c :: r)).map (· + 1)) from rfl, if_neg (by rintro (h | h); exact hd.1 h; exact hd.2 h), ih (fun x hx => hA x (List.mem_cons_of_mem _ hx))]; rfl
theorem find_no {a b : UInt8} {A : List UInt8} (hA : ∀ d ∈ A, d ≠ a ∧ d ≠ b) : findF a b A = none := by
  induction A with
  | nil => rfl
  | cons d A ih =>
    have hd := hA d (List.mem_cons_self ..)
    show (if d = a ∨ d = b then some 0 else _) = _
    rw [if_neg (by rintro (h | h); exact hd.1 h; exact hd.2 h), ih (fun x hx => hA x (List.mem_cons_of_mem _ hx))]; rfl
theorem find_some {a b : UInt8} : ∀ {l : List UInt8} {i : Nat}, findF a b l = some i → ∃ c r, l = l.take i ++ c :: r ∧ (c = a ∨ c = b) ∧ r = l.drop (i + 1) ∧ i < l.length
  | [], _, h => by cases h
  | d :: l, i, h => by
    have h1 : (if d = a ∨ d = b then some 0 else (findF a b l).map (· + 1)) = some i := h
    split at h1
    · rename_i hd
      cases h1
      exact ⟨d, l, rfl, hd, rfl, Nat.succ_pos _⟩
    · cases hf : findF a b l with
      | none => rw [hf] at h1; cases h1
      | some j =>
        rw [hf] at h1
        obtain rfl : j + 1 = i := Option.some.inj h1
        obtain ⟨c, r, k1, k2, k3, k4⟩ := find_some hf
        exact ⟨c, r, congrArg (d :: ·) k1, k2, k3, Nat.succ_lt_succ k4⟩
def hugeF : Nat → List UInt8 → Nat
  | n, [] => n
  | n, c :: l => hugeF (min (10 * n + (c.toNat - 48)) 1099511627776) l
theorem huge_far : ∀ (l : List UInt8) (n : Nat), farF (min n 100000) l = min (hugeF n l) 100000
  | [], _ => rfl
  | c :: l, n => by
    show farF (min (10 * min n 100000 + (c.toNat - 48)) 100000) l = min (hugeF (min (10 * n + (c.toNat - 48)) 1099511627776) l) 100000
    rw [← huge_far l]
    congr 1; omega
theorem huge_le : ∀ (l : List UInt8) (n : Nat), n ≤ 1099511627776 → hugeF n l ≤ 1099511627776
  | [], _, h => h
  | _ :: l, _, _ => huge_le l _ (Nat.min_le_right _ _)
def powF (l : List UInt8) : Option Int :=
  if (minusF l).2 = [] ∨ ¬ (∀ c ∈ (minusF l).2, c ∈ decs) then none else some (if (minusF l).1 then -((hugeF 0 (minusF l).2 : Nat) : Int) else ((hugeF 0 (minusF l).2 : Nat) : Int))
def FarR (ex Ed : Int) : Prop := (ex = Ed ∧ -100000 < Ed ∧ Ed < 100000) ∨ (ex = 100000 ∧ 100000 ≤ Ed ∧ Ed ≤ 1099511627776) ∨ (ex = -100000 ∧ Ed ≤ -100000 ∧ -1099511627776 ≤ Ed)
theorem far_rel (l : List UInt8) (neg : Bool) : FarR (if neg then -((farF 0 l : Nat) : Int) else ((farF 0 l : Nat) : Int)) (if neg then -((hugeF 0 l : Nat) : Int) else ((hugeF 0 l : Nat) : Int)) := by
  have h1 := huge_far l 0
  have h2 := huge_le l 0 (by decide)
  rw [show min 0 100000 = 0 by decide] at h1
  rw [h1]
  unfold FarR
  cases neg
  · show (((min (hugeF 0 l) 100000 : Nat) : Int) = _ ∧ _) ∨ _ ∨ _
    simp only [Bool.false_eq_true, if_false]
    omega
  · simp only [if_true]
    omega
theorem decs_all {l : List UInt8} : Lib.trimLeftS l decs = [] ↔ ∀ c ∈ l, c ∈ decs := by
  constructor
  · intro h c hc
    have h1 := List.takeWhile_append_dropWhile (p := (decs.contains ·)) (l := l)
    have h2 : l.dropWhile (decs.contains ·) = [] := h
    rw [h2, List.append_nil] at h1
    rw [← h1] at hc
    exact List.contains_iff_mem.1 (List.all_eq_true.1 (List.all_takeWhile (p := (decs.contains ·)) (l := l)) c hc)
  · intro h
    have h1 := (tw_app (p := decs) (A := l) (r := []) h (by rintro d t ⟨⟩)).2
    rwa [List.append_nil] at h1
theorem pow_of {E : List UInt8} {ex : Int} (h : ExT E ex) : ∃ Ed, powF E = some Ed ∧ FarR ex Ed := by
  obtain ⟨h1, h2, h3⟩ := h
  have hall : ∀ c ∈ (minusF E).2, c ∈ decs := decs_all.1 h3
  have htw : (minusF E).2.takeWhile (decs.contains ·) = (minusF E).2 := by
    have k1 := List.takeWhile_append_dropWhile (p := (decs.contains ·)) (l := (minusF E).2)
    have k2 : (minusF E).2.dropWhile (decs.contains ·) = [] := h3
    rwa [k2, List.append_nil] at k1
  have hne : (minusF E).2 ≠ [] := by rw [← htw]; exact h1
  refine ⟨_, if_neg (by rintro (k | k); exact hne k; exact k hall), ?_⟩
  have h4 : (if (minusF E).1 then -((farF 0 ((minusF E).2.takeWhile (decs.contains ·)) : Nat) : Int) else ((farF 0 ((minusF E).2.takeWhile (decs.contains ·)) : Nat) : Int)) = ex := h2
  rw [htw] at h4
  rw [← h4]
  exact far_rel _ _
theorem pow_inv {E : List UInt8} {Ed : Int} (h : powF E = some Ed) : ∃ ex, ExT E ex := by
  unfold powF at h
  split at h
  · cases h
  · rename_i hn
    have hne : (minusF E).2 ≠ [] := fun k => hn (.inl k)
    have hall : ∀ c ∈ (minusF E).2, c ∈ decs := Classical.byContradiction fun k => hn (.inr k)
    have htw : (minusF E).2.takeWhile (decs.contains ·) = (minusF E).2 := by
      have k1 := (tw_app (p := decs) (A := (minusF E).2) (r := []) hall (by rintro d t ⟨⟩)).1
      rwa [List.append_nil] at k1
    refine ⟨_, ?_, rfl, decs_all.2 hall⟩
    show (minusF E).2.takeWhile (decs.contains ·) ≠ []
    rw [htw]; exact hne
def cutF (D : List UInt8) : List UInt8 × Nat :=
  match findF 46 46 D with
  | none => (D, 0)
  | some i => (D.take i ++ D.drop (i + 1), D.length - i - 1)
def docR (r : List UInt8) : Option (Nat × Int) :=
  match findF 112 80 r with
  | none => none
  | some i => match powF (r.drop (i + 1)) with
    | none => none
    | some Ed => if (cutF (r.take i)).1 = [] ∨ (cutF (r.take i)).1.all hexd = false then none else some (hexF 0 (cutF (r.take i)).1, Ed - 4 * (((cutF (r.take i)).2 : Nat) : Int))
def docF : List UInt8 → Option (Nat × Int)
  | c :: x :: r => if c = 48 ∧ (x = 120 ∨ x = 88) then docR r else none
  | _ => none
theorem hex_no {A : List UInt8} (hA : ∀ c ∈ A, hexd c = true) : ∀ d ∈ A, (d ≠ 112 ∧ d ≠ 80) ∧ (d ≠ 46 ∧ d ≠ 46) := by
  intro d hd
  have h := hA d hd
  refine ⟨⟨?_, ?_⟩, ⟨?_, ?_⟩⟩ <;> (rintro rfl; revert h; decide)
theorem len_snoc (X : List UInt8) (p : UInt8) : X.length + 1 = (X ++ [p]).length := by rw [List.length_append]; rfl
theorem docF_plain {x p : UInt8} {A E : List UInt8} {Ed : Int} (hx : x = 120 ∨ x = 88) (hp : p = 112 ∨ p = 80) (hA : ∀ c ∈ A, hexd c = true) (hA0 : A ≠ []) (hE : powF E = some Ed) :
    docF (48 :: x :: (A ++ p :: E)) = some (hexF 0 A, Ed - 4 * ((0 : Nat) : Int)) := by
  rw [show docF (48 :: x :: (A ++ p :: E)) = docR (A ++ p :: E) from if_pos ⟨rfl, hx⟩]
  unfold docR
  rw [find_at (fun d hd => (hex_no hA d hd).1) hp]
  show (match powF ((A ++ p :: E).drop (A.length + 1)) with | none => none | some Ed => _) = _
  rw [show (A ++ p :: E).drop (A.length + 1) = E by rw [show A ++ p :: E = (A ++ [p]) ++ E by simp, show A.length + 1 = (A ++ [p]).length by simp, List.drop_left], hE]
  show (if (cutF ((A ++ p :: E).take A.length)).1 = [] ∨ _ then none else _) = _
  rw [List.take_left]
  have hc : cutF A = (A, 0) := by unfold cutF; rw [find_no (fun d hd => (hex_no hA d hd).2)]
  rw [hc, if_neg (by rintro (h | h); exact hA0 h; exact absurd (List.all_eq_true.2 hA) (by rw [h]; decide))]
theorem docF_point {x p : UInt8} {A B E : List UInt8} {Ed : Int} (hx : x = 120 ∨ x = 88) (hp : p = 112 ∨ p = 80) (hA : ∀ c ∈ A, hexd c = true) (hB : ∀ c ∈ B, hexd c = true) (hA0 : A ++ B ≠ []) (hE : powF E = some Ed) :
    docF (48 :: x :: (A ++ 46 :: (B ++ p :: E))) = some (hexF 0 (A ++ B), Ed - 4 * ((B.length : Nat) : Int)) := by
  have hr : A ++ 46 :: (B ++ p :: E) = (A ++ 46 :: B) ++ p :: E := by simp
  have hD : ∀ d ∈ A ++ 46 :: B, d ≠ 112 ∧ d ≠ 80 := by
    intro d hd
    rw [List.mem_append, List.mem_cons] at hd
    rcases hd with h | rfl | h
    · exact (hex_no hA d h).1
    · decide
    · exact (hex_no hB d h).1
  rw [show docF (48 :: x :: (A ++ 46 :: (B ++ p :: E))) = docR (A ++ 46 :: (B ++ p :: E)) from if_pos ⟨rfl, hx⟩]
  unfold docR
  rw [hr, find_at hD hp]
  show (match powF (((A ++ 46 :: B) ++ p :: E).drop ((A ++ 46 :: B).length + 1)) with | none => none | some Ed => _) = _
  rw [show ((A ++ 46 :: B) ++ p :: E).drop ((A ++ 46 :: B).length + 1) = E by rw [show (A ++ 46 :: B) ++ p :: E = ((A ++ 46 :: B) ++ [p]) ++ E by simp, show (A ++ 46 :: B).length + 1 = ((A ++ 46 :: B) ++ [p]).length from len_snoc _ _, List.drop_left], hE]
  show (if (cutF (((A ++ 46 :: B) ++ p :: E).take (A ++ 46 :: B).length)).1 = [] ∨ _ then none else _) = _
  rw [List.take_left]
  have hc : cutF (A ++ 46 :: B) = (A ++ B, B.length) := by
    unfold cutF
    rw [find_at (fun d hd => (hex_no hA d hd).2) (.inl rfl)]
    show ((A ++ 46 :: B).take A.length ++ (A ++ 46 :: B).drop (A.length + 1), (A ++ 46 :: B).length - A.length - 1) = _
    rw [List.take_left, show (A ++ 46 :: B).drop (A.length + 1) = B by rw [show A ++ 46 :: B = (A ++ [46]) ++ B by simp, show A.length + 1 = (A ++ [46]).length by simp, List.drop_left], List.length_append, List.length_cons]
    congr 1; omega
  have hAB : ∀ c ∈ A ++ B, hexd c = true := fun c hc => by rw [List.mem_append] at hc; exact hc.elim (hA c) (hB c)
  rw [hc, if_neg (by rintro (h | h); exact hA0 h; exact absurd (List.all_eq_true.2 hAB) (by rw [h]; decide))]
theorem takes_inv {ps : List (List UInt8)} {l r : List UInt8} (h : takesF ps l = some r) : ∃ p ∈ ps, l = p ++ r := by
  induction ps with
  | nil => cases h
  | cons p ps ih =>
    unfold takesF at h
    split at h
    · rename_i h1
      cases h
      obtain ⟨t, ht⟩ := List.isPrefixOf_iff_prefix.1 h1
      exact ⟨p, List.mem_cons_self .., by rw [← ht, List.drop_left]⟩
    · obtain ⟨q, hq, h2⟩ := ih h
      exact ⟨q, List.mem_cons_of_mem _ hq, h2⟩
theorem tw_split (l : List UInt8) : l = l.takeWhile (hexs.contains ·) ++ Lib.trimLeftS l hexs := by
  exact (List.takeWhile_append_dropWhile (p := (hexs.contains ·)) (l := l)).symm
theorem doc_of_num {l ds : List UInt8} {be : Nat} {ex : Int} (h : numF l = some (ds, be, ex)) : ∃ D Ed, ds = Lib.trimLeftS D [48] ∧ docF l = some (hexF 0 D, Ed - 4 * ((be : Nat) : Int)) ∧ FarR ex Ed := by
  unfold numF at h
  split at h
  · cases h
  · rename_i r1 h1
    obtain ⟨q, hq, rfl⟩ := takes_inv h1
    have hx : ∃ x, (x = 120 ∨ x = 88) ∧ q ++ r1 = 48 :: x :: r1 := by
      rcases List.mem_cons.1 hq with rfl | hq2
      · exact ⟨120, .inl rfl, rfl⟩
      · obtain rfl := List.mem_singleton.1 hq2
        exact ⟨88, .inr rfl, rfl⟩
    obtain ⟨x, hx1, hx2⟩ := hx
    rw [hx2]
    split at h
    · cases h
    · rename_i hD
      split at h
      · cases h
      · rename_i r2 h2
        split at h
        · cases h
        · rename_i hE1
          split at h
          · rename_i hE2
            cases h
            obtain ⟨pp, hpp, hr⟩ := takes_inv h2
            have hp : ∃ p, (p = 112 ∨ p = 80) ∧ pp ++ r2 = p :: r2 := by
              rcases List.mem_cons.1 hpp with rfl | hq2
              · exact ⟨112, .inl rfl, rfl⟩
              · obtain rfl := List.mem_singleton.1 hq2
                exact ⟨80, .inr rfl, rfl⟩
            obtain ⟨p, hp1, hp2⟩ := hp
            rw [hp2] at hr
            obtain ⟨Ed, hEd, hF⟩ := pow_of (E := r2) ⟨hE1, rfl, hE2⟩
            have hA : ∀ c ∈ r1.takeWhile (hexs.contains ·), hexd c = true := hexs_in
            cases h46 : takesF [[46]] (Lib.trimLeftS r1 hexs) with
            | none =>
              have hdg : digsF hexs r1 = (r1.takeWhile (hexs.contains ·), 0, Lib.trimLeftS r1 hexs) := by unfold digsF; rw [h46]
              rw [hdg] at hD hr ⊢
              have hr2 : Lib.trimLeftS r1 hexs = p :: r2 := hr
              refine ⟨r1.takeWhile (hexs.contains ·), Ed, rfl, ?_, hF⟩
              have hs := tw_split r1
              rw [hr2] at hs
              have hd := docF_plain hx1 hp1 hA hD hEd
              rw [← hs] at hd
              exact hd
            | some t =>
              have hdg : digsF hexs r1 = (r1.takeWhile (hexs.contains ·) ++ t.takeWhile (hexs.contains ·), (t.takeWhile (hexs.contains ·)).length, Lib.trimLeftS t hexs) := by unfold digsF; rw [h46]
              rw [hdg] at hD hr ⊢
              have hr2 : Lib.trimLeftS t hexs = p :: r2 := hr
              refine ⟨r1.takeWhile (hexs.contains ·) ++ t.takeWhile (hexs.contains ·), Ed, rfl, ?_, hF⟩
              have hB : ∀ c ∈ t.takeWhile (hexs.contains ·), hexd c = true := hexs_in
              obtain ⟨q4, hq4, h4⟩ := takes_inv h46
              obtain rfl := List.mem_singleton.1 hq4
              have hs := tw_split r1
              rw [h4] at hs
              have ht := tw_split t
              rw [hr2] at ht
              have hd := docF_point hx1 hp1 hA hB hD hEd
              rw [← ht] at hd
              rw [show (46 : UInt8) :: t = [46] ++ t from rfl, ← hs] at hd
              exact hd
          · cases h
theorem num_of_doc {l : List UInt8} {v : Nat × Int} (h : docF l = some v) : ∃ t, numF l = some t := by
  cases l with
  | nil => cases h
  | cons c l =>
    cases l with
    | nil => cases h
    | cons x r =>
      have h0 : (if c = 48 ∧ (x = 120 ∨ x = 88) then docR r else none) = some v := h
      split at h0
      · rename_i hcx
        obtain ⟨rfl, hx⟩ := hcx
        unfold docR at h0
        cases hf : findF 112 80 r with
        | none => rw [hf] at h0; cases h0
        | some i =>
          rw [hf] at h0
          obtain ⟨p, E, hr, hp, hE, hi⟩ := find_some hf
          cases hw : powF (r.drop (i + 1)) with
          | none => simp only [hw] at h0; cases h0
          | some Ed =>
            simp only [hw] at h0
            rw [← hE] at hw
            obtain ⟨ex, hEx⟩ := pow_inv hw
            split at h0
            · cases h0
            · rename_i hn
              have hne : (cutF (r.take i)).1 ≠ [] := fun k => hn (.inl k)
              have hall : ∀ c ∈ (cutF (r.take i)).1, hexd c = true := by
                cases ha : (cutF (r.take i)).1.all hexd with
                | false => exact absurd (.inr ha) hn
                | true => exact List.all_eq_true.1 ha
              rw [hr]
              cases hpt : findF 46 46 (r.take i) with
              | none =>
                have hc : cutF (r.take i) = (r.take i, 0) := by unfold cutF; rw [hpt]
                rw [hc] at hne hall
                exact ⟨_, numF_plain hx hp hall hne hEx⟩
              | some j =>
                obtain ⟨d, B, hD, hd, hB, hj⟩ := find_some hpt
                obtain rfl : d = 46 := hd.elim id id
                have hc : cutF (r.take i) = ((r.take i).take j ++ (r.take i).drop (j + 1), (r.take i).length - j - 1) := by unfold cutF; rw [hpt]
                rw [hc] at hne hall
                rw [← hB] at hne hall
                have hn2 := numF_point (A := (r.take i).take j) (B := B) hx hp (fun c hc => hall c (List.mem_append_left _ hc)) (fun c hc => hall c (List.mem_append_right _ hc)) hne hEx
                have e : r.take i ++ p :: E = (r.take i).take j ++ 46 :: (B ++ p :: E) := by
                  have e1 := congrArg (fun t => t ++ p :: E) hD
                  exact e1.trans (by simp)
                exact ⟨_, (congrArg (fun t => numF (48 :: x :: t)) e).trans hn2⟩
      · cases h0
end Go.Proofs.YtglkjbkpgfencaaGreatDoor

namespace Go.Proofs.YtglkjbkpgfencaaGreatDoor
open Go.RowKit Go.Shelf

end Go.Proofs.YtglkjbkpgfencaaGreatDoor

namespace Go.Proofs.YtglkjbkpgfencaaGreatDoor
open Go.RowKit Go.Shelf

theorem hexd_w {c : UInt8} : (48 ≤ (c.toNat : Int) ∧ (c.toNat : Int) ≤ 57 ∧ hexd c = true) ∨ (97 ≤ (c.toNat : Int) ∧ (c.toNat : Int) ≤ 102 ∧ hexd c = true) ∨ (65 ≤ (c.toNat : Int) ∧ (c.toNat : Int) ≤ 70 ∧ hexd c = true) ∨ ((c.toNat : Int) < 48 ∧ hexd c = false) ∨ (57 < (c.toNat : Int) ∧ (c.toNat : Int) < 65 ∧ hexd c = false) ∨ (70 < (c.toNat : Int) ∧ (c.toNat : Int) < 97 ∧ hexd c = false) ∨ (102 < (c.toNat : Int) ∧ hexd c = false) := by
  have h : ∀ n, n < 256 → (48 ≤ n ∧ n ≤ 57 ∧ hexdN n = true) ∨ (97 ≤ n ∧ n ≤ 102 ∧ hexdN n = true) ∨ (65 ≤ n ∧ n ≤ 70 ∧ hexdN n = true) ∨ (n < 48 ∧ hexdN n = false) ∨ (57 < n ∧ n < 65 ∧ hexdN n = false) ∨ (70 < n ∧ n < 97 ∧ hexdN n = false) ∨ (102 < n ∧ hexdN n = false) := by decide +kernel
  have h1 := h c.toNat c.toNat_lt
  unfold hexd
  rcases h1 with ⟨h1, h2, h3⟩ | ⟨h1, h2, h3⟩ | ⟨h1, h2, h3⟩ | ⟨h1, h3⟩ | ⟨h1, h2, h3⟩ | ⟨h1, h2, h3⟩ | ⟨h1, h3⟩
  · exact .inl ⟨by omega, by omega, h3⟩
  · exact .inr (.inl ⟨by omega, by omega, h3⟩)
  · exact .inr (.inr (.inl ⟨by omega, by omega, h3⟩))
  · exact .inr (.inr (.inr (.inl ⟨by omega, h3⟩)))
  · exact .inr (.inr (.inr (.inr (.inl ⟨by omega, by omega, h3⟩))))
  · exact .inr (.inr (.inr (.inr (.inr (.inl ⟨by omega, by omega, h3⟩)))))
  · exact .inr (.inr (.inr (.inr (.inr (.inr ⟨by omega, h3⟩)))))
end Go.Proofs.YtglkjbkpgfencaaGreatDoor

