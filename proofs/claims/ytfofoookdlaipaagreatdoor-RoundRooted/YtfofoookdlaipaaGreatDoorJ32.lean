import Derived.Test.YtfofoookdlaipaaGreatDoorJ23
import Derived.Test.YtfofoookdlaipaaGreatDoorJ27
import Derived.Test.YtfofoookdlaipaaGreatDoorDa15
import Derived.Test.YtfofoookdlaipaaGreatDoorJ21
import Derived.Test.YtfofoookdlaipaaGreatDoorJ8
import Derived.Test.YtfofoookdlaipaaGreatDoorJ10
import Derived.Deep.LoopGhost
import Derived.Test.YtfofoookdlaipaaGreatDoorJ16
import Derived.Laws.Bits64b
import Derived.Test.YtfofoookdlaipaaGreatDoorJ28
import Derived.Test.YtfofoookdlaipaaGreatDoorBb5
import Derived.Test.YtfofoookdlaipaaGreatDoorRq5
import Derived.Test.YtfofoookdlaipaaGreatDoorBs4
namespace Go.Proofs.YtfofoookdlaipaaGreatDoor
open Go.RowKit Go.Shelf

def EasyP (s : Bool) (xs : List Nat) (e : Int) (m : Nat) (en : Ending) : Prop := ∃ bo, en = .returned (.bool bo) ∧ (bo = true → formD s xs e = true ∧ m ≤ 300 ∧ -5000 ≤ e ∧ e ≤ 5000)
set_option maxRecDepth 20000 in
set_option maxHeartbeats 8000000 in
theorem easy8 {p : Option Addr} {m c : Nat} {xs : List Nat} {w : World} {e : Int} (s : Bool) (h : At w p m c xs) :
    Calls Tryz.prog 25 #[DV s p m c e] w fun en w' => EasyP s xs e m en ∧ Below w.heap.size w w' := by
  have H : Hid (At w p m c xs) := h
  clear h
  go_enter Tryz.func25, Tryz.ntmps25
  go_wp2_with fail
  obtain ⟨W0, hW0⟩ : ∃ W0, W0 = (w.alloc (.cells #[.bool s, .slice p m c, .int .i64 e] 34)) := ⟨_, rfl⟩
  have Xd : Hid (B3q W0 (w.heap.size) (.bool s) (.slice p m c) (.int .i64 e)) := by rw [hW0]; exact ⟨by go_simp, by go_simp, by go_simp, by go_simp, by go_simp, by go_simp⟩
  have hb0 : Below w.heap.size w W0 := by rw [hW0]; exact below1 w _
  rw [← hW0]
  clear hW0
  have hbw : Below w.heap.size w w := Below.refl _ _
  obtain ⟨gd, hgd⟩ : ∃ g, g = w.heap.size := ⟨_, rfl⟩
  have HGd : Hid (w.heap.size ≤ gd) := by rw [hgd]; show _ ≤ _; omega
  rw [← hgd] at Xd
  try rw [← hgd]
  clear hgd
  replace hbw := Below.on hbw hb0
  clear hb0
  refine (docformd s (H.out.below hbw)).mono ?_
  rintro e2 v1 ⟨rfl, hb1⟩
  replace Xd : Hid _ := Xd.out.below hb1
  replace hbw := Below.on hbw hb1
  clear hb1
  cases hf : formD s xs e
  · clear hf
    go_wp2_with fail
    go_ret
    exact ⟨⟨false, rfl, fun h => by cases h⟩, hbw⟩
  · have HF : Hid (formD s xs e = true) := hf
    clear hf
    by_cases h1 : m ≤ 300
    · have g1 : (m : Int) ≤ 300 := by omega
      by_cases h2 : -5000 ≤ e
      · obtain ⟨cd0, cd1, cd2, fd0, fd1, fd2⟩ := Xd.out
        have hned : gd < v1.heap.size := World.block_lt_of_cell? v1 _ cd0
        go_wp2_with fail
        clear cd0 cd1 cd2 fd0 fd1 fd2 hned
        go_ret
        exact ⟨⟨decide (e ≤ 5000), rfl, fun h => ⟨HF.out, h1, h2, of_decide_eq_true h⟩⟩, hbw⟩
      · have g2 : e < -5000 := by omega
        obtain ⟨cd0, cd1, cd2, fd0, fd1, fd2⟩ := Xd.out
        have hned : gd < v1.heap.size := World.block_lt_of_cell? v1 _ cd0
        go_wp2_with fail
        clear cd0 cd1 cd2 fd0 fd1 fd2 hned
        go_ret
        exact ⟨⟨false, rfl, fun h => by cases h⟩, hbw⟩
    · have g1 : ¬ (m : Int) ≤ 300 := by omega
      have g4 : 300 < (m : Int) := by omega
      obtain ⟨cd0, cd1, cd2, fd0, fd1, fd2⟩ := Xd.out
      have hned : gd < v1.heap.size := World.block_lt_of_cell? v1 _ cd0
      go_wp2_with fail
      clear cd0 cd1 cd2 fd0 fd1 fd2 hned
      go_ret
      exact ⟨⟨false, rfl, fun h => by cases h⟩, hbw⟩
theorem easy_db {p : Option Addr} {m c : Nat} {xs : List Nat} {w : World} {e : Int} {s : Bool} (h : At w p m c xs) (hf : formD s xs e = true ∧ m ≤ 300 ∧ -5000 ≤ e ∧ e ≤ 5000) : DN w s p m c e (iv s (valB B64 xs)) ∧ DB (iv s (valB B64 xs)) e 19200 5000 := by
  have hd := formD_dn h hf.1
  refine ⟨hd, hd.fm, ?_, by omega, by omega⟩
  obtain ⟨ys, hY⟩ := hd.zn.ex
  have h1 := (hY.nf.len_le B64_one (k := 300)).1 (by rw [hY.at_.len]; exact hf.2.1)
  obtain ⟨k, hk⟩ : ∃ k, k = 300 := ⟨_, rfl⟩
  obtain ⟨l, hl⟩ : ∃ l, l = 19200 := ⟨_, rfl⟩
  rw [← hk, B64_pow] at h1
  rw [← hl]
  exact Nat.lt_of_lt_of_le h1 (Nat.pow_le_pow_right (by omega) (by omega))
theorem Mk.uniq {H : Nat} {l : Int} {I : Nat} {g : Int → Int} {A V U : Int} {Z Y : Nat} (h : Mk H l I g A V) (k : Mk H l I g A U) (hZ : RNz H l I V Z) (hY : RNz H l I U Y) : Z ≤ Y := by
  refine Nat.le_of_not_lt fun hlt => ?_
  have hYI : Y < I := Nat.lt_of_lt_of_le hlt hZ.le
  have h1 : U ≤ dv (hv H Y : Int) (l - 1) := Int.not_lt.1 fun h2 => by have := hY.hi Y hYI h2; omega
  have h2 : dv (hv H Y : Int) (l - 1) ≤ V := Int.not_lt.1 fun h2 => by have := hZ.lo Y hYI h2; omega
  rcases Int.lt_or_eq_of_le h1 with h3 | h3 <;> rcases Int.lt_or_eq_of_le h2 with h4 | h4
  · have := k.lt Y hYI h3; have := h.gt Y hYI h4; omega
  · have := k.lt Y hYI h3; have := h.eq Y hYI h4.symm; omega
  · have := k.eq Y hYI h3; have := h.gt Y hYI h4; omega
  · rw [← h4, ← h3] at hZ
    have := hZ.uniq hY
    omega
end Go.Proofs.YtfofoookdlaipaaGreatDoor

namespace Go.Proofs.YtfofoookdlaipaaGreatDoor
open Go.RowKit Go.Shelf

def GP (up : Bool) (z e E zo eo : Int) : Prop := DFm zo eo ∧ ((E ≤ e ∧ zo = z ∧ eo = e) ∨ (e < E ∧ dv zo eo = dv (rd up z (2 ^ (E - e).toNat)) E ∧ (zo = 0 ∨ E ≤ eo)))
theorem dv_grid {F e E : Int} (h : e < E) (he : -4194304 ≤ e) : dv F E = dv (F * ((2 ^ (E - e).toNat : Nat) : Int)) e := dv_shift (by omega) he
theorem GP.lo {z e E zo eo : Int} (h : GP false z e E zo eo) (he : -4194304 ≤ e) : dv zo eo ≤ dv z e := by
  rcases h.2 with ⟨_, rfl, rfl⟩ | ⟨h1, h2, _⟩
  · exact Int.le_refl _
  · rw [h2, dv_grid h1 he]
    exact dv_le _ (rd_down z (Nat.pow_pos (by omega))).1
theorem GP.hi {z e E zo eo : Int} (h : GP true z e E zo eo) (he : -4194304 ≤ e) : dv z e ≤ dv zo eo := by
  rcases h.2 with ⟨_, rfl, rfl⟩ | ⟨h1, h2, _⟩
  · exact Int.le_refl _
  · rw [h2, dv_grid h1 he]
    exact dv_le _ (rd_up z (Nat.pow_pos (by omega))).1
theorem GP.neg {z e E zo eo : Int} (h : GP true z e E zo eo) : GP false (-z) e E (-zo) eo := by
  refine ⟨h.1.neg, ?_⟩
  rcases h.2 with ⟨h1, rfl, rfl⟩ | ⟨h1, h2, h3⟩
  · exact .inl ⟨h1, rfl, rfl⟩
  · refine .inr ⟨h1, by rw [rd_neg, dv_neg, dv_neg, h2], ?_⟩
    rcases h3 with h3 | h3
    · exact .inl (by omega)
    · exact .inr h3
end Go.Proofs.YtfofoookdlaipaaGreatDoor

namespace Go.Proofs.YtfofoookdlaipaaGreatDoor
open Go.RowKit Go.Shelf

theorem WB.bits {x y X Y L : Int} {P : Nat} (h : WB x y P X Y L) (hx : x ≠ 0) (hy : y ≠ 0) : bitsN X.natAbs = P + bitsN Y.natAbs ∧ X ≠ 0 ∧ Y ≠ 0 := by
  obtain ⟨h1, h2, h3⟩ := h
  have key : ∀ (z : Int) (N : Nat), z ≠ 0 → bitsN (z * 2 ^ N).natAbs = bitsN z.natAbs + N ∧ z * 2 ^ N ≠ 0 := by
    intro z N hz
    refine ⟨?_, Int.mul_ne_zero hz (by rw [pow_cast]; exact pow_pos_int _)⟩
    rw [Int.natAbs_mul, pow_cast, Int.natAbs_natCast, Nat.mul_comm, bitsN_shl _ _ (by omega)]
    omega
  obtain ⟨a1, a2⟩ := key x L.toNat hx
  obtain ⟨b1, b2⟩ := key y (-L).toNat hy
  rw [h2, h3]
  exact ⟨by omega, a2, b2⟩
end Go.Proofs.YtfofoookdlaipaaGreatDoor

namespace Go.Proofs.YtfofoookdlaipaaGreatDoor
open Go.RowKit Go.Shelf

end Go.Proofs.YtfofoookdlaipaaGreatDoor

namespace Go.Proofs.YtfofoookdlaipaaGreatDoor
open Go.RowKit Go.Shelf

end Go.Proofs.YtfofoookdlaipaaGreatDoor

namespace Go.Proofs.YtfofoookdlaipaaGreatDoor
open Go.RowKit Go.Shelf

theorem results_ctt {fn : Func} {p t1 t2 : Tmp} {ty : TypeId} (h : fn.results = #[.cell p ty, .tmp t1, .tmp t2]) (tmps : Array Value) (P : Program) (w : World) :
    (results fn tmps).run P w = ((asAddr (tmps.getD p undef)).run P w).andThen fun a w₁ => ((loadVar ty a).run P w₁).andThen fun v w₂ => .ok (.tuple #[v, tmps.getD t1 undef, tmps.getD t2 undef]) w₂ := by
  simp only [results, h]
  simp [Sem.run_bind, Result.andThen]
theorem Own.inn {B : Nat} {w : World} {p : Option Addr} {m : Nat} {zs : List Nat} (h : Own B w p m zs) : ∀ g, p = some ⟨g, 0, none⟩ → 0 < m → B ≤ g ∧ g < w.heap.size := by
  intro g hp hm
  obtain ⟨g2, h1, h2, h3⟩ := h.mem.resolve_left (by omega)
  rw [hp] at h1
  have : g = g2 := by injection h1 with h1; injection h1
  subst this
  exact ⟨h2, World.block_lt_of_cell? w _ (h3.cell 0 hm)⟩
structure DO (B : Nat) (w : World) (s : Bool) (p : Option Addr) (m : Nat) (e z : Int) : Prop where
  own : ∃ zs, Own B w p m zs ∧ Nf B64 zs z.natAbs ∧ m ≤ 8192
  sg : s = decide (z < 0)
  fm : DFm z e
theorem DO.dn {B : Nat} {w : World} {s : Bool} {p : Option Addr} {m : Nat} {e z : Int} (h : DO B w s p m e z) : DN w s p m m e z := by
  obtain ⟨zs, h1, h2, h3⟩ := h.own
  exact ⟨⟨⟨zs, Num.of h1 h2 h3⟩, h.sg⟩, h.fm⟩
theorem DO.below {B : Nat} {w w' : World} {s : Bool} {p : Option Addr} {m : Nat} {e z : Int} (h : DO B w s p m e z) (hb : Below w.heap.size w w') : DO B w' s p m e z := by
  obtain ⟨zs, h1, h2, h3⟩ := h.own
  exact ⟨⟨zs, h1.below hb, h2, h3⟩, h.sg, h.fm⟩
theorem DO.set {B : Nat} {w : World} {s : Bool} {p : Option Addr} {m : Nat} {e z : Int} (h : DO B w s p m e z) (g o : Nat) (v : Value) (hg : g < B) : DO B (w.setCell ⟨g, o, none⟩ v) s p m e z := by
  obtain ⟨zs, h1, h2, h3⟩ := h.own
  exact ⟨⟨zs, h1.setOld _ _ _ hg, h2, h3⟩, h.sg, h.fm⟩
theorem DO.of {B : Nat} {w : World} {v : Value} {e z : Int} (h : AnsD B w v z e) (hf : DFm z e) : ∃ s p m, v = DV s p m m e ∧ DO B w s p m e z := by
  obtain ⟨p, m, zs, rfl, h1, h2, h3⟩ := h
  exact ⟨_, p, m, rfl, ⟨zs, h1, h2, h3⟩, rfl, hf⟩
abbrev SV (s : Bool) (p : Option Addr) (m c : Nat) (e : Int) (t : Bool) (q : Option Addr) (n d : Nat) (f : Int) : Value := .agg #[.bool s, .slice p m c, .int .i64 e, .bool t, .slice q n d, .int .i64 f]
end Go.Proofs.YtfofoookdlaipaaGreatDoor

namespace Go.Proofs.YtfofoookdlaipaaGreatDoor
open Go.RowKit Go.Shelf

end Go.Proofs.YtfofoookdlaipaaGreatDoor

namespace Go.Proofs.YtfofoookdlaipaaGreatDoor
open Go.RowKit Go.Shelf

end Go.Proofs.YtfofoookdlaipaaGreatDoor

namespace Go.Proofs.YtfofoookdlaipaaGreatDoor
open Go.RowKit Go.Shelf

structure It where
  p : Option Addr
  n : Nat
  c : Nat
  xs : List Nat
  a : Nat
structure Lists (w : World) (P : Option Addr) (N C : Nat) (its : List It) : Prop where
  len : its.length = N
  cap : N ≤ C
  big : C ≤ maxLen
  cells : N = 0 ∨ ∃ g off, P = some ⟨g, off, none⟩ ∧ ∀ j (h : j < its.length), w.cell? ⟨g, off + j, none⟩ = some (.slice its[j].p its[j].n its[j].c)
  nums : ∀ t ∈ its, Num w t.p t.n t.c t.xs t.a
theorem Lists.below {w w' : World} {P : Option Addr} {N C : Nat} {its : List It} (h : Lists w P N C its) (hb : Below w.heap.size w w') : Lists w' P N C its := by
  refine ⟨h.len, h.cap, h.big, ?_, fun t ht => (h.nums t ht).below hb⟩
  rcases h.cells with h0 | ⟨g, off, rfl, hc⟩
  · exact .inl h0
  · exact .inr ⟨g, off, rfl, fun j hj => (hb.cell (p := ⟨g, off + j, none⟩) (World.block_lt_of_cell? w _ (hc j hj))).trans (hc j hj)⟩
def prodI : List It → Nat
  | [] => 1
  | t :: ts => t.a * prodI ts
theorem Lists.take {w : World} {g off N C : Nat} {its : List It} (h : Lists w (some ⟨g, off, none⟩) N C its) (k : Nat) (hk : k ≤ N) : Lists w (some ⟨g, off, none⟩) k k (its.take k) := by
  have hl := h.len; have hc := h.cap; have hb := h.big
  refine ⟨by rw [List.length_take]; omega, Nat.le_refl _, by omega, ?_, fun t ht => h.nums t (List.mem_of_mem_take ht)⟩
  rcases h.cells with h0 | ⟨g', off', he, hcl⟩
  · exact .inl (by omega)
  · refine .inr ⟨g', off', he, fun j hj => ?_⟩
    have hj2 : j < its.length := by rw [List.length_take] at hj; omega
    rw [hcl j hj2]; simp
theorem Lists.drop {w : World} {g off N C : Nat} {its : List It} (h : Lists w (some ⟨g, off, none⟩) N C its) (k : Nat) (hk : k < N) : Lists w (some ⟨g, off + k, none⟩) (N - k) (C - k) (its.drop k) := by
  have hl := h.len; have hc := h.cap; have hb := h.big
  refine ⟨by rw [List.length_drop]; omega, by omega, by omega, ?_, fun t ht => h.nums t (List.mem_of_mem_drop ht)⟩
  rcases h.cells with h0 | ⟨g', off', he, hcl⟩
  · omega
  · simp only [Option.some.injEq, Addr.mk.injEq, and_true] at he
    obtain ⟨rfl, rfl⟩ := he
    refine .inr ⟨g, off + k, rfl, fun j hj => ?_⟩
    have hj2 : k + j < its.length := by rw [List.length_drop] at hj; omega
    have := hcl (k + j) hj2
    rw [← Nat.add_assoc] at this
    rw [this]; simp
theorem Lists.pos {w : World} {P : Option Addr} {N C : Nat} {its : List It} (_h : Lists w P N C its) (hp : ∀ t ∈ its, 0 < t.a) : 0 < prodI its := by
  clear _h
  induction its with
  | nil => simp [prodI]
  | cons t ts ih => exact Nat.mul_pos (hp t (by simp)) (ih (fun u hu => hp u (by simp [hu])))

end Go.Proofs.YtfofoookdlaipaaGreatDoor

namespace Go.Proofs.YtfofoookdlaipaaGreatDoor
open Go.RowKit

end Go.Proofs.YtfofoookdlaipaaGreatDoor

namespace Go.Proofs.YtfofoookdlaipaaGreatDoor
open Go.RowKit

end Go.Proofs.YtfofoookdlaipaaGreatDoor

namespace Go.Proofs.YtfofoookdlaipaaGreatDoor
open Go.RowKit

end Go.Proofs.YtfofoookdlaipaaGreatDoor

namespace Go.Proofs.YtfofoookdlaipaaGreatDoor
open Go.RowKit

end Go.Proofs.YtfofoookdlaipaaGreatDoor

namespace Go.Proofs.YtfofoookdlaipaaGreatDoor
open Go.RowKit Go.Shelf

end Go.Proofs.YtfofoookdlaipaaGreatDoor

namespace Go.Proofs.YtfofoookdlaipaaGreatDoor
open Go.RowKit Go.Shelf

theorem DO.mono {B B' : Nat} {w : World} {s : Bool} {p : Option Addr} {m : Nat} {e z : Int} (h : DO B w s p m e z) (hB : B' ≤ B) : DO B' w s p m e z := by
  obtain ⟨zs, h1, h2, h3⟩ := h.own
  exact ⟨⟨zs, h1.mono hB, h2, h3⟩, h.sg, h.fm⟩
theorem DO.zero (B : Nat) (w : World) : DO B w false none 0 0 0 := ⟨⟨[], Own.empty _ _ _, Nf.nil _, by decide⟩, rfl, .inl ⟨rfl, rfl⟩⟩
end Go.Proofs.YtfofoookdlaipaaGreatDoor

namespace Go.Proofs.YtfofoookdlaipaaGreatDoor
open Go.RowKit Go.Shelf

end Go.Proofs.YtfofoookdlaipaaGreatDoor

namespace Go.Proofs.YtfofoookdlaipaaGreatDoor
open Go.RowKit Go.Shelf

end Go.Proofs.YtfofoookdlaipaaGreatDoor

namespace Go.Proofs.YtfofoookdlaipaaGreatDoor
open Go.RowKit Go.Shelf

end Go.Proofs.YtfofoookdlaipaaGreatDoor

namespace Go.Proofs.YtfofoookdlaipaaGreatDoor
open Go.RowKit Go.Shelf

end Go.Proofs.YtfofoookdlaipaaGreatDoor

namespace Go.Proofs.YtfofoookdlaipaaGreatDoor
open Go.RowKit Go.Shelf

set_option maxRecDepth 20000 in
set_option maxHeartbeats 8000000 in
theorem cell_p1 {f p m l : Int} {S I H sd : Nat} {Be : Int} (J : Jn f p m l S I H sd Be) (b : Nat) (hb : b < 2 * S) (h0 : b % S ≠ 0) (h1 : b % S < I) (hs : ¬ S ≤ b) (hc : clsN H I (b % S) = 1) (w : World) (hT : Tab w) :
    Calls Tryz.prog 35 #[.int .i64 f, U b] w fun en w' => ∃ s1 p1 m1 z1 e1 s2 p2 m2 z2 e2, en = .returned (.tuple #[SV s1 p1 m1 m1 e1 s2 p2 m2 m2 e2, .bool (decide (b % 2 = 0)), .int .i64 0]) ∧ DO w.heap.size w' s1 p1 m1 e1 z1 ∧ DO w.heap.size w' s2 p2 m2 e2 z2 ∧ dv z1 e1 = cLo H l (decide (S ≤ b)) (b % S) ∧ dv z2 e2 = cHi H l (decide (S ≤ b)) (b % S) ∧ Below w.heap.size w w' := by
  have HJN : Hid (Jn f p m l S I H sd Be) := J
  have TB : Hid (Tab w) := hT
  have hlt := J.jm.pm.fm.lt
  have hb0 : b ≠ 0 := fun h => h0 (by rw [h]; exact Nat.zero_mod _)
  have hle := J.jm.pm.fm.le
  have hp := J.jm.pm.hp
  have h9 := J.jm.pm.h9
  have hlo := J.jm.pm.lo
  have hst := J.jm.pm.st _ h1
  have hst2 := J.jm.pm.st _ (show b % S - 1 < I by omega)
  obtain ⟨z, hz⟩ : ∃ z, z = b % S := ⟨_, rfl⟩
  have hb1 : (b - 1) % S = z - 1 := by
    have e1 := Nat.div_add_mod b S
    have : b - 1 = z - 1 + S * (b / S) := by omega
    rw [this, Nat.add_mul_mod_self_left, Nat.mod_eq_of_lt (by omega)]
  have hsg : decide (S ≤ b - 1) = decide (S ≤ b) := by
    refine decide_eq_decide.2 ⟨fun h => by omega, fun h => ?_⟩
    have : b ≠ S := fun h2 => by rw [h2, Nat.mod_self] at h0; exact h0 rfl
    omega
  rw [← hz] at h0 h1 hst hst2
  have hmod : ∀ y : Nat, y < I → 2 * (y - (y / H - 1) * H) + 1 < 18446744073709551616 := fun y hy => by
    have e1 := Nat.div_add_mod y H
    have e2 := Nat.mod_lt y hp
    rw [Nat.mul_comm] at e1
    by_cases e3 : y / H = 0
    · rw [e3] at e1 ⊢; omega
    · rw [Nat.sub_mul]; omega
  obtain ⟨sb, hsb⟩ : ∃ sb, sb = decide (S ≤ b) := ⟨_, rfl⟩
  obtain ⟨n1, hn1⟩ : ∃ n1, n1 = 2 * ((z - 1) - ((z - 1) / H - 1) * H) + 1 := ⟨_, rfl⟩
  obtain ⟨n2, hn2⟩ : ∃ n2, n2 = 2 * (z - (z / H - 1) * H) + 1 := ⟨_, rfl⟩
  obtain ⟨e1, he1⟩ : ∃ e1 : Int, e1 = l + (((z - 1) / H - 1 : Nat) : Int) - 1 := ⟨_, rfl⟩
  obtain ⟨e2, he2⟩ : ∃ e2 : Int, e2 = l + ((z / H - 1 : Nat) : Int) - 1 := ⟨_, rfl⟩
  have hod : ∀ (s : Bool) (y : Nat), iv s (2 * y + 1) % 2 = 1 := fun s y => by cases s <;> simp [iv] <;> omega
  have HF : Hid (DFm (iv sb n1) e1 ∧ DFm (iv sb n2) e2) := ⟨.inr ⟨by rw [hn1]; exact hod _ _, by omega, by omega⟩, .inr ⟨by rw [hn2]; exact hod _ _, by omega, by omega⟩⟩
  have HD : Hid (dv (n1 : Int) e1 = dv (hv H (z - 1) : Int) (l - 1) ∧ dv (n2 : Int) e2 = dv (hv H z : Int) (l - 1)) := ⟨by rw [hn1, he1]; exact mid_dv _ (by omega), by rw [hn2, he2]; exact mid_dv _ (by omega)⟩
  have HN : Hid (0 < n1 ∧ 0 < n2) := by rw [hn1, hn2]; exact ⟨by omega, by omega⟩
  have HB : Hid (b < 2 * S ∧ b - 1 < 2 * S ∧ b % S < I ∧ (b - 1) % S < I ∧ decide (S ≤ b - 1) = sb ∧ decide (S ≤ b) = sb) := ⟨hb, by omega, by omega, by omega, by rw [hsg, hsb], hsb.symm⟩
  have HM1 : Hid (n1 = 2 * ((b - 1) % S - ((b - 1) % S / H - 1) * H) + 1 ∧ e1 = l + (((b - 1) % S / H - 1 : Nat) : Int) - 1) := by rw [hb1]; exact ⟨hn1, he1⟩
  have HM2 : Hid (n2 = 2 * (b % S - (b % S / H - 1) * H) + 1 ∧ e2 = l + ((b % S / H - 1 : Nat) : Int) - 1) := by rw [← hz]; exact ⟨hn2, he2⟩
  have HC : Hid (clsN H I (b % S) = 1) := hc
  obtain ⟨b1, hb1'⟩ : ∃ b1, b1 = b - 1 := ⟨_, rfl⟩
  have k1 : IntKind.u64.wrap ((b : Int) - 1) = (b1 : Int) := by rw [IntKind.wrap_u64]; omega
  obtain ⟨pr, hpr⟩ : ∃ pr, pr = decide (b % 2 = 0) := ⟨_, rfl⟩
  have k2 : (((b : Int).tmod 2) == 0) = pr := by rw [Int.tmod_eq_emod_of_nonneg (by omega), hpr]; by_cases a : b % 2 = 0 <;> simp [a] <;> omega
  have k3 : (((b : Int) % 2) == 0) = pr := by rw [hpr]; by_cases a : b % 2 = 0 <;> simp [a] <;> omega
  rw [← hb1'] at HB HM1
  rw [← hpr, ← hsb]
  have hsv : sb = false := by rw [hsb]; exact decide_eq_false hs
  subst hsv
  rw [← hz]
  clear hs J hT hlt hle hp h9 hlo hst hst2 hb1 hsg hmod hn1 hn2 he1 he2 hod hc hsb hpr hb h0 h1 hb0 hb1'
  go_enter Tryz.func35, Tryz.ntmps35
  go_wp2_with fail
  obtain ⟨W0, hW0⟩ : ∃ W0, W0 = (w.alloc (.cells #[.bool false, .slice none 0 0, .int .i64 0, .bool false, .slice none 0 0, .int .i64 0] 66)) := ⟨_, rfl⟩
  have Xr : Hid (B6q W0 (w.heap.size) (.bool false) (.slice none 0 0) (.int .i64 0) (.bool false) (.slice none 0 0) (.int .i64 0)) := by rw [hW0]; exact ⟨by go_simp, by go_simp, by go_simp, by go_simp, by go_simp, by go_simp, by go_simp, by go_simp, by go_simp, by go_simp, by go_simp, by go_simp⟩
  have hb0 : Below w.heap.size w W0 := by rw [hW0]; exact below1 w _
  rw [← hW0]
  clear hW0
  have hbw : Below w.heap.size w w := Below.refl _ _
  obtain ⟨gr, hgr⟩ : ∃ g, g = w.heap.size := ⟨_, rfl⟩
  have HGr : Hid (w.heap.size ≤ gr) := by rw [hgr]; show _ ≤ _; omega
  rw [← hgr] at Xr
  try rw [← hgr]
  clear hgr
  replace hbw := Below.on hbw hb0
  clear hb0
  refine (HJN.out.cl b _ HB.out.1).mono ?_
  rintro e v1 ⟨rfl, hb1⟩
  rw [HC.out]
  replace Xr : Hid _ := Xr.out.below hb1
  replace hbw := Below.on hbw hb1
  clear hb1
  go_wp2_with fail
  have hmk := mid_ok HJN.out.jm.pm b1 n1 e1 HB.out.2.1 HB.out.2.2.2.1 HM1.out.1 HM1.out.2 _ (TB.out.below hbw)
  rw [HB.out.2.2.2.2.1] at hmk
  have HWB2 : Hid (w.heap.size ≤ v1.heap.size) := hbw.size
  have HL2 : Hid (gr < v1.heap.size) := Xr.out.lt
  refine (hmk).mono ?_
  rintro e2 v2 ⟨hv, hb2⟩
  obtain ⟨v, rfl, hv2⟩ := hv.form (HF.out.1) (rfl)
  clear hv
  obtain ⟨p2, m2, z2s, rfl, ho2, hn2, hm2⟩ := hv2
  replace Xr : Hid _ := Xr.out.below hb2
  replace hbw := Below.on hbw hb2
  clear hb2
  have O2 : Hid (Own v1.heap.size v2 p2 m2 z2s) := ho2
  have N2 : Hid (Nf B64 z2s (iv false n1).natAbs ∧ m2 ≤ 8192) := ⟨hn2, hm2⟩
  obtain ⟨s2, hs2⟩ : ∃ b, b = decide ((iv false n1) < 0) := ⟨_, rfl⟩
  rw [← hs2]
  have HS2 : Hid (s2 = decide ((iv false n1) < 0)) := hs2
  clear ho2 hn2 hm2 hs2
  clear hmk
  have HR2 : Hid (∀ g, p2 = some ⟨g, 0, none⟩ → 0 < m2 → g ≠ gr ∧ g < v2.heap.size) := fun g h1 h2 => by have a1 := O2.out.inn g h1 h2; have a2 := HL2.out; exact ⟨by omega, by omega⟩
  clear HL2
  go_wp2_with fail
  have HDr : Hid (gr ≠ v2.heap.size) := Nat.ne_of_lt Xr.out.lt
  have Xlo0 : Hid (B3q (v2.alloc (.cells #[.bool s2, .slice p2 m2 m2, .int .i64 (e1)] 34)) v2.heap.size (.bool s2) (.slice p2 m2 m2) (.int .i64 (e1))) := B3q.new v2 _ _ _ _
  have hbn : Below v2.heap.size v2 (v2.alloc (.cells #[.bool s2, .slice p2 m2 m2, .int .i64 (e1)] 34)) := below1 v2 _
  generalize v2.alloc (.cells #[.bool s2, .slice p2 m2 m2, .int .i64 (e1)] 34) = Wl at *
  have HGlo : Hid (w.heap.size ≤ v2.heap.size) := hbw.size
  replace Xr : Hid _ := Xr.out.below hbn
  replace O2 : Hid (Own v1.heap.size Wl p2 m2 z2s) := O2.out.below hbn
  replace hbw := Below.on hbw hbn
  clear hbn
  generalize v2.heap.size = glo at *
  have Xlo := Xlo0
  clear Xlo0
  have hmk := mid_ok HJN.out.jm.pm b n2 e2 HB.out.1 HB.out.2.2.1 HM2.out.1 HM2.out.2 _ (TB.out.below hbw)
  rw [HB.out.2.2.2.2.2] at hmk
  have HWB3 : Hid (w.heap.size ≤ Wl.heap.size) := hbw.size
  have HL3 : Hid (gr < Wl.heap.size ∧ glo < Wl.heap.size) := ⟨Xr.out.lt, Xlo.out.lt⟩
  refine (hmk).mono ?_
  rintro e2 v3 ⟨hv, hb3⟩
  obtain ⟨v, rfl, hv2⟩ := hv.form (HF.out.2) (rfl)
  clear hv
  obtain ⟨p3, m3, z3s, rfl, ho3, hn3, hm3⟩ := hv2
  replace Xr : Hid _ := Xr.out.below hb3
  replace Xlo : Hid _ := Xlo.out.below hb3
  replace O2 : Hid (Own v1.heap.size v3 p2 m2 z2s) := O2.out.below hb3
  replace hbw := Below.on hbw hb3
  clear hb3
  have O3 : Hid (Own Wl.heap.size v3 p3 m3 z3s) := ho3
  have N3 : Hid (Nf B64 z3s (iv false n2).natAbs ∧ m3 ≤ 8192) := ⟨hn3, hm3⟩
  obtain ⟨s3, hs3⟩ : ∃ b, b = decide ((iv false n2) < 0) := ⟨_, rfl⟩
  rw [← hs3]
  have HS3 : Hid (s3 = decide ((iv false n2) < 0)) := hs3
  clear ho3 hn3 hm3 hs3
  clear hmk
  have HR3 : Hid (∀ g, p3 = some ⟨g, 0, none⟩ → 0 < m3 → g ≠ gr ∧ g ≠ glo) := fun g h1 h2 => by have a1 := O3.out.inn g h1 h2; have a2 := HL3.out; exact ⟨by omega, by omega⟩
  clear HL3
  have hs2 : s2 = false := by rw [HS2.out]; have := HN.out; rw [iv_f]; exact decide_eq_false (by omega)
  subst hs2
  have hs3 : s3 = false := by rw [HS3.out]; have := HN.out; rw [iv_f]; exact decide_eq_false (by omega)
  subst hs3
  have hlo2 : Hid (B3q v3 glo (.bool false) (.slice p2 m2 m2) (.int .i64 (e1))) := Xlo
  clear hlo2
  have qd1 := HDr.out
  have qd2 : glo ≠ gr := fun h => qd1 h.symm
  obtain ⟨clo0, clo1, clo2, flo0, flo1, flo2⟩ := Xlo.out
  have hnelo : glo < v3.heap.size := World.block_lt_of_cell? v3 _ clo0
  obtain ⟨cr0, cr1, cr2, cr3, cr4, cr5, fr0, fr1, fr2, fr3, fr4, fr5⟩ := Xr.out
  have hner : gr < v3.heap.size := World.block_lt_of_cell? v3 _ cr0
  go_wp2_with fail
  refine bodyPost_ret (v := .tuple #[SV false p2 m2 m2 e1 false p3 m3 m3 e2, .bool pr, .int .i64 0]) (by rw [results_ctt rfl]; go_simp) rfl ⟨false, p2, m2, iv false n1, e1, false, p3, m3, iv false n2, e2, rfl, ?_, ?_, ?_, ?_, ?_⟩
  · exact ⟨⟨z2s, (((((((O2.out.setNot _ _ _ (fun g h1 h2 => (HR2.out g h1 h2).1)).setNot _ _ _ (fun g h1 h2 => (HR2.out g h1 h2).1)).setNot _ _ _ (fun g h1 h2 => (HR2.out g h1 h2).1)).setNot _ _ _ (fun g h1 h2 => (HR2.out g h1 h2).1)).setNot _ _ _ (fun g h1 h2 => (HR2.out g h1 h2).1)).setNot _ _ _ (fun g h1 h2 => (HR2.out g h1 h2).1)).below (below1 _ _)).mono HWB2.out, N2.out.1, N2.out.2⟩, HS2.out, HF.out.1⟩
  · exact ⟨⟨z3s, (((((((O3.out.setNot _ _ _ (fun g h1 h2 => (HR3.out g h1 h2).1)).setNot _ _ _ (fun g h1 h2 => (HR3.out g h1 h2).1)).setNot _ _ _ (fun g h1 h2 => (HR3.out g h1 h2).1)).setNot _ _ _ (fun g h1 h2 => (HR3.out g h1 h2).1)).setNot _ _ _ (fun g h1 h2 => (HR3.out g h1 h2).1)).setNot _ _ _ (fun g h1 h2 => (HR3.out g h1 h2).1)).below (below1 _ _)).mono HWB3.out, N3.out.1, N3.out.2⟩, HS3.out, HF.out.2⟩
  · have := HD.out; unfold cLo; rw [dv_iv]; rw [if_neg (by simp), if_neg (by simp)]; exact this.1
  · have := HD.out; unfold cHi; rw [dv_iv]; rw [if_neg (by simp), if_neg (by simp)]; exact this.2
  · exact Below.on (bSet (bSet (bSet (bSet (bSet (bSet hbw _ _ _ HGr.out) _ _ _ HGr.out) _ _ _ HGr.out) _ _ _ HGr.out) _ _ _ HGr.out) _ _ _ HGr.out) (below1 _ _)
set_option maxRecDepth 20000 in
set_option maxHeartbeats 8000000 in
theorem cell_p2 {f p m l : Int} {S I H sd : Nat} {Be : Int} (J : Jn f p m l S I H sd Be) (b : Nat) (hb : b < 2 * S) (h0 : b % S ≠ 0) (h1 : b % S < I) (hs : ¬ S ≤ b) (hc : clsN H I (b % S) = 2) (w : World) (hT : Tab w) :
    Calls Tryz.prog 35 #[.int .i64 f, U b] w fun en w' => ∃ s1 p1 m1 z1 e1 s2 p2 m2 z2 e2, en = .returned (.tuple #[SV s1 p1 m1 m1 e1 s2 p2 m2 m2 e2, .bool (decide (b % 2 = 0)), .int .i64 0]) ∧ DO w.heap.size w' s1 p1 m1 e1 z1 ∧ DO w.heap.size w' s2 p2 m2 e2 z2 ∧ dv z1 e1 = cLo H l (decide (S ≤ b)) (b % S) ∧ dv z2 e2 = cHi H l (decide (S ≤ b)) (b % S) ∧ Below w.heap.size w w' := by
  have HJN : Hid (Jn f p m l S I H sd Be) := J
  have TB : Hid (Tab w) := hT
  have hlt := J.jm.pm.fm.lt
  have hb0 : b ≠ 0 := fun h => h0 (by rw [h]; exact Nat.zero_mod _)
  have hle := J.jm.pm.fm.le
  have hp := J.jm.pm.hp
  have h9 := J.jm.pm.h9
  have hlo := J.jm.pm.lo
  have hst := J.jm.pm.st _ h1
  have hst2 := J.jm.pm.st _ (show b % S - 1 < I by omega)
  obtain ⟨z, hz⟩ : ∃ z, z = b % S := ⟨_, rfl⟩
  have hb1 : (b - 1) % S = z - 1 := by
    have e1 := Nat.div_add_mod b S
    have : b - 1 = z - 1 + S * (b / S) := by omega
    rw [this, Nat.add_mul_mod_self_left, Nat.mod_eq_of_lt (by omega)]
  have hsg : decide (S ≤ b - 1) = decide (S ≤ b) := by
    refine decide_eq_decide.2 ⟨fun h => by omega, fun h => ?_⟩
    have : b ≠ S := fun h2 => by rw [h2, Nat.mod_self] at h0; exact h0 rfl
    omega
  rw [← hz] at h0 h1 hst hst2
  have hmod : ∀ y : Nat, y < I → 2 * (y - (y / H - 1) * H) + 1 < 18446744073709551616 := fun y hy => by
    have e1 := Nat.div_add_mod y H
    have e2 := Nat.mod_lt y hp
    rw [Nat.mul_comm] at e1
    by_cases e3 : y / H = 0
    · rw [e3] at e1 ⊢; omega
    · rw [Nat.sub_mul]; omega
  obtain ⟨sb, hsb⟩ : ∃ sb, sb = decide (S ≤ b) := ⟨_, rfl⟩
  obtain ⟨n1, hn1⟩ : ∃ n1, n1 = 2 * ((z - 1) - ((z - 1) / H - 1) * H) + 1 := ⟨_, rfl⟩
  obtain ⟨n2, hn2⟩ : ∃ n2, n2 = 2 * (z - (z / H - 1) * H) + 1 := ⟨_, rfl⟩
  obtain ⟨e1, he1⟩ : ∃ e1 : Int, e1 = l + (((z - 1) / H - 1 : Nat) : Int) - 1 := ⟨_, rfl⟩
  obtain ⟨e2, he2⟩ : ∃ e2 : Int, e2 = l + ((z / H - 1 : Nat) : Int) - 1 := ⟨_, rfl⟩
  have hod : ∀ (s : Bool) (y : Nat), iv s (2 * y + 1) % 2 = 1 := fun s y => by cases s <;> simp [iv] <;> omega
  have HF : Hid (DFm (iv sb n1) e1 ∧ DFm (iv sb n2) e2) := ⟨.inr ⟨by rw [hn1]; exact hod _ _, by omega, by omega⟩, .inr ⟨by rw [hn2]; exact hod _ _, by omega, by omega⟩⟩
  have HD : Hid (dv (n1 : Int) e1 = dv (hv H (z - 1) : Int) (l - 1) ∧ dv (n2 : Int) e2 = dv (hv H z : Int) (l - 1)) := ⟨by rw [hn1, he1]; exact mid_dv _ (by omega), by rw [hn2, he2]; exact mid_dv _ (by omega)⟩
  have HN : Hid (0 < n1 ∧ 0 < n2) := by rw [hn1, hn2]; exact ⟨by omega, by omega⟩
  have HB : Hid (b < 2 * S ∧ b - 1 < 2 * S ∧ b % S < I ∧ (b - 1) % S < I ∧ decide (S ≤ b - 1) = sb ∧ decide (S ≤ b) = sb) := ⟨hb, by omega, by omega, by omega, by rw [hsg, hsb], hsb.symm⟩
  have HM1 : Hid (n1 = 2 * ((b - 1) % S - ((b - 1) % S / H - 1) * H) + 1 ∧ e1 = l + (((b - 1) % S / H - 1 : Nat) : Int) - 1) := by rw [hb1]; exact ⟨hn1, he1⟩
  have HM2 : Hid (n2 = 2 * (b % S - (b % S / H - 1) * H) + 1 ∧ e2 = l + ((b % S / H - 1 : Nat) : Int) - 1) := by rw [← hz]; exact ⟨hn2, he2⟩
  have HC : Hid (clsN H I (b % S) = 2) := hc
  obtain ⟨b1, hb1'⟩ : ∃ b1, b1 = b - 1 := ⟨_, rfl⟩
  have k1 : IntKind.u64.wrap ((b : Int) - 1) = (b1 : Int) := by rw [IntKind.wrap_u64]; omega
  obtain ⟨pr, hpr⟩ : ∃ pr, pr = decide (b % 2 = 0) := ⟨_, rfl⟩
  have k2 : (((b : Int).tmod 2) == 0) = pr := by rw [Int.tmod_eq_emod_of_nonneg (by omega), hpr]; by_cases a : b % 2 = 0 <;> simp [a] <;> omega
  have k3 : (((b : Int) % 2) == 0) = pr := by rw [hpr]; by_cases a : b % 2 = 0 <;> simp [a] <;> omega
  rw [← hb1'] at HB HM1
  rw [← hpr, ← hsb]
  have hsv : sb = false := by rw [hsb]; exact decide_eq_false hs
  subst hsv
  rw [← hz]
  clear hs J hT hlt hle hp h9 hlo hst hst2 hb1 hsg hmod hn1 hn2 he1 he2 hod hc hsb hpr hb h0 h1 hb0 hb1'
  go_enter Tryz.func35, Tryz.ntmps35
  go_wp2_with fail
  obtain ⟨W0, hW0⟩ : ∃ W0, W0 = (w.alloc (.cells #[.bool false, .slice none 0 0, .int .i64 0, .bool false, .slice none 0 0, .int .i64 0] 66)) := ⟨_, rfl⟩
  have Xr : Hid (B6q W0 (w.heap.size) (.bool false) (.slice none 0 0) (.int .i64 0) (.bool false) (.slice none 0 0) (.int .i64 0)) := by rw [hW0]; exact ⟨by go_simp, by go_simp, by go_simp, by go_simp, by go_simp, by go_simp, by go_simp, by go_simp, by go_simp, by go_simp, by go_simp, by go_simp⟩
  have hb0 : Below w.heap.size w W0 := by rw [hW0]; exact below1 w _
  rw [← hW0]
  clear hW0
  have hbw : Below w.heap.size w w := Below.refl _ _
  obtain ⟨gr, hgr⟩ : ∃ g, g = w.heap.size := ⟨_, rfl⟩
  have HGr : Hid (w.heap.size ≤ gr) := by rw [hgr]; show _ ≤ _; omega
  rw [← hgr] at Xr
  try rw [← hgr]
  clear hgr
  replace hbw := Below.on hbw hb0
  clear hb0
  refine (HJN.out.cl b _ HB.out.1).mono ?_
  rintro e v1 ⟨rfl, hb1⟩
  rw [HC.out]
  replace Xr : Hid _ := Xr.out.below hb1
  replace hbw := Below.on hbw hb1
  clear hb1
  go_wp2_with fail
  have hmk := mid_ok HJN.out.jm.pm b1 n1 e1 HB.out.2.1 HB.out.2.2.2.1 HM1.out.1 HM1.out.2 _ (TB.out.below hbw)
  rw [HB.out.2.2.2.2.1] at hmk
  have HWB2 : Hid (w.heap.size ≤ v1.heap.size) := hbw.size
  have HL2 : Hid (gr < v1.heap.size) := Xr.out.lt
  refine (hmk).mono ?_
  rintro e2 v2 ⟨hv, hb2⟩
  obtain ⟨v, rfl, hv2⟩ := hv.form (HF.out.1) (rfl)
  clear hv
  obtain ⟨p2, m2, z2s, rfl, ho2, hn2, hm2⟩ := hv2
  replace Xr : Hid _ := Xr.out.below hb2
  replace hbw := Below.on hbw hb2
  clear hb2
  have O2 : Hid (Own v1.heap.size v2 p2 m2 z2s) := ho2
  have N2 : Hid (Nf B64 z2s (iv false n1).natAbs ∧ m2 ≤ 8192) := ⟨hn2, hm2⟩
  obtain ⟨s2, hs2⟩ : ∃ b, b = decide ((iv false n1) < 0) := ⟨_, rfl⟩
  rw [← hs2]
  have HS2 : Hid (s2 = decide ((iv false n1) < 0)) := hs2
  clear ho2 hn2 hm2 hs2
  clear hmk
  have HR2 : Hid (∀ g, p2 = some ⟨g, 0, none⟩ → 0 < m2 → g ≠ gr ∧ g < v2.heap.size) := fun g h1 h2 => by have a1 := O2.out.inn g h1 h2; have a2 := HL2.out; exact ⟨by omega, by omega⟩
  clear HL2
  go_wp2_with fail
  have HDr : Hid (gr ≠ v2.heap.size) := Nat.ne_of_lt Xr.out.lt
  have Xlo0 : Hid (B3q (v2.alloc (.cells #[.bool s2, .slice p2 m2 m2, .int .i64 (e1)] 34)) v2.heap.size (.bool s2) (.slice p2 m2 m2) (.int .i64 (e1))) := B3q.new v2 _ _ _ _
  have hbn : Below v2.heap.size v2 (v2.alloc (.cells #[.bool s2, .slice p2 m2 m2, .int .i64 (e1)] 34)) := below1 v2 _
  generalize v2.alloc (.cells #[.bool s2, .slice p2 m2 m2, .int .i64 (e1)] 34) = Wl at *
  have HGlo : Hid (w.heap.size ≤ v2.heap.size) := hbw.size
  replace Xr : Hid _ := Xr.out.below hbn
  replace O2 : Hid (Own v1.heap.size Wl p2 m2 z2s) := O2.out.below hbn
  replace hbw := Below.on hbw hbn
  clear hbn
  generalize v2.heap.size = glo at *
  have Xlo := Xlo0
  clear Xlo0
  have hmk := mid_ok HJN.out.jm.pm b n2 e2 HB.out.1 HB.out.2.2.1 HM2.out.1 HM2.out.2 _ (TB.out.below hbw)
  rw [HB.out.2.2.2.2.2] at hmk
  have HWB3 : Hid (w.heap.size ≤ Wl.heap.size) := hbw.size
  have HL3 : Hid (gr < Wl.heap.size ∧ glo < Wl.heap.size) := ⟨Xr.out.lt, Xlo.out.lt⟩
  refine (hmk).mono ?_
  rintro e2 v3 ⟨hv, hb3⟩
  obtain ⟨v, rfl, hv2⟩ := hv.form (HF.out.2) (rfl)
  clear hv
  obtain ⟨p3, m3, z3s, rfl, ho3, hn3, hm3⟩ := hv2
  replace Xr : Hid _ := Xr.out.below hb3
  replace Xlo : Hid _ := Xlo.out.below hb3
  replace O2 : Hid (Own v1.heap.size v3 p2 m2 z2s) := O2.out.below hb3
  replace hbw := Below.on hbw hb3
  clear hb3
  have O3 : Hid (Own Wl.heap.size v3 p3 m3 z3s) := ho3
  have N3 : Hid (Nf B64 z3s (iv false n2).natAbs ∧ m3 ≤ 8192) := ⟨hn3, hm3⟩
  obtain ⟨s3, hs3⟩ : ∃ b, b = decide ((iv false n2) < 0) := ⟨_, rfl⟩
  rw [← hs3]
  have HS3 : Hid (s3 = decide ((iv false n2) < 0)) := hs3
  clear ho3 hn3 hm3 hs3
  clear hmk
  have HR3 : Hid (∀ g, p3 = some ⟨g, 0, none⟩ → 0 < m3 → g ≠ gr ∧ g ≠ glo) := fun g h1 h2 => by have a1 := O3.out.inn g h1 h2; have a2 := HL3.out; exact ⟨by omega, by omega⟩
  clear HL3
  have hs2 : s2 = false := by rw [HS2.out]; have := HN.out; rw [iv_f]; exact decide_eq_false (by omega)
  subst hs2
  have hs3 : s3 = false := by rw [HS3.out]; have := HN.out; rw [iv_f]; exact decide_eq_false (by omega)
  subst hs3
  have hlo2 : Hid (B3q v3 glo (.bool false) (.slice p2 m2 m2) (.int .i64 (e1))) := Xlo
  clear hlo2
  have qd1 := HDr.out
  have qd2 : glo ≠ gr := fun h => qd1 h.symm
  obtain ⟨clo0, clo1, clo2, flo0, flo1, flo2⟩ := Xlo.out
  have hnelo : glo < v3.heap.size := World.block_lt_of_cell? v3 _ clo0
  obtain ⟨cr0, cr1, cr2, cr3, cr4, cr5, fr0, fr1, fr2, fr3, fr4, fr5⟩ := Xr.out
  have hner : gr < v3.heap.size := World.block_lt_of_cell? v3 _ cr0
  go_wp2_with fail
  refine bodyPost_ret (v := .tuple #[SV false p2 m2 m2 e1 false p3 m3 m3 e2, .bool pr, .int .i64 0]) (by rw [results_ctt rfl]; go_simp) rfl ⟨false, p2, m2, iv false n1, e1, false, p3, m3, iv false n2, e2, rfl, ?_, ?_, ?_, ?_, ?_⟩
  · exact ⟨⟨z2s, (((((((O2.out.setNot _ _ _ (fun g h1 h2 => (HR2.out g h1 h2).1)).setNot _ _ _ (fun g h1 h2 => (HR2.out g h1 h2).1)).setNot _ _ _ (fun g h1 h2 => (HR2.out g h1 h2).1)).setNot _ _ _ (fun g h1 h2 => (HR2.out g h1 h2).1)).setNot _ _ _ (fun g h1 h2 => (HR2.out g h1 h2).1)).setNot _ _ _ (fun g h1 h2 => (HR2.out g h1 h2).1)).below (below1 _ _)).mono HWB2.out, N2.out.1, N2.out.2⟩, HS2.out, HF.out.1⟩
  · exact ⟨⟨z3s, (((((((O3.out.setNot _ _ _ (fun g h1 h2 => (HR3.out g h1 h2).1)).setNot _ _ _ (fun g h1 h2 => (HR3.out g h1 h2).1)).setNot _ _ _ (fun g h1 h2 => (HR3.out g h1 h2).1)).setNot _ _ _ (fun g h1 h2 => (HR3.out g h1 h2).1)).setNot _ _ _ (fun g h1 h2 => (HR3.out g h1 h2).1)).setNot _ _ _ (fun g h1 h2 => (HR3.out g h1 h2).1)).below (below1 _ _)).mono HWB3.out, N3.out.1, N3.out.2⟩, HS3.out, HF.out.2⟩
  · have := HD.out; unfold cLo; rw [dv_iv]; rw [if_neg (by simp), if_neg (by simp)]; exact this.1
  · have := HD.out; unfold cHi; rw [dv_iv]; rw [if_neg (by simp), if_neg (by simp)]; exact this.2
  · exact Below.on (bSet (bSet (bSet (bSet (bSet (bSet hbw _ _ _ HGr.out) _ _ _ HGr.out) _ _ _ HGr.out) _ _ _ HGr.out) _ _ _ HGr.out) _ _ _ HGr.out) (below1 _ _)
set_option maxRecDepth 20000 in
set_option maxHeartbeats 8000000 in
theorem cell_n1 {f p m l : Int} {S I H sd : Nat} {Be : Int} (J : Jn f p m l S I H sd Be) (b : Nat) (hb : b < 2 * S) (h0 : b % S ≠ 0) (h1 : b % S < I) (hs : S ≤ b) (hc : clsN H I (b % S) = 1) (w : World) (hT : Tab w) :
    Calls Tryz.prog 35 #[.int .i64 f, U b] w fun en w' => ∃ s1 p1 m1 z1 e1 s2 p2 m2 z2 e2, en = .returned (.tuple #[SV s1 p1 m1 m1 e1 s2 p2 m2 m2 e2, .bool (decide (b % 2 = 0)), .int .i64 0]) ∧ DO w.heap.size w' s1 p1 m1 e1 z1 ∧ DO w.heap.size w' s2 p2 m2 e2 z2 ∧ dv z1 e1 = cLo H l (decide (S ≤ b)) (b % S) ∧ dv z2 e2 = cHi H l (decide (S ≤ b)) (b % S) ∧ Below w.heap.size w w' := by
  have HJN : Hid (Jn f p m l S I H sd Be) := J
  have TB : Hid (Tab w) := hT
  have hlt := J.jm.pm.fm.lt
  have hb0 : b ≠ 0 := fun h => h0 (by rw [h]; exact Nat.zero_mod _)
  have hle := J.jm.pm.fm.le
  have hp := J.jm.pm.hp
  have h9 := J.jm.pm.h9
  have hlo := J.jm.pm.lo
  have hst := J.jm.pm.st _ h1
  have hst2 := J.jm.pm.st _ (show b % S - 1 < I by omega)
  obtain ⟨z, hz⟩ : ∃ z, z = b % S := ⟨_, rfl⟩
  have hb1 : (b - 1) % S = z - 1 := by
    have e1 := Nat.div_add_mod b S
    have : b - 1 = z - 1 + S * (b / S) := by omega
    rw [this, Nat.add_mul_mod_self_left, Nat.mod_eq_of_lt (by omega)]
  have hsg : decide (S ≤ b - 1) = decide (S ≤ b) := by
    refine decide_eq_decide.2 ⟨fun h => by omega, fun h => ?_⟩
    have : b ≠ S := fun h2 => by rw [h2, Nat.mod_self] at h0; exact h0 rfl
    omega
  rw [← hz] at h0 h1 hst hst2
  have hmod : ∀ y : Nat, y < I → 2 * (y - (y / H - 1) * H) + 1 < 18446744073709551616 := fun y hy => by
    have e1 := Nat.div_add_mod y H
    have e2 := Nat.mod_lt y hp
    rw [Nat.mul_comm] at e1
    by_cases e3 : y / H = 0
    · rw [e3] at e1 ⊢; omega
    · rw [Nat.sub_mul]; omega
  obtain ⟨sb, hsb⟩ : ∃ sb, sb = decide (S ≤ b) := ⟨_, rfl⟩
  obtain ⟨n1, hn1⟩ : ∃ n1, n1 = 2 * ((z - 1) - ((z - 1) / H - 1) * H) + 1 := ⟨_, rfl⟩
  obtain ⟨n2, hn2⟩ : ∃ n2, n2 = 2 * (z - (z / H - 1) * H) + 1 := ⟨_, rfl⟩
  obtain ⟨e1, he1⟩ : ∃ e1 : Int, e1 = l + (((z - 1) / H - 1 : Nat) : Int) - 1 := ⟨_, rfl⟩
  obtain ⟨e2, he2⟩ : ∃ e2 : Int, e2 = l + ((z / H - 1 : Nat) : Int) - 1 := ⟨_, rfl⟩
  have hod : ∀ (s : Bool) (y : Nat), iv s (2 * y + 1) % 2 = 1 := fun s y => by cases s <;> simp [iv] <;> omega
  have HF : Hid (DFm (iv sb n1) e1 ∧ DFm (iv sb n2) e2) := ⟨.inr ⟨by rw [hn1]; exact hod _ _, by omega, by omega⟩, .inr ⟨by rw [hn2]; exact hod _ _, by omega, by omega⟩⟩
  have HD : Hid (dv (n1 : Int) e1 = dv (hv H (z - 1) : Int) (l - 1) ∧ dv (n2 : Int) e2 = dv (hv H z : Int) (l - 1)) := ⟨by rw [hn1, he1]; exact mid_dv _ (by omega), by rw [hn2, he2]; exact mid_dv _ (by omega)⟩
  have HN : Hid (0 < n1 ∧ 0 < n2) := by rw [hn1, hn2]; exact ⟨by omega, by omega⟩
  have HB : Hid (b < 2 * S ∧ b - 1 < 2 * S ∧ b % S < I ∧ (b - 1) % S < I ∧ decide (S ≤ b - 1) = sb ∧ decide (S ≤ b) = sb) := ⟨hb, by omega, by omega, by omega, by rw [hsg, hsb], hsb.symm⟩
  have HM1 : Hid (n1 = 2 * ((b - 1) % S - ((b - 1) % S / H - 1) * H) + 1 ∧ e1 = l + (((b - 1) % S / H - 1 : Nat) : Int) - 1) := by rw [hb1]; exact ⟨hn1, he1⟩
  have HM2 : Hid (n2 = 2 * (b % S - (b % S / H - 1) * H) + 1 ∧ e2 = l + ((b % S / H - 1 : Nat) : Int) - 1) := by rw [← hz]; exact ⟨hn2, he2⟩
  have HC : Hid (clsN H I (b % S) = 1) := hc
  obtain ⟨b1, hb1'⟩ : ∃ b1, b1 = b - 1 := ⟨_, rfl⟩
  have k1 : IntKind.u64.wrap ((b : Int) - 1) = (b1 : Int) := by rw [IntKind.wrap_u64]; omega
  obtain ⟨pr, hpr⟩ : ∃ pr, pr = decide (b % 2 = 0) := ⟨_, rfl⟩
  have k2 : (((b : Int).tmod 2) == 0) = pr := by rw [Int.tmod_eq_emod_of_nonneg (by omega), hpr]; by_cases a : b % 2 = 0 <;> simp [a] <;> omega
  have k3 : (((b : Int) % 2) == 0) = pr := by rw [hpr]; by_cases a : b % 2 = 0 <;> simp [a] <;> omega
  rw [← hb1'] at HB HM1
  rw [← hpr, ← hsb]
  have hsv : sb = true := by rw [hsb]; exact decide_eq_true hs
  subst hsv
  rw [← hz]
  clear hs J hT hlt hle hp h9 hlo hst hst2 hb1 hsg hmod hn1 hn2 he1 he2 hod hc hsb hpr hb h0 h1 hb0 hb1'
  go_enter Tryz.func35, Tryz.ntmps35
  go_wp2_with fail
  obtain ⟨W0, hW0⟩ : ∃ W0, W0 = (w.alloc (.cells #[.bool false, .slice none 0 0, .int .i64 0, .bool false, .slice none 0 0, .int .i64 0] 66)) := ⟨_, rfl⟩
  have Xr : Hid (B6q W0 (w.heap.size) (.bool false) (.slice none 0 0) (.int .i64 0) (.bool false) (.slice none 0 0) (.int .i64 0)) := by rw [hW0]; exact ⟨by go_simp, by go_simp, by go_simp, by go_simp, by go_simp, by go_simp, by go_simp, by go_simp, by go_simp, by go_simp, by go_simp, by go_simp⟩
  have hb0 : Below w.heap.size w W0 := by rw [hW0]; exact below1 w _
  rw [← hW0]
  clear hW0
  have hbw : Below w.heap.size w w := Below.refl _ _
  obtain ⟨gr, hgr⟩ : ∃ g, g = w.heap.size := ⟨_, rfl⟩
  have HGr : Hid (w.heap.size ≤ gr) := by rw [hgr]; show _ ≤ _; omega
  rw [← hgr] at Xr
  try rw [← hgr]
  clear hgr
  replace hbw := Below.on hbw hb0
  clear hb0
  refine (HJN.out.cl b _ HB.out.1).mono ?_
  rintro e v1 ⟨rfl, hb1⟩
  rw [HC.out]
  replace Xr : Hid _ := Xr.out.below hb1
  replace hbw := Below.on hbw hb1
  clear hb1
  go_wp2_with fail
  have hmk := mid_ok HJN.out.jm.pm b1 n1 e1 HB.out.2.1 HB.out.2.2.2.1 HM1.out.1 HM1.out.2 _ (TB.out.below hbw)
  rw [HB.out.2.2.2.2.1] at hmk
  have HWB2 : Hid (w.heap.size ≤ v1.heap.size) := hbw.size
  have HL2 : Hid (gr < v1.heap.size) := Xr.out.lt
  refine (hmk).mono ?_
  rintro e2 v2 ⟨hv, hb2⟩
  obtain ⟨v, rfl, hv2⟩ := hv.form (HF.out.1) (rfl)
  clear hv
  obtain ⟨p2, m2, z2s, rfl, ho2, hn2, hm2⟩ := hv2
  replace Xr : Hid _ := Xr.out.below hb2
  replace hbw := Below.on hbw hb2
  clear hb2
  have O2 : Hid (Own v1.heap.size v2 p2 m2 z2s) := ho2
  have N2 : Hid (Nf B64 z2s (iv true n1).natAbs ∧ m2 ≤ 8192) := ⟨hn2, hm2⟩
  obtain ⟨s2, hs2⟩ : ∃ b, b = decide ((iv true n1) < 0) := ⟨_, rfl⟩
  rw [← hs2]
  have HS2 : Hid (s2 = decide ((iv true n1) < 0)) := hs2
  clear ho2 hn2 hm2 hs2
  clear hmk
  have HR2 : Hid (∀ g, p2 = some ⟨g, 0, none⟩ → 0 < m2 → g ≠ gr ∧ g < v2.heap.size) := fun g h1 h2 => by have a1 := O2.out.inn g h1 h2; have a2 := HL2.out; exact ⟨by omega, by omega⟩
  clear HL2
  go_wp2_with fail
  have HDr : Hid (gr ≠ v2.heap.size) := Nat.ne_of_lt Xr.out.lt
  have Xlo0 : Hid (B3q (v2.alloc (.cells #[.bool s2, .slice p2 m2 m2, .int .i64 (e1)] 34)) v2.heap.size (.bool s2) (.slice p2 m2 m2) (.int .i64 (e1))) := B3q.new v2 _ _ _ _
  have hbn : Below v2.heap.size v2 (v2.alloc (.cells #[.bool s2, .slice p2 m2 m2, .int .i64 (e1)] 34)) := below1 v2 _
  generalize v2.alloc (.cells #[.bool s2, .slice p2 m2 m2, .int .i64 (e1)] 34) = Wl at *
  have HGlo : Hid (w.heap.size ≤ v2.heap.size) := hbw.size
  replace Xr : Hid _ := Xr.out.below hbn
  replace O2 : Hid (Own v1.heap.size Wl p2 m2 z2s) := O2.out.below hbn
  replace hbw := Below.on hbw hbn
  clear hbn
  generalize v2.heap.size = glo at *
  have Xlo := Xlo0
  clear Xlo0
  have hmk := mid_ok HJN.out.jm.pm b n2 e2 HB.out.1 HB.out.2.2.1 HM2.out.1 HM2.out.2 _ (TB.out.below hbw)
  rw [HB.out.2.2.2.2.2] at hmk
  have HWB3 : Hid (w.heap.size ≤ Wl.heap.size) := hbw.size
  have HL3 : Hid (gr < Wl.heap.size ∧ glo < Wl.heap.size) := ⟨Xr.out.lt, Xlo.out.lt⟩
  refine (hmk).mono ?_
  rintro e2 v3 ⟨hv, hb3⟩
  obtain ⟨v, rfl, hv2⟩ := hv.form (HF.out.2) (rfl)
  clear hv
  obtain ⟨p3, m3, z3s, rfl, ho3, hn3, hm3⟩ := hv2
  replace Xr : Hid _ := Xr.out.below hb3
  replace Xlo : Hid _ := Xlo.out.below hb3
  replace O2 : Hid (Own v1.heap.size v3 p2 m2 z2s) := O2.out.below hb3
  replace hbw := Below.on hbw hb3
  clear hb3
  have O3 : Hid (Own Wl.heap.size v3 p3 m3 z3s) := ho3
  have N3 : Hid (Nf B64 z3s (iv true n2).natAbs ∧ m3 ≤ 8192) := ⟨hn3, hm3⟩
  obtain ⟨s3, hs3⟩ : ∃ b, b = decide ((iv true n2) < 0) := ⟨_, rfl⟩
  rw [← hs3]
  have HS3 : Hid (s3 = decide ((iv true n2) < 0)) := hs3
  clear ho3 hn3 hm3 hs3
  clear hmk
  have HR3 : Hid (∀ g, p3 = some ⟨g, 0, none⟩ → 0 < m3 → g ≠ gr ∧ g ≠ glo) := fun g h1 h2 => by have a1 := O3.out.inn g h1 h2; have a2 := HL3.out; exact ⟨by omega, by omega⟩
  clear HL3
  have hs2 : s2 = true := by rw [HS2.out]; have := HN.out; rw [iv_t]; exact decide_eq_true (by omega)
  subst hs2
  have hs3 : s3 = true := by rw [HS3.out]; have := HN.out; rw [iv_t]; exact decide_eq_true (by omega)
  subst hs3
  have hlo2 : Hid (B3q v3 glo (.bool true) (.slice p2 m2 m2) (.int .i64 (e1))) := Xlo
  clear hlo2
  have qd1 := HDr.out
  have qd2 : glo ≠ gr := fun h => qd1 h.symm
  obtain ⟨clo0, clo1, clo2, flo0, flo1, flo2⟩ := Xlo.out
  have hnelo : glo < v3.heap.size := World.block_lt_of_cell? v3 _ clo0
  obtain ⟨cr0, cr1, cr2, cr3, cr4, cr5, fr0, fr1, fr2, fr3, fr4, fr5⟩ := Xr.out
  have hner : gr < v3.heap.size := World.block_lt_of_cell? v3 _ cr0
  go_wp2_with fail
  refine bodyPost_ret (v := .tuple #[SV true p3 m3 m3 e2 true p2 m2 m2 e1, .bool pr, .int .i64 0]) (by rw [results_ctt rfl]; go_simp) rfl ⟨true, p3, m3, iv true n2, e2, true, p2, m2, iv true n1, e1, rfl, ?_, ?_, ?_, ?_, ?_⟩
  · exact ⟨⟨z3s, ((((((((((O3.out.setNot _ _ _ (fun g h1 h2 => (HR3.out g h1 h2).2)).setNot _ _ _ (fun g h1 h2 => (HR3.out g h1 h2).2)).setNot _ _ _ (fun g h1 h2 => (HR3.out g h1 h2).2)).setNot _ _ _ (fun g h1 h2 => (HR3.out g h1 h2).1)).setNot _ _ _ (fun g h1 h2 => (HR3.out g h1 h2).1)).setNot _ _ _ (fun g h1 h2 => (HR3.out g h1 h2).1)).setNot _ _ _ (fun g h1 h2 => (HR3.out g h1 h2).1)).setNot _ _ _ (fun g h1 h2 => (HR3.out g h1 h2).1)).setNot _ _ _ (fun g h1 h2 => (HR3.out g h1 h2).1)).below (below1 _ _)).mono HWB3.out, N3.out.1, N3.out.2⟩, HS3.out, HF.out.2⟩
  · exact ⟨⟨z2s, ((((((((((O2.out.setNot _ _ _ (fun g h1 h2 => Nat.ne_of_lt (HR2.out g h1 h2).2)).setNot _ _ _ (fun g h1 h2 => Nat.ne_of_lt (HR2.out g h1 h2).2)).setNot _ _ _ (fun g h1 h2 => Nat.ne_of_lt (HR2.out g h1 h2).2)).setNot _ _ _ (fun g h1 h2 => (HR2.out g h1 h2).1)).setNot _ _ _ (fun g h1 h2 => (HR2.out g h1 h2).1)).setNot _ _ _ (fun g h1 h2 => (HR2.out g h1 h2).1)).setNot _ _ _ (fun g h1 h2 => (HR2.out g h1 h2).1)).setNot _ _ _ (fun g h1 h2 => (HR2.out g h1 h2).1)).setNot _ _ _ (fun g h1 h2 => (HR2.out g h1 h2).1)).below (below1 _ _)).mono HWB2.out, N2.out.1, N2.out.2⟩, HS2.out, HF.out.1⟩
  · have := HD.out; unfold cLo; rw [dv_iv]; rw [if_pos rfl, if_pos rfl, this.2]
  · have := HD.out; unfold cHi; rw [dv_iv]; rw [if_pos rfl, if_pos rfl, this.1]
  · exact Below.on (bSet (bSet (bSet (bSet (bSet (bSet (bSet (bSet (bSet hbw _ _ _ HGlo.out) _ _ _ HGlo.out) _ _ _ HGlo.out) _ _ _ HGr.out) _ _ _ HGr.out) _ _ _ HGr.out) _ _ _ HGr.out) _ _ _ HGr.out) _ _ _ HGr.out) (below1 _ _)
set_option maxRecDepth 20000 in
set_option maxHeartbeats 8000000 in
theorem cell_n2 {f p m l : Int} {S I H sd : Nat} {Be : Int} (J : Jn f p m l S I H sd Be) (b : Nat) (hb : b < 2 * S) (h0 : b % S ≠ 0) (h1 : b % S < I) (hs : S ≤ b) (hc : clsN H I (b % S) = 2) (w : World) (hT : Tab w) :
    Calls Tryz.prog 35 #[.int .i64 f, U b] w fun en w' => ∃ s1 p1 m1 z1 e1 s2 p2 m2 z2 e2, en = .returned (.tuple #[SV s1 p1 m1 m1 e1 s2 p2 m2 m2 e2, .bool (decide (b % 2 = 0)), .int .i64 0]) ∧ DO w.heap.size w' s1 p1 m1 e1 z1 ∧ DO w.heap.size w' s2 p2 m2 e2 z2 ∧ dv z1 e1 = cLo H l (decide (S ≤ b)) (b % S) ∧ dv z2 e2 = cHi H l (decide (S ≤ b)) (b % S) ∧ Below w.heap.size w w' := by
  have HJN : Hid (Jn f p m l S I H sd Be) := J
  have TB : Hid (Tab w) := hT
  have hlt := J.jm.pm.fm.lt
  have hb0 : b ≠ 0 := fun h => h0 (by rw [h]; exact Nat.zero_mod _)
  have hle := J.jm.pm.fm.le
  have hp := J.jm.pm.hp
  have h9 := J.jm.pm.h9
  have hlo := J.jm.pm.lo
  have hst := J.jm.pm.st _ h1
  have hst2 := J.jm.pm.st _ (show b % S - 1 < I by omega)
  obtain ⟨z, hz⟩ : ∃ z, z = b % S := ⟨_, rfl⟩
  have hb1 : (b - 1) % S = z - 1 := by
    have e1 := Nat.div_add_mod b S
    have : b - 1 = z - 1 + S * (b / S) := by omega
    rw [this, Nat.add_mul_mod_self_left, Nat.mod_eq_of_lt (by omega)]
  have hsg : decide (S ≤ b - 1) = decide (S ≤ b) := by
    refine decide_eq_decide.2 ⟨fun h => by omega, fun h => ?_⟩
    have : b ≠ S := fun h2 => by rw [h2, Nat.mod_self] at h0; exact h0 rfl
    omega
  rw [← hz] at h0 h1 hst hst2
  have hmod : ∀ y : Nat, y < I → 2 * (y - (y / H - 1) * H) + 1 < 18446744073709551616 := fun y hy => by
    have e1 := Nat.div_add_mod y H
    have e2 := Nat.mod_lt y hp
    rw [Nat.mul_comm] at e1
    by_cases e3 : y / H = 0
    · rw [e3] at e1 ⊢; omega
    · rw [Nat.sub_mul]; omega
  obtain ⟨sb, hsb⟩ : ∃ sb, sb = decide (S ≤ b) := ⟨_, rfl⟩
  obtain ⟨n1, hn1⟩ : ∃ n1, n1 = 2 * ((z - 1) - ((z - 1) / H - 1) * H) + 1 := ⟨_, rfl⟩
  obtain ⟨n2, hn2⟩ : ∃ n2, n2 = 2 * (z - (z / H - 1) * H) + 1 := ⟨_, rfl⟩
  obtain ⟨e1, he1⟩ : ∃ e1 : Int, e1 = l + (((z - 1) / H - 1 : Nat) : Int) - 1 := ⟨_, rfl⟩
  obtain ⟨e2, he2⟩ : ∃ e2 : Int, e2 = l + ((z / H - 1 : Nat) : Int) - 1 := ⟨_, rfl⟩
  have hod : ∀ (s : Bool) (y : Nat), iv s (2 * y + 1) % 2 = 1 := fun s y => by cases s <;> simp [iv] <;> omega
  have HF : Hid (DFm (iv sb n1) e1 ∧ DFm (iv sb n2) e2) := ⟨.inr ⟨by rw [hn1]; exact hod _ _, by omega, by omega⟩, .inr ⟨by rw [hn2]; exact hod _ _, by omega, by omega⟩⟩
  have HD : Hid (dv (n1 : Int) e1 = dv (hv H (z - 1) : Int) (l - 1) ∧ dv (n2 : Int) e2 = dv (hv H z : Int) (l - 1)) := ⟨by rw [hn1, he1]; exact mid_dv _ (by omega), by rw [hn2, he2]; exact mid_dv _ (by omega)⟩
  have HN : Hid (0 < n1 ∧ 0 < n2) := by rw [hn1, hn2]; exact ⟨by omega, by omega⟩
  have HB : Hid (b < 2 * S ∧ b - 1 < 2 * S ∧ b % S < I ∧ (b - 1) % S < I ∧ decide (S ≤ b - 1) = sb ∧ decide (S ≤ b) = sb) := ⟨hb, by omega, by omega, by omega, by rw [hsg, hsb], hsb.symm⟩
  have HM1 : Hid (n1 = 2 * ((b - 1) % S - ((b - 1) % S / H - 1) * H) + 1 ∧ e1 = l + (((b - 1) % S / H - 1 : Nat) : Int) - 1) := by rw [hb1]; exact ⟨hn1, he1⟩
  have HM2 : Hid (n2 = 2 * (b % S - (b % S / H - 1) * H) + 1 ∧ e2 = l + ((b % S / H - 1 : Nat) : Int) - 1) := by rw [← hz]; exact ⟨hn2, he2⟩
  have HC : Hid (clsN H I (b % S) = 2) := hc
  obtain ⟨b1, hb1'⟩ : ∃ b1, b1 = b - 1 := ⟨_, rfl⟩
  have k1 : IntKind.u64.wrap ((b : Int) - 1) = (b1 : Int) := by rw [IntKind.wrap_u64]; omega
  obtain ⟨pr, hpr⟩ : ∃ pr, pr = decide (b % 2 = 0) := ⟨_, rfl⟩
  have k2 : (((b : Int).tmod 2) == 0) = pr := by rw [Int.tmod_eq_emod_of_nonneg (by omega), hpr]; by_cases a : b % 2 = 0 <;> simp [a] <;> omega
  have k3 : (((b : Int) % 2) == 0) = pr := by rw [hpr]; by_cases a : b % 2 = 0 <;> simp [a] <;> omega
  rw [← hb1'] at HB HM1
  rw [← hpr, ← hsb]
  have hsv : sb = true := by rw [hsb]; exact decide_eq_true hs
  subst hsv
  rw [← hz]
  clear hs J hT hlt hle hp h9 hlo hst hst2 hb1 hsg hmod hn1 hn2 he1 he2 hod hc hsb hpr hb h0 h1 hb0 hb1'
  go_enter Tryz.func35, Tryz.ntmps35
  go_wp2_with fail
  obtain ⟨W0, hW0⟩ : ∃ W0, W0 = (w.alloc (.cells #[.bool false, .slice none 0 0, .int .i64 0, .bool false, .slice none 0 0, .int .i64 0] 66)) := ⟨_, rfl⟩
  have Xr : Hid (B6q W0 (w.heap.size) (.bool false) (.slice none 0 0) (.int .i64 0) (.bool false) (.slice none 0 0) (.int .i64 0)) := by rw [hW0]; exact ⟨by go_simp, by go_simp, by go_simp, by go_simp, by go_simp, by go_simp, by go_simp, by go_simp, by go_simp, by go_simp, by go_simp, by go_simp⟩
  have hb0 : Below w.heap.size w W0 := by rw [hW0]; exact below1 w _
  rw [← hW0]
  clear hW0
  have hbw : Below w.heap.size w w := Below.refl _ _
  obtain ⟨gr, hgr⟩ : ∃ g, g = w.heap.size := ⟨_, rfl⟩
  have HGr : Hid (w.heap.size ≤ gr) := by rw [hgr]; show _ ≤ _; omega
  rw [← hgr] at Xr
  try rw [← hgr]
  clear hgr
  replace hbw := Below.on hbw hb0
  clear hb0
  refine (HJN.out.cl b _ HB.out.1).mono ?_
  rintro e v1 ⟨rfl, hb1⟩
  rw [HC.out]
  replace Xr : Hid _ := Xr.out.below hb1
  replace hbw := Below.on hbw hb1
  clear hb1
  go_wp2_with fail
  have hmk := mid_ok HJN.out.jm.pm b1 n1 e1 HB.out.2.1 HB.out.2.2.2.1 HM1.out.1 HM1.out.2 _ (TB.out.below hbw)
  rw [HB.out.2.2.2.2.1] at hmk
  have HWB2 : Hid (w.heap.size ≤ v1.heap.size) := hbw.size
  have HL2 : Hid (gr < v1.heap.size) := Xr.out.lt
  refine (hmk).mono ?_
  rintro e2 v2 ⟨hv, hb2⟩
  obtain ⟨v, rfl, hv2⟩ := hv.form (HF.out.1) (rfl)
  clear hv
  obtain ⟨p2, m2, z2s, rfl, ho2, hn2, hm2⟩ := hv2
  replace Xr : Hid _ := Xr.out.below hb2
  replace hbw := Below.on hbw hb2
  clear hb2
  have O2 : Hid (Own v1.heap.size v2 p2 m2 z2s) := ho2
  have N2 : Hid (Nf B64 z2s (iv true n1).natAbs ∧ m2 ≤ 8192) := ⟨hn2, hm2⟩
  obtain ⟨s2, hs2⟩ : ∃ b, b = decide ((iv true n1) < 0) := ⟨_, rfl⟩
  rw [← hs2]
  have HS2 : Hid (s2 = decide ((iv true n1) < 0)) := hs2
  clear ho2 hn2 hm2 hs2
  clear hmk
  have HR2 : Hid (∀ g, p2 = some ⟨g, 0, none⟩ → 0 < m2 → g ≠ gr ∧ g < v2.heap.size) := fun g h1 h2 => by have a1 := O2.out.inn g h1 h2; have a2 := HL2.out; exact ⟨by omega, by omega⟩
  clear HL2
  go_wp2_with fail
  have HDr : Hid (gr ≠ v2.heap.size) := Nat.ne_of_lt Xr.out.lt
  have Xlo0 : Hid (B3q (v2.alloc (.cells #[.bool s2, .slice p2 m2 m2, .int .i64 (e1)] 34)) v2.heap.size (.bool s2) (.slice p2 m2 m2) (.int .i64 (e1))) := B3q.new v2 _ _ _ _
  have hbn : Below v2.heap.size v2 (v2.alloc (.cells #[.bool s2, .slice p2 m2 m2, .int .i64 (e1)] 34)) := below1 v2 _
  generalize v2.alloc (.cells #[.bool s2, .slice p2 m2 m2, .int .i64 (e1)] 34) = Wl at *
  have HGlo : Hid (w.heap.size ≤ v2.heap.size) := hbw.size
  replace Xr : Hid _ := Xr.out.below hbn
  replace O2 : Hid (Own v1.heap.size Wl p2 m2 z2s) := O2.out.below hbn
  replace hbw := Below.on hbw hbn
  clear hbn
  generalize v2.heap.size = glo at *
  have Xlo := Xlo0
  clear Xlo0
  have hmk := mid_ok HJN.out.jm.pm b n2 e2 HB.out.1 HB.out.2.2.1 HM2.out.1 HM2.out.2 _ (TB.out.below hbw)
  rw [HB.out.2.2.2.2.2] at hmk
  have HWB3 : Hid (w.heap.size ≤ Wl.heap.size) := hbw.size
  have HL3 : Hid (gr < Wl.heap.size ∧ glo < Wl.heap.size) := ⟨Xr.out.lt, Xlo.out.lt⟩
  refine (hmk).mono ?_
  rintro e2 v3 ⟨hv, hb3⟩
  obtain ⟨v, rfl, hv2⟩ := hv.form (HF.out.2) (rfl)
  clear hv
  obtain ⟨p3, m3, z3s, rfl, ho3, hn3, hm3⟩ := hv2
  replace Xr : Hid _ := Xr.out.below hb3
  replace Xlo : Hid _ := Xlo.out.below hb3
  replace O2 : Hid (Own v1.heap.size v3 p2 m2 z2s) := O2.out.below hb3
  replace hbw := Below.on hbw hb3
  clear hb3
  have O3 : Hid (Own Wl.heap.size v3 p3 m3 z3s) := ho3
  have N3 : Hid (Nf B64 z3s (iv true n2).natAbs ∧ m3 ≤ 8192) := ⟨hn3, hm3⟩
  obtain ⟨s3, hs3⟩ : ∃ b, b = decide ((iv true n2) < 0) := ⟨_, rfl⟩
  rw [← hs3]
  have HS3 : Hid (s3 = decide ((iv true n2) < 0)) := hs3
  clear ho3 hn3 hm3 hs3
  clear hmk
  have HR3 : Hid (∀ g, p3 = some ⟨g, 0, none⟩ → 0 < m3 → g ≠ gr ∧ g ≠ glo) := fun g h1 h2 => by have a1 := O3.out.inn g h1 h2; have a2 := HL3.out; exact ⟨by omega, by omega⟩
  clear HL3
  have hs2 : s2 = true := by rw [HS2.out]; have := HN.out; rw [iv_t]; exact decide_eq_true (by omega)
  subst hs2
  have hs3 : s3 = true := by rw [HS3.out]; have := HN.out; rw [iv_t]; exact decide_eq_true (by omega)
  subst hs3
  have hlo2 : Hid (B3q v3 glo (.bool true) (.slice p2 m2 m2) (.int .i64 (e1))) := Xlo
  clear hlo2
  have qd1 := HDr.out
  have qd2 : glo ≠ gr := fun h => qd1 h.symm
  obtain ⟨clo0, clo1, clo2, flo0, flo1, flo2⟩ := Xlo.out
  have hnelo : glo < v3.heap.size := World.block_lt_of_cell? v3 _ clo0
  obtain ⟨cr0, cr1, cr2, cr3, cr4, cr5, fr0, fr1, fr2, fr3, fr4, fr5⟩ := Xr.out
  have hner : gr < v3.heap.size := World.block_lt_of_cell? v3 _ cr0
  go_wp2_with fail
  refine bodyPost_ret (v := .tuple #[SV true p3 m3 m3 e2 true p2 m2 m2 e1, .bool pr, .int .i64 0]) (by rw [results_ctt rfl]; go_simp) rfl ⟨true, p3, m3, iv true n2, e2, true, p2, m2, iv true n1, e1, rfl, ?_, ?_, ?_, ?_, ?_⟩
  · exact ⟨⟨z3s, ((((((((((O3.out.setNot _ _ _ (fun g h1 h2 => (HR3.out g h1 h2).2)).setNot _ _ _ (fun g h1 h2 => (HR3.out g h1 h2).2)).setNot _ _ _ (fun g h1 h2 => (HR3.out g h1 h2).2)).setNot _ _ _ (fun g h1 h2 => (HR3.out g h1 h2).1)).setNot _ _ _ (fun g h1 h2 => (HR3.out g h1 h2).1)).setNot _ _ _ (fun g h1 h2 => (HR3.out g h1 h2).1)).setNot _ _ _ (fun g h1 h2 => (HR3.out g h1 h2).1)).setNot _ _ _ (fun g h1 h2 => (HR3.out g h1 h2).1)).setNot _ _ _ (fun g h1 h2 => (HR3.out g h1 h2).1)).below (below1 _ _)).mono HWB3.out, N3.out.1, N3.out.2⟩, HS3.out, HF.out.2⟩
  · exact ⟨⟨z2s, ((((((((((O2.out.setNot _ _ _ (fun g h1 h2 => Nat.ne_of_lt (HR2.out g h1 h2).2)).setNot _ _ _ (fun g h1 h2 => Nat.ne_of_lt (HR2.out g h1 h2).2)).setNot _ _ _ (fun g h1 h2 => Nat.ne_of_lt (HR2.out g h1 h2).2)).setNot _ _ _ (fun g h1 h2 => (HR2.out g h1 h2).1)).setNot _ _ _ (fun g h1 h2 => (HR2.out g h1 h2).1)).setNot _ _ _ (fun g h1 h2 => (HR2.out g h1 h2).1)).setNot _ _ _ (fun g h1 h2 => (HR2.out g h1 h2).1)).setNot _ _ _ (fun g h1 h2 => (HR2.out g h1 h2).1)).setNot _ _ _ (fun g h1 h2 => (HR2.out g h1 h2).1)).below (below1 _ _)).mono HWB2.out, N2.out.1, N2.out.2⟩, HS2.out, HF.out.1⟩
  · have := HD.out; unfold cLo; rw [dv_iv]; rw [if_pos rfl, if_pos rfl, this.2]
  · have := HD.out; unfold cHi; rw [dv_iv]; rw [if_pos rfl, if_pos rfl, this.1]
  · exact Below.on (bSet (bSet (bSet (bSet (bSet (bSet (bSet (bSet (bSet hbw _ _ _ HGlo.out) _ _ _ HGlo.out) _ _ _ HGlo.out) _ _ _ HGr.out) _ _ _ HGr.out) _ _ _ HGr.out) _ _ _ HGr.out) _ _ _ HGr.out) _ _ _ HGr.out) (below1 _ _)
theorem cell_ok {f p m l : Int} {S I H sd : Nat} {Be : Int} (J : Jn f p m l S I H sd Be) (b : Nat) (hb : b < 2 * S) (h0 : b % S ≠ 0) (h1 : b % S < I) (w : World) (hT : Tab w) :
    Calls Tryz.prog 35 #[.int .i64 f, U b] w fun en w' => ∃ s1 p1 m1 z1 e1 s2 p2 m2 z2 e2, en = .returned (.tuple #[SV s1 p1 m1 m1 e1 s2 p2 m2 m2 e2, .bool (decide (b % 2 = 0)), .int .i64 0]) ∧ DO w.heap.size w' s1 p1 m1 e1 z1 ∧ DO w.heap.size w' s2 p2 m2 e2 z2 ∧ dv z1 e1 = cLo H l (decide (S ≤ b)) (b % S) ∧ dv z2 e2 = cHi H l (decide (S ≤ b)) (b % S) ∧ Below w.heap.size w w' := by
  have hc : clsN H I (b % S) = 1 ∨ clsN H I (b % S) = 2 := by
    unfold clsN
    rw [if_neg h0]
    by_cases a2 : b % S < H
    · rw [if_pos a2]; exact .inl rfl
    · rw [if_neg a2, if_pos h1]; exact .inr rfl
  by_cases hs : S ≤ b
  · rcases hc with hc | hc
    · exact cell_n1 J b hb h0 h1 hs hc w hT
    · exact cell_n2 J b hb h0 h1 hs hc w hT
  · rcases hc with hc | hc
    · exact cell_p1 J b hb h0 h1 hs hc w hT
    · exact cell_p2 J b hb h0 h1 hs hc w hT
end Go.Proofs.YtfofoookdlaipaaGreatDoor

namespace Go.Proofs.YtfofoookdlaipaaGreatDoor
open Go.RowKit Go.Shelf

structure B1q (W : World) (g : Nat) (v0 : Value) : Prop where
  c0 : W.cell? ⟨g, 0, none⟩ = some v0
  f0 : W.frozen? ⟨g, 0, none⟩ = false
theorem B1q.lt {w : World} {g : Nat} {a : Value} (h : B1q w g a) : g < w.heap.size := World.block_lt_of_cell? w _ h.c0
theorem B1q.below {W W' : World} {g : Nat} {v0 : Value} (h : B1q W g v0) (hb : Below W.heap.size W W') : B1q W' g v0 := by
  have hl : g < W.heap.size := World.block_lt_of_cell? W _ h.c0
  exact ⟨(hb.cell (p := ⟨g, 0, none⟩) hl).trans h.c0, (hb.frozen (p := ⟨g, 0, none⟩) hl).trans h.f0⟩
theorem B1q.new (w : World) (ty : TypeId) (v0 : Value) : B1q (w.alloc (.cells #[v0] ty)) w.heap.size v0 := ⟨by go_simp, by go_simp⟩
theorem mid_db {f p m l : Int} {S I H sd : Nat} {Be : Int} (J : Jn f p m l S I H sd Be) {k : Nat} (hk : k < I) (s : Bool) {z e : Int} (hf : DFm z e) (hv : dv z e = if s then - dv (hv H k : Int) (l - 1) else dv (hv H k : Int) (l - 1)) : DB z e 56 1100 ∧ z ≠ 0 := by
  have hp := J.jm.pm.hp
  have h9 := J.jm.pm.h9
  have hlo := J.jm.pm.lo
  have hbq := J.jm.bq k hk
  have hbu := J.jm.bu
  have hsl := J.jm.sl
  have hm := mid_dv (H := H) (l := l) k (by omega)
  obtain ⟨q, hq⟩ : ∃ q, q = k / H - 1 := ⟨_, rfl⟩
  have hmn : k - q * H < 2 * H := by
    have e1 := Nat.div_add_mod k H
    have e2 := Nat.mod_lt k hp
    rw [Nat.mul_comm] at e1
    by_cases e3 : k / H = 0
    · rw [e3] at e1; omega
    · rw [hq, Nat.sub_mul]; omega
  rw [← hq] at hm hbq
  obtain ⟨mn, hmn2⟩ : ∃ mn, mn = 2 * (k - q * H) + 1 := ⟨_, rfl⟩
  rw [← hmn2] at hm
  have hfm : DFm (iv s mn) (l + (q : Int) - 1) := .inr ⟨by rw [hmn2]; cases s <;> simp [iv] <;> omega, by omega, by omega⟩
  have he : dv z e = dv (iv s mn) (l + (q : Int) - 1) := by rw [hv, dv_iv, hm]
  obtain ⟨rfl, rfl⟩ := dv_inj hf hfm he
  have h56 : (2 : Nat) ^ 56 = 72057594037927936 := by decide
  refine ⟨⟨hfm, by rw [iv_natAbs, h56]; omega, by omega, by omega⟩, ?_⟩
  intro h0
  have : (iv s mn).natAbs = 0 := by rw [h0]; rfl
  rw [iv_natAbs] at this
  omega
theorem lo_db {f p m l : Int} {S I H sd : Nat} {Be : Int} (J : Jn f p m l S I H sd Be) {b : Nat} (h1 : b % S < I) {z e : Int} (hf : DFm z e) (hv : dv z e = cLo H l (decide (S ≤ b)) (b % S)) : DB z e 56 1100 ∧ z ≠ 0 := by
  unfold cLo at hv
  cases hs : decide (S ≤ b) <;> rw [hs] at hv
  · exact mid_db J (k := b % S - 1) (by omega) false hf hv
  · exact mid_db J (k := b % S) h1 true hf hv
theorem hi_db {f p m l : Int} {S I H sd : Nat} {Be : Int} (J : Jn f p m l S I H sd Be) {b : Nat} (h1 : b % S < I) {z e : Int} (hf : DFm z e) (hv : dv z e = cHi H l (decide (S ≤ b)) (b % S)) : DB z e 56 1100 ∧ z ≠ 0 := by
  unfold cHi at hv
  cases hs : decide (S ≤ b) <;> rw [hs] at hv
  · exact mid_db J (k := b % S) h1 false hf hv
  · exact mid_db J (k := b % S - 1) (by omega) true hf hv
end Go.Proofs.YtfofoookdlaipaaGreatDoor

namespace Go.Proofs.YtfofoookdlaipaaGreatDoor
open Go.RowKit Go.Shelf

theorem len_one {w : World} {s : Bool} {p : Option Addr} {m c : Nat} {e z : Int} (h : DN w s p m c e z) (hz : z.natAbs < B64) : m ≤ 4096 := by
  obtain ⟨xs, hx⟩ := h.zn.ex
  have h1 := (hx.nf.len_le B64_one (k := 1)).2 (by rw [Nat.pow_one]; exact hz)
  rw [hx.at_.len] at h1
  omega
theorem len_db {w : World} {s : Bool} {p : Option Addr} {m c : Nat} {e z : Int} {K E : Nat} (h : DN w s p m c e z) (hb : DB z e K E) (hK : K ≤ 262144) : m ≤ 4096 := by
  obtain ⟨xs, hx⟩ := h.zn.ex
  have h1 := (hx.nf.len_le B64_one (k := 4096)).2 (by
    obtain ⟨k, hk⟩ : ∃ k, k = 4096 := ⟨_, rfl⟩
    rw [← hk, B64_pow]
    exact Nat.lt_of_lt_of_le hb.sz (Nat.pow_le_pow_right (by omega) (by omega)))
  rw [hx.at_.len] at h1
  exact h1
end Go.Proofs.YtfofoookdlaipaaGreatDoor

namespace Go.Proofs.YtfofoookdlaipaaGreatDoor
open Go.RowKit Go.Shelf

set_option maxRecDepth 20000 in
set_option maxHeartbeats 8000000 in
theorem rcls_32_0 (s : Nat) (h0 : s = 0) (w : World) :
    Calls Tryz.prog 126 #[FV 2147483648 24 (-149) 104 2139095040 2143289345, U s] w fun en w' => en = .returned (.int .i64 0) ∧ Below w.heap.size w w' := by
  subst h0
  go_enter Tryz.func126, Tryz.ntmps126
  go_wp2_with fail
  go_ret
  exact ⟨rfl, bwAlloc w _⟩
set_option maxRecDepth 20000 in
set_option maxHeartbeats 8000000 in
theorem rcls_32_1 (s : Nat) (h0 : s ≠ 0) (h1 : s < 8388608) (w : World) :
    Calls Tryz.prog 126 #[FV 2147483648 24 (-149) 104 2139095040 2143289345, U s] w fun en w' => en = .returned (.int .i64 1) ∧ Below w.heap.size w w' := by
  have k0 : ((s : Int) == 0) = false := by simp; omega
  have k1 : decide ((s : Int) < 8388608) = true := by exact decide_eq_true (by omega)
  have m1 : ((1 : Int) <<< (23 : Nat)) = 8388608 := by decide
  clear h0 h1
  go_enter Tryz.func126, Tryz.ntmps126
  go_wp2_with fail
  go_ret
  exact ⟨rfl, bwAlloc w _⟩
set_option maxRecDepth 20000 in
set_option maxHeartbeats 8000000 in
theorem rcls_32_2 (s : Nat) (h1 : ¬ s < 8388608) (h2 : s < 2139095040) (w : World) :
    Calls Tryz.prog 126 #[FV 2147483648 24 (-149) 104 2139095040 2143289345, U s] w fun en w' => en = .returned (.int .i64 2) ∧ Below w.heap.size w w' := by
  have k0 : ((s : Int) == 0) = false := by simp; omega
  have k1 : decide ((s : Int) < 8388608) = false := by exact decide_eq_false (by omega)
  have k2 : decide ((s : Int) < 2139095040) = true := by exact decide_eq_true (by omega)
  have m1 : ((1 : Int) <<< (23 : Nat)) = 8388608 := by decide
  clear h1 h2
  go_enter Tryz.func126, Tryz.ntmps126
  go_wp2_with fail
  go_ret
  exact ⟨rfl, bwAlloc w _⟩
set_option maxRecDepth 20000 in
set_option maxHeartbeats 8000000 in
theorem rcls_32_3 (s : Nat) (h2 : s = 2139095040) (w : World) :
    Calls Tryz.prog 126 #[FV 2147483648 24 (-149) 104 2139095040 2143289345, U s] w fun en w' => en = .returned (.int .i64 3) ∧ Below w.heap.size w w' := by
  have k0 : ((s : Int) == 0) = false := by simp; omega
  have k1 : decide ((s : Int) < 8388608) = false := by exact decide_eq_false (by omega)
  have k2 : decide ((s : Int) < 2139095040) = false := by exact decide_eq_false (by omega)
  have k3 : ((s : Int) == 2139095040) = true := by simp; omega
  have m1 : ((1 : Int) <<< (23 : Nat)) = 8388608 := by decide
  clear h2
  go_enter Tryz.func126, Tryz.ntmps126
  go_wp2_with fail
  go_ret
  exact ⟨rfl, bwAlloc w _⟩
set_option maxRecDepth 20000 in
set_option maxHeartbeats 8000000 in
theorem rcls_32_4 (s : Nat) (h2 : 2139095040 < s) (w : World) :
    Calls Tryz.prog 126 #[FV 2147483648 24 (-149) 104 2139095040 2143289345, U s] w fun en w' => en = .returned (.int .i64 4) ∧ Below w.heap.size w w' := by
  have k0 : ((s : Int) == 0) = false := by simp; omega
  have k1 : decide ((s : Int) < 8388608) = false := by exact decide_eq_false (by omega)
  have k2 : decide ((s : Int) < 2139095040) = false := by exact decide_eq_false (by omega)
  have k3 : ((s : Int) == 2139095040) = false := by simp; omega
  have m1 : ((1 : Int) <<< (23 : Nat)) = 8388608 := by decide
  clear h2
  go_enter Tryz.func126, Tryz.ntmps126
  go_wp2_with fail
  go_ret
  exact ⟨rfl, bwAlloc w _⟩
theorem rcls_32 (s : Nat) (w : World) : Calls Tryz.prog 126 #[FV 2147483648 24 (-149) 104 2139095040 2143289345, U s] w fun en w' => en = .returned (.int .i64 (clsN 8388608 2139095040 s)) ∧ Below w.heap.size w w' := by
  unfold clsN
  by_cases h0 : s = 0
  · rw [if_pos h0]; exact rcls_32_0 s h0 w
  · rw [if_neg h0]
    by_cases h1 : s < 8388608
    · rw [if_pos h1]; exact rcls_32_1 s h0 h1 w
    · rw [if_neg h1]
      by_cases h2 : s < 2139095040
      · rw [if_pos h2]; exact rcls_32_2 s h1 h2 w
      · rw [if_neg h2]
        by_cases h3 : s = 2139095040
        · rw [if_pos h3]; exact rcls_32_3 s h3 w
        · rw [if_neg h3]; exact rcls_32_4 s (by omega) w
set_option maxRecDepth 20000 in
set_option maxHeartbeats 8000000 in
theorem docclass_32 (b : Nat) (hb : b < 2 * 2147483648) (w : World) :
    Calls Tryz.prog 75 #[.int .i64 32, U b] w fun en w' => en = .returned (.tuple #[.int .i64 (clsN 8388608 2139095040 (b % 2147483648)), .int .i64 0]) ∧ Below w.heap.size w w' := by
  have hbw : Below w.heap.size w w := Below.refl _ _
  have HB : Hid (b < 2 * 2147483648) := hb
  obtain ⟨z, hz⟩ : ∃ z, z = b % 2147483648 := ⟨_, rfl⟩
  obtain ⟨c, hc⟩ : ∃ c, c = clsN 8388608 2139095040 z := ⟨_, rfl⟩
  rw [← hz, ← hc]
  have HZ : Hid (b % 2147483648 = z ∧ clsN 8388608 2139095040 z = c) := ⟨hz.symm, hc.symm⟩
  clear hb hz hc
  go_enter Tryz.func75, Tryz.ntmps75
  go_wp2_with fail
  refine (check_ok rf_32 b HB.out _).mono ?_
  rintro e v1 ⟨rfl, hb1⟩
  replace hbw := Below.on hbw hb1
  clear hb1
  go_wp2_with fail
  refine (rof_32 _).mono ?_
  rintro e v2 ⟨rfl, hb2⟩
  replace hbw := Below.on hbw hb2
  clear hb2
  go_wp2_with fail
  have Xk0 : Hid (B6q (v2.alloc (.cells #[U 2147483648, .int .i64 24, .int .i64 (-149), .int .i64 104, U 2139095040, U 2143289345] 161)) v2.heap.size (U 2147483648) (.int .i64 24) (.int .i64 (-149)) (.int .i64 104) (U 2139095040) (U 2143289345)) := B6q.new v2 _ _ _ _ _ _ _
  have hbn : Below v2.heap.size v2 (v2.alloc (.cells #[U 2147483648, .int .i64 24, .int .i64 (-149), .int .i64 104, U 2139095040, U 2143289345] 161)) := below1 v2 _
  generalize v2.alloc (.cells #[U 2147483648, .int .i64 24, .int .i64 (-149), .int .i64 104, U 2139095040, U 2143289345] 161) = Wk at *
  have HGk : Hid (w.heap.size ≤ v2.heap.size) := hbw.size
  replace hbw := Below.on hbw hbn
  clear hbn
  generalize v2.heap.size = gk at *
  have Xk := Xk0
  clear Xk0
  refine (cut_any (by decide) (by decide) b _).mono ?_
  rintro e v3 ⟨rfl, hb3⟩
  rw [HZ.out.1]
  replace Xk : Hid _ := Xk.out.below hb3
  replace hbw := Below.on hbw hb3
  clear hb3
  obtain ⟨ck0, ck1, ck2, ck3, ck4, ck5, fk0, fk1, fk2, fk3, fk4, fk5⟩ := Xk.out
  have hnek : gk < v3.heap.size := World.block_lt_of_cell? v3 _ ck0
  go_wp2_with fail
  clear ck0 ck1 ck2 ck3 ck4 ck5 fk0 fk1 fk2 fk3 fk4 fk5 hnek
  refine (rcls_32 z _).mono ?_
  rintro e v4 ⟨rfl, hb4⟩
  rw [HZ.out.2]
  replace Xk : Hid _ := Xk.out.below hb4
  replace hbw := Below.on hbw hb4
  clear hb4
  obtain ⟨ck0, ck1, ck2, ck3, ck4, ck5, fk0, fk1, fk2, fk3, fk4, fk5⟩ := Xk.out
  have hnek : gk < v4.heap.size := World.block_lt_of_cell? v4 _ ck0
  go_wp2_with fail
  clear ck0 ck1 ck2 ck3 ck4 ck5 fk0 fk1 fk2 fk3 fk4 fk5 hnek
  go_ret2
  exact ⟨rfl, hbw⟩
set_option maxRecDepth 20000 in
set_option maxHeartbeats 8000000 in
theorem rcls_64_0 (s : Nat) (h0 : s = 0) (w : World) :
    Calls Tryz.prog 126 #[FV 9223372036854775808 53 (-1074) 971 9218868437227405312 9221120237041090561, U s] w fun en w' => en = .returned (.int .i64 0) ∧ Below w.heap.size w w' := by
  subst h0
  go_enter Tryz.func126, Tryz.ntmps126
  go_wp2_with fail
  go_ret
  exact ⟨rfl, bwAlloc w _⟩
set_option maxRecDepth 20000 in
set_option maxHeartbeats 8000000 in
theorem rcls_64_1 (s : Nat) (h0 : s ≠ 0) (h1 : s < 4503599627370496) (w : World) :
    Calls Tryz.prog 126 #[FV 9223372036854775808 53 (-1074) 971 9218868437227405312 9221120237041090561, U s] w fun en w' => en = .returned (.int .i64 1) ∧ Below w.heap.size w w' := by
  have k0 : ((s : Int) == 0) = false := by simp; omega
  have k1 : decide ((s : Int) < 4503599627370496) = true := by exact decide_eq_true (by omega)
  have m1 : ((1 : Int) <<< (52 : Nat)) = 4503599627370496 := by decide
  clear h0 h1
  go_enter Tryz.func126, Tryz.ntmps126
  go_wp2_with fail
  go_ret
  exact ⟨rfl, bwAlloc w _⟩
set_option maxRecDepth 20000 in
set_option maxHeartbeats 8000000 in
theorem rcls_64_2 (s : Nat) (h1 : ¬ s < 4503599627370496) (h2 : s < 9218868437227405312) (w : World) :
    Calls Tryz.prog 126 #[FV 9223372036854775808 53 (-1074) 971 9218868437227405312 9221120237041090561, U s] w fun en w' => en = .returned (.int .i64 2) ∧ Below w.heap.size w w' := by
  have k0 : ((s : Int) == 0) = false := by simp; omega
  have k1 : decide ((s : Int) < 4503599627370496) = false := by exact decide_eq_false (by omega)
  have k2 : decide ((s : Int) < 9218868437227405312) = true := by exact decide_eq_true (by omega)
  have m1 : ((1 : Int) <<< (52 : Nat)) = 4503599627370496 := by decide
  clear h1 h2
  go_enter Tryz.func126, Tryz.ntmps126
  go_wp2_with fail
  go_ret
  exact ⟨rfl, bwAlloc w _⟩
set_option maxRecDepth 20000 in
set_option maxHeartbeats 8000000 in
theorem rcls_64_3 (s : Nat) (h2 : s = 9218868437227405312) (w : World) :
    Calls Tryz.prog 126 #[FV 9223372036854775808 53 (-1074) 971 9218868437227405312 9221120237041090561, U s] w fun en w' => en = .returned (.int .i64 3) ∧ Below w.heap.size w w' := by
  have k0 : ((s : Int) == 0) = false := by simp; omega
  have k1 : decide ((s : Int) < 4503599627370496) = false := by exact decide_eq_false (by omega)
  have k2 : decide ((s : Int) < 9218868437227405312) = false := by exact decide_eq_false (by omega)
  have k3 : ((s : Int) == 9218868437227405312) = true := by simp; omega
  have m1 : ((1 : Int) <<< (52 : Nat)) = 4503599627370496 := by decide
  clear h2
  go_enter Tryz.func126, Tryz.ntmps126
  go_wp2_with fail
  go_ret
  exact ⟨rfl, bwAlloc w _⟩
set_option maxRecDepth 20000 in
set_option maxHeartbeats 8000000 in
theorem rcls_64_4 (s : Nat) (h2 : 9218868437227405312 < s) (w : World) :
    Calls Tryz.prog 126 #[FV 9223372036854775808 53 (-1074) 971 9218868437227405312 9221120237041090561, U s] w fun en w' => en = .returned (.int .i64 4) ∧ Below w.heap.size w w' := by
  have k0 : ((s : Int) == 0) = false := by simp; omega
  have k1 : decide ((s : Int) < 4503599627370496) = false := by exact decide_eq_false (by omega)
  have k2 : decide ((s : Int) < 9218868437227405312) = false := by exact decide_eq_false (by omega)
  have k3 : ((s : Int) == 9218868437227405312) = false := by simp; omega
  have m1 : ((1 : Int) <<< (52 : Nat)) = 4503599627370496 := by decide
  clear h2
  go_enter Tryz.func126, Tryz.ntmps126
  go_wp2_with fail
  go_ret
  exact ⟨rfl, bwAlloc w _⟩
theorem rcls_64 (s : Nat) (w : World) : Calls Tryz.prog 126 #[FV 9223372036854775808 53 (-1074) 971 9218868437227405312 9221120237041090561, U s] w fun en w' => en = .returned (.int .i64 (clsN 4503599627370496 9218868437227405312 s)) ∧ Below w.heap.size w w' := by
  unfold clsN
  by_cases h0 : s = 0
  · rw [if_pos h0]; exact rcls_64_0 s h0 w
  · rw [if_neg h0]
    by_cases h1 : s < 4503599627370496
    · rw [if_pos h1]; exact rcls_64_1 s h0 h1 w
    · rw [if_neg h1]
      by_cases h2 : s < 9218868437227405312
      · rw [if_pos h2]; exact rcls_64_2 s h1 h2 w
      · rw [if_neg h2]
        by_cases h3 : s = 9218868437227405312
        · rw [if_pos h3]; exact rcls_64_3 s h3 w
        · rw [if_neg h3]; exact rcls_64_4 s (by omega) w
set_option maxRecDepth 20000 in
set_option maxHeartbeats 8000000 in
theorem docclass_64 (b : Nat) (hb : b < 2 * 9223372036854775808) (w : World) :
    Calls Tryz.prog 75 #[.int .i64 64, U b] w fun en w' => en = .returned (.tuple #[.int .i64 (clsN 4503599627370496 9218868437227405312 (b % 9223372036854775808)), .int .i64 0]) ∧ Below w.heap.size w w' := by
  have hbw : Below w.heap.size w w := Below.refl _ _
  have HB : Hid (b < 2 * 9223372036854775808) := hb
  obtain ⟨z, hz⟩ : ∃ z, z = b % 9223372036854775808 := ⟨_, rfl⟩
  obtain ⟨c, hc⟩ : ∃ c, c = clsN 4503599627370496 9218868437227405312 z := ⟨_, rfl⟩
  rw [← hz, ← hc]
  have HZ : Hid (b % 9223372036854775808 = z ∧ clsN 4503599627370496 9218868437227405312 z = c) := ⟨hz.symm, hc.symm⟩
  clear hb hz hc
  go_enter Tryz.func75, Tryz.ntmps75
  go_wp2_with fail
  refine (check_ok rf_64 b HB.out _).mono ?_
  rintro e v1 ⟨rfl, hb1⟩
  replace hbw := Below.on hbw hb1
  clear hb1
  go_wp2_with fail
  refine (rof_64 _).mono ?_
  rintro e v2 ⟨rfl, hb2⟩
  replace hbw := Below.on hbw hb2
  clear hb2
  go_wp2_with fail
  have Xk0 : Hid (B6q (v2.alloc (.cells #[U 9223372036854775808, .int .i64 53, .int .i64 (-1074), .int .i64 971, U 9218868437227405312, U 9221120237041090561] 161)) v2.heap.size (U 9223372036854775808) (.int .i64 53) (.int .i64 (-1074)) (.int .i64 971) (U 9218868437227405312) (U 9221120237041090561)) := B6q.new v2 _ _ _ _ _ _ _
  have hbn : Below v2.heap.size v2 (v2.alloc (.cells #[U 9223372036854775808, .int .i64 53, .int .i64 (-1074), .int .i64 971, U 9218868437227405312, U 9221120237041090561] 161)) := below1 v2 _
  generalize v2.alloc (.cells #[U 9223372036854775808, .int .i64 53, .int .i64 (-1074), .int .i64 971, U 9218868437227405312, U 9221120237041090561] 161) = Wk at *
  have HGk : Hid (w.heap.size ≤ v2.heap.size) := hbw.size
  replace hbw := Below.on hbw hbn
  clear hbn
  generalize v2.heap.size = gk at *
  have Xk := Xk0
  clear Xk0
  refine (cut_any (by decide) (by decide) b _).mono ?_
  rintro e v3 ⟨rfl, hb3⟩
  rw [HZ.out.1]
  replace Xk : Hid _ := Xk.out.below hb3
  replace hbw := Below.on hbw hb3
  clear hb3
  obtain ⟨ck0, ck1, ck2, ck3, ck4, ck5, fk0, fk1, fk2, fk3, fk4, fk5⟩ := Xk.out
  have hnek : gk < v3.heap.size := World.block_lt_of_cell? v3 _ ck0
  go_wp2_with fail
  clear ck0 ck1 ck2 ck3 ck4 ck5 fk0 fk1 fk2 fk3 fk4 fk5 hnek
  refine (rcls_64 z _).mono ?_
  rintro e v4 ⟨rfl, hb4⟩
  rw [HZ.out.2]
  replace Xk : Hid _ := Xk.out.below hb4
  replace hbw := Below.on hbw hb4
  clear hb4
  obtain ⟨ck0, ck1, ck2, ck3, ck4, ck5, fk0, fk1, fk2, fk3, fk4, fk5⟩ := Xk.out
  have hnek : gk < v4.heap.size := World.block_lt_of_cell? v4 _ ck0
  go_wp2_with fail
  clear ck0 ck1 ck2 ck3 ck4 ck5 fk0 fk1 fk2 fk3 fk4 fk5 hnek
  go_ret2
  exact ⟨rfl, hbw⟩
end Go.Proofs.YtfofoookdlaipaaGreatDoor

namespace Go.Proofs.YtfofoookdlaipaaGreatDoor
open Go.RowKit Go.Shelf

set_option maxRecDepth 20000 in
set_option maxHeartbeats 8000000 in
theorem sign8_32 (w : World) :
    Calls Tryz.prog 32 #[.int .i64 32] w fun en w' => en = .returned (.int .u64 2147483648) ∧ Below w.heap.size w w' := by
  go_enter Tryz.func32, Tryz.ntmps32
  go_wp2_with fail
  go_ret
  exact ⟨rfl, Below.refl _ _⟩
set_option maxRecDepth 20000 in
set_option maxHeartbeats 8000000 in
theorem fmt8_32 (w : World) :
    Calls Tryz.prog 21 #[.bool true] w fun en w' => en = .returned (.int .i64 32) ∧ Below w.heap.size w w' := by
  go_enter Tryz.func21, Tryz.ntmps21
  go_wp2_with fail
  go_ret
  exact ⟨rfl, Below.refl _ _⟩
set_option maxRecDepth 20000 in
set_option maxHeartbeats 8000000 in
theorem fin8_32 (b : Nat) (hb : b < 2 * 2147483648) (w : World) :
    Calls Tryz.prog 34 #[.int .i64 32, U b] w fun en w' => en = .returned (.tuple #[.bool (decide (b % 2147483648 < 2139095040)), .bool (decide (b % 2147483648 = 0))]) ∧ Below w.heap.size w w' := by
  have hbw : Below w.heap.size w w := Below.refl _ _
  have HB : Hid (b < 2 * 2147483648) := hb
  obtain ⟨z, hz⟩ : ∃ z, z = b % 2147483648 := ⟨_, rfl⟩
  obtain ⟨c, hc⟩ : ∃ c, c = clsN 8388608 2139095040 z := ⟨_, rfl⟩
  have h2 : decide (c ≤ 2) = decide (z < 2139095040) := by
    refine decide_eq_decide.2 ?_
    rw [hc]
    unfold clsN
    by_cases a1 : z = 0
    · rw [if_pos a1]; omega
    · rw [if_neg a1]
      by_cases a2 : z < 8388608
      · rw [if_pos a2]; omega
      · rw [if_neg a2]
        by_cases a3 : z < 2139095040
        · rw [if_pos a3]; omega
        · rw [if_neg a3]; split <;> omega
  have h3 : (c == 0) = decide (z = 0) := by
    have : c = 0 ↔ z = 0 := by
      rw [hc]
      unfold clsN
      by_cases a1 : z = 0
      · rw [if_pos a1]; omega
      · rw [if_neg a1]; split; (· omega); split; (· omega); split <;> omega
    by_cases a1 : z = 0
    · rw [decide_eq_true a1, this.2 a1]; rfl
    · rw [decide_eq_false a1]
      have : c ≠ 0 := fun h => a1 (this.1 h)
      simp [this]
  rw [← hz, ← h2, ← h3]
  have HZ : Hid (b % 2147483648 = z ∧ clsN 8388608 2139095040 z = c) := ⟨hz.symm, hc.symm⟩
  clear hb hz hc h2 h3
  go_enter Tryz.func34, Tryz.ntmps34
  go_wp2_with fail
  refine (docclass_32 b HB.out _).mono ?_
  rintro e v1 ⟨rfl, hb1⟩
  rw [HZ.out.1, HZ.out.2]
  replace hbw := Below.on hbw hb1
  clear hb1
  go_wp2_with fail
  go_ret2
  exact ⟨rfl, hbw⟩
set_option maxRecDepth 20000 in
set_option maxHeartbeats 8000000 in
theorem sign8_64 (w : World) :
    Calls Tryz.prog 32 #[.int .i64 64] w fun en w' => en = .returned (.int .u64 9223372036854775808) ∧ Below w.heap.size w w' := by
  go_enter Tryz.func32, Tryz.ntmps32
  go_wp2_with fail
  go_ret
  exact ⟨rfl, Below.refl _ _⟩
set_option maxRecDepth 20000 in
set_option maxHeartbeats 8000000 in
theorem fmt8_64 (w : World) :
    Calls Tryz.prog 21 #[.bool false] w fun en w' => en = .returned (.int .i64 64) ∧ Below w.heap.size w w' := by
  go_enter Tryz.func21, Tryz.ntmps21
  go_wp2_with fail
  go_ret
  exact ⟨rfl, Below.refl _ _⟩
set_option maxRecDepth 20000 in
set_option maxHeartbeats 8000000 in
theorem fin8_64 (b : Nat) (hb : b < 2 * 9223372036854775808) (w : World) :
    Calls Tryz.prog 34 #[.int .i64 64, U b] w fun en w' => en = .returned (.tuple #[.bool (decide (b % 9223372036854775808 < 9218868437227405312)), .bool (decide (b % 9223372036854775808 = 0))]) ∧ Below w.heap.size w w' := by
  have hbw : Below w.heap.size w w := Below.refl _ _
  have HB : Hid (b < 2 * 9223372036854775808) := hb
  obtain ⟨z, hz⟩ : ∃ z, z = b % 9223372036854775808 := ⟨_, rfl⟩
  obtain ⟨c, hc⟩ : ∃ c, c = clsN 4503599627370496 9218868437227405312 z := ⟨_, rfl⟩
  have h2 : decide (c ≤ 2) = decide (z < 9218868437227405312) := by
    refine decide_eq_decide.2 ?_
    rw [hc]
    unfold clsN
    by_cases a1 : z = 0
    · rw [if_pos a1]; omega
    · rw [if_neg a1]
      by_cases a2 : z < 4503599627370496
      · rw [if_pos a2]; omega
      · rw [if_neg a2]
        by_cases a3 : z < 9218868437227405312
        · rw [if_pos a3]; omega
        · rw [if_neg a3]; split <;> omega
  have h3 : (c == 0) = decide (z = 0) := by
    have : c = 0 ↔ z = 0 := by
      rw [hc]
      unfold clsN
      by_cases a1 : z = 0
      · rw [if_pos a1]; omega
      · rw [if_neg a1]; split; (· omega); split; (· omega); split <;> omega
    by_cases a1 : z = 0
    · rw [decide_eq_true a1, this.2 a1]; rfl
    · rw [decide_eq_false a1]
      have : c ≠ 0 := fun h => a1 (this.1 h)
      simp [this]
  rw [← hz, ← h2, ← h3]
  have HZ : Hid (b % 9223372036854775808 = z ∧ clsN 4503599627370496 9218868437227405312 z = c) := ⟨hz.symm, hc.symm⟩
  clear hb hz hc h2 h3
  go_enter Tryz.func34, Tryz.ntmps34
  go_wp2_with fail
  refine (docclass_64 b HB.out _).mono ?_
  rintro e v1 ⟨rfl, hb1⟩
  rw [HZ.out.1, HZ.out.2]
  replace hbw := Below.on hbw hb1
  clear hb1
  go_wp2_with fail
  go_ret2
  exact ⟨rfl, hbw⟩
set_option maxRecDepth 20000 in
set_option maxHeartbeats 8000000 in
theorem at8 {p q : Option Addr} {m c n d : Nat} {w : World} {x y e f : Int} {s t : Bool} (h : DN w s p m c e x) (k : DN w t q n d f y) :
    Calls Tryz.prog 36 #[DV s p m c e, DV t q n d f] w fun en w' => en = .returned (.int .i64 (cmpI (dv x e) (dv y f))) ∧ Below w.heap.size w w' := by
  have H : Hid (DN w s p m c e x) := h
  have K : Hid (DN w t q n d f y) := k
  clear h k
  go_enter Tryz.func36, Tryz.ntmps36
  go_wp2_with fail
  obtain ⟨W0, hW0⟩ : ∃ W0, W0 = ((w.alloc (.cells #[.bool s, .slice p m c, .int .i64 e] 34)).alloc (.cells #[.bool t, .slice q n d, .int .i64 f] 34)) := ⟨_, rfl⟩
  have Xa : Hid (B3q W0 (w.heap.size) (.bool s) (.slice p m c) (.int .i64 e)) := by rw [hW0]; exact ⟨by go_simp, by go_simp, by go_simp, by go_simp, by go_simp, by go_simp⟩
  have Xb : Hid (B3q W0 (w.heap.size + 1) (.bool t) (.slice q n d) (.int .i64 f)) := by rw [hW0]; exact ⟨by go_simp, by go_simp, by go_simp, by go_simp, by go_simp, by go_simp⟩
  have hb0 : Below w.heap.size w W0 := by rw [hW0]; exact below2 w _ _
  rw [← hW0]
  clear hW0
  have hbw : Below w.heap.size w w := Below.refl _ _
  obtain ⟨gb, hgb⟩ : ∃ g, g = w.heap.size + 1 := ⟨_, rfl⟩
  have HGb : Hid (w.heap.size ≤ gb) := by rw [hgb]; show _ ≤ _; omega
  rw [← hgb] at Xb
  try rw [← hgb]
  obtain ⟨ga, hga⟩ : ∃ g, g = w.heap.size := ⟨_, rfl⟩
  have HGa : Hid (w.heap.size ≤ ga) := by rw [hga]; show _ ≤ _; omega
  rw [← hga] at Xa
  try rw [← hga]
  have HGD : Hid (ga ≠ gb ∧ gb ≠ ga) := by rw [hga, hgb]; exact ⟨by omega, by omega⟩
  clear hga hgb
  replace hbw := Below.on hbw hb0
  clear hb0
  refine (dcmp (H.out.below hbw) (K.out.below hbw)).mono ?_
  rintro e v1 ⟨rfl, hb1⟩
  replace Xa : Hid _ := Xa.out.below hb1
  replace Xb : Hid _ := Xb.out.below hb1
  replace hbw := Below.on hbw hb1
  clear hb1
  go_wp2_with fail
  go_ret
  exact ⟨rfl, hbw⟩
end Go.Proofs.YtfofoookdlaipaaGreatDoor

namespace Go.Proofs.YtfofoookdlaipaaGreatDoor
open Go.RowKit Go.Shelf

set_option maxRecDepth 20000 in
set_option maxHeartbeats 8000000 in
theorem num8 {w : World} (z e : Int) (h0 : -9223372036854775807 ≤ z ∧ z ≤ 9223372036854775807) (hz : z % 2 = 1) (he : -2000 ≤ e ∧ e ≤ 2000) :
    Calls Tryz.prog 23 #[.int .i64 z, .int .i64 e] w fun en w' => ∃ s' g m' c', en = .returned (DV s' (some ⟨g, 0, none⟩) m' c' e) ∧ w.heap.size ≤ g ∧ DN w' s' (some ⟨g, 0, none⟩) m' c' e z ∧ Below w.heap.size w w' := by
  have HZ : Hid (-9223372036854775807 ≤ z ∧ z ≤ 9223372036854775807 ∧ z % 2 = 1 ∧ -2000 ≤ e ∧ e ≤ 2000) := ⟨h0.1, h0.2, hz, he.1, he.2⟩
  clear h0 hz he
  go_enter Tryz.func23, Tryz.ntmps23
  go_wp2_with fail
  obtain ⟨W0, hW0⟩ : ∃ W0, W0 = (w.alloc (.cells #[.bool false, .slice none 0 0, .int .i64 0] 34)) := ⟨_, rfl⟩
  have Xr : Hid (B3q W0 (w.heap.size) (.bool false) (.slice none 0 0) (.int .i64 0)) := by rw [hW0]; exact ⟨by go_simp, by go_simp, by go_simp, by go_simp, by go_simp, by go_simp⟩
  have hb0 : Below w.heap.size w W0 := by rw [hW0]; exact below1 w _
  rw [← hW0]
  clear hW0
  have hbw : Below w.heap.size w w := Below.refl _ _
  obtain ⟨gr, hgr⟩ : ∃ g, g = w.heap.size := ⟨_, rfl⟩
  have HGr : Hid (w.heap.size ≤ gr) := by rw [hgr]; show _ ≤ _; omega
  rw [← hgr] at Xr
  try rw [← hgr]
  clear hgr
  replace hbw := Below.on hbw hb0
  clear hb0
  refine (docof5 z (by have := HZ.out; omega) (by have := HZ.out; omega) HZ.out.2.2.1).mono ?_
  rintro e2 v1 ⟨s1, g1, m1, c1, rfl, hg1, hd1, hb1⟩
  replace Xr : Hid _ := Xr.out.below hb1
  replace hbw := Below.on hbw hb1
  clear hb1
  have D1 : Hid (DN v1 s1 (some ⟨g1, 0, none⟩) m1 c1 0 z) := hd1
  have hm1 : m1 ≤ 4000 := by
    obtain ⟨xs, hX⟩ := hd1.zn.ex
    have := (hX.nf.len_le B64_one (k := 1)).2 (by rw [Nat.pow_one, B64_eq]; have := HZ.out; omega)
    rw [hX.at_.len] at this
    omega
  have HM1 : Hid (m1 ≤ 4000) := hm1
  clear hd1 hg1 hm1
  go_wp2_with fail
  refine (docscale5 D1.out HZ.out.2.2.1 HM1.out (by have := HZ.out; omega) (by omega)).mono ?_
  rw [Int.zero_add]
  rintro e2 v2 ⟨s2, g2, m2, c2, rfl, hg2, hd2, hb2⟩
  have HR2 : Hid (gr < g2 ∧ w.heap.size ≤ g2) := ⟨Nat.lt_of_lt_of_le Xr.out.lt hg2, Nat.le_trans hbw.size hg2⟩
  replace Xr : Hid _ := Xr.out.below hb2
  replace D1 : Hid _ := D1.out.below hb2
  replace hbw := Below.on hbw hb2
  clear hb2
  have D2 : Hid (DN v2 s2 (some ⟨g2, 0, none⟩) m2 c2 e z) := hd2
  clear hd2 hg2
  obtain ⟨cr0, cr1, cr2, fr0, fr1, fr2⟩ := Xr.out
  have hner : gr < v2.heap.size := World.block_lt_of_cell? v2 _ cr0
  go_wp2_with fail
  refine bodyPost_ret (v := DV s2 (some ⟨g2, 0, none⟩) m2 c2 e) (by rw [results_cell1 rfl]; go_simp) rfl ⟨s2, g2, m2, c2, rfl, HR2.out.2, ?_, ?_⟩
  · have := HR2.out.1
    exact (((D2.out.set _ _ _ (by omega)).set _ _ _ (by omega)).set _ _ _ (by omega)).below (below1 _ _)
  · exact Below.on (bSet (bSet (bSet hbw _ _ _ HGr.out) _ _ _ HGr.out) _ _ _ HGr.out) (below1 _ _)
end Go.Proofs.YtfofoookdlaipaaGreatDoor

namespace Go.Proofs.YtfofoookdlaipaaGreatDoor
open Go.RowKit Go.Shelf

theorem aw8_a : rnp (-1074) 52 1024 9223372036854775808 9218868437227405312 9007199254740995 0 = 4845873199050653698 := by decide +kernel
theorem aw8_b : rnp (-149) 23 128 2147483648 2139095040 (-1) 0 = 3212836864 := by decide +kernel
set_option maxRecDepth 20000 in
set_option maxHeartbeats 8000000 in
theorem awake8 (w : World) (hT : Tab w) :
    Calls Tryz.prog 24 #[] w fun en w' => en = .returned (.bool true) ∧ Below w.heap.size w w' := by
  have hbw : Below w.heap.size w w := Below.refl _ _
  have TB : Hid (Tab w) := hT
  clear hT
  go_enter Tryz.func24, Tryz.ntmps24
  go_wp2_with fail
  refine (num8 (9007199254740995) (0) (by decide) (by decide) (by decide)).mono ?_
  rintro e2 v1 ⟨s1, g1, m1, c1, rfl, _, hd1, hb1⟩
  replace hbw := Below.on hbw hb1
  clear hb1
  have D1 : Hid (DN v1 s1 (some ⟨g1, 0, none⟩) m1 c1 (0) (9007199254740995)) := hd1
  clear hd1
  go_wp2_with fail
  refine (rnearest jn_64 D1.out (TB.out.below hbw)).mono ?_
  rintro e v2 ⟨rfl, hb2⟩
  rw [aw8_a]
  replace D1 : Hid _ := D1.out.below hb2
  replace hbw := Below.on hbw hb2
  clear hb2
  clear D1
  go_wp2_with fail
  refine (num8 (-1) (0) (by decide) (by decide) (by decide)).mono ?_
  rintro e2 v3 ⟨s3, g3, m3, c3, rfl, _, hd3, hb3⟩
  replace hbw := Below.on hbw hb3
  clear hb3
  have D3 : Hid (DN v3 s3 (some ⟨g3, 0, none⟩) m3 c3 (0) (-1)) := hd3
  clear hd3
  go_wp2_with fail
  refine (rnearest jn_32 D3.out (TB.out.below hbw)).mono ?_
  rintro e v4 ⟨rfl, hb4⟩
  rw [aw8_b]
  replace D3 : Hid _ := D3.out.below hb4
  replace hbw := Below.on hbw hb4
  clear hb4
  clear D3
  go_wp2_with fail
  go_ret
  exact ⟨rfl, hbw⟩
end Go.Proofs.YtfofoookdlaipaaGreatDoor

namespace Go.Proofs.YtfofoookdlaipaaGreatDoor
open Go.RowKit Go.Shelf

structure Lq (single : Bool) (f : Int) (S I : Nat) : Prop where
  fmt : ∀ w, Calls Tryz.prog 21 #[.bool single] w fun en w' => en = .returned (.int .i64 f) ∧ Below w.heap.size w w'
  fin : ∀ (b : Nat) w, b < 2 * S → Calls Tryz.prog 34 #[.int .i64 f, U b] w fun en w' => en = .returned (.tuple #[.bool (decide (b % S < I)), .bool (decide (b % S = 0))]) ∧ Below w.heap.size w w'
  sg : ∀ w, Calls Tryz.prog 32 #[.int .i64 f] w fun en w' => en = .returned (U S) ∧ Below w.heap.size w w'
  xr : ∀ b, b < 2 * S → bits BinOp.xor IntKind.u64 (b : Int) (S : Int) = ((xsS S b : Nat) : Int)
theorem lq_32 : Lq true 32 2147483648 2139095040 :=
  ⟨fmt8_32, fun b w hb => fin8_32 b hb w, sign8_32, fun b hb => sign_xor b _ 31 (by decide) (by decide) hb⟩
theorem lq_64 : Lq false 64 9223372036854775808 9218868437227405312 :=
  ⟨fmt8_64, fun b w hb => fin8_64 b hb w, sign8_64, fun b hb => sign_xor b _ 63 (by decide) (by decide) hb⟩
theorem prod_form {x y e g zo eo : Int} {K E K' E' : Nat} (bx : DB x e K E) (by_ : DB y g K' E') (hx : x ≠ 0) (hy : y ≠ 0) (hE : E + E' ≤ 1048576) (hf : DFm zo eo) (hv : dv zo eo = dv (x * y) (e + g)) : zo = x * y ∧ eo = e + g := by
  have h1 := bx.lo
  have h2 := bx.hi
  have h3 := by_.lo
  have h4 := by_.hi
  have ox : x % 2 = 1 := by rcases bx.fm with ⟨a, _⟩ | ⟨a, _⟩ <;> omega
  have oy : y % 2 = 1 := by rcases by_.fm with ⟨a, _⟩ | ⟨a, _⟩ <;> omega
  exact dv_inj hf (.inr ⟨by rw [Int.mul_emod, ox, oy]; rfl, by omega, by omega⟩) hv
end Go.Proofs.YtfofoookdlaipaaGreatDoor

namespace Go.Proofs.YtfofoookdlaipaaGreatDoor
open Go.RowKit Go.Shelf

theorem sq_dv (x : Nat) {e : Int} (he : -4194304 ≤ e) : dv (x : Int) e * dv (x : Int) e = ((x * x : Nat) : Int) * ((2 ^ (e + e + 2 * 4194304).toNat : Nat) : Int) := by
  unfold dv
  obtain ⟨k, hk⟩ : ∃ k, k = (e + 4194304).toNat := ⟨_, rfl⟩
  rw [← hk, show (e + e + 2 * 4194304).toNat = k + k from by omega, Nat.pow_add, ← Int.natCast_mul, ← Int.natCast_mul, ← Int.natCast_mul]
  congr 1
  rw [Nat.mul_mul_mul_comm]
theorem nine {Z : Nat} {V : Int} (h2 : RNz 4503599627370496 (-1074) 9218868437227405312 V Z) (h3 : Mk 4503599627370496 (-1074) 9218868437227405312 (fun τ => τ * τ) (((9 : Int).natAbs : Int) * ((2 ^ ((-2 : Int) + 2 * 4194304).toNat : Nat) : Int)) V) : Z = 4609434218613702656 := by
  have r1 := rn_of jn_64 (n := 3) (e := -1) (by decide) (by decide)
  have v1 : rnz (-1074) 52 1024 9218868437227405312 3 (-1) = 4609434218613702656 := by decide +kernel
  rw [v1] at r1
  refine h3.same rise_sq h2 r1 (dv_nn _ _) ?_
  show _ = dv ((3 : Nat) : Int) (-1) * dv ((3 : Nat) : Int) (-1)
  rw [sq_dv 3 (by decide), show (-1 : Int) + -1 + 2 * 4194304 = -2 + 2 * 4194304 from by omega]
  generalize ((2 ^ ((-2 : Int) + 2 * 4194304).toNat : Nat) : Int) = P
  rfl
theorem root_back {f p m l : Int} {S I H sd : Nat} {Be : Int} (J : Jn f p m l S I H sd Be) {x X e V : Int} {Z : Nat} (he : -4194304 ≤ e) (hX : X = (x.natAbs : Int)) (h2 : RNz H l I V Z) (h3 : Mk H l I (fun τ => τ * τ) (((x * x).natAbs : Int) * ((2 ^ (e + e + 2 * 4194304).toNat : Nat) : Int)) V) : Z = rnp l sd Be S I X e := by
  obtain ⟨Zw, _, w2, w3, _⟩ := rnp_is J X e he
  rw [w3, if_neg (by omega)]
  refine h3.same rise_sq h2 w2 (dv_nn _ _) ?_
  show _ = dv _ e * dv _ e
  rw [sq_dv _ he, Int.natAbs_mul, show X.natAbs = x.natAbs from by omega]
theorem sq_at {z e zo eo X E M : Int} (hz : -2097152 ≤ e) (hE : -4194304 ≤ E) (hM : dv z e = M) (hv : dv zo eo = dv (z * z) (e + e)) :
    (M * M < X * ((2 ^ (E + 2 * 4194304).toNat : Nat) : Int) ↔ dv zo eo < dv X E) ∧ (X * ((2 ^ (E + 2 * 4194304).toNat : Nat) : Int) < M * M ↔ dv X E < dv zo eo) := by
  have h1 := dv_mul (z := z) (c := z) (e := e) (f := e) hz hz
  rw [hM, ← hv] at h1
  obtain ⟨o, ho⟩ : ∃ o : Nat, o = 4194304 := ⟨_, rfl⟩
  have h2 : X * ((2 ^ (E + 2 * 4194304).toNat : Nat) : Int) = dv X E * ((2 ^ 4194304 : Nat) : Int) := by
    unfold dv
    rw [show (E + 2 * 4194304).toNat = (E + 4194304).toNat + 4194304 from by omega, ← ho, Nat.pow_add, Int.natCast_mul, Int.mul_assoc]
  have h3 : (0 : Int) < ((2 ^ 4194304 : Nat) : Int) := by
    rw [← ho]
    have := Nat.pow_pos (n := o) (show 0 < 2 by omega)
    omega
  rw [h2, ← h1]
  generalize ((2 ^ 4194304 : Nat) : Int) = P at h3
  exact ⟨⟨fun h => Int.lt_of_mul_lt_mul_right h (Int.le_of_lt h3), fun h => Int.mul_lt_mul_of_pos_right h h3⟩, ⟨fun h => Int.lt_of_mul_lt_mul_right h (Int.le_of_lt h3), fun h => Int.mul_lt_mul_of_pos_right h h3⟩⟩
theorem root_cell {H : Nat} {l : Int} {I : Nat} {X E V : Int} {Z : Nat} (hX : 0 < X) (hE : -4194304 ≤ E) (hZ : RNz H l I V Z) (h0 : Z ≠ 0) (h1 : Z < I) (h3 : Mk H l I (fun τ => τ * τ) ((X.natAbs : Int) * ((2 ^ (E + 2 * 4194304).toNat : Nat) : Int)) V)
    {z e zo eo y f yo fo : Int} (he : -2097152 ≤ e) (hf : -2097152 ≤ f) (c1 : dv z e = cLo H l false Z) (c2 : dv y f = cHi H l false Z) (p1 : dv zo eo = dv (z * z) (e + e)) (p2 : dv yo fo = dv (y * y) (f + f)) :
    dv zo eo ≤ dv X E ∧ dv X E ≤ dv yo fo ∧ (Z % 2 = 1 → dv zo eo < dv X E ∧ dv X E < dv yo fo) := by
  obtain ⟨a1, a2, a3⟩ := h3.cell hZ h0 h1
  rw [show (X.natAbs : Int) = X from by omega] at a1 a2 a3
  have b1 := sq_at (X := X) (E := E) he hE (show dv z e = dv (hv H (Z - 1) : Int) (l - 1) from c1) p1
  have b2 := sq_at (X := X) (E := E) hf hE (show dv y f = dv (hv H Z : Int) (l - 1) from c2) p2
  refine ⟨Int.not_lt.1 fun h => ?_, Int.not_lt.1 fun h => ?_, fun ho => ⟨b1.1.1 (a3 ho).1, b2.2.1 (a3 ho).2⟩⟩
  · have := b1.2.2 h
    exact absurd a1 (Int.not_le.2 this)
  · have := b2.1.2 h
    exact absurd a2 (Int.not_le.2 this)
end Go.Proofs.YtfofoookdlaipaaGreatDoor

