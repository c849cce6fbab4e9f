import Derived.Test.YthobkfkeaealhaaGreatDoorJ8
import Derived.Laws.ResultCell
import Derived.Shelf.Bits.Mul64
import Derived.Lib.SliceRun
import Derived.Sort.Row
import Derived.Deep.RegionWith
import Derived.Deep.DeepCutAuto
import Derived.Deep.LoopGhost
import Derived.Test.YthobkfkeaealhaaGreatDoorMem
import Derived.Laws.Bits64b
import Derived.Deep.RegionLaw
import Derived.Shelf.Spec.TrailingZeros
namespace Go.Proofs.YthobkfkeaealhaaGreatDoor
open Go.RowKit Go.Shelf
set_option maxRecDepth 20000
set_option maxHeartbeats 0
def iv (s : Bool) (a : Nat) : Int := if s then -(a : Int) else (a : Int)
theorem iv_t (a : Nat) : iv true a = -(a : Int) := rfl
theorem iv_f (a : Nat) : iv false a = (a : Int) := rfl
abbrev ZV (s : Bool) (p : Option Addr) (n c : Nat) : Value := .agg #[.bool s, .slice p n c]
def AnsI (B : Nat) (w' : World) (e : Ending) (z : Int) : Prop :=
  (z.natAbs < LIM ∧ ∃ p m zs, e = .returned (.tuple #[ZV (decide (z < 0)) p m m, .int .i64 0]) ∧ Own B w' p m zs ∧ Nf B64 zs z.natAbs ∧ m ≤ 8192) ∨
  (LIM ≤ z.natAbs ∧ e = .returned (.tuple #[ZV false none 0 0, .int .i64 5]))
theorem AnsI.ok {B : Nat} {w' : World} {e : Ending} {z : Int} (h : AnsI B w' e z) (hz : z.natAbs < LIM) : ∃ p m zs, e = .returned (.tuple #[ZV (decide (z < 0)) p m m, .int .i64 0]) ∧ Own B w' p m zs ∧ Nf B64 zs z.natAbs ∧ m ≤ 8192 := by
  rcases h with ⟨_, h⟩ | ⟨h, _⟩
  · exact h
  · omega
theorem AnsI.no {B : Nat} {w' : World} {e : Ending} {z : Int} (h : AnsI B w' e z) (hz : LIM ≤ z.natAbs) : e = .returned (.tuple #[ZV false none 0 0, .int .i64 5]) := by
  rcases h with ⟨h, _⟩ | ⟨_, h⟩
  · omega
  · exact h
theorem Num.zero {w : World} {p : Option Addr} {m c : Nat} {xs : List Nat} {a : Nat} (h : Num w p m c xs a) : m = 0 ↔ a = 0 := by
  rw [← h.nf.zero_iff B64_one, ← h.at_.len]
  exact ⟨List.eq_nil_of_length_eq_zero, fun e => by rw [e]; rfl⟩

theorem results_cell1 {fn : Func} {p : Tmp} {ty : TypeId} (h : fn.results = #[.cell p ty]) (tmps : Array Value) (P : Program) (w : World) :
    (results fn tmps).run P w = ((asAddr (tmps.getD p undef)).run P w).andThen fun a w₁ => (loadVar ty a).run P w₁ := by
  simp only [results, h]
  simp [Sem.run_bind, Result.andThen]
theorem signed_any (s : Bool) (p : Option Addr) (m c : Nat) (w : World) :
    Calls Tryz.prog 85 #[.bool s, .slice p m c] w fun e w' => e = .returned (ZV (s && decide (0 < m)) p m c) ∧ Below w.heap.size w w' := by
  cases s
  · go_enter Tryz.func85, Tryz.ntmps85
    go_wp2_with fail
    refine bodyPost_ret (v := ZV false p m c) ?_ rfl ⟨rfl, below1 w _⟩
    rw [results_cell1 rfl]
    go_simp
  · by_cases h : 0 < m
    · have hd : decide ((0 : Int) < (m : Int)) = true := decide_eq_true (by omega)
      go_enter Tryz.func85, Tryz.ntmps85
      go_wp2_with fail
      refine bodyPost_ret (v := ZV true p m c) ?_ rfl ⟨by simp [h], below1 w _⟩
      rw [results_cell1 rfl]
      go_simp
    · have hd : decide ((0 : Int) < (m : Int)) = false := decide_eq_false (by omega)
      have hn : ¬ 0 < m := h
      go_enter Tryz.func85, Tryz.ntmps85
      go_wp2_with fail
      refine bodyPost_ret (v := ZV false p m c) ?_ rfl ⟨by simp [h], below1 w _⟩
      rw [results_cell1 rfl]
      go_simp
theorem Row.oth {w : World} {g off n : Nat} {xs : List Nat} (h : Row w g off n xs) (g2 o2 : Nat) (v : Value) (hne : g ≠ g2) : Row (w.setCell ⟨g2, o2, none⟩ v) g off n xs := by
  refine ⟨h.len, h.dig, fun j hj => ?_, fun j hj => by rw [World.frozen?_setCell]; exact h.frozen j hj⟩
  exact (World.cell?_setCell_other _ _ _ _ (by intro e; apply hne; have := congrArg Addr.block e; simp at this; omega)).trans (h.cell j hj)
theorem Own.setOld {B : Nat} {w : World} {p : Option Addr} {m : Nat} {zs : List Nat} (h : Own B w p m zs) (g2 o2 : Nat) (v : Value) (hlt : g2 < B) : Own B (w.setCell ⟨g2, o2, none⟩ v) p m zs := by
  refine ⟨h.len, h.dig, ?_⟩
  rcases h.mem with h0 | ⟨g, hp, hg, hr⟩
  · exact .inl h0
  · exact .inr ⟨g, hp, hg, hr.oth g2 o2 v (by omega)⟩
theorem bSet {B : Nat} {a w : World} (h : Below B a w) (g o : Nat) (v : Value) (hB : B ≤ g) : Below B a (w.setCell ⟨g, o, none⟩ v) :=
  h.trans ((Wr.refl g o 1 w).setCell o ⟨by omega, by omega⟩ v |>.below hB)
theorem below3 (w : World) (o1 o2 o3 : Obj) : Below w.heap.size w (((w.alloc o1).alloc o2).alloc o3) := (below2 w o1 o2).alloc (by simp; omega) o3
theorem At.alloc3 {w : World} {p : Option Addr} {n c : Nat} {xs : List Nat} (h : At w p n c xs) (o1 o2 o3 : Obj) : At (((w.alloc o1).alloc o2).alloc o3) p n c xs := ((h.alloc o1).alloc o2).alloc o3
theorem iv_abs_same (s : Bool) (a b : Nat) : (iv s a + iv s b).natAbs = a + b ∧ (decide (iv s a + iv s b < 0) = (s && decide (0 < a + b))) := by
  cases s
  · rw [iv_f, iv_f]; refine ⟨by omega, ?_⟩
    simp only [Bool.false_and, decide_eq_false_iff_not]; omega
  · rw [iv_t, iv_t]; refine ⟨by omega, ?_⟩
    simp only [Bool.true_and]; exact decide_eq_decide.2 (by omega)
theorem iv_abs_diff (s : Bool) {a b : Nat} (h : b ≤ a) : (iv s a + iv (!s) b).natAbs = a - b ∧ (decide (iv s a + iv (!s) b < 0) = (s && decide (0 < a - b))) := by
  cases s
  · rw [Bool.not_false, iv_f, iv_t]; refine ⟨by omega, ?_⟩
    simp only [Bool.false_and, decide_eq_false_iff_not]; omega
  · rw [Bool.not_true, iv_f, iv_t]; refine ⟨by omega, ?_⟩
    simp only [Bool.true_and]; exact decide_eq_decide.2 (by omega)
theorem Nf.lenpos {zs : List Nat} {n m : Nat} (h : Nf B64 zs n) (hl : zs.length = m) : decide (0 < m) = decide (0 < n) := by
  refine decide_eq_decide.2 ?_
  have := h.zero_iff B64_one
  constructor
  · intro hm
    rcases Nat.eq_zero_or_pos n with e | e
    · have := this.2 e; rw [this] at hl; simp at hl; omega
    · exact e
  · intro hn
    rcases Nat.eq_zero_or_pos m with e | e
    · have := this.1 (List.eq_nil_of_length_eq_zero (by omega)); omega
    · exact e

theorem sum_same {p q : Option Addr} {n m c d : Nat} {xs ys : List Nat} {a b : Nat} {w : World} (s : Bool) (h : Num w p n c xs a) (k : Num w q m d ys b) :
    Calls Tryz.prog 80 #[ZV s p n c, ZV s q m d] w fun e w' => AnsI w.heap.size w' e (iv s a + iv s b) ∧ Below w.heap.size w w' := by
  obtain ⟨z, hz⟩ : ∃ z, z = iv s a + iv s b := ⟨_, rfl⟩
  rw [← hz]
  have hab := iv_abs_same s a b
  rw [← hz] at hab
  have HZ : Hid (z.natAbs = a + b ∧ decide (z < 0) = (s && decide (0 < a + b))) := hab
  have H : Hid (Num w p n c xs a) := h
  have K : Hid (Num w q m d ys b) := k
  clear hz hab h k
  have hss : (s == s) = true := by simp
  go_enter Tryz.func80, Tryz.ntmps80
  go_wp2_with fail
  refine (add_ord (H.out.at_.alloc3 _ _ _) (K.out.at_.alloc3 _ _ _) H.out.nf K.out.nf H.out.le K.out.le).mono ?_
  rintro e w1 ⟨ha, hb⟩
  have hbw := Below.on (below3 w _ _ _) hb
  have cx0 : w1.cell? ⟨w.heap.size, 0, none⟩ = some (.bool s) := (hb.cell (p := ⟨w.heap.size, 0, none⟩) (by simp <;> omega)).trans (by go_simp)
  have cr0 : (w1.cell? ⟨w.heap.size + 1 + 1, 0, none⟩) = some (.bool false) := (hb.cell (p := ⟨w.heap.size + 1 + 1, 0, none⟩) (by simp <;> omega)).trans (by go_simp)
  have cr1 : (w1.cell? ⟨w.heap.size + 1 + 1, 1, none⟩) = some (.slice none 0 0) := (hb.cell (p := ⟨w.heap.size + 1 + 1, 1, none⟩) (by simp <;> omega)).trans (by go_simp)
  have fr0 : w1.frozen? ⟨w.heap.size + 1 + 1, 0, none⟩ = false := (hb.frozen (p := ⟨w.heap.size + 1 + 1, 0, none⟩) (by simp <;> omega)).trans (by go_simp)
  have fr1 : w1.frozen? ⟨w.heap.size + 1 + 1, 1, none⟩ = false := (hb.frozen (p := ⟨w.heap.size + 1 + 1, 1, none⟩) (by simp <;> omega)).trans (by go_simp)
  have hsz : w.heap.size + 1 + 1 < w1.heap.size := by have := hb.size; simp at this; omega
  clear hb
  rcases ha with ⟨hl, p1, m1, z1, rfl, ho, hn, hm⟩ | ⟨hl, rfl⟩
  · have HL : Hid (a + b < LIM) := hl
    have HN : Hid (Nf B64 z1 (a + b)) := hn
    have HOW : Hid (Own (w.heap.size + 1 + 1 + 1) w1 p1 m1 z1) := by have := ho; simp at this; exact this
    have HM : Hid (m1 ≤ 8192) := hm
    have hv : (s && decide (0 < m1)) = decide (z < 0) := by rw [HZ.out.2, hn.lenpos ho.len]
    clear hl hn ho hm
    go_wp2_with fail
    refine (signed_any s p1 m1 m1 w1).mono ?_
    rintro e w2 ⟨rfl, hb2⟩
    rw [hv]
    obtain ⟨sz, hs⟩ : ∃ sz, sz = decide (z < 0) := ⟨_, rfl⟩
    rw [← hs]
    have HSZ : Hid (sz = decide (z < 0)) := hs
    have dr0 : w2.cell? ⟨w.heap.size + 1 + 1, 0, none⟩ = some (.bool false) := (hb2.cell (p := ⟨w.heap.size + 1 + 1, 0, none⟩) hsz).trans cr0
    have dr1 : w2.cell? ⟨w.heap.size + 1 + 1, 1, none⟩ = some (.slice none 0 0) := (hb2.cell (p := ⟨w.heap.size + 1 + 1, 1, none⟩) hsz).trans cr1
    have er0 : w2.frozen? ⟨w.heap.size + 1 + 1, 0, none⟩ = false := (hb2.frozen (p := ⟨w.heap.size + 1 + 1, 0, none⟩) hsz).trans fr0
    have er1 : w2.frozen? ⟨w.heap.size + 1 + 1, 1, none⟩ = false := (hb2.frozen (p := ⟨w.heap.size + 1 + 1, 1, none⟩) hsz).trans fr1
    have HOW2 : Hid (Own (w.heap.size + 1 + 1 + 1) w2 p1 m1 z1) := HOW.out.below hb2
    have hbw2 := Below.on hbw hb2
    clear hv hs cr0 cr1 fr0 fr1 cx0 hbw hb2 hsz HOW
    go_wp2_with fail
    refine bodyPost_ret (v := .tuple #[ZV sz p1 m1 m1, .int .i64 0]) (by rw [results_cell_tmp rfl]; go_simp) rfl ⟨.inl ⟨by rw [HZ.out.1]; exact HL.out, p1, m1, z1, by rw [HSZ.out], ?_, by rw [HZ.out.1]; exact HN.out, HM.out⟩, ?_⟩
    · exact ((HOW2.out.setOld _ _ _ (by omega)).setOld _ _ _ (by omega)).mono (by omega)
    · exact bSet (bSet hbw2 _ _ _ (by omega)) _ _ _ (by omega)
  · have HL : Hid (LIM ≤ a + b) := hl
    clear hl
    go_wp2_with fail
    refine (signed_any s none 0 0 w1).mono ?_
    rintro e w2 ⟨rfl, hb2⟩
    have hv : (s && decide (0 < 0)) = false := by simp
    rw [hv]
    have dr0 : w2.cell? ⟨w.heap.size + 1 + 1, 0, none⟩ = some (.bool false) := (hb2.cell (p := ⟨w.heap.size + 1 + 1, 0, none⟩) hsz).trans cr0
    have dr1 : w2.cell? ⟨w.heap.size + 1 + 1, 1, none⟩ = some (.slice none 0 0) := (hb2.cell (p := ⟨w.heap.size + 1 + 1, 1, none⟩) hsz).trans cr1
    have er0 : w2.frozen? ⟨w.heap.size + 1 + 1, 0, none⟩ = false := (hb2.frozen (p := ⟨w.heap.size + 1 + 1, 0, none⟩) hsz).trans fr0
    have er1 : w2.frozen? ⟨w.heap.size + 1 + 1, 1, none⟩ = false := (hb2.frozen (p := ⟨w.heap.size + 1 + 1, 1, none⟩) hsz).trans fr1
    have hbw2 := Below.on hbw hb2
    clear hv cr0 cr1 fr0 fr1 cx0 hbw hb2 hsz
    go_wp2_with fail
    refine bodyPost_ret (v := .tuple #[ZV false none 0 0, .int .i64 5]) (by rw [results_cell_tmp rfl]; go_simp) rfl ⟨.inr ⟨by rw [HZ.out.1]; exact HL.out, rfl⟩, ?_⟩
    exact bSet (bSet hbw2 _ _ _ (by omega)) _ _ _ (by omega)

theorem sub_okN {p q : Option Addr} {n m c d : Nat} {xs ys : List Nat} {a b : Nat} {w : World} (h : At w p n c xs) (k : At w q m d ys) (hx : Nf B64 xs a) (hy : Nf B64 ys b) (hn : n ≤ 8192) (hm : m ≤ 8192) (hle : b ≤ a) :
    Calls Tryz.prog 96 #[.slice p n c, .slice q m d] w fun e w' => (∃ p m zs, e = .returned (.tuple #[.slice p m m, .int .i64 0]) ∧ Own w.heap.size w' p m zs ∧ Nf B64 zs (a - b) ∧ m ≤ 8192) ∧ Below w.heap.size w w' := by
  refine (sub_nf h k hx hy hn hm).mono ?_
  rintro e w' ⟨h1 | h1, hb⟩
  · exact ⟨h1.2, hb⟩
  · exact absurd h1.1 (by omega)
theorem cmp_wN {p q : Option Addr} {n m c d : Nat} {xs ys : List Nat} {a b : Nat} {w : World} (h : At w p n c xs) (k : At w q m d ys) (hx : Nf B64 xs a) (hy : Nf B64 ys b) :
    Calls Tryz.prog 68 #[.slice p n c, .slice q m d] w fun e w' => e = .returned (.int .i64 (cmpN a b)) ∧ ∃ r, w' = w.drewN r := by
  have := cmp_any h k
  rw [hx.val, hy.val] at this; exact this

theorem sum_ge {p q : Option Addr} {n m c d : Nat} {xs ys : List Nat} {a b : Nat} {w : World} (s : Bool) (h : Num w p n c xs a) (k : Num w q m d ys b) (hle : b ≤ a) :
    Calls Tryz.prog 80 #[ZV s p n c, ZV (!s) q m d] w fun e w' => AnsI w.heap.size w' e (iv s a + iv (!s) b) ∧ Below w.heap.size w w' := by
  obtain ⟨z, hz⟩ : ∃ z, z = iv s a + iv (!s) b := ⟨_, rfl⟩
  rw [← hz]
  have hab := iv_abs_diff s hle
  rw [← hz] at hab
  have HZ : Hid (z.natAbs = a - b ∧ decide (z < 0) = (s && decide (0 < a - b))) := hab
  have H : Hid (Num w p n c xs a) := h
  have K : Hid (Num w q m d ys b) := k
  have HLE : Hid (b ≤ a) := hle
  have HL : Hid (a - b < LIM) := Nat.lt_of_le_of_lt (Nat.sub_le _ _) h.lim
  have hss : (s == !s) = false := by cases s <;> rfl
  obtain ⟨cc, hcc⟩ : ∃ cc, cc = cmpN a b := ⟨_, rfl⟩
  have hcn : decide (cc < 0) = false := decide_eq_false (by rw [hcc, cmpN_neg]; omega)
  have HCC : Hid (cc = cmpN a b) := hcc
  clear hz hab h k hle hcc
  go_enter Tryz.func80, Tryz.ntmps80
  go_wp2_with fail
  refine (cmp_wN (H.out.at_.alloc3 _ _ _) (K.out.at_.alloc3 _ _ _) H.out.nf K.out.nf).mono ?_
  rintro e w2 ⟨rfl, r2, rfl⟩
  rw [← HCC.out]
  go_wp2_with fail
  refine (sub_okN ((H.out.at_.alloc3 _ _ _).drewN r2) ((K.out.at_.alloc3 _ _ _).drewN r2) H.out.nf K.out.nf H.out.le K.out.le HLE.out).mono ?_
  rintro e w3 ⟨⟨p1, m1, z1, rfl, ho, hn, hm⟩, hb3⟩
  have hbw3 := Below.on (bDrewN (below3 w _ _ _) r2) hb3
  have cx0 : w3.cell? ⟨w.heap.size, 0, none⟩ = some (.bool s) := (hb3.cell (p := ⟨w.heap.size, 0, none⟩) (by simp <;> omega)).trans (by go_simp)
  have cr0 : w3.cell? ⟨w.heap.size + 1 + 1, 0, none⟩ = some (.bool false) := (hb3.cell (p := ⟨w.heap.size + 1 + 1, 0, none⟩) (by simp <;> omega)).trans (by go_simp)
  have cr1 : w3.cell? ⟨w.heap.size + 1 + 1, 1, none⟩ = some (.slice none 0 0) := (hb3.cell (p := ⟨w.heap.size + 1 + 1, 1, none⟩) (by simp <;> omega)).trans (by go_simp)
  have fr0 : w3.frozen? ⟨w.heap.size + 1 + 1, 0, none⟩ = false := (hb3.frozen (p := ⟨w.heap.size + 1 + 1, 0, none⟩) (by simp <;> omega)).trans (by go_simp)
  have fr1 : w3.frozen? ⟨w.heap.size + 1 + 1, 1, none⟩ = false := (hb3.frozen (p := ⟨w.heap.size + 1 + 1, 1, none⟩) (by simp <;> omega)).trans (by go_simp)
  have hsz : w.heap.size + 1 + 1 < w3.heap.size := by have := hb3.size; simp at this; omega
  have HN : Hid (Nf B64 z1 (a - b)) := hn
  have HOW : Hid (Own (w.heap.size + 1 + 1 + 1) w3 p1 m1 z1) := ho.mono (by simp)
  have HM : Hid (m1 ≤ 8192) := hm
  have hv : (s && decide (0 < m1)) = decide (z < 0) := by rw [HZ.out.2, hn.lenpos ho.len]
  clear hn ho hm hb3
  go_wp2_with fail
  refine (signed_any s p1 m1 m1 w3).mono ?_
  rintro e w4 ⟨rfl, hb4⟩
  rw [hv]
  obtain ⟨sz, hs⟩ : ∃ sz, sz = decide (z < 0) := ⟨_, rfl⟩
  rw [← hs]
  have HSZ : Hid (sz = decide (z < 0)) := hs
  have dr0 : w4.cell? ⟨w.heap.size + 1 + 1, 0, none⟩ = some (.bool false) := (hb4.cell (p := ⟨w.heap.size + 1 + 1, 0, none⟩) hsz).trans cr0
  have dr1 : w4.cell? ⟨w.heap.size + 1 + 1, 1, none⟩ = some (.slice none 0 0) := (hb4.cell (p := ⟨w.heap.size + 1 + 1, 1, none⟩) hsz).trans cr1
  have er0 : w4.frozen? ⟨w.heap.size + 1 + 1, 0, none⟩ = false := (hb4.frozen (p := ⟨w.heap.size + 1 + 1, 0, none⟩) hsz).trans fr0
  have er1 : w4.frozen? ⟨w.heap.size + 1 + 1, 1, none⟩ = false := (hb4.frozen (p := ⟨w.heap.size + 1 + 1, 1, none⟩) hsz).trans fr1
  have HOW2 : Hid (Own (w.heap.size + 1 + 1 + 1) w4 p1 m1 z1) := HOW.out.below hb4
  have hbw4 := Below.on hbw3 hb4
  clear hv hs cr0 cr1 fr0 fr1 cx0 hbw3 hb4 hsz HOW
  go_wp2_with fail
  refine bodyPost_ret (v := .tuple #[ZV sz p1 m1 m1, .int .i64 0]) (by rw [results_cell_tmp rfl]; go_simp) rfl ⟨.inl ⟨by rw [HZ.out.1]; exact HL.out, p1, m1, z1, by rw [HSZ.out], ?_, by rw [HZ.out.1]; exact HN.out, HM.out⟩, ?_⟩
  · exact ((HOW2.out.setOld _ _ _ (by omega)).setOld _ _ _ (by omega)).mono (by omega)
  · exact bSet (bSet hbw4 _ _ _ (by omega)) _ _ _ (by omega)

theorem sum_lt {p q : Option Addr} {n m c d : Nat} {xs ys : List Nat} {a b : Nat} {w : World} (s : Bool) (h : Num w p n c xs a) (k : Num w q m d ys b) (hlt : a < b) :
    Calls Tryz.prog 80 #[ZV s p n c, ZV (!s) q m d] w fun e w' => AnsI w.heap.size w' e (iv s a + iv (!s) b) ∧ Below w.heap.size w w' := by
  obtain ⟨z, hz⟩ : ∃ z, z = iv s a + iv (!s) b := ⟨_, rfl⟩
  rw [← hz]
  obtain ⟨t, ht⟩ : ∃ t, t = !s := ⟨_, rfl⟩
  have hst : s = !t := by rw [ht]; simp
  have hab := iv_abs_diff t (Nat.le_of_lt hlt)
  rw [← hst, ht, Int.add_comm, ← hz, ← ht] at hab
  rw [← ht]
  have HZ : Hid (z.natAbs = b - a ∧ decide (z < 0) = (t && decide (0 < b - a))) := hab
  have H : Hid (Num w p n c xs a) := h
  have K : Hid (Num w q m d ys b) := k
  have HLE : Hid (a ≤ b) := Nat.le_of_lt hlt
  have hss : (s == t) = false := by rw [ht]; cases s <;> rfl
  have HCC : Hid (cmpN a b = -1) := cmpN_lt hlt
  clear hz hab h k hlt ht hst
  go_enter Tryz.func80, Tryz.ntmps80
  go_wp2_with fail
  refine (cmp_wN (H.out.at_.alloc3 _ _ _) (K.out.at_.alloc3 _ _ _) H.out.nf K.out.nf).mono ?_
  rintro e w2 ⟨rfl, r2, hw2⟩
  rw [HCC.out]
  have c00 : w2.cell? ⟨w.heap.size, 0, none⟩ = some (.bool s) := by rw [hw2]; go_simp
  have c01 : w2.cell? ⟨w.heap.size, 1, none⟩ = some (.slice p n c) := by rw [hw2]; go_simp
  have c10 : w2.cell? ⟨w.heap.size + 1, 0, none⟩ = some (.bool t) := by rw [hw2]; go_simp
  have c11 : w2.cell? ⟨w.heap.size + 1, 1, none⟩ = some (.slice q m d) := by rw [hw2]; go_simp
  have c20 : w2.cell? ⟨w.heap.size + 1 + 1, 0, none⟩ = some (.bool false) := by rw [hw2]; go_simp
  have c21 : w2.cell? ⟨w.heap.size + 1 + 1, 1, none⟩ = some (.slice none 0 0) := by rw [hw2]; go_simp
  have f00 : w2.frozen? ⟨w.heap.size, 0, none⟩ = false := by rw [hw2]; go_simp
  have f01 : w2.frozen? ⟨w.heap.size, 1, none⟩ = false := by rw [hw2]; go_simp
  have f10 : w2.frozen? ⟨w.heap.size + 1, 0, none⟩ = false := by rw [hw2]; go_simp
  have f11 : w2.frozen? ⟨w.heap.size + 1, 1, none⟩ = false := by rw [hw2]; go_simp
  have f20 : w2.frozen? ⟨w.heap.size + 1 + 1, 0, none⟩ = false := by rw [hw2]; go_simp
  have f21 : w2.frozen? ⟨w.heap.size + 1 + 1, 1, none⟩ = false := by rw [hw2]; go_simp
  have hb2 : Below w.heap.size w w2 := by rw [hw2]; exact bDrewN (below3 w _ _ _) r2
  have hs2 : w2.heap.size = w.heap.size + 1 + 1 + 1 := by rw [hw2]; simp
  have HS2 : Hid (w2.heap.size = w.heap.size + 1 + 1 + 1) := hs2
  have HB2 : Hid (Below w.heap.size w w2) := hb2
  clear hw2 hb2 hs2
  obtain ⟨hs, ehs⟩ : ∃ hs, hs = w.heap.size := ⟨_, rfl⟩
  have HHS : Hid (hs = w.heap.size) := ehs
  rw [← ehs] at c00 c01 c10 c11 c20 c21 f00 f01 f10 f11 f20 f21 HS2 HB2 ⊢
  clear ehs
  go_wp2_with fail
  have hbw4 := bSet (bSet (bSet (bSet HB2.out hs 0 (.bool t) (Nat.le_refl _)) hs 1 (.slice q m d) (Nat.le_refl _)) (hs + 1) 0 (.bool s) (by omega)) (hs + 1) 1 (.slice p n c) (by omega)
  have hsz4 : ((((w2.setCell ⟨hs, 0, none⟩ (.bool t)).setCell ⟨hs, 1, none⟩ (.slice q m d)).setCell ⟨hs + 1, 0, none⟩ (.bool s)).setCell ⟨hs + 1, 1, none⟩ (.slice p n c)).heap.size = hs + 1 + 1 + 1 := by simp [World.setCell]; exact HS2.out
  have d00 : ((((w2.setCell ⟨hs, 0, none⟩ (.bool t)).setCell ⟨hs, 1, none⟩ (.slice q m d)).setCell ⟨hs + 1, 0, none⟩ (.bool s)).setCell ⟨hs + 1, 1, none⟩ (.slice p n c)).cell? ⟨hs, 0, none⟩ = some (.bool t) := by go_simp
  have d20 : ((((w2.setCell ⟨hs, 0, none⟩ (.bool t)).setCell ⟨hs, 1, none⟩ (.slice q m d)).setCell ⟨hs + 1, 0, none⟩ (.bool s)).setCell ⟨hs + 1, 1, none⟩ (.slice p n c)).cell? ⟨hs + 1 + 1, 0, none⟩ = some (.bool false) := by go_simp
  have d21 : ((((w2.setCell ⟨hs, 0, none⟩ (.bool t)).setCell ⟨hs, 1, none⟩ (.slice q m d)).setCell ⟨hs + 1, 0, none⟩ (.bool s)).setCell ⟨hs + 1, 1, none⟩ (.slice p n c)).cell? ⟨hs + 1 + 1, 1, none⟩ = some (.slice none 0 0) := by go_simp
  have g20 : ((((w2.setCell ⟨hs, 0, none⟩ (.bool t)).setCell ⟨hs, 1, none⟩ (.slice q m d)).setCell ⟨hs + 1, 0, none⟩ (.bool s)).setCell ⟨hs + 1, 1, none⟩ (.slice p n c)).frozen? ⟨hs + 1 + 1, 0, none⟩ = false := by go_simp
  have g21 : ((((w2.setCell ⟨hs, 0, none⟩ (.bool t)).setCell ⟨hs, 1, none⟩ (.slice q m d)).setCell ⟨hs + 1, 0, none⟩ (.bool s)).setCell ⟨hs + 1, 1, none⟩ (.slice p n c)).frozen? ⟨hs + 1 + 1, 1, none⟩ = false := by go_simp
  generalize ((((w2.setCell ⟨hs, 0, none⟩ (.bool t)).setCell ⟨hs, 1, none⟩ (.slice q m d)).setCell ⟨hs + 1, 0, none⟩ (.bool s)).setCell ⟨hs + 1, 1, none⟩ (.slice p n c)) = W4 at *
  rw [HHS.out] at hbw4
  refine (sub_okN (K.out.at_.below hbw4) (H.out.at_.below hbw4) K.out.nf H.out.nf K.out.le H.out.le HLE.out).mono ?_
  rintro e w3 ⟨⟨p1, m1, z1, rfl, ho, hn, hm⟩, hb3⟩
  have hbw3 := Below.on hbw4 hb3
  have cx0 : w3.cell? ⟨hs, 0, none⟩ = some (.bool t) := (hb3.cell (p := ⟨hs, 0, none⟩) (by simp; omega)).trans d00
  have cr0 : w3.cell? ⟨hs + 1 + 1, 0, none⟩ = some (.bool false) := (hb3.cell (p := ⟨hs + 1 + 1, 0, none⟩) (by simp; omega)).trans d20
  have cr1 : w3.cell? ⟨hs + 1 + 1, 1, none⟩ = some (.slice none 0 0) := (hb3.cell (p := ⟨hs + 1 + 1, 1, none⟩) (by simp; omega)).trans d21
  have fr0 : w3.frozen? ⟨hs + 1 + 1, 0, none⟩ = false := (hb3.frozen (p := ⟨hs + 1 + 1, 0, none⟩) (by simp; omega)).trans g20
  have fr1 : w3.frozen? ⟨hs + 1 + 1, 1, none⟩ = false := (hb3.frozen (p := ⟨hs + 1 + 1, 1, none⟩) (by simp; omega)).trans g21
  have hsz : hs + 1 + 1 < w3.heap.size := by have := hb3.size; omega
  have HN : Hid (Nf B64 z1 (b - a)) := hn
  have HOW : Hid (Own (hs + 1 + 1 + 1) w3 p1 m1 z1) := ho.mono (by omega)
  have HM : Hid (m1 ≤ 8192) := hm
  have hv : (t && decide (0 < m1)) = decide (z < 0) := by rw [HZ.out.2, hn.lenpos ho.len]
  clear hn ho hm hb3 d00 d20 d21 g20 g21 c00 c01 c10 c11 c20 c21 f00 f01 f10 f11 f20 f21 hsz4 hbw4
  go_wp2_with fail
  refine (signed_any t p1 m1 m1 w3).mono ?_
  rintro e w4 ⟨rfl, hb4⟩
  rw [hv]
  obtain ⟨sz, hss2⟩ : ∃ sz, sz = decide (z < 0) := ⟨_, rfl⟩
  rw [← hss2]
  have HSZ : Hid (sz = decide (z < 0)) := hss2
  have dr0 : w4.cell? ⟨hs + 1 + 1, 0, none⟩ = some (.bool false) := (hb4.cell (p := ⟨hs + 1 + 1, 0, none⟩) hsz).trans cr0
  have dr1 : w4.cell? ⟨hs + 1 + 1, 1, none⟩ = some (.slice none 0 0) := (hb4.cell (p := ⟨hs + 1 + 1, 1, none⟩) hsz).trans cr1
  have er0 : w4.frozen? ⟨hs + 1 + 1, 0, none⟩ = false := (hb4.frozen (p := ⟨hs + 1 + 1, 0, none⟩) hsz).trans fr0
  have er1 : w4.frozen? ⟨hs + 1 + 1, 1, none⟩ = false := (hb4.frozen (p := ⟨hs + 1 + 1, 1, none⟩) hsz).trans fr1
  have HOW2 : Hid (Own (hs + 1 + 1 + 1) w4 p1 m1 z1) := HOW.out.below hb4
  have hbz := Below.on hbw3 hb4
  clear hv hss2 cr0 cr1 fr0 fr1 cx0 hbw3 hb4 hsz HOW
  go_wp2_with fail
  refine bodyPost_ret (v := .tuple #[ZV sz p1 m1 m1, .int .i64 0]) (by rw [results_cell_tmp rfl]; go_simp) rfl ⟨.inl ⟨by rw [HZ.out.1]; exact Nat.lt_of_le_of_lt (Nat.sub_le _ _) K.out.lim, p1, m1, z1, by rw [HSZ.out], ?_, by rw [HZ.out.1]; exact HN.out, HM.out⟩, ?_⟩
  · exact ((HOW2.out.setOld _ _ _ (by omega)).setOld _ _ _ (by omega)).mono (by have := HHS.out; omega)
  · exact bSet (bSet hbz _ _ _ (by have := HHS.out; omega)) _ _ _ (by have := HHS.out; omega)
theorem sum_any {p q : Option Addr} {n m c d : Nat} {xs ys : List Nat} {a b : Nat} {w : World} (s t : Bool) (h : Num w p n c xs a) (k : Num w q m d ys b) :
    Calls Tryz.prog 80 #[ZV s p n c, ZV t q m d] w fun e w' => AnsI w.heap.size w' e (iv s a + iv t b) ∧ Below w.heap.size w w' := by
  by_cases e : s = t
  · subst e; exact sum_same s h k
  · obtain rfl : t = !s := by revert e; cases s <;> cases t <;> simp
    rcases Nat.lt_or_ge a b with hl | hl
    · exact sum_lt s h k hl
    · exact sum_ge s h k hl
theorem bDrew1 {B : Nat} {a w : World} (h : Below B a w) : Below B a w.drew := ⟨h.os, h.tape, h.output, h.size, h.block⟩
theorem Row.snoc {w : World} {g off m : Nat} {zs : List Nat} (h : Row w g off m zs) {y : Nat} (hc : w.cell? ⟨g, off + m, none⟩ = some (U y)) (hf : w.frozen? ⟨g, off + m, none⟩ = false) (hy : y < B64) : Row w g off (m + 1) (zs ++ [y]) := by
  have hl := h.len
  refine ⟨by simp; omega, h.dig.append (dig1 hy), fun j hj => ?_, fun j hj => ?_⟩
  · by_cases e : j = m
    · subst e
      rw [List.getD_eq_getElem?_getD, List.getElem?_append_right (by omega)]
      simpa [hl] using hc
    · rw [List.getD_eq_getElem?_getD, List.getElem?_append_left (by omega), ← List.getD_eq_getElem?_getD]
      exact h.cell j (by omega)
  · by_cases e : j = m
    · subst e; exact hf
    · exact h.frozen j (by omega)

structure MulRel (w : World) (g off m : Nat) (zs ys : List Nat) (v k cy : Nat) (dk : List Nat) (wr : World) : Prop where
  wrs : Wr g off m w wr
  row : Row wr g off m dk
  hi : dk.drop k = zs.drop k
  car : cy < B64
  sum : valB B64 (dk.take k) + B64 ^ k * cy = valB B64 (zs.take k) + valB B64 (ys.take k) * v

theorem MulRel.step {w : World} {g off m : Nat} {zs ys : List Nat} {v k cy : Nat} {dk : List Nat} {wr : World} (h : MulRel w g off m zs ys v k cy dk wr) (hk : k < m)
    {x z l d : Nat} (hz : z = dk.getD k 0) (hx : x = ys.getD k 0) (hs : x * v + z + cy = l + B64 * d) (hl : l < B64) (hd : d < B64) :
    MulRel w g off m zs ys v (k + 1) d (dk.set k l) (wr.setCell ⟨g, off + k, none⟩ (U l)) := by
  have hlen := h.row.len
  refine ⟨h.wrs.setCell (off + k) ⟨by omega, by omega⟩ _, h.row.set k l hk hl, ?_, hd, ?_⟩
  · rw [drop_set_lt]; exact drop_succ_of_drop h.hi
  · have hzz : z = zs.getD k 0 := hz.trans (getD_of_drop h.hi)
    rw [take_set_succ dk k l (by omega), valB_snoc, List.length_take, hlen, Nat.min_eq_left (by omega), valB_take_any _ zs k, valB_take_any _ ys k, ← hzz, ← hx, Nat.pow_succ, Nat.add_mul]
    have e1 := h.sum
    have e2 : B64 ^ k * (x * v + z + cy) = B64 ^ k * (l + B64 * d) := by rw [hs]
    rw [Nat.mul_add, Nat.mul_add, Nat.mul_add, ← Nat.mul_assoc] at e2
    have e3 : B64 ^ k * x * v = B64 ^ k * (x * v) := Nat.mul_assoc _ _ _
    have e4 : B64 ^ k * B64 * d = B64 ^ k * (B64 * d) := Nat.mul_assoc _ _ _
    rw [e3, e4]
    rw [← Nat.mul_assoc] at e2
    generalize B64 ^ k * x * v = X0 at *
    generalize B64 ^ k * (x * v) = X1 at *
    generalize B64 ^ k * B64 * d = X2 at *
    generalize B64 ^ k * (B64 * d) = X3 at *
    generalize B64 ^ k * z = X4 at *
    generalize B64 ^ k * cy = X5 at *
    generalize B64 ^ k * l = X6 at *
    omega
end Go.Proofs.YthobkfkeaealhaaGreatDoor
namespace Go.Proofs.YthobkfkeaealhaaGreatDoor
open Go.RowKit
set_option maxRecDepth 20000
set_option maxHeartbeats 0
structure Chg (S : Nat → Nat → Prop) (w w' : World) : Prop where
  os : w'.os = w.os
  tape : w'.tape = w.tape
  output : w'.output = w.output
  size : w.heap.size ≤ w'.heap.size
  row : ∀ k cur t fr, w.heap[k]? = some (.cells cur t fr) → ∃ cur', w'.heap[k]? = some (.cells cur' t fr) ∧ cur'.size = cur.size ∧ ∀ j, ¬ S k j → cur'[j]? = cur[j]?
  other : ∀ k, k < w.heap.size → (∀ cur t fr, w.heap[k]? ≠ some (.cells cur t fr)) → w'.heap[k]? = w.heap[k]?

def Rg (g off n : Nat) : Nat → Nat → Prop := fun b o => b = g ∧ off ≤ o ∧ o < off + n
def Dj (g off n g' off' n' : Nat) : Prop := g ≠ g' ∨ off + n ≤ off' ∨ off' + n' ≤ off
theorem Dj.symm {g off n g' off' n' : Nat} (h : Dj g off n g' off' n') : Dj g' off' n' g off n := by unfold Dj at *; omega
theorem Dj.sub {g off n g' off' n' o m : Nat} (h : Dj g off n g' off' n') (h1 : off ≤ o) (h2 : o + m ≤ off + n) : Dj g o m g' off' n' := by unfold Dj at *; omega
theorem Dj.not {g off n g' off' n' j : Nat} (h : Dj g off n g' off' n') (hj : j < n) : ¬ Rg g' off' n' g (off + j) := by unfold Dj Rg at *; omega

theorem Chg.refl (S : Nat → Nat → Prop) (w : World) : Chg S w w := ⟨rfl, rfl, rfl, Nat.le_refl _, fun _ cur _ _ h => ⟨cur, h, rfl, fun _ _ => rfl⟩, fun _ _ _ => rfl⟩
theorem Chg.mono {S S' : Nat → Nat → Prop} {w w' : World} (h : Chg S w w') (hS : ∀ b o, S b o → S' b o) : Chg S' w w' := by
  refine ⟨h.os, h.tape, h.output, h.size, fun k cur t fr hk => ?_, h.other⟩
  obtain ⟨c, h1, h2, h3⟩ := h.row k cur t fr hk
  exact ⟨c, h1, h2, fun j hj => h3 j (fun hs => hj (hS k j hs))⟩
theorem Chg.trans {S : Nat → Nat → Prop} {a b c : World} (h : Chg S a b) (k : Chg S b c) : Chg S a c := by
  refine ⟨k.os.trans h.os, k.tape.trans h.tape, k.output.trans h.output, Nat.le_trans h.size k.size, fun i cur t fr hi => ?_, fun i hi hn => ?_⟩
  · obtain ⟨c1, g1, s1, e1⟩ := h.row i cur t fr hi
    obtain ⟨c2, g2, s2, e2⟩ := k.row i c1 t fr g1
    exact ⟨c2, g2, s2.trans s1, fun j hj => (e2 j hj).trans (e1 j hj)⟩
  · have e1 := h.other i hi hn
    rw [← e1]
    exact k.other i (Nat.lt_of_lt_of_le hi h.size) (by rw [e1]; exact hn)
theorem Wr.chg {g off n : Nat} {w w' : World} (h : Wr g off n w w') : Chg (Rg g off n) w w' := by
  refine ⟨h.os, h.tape, h.output, by rw [h.size]; exact Nat.le_refl _, fun k cur t fr hk => ?_, fun k _ hn => ?_⟩
  · by_cases e : k = g
    · subst e
      obtain ⟨c, h1, h2, h3⟩ := h.row cur t fr hk
      exact ⟨c, h1, h2, fun j hj => h3 j (by unfold Rg at hj; omega)⟩
    · exact ⟨cur, by rw [h.block k e]; exact hk, rfl, fun _ _ => rfl⟩
  · by_cases e : k = g
    · subst e; exact h.other hn
    · exact h.block k e
theorem Chg.drewN {S : Nat → Nat → Prop} {w w' : World} (h : Chg S w w') (q : Nat) : Chg S w (w'.drewN q) := ⟨h.os, h.tape, h.output, h.size, h.row, h.other⟩
theorem Chg.drew {S : Nat → Nat → Prop} {w w' : World} (h : Chg S w w') : Chg S w w'.drew := ⟨h.os, h.tape, h.output, h.size, h.row, h.other⟩
theorem Chg.cell {S : Nat → Nat → Prop} {w w' : World} (h : Chg S w w') {b o : Nat} {v : Value} (hn : ¬ S b o) (hc : w.cell? ⟨b, o, none⟩ = some v) : w'.cell? ⟨b, o, none⟩ = some v := by
  obtain ⟨c, e, fr, hb, hv⟩ := Sort.cells_of_cell? hc
  obtain ⟨c', h1, _, h3⟩ := h.row b c e fr hb
  rw [cell_of_row w' b o c' e fr h1, h3 o hn]; exact hv
theorem Chg.frozen {S : Nat → Nat → Prop} {w w' : World} (h : Chg S w w') {b o : Nat} {v : Value} (hc : w.cell? ⟨b, o, none⟩ = some v) : w'.frozen? ⟨b, o, none⟩ = w.frozen? ⟨b, o, none⟩ := by
  obtain ⟨c, e, fr, hb, hv⟩ := Sort.cells_of_cell? hc
  obtain ⟨c', h1, _, h3⟩ := h.row b c e fr hb
  simp [World.frozen?, hb, h1]
theorem Chg.below {S : Nat → Nat → Prop} {w w' : World} (h : Chg S w w') {B : Nat} (hS : ∀ b o, S b o → B ≤ b) (hB : B ≤ w.heap.size) : Below B w w' := by
  refine ⟨h.os, h.tape, h.output, h.size, fun k hk => ?_⟩
  by_cases hc : ∃ cur t fr, w.heap[k]? = some (.cells cur t fr)
  · obtain ⟨cur, t, fr, hcur⟩ := hc
    obtain ⟨c', h1, h2, h3⟩ := h.row k cur t fr hcur
    have e : c' = cur := by
      apply Array.ext_getElem?
      intro j
      exact h3 j (fun hs => by have := hS k j hs; omega)
    rw [h1, hcur, e]
  · exact h.other k (by omega) (fun cur t fr e => hc ⟨cur, t, fr, e⟩)
theorem Below.chg {w w' : World} (h : Below w.heap.size w w') (S : Nat → Nat → Prop) : Chg S w w' := by
  refine ⟨h.os, h.tape, h.output, h.size, fun k cur t fr hk => ?_, fun k hk _ => h.block k hk⟩
  have hlt : k < w.heap.size := (Array.getElem?_eq_some_iff.1 hk).1
  exact ⟨cur, by rw [h.block k hlt]; exact hk, rfl, fun _ _ => rfl⟩

structure Rd (w : World) (g off n : Nat) (xs : List Nat) : Prop where
  len : xs.length = n
  dig : Dig B64 xs
  cell : ∀ j, j < n → w.cell? ⟨g, off + j, none⟩ = some (U (xs.getD j 0))
theorem Rd.at_ {w : World} {g off n c : Nat} {xs : List Nat} (h : Rd w g off n xs) (hc : n ≤ c) (hb : c ≤ maxLen) : At w (some ⟨g, off, none⟩) n c xs := ⟨h.len, hc, hb, h.dig, .inr ⟨g, off, rfl, h.cell⟩⟩
theorem Rd.chg {w w' : World} {S : Nat → Nat → Prop} {g off n : Nat} {xs : List Nat} (h : Rd w g off n xs) (hc : Chg S w w') (hd : ∀ j, j < n → ¬ S g (off + j)) : Rd w' g off n xs :=
  ⟨h.len, h.dig, fun j hj => hc.cell (hd j hj) (h.cell j hj)⟩
theorem Row.chg {w w' : World} {S : Nat → Nat → Prop} {g off n : Nat} {xs : List Nat} (h : Row w g off n xs) (hc : Chg S w w') (hd : ∀ j, j < n → ¬ S g (off + j)) : Row w' g off n xs :=
  ⟨h.len, h.dig, fun j hj => hc.cell (hd j hj) (h.cell j hj), fun j hj => by rw [hc.frozen (h.cell j hj)]; exact h.frozen j hj⟩
theorem Row.sub {w : World} {g off n : Nat} {xs : List Nat} (h : Row w g off n xs) (k m : Nat) (hkm : k + m ≤ n) : Row w g (off + k) m ((xs.drop k).take m) := by
  have hl := h.len
  refine ⟨by simp; omega, (h.dig.drop k).take m, fun j hj => ?_, fun j hj => by rw [Nat.add_assoc]; exact h.frozen (k + j) (by omega)⟩
  have e : ((xs.drop k).take m).getD j 0 = xs.getD (k + j) 0 := by rw [List.getD_eq_getElem?_getD, List.getD_eq_getElem?_getD, List.getElem?_take, if_pos hj, List.getElem?_drop]
  rw [e, Nat.add_assoc]; exact h.cell (k + j) (by omega)
theorem Rd.sub {w : World} {g off n : Nat} {xs : List Nat} (h : Rd w g off n xs) (k m : Nat) (hkm : k + m ≤ n) : Rd w g (off + k) m ((xs.drop k).take m) := by
  have hl := h.len
  refine ⟨by simp; omega, (h.dig.drop k).take m, fun j hj => ?_⟩
  have e : ((xs.drop k).take m).getD j 0 = xs.getD (k + j) 0 := by rw [List.getD_eq_getElem?_getD, List.getD_eq_getElem?_getD, List.getElem?_take, if_pos hj, List.getElem?_drop]
  rw [e, Nat.add_assoc]; exact h.cell (k + j) (by omega)
theorem Row.join {w : World} {g off n m : Nat} {xs ys : List Nat} (h : Row w g off n xs) (k : Row w g (off + n) m ys) : Row w g off (n + m) (xs ++ ys) := by
  have hl := h.len
  have kl := k.len
  refine ⟨by simp; omega, h.dig.append k.dig, fun j hj => ?_, fun j hj => ?_⟩
  · by_cases e : j < n
    · rw [List.getD_eq_getElem?_getD, List.getElem?_append_left (by omega), ← List.getD_eq_getElem?_getD]; exact h.cell j e
    · rw [List.getD_eq_getElem?_getD, List.getElem?_append_right (by omega), ← List.getD_eq_getElem?_getD, hl]
      have := k.cell (j - n) (by omega)
      rw [Nat.add_assoc, show n + (j - n) = j by omega] at this; exact this
  · by_cases e : j < n
    · exact h.frozen j e
    · have := k.frozen (j - n) (by omega)
      rw [Nat.add_assoc, show n + (j - n) = j by omega] at this; exact this
theorem Wr.setCells {g : Nat} : ∀ (vs : List Value) (off : Nat) (w : World), Wr g off vs.length w (w.setCells g off vs)
  | [], off, w => Wr.refl _ _ _ _
  | v :: r, off, w => by
    have h1 : Wr g off (r.length + 1) w (w.setCell ⟨g, off, none⟩ v) := (Wr.refl g off (r.length + 1) w).setCell off ⟨by omega, by omega⟩ v
    have h2 := Wr.setCells (g := g) r (off + 1) (w.setCell ⟨g, off, none⟩ v)
    exact h1.trans (h2.mono (by omega) (by omega))
structure RowsRel (w : World) (g off n m : Nat) (xs ys : List Nat) (i : Nat) (dk : List Nat) (wr : World) : Prop where
  wrs : Wr g off (n + m) w wr
  row : Row wr g off (n + m) dk
  val : valB B64 dk = valB B64 xs * valB B64 (ys.take i)
  top : dk.drop (i + n) = List.replicate (m - i) 0

theorem rows_val {xs ys dk zs2 : List Nat} {n m k cy y : Nat} (hl : dk.length = n + m) (hk : k < m) (hy : y = ys.getD k 0) (hv : valB B64 dk = valB B64 xs * valB B64 (ys.take k)) (ht : dk.drop (k + n) = List.replicate (m - k) 0)
    (hz : zs2.length = n) (hs : valB B64 zs2 + B64 ^ n * cy = valB B64 ((dk.drop k).take n) + valB B64 xs * y) : valB B64 (dk.take k ++ (zs2 ++ [cy] ++ List.replicate (m - k - 1) 0)) = valB B64 xs * valB B64 (ys.take (k + 1)) := by
  have e1 : valB B64 dk = valB B64 (dk.take k) + B64 ^ k * valB B64 ((dk.drop k).take n) := by
    rw [valB_split B64 dk k (by omega), valB_split B64 (dk.drop k) n (by simp; omega), List.drop_drop, ht, valB_replicate]; simp
  rw [valB_append, List.length_take, Nat.min_eq_left (by omega), valB_append_zeros, valB_snoc, hz, hs, valB_take_any _ ys k, ← hy, Nat.mul_add, Nat.mul_add, ← Nat.add_assoc, ← e1, hv]
  rw [show B64 ^ k * (valB B64 xs * y) = valB B64 xs * (B64 ^ k * y) by rw [← Nat.mul_assoc, ← Nat.mul_assoc, Nat.mul_comm (B64 ^ k)]]
theorem RowsRel.step {w : World} {g off n m : Nat} {xs ys : List Nat} {k : Nat} {dk : List Nat} {wr w2 w3 : World} (h : RowsRel w g off n m xs ys k dk wr) (hk : k < m) {y cy : Nat} (hy : y = ys.getD k 0) {zs2 : List Nat} (hcy : cy < B64)
    (hw2 : Wr g (off + k) n wr.drew w2) (hr2 : Row w2 g (off + k) n zs2) (hs : valB B64 zs2 + B64 ^ n * cy = valB B64 ((dk.drop k).take n) + valB B64 xs * y) (hc : w2.cell? ⟨g, off + (k + n), none⟩ = some (U 0)) (hf : w2.frozen? ⟨g, off + (k + n), none⟩ = false)
    (hw3 : w3 = w2.setCell ⟨g, off + (k + n), none⟩ (U cy)) : RowsRel w g off n m xs ys (k + 1) (dk.take k ++ (zs2 ++ [cy] ++ List.replicate (m - k - 1) 0)) w3 := by
  have hl := h.row.len
  have hW23 : Wr g (off + (k + n)) 1 w2 w3 := by rw [hw3]; exact (Wr.refl g (off + (k + n)) 1 w2).setCell _ ⟨by omega, by omega⟩ _
  have hlen2 : (dk.take k ++ (zs2 ++ [cy] ++ List.replicate (m - k - 1) 0)).length = n + m := by simp [hr2.len]; omega
  have lo : Row w3 g off k (dk.take k) := by
    have h0 := (h.row.take k (by omega)).drew
    exact (h0.chg hw2.chg (fun j hj => by unfold Rg; omega)).chg hW23.chg (fun j hj => by unfold Rg; omega)
  have mid : Row w3 g (off + k) n zs2 := hr2.chg hW23.chg (fun j hj => by unfold Rg; omega)
  have one : Row w3 g (off + k) (n + 1) (zs2 ++ [cy]) := by
    refine mid.snoc ?_ ?_ hcy
    · rw [hw3, Nat.add_assoc]; exact World.cell?_setCell_same _ _ _ hc
    · rw [hw3, Nat.add_assoc, World.frozen?_setCell]; exact hf
  have hi : Row w3 g (off + k + (n + 1)) (m - k - 1) (List.replicate (m - k - 1) 0) := by
    have h0 := (h.row.sub (k + n + 1) (m - k - 1) (by omega)).drew
    have e : (dk.drop (k + n + 1)).take (m - k - 1) = List.replicate (m - k - 1) 0 := by
      rw [← List.drop_drop, h.top, List.drop_replicate, List.take_replicate]; simp
    rw [e] at h0
    have h1 := (h0.chg hw2.chg (fun j hj => by unfold Rg; omega)).chg hW23.chg (fun j hj => by unfold Rg; omega)
    rw [show off + (k + n + 1) = off + k + (n + 1) by omega] at h1; exact h1
  have all := lo.join (one.join hi)
  rw [show k + (n + 1 + (m - k - 1)) = n + m by omega] at all
  have hWd : Wr g off (n + m) w wr.drew := h.wrs.drew
  refine ⟨(hWd.trans (hw2.mono (by omega) (by omega))).trans (hW23.mono (by omega) (by omega)), all, rows_val hl hk hy h.val h.top hr2.len hs, ?_⟩
  rw [show k + 1 + n = k + (n + 1) by omega, List.drop_append, List.drop_eq_nil_of_le (by simp; omega), List.nil_append, List.length_take, hl, Nat.min_eq_left (by omega), Nat.add_sub_cancel_left, List.drop_append, List.drop_eq_nil_of_le (by simp [hr2.len]), List.nil_append]
  simp [hr2.len]; omega
theorem Row.copied {w : World} {g off n : Nat} {zs : List Nat} (h : Row w g off n zs) (xs : List Nat) (hd : Dig B64 xs) (hx : xs.length ≤ n) : Row (w.setCells g off (cellsU xs)) g off n (xs ++ zs.drop xs.length) := by
  have hl := h.len
  refine ⟨by simp; omega, hd.append (h.dig.drop _), fun j hj => ?_, fun j hj => by rw [World.frozen?_setCells]; exact h.frozen j hj⟩
  by_cases e : j < xs.length
  · have h1 := World.cell?_setCells_in g (cellsU xs) off w (fun i hi => by rw [h.cell i (by rw [cellsU_length] at hi; omega)]; rfl) j (by rw [cellsU_length]; exact e)
    rw [h1, List.getD_eq_getElem?_getD, List.getElem?_append_left e, ← List.getD_eq_getElem?_getD]
    have := cellsU_get xs j e
    rw [List.getElem?_eq_getElem (by rw [cellsU_length]; exact e)] at this
    exact this
  · rw [World.cell?_setCells_out g (cellsU xs) off w _ (fun _ _ => .inr (by rw [cellsU_length]; simp; omega)), List.getD_eq_getElem?_getD, List.getElem?_append_right (by omega), List.getElem?_drop, show xs.length + (j - xs.length) = j by omega, ← List.getD_eq_getElem?_getD]
    exact h.cell j hj
theorem nb {P Z A L cy : Nat} (hs : Z + L = A + P * cy) (hz : Z < P) (hle : L ≤ A) (hc : cy ≤ 1) : Z + L = A := by
  by_cases h : cy = 0
  · subst h; omega
  · obtain rfl : cy = 1 := by omega
    omega
theorem At.chg {w w' : World} {S : Nat → Nat → Prop} {p : Option Addr} {n c : Nat} {xs : List Nat} (h : At w p n c xs) (hc : Chg S w w') (hd : ∀ g off, p = some ⟨g, off, none⟩ → ∀ j, j < n → g < w.heap.size → ¬ S g (off + j)) : At w' p n c xs := by
  refine ⟨h.len, h.cap, h.big, h.dig, ?_⟩
  rcases h.cells with h0 | ⟨g, off, rfl, hcl⟩
  · exact .inl h0
  · exact .inr ⟨g, off, rfl, fun j hj => hc.cell (hd g off rfl j hj (World.block_lt_of_cell? w _ (hcl j hj))) (hcl j hj)⟩
theorem Below.rg {w w' : World} {g off n : Nat} {xs : List Nat} (h : Row w g off n xs) (hb : Below w.heap.size w w') (hn : 0 < n) : Row w' g off n xs := h.below hb (h.lt hn)
theorem Nf.big {us : List Nat} {a n : Nat} (h : Nf B64 us a) (hl : us.length = n) (h0 : 0 < n) : B64 ^ (n - 1) ≤ a := by
  have := mt (h.len_le (k := n - 1) B64_one).2 (by omega)
  omega
theorem Nf.zero {us : List Nat} {a : Nat} (h : Nf B64 us a) (hl : us.length = 0) : a = 0 := by
  obtain rfl := List.eq_nil_of_length_eq_zero hl
  have := h.val; simp [valB] at this; omega
end Go.Proofs.YthobkfkeaealhaaGreatDoor
namespace Go.Proofs.YthobkfkeaealhaaGreatDoor
open Go.RowKit Go.Shelf
set_option maxRecDepth 20000
set_option maxHeartbeats 0
structure Box (W : World) (g : Nat) (v0 v1 : Value) : Prop where
  c0 : W.cell? ⟨g, 0, none⟩ = some v0
  c1 : W.cell? ⟨g, 1, none⟩ = some v1
  f0 : W.frozen? ⟨g, 0, none⟩ = false
  f1 : W.frozen? ⟨g, 1, none⟩ = false
theorem Box.below {W W' : World} {g : Nat} {v0 v1 : Value} (h : Box W g v0 v1) (hb : Below W.heap.size W W') : Box W' g v0 v1 := by
  have hl : g < W.heap.size := World.block_lt_of_cell? W _ h.c0
  exact ⟨(hb.cell (p := ⟨g, 0, none⟩) hl).trans h.c0, (hb.cell (p := ⟨g, 1, none⟩) hl).trans h.c1, (hb.frozen (p := ⟨g, 0, none⟩) hl).trans h.f0, (hb.frozen (p := ⟨g, 1, none⟩) hl).trans h.f1⟩

theorem numform_t {p : Option Addr} {n c : Nat} {xs : List Nat} {a : Nat} {w : World} (s : Bool) (h : Num w p n c xs a) (hs : s = true → 0 < a) :
    Calls Tryz.prog 63 #[ZV s p n c] w fun e w' => e = .returned (.bool true) ∧ Below w.heap.size w w' := by
  have fx := h.nf.form (by rw [h.at_.len]; exact h.le)
  have hz := h.zero
  have H : Hid (Num w p n c xs a) := h
  clear h
  cases s
  · clear hs hz
    go_enter Tryz.func63, Tryz.ntmps63
    go_wp2_with fail
    refine (form_true (H.out.at_.alloc _) fx).mono ?_
    rintro e w' ⟨rfl, hw⟩
    obtain rfl := hw.symm
    clear hw fx
    go_wp2_with fail
    go_ret
    exact ⟨rfl, below1 w _⟩
  · have hn0 : n ≠ 0 := by have := hs rfl; intro e; have := hz.1 e; omega
    have hn0' : ((n : Int) == 0) = false := by simp; omega
    clear hs hz
    go_enter Tryz.func63, Tryz.ntmps63
    go_wp2_with fail
    refine (form_true (H.out.at_.alloc _) fx).mono ?_
    rintro e w' ⟨rfl, hw⟩
    obtain rfl := hw.symm
    clear hw fx
    go_wp2_with fail
    go_ret
    exact ⟨rfl, below1 w _⟩

-- the calls
theorem nadd_any {p q : Option Addr} {n m c d : Nat} {xs ys : List Nat} {a b : Nat} {w : World} (s t : Bool) (h : Num w p n c xs a) (k : Num w q m d ys b) (hs : s = true → 0 < a) (ht : t = true → 0 < b) :
    Calls Tryz.prog 59 #[ZV s p n c, ZV t q m d] w fun e w' => AnsI w.heap.size w' e (iv s a + iv t b) ∧ Below w.heap.size w w' := by
  obtain ⟨z, hz⟩ : ∃ z, z = iv s a + iv t b := ⟨_, rfl⟩
  rw [← hz]
  have HZ : Hid (z = iv s a + iv t b) := hz
  have H : Hid (Num w p n c xs a) := h
  have K : Hid (Num w q m d ys b) := k
  have HS : Hid (s = true → 0 < a) := hs
  have HT : Hid (t = true → 0 < b) := ht
  clear h k hs ht hz
  go_enter Tryz.func59, Tryz.ntmps59
  go_wp2_with fail
  have B0 : Box (((w.alloc (.cells #[.bool s, .slice p n c] 45)).alloc (.cells #[.bool t, .slice q m d] 45)).alloc (.cells #[.bool false, .slice none 0 0] 45)) (w.heap.size) (.bool s) (.slice p n c) := ⟨by go_simp, by go_simp, by go_simp, by go_simp⟩
  have B1 : Box (((w.alloc (.cells #[.bool s, .slice p n c] 45)).alloc (.cells #[.bool t, .slice q m d] 45)).alloc (.cells #[.bool false, .slice none 0 0] 45)) (w.heap.size + 1) (.bool t) (.slice q m d) := ⟨by go_simp, by go_simp, by go_simp, by go_simp⟩
  have B2 : Box (((w.alloc (.cells #[.bool s, .slice p n c] 45)).alloc (.cells #[.bool t, .slice q m d] 45)).alloc (.cells #[.bool false, .slice none 0 0] 45)) (w.heap.size + 1 + 1) (.bool false) (.slice none 0 0) := ⟨by go_simp, by go_simp, by go_simp, by go_simp⟩
  have hbw : Below w.heap.size w (((w.alloc (.cells #[.bool s, .slice p n c] 45)).alloc (.cells #[.bool t, .slice q m d] 45)).alloc (.cells #[.bool false, .slice none 0 0] 45)) := below3 w _ _ _
  have hsW : (((w.alloc (.cells #[.bool s, .slice p n c] 45)).alloc (.cells #[.bool t, .slice q m d] 45)).alloc (.cells #[.bool false, .slice none 0 0] 45)).heap.size = w.heap.size + 1 + 1 + 1 := by simp
  generalize (((w.alloc (.cells #[.bool s, .slice p n c] 45)).alloc (.cells #[.bool t, .slice q m d] 45)).alloc (.cells #[.bool false, .slice none 0 0] 45)) = W0 at *
  obtain ⟨hs, ehs⟩ : ∃ hs, hs = w.heap.size := ⟨_, rfl⟩
  have HHS : Hid (hs = w.heap.size) := ehs
  rw [← ehs] at B0 B1 B2 hsW ⊢
  replace H : Hid _ := H.out.below hbw
  replace K : Hid _ := K.out.below hbw
  have hszW : hs + 1 + 1 + 1 ≤ W0.heap.size := by omega
  clear ehs hsW
  refine (numform_t s H.out HS.out).mono ?_
  rintro e w1 ⟨rfl, hb1⟩
  have B0' : Box w1 (hs) (.bool s) (.slice p n c) := B0.below hb1
  clear B0
  have B0 := B0'
  clear B0'
  have B1' : Box w1 (hs + 1) (.bool t) (.slice q m d) := B1.below hb1
  clear B1
  have B1 := B1'
  clear B1'
  have B2' : Box w1 (hs + 1 + 1) (.bool false) (.slice none 0 0) := B2.below hb1
  clear B2
  have B2 := B2'
  clear B2'
  replace H : Hid _ := H.out.below hb1
  replace K : Hid _ := K.out.below hb1
  replace hbw := Below.on hbw hb1
  have hszW' : hs + 1 + 1 + 1 ≤ w1.heap.size := Nat.le_trans hszW hb1.size
  clear hszW
  have hszW := hszW'
  clear hszW'
  clear hb1
  obtain ⟨c00, c01, f00, f01⟩ := B0
  obtain ⟨c10, c11, f10, f11⟩ := B1
  obtain ⟨c20, c21, f20, f21⟩ := B2
  go_wp2_with fail
  have B0 : Box w1 (hs) (.bool s) (.slice p n c) := ⟨c00, c01, f00, f01⟩
  clear c00 c01 f00 f01
  have B1 : Box w1 (hs + 1) (.bool t) (.slice q m d) := ⟨c10, c11, f10, f11⟩
  clear c10 c11 f10 f11
  have B2 : Box w1 (hs + 1 + 1) (.bool false) (.slice none 0 0) := ⟨c20, c21, f20, f21⟩
  clear c20 c21 f20 f21
  refine (numform_t t K.out HT.out).mono ?_
  rintro e w2 ⟨rfl, hb2⟩
  have B0' : Box w2 (hs) (.bool s) (.slice p n c) := B0.below hb2
  clear B0
  have B0 := B0'
  clear B0'
  have B1' : Box w2 (hs + 1) (.bool t) (.slice q m d) := B1.below hb2
  clear B1
  have B1 := B1'
  clear B1'
  have B2' : Box w2 (hs + 1 + 1) (.bool false) (.slice none 0 0) := B2.below hb2
  clear B2
  have B2 := B2'
  clear B2'
  replace H : Hid _ := H.out.below hb2
  replace K : Hid _ := K.out.below hb2
  replace hbw := Below.on hbw hb2
  have hszW' : hs + 1 + 1 + 1 ≤ w2.heap.size := Nat.le_trans hszW hb2.size
  clear hszW
  have hszW := hszW'
  clear hszW'
  clear hb2
  obtain ⟨c00, c01, f00, f01⟩ := B0
  obtain ⟨c10, c11, f10, f11⟩ := B1
  obtain ⟨c20, c21, f20, f21⟩ := B2
  go_wp2_with fail
  have B0 : Box w2 (hs) (.bool s) (.slice p n c) := ⟨c00, c01, f00, f01⟩
  clear c00 c01 f00 f01
  have B1 : Box w2 (hs + 1) (.bool t) (.slice q m d) := ⟨c10, c11, f10, f11⟩
  clear c10 c11 f10 f11
  have B2 : Box w2 (hs + 1 + 1) (.bool false) (.slice none 0 0) := ⟨c20, c21, f20, f21⟩
  clear c20 c21 f20 f21
  have hsz0 := hszW
  refine (sum_any s t H.out K.out).mono ?_
  rintro e w3 ⟨ha, hb3⟩
  rw [← HZ.out] at ha
  have B0' : Box w3 (hs) (.bool s) (.slice p n c) := B0.below hb3
  clear B0
  have B0 := B0'
  clear B0'
  have B1' : Box w3 (hs + 1) (.bool t) (.slice q m d) := B1.below hb3
  clear B1
  have B1 := B1'
  clear B1'
  have B2' : Box w3 (hs + 1 + 1) (.bool false) (.slice none 0 0) := B2.below hb3
  clear B2
  have B2 := B2'
  clear B2'
  replace H : Hid _ := H.out.below hb3
  replace K : Hid _ := K.out.below hb3
  replace hbw := Below.on hbw hb3
  have hszW' : hs + 1 + 1 + 1 ≤ w3.heap.size := Nat.le_trans hszW hb3.size
  clear hszW
  have hszW := hszW'
  clear hszW'
  clear hb3
  rcases ha with ⟨hl, p1, m1, z1, rfl, ho, hn, hm⟩ | ⟨hl, rfl⟩
  · have HL : Hid (z.natAbs < LIM) := hl
    have HN : Hid (Nf B64 z1 z.natAbs) := hn
    have HM : Hid (m1 ≤ 8192) := hm
    have HOW : Hid (Own (hs + 1 + 1 + 1) w3 p1 m1 z1) := ho.mono hsz0
    obtain ⟨sz, hss⟩ : ∃ sz, sz = decide (z < 0) := ⟨_, rfl⟩
    rw [← hss]
    have HSZ : Hid (sz = decide (z < 0)) := hss
    clear hl hn ho hm hss hsz0
    obtain ⟨c00, c01, f00, f01⟩ := B0
    obtain ⟨c10, c11, f10, f11⟩ := B1
    obtain ⟨c20, c21, f20, f21⟩ := B2
    go_wp2_with fail
    refine bodyPost_ret (v := .tuple #[ZV sz p1 m1 m1, .int .i64 0]) (by rw [results_cell_tmp rfl]; go_simp) rfl ⟨.inl ⟨HL.out, p1, m1, z1, by rw [HSZ.out], ?_, HN.out, HM.out⟩, ?_⟩
    · exact ((HOW.out.setOld _ _ _ (by omega)).setOld _ _ _ (by omega)).mono (by have := HHS.out; omega)
    · exact bSet (bSet hbw _ _ _ (by have := HHS.out; omega)) _ _ _ (by have := HHS.out; omega)
  · have HL : Hid (LIM ≤ z.natAbs) := hl
    clear hl hsz0
    obtain ⟨c00, c01, f00, f01⟩ := B0
    obtain ⟨c10, c11, f10, f11⟩ := B1
    obtain ⟨c20, c21, f20, f21⟩ := B2
    go_wp2_with fail
    refine bodyPost_ret (v := .tuple #[ZV false none 0 0, .int .i64 5]) (by rw [results_cell_tmp rfl]; go_simp) rfl ⟨.inr ⟨HL.out, rfl⟩, ?_⟩
    exact bSet (bSet hbw _ _ _ (by have := HHS.out; omega)) _ _ _ (by have := HHS.out; omega)
theorem iv_not (t : Bool) (b : Nat) : iv (!t) b = - iv t b := by cases t <;> simp [iv]
theorem Box.new (w : World) (ty : TypeId) (v0 v1 : Value) : Box (w.alloc (.cells #[v0, v1] ty)) w.heap.size v0 v1 := ⟨by go_simp, by go_simp, by go_simp, by go_simp⟩
end Go.Proofs.YthobkfkeaealhaaGreatDoor
namespace Go.Proofs.YthobkfkeaealhaaGreatDoor
open Go.RowKit
set_option maxRecDepth 20000
set_option maxHeartbeats 0
def B32 : Nat := 4294967296
theorem B32_pos : 0 < B32 := by decide
theorem B32_one : 1 < B32 := by decide
abbrev V (n : Nat) : Value := .int .u32 (n : Int)

structure At32 (w : World) (p : Option Addr) (n c : Nat) (xs : List Nat) : Prop where
  len : xs.length = n
  cap : n ≤ c
  big : c ≤ maxLen
  dig : Dig B32 xs
  cells : n = 0 ∨ ∃ g off, p = some ⟨g, off, none⟩ ∧ ∀ j, j < n → w.cell? ⟨g, off + j, none⟩ = some (V (xs.getD j 0))
theorem At32.below {w w' : World} {p : Option Addr} {n c : Nat} {xs : List Nat} (h : At32 w p n c xs) (hb : Below w.heap.size w w') : At32 w' p n c xs := by
  refine ⟨h.len, h.cap, h.big, h.dig, ?_⟩
  rcases h.cells with h0 | ⟨g, off, rfl, hc⟩
  · exact .inl h0
  · exact .inr ⟨g, off, rfl, fun j hj => (hb.cell (p := ⟨g, off + j, none⟩) (World.block_lt_of_cell? w _ (hc j hj))).trans (hc j hj)⟩
theorem At32.drewN {w : World} {p : Option Addr} {n c : Nat} {xs : List Nat} (h : At32 w p n c xs) (q : Nat) : At32 (w.drewN q) p n c xs := ⟨h.len, h.cap, h.big, h.dig, h.cells⟩
theorem At32.alloc {w : World} {p : Option Addr} {n c : Nat} {xs : List Nat} (h : At32 w p n c xs) (o : Obj) : At32 (w.alloc o) p n c xs :=
  h.below ((Below.refl _ _).alloc (Nat.le_refl _) o)
theorem At32.take {w : World} {p : Option Addr} {n c : Nat} {xs : List Nat} (h : At32 w p n c xs) (m : Nat) (hm : m ≤ n) (c' : Nat) (hc : m ≤ c') (hb : c' ≤ maxLen) : At32 w p m c' (xs.take m) := by
  refine ⟨by rw [List.length_take, h.len]; omega, hc, hb, h.dig.take m, ?_⟩
  rcases h.cells with h0 | ⟨g, off, rfl, hcl⟩
  · exact .inl (by omega)
  · refine .inr ⟨g, off, rfl, fun j hj => ?_⟩
    have e : (xs.take m).getD j 0 = xs.getD j 0 := by rw [List.getD_eq_getElem?_getD, List.getD_eq_getElem?_getD, List.getElem?_take, if_pos hj]
    rw [e]; exact hcl j (by omega)
theorem At32.empty (w : World) (p : Option Addr) (c : Nat) (hb : c ≤ maxLen) : At32 w p 0 c [] := ⟨rfl, Nat.zero_le _, hb, Dig.nil _, .inl rfl⟩
def cellsV (xs : List Nat) : List Value := xs.map V
def Blk32 (w : World) (g : Nat) (xs : List Nat) : Prop := w.heap[g]? = some (.cells (cellsV xs).toArray 155 (0, 0))
theorem cellsV_get (xs : List Nat) (j : Nat) (h : j < xs.length) : (cellsV xs)[j]? = some (V (xs.getD j 0)) := by
  unfold cellsV
  rw [List.getElem?_map, List.getElem?_eq_getElem h, List.getD_eq_getElem?_getD, List.getElem?_eq_getElem h]; rfl
theorem Blk32.cell {w : World} {g : Nat} {xs : List Nat} (h : Blk32 w g xs) (j : Nat) (hj : j < xs.length) : w.cell? ⟨g, j, none⟩ = some (V (xs.getD j 0)) := by
  rw [cell_of_row w g j _ _ _ h]
  rw [List.getElem?_toArray]; exact cellsV_get xs j hj
theorem Blk32.lt {w : World} {g : Nat} {xs : List Nat} (h : Blk32 w g xs) : g < w.heap.size := (Array.getElem?_eq_some_iff.1 h).1
theorem cellsV_length (xs : List Nat) : (cellsV xs).length = xs.length := by simp [cellsV]
theorem At32.src {w : World} {p : Option Addr} {n c : Nat} {xs : List Nat} (h : At32 w p n c xs) (hn : 0 < n) : ∃ ad, p = some ad ∧ ∀ j v, (cellsV xs)[j]? = some v → w.cell? (ad.add j) = some v := by
  rcases h.cells with h0 | ⟨g, off, rfl, hc⟩
  · omega
  · refine ⟨_, rfl, fun j v hv => ?_⟩
    have hj : j < xs.length := by
      have := (List.getElem?_eq_some_iff.1 hv).1
      rwa [cellsV_length] at this
    have hadd : (⟨g, off, none⟩ : Addr).add j = ⟨g, off + j, none⟩ := by unfold Addr.add; split <;> simp_all
    rw [hadd, hc j (by have := h.len; omega)]
    rw [cellsV_get xs j hj] at hv; exact hv

theorem Blk32.at_ {w : World} {g : Nat} {xs : List Nat} (h : Blk32 w g xs) (hd : Dig B32 xs) {n : Nat} (hn : xs.length = n) (hb : n ≤ maxLen) : At32 w (some ⟨g, 0, none⟩) n n xs := by
  subst hn
  exact ⟨rfl, Nat.le_refl _, hb, hd, .inr ⟨g, 0, rfl, fun j hj => by rw [Nat.zero_add]; exact h.cell j hj⟩⟩
theorem B64_p : B64 = 2 ^ 64 := rfl
theorem pow_split (s : Nat) (hs : s ≤ 64) : 2 ^ s * 2 ^ (64 - s) = B64 := by rw [← Nat.pow_add, show s + (64 - s) = 64 by omega]; rfl

def shlW (x s : Nat) : Nat := x * 2 ^ s % B64
theorem shlW_lt (x s : Nat) : shlW x s < B64 := Nat.mod_lt _ B64_pos
theorem shlW_eq (x s : Nat) (hs : s ≤ 64) : shlW x s = 2 ^ s * (x % 2 ^ (64 - s)) := by
  unfold shlW
  rw [← pow_split s hs, Nat.mul_comm x, Nat.mul_mod_mul_left]
theorem shrW_eq (y s : Nat) (hs : s ≤ 64) : y / 2 ^ (64 - s) = y * 2 ^ s / B64 := by
  rw [← pow_split s hs, Nat.mul_comm y, Nat.mul_div_mul_left _ _ (Nat.two_pow_pos s)]
theorem shrW_lt (y s : Nat) (hs : s ≤ 64) (hy : y < B64) : y / 2 ^ (64 - s) < 2 ^ s := by
  rw [Nat.div_lt_iff_lt_mul (Nat.two_pow_pos _), pow_split s hs]; exact hy
theorem or_low (s A b : Nat) (hb : b < 2 ^ s) : (2 ^ s * A) ||| b = 2 ^ s * A + b := (Nat.two_pow_add_eq_or_of_lt hb A).symm

theorem int_pow (s : Nat) : ((2 : Int) ^ s) = ((2 ^ s : Nat) : Int) := by
  induction s with
  | zero => rfl
  | succ s ih => rw [Int.pow_succ, ih, Nat.pow_succ]; simp
theorem walk_shl (x s : Nat) : Value.int .u64 (IntKind.u64.wrap ((x : Int) * 2 ^ s)) = U (shlW x s) := by
  unfold U shlW
  rw [int_pow, IntKind.wrap_u64, B64_eq, ← Int.natCast_mul]
  congr 1
theorem walk_shr (y s : Nat) : Value.int .u64 ((y : Int) / 2 ^ s) = U (y / 2 ^ s) := by
  unfold U
  rw [int_pow]
  congr 1
theorem walk_or (a b : Nat) (ha : a < B64) (hb : b < B64) : bits .or .u64 (a : Int) (b : Int) = ((a ||| b : Nat) : Int) := by
  rw [B64_eq] at ha hb
  exact bits_or_u64_nat a b ha hb
theorem wrap_nat (x s : Nat) : IntKind.u64.wrap ((x : Int) * 2 ^ s) = ((shlW x s : Nat) : Int) := by
  have := walk_shl x s
  simpa [U] using this
theorem div_nat (y s : Nat) : (y : Int) / 2 ^ s = ((y / 2 ^ s : Nat) : Int) := by
  simp
theorem walk_up (x y s : Nat) (hs : s ≤ 64) (hy : y < B64) : Value.int .u64 (bits .or .u64 (IntKind.u64.wrap ((x : Int) * 2 ^ s)) ((y : Int) / 2 ^ (64 - s))) = U (shlW x s + y * 2 ^ s / B64) := by
  have h1 := shrW_lt y s hs hy
  have h2 : 2 ^ s ≤ B64 := by rw [B64_p]; exact Nat.pow_le_pow_right (by decide) hs
  rw [wrap_nat, div_nat, walk_or _ _ (shlW_lt x s) (by omega), shlW_eq x s hs, or_low s _ _ h1, shrW_eq y s hs]
theorem up_lt (x y s : Nat) (hs : s ≤ 64) (hy : y < B64) : shlW x s + y * 2 ^ s / B64 < B64 := by
  have h1 := shrW_lt y s hs hy
  rw [← shrW_eq y s hs, shlW_eq x s hs]
  have h2 : x % 2 ^ (64 - s) + 1 ≤ 2 ^ (64 - s) := Nat.mod_lt _ (Nat.two_pow_pos _)
  have h3 := Nat.mul_le_mul_left (2 ^ s) h2
  rw [pow_split s hs, Nat.mul_add] at h3
  omega
theorem walk_down (x z s : Nat) (hs : s ≤ 64) (hx : x < B64) : Value.int .u64 (bits .or .u64 ((x : Int) / 2 ^ s) (IntKind.u64.wrap ((z : Int) * 2 ^ (64 - s)))) = U (x / 2 ^ s + 2 ^ (64 - s) * (z % 2 ^ s)) := by
  have e : 64 - (64 - s) = s := by omega
  have h1 := shrW_lt x (64 - s) (by omega) hx
  rw [e] at h1
  have h2 : 2 ^ (64 - s) ≤ B64 := by rw [B64_p]; exact Nat.pow_le_pow_right (by decide) (by omega)
  rw [wrap_nat, div_nat, walk_or _ _ (by omega) (shlW_lt _ _), shlW_eq z (64 - s) (by omega), e, Nat.or_comm, or_low (64 - s) _ _ h1, Nat.add_comm]
theorem down_lt (x z s : Nat) (hs : s ≤ 64) (hx : x < B64) : x / 2 ^ s + 2 ^ (64 - s) * (z % 2 ^ s) < B64 := by
  have e : 64 - (64 - s) = s := by omega
  have h1 := shrW_lt x (64 - s) (by omega) hx
  rw [e] at h1
  have h2 : z % 2 ^ s + 1 ≤ 2 ^ s := Nat.mod_lt _ (Nat.two_pow_pos _)
  have h3 := Nat.mul_le_mul_left (2 ^ (64 - s)) h2
  rw [Nat.mul_comm (2 ^ (64 - s)) (2 ^ s), pow_split s hs, Nat.mul_add] at h3
  omega

def cin (zs : List Nat) (s j : Nat) : Nat := if j = 0 then 0 else zs.getD (j - 1) 0 * 2 ^ s / B64
theorem up_step {zs T : List Nat} {s a ov k d : Nat} (ha : a < zs.length) (hd : d = shlW (zs.getD a 0) s + cin zs s a) (h : valB B64 T + B64 ^ k * ov = 2 ^ s * valB B64 (zs.drop (a + 1)) + cin zs s (a + 1)) :
    valB B64 (d :: T) + B64 ^ (k + 1) * ov = 2 ^ s * valB B64 (zs.drop a) + cin zs s a := by
  have e1 : cin zs s (a + 1) = zs.getD a 0 * 2 ^ s / B64 := by unfold cin; rw [if_neg (by omega), Nat.add_sub_cancel]
  have e2 := Nat.mod_add_div (zs.getD a 0 * 2 ^ s) B64
  rw [valB_cons, valB_drop _ zs a ha, hd]
  unfold shlW
  rw [e1] at h
  have e3 : B64 * (valB B64 T + B64 ^ k * ov) = B64 * (2 ^ s * valB B64 (zs.drop (a + 1)) + zs.getD a 0 * 2 ^ s / B64) := by rw [h]
  rw [Nat.mul_add, Nat.mul_add] at e3
  rw [Nat.pow_succ, Nat.mul_add]
  have e4 : B64 ^ k * B64 * ov = B64 * (B64 ^ k * ov) := by rw [Nat.mul_comm (B64 ^ k) B64, Nat.mul_assoc]
  have e5 : 2 ^ s * (B64 * valB B64 (zs.drop (a + 1))) = B64 * (2 ^ s * valB B64 (zs.drop (a + 1))) := by rw [← Nat.mul_assoc, ← Nat.mul_assoc, Nat.mul_comm (2 ^ s) B64]
  rw [e4, e5, Nat.mul_comm (2 ^ s) (zs.getD a 0)]
  generalize B64 * (B64 ^ k * ov) = X1 at *
  generalize B64 * (2 ^ s * valB B64 (zs.drop (a + 1))) = X2 at *
  generalize B64 * valB B64 T = X3 at *
  generalize B64 * (zs.getD a 0 * 2 ^ s / B64) = X4 at *
  generalize zs.getD a 0 * 2 ^ s = X5 at *
  omega

def cout (zs : List Nat) (s j : Nat) : Nat := zs.getD j 0 % 2 ^ s
theorem down_step {zs dk : List Nat} {s i rem d : Nat} (hs : s ≤ 64) (hd : d = zs.getD i 0 / 2 ^ s + 2 ^ (64 - s) * cout zs s (i + 1)) (h : 2 ^ s * valB B64 (dk.take i) + rem = valB B64 (zs.take i) + B64 ^ i * cout zs s i) (hi : i < zs.length) :
    2 ^ s * (valB B64 (dk.take i) + B64 ^ i * d) + rem = valB B64 (zs.take (i + 1)) + B64 ^ (i + 1) * cout zs s (i + 1) := by
  have e1 := Nat.mod_add_div (zs.getD i 0) (2 ^ s)
  rw [valB_take_succ _ zs i hi, Nat.pow_succ, hd, Nat.mul_add (2 ^ s)]
  have e2 : 2 ^ s * (B64 ^ i * (zs.getD i 0 / 2 ^ s + 2 ^ (64 - s) * cout zs s (i + 1))) = B64 ^ i * (2 ^ s * (zs.getD i 0 / 2 ^ s)) + B64 ^ i * B64 * cout zs s (i + 1) := by
    rw [← Nat.mul_assoc, Nat.mul_comm (2 ^ s) (B64 ^ i), Nat.mul_assoc, Nat.mul_add, Nat.mul_add, ← Nat.mul_assoc (2 ^ s) (2 ^ (64 - s)), pow_split s hs, Nat.mul_assoc]
  have e3 : B64 ^ i * (zs.getD i 0 % 2 ^ s) + B64 ^ i * (2 ^ s * (zs.getD i 0 / 2 ^ s)) = B64 ^ i * zs.getD i 0 := by rw [← Nat.mul_add, e1]
  rw [e2]
  have e4 : cout zs s i = zs.getD i 0 % 2 ^ s := rfl
  rw [e4] at h
  generalize B64 ^ i * (2 ^ s * (zs.getD i 0 / 2 ^ s)) = X1 at *
  generalize B64 ^ i * (zs.getD i 0 % 2 ^ s) = X2 at *
  generalize B64 ^ i * B64 * cout zs s (i + 1) = X3 at *
  omega
end Go.Proofs.YthobkfkeaealhaaGreatDoor
namespace Go.Proofs.YthobkfkeaealhaaGreatDoor
set_option maxRecDepth 20000
set_option maxHeartbeats 0
theorem kn_more {b y1 y0 u d q r : Nat} (hd : d < b) (hu : u < y1 * b + y0) (hq : q * y1 + r = u) (hc : b ≤ q ∨ b * r + d < q * y0) : (u * b + d) / (y1 * b + y0) + 1 ≤ q := by
  refine (Nat.div_lt_iff_lt_mul (by omega)).2 ?_
  rcases hc with hc | hc
  · have a1 : b * (y1 * b + y0) ≤ q * (y1 * b + y0) := Nat.mul_le_mul_right _ hc
    have a2 : b * (u + 1) ≤ b * (y1 * b + y0) := Nat.mul_le_mul_left _ hu
    rw [Nat.mul_add, Nat.mul_one, Nat.mul_comm b u] at a2
    omega
  · have a1 : q * (y1 * b + y0) = q * y1 * b + q * y0 := by rw [Nat.mul_add, Nat.mul_assoc]
    have a2 : u * b = q * y1 * b + r * b := by rw [← hq, Nat.add_mul]
    rw [Nat.mul_comm b r] at hc
    omega
theorem kn_exit {b y1 y0 u d q r : Nat} (hu : u < y1 * b + y0) (hq : q * y1 + r = u) (hQ : (u * b + d) / (y1 * b + y0) ≤ q) (hc : q * y0 ≤ b * r + d) : q = (u * b + d) / (y1 * b + y0) := by
  refine Nat.le_antisymm ((Nat.le_div_iff_mul_le (by omega)).2 ?_) hQ
  have a1 : q * (y1 * b + y0) = q * y1 * b + q * y0 := by rw [Nat.mul_add, Nat.mul_assoc]
  have a2 : u * b = q * y1 * b + r * b := by rw [← hq, Nat.add_mul]
  rw [Nat.mul_comm b r] at hc
  omega
theorem kn_far {b y0 d q r : Nat} (h0 : y0 < b) (hq : q ≤ b) (hr : b ≤ r) : q * y0 ≤ b * r + d := by
  have a1 : q * y0 ≤ b * b := Nat.mul_le_mul hq (by omega)
  have a2 : b * b ≤ b * r := Nat.mul_le_mul_left b hr
  omega
theorem kn_lt {b y1 y0 u d : Nat} (hd : d < b) (hu : u < y1 * b + y0) : (u * b + d) / (y1 * b + y0) < b := by
  refine (Nat.div_lt_iff_lt_mul (by omega)).2 ?_
  have a2 : b * (u + 1) ≤ b * (y1 * b + y0) := Nat.mul_le_mul_left _ hu
  rw [Nat.mul_add, Nat.mul_one, Nat.mul_comm b u] at a2
  omega
end Go.Proofs.YthobkfkeaealhaaGreatDoor
namespace Go.Proofs.YthobkfkeaealhaaGreatDoor
open Go.RowKit
set_option maxRecDepth 20000
set_option maxHeartbeats 0
structure Kn (y1 y0 u d q r : Nat) : Prop where
  eq : q * y1 + r = u
  ge : (u * 4294967296 + d) / (y1 * 4294967296 + y0) ≤ q
  le : q ≤ 4294967297
structure KnC (y1 y0 u d : Nat) : Prop where
  hy0 : y0 < 4294967296
  hd : d < 4294967296
  hu : u < y1 * 4294967296 + y0
  hy1 : 4294967296 ≤ 2 * y1
theorem Kn.down {y1 y0 u d q r : Nat} (k : Kn y1 y0 u d q r) (h : KnC y1 y0 u d) (hc : 4294967296 ≤ q ∨ 4294967296 * r + d < q * y0) : 1 ≤ q ∧ Kn y1 y0 u d (q - 1) (r + y1) := by
  have h1 := kn_more h.hd h.hu k.eq hc
  have h2 := k.le
  have h3 := k.eq
  refine ⟨by generalize (u * 4294967296 + d) / (y1 * 4294967296 + y0) = T at *; omega, ?_, by generalize (u * 4294967296 + d) / (y1 * 4294967296 + y0) = T at *; omega, by omega⟩
  have h4 : 1 ≤ q := by generalize (u * 4294967296 + d) / (y1 * 4294967296 + y0) = T at *; omega
  obtain ⟨t, rfl⟩ : ∃ t, q = t + 1 := ⟨q - 1, by omega⟩
  rw [Nat.add_sub_cancel]
  rw [Nat.add_mul, Nat.one_mul] at h3
  omega
theorem dm (N M : Nat) : N = N / M * M + N % M := by rw [Nat.mul_comm]; exact (Nat.div_add_mod N M).symm
structure KnD (y1 y0 u d q : Nat) (rest : Nat) : Prop where
  lt : q < 4294967296
  eq : u * 4294967296 + d = q * (y1 * 4294967296 + y0) + rest
  rlt : rest < y1 * 4294967296 + y0
theorem Kn.done {y1 y0 u d q r : Nat} (k : Kn y1 y0 u d q r) (h : KnC y1 y0 u d) (hc : q * y0 ≤ 4294967296 * r + d) : KnD y1 y0 u d q ((u * 4294967296 + d) % (y1 * 4294967296 + y0)) := by
  have h1 := kn_exit h.hu k.eq k.ge hc
  have h2 := kn_lt h.hd h.hu
  refine ⟨by omega, ?_, Nat.mod_lt _ (by have := h.hu; omega)⟩
  rw [h1]; exact dm _ _
theorem Kn.far {y1 y0 u d q r : Nat} (k : Kn y1 y0 u d q r) (h : KnC y1 y0 u d) (hq : q ≤ 4294967296) (hr : 4294967296 ≤ r) : KnD y1 y0 u d q ((u * 4294967296 + d) % (y1 * 4294967296 + y0)) :=
  k.done h (kn_far h.hy0 hq hr)
end Go.Proofs.YthobkfkeaealhaaGreatDoor
namespace Go.Proofs.YthobkfkeaealhaaGreatDoor
open Go.RowKit Go.Shelf
set_option maxRecDepth 20000
set_option maxHeartbeats 0
theorem At32.setOther {w : World} {g off n c : Nat} {xs : List Nat} (h : At32 w (some ⟨g, off, none⟩) n c xs) (g2 o2 : Nat) (v : Value) (hne : g ≠ g2) : At32 (w.setCell ⟨g2, o2, none⟩ v) (some ⟨g, off, none⟩) n c xs := by
  refine ⟨h.len, h.cap, h.big, h.dig, ?_⟩
  rcases h.cells with h0 | ⟨g', o', he, hcl⟩
  · exact .inl h0
  · refine .inr ⟨g', o', he, fun j hj => ?_⟩
    simp only [Option.some.injEq, Addr.mk.injEq, and_true] at he
    rw [World.cell?_setCell_other _ _ _ _ (by intro e; apply hne; have := congrArg Addr.block e; simp at this; omega)]
    exact hcl j hj
theorem At.setOther {w : World} {g off n c : Nat} {xs : List Nat} (h : At w (some ⟨g, off, none⟩) n c xs) (g2 o2 : Nat) (v : Value) (hne : g ≠ g2) : At (w.setCell ⟨g2, o2, none⟩ v) (some ⟨g, off, none⟩) n c xs := by
  refine ⟨h.len, h.cap, h.big, h.dig, ?_⟩
  rcases h.cells with h0 | ⟨g', o', he, hcl⟩
  · exact .inl h0
  · refine .inr ⟨g', o', he, fun j hj => ?_⟩
    simp only [Option.some.injEq, Addr.mk.injEq, and_true] at he
    rw [World.cell?_setCell_other _ _ _ _ (by intro e; apply hne; have := congrArg Addr.block e; simp at this; omega)]
    exact hcl j hj
def Told (z : Int) (s : Bool) (m : Nat) (zs : List Nat) (er : Int) : Prop :=
  (z.natAbs < LIM ∧ s = decide (z < 0) ∧ Nf B64 zs z.natAbs ∧ m ≤ 8192 ∧ er = 0) ∨ (LIM ≤ z.natAbs ∧ s = false ∧ zs = [] ∧ m = 0 ∧ er = 5)
theorem AnsI.any {B : Nat} {w' : World} {e : Ending} {z : Int} (h : AnsI B w' e z) : ∃ s p m zs er, e = .returned (.tuple #[ZV s p m m, .int .i64 er]) ∧ At w' p m m zs ∧ Told z s m zs er := by
  rcases h with ⟨hz, p, m, zs, rfl, ho, hn, hm⟩ | ⟨hz, rfl⟩
  · exact ⟨_, p, m, zs, 0, rfl, ho.at_ hm, .inl ⟨hz, rfl, hn, hm, rfl⟩⟩
  · exact ⟨false, none, 0, [], 5, rfl, At.empty _ none 0 (by decide), .inr ⟨hz, rfl, rfl, rfl, rfl⟩⟩
theorem Told.inj {z : Int} {s s' : Bool} {m m' : Nat} {zs zs' : List Nat} {er er' : Int} (h : Told z s m zs er) (k : Told z s' m' zs' er') : s = s' ∧ zs = zs' ∧ er = er' := by
  rcases h with ⟨hz, rfl, hn, hm, rfl⟩ | ⟨hz, rfl, rfl, rfl, rfl⟩ <;> rcases k with ⟨kz, rfl, kn, km, rfl⟩ | ⟨kz, rfl, rfl, rfl, rfl⟩
  · exact ⟨rfl, hn.inj B64_one kn, rfl⟩
  · omega
  · omega
  · exact ⟨rfl, rfl, rfl⟩
theorem Told.er {z : Int} {s : Bool} {m : Nat} {zs : List Nat} {er : Int} (h : Told z s m zs er) : er = 0 ∨ er = 5 := by
  rcases h with ⟨_, _, _, _, rfl⟩ | ⟨_, _, _, _, rfl⟩
  · exact .inl rfl
  · exact .inr rfl
theorem Told.ok {z : Int} {s : Bool} {m : Nat} {zs : List Nat} {w : World} {p : Option Addr} (h : Told z s m zs 0) (a : At w p m m zs) : Num w p m m zs z.natAbs ∧ s = decide (z < 0) := by
  rcases h with ⟨_, h1, h2, h3, _⟩ | ⟨_, _, _, _, h⟩
  · exact ⟨⟨a, h2, h3⟩, h1⟩
  · exact absurd h (by decide)
theorem Told.no {z : Int} {s : Bool} {m : Nat} {zs : List Nat} (h : Told z s m zs 5) : LIM ≤ z.natAbs := by
  rcases h with ⟨_, _, _, _, h⟩ | ⟨h, _⟩
  · exact absurd h (by decide)
  · exact h
theorem iv_abs (z : Int) : iv (decide (z < 0)) z.natAbs = z := by
  unfold iv
  by_cases h : z < 0
  · simp only [h, decide_true, if_true]; omega
  · simp only [h, decide_false, Bool.false_eq_true, if_false]; omega
theorem iv_natAbs (s : Bool) (a : Nat) : (iv s a).natAbs = a := by cases s <;> simp [iv]
theorem sgn_pos (z : Int) : decide (z < 0) = true → 0 < z.natAbs := by intro h; have := of_decide_eq_true h; omega
-- the document's side
def DocIs (v : Nat) (us : List Nat) (f : Int) : Prop := (v < LIM ∧ Nf B64 us v ∧ f = 0) ∨ (LIM ≤ v ∧ us = [] ∧ f = 5)
theorem digit_bit {b e : Nat} (hb : b = 2 ^ e) {xs : List Nat} (hd : Dig b xs) {D R : Nat} (hD : D < xs.length) (hR : R < e) : xs.getD D 0 / 2 ^ R % 2 = valB b xs / 2 ^ (e * D + R) % 2 := by
  have hbp : 0 < b := by rw [hb]; exact Nat.pow_pos (by decide)
  have h1 : valB b (xs.drop D) = valB b xs / b ^ D := by
    have h2 := valB_split b xs D (Nat.le_of_lt hD)
    have h3 := valB_lt hbp (hd.take D)
    rw [List.length_take, Nat.min_eq_left (Nat.le_of_lt hD)] at h3
    rw [h2, Nat.add_mul_div_left _ _ (Nat.pow_pos hbp), Nat.div_eq_of_lt h3, Nat.zero_add]
  have h4 := valB_drop b xs D hD
  have h5 : b ^ D = 2 ^ (e * D) := by rw [hb, ← Nat.pow_mul]
  rw [Nat.pow_add, ← Nat.div_div_eq_div_mul, ← h5, ← h1, h4]
  obtain ⟨k, hk⟩ : ∃ k, e = R + 1 + k := ⟨e - R - 1, by omega⟩
  have h6 : b = 2 ^ R * (2 * 2 ^ k) := by rw [hb, hk, Nat.pow_add, Nat.pow_add, Nat.pow_one, Nat.mul_assoc]
  rw [h6, Nat.mul_assoc (2 ^ R), Nat.add_mul_div_left _ _ (Nat.pow_pos (by decide)), Nat.mul_assoc 2, Nat.add_mul_mod_self_left]
theorem and_one_u64q (i : Nat) (_hi : i < B64) : bits BinOp.and IntKind.u64 (i : Int) 1 = ((i % 2 : Nat) : Int) := by
  have h1 : (BitVec.ofInt 64 1).toNat = 2 ^ 1 - 1 := by decide
  have key : (BitVec.ofInt 64 (i : Int) &&& BitVec.ofInt 64 1).toNat = ((i : Int) % ((2 ^ 64 : Nat) : Int)).toNat % 2 ^ 1 := by
    rw [BitVec.toNat_and, BitVec.toNat_ofInt, h1, Nat.and_two_pow_sub_one_eq_mod]
  show IntKind.u64.wrap ((BitVec.ofInt 64 (i : Int) &&& BitVec.ofInt 64 1).toNat : Nat) = _
  rw [key]
  simp only [IntKind.wrap, IntKind.signed, IntKind.bits]
  simp
  omega

theorem bit_any {p : Option Addr} {n c : Nat} {xs : List Nat} {w : World} (h : At w p n c xs) (_hn : n ≤ 17592186044416) (i : Nat) (hi : i ≤ 9223372036854775807) :
    Calls Tryz.prog 64 #[.slice p n c, .int .i64 i] w fun e w' => e = .returned (.bool (decide (valB B64 xs / 2 ^ i % 2 = 1))) ∧ w' = w := by
  have hl := h.len
  have cap := h.cap
  have big := h.big
  unfold maxLen at big
  obtain ⟨D, hD⟩ : ∃ D, D = i / 64 := ⟨_, rfl⟩
  obtain ⟨R, hR⟩ : ∃ R, R = i % 64 := ⟨_, rfl⟩
  have d1 : (i : Int).tdiv 64 = (D : Int) := by rw [Int.tdiv_eq_ediv_of_nonneg (by omega)]; omega
  have d2 : (i : Int).tmod 64 = (R : Int) := by rw [Int.tmod_eq_emod_of_nonneg (by omega)]; omega
  have hneg : ¬ (i : Int) < 0 := by omega
  have hDb : D ≤ 144115188075855871 := by omega
  have hR64 : R < 64 := by omega
  have hei : i = 64 * D + R := by omega
  obtain ⟨r, hr⟩ : ∃ r, r = decide (valB B64 xs / 2 ^ i % 2 = 1) := ⟨_, rfl⟩
  rw [← hr]
  by_cases hc : n ≤ D
  · have HR0 : Hid (r = false) := by
      show _ = _
      rw [hr]
      refine decide_eq_false ?_
      have h1 : valB B64 xs < 2 ^ i := by
        have h2 := valB_lt B64_pos h.dig
        rw [hl] at h2
        refine Nat.lt_of_lt_of_le h2 ?_
        rw [B64_pow]
        exact Nat.pow_le_pow_right (by decide) (by omega)
      rw [Nat.div_eq_of_lt h1]
      decide
    have hci : (n : Int) ≤ (D : Int) := by omega
    have hcb : decide (n ≤ D) = true := decide_eq_true hc
    clear hr hei hD hR h hl
    go_enter Tryz.func64, Tryz.ntmps64
    go_wp2_with fail
    go_ret
    exact ⟨by rw [HR0.out]; rfl, rfl⟩
  · have hDn : D < n := by omega
    have hcb : decide (n ≤ D) = false := decide_eq_false hc
    obtain ⟨g, off, rfl, hcs⟩ := h.cells.resolve_left (by omega)
    obtain ⟨x, hx⟩ : ∃ x, x = xs.getD D 0 := ⟨_, rfl⟩
    have hcx : w.cell? ⟨g, off + D, none⟩ = some (U x) := by rw [hx]; exact hcs D hDn
    have hxb : x < B64 := by rw [hx]; exact h.dig.getD B64_pos D
    obtain ⟨y, hy⟩ : ∃ y, y = x / 2 ^ R := ⟨_, rfl⟩
    have hyI : (x : Int) / 2 ^ R = (y : Int) := by rw [hy]; norm_cast
    have hyb : y < B64 := by rw [hy]; exact Nat.lt_of_le_of_lt (Nat.div_le_self _ _) hxb
    obtain ⟨z, hz⟩ : ∃ z, z = y % 2 := ⟨_, rfl⟩
    have hand : bits BinOp.and IntKind.u64 (y : Int) 1 = (z : Int) := by rw [hz]; exact and_one_u64q y hyb
    have HR1 : Hid (r = decide (z = 1)) := by
      show _ = _
      rw [hr, hz, hy, hx, digit_bit B64_two_pow h.dig (by rw [hl]; exact hDn) hR64, ← hei]
    have hwD : IntKind.i64.wrap (D : Int) = (D : Int) := by simp [IntKind.wrap, IntKind.signed, IntKind.bits]; omega
    clear hr hei hD hR h hl hcs hx hy hz hxb hyb
    go_enter Tryz.func64, Tryz.ntmps64
    go_wp2_with fail
    go_ret
    have hzz : ((z : Int) == 1) = decide (z = 1) := by rw [Bool.eq_iff_iff]; simp; omega
    exact ⟨by rw [HR1.out, ← hzz]; rfl, rfl⟩
def TzIs (v k : Nat) : Prop := v % 2 ^ k = 0 ∧ v / 2 ^ k % 2 = 1
theorem TzIs.inj {v k l : Nat} (h : TzIs v k) (h' : TzIs v l) : k = l := by
  have aux : ∀ {a b : Nat}, TzIs v a → TzIs v b → ¬ a < b := by
    intro a b ha hb hab
    obtain ⟨d, hd⟩ : ∃ d, b = a + (d + 1) := ⟨b - a - 1, by omega⟩
    have h1 := Nat.dvd_of_mod_eq_zero hb.1
    obtain ⟨q, hq⟩ := h1
    have h2 := ha.2
    rw [hq, hd, Nat.pow_add, Nat.mul_assoc, Nat.mul_div_cancel_left _ (Nat.pow_pos (by decide)), Nat.pow_succ, Nat.mul_comm (2 ^ d) 2, Nat.mul_assoc, Nat.mul_mod_right] at h2
    exact absurd h2 (by decide)
  rcases Nat.lt_trichotomy k l with e | e | e
  · exact absurd e (aux h h')
  · exact e
  · exact absurd e (aux h' h)
theorem TzIs.ex : ∀ (v : Nat), 0 < v → ∃ k, TzIs v k := by
  intro v
  induction v using Nat.strongRecOn with
  | _ v ih =>
    intro hv
    rcases Nat.mod_two_eq_zero_or_one v with h | h
    · obtain ⟨k, h1, h2⟩ := ih (v / 2) (by omega) (by omega)
      refine ⟨k + 1, ?_, ?_⟩
      · rw [Nat.pow_succ, Nat.mul_comm, Nat.mod_mul, h, h1]
      · rw [Nat.pow_succ, Nat.mul_comm, ← Nat.div_div_eq_div_mul]; exact h2
    · exact ⟨0, by rw [Nat.pow_zero, Nat.mod_one], by rw [Nat.pow_zero, Nat.div_one]; exact h⟩
theorem TzIs.ge {v k n : Nat} (h : TzIs v k) (hn : v % 2 ^ n = 0) : n ≤ k := by
  rcases Nat.lt_or_ge k n with e | e
  · exfalso
    obtain ⟨d, hd⟩ : ∃ d, n = k + (d + 1) := ⟨n - k - 1, by omega⟩
    obtain ⟨q, hq⟩ := Nat.dvd_of_mod_eq_zero hn
    have h2 := h.2
    rw [hq, hd, Nat.pow_add, Nat.mul_assoc, Nat.mul_div_cancel_left _ (Nat.pow_pos (by decide)), Nat.pow_succ, Nat.mul_comm (2 ^ d) 2, Nat.mul_assoc, Nat.mul_mod_right] at h2
    exact absurd h2 (by decide)
  · exact e
def renTz : Ren := ⟨fun x => match x with | 29 => 97 | n => n, fun x => match x with | 0 => 0 | 3 => 3 | 4 => 4 | 5 => 5 | 22 => 22 | 25 => 40 | 54 => 144 | n => n, fun x => match x with | 1 => 2 | n => n⟩
theorem laysTz : Lays7.n29 Tryz.prog renTz :=
  { mixed := by kernel_rfl, f29 := Tryz.func97.trans (congrArg some (by kernel_rfl)),
    t0 := by kernel_rfl, a0 := fun w => by kernel_rfl, z0 := fun w => by kernel_rfl, v0 := fun w => by kernel_rfl, i0 := by kernel_rfl,
    t3 := Tryz.underlying3, a3 := Tryz.isAgg3, z3 := Tryz.sizeOf3, v3 := Tryz.zeroValue3, i3 := by kernel_rfl,
    t4 := Tryz.underlying4, a4 := Tryz.isAgg4, z4 := Tryz.sizeOf4, v4 := Tryz.zeroValue4, i4 := by kernel_rfl,
    t5 := Tryz.underlying5, a5 := Tryz.isAgg5, z5 := Tryz.sizeOf5, v5 := Tryz.zeroValue5, i5 := by kernel_rfl,
    t22 := Tryz.underlying22, a22 := Tryz.isAgg22, z22 := Tryz.sizeOf22, v22 := Tryz.zeroValue22, i22 := by kernel_rfl,
    t25 := Tryz.underlying40, a25 := Tryz.isAgg40, z25 := Tryz.sizeOf40, v25 := Tryz.zeroValue40, i25 := by kernel_rfl,
    t54 := Tryz.underlying144, a54 := Tryz.isAgg144, z54 := Tryz.sizeOf144, g1 := by kernel_rfl }

def Tab (w : World) : Prop := TabAt 2 Lib.deBruijn64tab w
theorem Tab.below {w w' : World} (h : Tab w) (hb : Below w.heap.size w w') : Tab w' := by
  intro j hj
  have h1 := h j hj
  have hl : 2 < w.heap.size := World.block_lt_of_cell? w _ h1
  exact (hb.cell (p := ⟨2, j, none⟩) hl).trans h1
theorem ctz_is {x : Nat} (h0 : x ≠ 0) (hx : x < B64) : TzIs x (Lib.ctz 64 x) ∧ Lib.ctz 64 x < 64 := by
  rw [B64_two_pow] at hx
  unfold Lib.ctz
  rw [if_neg h0]
  obtain ⟨m, hm, hk⟩ := Lib.ctzFrom_spec 64 x (by omega) hx
  generalize Lib.ctzFrom 64 x = k at *
  refine ⟨⟨?_, ?_⟩, hk⟩
  · rw [hm, Nat.mul_mod_right]
  · rw [hm, Nat.mul_div_cancel_left _ (Nat.pow_pos (by decide))]; omega
theorem tz_any {x r : Nat} (h0 : x ≠ 0) (hx : x < B64) (hr : TzIs x r) {w : World} (hT : Tab w) : Calls Tryz.prog 97 #[U x] w fun e w' => e = .returned (.int .i64 r) ∧ w' = w := by
  obtain ⟨h1, _⟩ := ctz_is h0 hx
  obtain rfl := hr.inj h1
  exact Any7.bits_TrailingZeros64 laysTz x (by rw [B64_eq] at hx; exact hx) w (fun _ => hT)

theorem tz_lift {xs : List Nat} (hd : Dig B64 xs) {j r : Nat} (hj : j < xs.length) (hz : valB B64 (xs.take j) = 0) (hr : TzIs (xs.getD j 0) r) (hr64 : r < 64) : TzIs (valB B64 xs) (64 * j + r) := by
  constructor
  · have h1 := valB_split B64 xs j (Nat.le_of_lt hj)
    have h2 := valB_drop B64 xs j hj
    rw [hz, Nat.zero_add, h2] at h1
    rw [h1, B64_pow, Nat.pow_add, Nat.mul_mod_mul_left]
    obtain ⟨k, hk⟩ : ∃ k, 64 = r + k := ⟨64 - r, by omega⟩
    have h3 : B64 = 2 ^ r * 2 ^ k := by rw [← Nat.pow_add, ← hk]; rfl
    rw [h3, Nat.mul_assoc, Nat.add_mul_mod_self_left, hr.1, Nat.mul_zero]
  · have h1 := digit_bit (b := B64) (e := 64) rfl hd hj hr64
    rw [← h1]
    exact hr.2

def TzO (v k : Nat) : Prop := (v = 0 ∧ k = 0) ∨ (v ≠ 0 ∧ TzIs v k)
theorem TzO.inj {v k l : Nat} (h : TzO v k) (h' : TzO v l) : k = l := by
  rcases h with ⟨h1, rfl⟩ | ⟨h1, h2⟩ <;> rcases h' with ⟨h3, rfl⟩ | ⟨h3, h4⟩
  · rfl
  · exact absurd h1 h3
  · exact absurd h3 h1
  · exact h2.inj h4
theorem TzO.ex (v : Nat) : ∃ k, TzO v k := by
  by_cases h : v = 0
  · exact ⟨0, .inl ⟨h, rfl⟩⟩
  · obtain ⟨k, hk⟩ := TzIs.ex v (by omega)
    exact ⟨k, .inr ⟨h, hk⟩⟩

theorem trail_any {p : Option Addr} {n c : Nat} {xs : List Nat} {k : Nat} {w : World} (h : At w p n c xs) (hn : n ≤ 17592186044416) (hk : TzO (valB B64 xs) k) (hT : Tab w) :
    Calls Tryz.prog 81 #[.slice p n c] w fun e w' => e = .returned (.int .i64 k) ∧ w' = w := by
  have HT : Hid (Tab w) := hT
  have HK : Hid (TzO (valB B64 xs) k) := hk
  have HD : Hid (Dig B64 xs) := h.dig
  have HL : Hid (xs.length = n) := h.len
  have cap := h.cap
  have big := h.big
  unfold maxLen at big
  have HC : Hid (n = 0 ∨ ∃ g off, p = some ⟨g, off, none⟩ ∧ ∀ j, j < n → w.cell? ⟨g, off + j, none⟩ = some (U (xs.getD j 0))) := h.cells
  clear h hk hT
  go_enter Tryz.func81, Tryz.ntmps81
  go_wp2_with fail
  go_loopg [6] n (fun gk iv wr => ∃ j : Nat, j + gk = n ∧ iv = .int .i64 j ∧ Hid (valB B64 (xs.take j) = 0) ∧ wr = w)
  case atStart => exact ⟨0, by omega, rfl, by show _ = _; simp [valB], rfl⟩
  case round =>
    obtain ⟨j, hjg, rfl, HZ, hwr⟩ := hrel
    obtain rfl := hwr.symm
    clear hwr
    cases gk with
    | zero =>
      obtain rfl : j = n := by omega
      have hnk : ¬ (j : Int) < (j : Int) := by omega
      have HK0 : Hid (k = 0) := by
        show _ = _
        have h1 := HZ.out
        rw [List.take_of_length_le (by rw [HL.out]; omega)] at h1
        exact HK.out.inj (.inl ⟨h1, rfl⟩)
      go_wp2_with fail
      go_ret
      exact ⟨ret_int (by have := HK0.out; omega), rfl⟩
    | succ gg =>
      have hjn : j < n := by omega
      obtain ⟨g, off, rfl, hcs⟩ := HC.out.resolve_left (by omega)
      obtain ⟨x, hx⟩ : ∃ x, x = xs.getD j 0 := ⟨_, rfl⟩
      have hcx : w.cell? ⟨g, off + j, none⟩ = some (U x) := by rw [hx]; exact hcs j hjn
      have hjI : (j : Int) < (n : Int) := by omega
      have hwj : IntKind.i64.wrap (j : Int) = (j : Int) := by simp [IntKind.wrap, IntKind.signed, IntKind.bits]; omega
      have hjb : j ≤ 17592186044416 := by omega
      have HXB : Hid (x < B64) := by show _ < _; rw [hx]; exact HD.out.getD B64_pos _
      clear hcs
      by_cases hx0 : x = 0
      · have HZ1 : Hid (valB B64 (xs.take (j + 1)) = 0) := by
          show _ = _
          rw [valB_take_any, HZ.out, ← hx, hx0, Nat.mul_zero]
        subst hx0
        clear hx HZ
        go_wp2_with fail
        go_roundg gg
        case measure => omega
        case rel => exact ⟨j + 1, by omega, by go_num, HZ1, rfl⟩
      · have hxI : ((x : Int) == 0) = false := by simp; omega
        obtain ⟨hr1, hr2⟩ := ctz_is hx0 HXB.out
        generalize Lib.ctz 64 x = r at *
        have HR : Hid (TzIs x r) := hr1
        have HKR : Hid (k = 64 * j + r) := by
          show _ = _
          have h1 := tz_lift HD.out (by rw [HL.out]; omega) HZ.out (hx ▸ hr1) hr2
          refine HK.out.inj (.inr ⟨fun e => ?_, h1⟩)
          have h2 := h1.2
          rw [e, Nat.zero_div] at h2
          exact absurd h2 (by decide)
        clear hr1 hx HZ
        go_wp2_with (go_at_call 97; refine (tz_any hx0 HXB.out HR.out HT.out).mono ?_; rintro e w' ⟨rfl, hw⟩; obtain rfl := hw.symm; clear hw)
        go_ret
        exact ⟨ret_int (by have := HKR.out; omega), rfl⟩
structure SubMulRel (w : World) (g off m : Nat) (zs ys : List Nat) (v k cy : Nat) (dk : List Nat) (wr : World) : Prop where
  wrs : Wr g off m w wr
  row : Row wr g off m dk
  hi : dk.drop k = zs.drop k
  car : cy < B64
  sum : valB B64 (zs.take k) + B64 ^ k * cy = valB B64 (dk.take k) + valB B64 (ys.take k) * v

theorem SubMulRel.step {w : World} {g off m : Nat} {zs ys : List Nat} {v k cy : Nat} {dk : List Nat} {wr : World} (h : SubMulRel w g off m zs ys v k cy dk wr) (hk : k < m)
    {x z l d : Nat} (hz : z = dk.getD k 0) (hx : x = ys.getD k 0) (hs : l + x * v + cy = z + B64 * d) (hl : l < B64) (hd : d < B64) :
    SubMulRel w g off m zs ys v (k + 1) d (dk.set k l) (wr.setCell ⟨g, off + k, none⟩ (U l)) := by
  have hlen := h.row.len
  refine ⟨h.wrs.setCell (off + k) ⟨by omega, by omega⟩ _, h.row.set k l hk hl, ?_, hd, ?_⟩
  · rw [drop_set_lt]; exact drop_succ_of_drop h.hi
  · have hzz : z = zs.getD k 0 := hz.trans (getD_of_drop h.hi)
    rw [take_set_succ dk k l (by omega), valB_snoc, List.length_take, hlen, Nat.min_eq_left (by omega), valB_take_any _ zs k, valB_take_any _ ys k, ← hzz, ← hx, Nat.pow_succ, Nat.add_mul]
    have e1 := h.sum
    have e2 : B64 ^ k * (l + x * v + cy) = B64 ^ k * (z + B64 * d) := by rw [hs]
    rw [Nat.mul_add, Nat.mul_add, Nat.mul_add, ← Nat.mul_assoc] at e2
    have e3 : B64 ^ k * x * v = B64 ^ k * (x * v) := Nat.mul_assoc _ _ _
    have e4 : B64 ^ k * B64 * d = B64 ^ k * (B64 * d) := Nat.mul_assoc _ _ _
    rw [e3, e4]
    rw [← Nat.mul_assoc] at e2
    generalize B64 ^ k * x * v = X0 at *
    generalize B64 ^ k * (x * v) = X1 at *
    generalize B64 ^ k * B64 * d = X2 at *
    generalize B64 ^ k * (B64 * d) = X3 at *
    generalize B64 ^ k * z = X4 at *
    generalize B64 ^ k * cy = X5 at *
    generalize B64 ^ k * l = X6 at *
    omega
theorem trial_step {q d l f s w0 w1 w2 : Nat} (h : q * (s + B64 * f) ≤ w0 + B64 * (w1 + B64 * w2)) (hi : d * f + l = w1 + B64 * w2) (hg : l * B64 + w0 < d * s) : q < d := by
  have h1 : d * (s + B64 * f) = d * s + B64 * (d * f) := by rw [Nat.mul_add, Nat.mul_left_comm]
  have h2 : B64 * (d * f) + B64 * l = B64 * (w1 + B64 * w2) := by rw [← Nat.mul_add, hi]
  have h3 : l * B64 = B64 * l := Nat.mul_comm _ _
  have h4 : q * (s + B64 * f) < d * (s + B64 * f) := by omega
  exact Nat.lt_of_mul_lt_mul_right h4
structure TrialC (ws ds : List Nat) (n w0 w1 w2 s f q : Nat) : Prop where
  e0 : w0 = ws.getD (n - 2) 0
  e1 : w1 = ws.getD (n - 1) 0
  e2 : w2 = ws.getD n 0
  es : s = ds.getD (n - 2) 0
  ef : f = ds.getD (n - 1) 0
  b0 : w0 < B64
  b1 : w1 < B64
  b2 : w2 < B64
  bs : s < B64
  bf : f < B64
  top : q * (s + B64 * f) ≤ w0 + B64 * (w1 + B64 * w2)
  le : w2 ≤ f
  qb : q < B64
structure TrialR (w1 w2 f q d l o : Nat) : Prop where
  qd : q ≤ d
  db : d < B64
  lb : l < B64
  ob : o ≤ 1
  sum : o = 0 → d * f + l = w1 + B64 * w2
theorem TrialR.down {w0 w1 w2 s f q d l o l' o' : Nat} (h : TrialR w1 w2 f q d l o) {ws ds : List Nat} {n : Nat} (c : TrialC ws ds n w0 w1 w2 s f q) (ho : o = 0) (hg : l * B64 + w0 < d * s) (ha : l + f + 0 = l' + B64 * o') (hl' : l' < B64) (ho' : o' ≤ 1) : 1 ≤ d ∧ TrialR w1 w2 f q (d - 1) l' o' := by
  have h1 := trial_step c.top (h.sum ho) hg
  have h2 := h.db
  refine ⟨by omega, by omega, by omega, hl', ho', fun h0 => ?_⟩
  subst h0
  have h3 := h.sum ho
  have h4 : d * f = (d - 1) * f + f := by rw [← Nat.succ_mul, show (d - 1).succ = d by omega]
  omega
theorem bit_neg (p : Option Addr) (n c : Nat) (i : Int) (hi : i < 0) (w : World) : Calls Tryz.prog 64 #[.slice p n c, .int .i64 i] w fun e w' => e = .returned (.bool false) ∧ w' = w := by
  have hb : decide (i < 0) = true := decide_eq_true hi
  go_enter Tryz.func64, Tryz.ntmps64
  go_wp2_with fail
  go_ret
  exact ⟨rfl, rfl⟩
def bitO (v : Nat) (i : Int) : Bool := if i < 0 then false else decide (v / 2 ^ i.toNat % 2 = 1)
theorem bit_int {p : Option Addr} {n c : Nat} {xs : List Nat} {w : World} (h : At w p n c xs) (hn : n ≤ 17592186044416) (i : Int) (hi : i ≤ 9223372036854775807) :
    Calls Tryz.prog 64 #[.slice p n c, .int .i64 i] w fun e w' => e = .returned (.bool (bitO (valB B64 xs) i)) ∧ w' = w := by
  by_cases h0 : i < 0
  · unfold bitO
    rw [if_pos h0]
    exact bit_neg p n c i h0 w
  · obtain ⟨m, rfl⟩ := Int.eq_ofNat_of_zero_le (by omega : 0 ≤ i)
    unfold bitO
    rw [if_neg h0, Int.toNat_natCast]
    exact bit_any h hn m (by omega)
def fl (s : Bool) (a d : Nat) : Int := iv s (a / d + (s && decide (a % d ≠ 0)).toNat)
def neUp (a d : Nat) : Bool := decide (d < 2 * (a % d)) || (decide (2 * (a % d) = d) && decide (a / d % 2 = 1))
def HfIs (r d : Nat) (h : Int) : Prop := (2 * r < d ∧ h = -1) ∨ (2 * r = d ∧ h = 0) ∨ (d < 2 * r ∧ h = 1)
theorem HfIs.up {a d : Nat} {h : Int} (k : HfIs (a % d) d h) : neUp a d = (decide (0 < h) || (decide (h = 0) && decide (a / d % 2 = 1))) := by
  unfold neUp
  rcases k with ⟨k, rfl⟩ | ⟨k, rfl⟩ | ⟨k, rfl⟩
  · rw [decide_eq_false (by omega), decide_eq_false (p := 2 * (a % d) = d) (by omega)]; rfl
  · rw [decide_eq_false (by omega), decide_eq_true (p := 2 * (a % d) = d) (by omega)]; rfl
  · rw [decide_eq_true (by omega)]; rfl
theorem ce_le {a d : Nat} (h : a % d ≠ 0) : a / d + 1 ≤ a := by
  rcases Nat.lt_or_ge d 2 with hd | hd
  · have : d = 0 ∨ d = 1 := by omega
    rcases this with rfl | rfl
    · rw [Nat.div_zero]; rw [Nat.mod_zero] at h; omega
    · omega
  · have h1 : a / d ≤ a / 2 := Nat.div_le_div_left hd (by omega)
    rcases Nat.lt_or_ge a 2 with ha | ha
    · have h2 : a ≠ 0 := fun e => h (by rw [e, Nat.zero_mod])
      omega
    · omega
theorem bit_half {a n : Nat} (hn : 0 < n) : (a / 2 ^ (n - 1) % 2 = 1) ↔ 2 ^ n ≤ 2 * (a % 2 ^ n) := by
  obtain ⟨k, rfl⟩ : ∃ k, n = k + 1 := ⟨n - 1, by omega⟩
  rw [Nat.add_sub_cancel, Nat.pow_succ, Nat.mod_mul]
  have h1 : a % 2 ^ k < 2 ^ k := Nat.mod_lt _ (Nat.pow_pos (by omega))
  have h2 : a / 2 ^ k % 2 < 2 := Nat.mod_lt _ (by omega)
  generalize a / 2 ^ k % 2 = b at *
  rcases (by omega : b = 0 ∨ b = 1) with rfl | rfl
  · simp; omega
  · simp; omega
theorem half_eq {a n : Nat} (hn : 0 < n) (h : a / 2 ^ (n - 1) % 2 = 1) : (a % 2 ^ (n - 1) = 0 ↔ 2 * (a % 2 ^ n) = 2 ^ n) := by
  obtain ⟨k, rfl⟩ : ∃ k, n = k + 1 := ⟨n - 1, by omega⟩
  rw [Nat.add_sub_cancel] at *
  rw [Nat.pow_succ, Nat.mod_mul, h]
  omega
theorem bitO_half (a n : Nat) : bitO a ((n : Int) - 1) = decide (2 ^ n ≤ 2 * (a % 2 ^ n)) := by
  unfold bitO
  rcases Nat.eq_zero_or_pos n with rfl | hn
  · rw [if_pos (by omega)]
    exact (decide_eq_false (by omega)).symm
  · rw [if_neg (by omega), show ((n : Int) - 1).toNat = n - 1 from by omega]
    exact decide_eq_decide.2 (bit_half hn)
def AnsZ (B : Nat) (w' : World) (v : Value) (z : Int) : Prop :=
  ∃ p m zs, v = ZV (decide (z < 0)) p m m ∧ Own B w' p m zs ∧ Nf B64 zs z.natAbs ∧ m ≤ 8192
theorem iv_lt (s : Bool) (n : Nat) : decide (iv s n < 0) = (s && decide (0 < n)) := by
  cases s
  · simp [iv]
  · simp only [iv, if_true, Bool.true_and]; exact decide_eq_decide.2 (by omega)
theorem AnsZ.mk {B : Nat} {w' : World} {p : Option Addr} {m : Nat} {zs : List Nat} {q : Nat} (s : Bool) (ho : Own B w' p m zs) (hn : Nf B64 zs q) (hm : m ≤ 8192) : AnsZ B w' (ZV (s && decide (0 < m)) p m m) (iv s q) :=
  ⟨p, m, zs, by rw [iv_lt, hn.lenpos ho.len], ho, by rw [iv_natAbs]; exact hn, hm⟩
theorem own_set2 {B b : Nat} {w' : World} {p : Option Addr} {m : Nat} {zs : List Nat} (h : Own B w' p m zs) {r : Nat} (hr : r < B) (hb : b ≤ B) (v0 v1 : Value) : Own b ((w'.setCell ⟨r, 0, none⟩ v0).setCell ⟨r, 1, none⟩ v1) p m zs :=
  ((h.setOld _ _ _ hr).setOld _ _ _ hr).mono hb
theorem AnsZ.below {B : Nat} {w w' : World} {v : Value} {z : Int} (h : AnsZ B w v z) (hb : Below w.heap.size w w') : AnsZ B w' v z := by
  obtain ⟨p, m, zs, rfl, ho, hn, hm⟩ := h
  exact ⟨p, m, zs, rfl, ho.below hb, hn, hm⟩
abbrev FR (s : Bool) (p : Option Addr) (m c : Nat) (x : Bool) (h : Int) : Value := .agg #[.bool s, .slice p m c, .bool x, .int .i64 h]
structure B4q (W : World) (g : Nat) (v0 v1 v2 v3 : Value) : Prop where
  c0 : W.cell? ⟨g, 0, none⟩ = some v0
  c1 : W.cell? ⟨g, 1, none⟩ = some v1
  c2 : W.cell? ⟨g, 2, none⟩ = some v2
  c3 : W.cell? ⟨g, 3, none⟩ = some v3
  f0 : W.frozen? ⟨g, 0, none⟩ = false
  f1 : W.frozen? ⟨g, 1, none⟩ = false
  f2 : W.frozen? ⟨g, 2, none⟩ = false
  f3 : W.frozen? ⟨g, 3, none⟩ = false
theorem B4q.below {W W' : World} {g : Nat} {v0 v1 v2 v3 : Value} (h : B4q W g v0 v1 v2 v3) (hb : Below W.heap.size W W') : B4q W' g v0 v1 v2 v3 := by
  have hl : g < W.heap.size := World.block_lt_of_cell? W _ h.c0
  exact ⟨(hb.cell (p := ⟨g, 0, none⟩) hl).trans h.c0, (hb.cell (p := ⟨g, 1, none⟩) hl).trans h.c1, (hb.cell (p := ⟨g, 2, none⟩) hl).trans h.c2, (hb.cell (p := ⟨g, 3, none⟩) hl).trans h.c3,
    (hb.frozen (p := ⟨g, 0, none⟩) hl).trans h.f0, (hb.frozen (p := ⟨g, 1, none⟩) hl).trans h.f1, (hb.frozen (p := ⟨g, 2, none⟩) hl).trans h.f2, (hb.frozen (p := ⟨g, 3, none⟩) hl).trans h.f3⟩
theorem B4q.new (w : World) (ty : TypeId) (v0 v1 v2 v3 : Value) : B4q (w.alloc (.cells #[v0, v1, v2, v3] ty)) w.heap.size v0 v1 v2 v3 :=
  ⟨by go_simp, by go_simp, by go_simp, by go_simp, by go_simp, by go_simp, by go_simp, by go_simp⟩
theorem Box.lt {W : World} {g : Nat} {v0 v1 : Value} (h : Box W g v0 v1) : g < W.heap.size := World.block_lt_of_cell? W _ h.c0
theorem B4q.lt {W : World} {g : Nat} {v0 v1 v2 v3 : Value} (h : B4q W g v0 v1 v2 v3) : g < W.heap.size := World.block_lt_of_cell? W _ h.c0
theorem tz_lt {a k n : Nat} (h : TzIs a k) : decide (k < n) = decide (a % 2 ^ n ≠ 0) := by
  by_cases hk : k < n
  · rw [decide_eq_true hk, decide_eq_true]
    intro e
    have := h.ge e
    omega
  · rw [decide_eq_false hk, decide_eq_false]
    intro e
    apply e
    have h1 := Nat.dvd_of_mod_eq_zero h.1
    exact Nat.mod_eq_zero_of_dvd (Nat.dvd_trans (Nat.pow_dvd_pow 2 (by omega)) h1)
theorem Own.setNot {B : Nat} {w : World} {p : Option Addr} {m : Nat} {zs : List Nat} (h : Own B w p m zs) (g2 o2 : Nat) (v : Value) (hne : ∀ g, p = some ⟨g, 0, none⟩ → 0 < m → g ≠ g2) : Own B (w.setCell ⟨g2, o2, none⟩ v) p m zs := by
  refine ⟨h.len, h.dig, ?_⟩
  rcases h.mem with h0 | ⟨g, hp, hB, hr⟩
  · exact .inl h0
  · by_cases hm : m = 0
    · exact .inl hm
    · exact .inr ⟨g, hp, hB, hr.oth g2 o2 v (hne g hp (by omega))⟩
theorem half_lt {a n : Nat} {h : Int} (hb : false = bitO a ((n : Int) - 1)) (hh : h = -1) : HfIs (a % 2 ^ n) (2 ^ n) h := by
  rw [bitO_half] at hb
  have := of_decide_eq_false hb.symm
  exact .inl ⟨by omega, hh⟩
theorem half_ge {a n k : Nat} {h : Int} (hb : true = bitO a ((n : Int) - 1)) (ht : TzIs a k) (hh : h = if (k : Int) < (n : Int) - 1 then 1 else 0) : HfIs (a % 2 ^ n) (2 ^ n) h := by
  have h0 : 0 < n := by
    rcases Nat.eq_zero_or_pos n with rfl | h
    · unfold bitO at hb; rw [if_pos (by omega)] at hb; cases hb
    · exact h
  have h2 : a / 2 ^ (n - 1) % 2 = 1 := by
    unfold bitO at hb
    rw [if_neg (by omega), show ((n : Int) - 1).toNat = n - 1 from by omega] at hb
    exact of_decide_eq_true hb.symm
  have h1 := of_decide_eq_true ((bitO_half a n).symm.trans hb.symm)
  have h3 := half_eq h0 h2
  have h4 := tz_lt (n := n - 1) ht
  by_cases hk : k < n - 1
  · rw [if_pos (by omega)] at hh
    rw [decide_eq_true hk] at h4
    have := of_decide_eq_true h4.symm
    have : 2 * (a % 2 ^ n) ≠ 2 ^ n := fun e => this (h3.2 e)
    exact .inr (.inr ⟨by omega, hh⟩)
  · rw [if_neg (by omega)] at hh
    rw [decide_eq_false hk] at h4
    have := of_decide_eq_false h4.symm
    have : 2 * (a % 2 ^ n) = 2 ^ n := h3.1 (by omega)
    exact .inr (.inl ⟨this, hh⟩)
end Go.Proofs.YthobkfkeaealhaaGreatDoor
namespace Go.Proofs.YthobkfkeaealhaaGreatDoor
open Go.RowKit
set_option maxRecDepth 20000
set_option maxHeartbeats 0
variable {P : Program} {md : Region.Mode} {ops : Array Oper} {Q : Exit → Act → World → Prop} {J : World → Prop}

def wpJ (P : Program) (md : Region.Mode) (ops : Array Oper) (Q : Exit → Act → World → Prop) (J : World → Prop) : Nat → Array Bool → Act → World → Prop
  | 0, listed, a, w => Region.ready md ops listed = [] ∧ Q .normal a w
  | fuel + 1, listed, a, w =>
    (Region.ready md ops listed = [] → Q .normal a w) ∧
    ∀ i ∈ Region.ready md ops listed, wpOp P ops Q i (fun a' w' => J w' ∧ wpJ P md ops Q J fuel (listed.setIfInBounds i true) a' w') a w
theorem wpJ_any : ∀ (fuel : Nat) (listed : Array Bool) (a : Act) (w : World), wpJ P md ops Q J fuel listed a w → wpAny P md ops Q fuel listed a w
  | 0, _, _, _, h => h
  | fuel + 1, _, _, _, h => ⟨h.1, fun i hi => wpOp_mono (fun a' w' h' => wpJ_any fuel _ a' w' h'.2) (h.2 i hi)⟩

def YieldsJ (P : Program) (ops : Array Oper) (J : World → Prop) (o : Oper) (v : Value) (a : Act) : Prop :=
  (Region.wanted o (yielded ops a.tmps) = true ∧ ∀ w, J w → (execOp a.eval o).run P w = .ok (.value v) w) ∨ (Region.wanted o (yielded ops a.tmps) = false ∧ v = undef)
theorem YieldsJ.wpOp {i : Nat} {o : Oper} {v : Value} {a : Act} (hi : ops[i]? = some o) (hy : YieldsJ P ops J o v a)
    {K : Act → World → Prop} {w : World} (hJ : J w) (h : K (a.put o.dst v) w) : wpOp P ops Q i K a w := by
  unfold Go.wpOp
  simp only [hi]
  rcases hy with ⟨hw, hv⟩ | ⟨hw, rfl⟩
  · simp only [hw, if_true, Oper.wp, hv w hJ, Oper.upon]
    exact .inl h
  · simp only [hw]
    exact h
theorem YieldsJ.of_same {o : Oper} {v : Value} {a a' : Act} (hy : YieldsJ P ops J o v a) (he : execOp a'.eval o = execOp a.eval o)
    (hw : Region.wanted o (yielded ops a'.tmps) = Region.wanted o (yielded ops a.tmps)) : YieldsJ P ops J o v a' := by
  unfold YieldsJ at *
  rw [he, hw]
  exact hy
theorem wpOpJ_put {j : Nat} {oi oj : Oper} {v : Value} (hj : ops[j]? = some oj) (hap : oi.apart ops oj = true)
    (hsi : ∀ cs b, oi.op ≠ .select cs b) (hsj : ∀ cs b, oj.op ≠ .select cs b)
    (hQ : ∀ c a w, Q (.panic c) (a.put oi.dst v) w → Q (.panic c) a w) {K : Act → World → Prop} {a : Act} {w : World}
    (hy : YieldsJ P ops J oi v a) (h : wpOp P ops Q j K (a.put oi.dst v) w) :
    wpOp P ops Q j (fun a' w' => YieldsJ P ops J oi v a' ∧ K (a'.put oi.dst v) w') a w := by
  obtain ⟨h1, h2, h3⟩ := Oper.apart_spec hap
  have keep : ∀ (a : Act), YieldsJ P ops J oi v a → ∀ u, YieldsJ P ops J oi v (a.put oj.dst u) := fun a hy u =>
    hy.of_same (execOp_put oi hsi a oj.dst u h3) (wanted_put oi a oj.dst u h3)
  have keepD : ∀ d, YieldsJ P ops J oi v { a with defers := d :: a.defers } := fun d => hy.of_same rfl rfl
  unfold wpOp at *
  simp only [hj] at *
  rw [wanted_put oj a oi.dst v h1] at h
  split
  · rename_i hw
    simp only [hw, if_true] at h
    rcases h with h | ⟨hasks, hlets⟩
    case inr => exact .inr ⟨by unfold Oper.asks at *; rw [execOp_put oj hsj a oi.dst v h1] at hasks; exact hasks, hlets⟩
    refine .inl ?_
    unfold Oper.wp at *
    rw [execOp_put oj hsj a oi.dst v h1] at h
    generalize (execOp a.eval oj).run P w = r at *
    cases r with
    | ok n w' =>
      cases n <;> simp only [Oper.upon] at h ⊢
      case value u => exact ⟨keep a hy u, by rw [← Act.put_comm a v u h2]; exact h⟩
      case skip => exact ⟨keep a hy _, by rw [← Act.put_comm a v undef h2]; exact h⟩
      case defer d =>
        refine ⟨keep _ (keepD d) _, ?_⟩
        rw [← Act.put_comm _ v undef h2, ← Act.put_defers]
        exact h
      case enter f args =>
        refine Calls.mono h fun e w'' he => ?_
        cases e with
        | returned u => exact ⟨keep a hy u, by rw [← Act.put_comm a v u h2]; exact he⟩
        | panicked c => exact hQ _ _ _ he
        | outgrown => exact he
      case row row args => exact Rows.mono h fun u w'' he => ⟨keep a hy u, by rw [← Act.put_comm a v u h2]; exact he⟩
    | halt x w' =>
      cases x <;> simp only [Oper.upon] at h ⊢
      case panic u => exact hQ _ _ _ h
  · rename_i hw
    simp only [hw] at h
    exact ⟨keep a hy _, by rw [← Act.put_comm a v undef h2]; exact h⟩

theorem wpJ_first {i : Nat} {oi : Oper} {v : Value} (hi : ops[i]? = some oi) (hsel : ∀ (j : Nat) (o : Oper) cs b, ops[j]? = some o → o.op ≠ .select cs b)
    (hQ : ∀ c a w, Q (.panic c) (a.put oi.dst v) w → Q (.panic c) a w) :
    ∀ (fuel : Nat) (listed : Array Bool) (a : Act) (w : World),
      (∀ j oj, ops[j]? = some oj → j ≠ i → listed.getD j true = false → (∀ e ∈ oj.after, Region.binds md e = true → e.on ≠ i) → oi.apart ops oj = true) →
      i ∈ Region.ready md ops listed → YieldsJ P ops J oi v a → J w →
      wpJ P md ops Q J fuel (listed.setIfInBounds i true) (a.put oi.dst v) w → wpJ P md ops Q J (fuel + 1) listed a w := by
  intro fuel
  induction fuel with
  | zero =>
    intro listed a w _ hr hy hJ H
    refine ⟨fun h => (by rw [h] at hr; cases hr), fun j hj => ?_⟩
    by_cases hji : j = i
    · subst hji; exact hy.wpOp hi hJ ⟨hJ, H⟩
    · have := ready_mono hj hji
      rw [H.1] at this
      cases this
  | succ fuel ih =>
    intro listed a w hfree hr hy hJ H
    refine ⟨fun h => (by rw [h] at hr; cases hr), fun j hj => ?_⟩
    by_cases hji : j = i
    · subst hji; exact hy.wpOp hi hJ ⟨hJ, H⟩
    · have h1 := H.2 j (ready_mono hj hji)
      obtain ⟨hjun, oj, hoj, hall⟩ := mem_ready.1 hj
      have hnot : ∀ e ∈ oj.after, Region.binds md e = true → e.on ≠ i := fun e he hb heq => by
        have h1 := hall e he hb
        have h0 := (mem_ready.1 hr).1
        rw [heq] at h1
        rcases Nat.lt_or_ge i listed.size with h' | h'
        · simp [h'] at h0 h1; rw [h0] at h1; cases h1
        · simp [Array.getElem?_eq_none h'] at h1
      have h2 := wpOpJ_put hoj (hfree j oj hoj hji hjun hnot) (fun cs b => hsel i oi cs b hi) (fun cs b => hsel j oj cs b hoj) hQ hy h1
      have hfree' : ∀ k ok, ops[k]? = some ok → k ≠ i → (listed.setIfInBounds j true).getD k true = false →
          (∀ e ∈ ok.after, Region.binds md e = true → e.on ≠ i) → oi.apart ops ok = true := fun k ok hk hki hun hno => by
        refine hfree k ok hk hki ?_ hno
        by_cases hjk : j = k
        · subst hjk; exact hjun
        · rw [getD_set_ne true hjk] at hun; exact hun
      refine wpOp_mono (fun a' w' h3 => ⟨h3.2.1, ih (listed.setIfInBounds j true) a' w' hfree' (ready_mono hr (Ne.symm hji)) h3.1 h3.2.1 ?_⟩) h2
      rw [Array.setIfInBounds_comm _ _ hji]
      exact h3.2.2

theorem wpJ_take {i : Nat} {oi : Oper} {v : Value} {fuel : Nat} {listed : Array Bool} {a : Act} {w : World} (hi : ops[i]? = some oi)
    (hs : Region.noSelect ops = true) (hf : Region.free md ops listed i = true) (hr : (Region.ready md ops listed).contains i = true)
    (hQ : ∀ c a w, Q (.panic c) (a.put oi.dst v) w → Q (.panic c) a w) (hw : Region.wanted oi (yielded ops a.tmps) = true)
    (hy : ∀ w, J w → (execOp a.eval oi).run P w = .ok (.value v) w) (hJ : J w)
    (h : wpJ P md ops Q J fuel (listed.setIfInBounds i true) (a.put oi.dst v) w) : wpJ P md ops Q J (fuel + 1) listed a w :=
  wpJ_first hi (Region.noSelect_spec hs) hQ fuel listed a w (Region.free_spec hi hf) (by simpa using hr) (.inl ⟨hw, hy⟩) hJ h
theorem wpJ_tk (i : Nat) {oi : Oper} {v : Value} {fuel : Nat} {listed : Array Bool} {a : Act} {w : World} (hi : ops[i]? = some oi)
    (hy : ∀ w, J w → (execOp a.eval oi).run P w = .ok (.value v) w) (hJ : J w)
    (h : wpJ P md ops Q J fuel (listed.setIfInBounds i true) (a.put oi.dst v) w) (hs : Region.noSelect ops = true := by kernel_rfl) (hf : Region.free md ops listed i = true := by kernel_rfl)
    (hr : (Region.ready md ops listed).contains i = true := by kernel_rfl) (hQ : ∀ c a w, Q (.panic c) (a.put oi.dst v) w → Q (.panic c) a w := by exact fun _ _ _ h => h)
    (hw : Region.wanted oi (yielded ops a.tmps) = true := by kernel_rfl) : wpJ P md ops Q J (fuel + 1) listed a w := wpJ_take hi hs hf hr hQ hw hy hJ h
theorem wpJ_tq (i : Nat) {oi : Oper} {v : Value} {fuel : Nat} {listed : Array Bool} {a : Act} {w : World} (hi : ops[i]? = some oi) (hJ : J w)
    (h : wpJ P md ops Q J fuel (listed.setIfInBounds i true) (a.put oi.dst v) w)
    (hy : ∀ w, J w → (execOp a.eval oi).run P w = .ok (.value v) w := by (intro W' hJ; repeat (obtain ⟨_, hJ⟩ := hJ); go_simp; first | done | with_reducible rfl)) (hs : Region.noSelect ops = true := by kernel_rfl) (hf : Region.free md ops listed i = true := by kernel_rfl)
    (hr : (Region.ready md ops listed).contains i = true := by kernel_rfl) (hQ : ∀ c a w, Q (.panic c) (a.put oi.dst v) w → Q (.panic c) a w := by exact fun _ _ _ h => h)
    (hw : Region.wanted oi (yielded ops a.tmps) = true := by kernel_rfl) : wpJ P md ops Q J (fuel + 1) listed a w := wpJ_take hi hs hf hr hQ hw hy hJ h
theorem wpJ_one {i : Nat} {o : Oper} {fuel : Nat} {listed : Array Bool} {a : Act} {w : World} (hr : Region.ready md ops listed = [i]) (ho : ops[i]? = some o)
    (hw : Region.wanted o (yielded ops a.tmps) = true)
    (h : ∀ K : Act → World → Prop, (∀ a' w', J w' → wpJ P md ops Q J fuel (listed.setIfInBounds i true) a' w' → K a' w') → Oper.wp P o a w K Q) : wpJ P md ops Q J (fuel + 1) listed a w := by
  refine ⟨fun h => (by rw [hr] at h; cases h), fun j hj => ?_⟩
  rw [hr] at hj
  obtain rfl : j = i := by simpa using hj
  unfold wpOp
  simp only [ho, hw, if_true]
  exact .inl (h _ fun a' w' h1 h2 => ⟨h1, h2⟩)
theorem wpJ_on (i : Nat) {o : Oper} {fuel : Nat} {listed : Array Bool} {a : Act} {w : World} (ho : ops[i]? = some o)
    (h : ∀ K : Act → World → Prop, (∀ a' w', J w' → wpJ P md ops Q J fuel (listed.setIfInBounds i true) a' w' → K a' w') → Oper.wp P o a w K Q) (hr : Region.ready md ops listed = [i] := by kernel_rfl)
    (hw : Region.wanted o (yielded ops a.tmps) = true := by kernel_rfl) : wpJ P md ops Q J (fuel + 1) listed a w := wpJ_one hr ho hw h
theorem wpJ_done {listed : Array Bool} {a : Act} {w : World} (hr : Region.ready md ops listed = []) (h : Q .normal a w) : ∀ fuel, wpJ P md ops Q J fuel listed a w
  | 0 => ⟨hr, h⟩
  | _ + 1 => ⟨fun _ => h, by rw [hr]; simp⟩
theorem wp_region_J (J : World → Prop) {id : Nat} {a : Act} {w : World} (hm : P.follows .mixedOrders = true)
    (h : wpJ P .any ops Q J ops.size (Array.replicate ops.size false) a w.drew) : (Code.region id ops true).wp P Q a w :=
  wp_region_any hm (wpJ_any _ _ _ _ h)
end Go.Proofs.YthobkfkeaealhaaGreatDoor
namespace Go.Proofs.YthobkfkeaealhaaGreatDoor
open Go.RowKit Go.Shelf
set_option maxRecDepth 20000
set_option maxHeartbeats 0
theorem Own.drewq {B : Nat} {w : World} {p : Option Addr} {m : Nat} {zs : List Nat} (h : Own B w p m zs) : Own B w.drew p m zs := by
  refine ⟨h.len, h.dig, ?_⟩
  rcases h.mem with h0 | ⟨g, hp, hB, hr⟩
  · exact .inl h0
  · exact .inr ⟨g, hp, hB, hr.drew⟩
theorem rounded_f (p : Option Addr) (m : Nat) (s x : Bool) (hf : Int) (w : World) :
    Calls Tryz.prog 111 #[FR s p m m x hf, .bool false] w fun e w' => e = .returned (ZV (s && decide (0 < m)) p m m) ∧ Below w.heap.size w w' := by
  go_enter Tryz.func111, Tryz.ntmps111
  go_wp2_with fail
  obtain ⟨W0, hW0⟩ : ∃ W0, W0 = ((w.alloc (.cells #[.bool s, .slice p m m, .bool x, .int .i64 hf] 131)).alloc (.cells #[.bool false, .slice none 0 0] 45)) := ⟨_, rfl⟩
  have Xf : Hid (B4q W0 (w.heap.size) (.bool s) (.slice p m m) (.bool x) (.int .i64 hf)) := by rw [hW0]; exact ⟨by go_simp, by go_simp, by go_simp, by go_simp, by go_simp, by go_simp, by go_simp, by go_simp⟩
  have Xr : Hid (Box W0 (w.heap.size + 1) (.bool false) (.slice none 0 0)) := by rw [hW0]; exact ⟨by go_simp, by go_simp, by go_simp, by go_simp⟩
  have hb0 : Below w.heap.size w W0 := by rw [hW0]; exact below2 w _ _
  rw [← hW0]
  clear hW0
  have hbw : Below w.heap.size w w := Below.refl _ _
  obtain ⟨gr, hgr⟩ : ∃ g, g = w.heap.size + 1 := ⟨_, rfl⟩
  have HGr : Hid (w.heap.size ≤ gr) := by rw [hgr]; show _ ≤ _; omega
  rw [← hgr] at Xr
  try rw [← hgr]
  obtain ⟨gf, hgf⟩ : ∃ g, g = w.heap.size := ⟨_, rfl⟩
  have HGf : Hid (w.heap.size ≤ gf) := by rw [hgf]; show _ ≤ _; omega
  rw [← hgf] at Xf
  try rw [← hgf]
  have HGD : Hid (gf ≠ gr ∧ gr ≠ gf) := by rw [hgf, hgr]; exact ⟨by omega, by omega⟩
  clear hgf hgr
  replace hbw := Below.on hbw hb0
  clear hb0
  refine (signed_any s p m m W0).mono ?_
  rintro e w1 ⟨rfl, hb1⟩
  replace Xf : Hid _ := Xf.out.below hb1
  replace Xr : Hid _ := Xr.out.below hb1
  replace hbw := Below.on hbw hb1
  clear hb1
  obtain ⟨b, hb⟩ : ∃ b, b = (s && decide (0 < m)) := ⟨_, rfl⟩
  rw [← hb]
  have HBB : Hid (b = (s && decide (0 < m))) := hb
  clear hb
  obtain ⟨cr0, cr1, fr0, fr1⟩ := Xr.out
  have hner := Xr.out.lt
  go_wp2_with fail
  refine bodyPost_ret (v := ZV b p m m) (by rw [results_cell1 rfl]; go_simp) rfl ⟨by rw [HBB.out], ?_⟩
  exact bSet (bSet hbw _ _ _ HGr.out) _ _ _ HGr.out

theorem rounded_t {B : Nat} {p : Option Addr} {m : Nat} {zs : List Nat} {q : Nat} {w : World} (s x : Bool) (hf : Int) (ho : Own B w p m zs) (hn : Nf B64 zs q) (hm : m ≤ 8192) (hq : q + 1 < LIM) :
    Calls Tryz.prog 111 #[FR s p m m x hf, .bool true] w fun e w' => ∃ v, e = .returned v ∧ AnsZ w.heap.size w' v (iv s (q + 1)) ∧ Below w.heap.size w w' := by
  have HO : Hid (Own B w p m zs) := ho
  have HN : Hid (Nf B64 zs q ∧ m ≤ 8192 ∧ q + 1 < LIM) := ⟨hn, hm, hq⟩
  clear ho hn hm hq
  go_enter Tryz.func111, Tryz.ntmps111
  go_wp2_with fail
  obtain ⟨W0, hW0⟩ : ∃ W0, W0 = ((w.alloc (.cells #[.bool s, .slice p m m, .bool x, .int .i64 hf] 131)).alloc (.cells #[.bool false, .slice none 0 0] 45)) := ⟨_, rfl⟩
  have Xf : Hid (B4q W0 (w.heap.size) (.bool s) (.slice p m m) (.bool x) (.int .i64 hf)) := by rw [hW0]; exact ⟨by go_simp, by go_simp, by go_simp, by go_simp, by go_simp, by go_simp, by go_simp, by go_simp⟩
  have Xr : Hid (Box W0 (w.heap.size + 1) (.bool false) (.slice none 0 0)) := by rw [hW0]; exact ⟨by go_simp, by go_simp, by go_simp, by go_simp⟩
  have hb0 : Below w.heap.size w W0 := by rw [hW0]; exact below2 w _ _
  rw [← hW0]
  clear hW0
  have hbw : Below w.heap.size w w := Below.refl _ _
  obtain ⟨gr, hgr⟩ : ∃ g, g = w.heap.size + 1 := ⟨_, rfl⟩
  have HGr : Hid (w.heap.size ≤ gr) := by rw [hgr]; show _ ≤ _; omega
  rw [← hgr] at Xr
  try rw [← hgr]
  obtain ⟨gf, hgf⟩ : ∃ g, g = w.heap.size := ⟨_, rfl⟩
  have HGf : Hid (w.heap.size ≤ gf) := by rw [hgf]; show _ ≤ _; omega
  rw [← hgf] at Xf
  try rw [← hgf]
  have HGD : Hid (gf ≠ gr ∧ gr ≠ gf) := by rw [hgf, hgr]; exact ⟨by omega, by omega⟩
  clear hgf hgr
  replace HO : Hid (Own B W0 p m zs) := HO.out.below hb0
  replace hbw := Below.on hbw hb0
  clear hb0
  have XfD : Hid (B4q W0.drew gf (.bool s) (.slice p m m) (.bool x) (.int .i64 hf)) := ⟨Xf.out.c0, Xf.out.c1, Xf.out.c2, Xf.out.c3, Xf.out.f0, Xf.out.f1, Xf.out.f2, Xf.out.f3⟩
  have XrD : Hid (Box W0.drew gr (.bool false) (.slice none 0 0)) := ⟨Xr.out.c0, Xr.out.c1, Xr.out.f0, Xr.out.f1⟩
  have HOD : Hid (Own B W0.drew p m zs) := HO.out.drewq
  have hbw2 := bDrew1 hbw
  clear Xf Xr HO hbw
  have Xf := XfD
  have Xr := XrD
  have HO := HOD
  have hbw := hbw2
  clear XfD XrD HOD hbw2
  have HJ : Hid ((fun W' : World => W'.cell? ⟨gf, 1, none⟩ = some (.slice p m m)) W0.drew) := Xf.out.c1
  refine wp_region_J (fun W' => W'.cell? ⟨gf, 1, none⟩ = some (.slice p m m)) (by kernel_rfl) ?_
  refine wpJ_tk 0 (v := ?v1x0) rfl ?hy1x0 HJ.out ?_
  case hy1x0 => (intro W' hJ; have j1 := hJ; go_simp; first | done | with_reducible rfl)
  refine wpJ_tk 1 (v := ?v2x1) rfl ?hy2x1 HJ.out ?_
  case hy2x1 => (intro W' hJ; have j1 := hJ; go_simp; first | done | with_reducible rfl)
  generalize W0.drew = W1 at *
  refine wpJ_on 2 rfl fun K hK => ?_
  go_simp
  rw [show Value.int IntKind.u64 1 = U 1 from rfl]
  refine (word_any 1 W1 (by decide)).mono ?_
  rintro e w2 ⟨p2, m2, z2, rfl, ho2, hn2, hm2, hb2⟩
  replace Xf : Hid _ := Xf.out.below hb2
  replace Xr : Hid _ := Xr.out.below hb2
  replace HO : Hid (Own B w2 p m zs) := HO.out.below hb2
  replace hbw := Below.on hbw hb2
  clear hb2
  have N2 : Hid (Num w2 p2 m2 m2 z2 1) := Num.of ho2 hn2 (by omega)
  clear ho2 hn2 HJ
  have HJ : Hid ((fun W' : World => W'.cell? ⟨gf, 1, none⟩ = some (.slice p m m)) w2) := Xf.out.c1
  refine hK _ _ HJ.out ?_
  clear hK
  have HRL : Hid (gr < w2.heap.size ∧ w.heap.size ≤ w2.heap.size) := ⟨Xr.out.lt, hbw.size⟩
  refine wpJ_on 3 rfl fun K hK => ?_
  go_simp
  have M : Num w2 p m m zs q := Num.of HO.out HN.out.1 HN.out.2.1
  refine (add_ord M.at_ N2.out.at_ M.nf N2.out.nf M.le N2.out.le).mono ?_
  rintro e w3 ⟨ha, hb3⟩
  clear M
  obtain ⟨p3, m3, z3, rfl, ho3, hn3, hm3⟩ := ha.ok HN.out.2.2
  clear ha
  replace Xf : Hid _ := Xf.out.below hb3
  replace Xr : Hid _ := Xr.out.below hb3
  replace HO : Hid (Own B w3 p m zs) := HO.out.below hb3
  replace N2 : Hid _ := N2.out.below hb3
  replace hbw := Below.on hbw hb3
  clear hb3
  have HO3 : Hid (Own w2.heap.size w3 p3 m3 z3) := ho3
  have HN3 : Hid (Nf B64 z3 (q + 1) ∧ m3 ≤ 8192) := ⟨hn3, hm3⟩
  clear ho3 hn3 hm3 HJ
  have HJ : Hid ((fun W' : World => W'.cell? ⟨gf, 1, none⟩ = some (.slice p m m)) w3) := Xf.out.c1
  refine hK _ _ HJ.out ?_
  clear hK
  refine wpJ_tk 4 (v := ?v3x4) rfl ?hy3x4 HJ.out ?_
  case hy3x4 => (intro W' hJ; have j1 := hJ; go_simp; first | done | with_reducible rfl)
  refine wpJ_tk 5 (v := ?v4x5) rfl ?hy4x5 HJ.out ?_
  case hy4x5 => (intro W' hJ; have j1 := hJ; go_simp; first | done | with_reducible rfl)
  refine wpJ_tk 6 (v := ?v5x6) rfl ?hy5x6 HJ.out ?_
  case hy5x6 => (intro W' hJ; have j1 := hJ; go_simp; first | done | with_reducible rfl)
  refine wpJ_tk 7 (v := ?v6x7) rfl ?hy6x7 HJ.out ?_
  case hy6x7 => (intro W' hJ; have j1 := hJ; go_simp; first | done | with_reducible rfl)
  refine wpJ_done (by kernel_rfl) ?_ _
  clear HJ
  obtain ⟨cf0, cf1, cf2, cf3, ff0, ff1, ff2, ff3⟩ := Xf.out
  have hnef : gf < w3.heap.size := World.block_lt_of_cell? w3 _ cf0
  go_wp2_with fail
  clear cf0 cf1 cf2 cf3 ff0 ff1 ff2 ff3 hnef
  refine (signed_any s p3 m3 m3 w3).mono ?_
  rintro e w4 ⟨rfl, hb4⟩
  replace Xf : Hid _ := Xf.out.below hb4
  replace Xr : Hid _ := Xr.out.below hb4
  replace HO : Hid (Own B w4 p m zs) := HO.out.below hb4
  replace N2 : Hid _ := N2.out.below hb4
  replace HO3 : Hid (Own w2.heap.size w4 p3 m3 z3) := HO3.out.below hb4
  replace hbw := Below.on hbw hb4
  clear hb4
  obtain ⟨b, hb⟩ : ∃ b, b = (s && decide (0 < m3)) := ⟨_, rfl⟩
  rw [← hb]
  have HBB : Hid (b = (s && decide (0 < m3))) := hb
  clear hb
  obtain ⟨cr0, cr1, fr0, fr1⟩ := Xr.out
  have hner := Xr.out.lt
  go_wp2_with fail
  refine bodyPost_ret (v := ZV b p3 m3 m3) (by rw [results_cell1 rfl]; go_simp) rfl ⟨_, rfl, ?_, ?_⟩
  · rw [HBB.out]
    exact AnsZ.mk s (own_set2 HO3.out HRL.out.1 HRL.out.2 _ _) HN3.out.1 HN3.out.2
  · exact bSet (bSet hbw _ _ _ HGr.out) _ _ _ HGr.out
end Go.Proofs.YthobkfkeaealhaaGreatDoor
