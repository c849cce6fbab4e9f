import Derived.Test.YtmhkabomabkkfaaGreatDoorJ8
import Derived.Laws.ResultCell
import Derived.Shelf.Bits.Mul64
import Derived.Lib.SliceRun
import Derived.Sort.Row
import Derived.Deep.RegionWith
namespace Go.Proofs.YtmhkabomabkkfaaGreatDoor
open Go.RowKit Go.Shelf
set_option maxRecDepth 20000
set_option maxHeartbeats 0
def iv (s : Bool) (a : Nat) : Int := if s then -(a : Int) else (a : Int)
theorem iv_t (a : Nat) : iv true a = -(a : Int) := rfl
theorem iv_f (a : Nat) : iv false a = (a : Int) := rfl
abbrev ZV (s : Bool) (p : Option Addr) (n c : Nat) : Value := .agg #[.bool s, .slice p n c]
def AnsI (B : Nat) (w' : World) (e : Ending) (z : Int) : Prop :=
  (z.natAbs < LIM ∧ ∃ p m zs, e = .returned (.tuple #[ZV (decide (z < 0)) p m m, .int .i64 0]) ∧ Own B w' p m zs ∧ Nf B64 zs z.natAbs ∧ m ≤ 8192) ∨
  (LIM ≤ z.natAbs ∧ e = .returned (.tuple #[ZV false none 0 0, .int .i64 5]))
theorem AnsI.ok {B : Nat} {w' : World} {e : Ending} {z : Int} (h : AnsI B w' e z) (hz : z.natAbs < LIM) : ∃ p m zs, e = .returned (.tuple #[ZV (decide (z < 0)) p m m, .int .i64 0]) ∧ Own B w' p m zs ∧ Nf B64 zs z.natAbs ∧ m ≤ 8192 := by
  rcases h with ⟨_, h⟩ | ⟨h, _⟩
  · exact h
  · omega
theorem AnsI.no {B : Nat} {w' : World} {e : Ending} {z : Int} (h : AnsI B w' e z) (hz : LIM ≤ z.natAbs) : e = .returned (.tuple #[ZV false none 0 0, .int .i64 5]) := by
  rcases h with ⟨h, _⟩ | ⟨_, h⟩
  · omega
  · exact h
theorem Num.zero {w : World} {p : Option Addr} {m c : Nat} {xs : List Nat} {a : Nat} (h : Num w p m c xs a) : m = 0 ↔ a = 0 := by
  rw [← h.nf.zero_iff B64_one, ← h.at_.len]
  exact ⟨List.eq_nil_of_length_eq_zero, fun e => by rw [e]; rfl⟩

theorem results_cell1 {fn : Func} {p : Tmp} {ty : TypeId} (h : fn.results = #[.cell p ty]) (tmps : Array Value) (P : Program) (w : World) :
    (results fn tmps).run P w = ((asAddr (tmps.getD p undef)).run P w).andThen fun a w₁ => (loadVar ty a).run P w₁ := by
  simp only [results, h]
  simp [Sem.run_bind, Result.andThen]
theorem signed_any (s : Bool) (p : Option Addr) (m c : Nat) (w : World) :
    Calls Tryz.prog 126 #[.bool s, .slice p m c] w fun e w' => e = .returned (ZV (s && decide (0 < m)) p m c) ∧ Below w.heap.size w w' := by
  cases s
  · go_enter Tryz.func126, Tryz.ntmps126
    go_wp2_with fail
    refine bodyPost_ret (v := ZV false p m c) ?_ rfl ⟨rfl, below1 w _⟩
    rw [results_cell1 rfl]
    go_simp
  · by_cases h : 0 < m
    · have hd : decide ((0 : Int) < (m : Int)) = true := decide_eq_true (by omega)
      go_enter Tryz.func126, Tryz.ntmps126
      go_wp2_with fail
      refine bodyPost_ret (v := ZV true p m c) ?_ rfl ⟨by simp [h], below1 w _⟩
      rw [results_cell1 rfl]
      go_simp
    · have hd : decide ((0 : Int) < (m : Int)) = false := decide_eq_false (by omega)
      have hn : ¬ 0 < m := h
      go_enter Tryz.func126, Tryz.ntmps126
      go_wp2_with fail
      refine bodyPost_ret (v := ZV false p m c) ?_ rfl ⟨by simp [h], below1 w _⟩
      rw [results_cell1 rfl]
      go_simp
theorem Row.oth {w : World} {g off n : Nat} {xs : List Nat} (h : Row w g off n xs) (g2 o2 : Nat) (v : Value) (hne : g ≠ g2) : Row (w.setCell ⟨g2, o2, none⟩ v) g off n xs := by
  refine ⟨h.len, h.dig, fun j hj => ?_, fun j hj => by rw [World.frozen?_setCell]; exact h.frozen j hj⟩
  exact (World.cell?_setCell_other _ _ _ _ (by intro e; apply hne; have := congrArg Addr.block e; simp at this; omega)).trans (h.cell j hj)
theorem Own.setOld {B : Nat} {w : World} {p : Option Addr} {m : Nat} {zs : List Nat} (h : Own B w p m zs) (g2 o2 : Nat) (v : Value) (hlt : g2 < B) : Own B (w.setCell ⟨g2, o2, none⟩ v) p m zs := by
  refine ⟨h.len, h.dig, ?_⟩
  rcases h.mem with h0 | ⟨g, hp, hg, hr⟩
  · exact .inl h0
  · exact .inr ⟨g, hp, hg, hr.oth g2 o2 v (by omega)⟩
theorem bSet {B : Nat} {a w : World} (h : Below B a w) (g o : Nat) (v : Value) (hB : B ≤ g) : Below B a (w.setCell ⟨g, o, none⟩ v) :=
  h.trans ((Wr.refl g o 1 w).setCell o ⟨by omega, by omega⟩ v |>.below hB)
theorem below3 (w : World) (o1 o2 o3 : Obj) : Below w.heap.size w (((w.alloc o1).alloc o2).alloc o3) := (below2 w o1 o2).alloc (by simp; omega) o3
theorem At.alloc3 {w : World} {p : Option Addr} {n c : Nat} {xs : List Nat} (h : At w p n c xs) (o1 o2 o3 : Obj) : At (((w.alloc o1).alloc o2).alloc o3) p n c xs := ((h.alloc o1).alloc o2).alloc o3
theorem iv_abs_same (s : Bool) (a b : Nat) : (iv s a + iv s b).natAbs = a + b ∧ (decide (iv s a + iv s b < 0) = (s && decide (0 < a + b))) := by
  cases s
  · rw [iv_f, iv_f]; refine ⟨by omega, ?_⟩
    simp only [Bool.false_and, decide_eq_false_iff_not]; omega
  · rw [iv_t, iv_t]; refine ⟨by omega, ?_⟩
    simp only [Bool.true_and]; exact decide_eq_decide.2 (by omega)
theorem iv_abs_diff (s : Bool) {a b : Nat} (h : b ≤ a) : (iv s a + iv (!s) b).natAbs = a - b ∧ (decide (iv s a + iv (!s) b < 0) = (s && decide (0 < a - b))) := by
  cases s
  · rw [Bool.not_false, iv_f, iv_t]; refine ⟨by omega, ?_⟩
    simp only [Bool.false_and, decide_eq_false_iff_not]; omega
  · rw [Bool.not_true, iv_f, iv_t]; refine ⟨by omega, ?_⟩
    simp only [Bool.true_and]; exact decide_eq_decide.2 (by omega)
theorem Nf.lenpos {zs : List Nat} {n m : Nat} (h : Nf B64 zs n) (hl : zs.length = m) : decide (0 < m) = decide (0 < n) := by
  refine decide_eq_decide.2 ?_
  have := h.zero_iff B64_one
  constructor
  · intro hm
    rcases Nat.eq_zero_or_pos n with e | e
    · have := this.2 e; rw [this] at hl; simp at hl; omega
    · exact e
  · intro hn
    rcases Nat.eq_zero_or_pos m with e | e
    · have := this.1 (List.eq_nil_of_length_eq_zero (by omega)); omega
    · exact e

theorem sum_same {p q : Option Addr} {n m c d : Nat} {xs ys : List Nat} {a b : Nat} {w : World} (s : Bool) (h : Num w p n c xs a) (k : Num w q m d ys b) :
    Calls Tryz.prog 137 #[ZV s p n c, ZV s q m d] w fun e w' => AnsI w.heap.size w' e (iv s a + iv s b) ∧ Below w.heap.size w w' := by
  obtain ⟨z, hz⟩ : ∃ z, z = iv s a + iv s b := ⟨_, rfl⟩
  rw [← hz]
  have hab := iv_abs_same s a b
  rw [← hz] at hab
  have HZ : Hid (z.natAbs = a + b ∧ decide (z < 0) = (s && decide (0 < a + b))) := hab
  have H : Hid (Num w p n c xs a) := h
  have K : Hid (Num w q m d ys b) := k
  clear hz hab h k
  have hss : (s == s) = true := by simp
  go_enter Tryz.func137, Tryz.ntmps137
  go_wp2_with fail
  refine (add_ord (H.out.at_.alloc3 _ _ _) (K.out.at_.alloc3 _ _ _) H.out.nf K.out.nf H.out.le K.out.le).mono ?_
  rintro e w1 ⟨ha, hb⟩
  have hbw := Below.on (below3 w _ _ _) hb
  have cx0 : w1.cell? ⟨w.heap.size, 0, none⟩ = some (.bool s) := (hb.cell (p := ⟨w.heap.size, 0, none⟩) (by simp <;> omega)).trans (by go_simp)
  have cr0 : (w1.cell? ⟨w.heap.size + 1 + 1, 0, none⟩) = some (.bool false) := (hb.cell (p := ⟨w.heap.size + 1 + 1, 0, none⟩) (by simp <;> omega)).trans (by go_simp)
  have cr1 : (w1.cell? ⟨w.heap.size + 1 + 1, 1, none⟩) = some (.slice none 0 0) := (hb.cell (p := ⟨w.heap.size + 1 + 1, 1, none⟩) (by simp <;> omega)).trans (by go_simp)
  have fr0 : w1.frozen? ⟨w.heap.size + 1 + 1, 0, none⟩ = false := (hb.frozen (p := ⟨w.heap.size + 1 + 1, 0, none⟩) (by simp <;> omega)).trans (by go_simp)
  have fr1 : w1.frozen? ⟨w.heap.size + 1 + 1, 1, none⟩ = false := (hb.frozen (p := ⟨w.heap.size + 1 + 1, 1, none⟩) (by simp <;> omega)).trans (by go_simp)
  have hsz : w.heap.size + 1 + 1 < w1.heap.size := by have := hb.size; simp at this; omega
  clear hb
  rcases ha with ⟨hl, p1, m1, z1, rfl, ho, hn, hm⟩ | ⟨hl, rfl⟩
  · have HL : Hid (a + b < LIM) := hl
    have HN : Hid (Nf B64 z1 (a + b)) := hn
    have HOW : Hid (Own (w.heap.size + 1 + 1 + 1) w1 p1 m1 z1) := by have := ho; simp at this; exact this
    have HM : Hid (m1 ≤ 8192) := hm
    have hv : (s && decide (0 < m1)) = decide (z < 0) := by rw [HZ.out.2, hn.lenpos ho.len]
    clear hl hn ho hm
    go_wp2_with fail
    refine (signed_any s p1 m1 m1 w1).mono ?_
    rintro e w2 ⟨rfl, hb2⟩
    rw [hv]
    obtain ⟨sz, hs⟩ : ∃ sz, sz = decide (z < 0) := ⟨_, rfl⟩
    rw [← hs]
    have HSZ : Hid (sz = decide (z < 0)) := hs
    have dr0 : w2.cell? ⟨w.heap.size + 1 + 1, 0, none⟩ = some (.bool false) := (hb2.cell (p := ⟨w.heap.size + 1 + 1, 0, none⟩) hsz).trans cr0
    have dr1 : w2.cell? ⟨w.heap.size + 1 + 1, 1, none⟩ = some (.slice none 0 0) := (hb2.cell (p := ⟨w.heap.size + 1 + 1, 1, none⟩) hsz).trans cr1
    have er0 : w2.frozen? ⟨w.heap.size + 1 + 1, 0, none⟩ = false := (hb2.frozen (p := ⟨w.heap.size + 1 + 1, 0, none⟩) hsz).trans fr0
    have er1 : w2.frozen? ⟨w.heap.size + 1 + 1, 1, none⟩ = false := (hb2.frozen (p := ⟨w.heap.size + 1 + 1, 1, none⟩) hsz).trans fr1
    have HOW2 : Hid (Own (w.heap.size + 1 + 1 + 1) w2 p1 m1 z1) := HOW.out.below hb2
    have hbw2 := Below.on hbw hb2
    clear hv hs cr0 cr1 fr0 fr1 cx0 hbw hb2 hsz HOW
    go_wp2_with fail
    refine bodyPost_ret (v := .tuple #[ZV sz p1 m1 m1, .int .i64 0]) (by rw [results_cell_tmp rfl]; go_simp) rfl ⟨.inl ⟨by rw [HZ.out.1]; exact HL.out, p1, m1, z1, by rw [HSZ.out], ?_, by rw [HZ.out.1]; exact HN.out, HM.out⟩, ?_⟩
    · exact ((HOW2.out.setOld _ _ _ (by omega)).setOld _ _ _ (by omega)).mono (by omega)
    · exact bSet (bSet hbw2 _ _ _ (by omega)) _ _ _ (by omega)
  · have HL : Hid (LIM ≤ a + b) := hl
    clear hl
    go_wp2_with fail
    refine (signed_any s none 0 0 w1).mono ?_
    rintro e w2 ⟨rfl, hb2⟩
    have hv : (s && decide (0 < 0)) = false := by simp
    rw [hv]
    have dr0 : w2.cell? ⟨w.heap.size + 1 + 1, 0, none⟩ = some (.bool false) := (hb2.cell (p := ⟨w.heap.size + 1 + 1, 0, none⟩) hsz).trans cr0
    have dr1 : w2.cell? ⟨w.heap.size + 1 + 1, 1, none⟩ = some (.slice none 0 0) := (hb2.cell (p := ⟨w.heap.size + 1 + 1, 1, none⟩) hsz).trans cr1
    have er0 : w2.frozen? ⟨w.heap.size + 1 + 1, 0, none⟩ = false := (hb2.frozen (p := ⟨w.heap.size + 1 + 1, 0, none⟩) hsz).trans fr0
    have er1 : w2.frozen? ⟨w.heap.size + 1 + 1, 1, none⟩ = false := (hb2.frozen (p := ⟨w.heap.size + 1 + 1, 1, none⟩) hsz).trans fr1
    have hbw2 := Below.on hbw hb2
    clear hv cr0 cr1 fr0 fr1 cx0 hbw hb2 hsz
    go_wp2_with fail
    refine bodyPost_ret (v := .tuple #[ZV false none 0 0, .int .i64 5]) (by rw [results_cell_tmp rfl]; go_simp) rfl ⟨.inr ⟨by rw [HZ.out.1]; exact HL.out, rfl⟩, ?_⟩
    exact bSet (bSet hbw2 _ _ _ (by omega)) _ _ _ (by omega)

theorem sub_okN {p q : Option Addr} {n m c d : Nat} {xs ys : List Nat} {a b : Nat} {w : World} (h : At w p n c xs) (k : At w q m d ys) (hx : Nf B64 xs a) (hy : Nf B64 ys b) (hn : n ≤ 8192) (hm : m ≤ 8192) (hle : b ≤ a) :
    Calls Tryz.prog 155 #[.slice p n c, .slice q m d] w fun e w' => (∃ p m zs, e = .returned (.tuple #[.slice p m m, .int .i64 0]) ∧ Own w.heap.size w' p m zs ∧ Nf B64 zs (a - b) ∧ m ≤ 8192) ∧ Below w.heap.size w w' := by
  refine (sub_nf h k hx hy hn hm).mono ?_
  rintro e w' ⟨h1 | h1, hb⟩
  · exact ⟨h1.2, hb⟩
  · exact absurd h1.1 (by omega)
theorem cmp_wN {p q : Option Addr} {n m c d : Nat} {xs ys : List Nat} {a b : Nat} {w : World} (h : At w p n c xs) (k : At w q m d ys) (hx : Nf B64 xs a) (hy : Nf B64 ys b) :
    Calls Tryz.prog 154 #[.slice p n c, .slice q m d] w fun e w' => e = .returned (.int .i64 (cmpN a b)) ∧ ∃ r, w' = w.drewN r := by
  have := cmp_any h k
  rw [hx.val, hy.val] at this; exact this

theorem sum_ge {p q : Option Addr} {n m c d : Nat} {xs ys : List Nat} {a b : Nat} {w : World} (s : Bool) (h : Num w p n c xs a) (k : Num w q m d ys b) (hle : b ≤ a) :
    Calls Tryz.prog 137 #[ZV s p n c, ZV (!s) q m d] w fun e w' => AnsI w.heap.size w' e (iv s a + iv (!s) b) ∧ Below w.heap.size w w' := by
  obtain ⟨z, hz⟩ : ∃ z, z = iv s a + iv (!s) b := ⟨_, rfl⟩
  rw [← hz]
  have hab := iv_abs_diff s hle
  rw [← hz] at hab
  have HZ : Hid (z.natAbs = a - b ∧ decide (z < 0) = (s && decide (0 < a - b))) := hab
  have H : Hid (Num w p n c xs a) := h
  have K : Hid (Num w q m d ys b) := k
  have HLE : Hid (b ≤ a) := hle
  have HL : Hid (a - b < LIM) := Nat.lt_of_le_of_lt (Nat.sub_le _ _) h.lim
  have hss : (s == !s) = false := by cases s <;> rfl
  obtain ⟨cc, hcc⟩ : ∃ cc, cc = cmpN a b := ⟨_, rfl⟩
  have hcn : decide (cc < 0) = false := decide_eq_false (by rw [hcc, cmpN_neg]; omega)
  have HCC : Hid (cc = cmpN a b) := hcc
  clear hz hab h k hle hcc
  go_enter Tryz.func137, Tryz.ntmps137
  go_wp2_with fail
  refine (cmp_wN (H.out.at_.alloc3 _ _ _) (K.out.at_.alloc3 _ _ _) H.out.nf K.out.nf).mono ?_
  rintro e w2 ⟨rfl, r2, rfl⟩
  rw [← HCC.out]
  go_wp2_with fail
  refine (sub_okN ((H.out.at_.alloc3 _ _ _).drewN r2) ((K.out.at_.alloc3 _ _ _).drewN r2) H.out.nf K.out.nf H.out.le K.out.le HLE.out).mono ?_
  rintro e w3 ⟨⟨p1, m1, z1, rfl, ho, hn, hm⟩, hb3⟩
  have hbw3 := Below.on (bDrewN (below3 w _ _ _) r2) hb3
  have cx0 : w3.cell? ⟨w.heap.size, 0, none⟩ = some (.bool s) := (hb3.cell (p := ⟨w.heap.size, 0, none⟩) (by simp <;> omega)).trans (by go_simp)
  have cr0 : w3.cell? ⟨w.heap.size + 1 + 1, 0, none⟩ = some (.bool false) := (hb3.cell (p := ⟨w.heap.size + 1 + 1, 0, none⟩) (by simp <;> omega)).trans (by go_simp)
  have cr1 : w3.cell? ⟨w.heap.size + 1 + 1, 1, none⟩ = some (.slice none 0 0) := (hb3.cell (p := ⟨w.heap.size + 1 + 1, 1, none⟩) (by simp <;> omega)).trans (by go_simp)
  have fr0 : w3.frozen? ⟨w.heap.size + 1 + 1, 0, none⟩ = false := (hb3.frozen (p := ⟨w.heap.size + 1 + 1, 0, none⟩) (by simp <;> omega)).trans (by go_simp)
  have fr1 : w3.frozen? ⟨w.heap.size + 1 + 1, 1, none⟩ = false := (hb3.frozen (p := ⟨w.heap.size + 1 + 1, 1, none⟩) (by simp <;> omega)).trans (by go_simp)
  have hsz : w.heap.size + 1 + 1 < w3.heap.size := by have := hb3.size; simp at this; omega
  have HN : Hid (Nf B64 z1 (a - b)) := hn
  have HOW : Hid (Own (w.heap.size + 1 + 1 + 1) w3 p1 m1 z1) := ho.mono (by simp)
  have HM : Hid (m1 ≤ 8192) := hm
  have hv : (s && decide (0 < m1)) = decide (z < 0) := by rw [HZ.out.2, hn.lenpos ho.len]
  clear hn ho hm hb3
  go_wp2_with fail
  refine (signed_any s p1 m1 m1 w3).mono ?_
  rintro e w4 ⟨rfl, hb4⟩
  rw [hv]
  obtain ⟨sz, hs⟩ : ∃ sz, sz = decide (z < 0) := ⟨_, rfl⟩
  rw [← hs]
  have HSZ : Hid (sz = decide (z < 0)) := hs
  have dr0 : w4.cell? ⟨w.heap.size + 1 + 1, 0, none⟩ = some (.bool false) := (hb4.cell (p := ⟨w.heap.size + 1 + 1, 0, none⟩) hsz).trans cr0
  have dr1 : w4.cell? ⟨w.heap.size + 1 + 1, 1, none⟩ = some (.slice none 0 0) := (hb4.cell (p := ⟨w.heap.size + 1 + 1, 1, none⟩) hsz).trans cr1
  have er0 : w4.frozen? ⟨w.heap.size + 1 + 1, 0, none⟩ = false := (hb4.frozen (p := ⟨w.heap.size + 1 + 1, 0, none⟩) hsz).trans fr0
  have er1 : w4.frozen? ⟨w.heap.size + 1 + 1, 1, none⟩ = false := (hb4.frozen (p := ⟨w.heap.size + 1 + 1, 1, none⟩) hsz).trans fr1
  have HOW2 : Hid (Own (w.heap.size + 1 + 1 + 1) w4 p1 m1 z1) := HOW.out.below hb4
  have hbw4 := Below.on hbw3 hb4
  clear hv hs cr0 cr1 fr0 fr1 cx0 hbw3 hb4 hsz HOW
  go_wp2_with fail
  refine bodyPost_ret (v := .tuple #[ZV sz p1 m1 m1, .int .i64 0]) (by rw [results_cell_tmp rfl]; go_simp) rfl ⟨.inl ⟨by rw [HZ.out.1]; exact HL.out, p1, m1, z1, by rw [HSZ.out], ?_, by rw [HZ.out.1]; exact HN.out, HM.out⟩, ?_⟩
  · exact ((HOW2.out.setOld _ _ _ (by omega)).setOld _ _ _ (by omega)).mono (by omega)
  · exact bSet (bSet hbw4 _ _ _ (by omega)) _ _ _ (by omega)

theorem sum_lt {p q : Option Addr} {n m c d : Nat} {xs ys : List Nat} {a b : Nat} {w : World} (s : Bool) (h : Num w p n c xs a) (k : Num w q m d ys b) (hlt : a < b) :
    Calls Tryz.prog 137 #[ZV s p n c, ZV (!s) q m d] w fun e w' => AnsI w.heap.size w' e (iv s a + iv (!s) b) ∧ Below w.heap.size w w' := by
  obtain ⟨z, hz⟩ : ∃ z, z = iv s a + iv (!s) b := ⟨_, rfl⟩
  rw [← hz]
  obtain ⟨t, ht⟩ : ∃ t, t = !s := ⟨_, rfl⟩
  have hst : s = !t := by rw [ht]; simp
  have hab := iv_abs_diff t (Nat.le_of_lt hlt)
  rw [← hst, ht, Int.add_comm, ← hz, ← ht] at hab
  rw [← ht]
  have HZ : Hid (z.natAbs = b - a ∧ decide (z < 0) = (t && decide (0 < b - a))) := hab
  have H : Hid (Num w p n c xs a) := h
  have K : Hid (Num w q m d ys b) := k
  have HLE : Hid (a ≤ b) := Nat.le_of_lt hlt
  have hss : (s == t) = false := by rw [ht]; cases s <;> rfl
  have HCC : Hid (cmpN a b = -1) := cmpN_lt hlt
  clear hz hab h k hlt ht hst
  go_enter Tryz.func137, Tryz.ntmps137
  go_wp2_with fail
  refine (cmp_wN (H.out.at_.alloc3 _ _ _) (K.out.at_.alloc3 _ _ _) H.out.nf K.out.nf).mono ?_
  rintro e w2 ⟨rfl, r2, hw2⟩
  rw [HCC.out]
  have c00 : w2.cell? ⟨w.heap.size, 0, none⟩ = some (.bool s) := by rw [hw2]; go_simp
  have c01 : w2.cell? ⟨w.heap.size, 1, none⟩ = some (.slice p n c) := by rw [hw2]; go_simp
  have c10 : w2.cell? ⟨w.heap.size + 1, 0, none⟩ = some (.bool t) := by rw [hw2]; go_simp
  have c11 : w2.cell? ⟨w.heap.size + 1, 1, none⟩ = some (.slice q m d) := by rw [hw2]; go_simp
  have c20 : w2.cell? ⟨w.heap.size + 1 + 1, 0, none⟩ = some (.bool false) := by rw [hw2]; go_simp
  have c21 : w2.cell? ⟨w.heap.size + 1 + 1, 1, none⟩ = some (.slice none 0 0) := by rw [hw2]; go_simp
  have f00 : w2.frozen? ⟨w.heap.size, 0, none⟩ = false := by rw [hw2]; go_simp
  have f01 : w2.frozen? ⟨w.heap.size, 1, none⟩ = false := by rw [hw2]; go_simp
  have f10 : w2.frozen? ⟨w.heap.size + 1, 0, none⟩ = false := by rw [hw2]; go_simp
  have f11 : w2.frozen? ⟨w.heap.size + 1, 1, none⟩ = false := by rw [hw2]; go_simp
  have f20 : w2.frozen? ⟨w.heap.size + 1 + 1, 0, none⟩ = false := by rw [hw2]; go_simp
  have f21 : w2.frozen? ⟨w.heap.size + 1 + 1, 1, none⟩ = false := by rw [hw2]; go_simp
  have hb2 : Below w.heap.size w w2 := by rw [hw2]; exact bDrewN (below3 w _ _ _) r2
  have hs2 : w2.heap.size = w.heap.size + 1 + 1 + 1 := by rw [hw2]; simp
  have HS2 : Hid (w2.heap.size = w.heap.size + 1 + 1 + 1) := hs2
  have HB2 : Hid (Below w.heap.size w w2) := hb2
  clear hw2 hb2 hs2
  obtain ⟨hs, ehs⟩ : ∃ hs, hs = w.heap.size := ⟨_, rfl⟩
  have HHS : Hid (hs = w.heap.size) := ehs
  rw [← ehs] at c00 c01 c10 c11 c20 c21 f00 f01 f10 f11 f20 f21 HS2 HB2 ⊢
  clear ehs
  go_wp2_with fail
  have hbw4 := bSet (bSet (bSet (bSet HB2.out hs 0 (.bool t) (Nat.le_refl _)) hs 1 (.slice q m d) (Nat.le_refl _)) (hs + 1) 0 (.bool s) (by omega)) (hs + 1) 1 (.slice p n c) (by omega)
  have hsz4 : ((((w2.setCell ⟨hs, 0, none⟩ (.bool t)).setCell ⟨hs, 1, none⟩ (.slice q m d)).setCell ⟨hs + 1, 0, none⟩ (.bool s)).setCell ⟨hs + 1, 1, none⟩ (.slice p n c)).heap.size = hs + 1 + 1 + 1 := by simp [World.setCell]; exact HS2.out
  have d00 : ((((w2.setCell ⟨hs, 0, none⟩ (.bool t)).setCell ⟨hs, 1, none⟩ (.slice q m d)).setCell ⟨hs + 1, 0, none⟩ (.bool s)).setCell ⟨hs + 1, 1, none⟩ (.slice p n c)).cell? ⟨hs, 0, none⟩ = some (.bool t) := by go_simp
  have d20 : ((((w2.setCell ⟨hs, 0, none⟩ (.bool t)).setCell ⟨hs, 1, none⟩ (.slice q m d)).setCell ⟨hs + 1, 0, none⟩ (.bool s)).setCell ⟨hs + 1, 1, none⟩ (.slice p n c)).cell? ⟨hs + 1 + 1, 0, none⟩ = some (.bool false) := by go_simp
  have d21 : ((((w2.setCell ⟨hs, 0, none⟩ (.bool t)).setCell ⟨hs, 1, none⟩ (.slice q m d)).setCell ⟨hs + 1, 0, none⟩ (.bool s)).setCell ⟨hs + 1, 1, none⟩ (.slice p n c)).cell? ⟨hs + 1 + 1, 1, none⟩ = some (.slice none 0 0) := by go_simp
  have g20 : ((((w2.setCell ⟨hs, 0, none⟩ (.bool t)).setCell ⟨hs, 1, none⟩ (.slice q m d)).setCell ⟨hs + 1, 0, none⟩ (.bool s)).setCell ⟨hs + 1, 1, none⟩ (.slice p n c)).frozen? ⟨hs + 1 + 1, 0, none⟩ = false := by go_simp
  have g21 : ((((w2.setCell ⟨hs, 0, none⟩ (.bool t)).setCell ⟨hs, 1, none⟩ (.slice q m d)).setCell ⟨hs + 1, 0, none⟩ (.bool s)).setCell ⟨hs + 1, 1, none⟩ (.slice p n c)).frozen? ⟨hs + 1 + 1, 1, none⟩ = false := by go_simp
  generalize ((((w2.setCell ⟨hs, 0, none⟩ (.bool t)).setCell ⟨hs, 1, none⟩ (.slice q m d)).setCell ⟨hs + 1, 0, none⟩ (.bool s)).setCell ⟨hs + 1, 1, none⟩ (.slice p n c)) = W4 at *
  rw [HHS.out] at hbw4
  refine (sub_okN (K.out.at_.below hbw4) (H.out.at_.below hbw4) K.out.nf H.out.nf K.out.le H.out.le HLE.out).mono ?_
  rintro e w3 ⟨⟨p1, m1, z1, rfl, ho, hn, hm⟩, hb3⟩
  have hbw3 := Below.on hbw4 hb3
  have cx0 : w3.cell? ⟨hs, 0, none⟩ = some (.bool t) := (hb3.cell (p := ⟨hs, 0, none⟩) (by simp; omega)).trans d00
  have cr0 : w3.cell? ⟨hs + 1 + 1, 0, none⟩ = some (.bool false) := (hb3.cell (p := ⟨hs + 1 + 1, 0, none⟩) (by simp; omega)).trans d20
  have cr1 : w3.cell? ⟨hs + 1 + 1, 1, none⟩ = some (.slice none 0 0) := (hb3.cell (p := ⟨hs + 1 + 1, 1, none⟩) (by simp; omega)).trans d21
  have fr0 : w3.frozen? ⟨hs + 1 + 1, 0, none⟩ = false := (hb3.frozen (p := ⟨hs + 1 + 1, 0, none⟩) (by simp; omega)).trans g20
  have fr1 : w3.frozen? ⟨hs + 1 + 1, 1, none⟩ = false := (hb3.frozen (p := ⟨hs + 1 + 1, 1, none⟩) (by simp; omega)).trans g21
  have hsz : hs + 1 + 1 < w3.heap.size := by have := hb3.size; omega
  have HN : Hid (Nf B64 z1 (b - a)) := hn
  have HOW : Hid (Own (hs + 1 + 1 + 1) w3 p1 m1 z1) := ho.mono (by omega)
  have HM : Hid (m1 ≤ 8192) := hm
  have hv : (t && decide (0 < m1)) = decide (z < 0) := by rw [HZ.out.2, hn.lenpos ho.len]
  clear hn ho hm hb3 d00 d20 d21 g20 g21 c00 c01 c10 c11 c20 c21 f00 f01 f10 f11 f20 f21 hsz4 hbw4
  go_wp2_with fail
  refine (signed_any t p1 m1 m1 w3).mono ?_
  rintro e w4 ⟨rfl, hb4⟩
  rw [hv]
  obtain ⟨sz, hss2⟩ : ∃ sz, sz = decide (z < 0) := ⟨_, rfl⟩
  rw [← hss2]
  have HSZ : Hid (sz = decide (z < 0)) := hss2
  have dr0 : w4.cell? ⟨hs + 1 + 1, 0, none⟩ = some (.bool false) := (hb4.cell (p := ⟨hs + 1 + 1, 0, none⟩) hsz).trans cr0
  have dr1 : w4.cell? ⟨hs + 1 + 1, 1, none⟩ = some (.slice none 0 0) := (hb4.cell (p := ⟨hs + 1 + 1, 1, none⟩) hsz).trans cr1
  have er0 : w4.frozen? ⟨hs + 1 + 1, 0, none⟩ = false := (hb4.frozen (p := ⟨hs + 1 + 1, 0, none⟩) hsz).trans fr0
  have er1 : w4.frozen? ⟨hs + 1 + 1, 1, none⟩ = false := (hb4.frozen (p := ⟨hs + 1 + 1, 1, none⟩) hsz).trans fr1
  have HOW2 : Hid (Own (hs + 1 + 1 + 1) w4 p1 m1 z1) := HOW.out.below hb4
  have hbz := Below.on hbw3 hb4
  clear hv hss2 cr0 cr1 fr0 fr1 cx0 hbw3 hb4 hsz HOW
  go_wp2_with fail
  refine bodyPost_ret (v := .tuple #[ZV sz p1 m1 m1, .int .i64 0]) (by rw [results_cell_tmp rfl]; go_simp) rfl ⟨.inl ⟨by rw [HZ.out.1]; exact Nat.lt_of_le_of_lt (Nat.sub_le _ _) K.out.lim, p1, m1, z1, by rw [HSZ.out], ?_, by rw [HZ.out.1]; exact HN.out, HM.out⟩, ?_⟩
  · exact ((HOW2.out.setOld _ _ _ (by omega)).setOld _ _ _ (by omega)).mono (by have := HHS.out; omega)
  · exact bSet (bSet hbz _ _ _ (by have := HHS.out; omega)) _ _ _ (by have := HHS.out; omega)
theorem sum_any {p q : Option Addr} {n m c d : Nat} {xs ys : List Nat} {a b : Nat} {w : World} (s t : Bool) (h : Num w p n c xs a) (k : Num w q m d ys b) :
    Calls Tryz.prog 137 #[ZV s p n c, ZV t q m d] w fun e w' => AnsI w.heap.size w' e (iv s a + iv t b) ∧ Below w.heap.size w w' := by
  by_cases e : s = t
  · subst e; exact sum_same s h k
  · obtain rfl : t = !s := by revert e; cases s <;> cases t <;> simp
    rcases Nat.lt_or_ge a b with hl | hl
    · exact sum_lt s h k hl
    · exact sum_ge s h k hl
theorem bDrew1 {B : Nat} {a w : World} (h : Below B a w) : Below B a w.drew := ⟨h.os, h.tape, h.output, h.size, h.block⟩
def renMul : Ren := ⟨fun x => match x with | 264 => 170 | n => n, fun x => match x with | 53 => 22 | 46 => 143 | n => n, fun n => n⟩
theorem laysMul : Lays.n264 Tryz.prog renMul :=
  { mixed := by kernel_rfl, f264 := Tryz.func170.trans (congrArg some (by kernel_rfl)),
    t46 := Tryz.underlying143, a46 := Tryz.isAgg143, z46 := Tryz.sizeOf143, v46 := Tryz.zeroValue143, t53 := Tryz.underlying22, a53 := Tryz.isAgg22, z53 := Tryz.sizeOf22, v53 := Tryz.zeroValue22 }

theorem mul64_ex (x y : Nat) (hx : x < B64) (hy : y < B64) : ∃ hi lo, (∀ w : World, Calls Tryz.prog 170 #[U x, U y] w fun e w' => e = .returned (.tuple #[U hi, U lo]) ∧ w' = w) ∧ x * y = lo + B64 * hi ∧ lo < B64 := by
  refine ⟨x * y / 18446744073709551616, x * y % 18446744073709551616, fun w => ?_, ?_, ?_⟩
  · rw [B64_eq] at hx hy
    exact Any.bits_Mul64 laysMul x y hx hy w
  · rw [B64_eq]; exact (Nat.mod_add_div _ _).symm
  · rw [B64_eq]; exact Nat.mod_lt _ (by decide)

theorem Row.snoc {w : World} {g off m : Nat} {zs : List Nat} (h : Row w g off m zs) {y : Nat} (hc : w.cell? ⟨g, off + m, none⟩ = some (U y)) (hf : w.frozen? ⟨g, off + m, none⟩ = false) (hy : y < B64) : Row w g off (m + 1) (zs ++ [y]) := by
  have hl := h.len
  refine ⟨by simp; omega, h.dig.append (dig1 hy), fun j hj => ?_, fun j hj => ?_⟩
  · by_cases e : j = m
    · subst e
      rw [List.getD_eq_getElem?_getD, List.getElem?_append_right (by omega)]
      simpa [hl] using hc
    · rw [List.getD_eq_getElem?_getD, List.getElem?_append_left (by omega), ← List.getD_eq_getElem?_getD]
      exact h.cell j (by omega)
  · by_cases e : j = m
    · subst e; exact hf
    · exact h.frozen j (by omega)

theorem amul_limb {x y z cy hi lo l1 c1 l2 c2 : Nat} (hx : x < B64) (hy : y < B64) (hz : z < B64) (hc : cy < B64) (h1 : x * y = lo + B64 * hi) (h2 : lo + z + 0 = l1 + B64 * c1) (h3 : l1 + cy + 0 = l2 + B64 * c2) :
    hi + c1 + c2 < B64 ∧ x * y + z + cy = l2 + B64 * (hi + c1 + c2) := by
  have e : x * y + z + cy = l2 + B64 * (hi + c1 + c2) := by rw [Nat.mul_add, Nat.mul_add]; omega
  refine ⟨?_, e⟩
  have a1 : x * y ≤ (B64 - 1) * (B64 - 1) := Nat.mul_le_mul (by omega) (by omega)
  have a2 : (B64 - 1) * (B64 - 1) + 2 * (B64 - 1) < B64 * B64 := by decide
  have a3 : B64 * (hi + c1 + c2) < B64 * B64 := by omega
  exact Nat.lt_of_mul_lt_mul_left a3

structure MulRel (w : World) (g off m : Nat) (zs ys : List Nat) (v k cy : Nat) (dk : List Nat) (wr : World) : Prop where
  wrs : Wr g off m w wr
  row : Row wr g off m dk
  hi : dk.drop k = zs.drop k
  car : cy < B64
  sum : valB B64 (dk.take k) + B64 ^ k * cy = valB B64 (zs.take k) + valB B64 (ys.take k) * v

theorem MulRel.step {w : World} {g off m : Nat} {zs ys : List Nat} {v k cy : Nat} {dk : List Nat} {wr : World} (h : MulRel w g off m zs ys v k cy dk wr) (hk : k < m)
    {x z l d : Nat} (hz : z = dk.getD k 0) (hx : x = ys.getD k 0) (hs : x * v + z + cy = l + B64 * d) (hl : l < B64) (hd : d < B64) :
    MulRel w g off m zs ys v (k + 1) d (dk.set k l) (wr.setCell ⟨g, off + k, none⟩ (U l)) := by
  have hlen := h.row.len
  refine ⟨h.wrs.setCell (off + k) ⟨by omega, by omega⟩ _, h.row.set k l hk hl, ?_, hd, ?_⟩
  · rw [drop_set_lt]; exact drop_succ_of_drop h.hi
  · have hzz : z = zs.getD k 0 := hz.trans (getD_of_drop h.hi)
    rw [take_set_succ dk k l (by omega), valB_snoc, List.length_take, hlen, Nat.min_eq_left (by omega), valB_take_any _ zs k, valB_take_any _ ys k, ← hzz, ← hx, Nat.pow_succ, Nat.add_mul]
    have e1 := h.sum
    have e2 : B64 ^ k * (x * v + z + cy) = B64 ^ k * (l + B64 * d) := by rw [hs]
    rw [Nat.mul_add, Nat.mul_add, Nat.mul_add, ← Nat.mul_assoc] at e2
    have e3 : B64 ^ k * x * v = B64 ^ k * (x * v) := Nat.mul_assoc _ _ _
    have e4 : B64 ^ k * B64 * d = B64 ^ k * (B64 * d) := Nat.mul_assoc _ _ _
    rw [e3, e4]
    rw [← Nat.mul_assoc] at e2
    generalize B64 ^ k * x * v = X0 at *
    generalize B64 ^ k * (x * v) = X1 at *
    generalize B64 ^ k * B64 * d = X2 at *
    generalize B64 ^ k * (B64 * d) = X3 at *
    generalize B64 ^ k * z = X4 at *
    generalize B64 ^ k * cy = X5 at *
    generalize B64 ^ k * l = X6 at *
    omega

theorem amul_any (g off n c : Nat) (zs : List Nat) (p : Option Addr) (m d : Nat) (ys : List Nat) (v : Nat) (w : World) (hz : Row w g off m zs) (hmn : m ≤ n) (hnc : n ≤ c) (_hbig : c ≤ 9223372036854775807)
    (ha : At w p m d ys) (hv : v < B64) (hap : ∀ g2 off2, 0 < m → p = some ⟨g2, off2, none⟩ → g2 ≠ g ∨ off2 + m ≤ off ∨ off + m ≤ off2) :
    Calls Tryz.prog 164 #[.slice (some ⟨g, off, none⟩) n c, .slice p m d, U v] w fun e w' =>
      ∃ cy zs', e = .returned (U cy) ∧ cy < B64 ∧ Wr g off m w w' ∧ Row w' g off m zs' ∧ valB B64 zs' + B64 ^ m * cy = valB B64 zs + valB B64 ys * v := by
  have hl := hz.len; have al := ha.len; have acap := ha.cap; have abig := ha.big
  unfold maxLen at abig
  go_enter Tryz.func164, Tryz.ntmps164
  go_wp2_with fail
  go_loopw [7, 8, 9, 10, 11, 18] (fun cv _ _ _ _ i wr => ∃ (k cy : Nat) (dk : List Nat), k ≤ m ∧ i = .int .i64 k ∧ cv = U cy ∧ MulRel w g off m zs ys v k cy dk wr) (fun _ _ _ _ _ i _ => m - (intOf i).toNat)
  case atStart => exact ⟨0, 0, zs, Nat.zero_le _, rfl, rfl, ⟨Wr.refl _ _ _ _, hz, rfl, B64_pos, by simp [valB]⟩⟩
  case round =>
    obtain ⟨k, cy, dk, hk, rfl, rfl, hR⟩ := hrel
    by_cases hlt : k < m
    · obtain ⟨g2, off2, rfl, hc2⟩ := ha.cells.resolve_left (by omega)
      obtain ⟨z, hzz⟩ : ∃ z, z = dk.getD k 0 := ⟨_, rfl⟩
      obtain ⟨x, hx⟩ : ∃ x, x = ys.getD k 0 := ⟨_, rfl⟩
      have hcz : wr.cell? ⟨g, off + k, none⟩ = some (U z) := by rw [hzz]; exact hR.row.cell k (by omega)
      have hfz : wr.frozen? ⟨g, off + k, none⟩ = false := hR.row.frozen k (by omega)
      have hcx : wr.cell? ⟨g2, off2 + k, none⟩ = some (U x) := by
        rw [hx, hR.wrs.cell g2 (off2 + k) (by have := hap g2 off2 (by omega) rfl; omega)]; exact hc2 k hlt
      have hzb : z < B64 := by rw [hzz]; exact hR.row.dig.getD B64_pos k
      have hxb : x < B64 := by rw [hx]; exact ha.dig.getD B64_pos k
      obtain ⟨hi, lo, hmul, em, hlo⟩ := mul64_ex x v hxb hv
      obtain ⟨l1, c1, hrun10, e1, hl1, hc1⟩ := add64_ex lo z 0 hlo hzb (by omega)
      obtain ⟨l2, c2, hrun20, e2, hl2, hc2'⟩ := add64_ex l1 cy 0 hl1 hR.car (by omega)
      obtain ⟨hfit, hsum⟩ := amul_limb hxb hv hzb hR.car em e1 e2
      have hrun1 : ∀ w : World, (callFunc 160 #[U lo, U z, .int .u64 0]).run Tryz.prog w = .ok (.value (.tuple #[U l1, U c1])) w := hrun10
      have hrun2 : ∀ w : World, (callFunc 160 #[U l1, U cy, .int .u64 0]).run Tryz.prog w = .ok (.value (.tuple #[U l2, U c2])) w := hrun20
      have hf1 : hi + c1 + c2 ≤ 18446744073709551615 := by rw [B64_eq] at hfit; omega
      have HR : Hid (MulRel w g off m zs ys v k cy dk wr) := hR
      have HX : Hid (x = ys.getD k 0) := hx
      have HZ : Hid (z = dk.getD k 0) := hzz
      have HS : Hid (x * v + z + cy = l2 + B64 * (hi + c1 + c2)) := hsum
      have HM : Hid (∀ w : World, Calls Tryz.prog 170 #[U x, U v] w fun e w' => e = .returned (.tuple #[U hi, U lo]) ∧ w' = w) := hmul
      clear hR hx hzz hsum hmul hc2 hrun10 hrun20 em e1 e2 hc1 hc2'
      go_wp2_with (go_at_call 170; refine (HM.out _).mono ?_; rintro e w' ⟨rfl, hw⟩; obtain rfl := hw.symm; clear hw)
      go_roundw
      case rel => exact ⟨k + 1, hi + c1 + c2, dk.set k l2, by omega, by go_num, by go_num, HR.out.step hlt HZ.out HX.out HS.out hl2 hfit⟩
      case measure => simp [intOf]; omega
    · obtain rfl : k = m := by omega
      have HR : Hid (MulRel w g off k zs ys v k cy dk wr) := hR
      clear hR
      go_wp2_with fail
      go_ret
      have hh := HR.out
      have h1 := hh.sum
      have h2 := hh.row.len
      rw [List.take_of_length_le (by omega), List.take_of_length_le (by omega), List.take_of_length_le (by omega)] at h1
      exact ⟨cy, dk, rfl, hh.car, hh.wrs, hh.row, h1⟩
end Go.Proofs.YtmhkabomabkkfaaGreatDoor
namespace Go.Proofs.YtmhkabomabkkfaaGreatDoor
open Go.RowKit
set_option maxRecDepth 20000
set_option maxHeartbeats 0
structure Chg (S : Nat → Nat → Prop) (w w' : World) : Prop where
  os : w'.os = w.os
  tape : w'.tape = w.tape
  output : w'.output = w.output
  size : w.heap.size ≤ w'.heap.size
  row : ∀ k cur t fr, w.heap[k]? = some (.cells cur t fr) → ∃ cur', w'.heap[k]? = some (.cells cur' t fr) ∧ cur'.size = cur.size ∧ ∀ j, ¬ S k j → cur'[j]? = cur[j]?
  other : ∀ k, k < w.heap.size → (∀ cur t fr, w.heap[k]? ≠ some (.cells cur t fr)) → w'.heap[k]? = w.heap[k]?

def Rg (g off n : Nat) : Nat → Nat → Prop := fun b o => b = g ∧ off ≤ o ∧ o < off + n
def Dj (g off n g' off' n' : Nat) : Prop := g ≠ g' ∨ off + n ≤ off' ∨ off' + n' ≤ off
theorem Dj.symm {g off n g' off' n' : Nat} (h : Dj g off n g' off' n') : Dj g' off' n' g off n := by unfold Dj at *; omega
theorem Dj.sub {g off n g' off' n' o m : Nat} (h : Dj g off n g' off' n') (h1 : off ≤ o) (h2 : o + m ≤ off + n) : Dj g o m g' off' n' := by unfold Dj at *; omega
theorem Dj.not {g off n g' off' n' j : Nat} (h : Dj g off n g' off' n') (hj : j < n) : ¬ Rg g' off' n' g (off + j) := by unfold Dj Rg at *; omega

theorem Chg.refl (S : Nat → Nat → Prop) (w : World) : Chg S w w := ⟨rfl, rfl, rfl, Nat.le_refl _, fun _ cur _ _ h => ⟨cur, h, rfl, fun _ _ => rfl⟩, fun _ _ _ => rfl⟩
theorem Chg.mono {S S' : Nat → Nat → Prop} {w w' : World} (h : Chg S w w') (hS : ∀ b o, S b o → S' b o) : Chg S' w w' := by
  refine ⟨h.os, h.tape, h.output, h.size, fun k cur t fr hk => ?_, h.other⟩
  obtain ⟨c, h1, h2, h3⟩ := h.row k cur t fr hk
  exact ⟨c, h1, h2, fun j hj => h3 j (fun hs => hj (hS k j hs))⟩
theorem Chg.trans {S : Nat → Nat → Prop} {a b c : World} (h : Chg S a b) (k : Chg S b c) : Chg S a c := by
  refine ⟨k.os.trans h.os, k.tape.trans h.tape, k.output.trans h.output, Nat.le_trans h.size k.size, fun i cur t fr hi => ?_, fun i hi hn => ?_⟩
  · obtain ⟨c1, g1, s1, e1⟩ := h.row i cur t fr hi
    obtain ⟨c2, g2, s2, e2⟩ := k.row i c1 t fr g1
    exact ⟨c2, g2, s2.trans s1, fun j hj => (e2 j hj).trans (e1 j hj)⟩
  · have e1 := h.other i hi hn
    rw [← e1]
    exact k.other i (Nat.lt_of_lt_of_le hi h.size) (by rw [e1]; exact hn)
theorem Wr.chg {g off n : Nat} {w w' : World} (h : Wr g off n w w') : Chg (Rg g off n) w w' := by
  refine ⟨h.os, h.tape, h.output, by rw [h.size]; exact Nat.le_refl _, fun k cur t fr hk => ?_, fun k _ hn => ?_⟩
  · by_cases e : k = g
    · subst e
      obtain ⟨c, h1, h2, h3⟩ := h.row cur t fr hk
      exact ⟨c, h1, h2, fun j hj => h3 j (by unfold Rg at hj; omega)⟩
    · exact ⟨cur, by rw [h.block k e]; exact hk, rfl, fun _ _ => rfl⟩
  · by_cases e : k = g
    · subst e; exact h.other hn
    · exact h.block k e
theorem Chg.drewN {S : Nat → Nat → Prop} {w w' : World} (h : Chg S w w') (q : Nat) : Chg S w (w'.drewN q) := ⟨h.os, h.tape, h.output, h.size, h.row, h.other⟩
theorem Chg.drew {S : Nat → Nat → Prop} {w w' : World} (h : Chg S w w') : Chg S w w'.drew := ⟨h.os, h.tape, h.output, h.size, h.row, h.other⟩
theorem Chg.cell {S : Nat → Nat → Prop} {w w' : World} (h : Chg S w w') {b o : Nat} {v : Value} (hn : ¬ S b o) (hc : w.cell? ⟨b, o, none⟩ = some v) : w'.cell? ⟨b, o, none⟩ = some v := by
  obtain ⟨c, e, fr, hb, hv⟩ := Sort.cells_of_cell? hc
  obtain ⟨c', h1, _, h3⟩ := h.row b c e fr hb
  rw [cell_of_row w' b o c' e fr h1, h3 o hn]; exact hv
theorem Chg.frozen {S : Nat → Nat → Prop} {w w' : World} (h : Chg S w w') {b o : Nat} {v : Value} (hc : w.cell? ⟨b, o, none⟩ = some v) : w'.frozen? ⟨b, o, none⟩ = w.frozen? ⟨b, o, none⟩ := by
  obtain ⟨c, e, fr, hb, hv⟩ := Sort.cells_of_cell? hc
  obtain ⟨c', h1, _, h3⟩ := h.row b c e fr hb
  simp [World.frozen?, hb, h1]
theorem Chg.below {S : Nat → Nat → Prop} {w w' : World} (h : Chg S w w') {B : Nat} (hS : ∀ b o, S b o → B ≤ b) (hB : B ≤ w.heap.size) : Below B w w' := by
  refine ⟨h.os, h.tape, h.output, h.size, fun k hk => ?_⟩
  by_cases hc : ∃ cur t fr, w.heap[k]? = some (.cells cur t fr)
  · obtain ⟨cur, t, fr, hcur⟩ := hc
    obtain ⟨c', h1, h2, h3⟩ := h.row k cur t fr hcur
    have e : c' = cur := by
      apply Array.ext_getElem?
      intro j
      exact h3 j (fun hs => by have := hS k j hs; omega)
    rw [h1, hcur, e]
  · exact h.other k (by omega) (fun cur t fr e => hc ⟨cur, t, fr, e⟩)
theorem Below.chg {w w' : World} (h : Below w.heap.size w w') (S : Nat → Nat → Prop) : Chg S w w' := by
  refine ⟨h.os, h.tape, h.output, h.size, fun k cur t fr hk => ?_, fun k hk _ => h.block k hk⟩
  have hlt : k < w.heap.size := (Array.getElem?_eq_some_iff.1 hk).1
  exact ⟨cur, by rw [h.block k hlt]; exact hk, rfl, fun _ _ => rfl⟩

structure Rd (w : World) (g off n : Nat) (xs : List Nat) : Prop where
  len : xs.length = n
  dig : Dig B64 xs
  cell : ∀ j, j < n → w.cell? ⟨g, off + j, none⟩ = some (U (xs.getD j 0))
theorem Row.rd {w : World} {g off n : Nat} {xs : List Nat} (h : Row w g off n xs) : Rd w g off n xs := ⟨h.len, h.dig, h.cell⟩
theorem Rd.at_ {w : World} {g off n c : Nat} {xs : List Nat} (h : Rd w g off n xs) (hc : n ≤ c) (hb : c ≤ maxLen) : At w (some ⟨g, off, none⟩) n c xs := ⟨h.len, hc, hb, h.dig, .inr ⟨g, off, rfl, h.cell⟩⟩
theorem Rd.chg {w w' : World} {S : Nat → Nat → Prop} {g off n : Nat} {xs : List Nat} (h : Rd w g off n xs) (hc : Chg S w w') (hd : ∀ j, j < n → ¬ S g (off + j)) : Rd w' g off n xs :=
  ⟨h.len, h.dig, fun j hj => hc.cell (hd j hj) (h.cell j hj)⟩
theorem Row.chg {w w' : World} {S : Nat → Nat → Prop} {g off n : Nat} {xs : List Nat} (h : Row w g off n xs) (hc : Chg S w w') (hd : ∀ j, j < n → ¬ S g (off + j)) : Row w' g off n xs :=
  ⟨h.len, h.dig, fun j hj => hc.cell (hd j hj) (h.cell j hj), fun j hj => by rw [hc.frozen (h.cell j hj)]; exact h.frozen j hj⟩
theorem Row.sub {w : World} {g off n : Nat} {xs : List Nat} (h : Row w g off n xs) (k m : Nat) (hkm : k + m ≤ n) : Row w g (off + k) m ((xs.drop k).take m) := by
  have hl := h.len
  refine ⟨by simp; omega, (h.dig.drop k).take m, fun j hj => ?_, fun j hj => by rw [Nat.add_assoc]; exact h.frozen (k + j) (by omega)⟩
  have e : ((xs.drop k).take m).getD j 0 = xs.getD (k + j) 0 := by rw [List.getD_eq_getElem?_getD, List.getD_eq_getElem?_getD, List.getElem?_take, if_pos hj, List.getElem?_drop]
  rw [e, Nat.add_assoc]; exact h.cell (k + j) (by omega)
theorem Rd.sub {w : World} {g off n : Nat} {xs : List Nat} (h : Rd w g off n xs) (k m : Nat) (hkm : k + m ≤ n) : Rd w g (off + k) m ((xs.drop k).take m) := by
  have hl := h.len
  refine ⟨by simp; omega, (h.dig.drop k).take m, fun j hj => ?_⟩
  have e : ((xs.drop k).take m).getD j 0 = xs.getD (k + j) 0 := by rw [List.getD_eq_getElem?_getD, List.getD_eq_getElem?_getD, List.getElem?_take, if_pos hj, List.getElem?_drop]
  rw [e, Nat.add_assoc]; exact h.cell (k + j) (by omega)
theorem Row.join {w : World} {g off n m : Nat} {xs ys : List Nat} (h : Row w g off n xs) (k : Row w g (off + n) m ys) : Row w g off (n + m) (xs ++ ys) := by
  have hl := h.len
  have kl := k.len
  refine ⟨by simp; omega, h.dig.append k.dig, fun j hj => ?_, fun j hj => ?_⟩
  · by_cases e : j < n
    · rw [List.getD_eq_getElem?_getD, List.getElem?_append_left (by omega), ← List.getD_eq_getElem?_getD]; exact h.cell j e
    · rw [List.getD_eq_getElem?_getD, List.getElem?_append_right (by omega), ← List.getD_eq_getElem?_getD, hl]
      have := k.cell (j - n) (by omega)
      rw [Nat.add_assoc, show n + (j - n) = j by omega] at this; exact this
  · by_cases e : j < n
    · exact h.frozen j e
    · have := k.frozen (j - n) (by omega)
      rw [Nat.add_assoc, show n + (j - n) = j by omega] at this; exact this
theorem Wr.setCells {g : Nat} : ∀ (vs : List Value) (off : Nat) (w : World), Wr g off vs.length w (w.setCells g off vs)
  | [], off, w => Wr.refl _ _ _ _
  | v :: r, off, w => by
    have h1 : Wr g off (r.length + 1) w (w.setCell ⟨g, off, none⟩ v) := (Wr.refl g off (r.length + 1) w).setCell off ⟨by omega, by omega⟩ v
    have h2 := Wr.setCells (g := g) r (off + 1) (w.setCell ⟨g, off, none⟩ v)
    exact h1.trans (h2.mono (by omega) (by omega))
theorem Row.cleared {w : World} {g off n : Nat} {xs : List Nat} (h : Row w g off n xs) : Row (w.setCells g off (List.replicate n (U 0))) g off n (List.replicate n 0) := by
  refine ⟨by simp, Dig.replicate _ _ B64_pos, fun j hj => ?_, fun j hj => by rw [World.frozen?_setCells]; exact h.frozen j hj⟩
  have h1 := World.cell?_setCells_in g (List.replicate n (U 0)) off w (fun i hi => by rw [h.cell i (by simpa using hi)]; rfl) j (by simpa using hj)
  rw [h1]
  simp [hj]
theorem run_clear {w : World} {g off n c : Nat} {xs : List Nat} (h : Row w g off n xs) (hn : 0 < n) (ty : TypeId) :
    (Builtin.clear_ #[93] ty #[.slice (some ⟨g, off, none⟩) n c]).run Tryz.prog w = .ok (.tuple #[]) (w.setCells g off (List.replicate n (U 0))) :=
  Lib.run_clear_slice w 93 22 ty (.int .u64 0) Tryz.underlying93 Tryz.zeroValue22 rfl rfl g off n c hn (fun j hj => by rw [h.cell j hj]; rfl) (fun j hj => h.frozen j hj)
structure RowsRel (w : World) (g off n m : Nat) (xs ys : List Nat) (i : Nat) (dk : List Nat) (wr : World) : Prop where
  wrs : Wr g off (n + m) w wr
  row : Row wr g off (n + m) dk
  val : valB B64 dk = valB B64 xs * valB B64 (ys.take i)
  top : dk.drop (i + n) = List.replicate (m - i) 0

theorem rows_val {xs ys dk zs2 : List Nat} {n m k cy y : Nat} (hl : dk.length = n + m) (hk : k < m) (hy : y = ys.getD k 0) (hv : valB B64 dk = valB B64 xs * valB B64 (ys.take k)) (ht : dk.drop (k + n) = List.replicate (m - k) 0)
    (hz : zs2.length = n) (hs : valB B64 zs2 + B64 ^ n * cy = valB B64 ((dk.drop k).take n) + valB B64 xs * y) : valB B64 (dk.take k ++ (zs2 ++ [cy] ++ List.replicate (m - k - 1) 0)) = valB B64 xs * valB B64 (ys.take (k + 1)) := by
  have e1 : valB B64 dk = valB B64 (dk.take k) + B64 ^ k * valB B64 ((dk.drop k).take n) := by
    rw [valB_split B64 dk k (by omega), valB_split B64 (dk.drop k) n (by simp; omega), List.drop_drop, ht, valB_replicate]; simp
  rw [valB_append, List.length_take, Nat.min_eq_left (by omega), valB_append_zeros, valB_snoc, hz, hs, valB_take_any _ ys k, ← hy, Nat.mul_add, Nat.mul_add, ← Nat.add_assoc, ← e1, hv]
  rw [show B64 ^ k * (valB B64 xs * y) = valB B64 xs * (B64 ^ k * y) by rw [← Nat.mul_assoc, ← Nat.mul_assoc, Nat.mul_comm (B64 ^ k)]]
theorem RowsRel.step {w : World} {g off n m : Nat} {xs ys : List Nat} {k : Nat} {dk : List Nat} {wr w2 w3 : World} (h : RowsRel w g off n m xs ys k dk wr) (hk : k < m) {y cy : Nat} (hy : y = ys.getD k 0) {zs2 : List Nat} (hcy : cy < B64)
    (hw2 : Wr g (off + k) n wr.drew w2) (hr2 : Row w2 g (off + k) n zs2) (hs : valB B64 zs2 + B64 ^ n * cy = valB B64 ((dk.drop k).take n) + valB B64 xs * y) (hc : w2.cell? ⟨g, off + (k + n), none⟩ = some (U 0)) (hf : w2.frozen? ⟨g, off + (k + n), none⟩ = false)
    (hw3 : w3 = w2.setCell ⟨g, off + (k + n), none⟩ (U cy)) : RowsRel w g off n m xs ys (k + 1) (dk.take k ++ (zs2 ++ [cy] ++ List.replicate (m - k - 1) 0)) w3 := by
  have hl := h.row.len
  have hW23 : Wr g (off + (k + n)) 1 w2 w3 := by rw [hw3]; exact (Wr.refl g (off + (k + n)) 1 w2).setCell _ ⟨by omega, by omega⟩ _
  have hlen2 : (dk.take k ++ (zs2 ++ [cy] ++ List.replicate (m - k - 1) 0)).length = n + m := by simp [hr2.len]; omega
  have lo : Row w3 g off k (dk.take k) := by
    have h0 := (h.row.take k (by omega)).drew
    exact (h0.chg hw2.chg (fun j hj => by unfold Rg; omega)).chg hW23.chg (fun j hj => by unfold Rg; omega)
  have mid : Row w3 g (off + k) n zs2 := hr2.chg hW23.chg (fun j hj => by unfold Rg; omega)
  have one : Row w3 g (off + k) (n + 1) (zs2 ++ [cy]) := by
    refine mid.snoc ?_ ?_ hcy
    · rw [hw3, Nat.add_assoc]; exact World.cell?_setCell_same _ _ _ hc
    · rw [hw3, Nat.add_assoc, World.frozen?_setCell]; exact hf
  have hi : Row w3 g (off + k + (n + 1)) (m - k - 1) (List.replicate (m - k - 1) 0) := by
    have h0 := (h.row.sub (k + n + 1) (m - k - 1) (by omega)).drew
    have e : (dk.drop (k + n + 1)).take (m - k - 1) = List.replicate (m - k - 1) 0 := by
      rw [← List.drop_drop, h.top, List.drop_replicate, List.take_replicate]; simp
    rw [e] at h0
    have h1 := (h0.chg hw2.chg (fun j hj => by unfold Rg; omega)).chg hW23.chg (fun j hj => by unfold Rg; omega)
    rw [show off + (k + n + 1) = off + k + (n + 1) by omega] at h1; exact h1
  have all := lo.join (one.join hi)
  rw [show k + (n + 1 + (m - k - 1)) = n + m by omega] at all
  have hWd : Wr g off (n + m) w wr.drew := h.wrs.drew
  refine ⟨(hWd.trans (hw2.mono (by omega) (by omega))).trans (hW23.mono (by omega) (by omega)), all, rows_val hl hk hy h.val h.top hr2.len hs, ?_⟩
  rw [show k + 1 + n = k + (n + 1) by omega, List.drop_append, List.drop_eq_nil_of_le (by simp; omega), List.nil_append, List.length_take, hl, Nat.min_eq_left (by omega), Nat.add_sub_cancel_left, List.drop_append, List.drop_eq_nil_of_le (by simp [hr2.len]), List.nil_append]
  simp [hr2.len]; omega

theorem rows_any (g off c : Nat) (zs : List Nat) (p q : Option Addr) (n cn m cm : Nat) (xs ys : List Nat) (w : World) (hz : Row w g off (n + m) zs) (hnc : n + m ≤ c) (hbig : c ≤ 9223372036854775807)
    (ha : At w p n cn xs) (hb : At w q m cm ys) (hn : 0 < n) (hm : 0 < m) (hap : ∀ g2 off2, p = some ⟨g2, off2, none⟩ → Dj g2 off2 n g off (n + m)) (hbp : ∀ g2 off2, q = some ⟨g2, off2, none⟩ → Dj g2 off2 m g off (n + m)) :
    Calls Tryz.prog 156 #[.slice (some ⟨g, off, none⟩) (n + m) c, .slice p n cn, .slice q m cm] w fun e w' =>
      ∃ zs', e = .returned (.tuple #[]) ∧ Wr g off (n + m) w w' ∧ Row w' g off (n + m) zs' ∧ valB B64 zs' = valB B64 xs * valB B64 ys := by
  have al := ha.len; have bl := hb.len; have bcap := hb.cap; have bbig := hb.big; have acap := ha.cap; have abig := ha.big
  unfold maxLen at abig bbig
  obtain ⟨ga, oa, rfl, hca⟩ := ha.cells.resolve_left (by omega)
  obtain ⟨gb, ob, rfl, hcb⟩ := hb.cells.resolve_left (by omega)
  have hda := hap ga oa rfl
  have hdb := hbp gb ob rfl
  have hcl := run_clear (c := c) hz (by omega)
  have h1 := hz.cleared
  have hW1 : Wr g off (n + m) w (w.setCells g off (List.replicate (n + m) (U 0))) := by
    have := Wr.setCells (g := g) (List.replicate (n + m) (U 0)) off w
    rw [List.length_replicate] at this; exact this
  generalize w.setCells g off (List.replicate (n + m) (U 0)) = w1 at *
  have HDA : Hid (Dj ga oa n g off (n + m)) := hda
  have HDB : Hid (Dj gb ob m g off (n + m)) := hdb
  clear hap hbp hda hdb hz
  go_enter Tryz.func156, Tryz.ntmps156
  go_wp2_with fail
  go_loopw [6, 10] (fun _ i wr => ∃ (k : Nat) (dk : List Nat), k ≤ m ∧ i = .int .i64 k ∧ RowsRel w g off n m xs ys k dk wr) (fun _ i _ => m - (intOf i).toNat)
  case atStart => exact ⟨0, _, Nat.zero_le _, rfl, hW1, h1, by simp [valB, valB_replicate], by simp [List.drop_replicate]⟩
  case round =>
    clear h1 hW1 hcl
    obtain ⟨k, dk, hk, rfl, hR⟩ := hrel
    by_cases hlt : k < m
    · obtain ⟨y, hy⟩ : ∃ y, y = ys.getD k 0 := ⟨_, rfl⟩
      have hcy : wr.cell? ⟨gb, ob + k, none⟩ = some (U y) := by
        rw [hy, hR.wrs.cell gb (ob + k) (by have := HDB.out; unfold Dj at this; omega)]; exact hcb k hlt
      have hyb : y < B64 := by rw [hy]; exact hb.dig.getD B64_pos k
      have hr1 := (hR.row.sub k n (by omega)).drew
      have hA1 : At wr.drew (some ⟨ga, oa, none⟩) n cn xs := ⟨al, acap, ha.big, ha.dig, .inr ⟨ga, oa, rfl, fun j hj => by show wr.cell? _ = _; rw [hR.wrs.cell ga (oa + j) (by have := HDA.out; unfold Dj at this; omega)]; exact hca j hj⟩⟩
      have HR : Hid (RowsRel w g off n m xs ys k dk wr) := hR
      have HY : Hid (y = ys.getD k 0) := hy
      have H0 : Hid (∀ w2, Wr g (off + k) n wr.drew w2 → w2.cell? ⟨g, off + (k + n), none⟩ = some (U 0) ∧ w2.frozen? ⟨g, off + (k + n), none⟩ = false) := by
        intro w2 hw2
        have h0 : dk.getD (k + n) 0 = 0 := by
          have := congrArg (fun l : List Nat => l[0]?) hR.top
          simp only [List.getElem?_drop, Nat.add_zero, List.getElem?_replicate, show 0 < m - k by omega, if_true] at this
          rw [List.getD_eq_getElem?_getD, this]; rfl
        have hc := hR.row.cell (k + n) (by omega)
        rw [h0] at hc
        exact ⟨by rw [hw2.cell g _ (by omega)]; exact hc, by rw [hw2.frozen]; exact hR.row.frozen (k + n) (by omega)⟩
      have HAP : Hid (∀ g2 off2, 0 < n → some (⟨ga, oa, none⟩ : Addr) = some ⟨g2, off2, none⟩ → g2 ≠ g ∨ off2 + n ≤ off + k ∨ off + k + n ≤ off2) := by
        intro g2 off2 _ hp
        simp only [Option.some.injEq, Addr.mk.injEq, and_true] at hp
        obtain ⟨rfl, rfl⟩ := hp
        have := HDA.out; unfold Dj at this; omega
      clear hR hy hca hcb
      go_wp2_with fail
      go_region_with (go_at_call 164; refine (amul_any g (off + k) (n + m - k) (c - k) _ (some ⟨ga, oa, none⟩) n cn xs y _ hr1 (by omega) (by omega) (by omega) hA1 hyb HAP.out).mono ?_; rintro e w2 ⟨cy, zs2, rfl, hcyb, hwr2, hrow2, hsum2⟩; obtain ⟨hcs, hfs⟩ := H0.out w2 hwr2)
      all_goals
        go_wp2_with fail
        go_roundw
        case rel => exact ⟨k + 1, _, by omega, by go_num, HR.out.step hlt HY.out hcyb hwr2 hrow2 hsum2 hcs hfs rfl⟩
        case measure => simp [intOf]; omega
    · obtain rfl : k = m := by omega
      have HR : Hid (RowsRel w g off n k xs ys k dk wr) := hR
      clear hR
      go_wp2_with fail
      go_end0
      have hh := HR.out
      have h2 := hh.val
      rw [List.take_of_length_le (by omega)] at h2
      exact ⟨dk, rfl, hh.wrs, hh.row, h2⟩
theorem Row.copied {w : World} {g off n : Nat} {zs : List Nat} (h : Row w g off n zs) (xs : List Nat) (hd : Dig B64 xs) (hx : xs.length ≤ n) : Row (w.setCells g off (cellsU xs)) g off n (xs ++ zs.drop xs.length) := by
  have hl := h.len
  refine ⟨by simp; omega, hd.append (h.dig.drop _), fun j hj => ?_, fun j hj => by rw [World.frozen?_setCells]; exact h.frozen j hj⟩
  by_cases e : j < xs.length
  · have h1 := World.cell?_setCells_in g (cellsU xs) off w (fun i hi => by rw [h.cell i (by rw [cellsU_length] at hi; omega)]; rfl) j (by rw [cellsU_length]; exact e)
    rw [h1, List.getD_eq_getElem?_getD, List.getElem?_append_left e, ← List.getD_eq_getElem?_getD]
    have := cellsU_get xs j e
    rw [List.getElem?_eq_getElem (by rw [cellsU_length]; exact e)] at this
    exact this
  · rw [World.cell?_setCells_out g (cellsU xs) off w _ (fun _ _ => .inr (by rw [cellsU_length]; simp; omega)), List.getD_eq_getElem?_getD, List.getElem?_append_right (by omega), List.getElem?_drop, show xs.length + (j - xs.length) = j by omega, ← List.getD_eq_getElem?_getD]
    exact h.cell j hj

theorem addh_any (g off k c : Nat) (ss : List Nat) (p q : Option Addr) (cl h ch : Nat) (xs ys : List Nat) (w : World) (hz : Row w g off (k + 1) ss) (hkc : k + 1 ≤ c) (hbig : c ≤ 9223372036854775807)
    (ha : At w p k cl xs) (hb : At w q h ch ys) (hk : 0 < k) (hh : h ≤ k) (hap : ∀ g2 off2, p = some ⟨g2, off2, none⟩ → Dj g2 off2 k g off (k + 1)) (hbp : ∀ g2 off2, 0 < h → q = some ⟨g2, off2, none⟩ → Dj g2 off2 h g off (k + 1)) :
    Calls Tryz.prog 171 #[.slice (some ⟨g, off, none⟩) (k + 1) c, .slice p k cl, .slice q h ch] w fun e w' =>
      ∃ zs', e = .returned (.tuple #[]) ∧ Wr g off (k + 1) w w' ∧ Row w' g off (k + 1) zs' ∧ valB B64 zs' = valB B64 xs + valB B64 ys := by
  have al := ha.len; have bl := hb.len
  obtain ⟨ga, oa, rfl, hca⟩ := ha.cells.resolve_left (by omega)
  have hda := hap ga oa rfl
  have hcl := run_clear (c := c) hz (by omega)
  have h1 := hz.cleared
  have hW1 : Wr g off (k + 1) w (w.setCells g off (List.replicate (k + 1) (U 0))) := by
    have := Wr.setCells (g := g) (List.replicate (k + 1) (U 0)) off w
    rw [List.length_replicate] at this; exact this
  generalize w.setCells g off (List.replicate (k + 1) (U 0)) = w1 at *
  have hsrc : ∀ j v, (cellsU xs)[j]? = some v → w1.cell? ((⟨ga, oa, none⟩ : Addr).add j) = some v := by
    intro j v hv
    have hj : j < xs.length := by
      have := (List.getElem?_eq_some_iff.1 hv).1
      rwa [cellsU_length] at this
    have hadd : (⟨ga, oa, none⟩ : Addr).add j = ⟨ga, oa + j, none⟩ := by unfold Addr.add; split <;> simp_all
    rw [hadd, hW1.cell ga (oa + j) (by unfold Dj at hda; omega), hca j (by omega)]
    rw [cellsU_get xs j hj] at hv; exact hv
  have hcp : ∀ ty, (Builtin.copy_ #[93, 93] ty #[.slice (some ⟨g, off, none⟩) (k + 1) c, .slice (some ⟨ga, oa, none⟩) k cl]).run Tryz.prog w1 = .ok (goInt k) (w1.setCells g off (cellsU xs)) := by
    intro ty
    have := run_copy_cells (P := Tryz.prog) w1 93 93 ty 22 g off (k + 1) c ⟨ga, oa, none⟩ k cl (cellsU xs) Tryz.underlying93 Tryz.sizeU64 (by rw [cellsU_length, al]; exact (Nat.min_eq_left (by omega)).symm) hsrc (fun j hj => by rw [h1.cell j (by rw [cellsU_length] at hj; omega)]; rfl) (fun j hj => h1.frozen j (by rw [cellsU_length] at hj; omega)) (cellsU_one xs)
    rw [cellsU_length, al] at this
    exact this
  have h2 := h1.copied xs ha.dig (by omega)
  have hW2 : Wr g off (k + 1) w (w1.setCells g off (cellsU xs)) := by
    have := Wr.setCells (g := g) (cellsU xs) off w1
    rw [cellsU_length, al] at this
    exact hW1.trans (this.mono (Nat.le_refl _) (by omega))
  rw [List.drop_replicate, al] at h2
  generalize w1.setCells g off (cellsU xs) = w2 at *
  have hB2 : At w2 q h ch ys := by
    refine ⟨bl, hb.cap, hb.big, hb.dig, ?_⟩
    by_cases h0 : h = 0
    · exact .inl h0
    · obtain ⟨gb, ob, rfl, hcb⟩ := hb.cells.resolve_left h0
      have hdb := hbp gb ob (by omega) rfl
      exact .inr ⟨gb, ob, rfl, fun j hj => by rw [hW2.cell gb (ob + j) (by unfold Dj at hdb; omega)]; exact hcb j hj⟩
  have HBP : Hid (∀ g2 off2, 0 < h → q = some ⟨g2, off2, none⟩ → g2 ≠ g ∨ off2 + h ≤ off ∨ off + (k + 1) ≤ off2) := by
    intro g2 off2 h0 hq
    have := hbp g2 off2 h0 hq; unfold Dj at this; omega
  clear hsrc hap hbp hda hz h1 hW1
  go_enter Tryz.func171, Tryz.ntmps171
  go_wp2_with fail
  refine (ladd_any g off (k + 1) c _ q h ch ys _ h2 hkc hbig hB2 (by omega) HBP.out).mono ?_
  rintro e w3 ⟨cy, zs, rfl, hcy, hwr, hrow, hsum⟩
  go_wp2_with fail
  go_end0
  refine ⟨zs, rfl, hW2.trans hwr, hrow, ?_⟩
  rw [valB_append_zeros] at hsum
  have b1 := valB_lt B64_pos ha.dig
  have b2 := valB_lt B64_pos hb.dig
  rw [al] at b1
  rw [bl] at b2
  refine add_abs hsum b1 b2 (Nat.pow_le_pow_right B64_pos hh) ?_
  rw [Nat.pow_succ]; exact Nat.mul_le_mul_left _ B64_two

def scrF : Nat → Nat → Nat
  | 0, _ => 0
  | f + 1, n => if n < 48 then 0 else 4 * ((n + 1) / 2 + 1) + scrF f ((n + 1) / 2 + 1)
theorem scrF_fuel : ∀ (f g n : Nat), n ≤ f → n ≤ g → scrF f n = scrF g n := by
  intro f
  induction f with
  | zero => intro g n h1 h2
            have : n = 0 := by omega
            subst this
            cases g <;> simp [scrF]
  | succ f ih =>
    intro g n h1 h2
    cases g with
    | zero => have : n = 0 := by omega
              subst this; simp [scrF]
    | succ g =>
      simp only [scrF]
      by_cases h : n < 48
      · simp [h]
      · rw [if_neg h, if_neg h, ih g _ (by omega) (by omega)]
def scr (n : Nat) : Nat := scrF n n
theorem scr_lt {n : Nat} (h : n < 48) : scr n = 0 := by
  unfold scr
  cases n with
  | zero => rfl
  | succ n => simp [scrF, h]
theorem scr_ge {n : Nat} (h : ¬ n < 48) : scr n = 4 * ((n + 1) / 2 + 1) + scr ((n + 1) / 2 + 1) := by
  unfold scr
  obtain ⟨m, rfl⟩ : ∃ m, n = m + 1 := ⟨n - 1, by omega⟩
  rw [scrF, if_neg h, scrF_fuel m ((m + 1 + 1) / 2 + 1) _ (by omega) (Nat.le_refl _)]
theorem scr_le : ∀ (N n : Nat), n < N → scr n ≤ 8 * n := by
  intro N
  induction N with
  | zero => intro n h; omega
  | succ N ih =>
    intro n hn
    by_cases h : n < 48
    · rw [scr_lt h]; omega
    · rw [scr_ge h]
      have := ih ((n + 1) / 2 + 1) (by omega)
      omega
theorem scr_mono : ∀ (N m n : Nat), n < N → m ≤ n → scr m ≤ scr n := by
  intro N
  induction N with
  | zero => intro m n h; omega
  | succ N ih =>
    intro m n hn hm
    by_cases h : m < 48
    · rw [scr_lt h]; omega
    · rw [scr_ge h, scr_ge (show ¬ n < 48 by omega)]
      have := ih ((m + 1) / 2 + 1) ((n + 1) / 2 + 1) (by omega) (by omega)
      omega

theorem scr_any (n : Nat) (w : World) (hn : n ≤ 1000000) : Calls Tryz.prog 165 #[.int .i64 n] w fun e w' => e = .returned (.int .i64 (scr n)) ∧ w' = w := by
  have hb := scr_le (n + 1) n (by omega)
  go_enter Tryz.func165, Tryz.ntmps165
  go_wp2_with fail
  go_loop [0, 3] (fun a t => ∃ m s : Nat, a = .int .i64 m ∧ t = .int .i64 s ∧ m ≤ n ∧ s + scr m = scr n) (fun a _ => (intOf a).toNat)
  case atStart => exact ⟨n, 0, rfl, rfl, Nat.le_refl _, by omega⟩
  case round =>
    obtain ⟨m, s, rfl, rfl, hm, hs⟩ := hrel
    by_cases h : 48 ≤ m
    · have e := scr_ge (show ¬ m < 48 by omega)
      have hsb : s + 4 * ((m + 1) / 2 + 1) ≤ 8000000 := by omega
      have HS : Hid (s + 4 * ((m + 1) / 2 + 1) + scr ((m + 1) / 2 + 1) = scr n) := by show _ = _; omega
      clear hs e
      go_wp2_with fail
      go_round
      case rel => exact ⟨(m + 1) / 2 + 1, s + 4 * ((m + 1) / 2 + 1), by go_num, by go_num, by omega, HS.out⟩
      case measure => simp [intOf]; omega
    · have e := scr_lt (show m < 48 by omega)
      have HS : Hid (s = scr n) := by show _ = _; omega
      clear hs e
      go_wp2_with fail
      go_ret
      exact ⟨ret_int (by rw [HS.out]), rfl⟩
def KarSaid (n : Nat) : Prop := ∀ (gz oz lz cz ga oa ca gb ob cb gs os ns cs : Nat) (zs xs ys ss : List Nat) (w : World), lz = 2 * n → Row w gz oz lz zs → Rd w ga oa n xs → Rd w gb ob n ys → Row w gs os ns ss → scr n ≤ ns →
  lz ≤ cz → n ≤ ca → n ≤ cb → ns ≤ cs → cz ≤ 1000000 → ca ≤ 9223372036854775807 → cb ≤ 9223372036854775807 → cs ≤ 1000000 → Dj ga oa n gz oz lz → Dj gb ob n gz oz lz → Dj gs os ns gz oz lz → Dj ga oa n gs os ns → Dj gb ob n gs os ns →
  Calls Tryz.prog 166 #[.slice (some ⟨gz, oz, none⟩) lz cz, .slice (some ⟨ga, oa, none⟩) n ca, .slice (some ⟨gb, ob, none⟩) n cb, .slice (some ⟨gs, os, none⟩) ns cs] w fun e w' =>
    ∃ zs' ss', e = .returned (.tuple #[]) ∧ Chg (fun b o => Rg gz oz lz b o ∨ Rg gs os ns b o) w w' ∧ Row w' gz oz lz zs' ∧ Row w' gs os ns ss' ∧ valB B64 zs' = valB B64 xs * valB B64 ys

theorem dj_some {g off n g' off' n' : Nat} (h : Dj g off n g' off' n') : ∀ g2 off2, some (⟨g, off, none⟩ : Addr) = some ⟨g2, off2, none⟩ → Dj g2 off2 n g' off' n' := by
  intro g2 off2 hp
  simp only [Option.some.injEq, Addr.mk.injEq, and_true] at hp
  obtain ⟨rfl, rfl⟩ := hp
  exact h
theorem dj_some' {g off n g' off' n' : Nat} (h : Dj g off n g' off' n') : ∀ g2 off2, 0 < n → some (⟨g, off, none⟩ : Addr) = some ⟨g2, off2, none⟩ → g2 ≠ g' ∨ off2 + n ≤ off' ∨ off' + n' ≤ off2 := by
  intro g2 off2 _ hp
  have := dj_some h g2 off2 hp
  exact this

theorem kar_small (n : Nat) (hn : n < 48) (h0 : 0 < n) : KarSaid n := by
  intro gz oz lz cz ga oa ca gb ob cb gs os ns cs zs xs ys ss w hlz hZ hX hY hS hscr hcz hca hcb hcs bcz bca bcb bcs dax dbx dsz das dbs
  obtain rfl : lz = n + n := by omega
  clear hlz
  go_enter Tryz.func166, Tryz.ntmps166
  go_wp2_with fail
  refine (rows_any gz oz cz zs (some ⟨ga, oa, none⟩) (some ⟨gb, ob, none⟩) n ca n cb xs ys w hZ hcz (by omega) (hX.at_ hca (by unfold maxLen; omega)) (hY.at_ hcb (by unfold maxLen; omega)) h0 h0 (dj_some dax) (dj_some dbx)).mono ?_
  rintro e w1 ⟨zs', rfl, hwr, hrow, hval⟩
  go_wp2_with fail
  refine bodyPost_ret (results_none rfl _ _ _) rfl ?_
  refine ⟨zs', ss, rfl, hwr.chg.mono (fun b o h => .inl h), hrow, hS.chg hwr.chg (fun j hj => dsz.not hj), hval⟩

theorem kar_math {b k A0 A1 B0 B1 L H SA SB M M1 M2 : Nat} (hL : L = A0 * B0) (hH : H = A1 * B1) (hSA : SA = A0 + A1) (hSB : SB = B0 + B1) (hM : M = SA * SB) (h1 : M1 + L = M) (h2 : M2 + H = M1) :
    (A0 + b ^ k * A1) * (B0 + b ^ k * B1) = L + b ^ k * M2 + b ^ k * (b ^ k * H) := by
  have e : M2 + (A0 * B0 + A1 * B1) = A0 * B0 + A0 * B1 + (A1 * B0 + A1 * B1) := by
    rw [hSA, hSB, Nat.add_mul, Nat.mul_add, Nat.mul_add] at hM
    omega
  have e2 : M2 = A0 * B1 + A1 * B0 := by omega
  rw [hL, hH, e2]
  generalize b ^ k = P
  rw [Nat.add_mul, Nat.mul_add, Nat.mul_add, Nat.mul_add]
  have c1 : A0 * (P * B1) = P * (A0 * B1) := by rw [← Nat.mul_assoc, Nat.mul_comm A0 P, Nat.mul_assoc]
  have c2 : P * A1 * B0 = P * (A1 * B0) := Nat.mul_assoc _ _ _
  have c3 : P * A1 * (P * B1) = P * (P * (A1 * B1)) := by rw [Nat.mul_assoc, ← Nat.mul_assoc A1 P, Nat.mul_comm A1 P, Nat.mul_assoc]
  rw [c1, c2, c3]
  omega
theorem kar_ge {A0 A1 B0 B1 L M : Nat} (hL : L = A0 * B0) (hM : M = (A0 + A1) * (B0 + B1)) : L ≤ M := by
  rw [hL, hM]; exact Nat.mul_le_mul (by omega) (by omega)
theorem kar_ge2 {A0 A1 B0 B1 L H M M1 : Nat} (hL : L = A0 * B0) (hH : H = A1 * B1) (hM : M = (A0 + A1) * (B0 + B1)) (h1 : M1 + L = M) : H ≤ M1 := by
  rw [Nat.add_mul, Nat.mul_add, Nat.mul_add] at hM
  omega
theorem nb {P Z A L cy : Nat} (hs : Z + L = A + P * cy) (hz : Z < P) (hle : L ≤ A) (hc : cy ≤ 1) : Z + L = A := by
  by_cases h : cy = 0
  · subst h; omega
  · obtain rfl : cy = 1 := by omega
    omega
theorem nc {P Z A L cy T : Nat} (hs : Z + P * cy = A + L) (ht : A + L < P) (_hT : T = A + L) : Z = A + L := by
  by_cases h : cy = 0
  · subst h; omega
  · have : P * 1 ≤ P * cy := Nat.mul_le_mul_left _ (by omega)
    omega

theorem kar_hap {g off g' off' n n' m : Nat} {p' : Option Addr} (hp : m ≠ 0 → p' = some ⟨g, off, none⟩) (h : Dj g off n g' off' n') (hm : m ≤ n) : ∀ g2 off2, 0 < m → p' = some ⟨g2, off2, none⟩ → g2 ≠ g' ∨ off2 + m ≤ off' ∨ off' + n' ≤ off2 := by
  intro g2 off2 h0 h1
  rw [hp (by omega)] at h1
  simp only [Option.some.injEq, Addr.mk.injEq, and_true] at h1
  obtain ⟨rfl, rfl⟩ := h1
  unfold Dj at h; omega

theorem kar_step (n : Nat) (hn : ¬ n < 48) (hn2 : n ≤ 100000) (ih : ∀ m, m < n → 0 < m → KarSaid m) : KarSaid n := by
  intro gz oz lz cz ga oa ca gb ob cb gs os ns cs zs xs ys ss w hlz hZ hX hY hS hscr hcz hca hcb hcs bcz bca bcb bcs dax dbx dsz das dbs
  obtain rfl : lz = 2 * n := hlz
  obtain ⟨k, hk⟩ : ∃ k, k = (n + 1) / 2 := ⟨_, rfl⟩
  rw [scr_ge hn, ← hk] at hscr
  have hk1 : 2 * k ≤ n + 1 := by omega
  have hk2 : n ≤ 2 * k := by omega
  have ek : ((n : Int) + 1) / 2 = (k : Int) := by omega
  have ih1 := ih k (by omega) (by omega)
  have ih2 := ih (n - k) (by omega) (by omega)
  have ih3 := ih (k + 1) (by omega) (by omega)
  have sm1 := scr_mono (n + 1) k n (by omega) (by omega)
  have sm2 := scr_mono (n + 1) (n - k) n (by omega) (by omega)
  rw [scr_ge hn, ← hk] at sm1 sm2
  have HI1 : Hid (KarSaid k) := ih1
  have HI2 : Hid (KarSaid (n - k)) := ih2
  have HI3 : Hid (KarSaid (k + 1)) := ih3
  clear ih ih1 ih2 ih3 hk
  go_enter Tryz.func166, Tryz.ntmps166
  go_wp2_with fail
  refine (cut_row ga oa n ca k _ hca (by omega)).mono ?_
  rintro e w1 ⟨rfl, r1, hw⟩
  rw [cutOff_lt (show k < n by omega)]
  obtain ⟨C1⟩ : Nonempty (Chg (fun _ _ => False) w w1) := ⟨by rw [hw]; exact (Chg.refl _ _).drewN r1⟩
  clear hw
  go_wp2_with fail
  refine (cut_row gb ob n cb k _ hcb (by omega)).mono ?_
  rintro e w2 ⟨rfl, r2, hw⟩
  rw [cutOff_lt (show k < n by omega)]
  obtain ⟨C2⟩ : Nonempty (Chg (fun _ _ => False) w w2) := ⟨by rw [hw]; exact C1.drewN r2⟩
  clear hw C1
  go_wp2_with fail
  rw [show (2 * (k : Int)) = ((2 * k : Nat) : Int) by omega]
  refine (cut_row gz oz (2 * n) cz (2 * k) _ hcz (by omega)).mono ?_
  rintro e w3 ⟨rfl, r3, hw⟩
  rw [cutOff_lt (show 2 * k < 2 * n by omega)]
  obtain ⟨C3⟩ : Nonempty (Chg (fun _ _ => False) w w3) := ⟨by rw [hw]; exact C2.drewN r3⟩
  clear hw C2
  have Z3 := hZ.chg C3 (fun _ _ h => h); have X3 := hX.chg C3 (fun _ _ h => h); have Y3 := hY.chg C3 (fun _ _ h => h); have S3 := hS.chg C3 (fun _ _ h => h)
  have ZL := Z3.sub 0 (2 * k) (by omega); have ZH := Z3.sub (2 * k) (2 * n - 2 * k) (by omega)
  have A0 := X3.sub 0 k (by omega); have A1 := X3.sub k (n - k) (by omega)
  have B0 := Y3.sub 0 k (by omega); have B1 := Y3.sub k (n - k) (by omega)
  rw [Nat.add_zero, List.drop_zero] at ZL A0 B0
  go_wp2_with fail
  refine (HI1.out gz oz (2 * k) (2 * k) ga oa k gb ob k gs os ns cs _ _ _ _ _ rfl ZL A0 B0 S3 (by omega) (Nat.le_refl _) (Nat.le_refl _) (Nat.le_refl _) hcs (by omega) (by omega) (by omega) bcs (by unfold Dj at dax dbx dsz das dbs ⊢; omega) (by unfold Dj at dax dbx dsz das dbs ⊢; omega) (by unfold Dj at dax dbx dsz das dbs ⊢; omega) (by unfold Dj at dax dbx dsz das dbs ⊢; omega) (by unfold Dj at dax dbx dsz das dbs ⊢; omega)).mono ?_
  rintro e w4 ⟨zl, s4, rfl, C4, ZL4, S4, vL⟩
  have ZH4 := ZH.chg C4 (fun j hj => by unfold Dj at dax dbx dsz das dbs; unfold Rg; omega); have A04 := A0.chg C4 (fun j hj => by unfold Dj at dax dbx dsz das dbs; unfold Rg; omega); have A14 := A1.chg C4 (fun j hj => by unfold Dj at dax dbx dsz das dbs; unfold Rg; omega); have B04 := B0.chg C4 (fun j hj => by unfold Dj at dax dbx dsz das dbs; unfold Rg; omega); have B14 := B1.chg C4 (fun j hj => by unfold Dj at dax dbx dsz das dbs; unfold Rg; omega)
  have D4 : Chg (fun b o => Rg gz oz (2 * n) b o ∨ Rg gs os ns b o) w w4 := (C3.mono (fun _ _ h => absurd h id)).trans (C4.mono (fun b o h => by unfold Rg at *; omega))
  clear C3 C4 Z3 X3 Y3 S3 ZL ZH A0 A1 B0 B1 sm1
  go_wp2_with fail
  refine (HI2.out gz (oz + 2 * k) (2 * n - 2 * k) (2 * n - 2 * k) ga (oa + k) (n - k) gb (ob + k) (n - k) gs os ns cs _ _ _ _ _ (by omega) ZH4 A14 B14 S4 (by omega) (Nat.le_refl _) (Nat.le_refl _) (Nat.le_refl _) hcs (by omega) (by omega) (by omega) bcs (by unfold Dj at dax dbx dsz das dbs ⊢; omega) (by unfold Dj at dax dbx dsz das dbs ⊢; omega) (by unfold Dj at dax dbx dsz das dbs ⊢; omega) (by unfold Dj at dax dbx dsz das dbs ⊢; omega) (by unfold Dj at dax dbx dsz das dbs ⊢; omega)).mono ?_
  rintro e w5 ⟨zh, s5, rfl, C5, ZH5, S5, vH⟩
  have ZL5 := ZL4.chg C5 (fun j hj => by unfold Dj at dax dbx dsz das dbs; unfold Rg; omega); have A05 := A04.chg C5 (fun j hj => by unfold Dj at dax dbx dsz das dbs; unfold Rg; omega); have A15 := A14.chg C5 (fun j hj => by unfold Dj at dax dbx dsz das dbs; unfold Rg; omega); have B05 := B04.chg C5 (fun j hj => by unfold Dj at dax dbx dsz das dbs; unfold Rg; omega); have B15 := B14.chg C5 (fun j hj => by unfold Dj at dax dbx dsz das dbs; unfold Rg; omega)
  have D5 := D4.trans (C5.mono (fun b o h => by unfold Rg at *; omega))
  clear D4 C5 ZL4 ZH4 A04 A14 B04 B14 S4 sm2
  go_wp2_with fail
  rw [show ((k : Int) + 1) = ((k + 1 : Nat) : Int) by omega]
  refine (cut_row gs os ns cs (k + 1) _ hcs (by omega)).mono ?_
  rintro e w6 ⟨rfl, r6, hw⟩
  rw [cutOff_lt (show k + 1 < ns by omega)]
  obtain ⟨C6⟩ : Nonempty (Chg (fun _ _ => False) w5 w6) := ⟨by rw [hw]; exact (Chg.refl _ _).drewN r6⟩
  clear hw
  go_wp2_with fail
  rw [show ((k : Int) + 1) = ((k + 1 : Nat) : Int) by omega]
  refine (cut_row gs (os + (k + 1)) (ns - (k + 1)) (ns - (k + 1)) (k + 1) _ (Nat.le_refl _) (by omega)).mono ?_
  rintro e w7 ⟨rfl, r7, hw⟩
  rw [cutOff_lt (show k + 1 < ns - (k + 1) by omega)]
  obtain ⟨C7⟩ : Nonempty (Chg (fun _ _ => False) w5 w7) := ⟨by rw [hw]; exact C6.drewN r7⟩
  clear hw C6
  go_wp2_with fail
  rw [show (2 * ((k : Int) + 1)) = ((2 * (k + 1) : Nat) : Int) by omega]
  refine (cut_row gs (os + (k + 1) + (k + 1)) (ns - (k + 1) - (k + 1)) (ns - (k + 1) - (k + 1)) (2 * (k + 1)) _ (Nat.le_refl _) (by omega)).mono ?_
  rintro e w8 ⟨rfl, r8, hw⟩
  obtain ⟨C8⟩ : Nonempty (Chg (fun _ _ => False) w5 w8) := ⟨by rw [hw]; exact C7.drewN r8⟩
  clear hw C7
  obtain ⟨t, ht⟩ : ∃ t, t = cutOff (os + (k + 1) + (k + 1)) (ns - (k + 1) - (k + 1)) (2 * (k + 1)) := ⟨_, rfl⟩
  rw [← ht]
  obtain ⟨n4, hn4⟩ : ∃ n4, n4 = ns - (k + 1) - (k + 1) - 2 * (k + 1) := ⟨_, rfl⟩
  rw [← hn4]
  have htt : (n4 = 0 ∧ t = os + 2 * (k + 1)) ∨ (0 < n4 ∧ t = os + 4 * (k + 1)) := by
    by_cases h0 : 2 * (k + 1) = ns - (k + 1) - (k + 1)
    · rw [cutOff_eq h0] at ht; omega
    · rw [cutOff_lt (by omega)] at ht; omega
  have HT : Hid ((n4 = 0 ∧ t = os + 2 * (k + 1)) ∨ (0 < n4 ∧ t = os + 4 * (k + 1))) := htt
  have HN4 : Hid (n4 + 4 * (k + 1) = ns) := by show _ = _; omega
  have S8 := S5.chg C8 (fun _ _ h => h); have ZL8 := ZL5.chg C8 (fun _ _ h => h); have ZH8 := ZH5.chg C8 (fun _ _ h => h)
  have A08 := A05.chg C8 (fun _ _ h => h); have A18 := A15.chg C8 (fun _ _ h => h); have B08 := B05.chg C8 (fun _ _ h => h); have B18 := B15.chg C8 (fun _ _ h => h)
  have D8 := D5.trans (C8.mono (fun _ _ h => absurd h id))
  have SA8 := S8.sub 0 (k + 1) (by omega); have SB8 := S8.sub (k + 1) (k + 1) (by omega); have MI8 := S8.sub (2 * (k + 1)) (2 * (k + 1)) (by omega)
  rw [Nat.add_zero] at SA8
  have SR8 : ∃ sr, Row w8 gs t n4 sr := by
    rcases htt with ⟨h0, _⟩ | ⟨_, h1⟩
    · subst h0; exact ⟨[], rfl, Dig.nil _, fun j hj => by omega, fun j hj => by omega⟩
    · rw [h1]; exact ⟨_, S8.sub (4 * (k + 1)) n4 (by omega)⟩
  obtain ⟨sr, SR8⟩ := SR8
  clear ht hn4 htt S5 ZL5 ZH5 A05 A15 B05 B15 C8 D5 S8
  go_wp2_with fail
  refine (addh_any gs os k (k + 1) _ (some ⟨ga, oa, none⟩) (some ⟨ga, oa + k, none⟩) k (n - k) (n - k) _ _ _ SA8 (Nat.le_refl _) (by omega) (A08.at_ (Nat.le_refl _) (by unfold maxLen; omega)) (A18.at_ (Nat.le_refl _) (by unfold maxLen; omega)) (by omega) (by omega) (dj_some (by unfold Dj at dax dbx dsz das dbs ⊢; omega)) (fun g2 o2 _ hp => dj_some (g := ga) (off := oa + k) (n := n - k) (by unfold Dj at dax dbx dsz das dbs ⊢; omega) g2 o2 hp)).mono ?_
  rintro e w9 ⟨sa, rfl, W9, SA9, vSA⟩
  have C9 := W9.chg
  have B09 := B08.chg C9 (fun j hj => by unfold Dj at dax dbx dsz das dbs; unfold Rg; omega); have B19 := B18.chg C9 (fun j hj => by unfold Dj at dax dbx dsz das dbs; unfold Rg; omega); have ZL9 := ZL8.chg C9 (fun j hj => by unfold Dj at dax dbx dsz das dbs; unfold Rg; omega); have ZH9 := ZH8.chg C9 (fun j hj => by unfold Dj at dax dbx dsz das dbs; unfold Rg; omega); have SB9 := SB8.chg C9 (fun j hj => by unfold Dj at dax dbx dsz das dbs; unfold Rg; omega); have MI9 := MI8.chg C9 (fun j hj => by unfold Dj at dax dbx dsz das dbs; unfold Rg; omega)
  have SR9 := SR8.chg C9 (fun j hj => by have := HT.out; unfold Rg; omega)
  have D9 := D8.trans (C9.mono (fun b o h => by unfold Rg at *; omega))
  clear W9 C9 D8 SA8 SB8 MI8 SR8 B08 B18 ZL8 ZH8
  go_wp2_with fail
  refine (addh_any gs (os + (k + 1)) k (k + 1) _ (some ⟨gb, ob, none⟩) (some ⟨gb, ob + k, none⟩) k (n - k) (n - k) _ _ _ SB9 (Nat.le_refl _) (by omega) (B09.at_ (Nat.le_refl _) (by unfold maxLen; omega)) (B19.at_ (Nat.le_refl _) (by unfold maxLen; omega)) (by omega) (by omega) (dj_some (by unfold Dj at dax dbx dsz das dbs ⊢; omega)) (fun g2 o2 _ hp => dj_some (g := gb) (off := ob + k) (n := n - k) (by unfold Dj at dax dbx dsz das dbs ⊢; omega) g2 o2 hp)).mono ?_
  rintro e w10 ⟨sb, rfl, W10, SB10, vSB⟩
  have C10 := W10.chg
  have ZL10 := ZL9.chg C10 (fun j hj => by unfold Dj at dax dbx dsz das dbs; unfold Rg; omega); have ZH10 := ZH9.chg C10 (fun j hj => by unfold Dj at dax dbx dsz das dbs; unfold Rg; omega); have SA10 := SA9.chg C10 (fun j hj => by unfold Dj at dax dbx dsz das dbs; unfold Rg; omega); have MI10 := MI9.chg C10 (fun j hj => by unfold Dj at dax dbx dsz das dbs; unfold Rg; omega)
  have SR10 := SR9.chg C10 (fun j hj => by have := HT.out; unfold Rg; omega)
  have D10 := D9.trans (C10.mono (fun b o h => by unfold Rg at *; omega))
  clear W10 C10 D9 SA9 SB9 MI9 SR9 B09 B19 ZL9 ZH9
  go_wp2_with fail
  refine (HI3.out gs (os + (k + 1) + (k + 1)) (2 * (k + 1)) (2 * (k + 1)) gs os (k + 1) gs (os + (k + 1)) (k + 1) gs t n4 n4 _ _ _ _ _ rfl (by rw [show os + (k + 1) + (k + 1) = os + 2 * (k + 1) by omega]; exact MI10) SA10.rd SB10.rd SR10 (by have := HN4.out; omega) (Nat.le_refl _) (Nat.le_refl _) (Nat.le_refl _) (Nat.le_refl _) (by omega) (by omega) (by omega) (by have := HN4.out; omega) (by unfold Dj; omega) (by unfold Dj; omega) (by have := HT.out; unfold Dj; omega) (by have := HT.out; unfold Dj; omega) (by have := HT.out; unfold Dj; omega)).mono ?_
  rintro e w11 ⟨zm, s11, rfl, C11, MI11, SR11, vM⟩
  have ZL11 := ZL10.chg C11 (fun j hj => by have h1 := HT.out; have h2 := HN4.out; unfold Dj at dax dbx dsz das dbs; unfold Rg; omega); have ZH11 := ZH10.chg C11 (fun j hj => by have h1 := HT.out; have h2 := HN4.out; unfold Dj at dax dbx dsz das dbs; unfold Rg; omega); have SA11 := SA10.chg C11 (fun j hj => by have h1 := HT.out; have h2 := HN4.out; unfold Dj at dax dbx dsz das dbs; unfold Rg; omega); have SB11 := SB10.chg C11 (fun j hj => by have h1 := HT.out; have h2 := HN4.out; unfold Dj at dax dbx dsz das dbs; unfold Rg; omega)
  have D11 := D10.trans (C11.mono (fun b o h => by have h1 := HT.out; have h2 := HN4.out; unfold Rg at *; omega))
  clear C11 D10 ZL10 ZH10 SA10 SB10 MI10 SR10
  go_wp2_with fail
  refine (lsub_any gs (os + (k + 1) + (k + 1)) (2 * (k + 1)) (2 * (k + 1)) _ (some ⟨gz, oz, none⟩) (2 * k) (2 * k) _ _ MI11 (Nat.le_refl _) (by omega) (ZL11.rd.at_ (Nat.le_refl _) (by unfold maxLen; omega)) (by omega) (dj_some' (by unfold Dj at dax dbx dsz das dbs ⊢; omega))).mono ?_
  rintro e w12 ⟨cy1, m1, rfl, hc1, W12, MI12, e12⟩
  have C12 := W12.chg
  have ZL12 := ZL11.chg C12 (fun j hj => by unfold Dj at dax dbx dsz das dbs; unfold Rg; omega); have ZH12 := ZH11.chg C12 (fun j hj => by unfold Dj at dax dbx dsz das dbs; unfold Rg; omega); have SA12 := SA11.chg C12 (fun j hj => by unfold Dj at dax dbx dsz das dbs; unfold Rg; omega); have SB12 := SB11.chg C12 (fun j hj => by unfold Dj at dax dbx dsz das dbs; unfold Rg; omega); have SR12 := SR11.chg C12 (fun j hj => by have h1 := HT.out; have h2 := HN4.out; unfold Dj at dax dbx dsz das dbs; unfold Rg; omega)
  have D12 := D11.trans (C12.mono (fun b o h => by unfold Rg at *; omega))
  clear C12 W12 D11 ZL11 ZH11 SA11 SB11 MI11 SR11
  go_wp2_with fail
  refine (lsub_any gs (os + (k + 1) + (k + 1)) (2 * (k + 1)) (2 * (k + 1)) _ (some ⟨gz, oz + 2 * k, none⟩) (2 * n - 2 * k) (2 * n - 2 * k) _ _ MI12 (Nat.le_refl _) (by omega) (ZH12.rd.at_ (Nat.le_refl _) (by unfold maxLen; omega)) (by omega) (dj_some' (by unfold Dj at dax dbx dsz das dbs ⊢; omega))).mono ?_
  rintro e w13 ⟨cy2, m2, rfl, hc2, W13, MI13, e13⟩
  have C13 := W13.chg
  have ZL13 := ZL12.chg C13 (fun j hj => by unfold Dj at dax dbx dsz das dbs; unfold Rg; omega); have ZH13 := ZH12.chg C13 (fun j hj => by unfold Dj at dax dbx dsz das dbs; unfold Rg; omega); have SA13 := SA12.chg C13 (fun j hj => by unfold Dj at dax dbx dsz das dbs; unfold Rg; omega); have SB13 := SB12.chg C13 (fun j hj => by unfold Dj at dax dbx dsz das dbs; unfold Rg; omega); have SR13 := SR12.chg C13 (fun j hj => by have h1 := HT.out; have h2 := HN4.out; unfold Dj at dax dbx dsz das dbs; unfold Rg; omega)
  have D13 := D12.trans (C13.mono (fun b o h => by unfold Rg at *; omega))
  have b12 := valB_lt B64_pos MI12.dig; have b13 := valB_lt B64_pos MI13.dig
  rw [MI12.len] at b12; rw [MI13.len] at b13
  clear C13 W13 D12 ZL12 ZH12 SA12 SB12 MI12 SR12
  have tx : (xs.drop k).take (n - k) = xs.drop k := List.take_of_length_le (by rw [List.length_drop, hX.len]; exact Nat.le_refl _)
  have ty : (ys.drop k).take (n - k) = ys.drop k := List.take_of_length_le (by rw [List.length_drop, hY.len]; exact Nat.le_refl _)
  rw [tx, ty] at vH
  rw [tx] at vSA
  rw [ty] at vSB
  rw [vSA, vSB] at vM
  have f12 := nb e12 b12 (kar_ge vL vM) hc1
  have f13 := nb e13 b13 (kar_ge2 vL vH vM f12) hc2
  have hAB : valB B64 xs * valB B64 ys = valB B64 zl + B64 ^ k * valB B64 m2 + B64 ^ k * (B64 ^ k * valB B64 zh) := by
    rw [valB_split B64 xs k (by rw [hX.len]; omega), valB_split B64 ys k (by rw [hY.len]; omega)]
    exact kar_math vL vH rfl rfl vM f12 f13
  have bX := valB_lt B64_pos hX.dig; have bY := valB_lt B64_pos hY.dig
  rw [hX.len] at bX; rw [hY.len] at bY
  have bXY : valB B64 xs * valB B64 ys < B64 ^ (2 * n) := by
    have := Nat.mul_lt_mul'' bX bY
    rw [← Nat.pow_add, show n + n = 2 * n by omega] at this; exact this
  have hZJ := ZL13.join ZH13
  rw [show 2 * k + (2 * n - 2 * k) = 2 * n by omega] at hZJ
  have lzl := ZL13.len
  have vJ : valB B64 (zl ++ zh) = valB B64 zl + B64 ^ (2 * k) * valB B64 zh := by rw [valB_append, lzl]
  have eP : B64 ^ (2 * k) = B64 ^ k * B64 ^ k := by rw [← Nat.pow_add, show k + k = 2 * k by omega]
  rw [eP, Nat.mul_assoc] at vJ
  have eQ : B64 ^ (2 * n) = B64 ^ k * B64 ^ (2 * n - k) := by rw [← Nat.pow_add, show k + (2 * n - k) = 2 * n by omega]
  have sJ := valB_split B64 (zl ++ zh) k (by rw [hZJ.len]; omega)
  have fit : valB B64 ((zl ++ zh).drop k) + valB B64 m2 < B64 ^ (2 * n - k) := by
    refine Nat.lt_of_mul_lt_mul_left (a := B64 ^ k) ?_
    rw [Nat.mul_add, ← eQ]
    rw [hAB] at bXY
    generalize B64 ^ k * valB B64 m2 = Y1 at *
    generalize B64 ^ k * (B64 ^ k * valB B64 zh) = Y2 at *
    generalize B64 ^ k * valB B64 ((zl ++ zh).drop k) = Y3 at *
    generalize B64 ^ (2 * n) = Y4 at *
    omega
  have HFIT : Hid (valB B64 ((zl ++ zh).drop k) + valB B64 m2 < B64 ^ (2 * n - k)) := fit
  have HFIN : Hid (valB B64 ((zl ++ zh).take k) + B64 ^ k * (valB B64 ((zl ++ zh).drop k) + valB B64 m2) = valB B64 xs * valB B64 ys) := by
    show _ = _
    rw [hAB, Nat.mul_add]
    generalize B64 ^ k * valB B64 m2 = Y1 at *
    generalize B64 ^ k * (B64 ^ k * valB B64 zh) = Y2 at *
    generalize B64 ^ k * valB B64 ((zl ++ zh).drop k) = Y3 at *
    omega
  have hN := Nf.trim MI13.dig
  have hlenM : (trimL m2).length ≤ 2 * n - k := (hN.len_le B64_one).2 (Nat.lt_of_le_of_lt (Nat.le_add_left _ _) fit)
  have HVM : Hid (valB B64 (trimL m2) = valB B64 m2) := hN.val
  have MA : At w13.drew (some ⟨gs, os + (k + 1) + (k + 1), none⟩) (2 * (k + 1)) (2 * (k + 1)) m2 := MI13.drew.at_ (Nat.le_refl _) (by unfold maxLen; omega)
  have ZK := (hZJ.sub k (2 * n - k) (by omega)).drew
  have tz : ((zl ++ zh).drop k).take (2 * n - k) = (zl ++ zh).drop k := List.take_of_length_le (by rw [List.length_drop, hZJ.len]; exact Nat.le_refl _)
  rw [tz] at ZK
  have ZT := (hZJ.take k (by omega)).drew
  have HJ : Hid (Row w13 gz oz (2 * n) (zl ++ zh)) := hZJ
  clear hAB bX bY bXY vJ eP eQ sJ fit hN tx ty tz vL vH vSA vSB vM f12 f13 e12 e13 b12 b13 lzl hZJ hc1 hc2 HI1 HI2 HI3
  generalize zl ++ zh = zj at *
  go_wp2_with fail
  have TR : Hid (∀ (p' : Option Addr) (m' : Nat), m' = (trimL m2).length → (m' ≠ 0 → p' = some ⟨gs, os + (k + 1) + (k + 1), none⟩) → At w13.drew p' m' m' (trimL m2) ∧ m' ≤ 2 * n - k ∧ (∀ g2 off2, 0 < m' → p' = some ⟨g2, off2, none⟩ → g2 ≠ gz ∨ off2 + m' ≤ oz + k ∨ oz + k + (2 * n - k) ≤ off2)) := by
    intro p' m' h1 h2
    exact ⟨MA.trim h1 h2, by omega, kar_hap (n := 2 * (k + 1)) h2 (by unfold Dj at dax dbx dsz das dbs ⊢; omega) (by have := trimL_length_le m2; have := MI13.len; omega)⟩
  go_region_with (first | (go_at_call 118; refine (trim_any MA).mono ?_; rintro e w14 ⟨p', m', rfl, hm', hp', hw⟩; obtain rfl := hw.symm; obtain ⟨TA, hml, hta⟩ := TR.out p' m' hm' hp'; have HTA : Hid _ := hta; clear hw hm' hp' hta) | (go_at_call 146; refine (ladd_any gz (oz + k) (2 * n - k) (cz - k) _ p' m' m' _ _ ZK (by omega) (by omega) TA hml HTA.out).mono ?_; rintro e w15 ⟨cy3, zz, rfl, hc3, W15, ZZ15, e15⟩))
  all_goals
    go_wp2_with fail
    go_end0
    have C15 := W15.chg
    have ZT15 := ZT.chg C15 (fun j hj => by unfold Dj at dax dbx dsz das dbs; unfold Rg; omega)
    have SA15 := SA13.drew.chg C15 (fun j hj => by unfold Dj at dax dbx dsz das dbs; unfold Rg; omega); have SB15 := SB13.drew.chg C15 (fun j hj => by unfold Dj at dax dbx dsz das dbs; unfold Rg; omega); have MI15 := MI13.drew.chg C15 (fun j hj => by unfold Dj at dax dbx dsz das dbs; unfold Rg; omega); have SR15 := SR13.drew.chg C15 (fun j hj => by have h1 := HT.out; have h2 := HN4.out; unfold Dj at dax dbx dsz das dbs; unfold Rg; omega)
    have D15 := D13.drew.trans (C15.mono (fun b o h => by unfold Rg at *; omega))
    have hz2 := ZT15.join ZZ15
    rw [show k + (2 * n - k) = 2 * n by omega] at hz2
    have hsj : ∃ ss', Row w15 gs os ns ss' := by
      have j1 := SA15.join SB15
      have j2 : Row w15 gs os ((k + 1) + (k + 1) + 2 * (k + 1)) ((sa ++ sb) ++ m2) := j1.join (by rw [← Nat.add_assoc]; exact MI15)
      rcases HT.out with ⟨h0, _⟩ | ⟨_, h1⟩
      · rw [show (k + 1) + (k + 1) + 2 * (k + 1) = ns by have := HN4.out; omega] at j2
        exact ⟨_, j2⟩
      · have j3 := j2.join (m := n4) (ys := s11) (by rw [show os + ((k + 1) + (k + 1) + 2 * (k + 1)) = t by omega]; exact SR15)
        rw [show (k + 1) + (k + 1) + 2 * (k + 1) + n4 = ns by have := HN4.out; omega] at j3
        exact ⟨_, j3⟩
    obtain ⟨ss', hss⟩ := hsj
    rw [HVM.out] at e15
    have ez := nc e15 HFIT.out rfl
    refine ⟨zj.take k ++ zz, ss', rfl, D15, hz2, hss, ?_⟩
    rw [valB_append, List.length_take, HJ.out.len, Nat.min_eq_left (by omega), ez]
    exact HFIN.out

theorem kar_any : ∀ (N n : Nat), n < N → n ≤ 100000 → 0 < n → KarSaid n := by
  intro N
  induction N with
  | zero => intro n h; omega
  | succ N ih =>
    intro n hn hb h0
    by_cases h : n < 48
    · exact kar_small n h h0
    · exact kar_step n h hb (fun m hm hm0 => ih m (by omega) (by omega) hm0)
def MulAt (m : Nat) : Prop := ∀ (p q : Option Addr) (n cn l cl : Nat) (xs ys : List Nat) (w : World), At w p n cn xs → At w q l cl ys → 0 < n → 0 < l → n ≤ 8192 → l ≤ 8192 → (n = m ∧ m ≤ l ∨ l = m ∧ m ≤ n) →
  Calls Tryz.prog 138 #[.slice p n cn, .slice q l cl] w fun e w' => ∃ p' m' zs, e = .returned (.slice p' m' m') ∧ Own w.heap.size w' p' m' zs ∧ Nf B64 zs (valB B64 xs * valB B64 ys) ∧ Below w.heap.size w w'
def BlkAt (m : Nat) : Prop := ∀ (gz oz cz n cn cm : Nat) (p q : Option Addr) (xs ys zs : List Nat) (w : World), Row w gz oz (n + m) zs → valB B64 zs = 0 → n + m ≤ cz → cz ≤ 1000000 → At w p n cn xs → At w q m cm ys → m ≤ n → n ≤ 8192 →
  (∀ g2 off2, p = some ⟨g2, off2, none⟩ → Dj g2 off2 n gz oz (n + m)) → (∀ g2 off2, q = some ⟨g2, off2, none⟩ → Dj g2 off2 m gz oz (n + m)) →
  Calls Tryz.prog 157 #[.slice (some ⟨gz, oz, none⟩) (n + m) cz, .slice p n cn, .slice q m cm] w fun e w' =>
    ∃ zs', e = .returned (.tuple #[]) ∧ Chg (Rg gz oz (n + m)) w w' ∧ Row w' gz oz (n + m) zs' ∧ valB B64 zs' = valB B64 xs * valB B64 ys

structure BlkRel (w : World) (gz oz L gp gs m ns : Nat) (xs ys : List Nat) (o : Nat) (wr : World) : Prop where
  chg : Chg (fun b c => Rg gz oz L b c ∨ Rg gp 0 (2 * m) b c ∨ Rg gs 0 ns b c) w wr
  part : ∃ ps, Row wr gp 0 (2 * m) ps
  scr : ∃ ss, Row wr gs 0 ns ss
  z : ∃ dk, Row wr gz oz L dk ∧ valB B64 dk = valB B64 (xs.take o) * valB B64 ys

theorem blk_val {xs ys dk zz ps : List Nat} {o m L n : Nat} (hdk : dk.length = L) (ho : o ≤ L) (hx : xs.length = n) (hy : ys.length = m) (hL : L = n + m) (hdx : Dig B64 xs) (hdy : Dig B64 ys) (om : o + m ≤ n) (cy : Nat)
    (hv : valB B64 dk = valB B64 (xs.take o) * valB B64 ys) (hp : valB B64 ps = valB B64 ((xs.drop o).take m) * valB B64 ys) (hz : valB B64 zz + B64 ^ (L - o) * cy = valB B64 (dk.drop o) + valB B64 ps) :
    valB B64 (dk.take o ++ zz) = valB B64 (xs.take (o + m)) * valB B64 ys := by
  have e1 : valB B64 (xs.take (o + m)) = valB B64 (xs.take o) + B64 ^ o * valB B64 ((xs.drop o).take m) := by
    have := valB_split B64 (xs.take (o + m)) o (by simp; omega)
    rw [List.take_take, Nat.min_eq_left (by omega), List.drop_take, Nat.add_sub_cancel_left] at this
    exact this
  have e2 := valB_split B64 dk o (by omega)
  have b1 := valB_lt B64_pos (hdx.take (o + m))
  have b2 := valB_lt B64_pos hdy
  rw [List.length_take, hx, Nat.min_eq_left (by omega)] at b1
  rw [hy] at b2
  have b3 : valB B64 (xs.take (o + m)) * valB B64 ys < B64 ^ L := by
    have := Nat.mul_lt_mul'' b1 b2
    rw [← Nat.pow_add] at this
    exact Nat.lt_of_lt_of_le this (Nat.pow_le_pow_right B64_pos (by omega))
  have e3 : valB B64 (xs.take (o + m)) * valB B64 ys = valB B64 dk + B64 ^ o * valB B64 ps := by
    rw [e1, Nat.add_mul, hv, hp, Nat.mul_assoc]
  have eQ : B64 ^ L = B64 ^ o * B64 ^ (L - o) := by rw [← Nat.pow_add, show o + (L - o) = L by omega]
  have fit : valB B64 (dk.drop o) + valB B64 ps < B64 ^ (L - o) := by
    refine Nat.lt_of_mul_lt_mul_left (a := B64 ^ o) ?_
    rw [Nat.mul_add, ← eQ]
    rw [e3] at b3
    omega
  have ez := nc hz fit rfl
  rw [valB_append, List.length_take, hdk, Nat.min_eq_left ho, ez, e3, Nat.mul_add]
  omega

theorem blk_fin {xs ys dk zz ps : List Nat} {o m n cy : Nat} (hdk : dk.length = n + m) (ho : o ≤ n) (hx : xs.length = n) (hy : ys.length = m) (hdx : Dig B64 xs) (hdy : Dig B64 ys)
    (hv : valB B64 dk = valB B64 (xs.take o) * valB B64 ys) (hp : valB B64 ps = valB B64 ((xs.drop o).take (n - o)) * valB B64 ys) (hz : valB B64 zz + B64 ^ (n + m - o) * cy = valB B64 (dk.drop o) + valB B64 ps) :
    valB B64 (dk.take o ++ zz) = valB B64 xs * valB B64 ys := by
  have e1 : valB B64 xs = valB B64 (xs.take o) + B64 ^ o * valB B64 ((xs.drop o).take (n - o)) := by
    rw [List.take_of_length_le (i := n - o) (by rw [List.length_drop, hx]; exact Nat.le_refl _)]
    exact valB_split B64 xs o (by omega)
  have e2 := valB_split B64 dk o (by omega)
  have b1 := valB_lt B64_pos hdx
  have b2 := valB_lt B64_pos hdy
  rw [hx] at b1
  rw [hy] at b2
  have b3 : valB B64 xs * valB B64 ys < B64 ^ (n + m) := by
    have := Nat.mul_lt_mul'' b1 b2
    rw [← Nat.pow_add] at this; exact this
  have e3 : valB B64 xs * valB B64 ys = valB B64 dk + B64 ^ o * valB B64 ps := by
    rw [hv, hp]
    rw [← Nat.mul_assoc, ← Nat.add_mul, ← e1]
  have eQ : B64 ^ (n + m) = B64 ^ o * B64 ^ (n + m - o) := by rw [← Nat.pow_add, show o + (n + m - o) = n + m by omega]
  have fit : valB B64 (dk.drop o) + valB B64 ps < B64 ^ (n + m - o) := by
    refine Nat.lt_of_mul_lt_mul_left (a := B64 ^ o) ?_
    rw [Nat.mul_add, ← eQ]
    rw [e3] at b3
    omega
  have ez := nc hz fit rfl
  rw [valB_append, List.length_take, hdk, Nat.min_eq_left (by omega), ez, e3, Nat.mul_add]
  omega

theorem At.chg {w w' : World} {S : Nat → Nat → Prop} {p : Option Addr} {n c : Nat} {xs : List Nat} (h : At w p n c xs) (hc : Chg S w w') (hd : ∀ g off, p = some ⟨g, off, none⟩ → ∀ j, j < n → g < w.heap.size → ¬ S g (off + j)) : At w' p n c xs := by
  refine ⟨h.len, h.cap, h.big, h.dig, ?_⟩
  rcases h.cells with h0 | ⟨g, off, rfl, hcl⟩
  · exact .inl h0
  · exact .inr ⟨g, off, rfl, fun j hj => hc.cell (hd g off rfl j hj (World.block_lt_of_cell? w _ (hcl j hj))) (hcl j hj)⟩
theorem Chg.trans_new {S T : Nat → Nat → Prop} {a b c : World} (h : Chg S a b) (k : Chg T b c) (hT : ∀ x o, x < a.heap.size → T x o → S x o) : Chg S a c := by
  refine ⟨k.os.trans h.os, k.tape.trans h.tape, k.output.trans h.output, Nat.le_trans h.size k.size, fun i cur t fr hi => ?_, fun i hi hn => ?_⟩
  · have hlt : i < a.heap.size := (Array.getElem?_eq_some_iff.1 hi).1
    obtain ⟨c1, g1, s1, e1⟩ := h.row i cur t fr hi
    obtain ⟨c2, g2, s2, e2⟩ := k.row i c1 t fr g1
    exact ⟨c2, g2, s2.trans s1, fun j hj => (e2 j (fun ht => hj (hT i j hlt ht))).trans (e1 j hj)⟩
  · have e1 := h.other i hi hn
    rw [← e1]
    exact k.other i (Nat.lt_of_lt_of_le hi h.size) (by rw [e1]; exact hn)
theorem wrap_small (o : Nat) (h : o ≤ 1000000) : IntKind.i64.wrap (o : Int) = (o : Int) := by
  simp [IntKind.wrap, IntKind.signed, IntKind.bits]
  omega
theorem Own.at2 {B : Nat} {w : World} {p : Option Addr} {m : Nat} {zs : List Nat} (h : Own B w p m zs) (hm : m ≤ 9223372036854775807) : At w p m m zs := by
  refine ⟨h.len, Nat.le_refl _, by unfold maxLen; omega, h.dig, ?_⟩
  rcases h.mem with h0 | ⟨g, rfl, _, hr⟩
  · exact .inl h0
  · exact .inr ⟨g, 0, rfl, hr.cell⟩
theorem Own.dj {B : Nat} {w : World} {p : Option Addr} {m : Nat} {zs : List Nat} (h : Own B w p m zs) {g off n : Nat} (hg : g < B) : ∀ g2 off2, 0 < m → p = some ⟨g2, off2, none⟩ → g2 ≠ g ∨ off2 + m ≤ off ∨ off + n ≤ off2 := by
  intro g2 off2 h0 hp
  obtain ⟨g3, h1, h2, _⟩ := h.mem.resolve_left (by omega)
  rw [hp] at h1
  simp only [Option.some.injEq, Addr.mk.injEq, and_true] at h1
  omega

theorem blk_step (m : Nat) (h48 : 48 ≤ m) (ih : ∀ r, r < m → 0 < r → MulAt r) : BlkAt m := by
  intro gz oz cz n cn cm p q xs ys zs w hZ hz0 hcz bcz hA hB hmn hn8 dax dbx
  obtain ⟨ga, oa, rfl, hca⟩ := hA.cells.resolve_left (by omega)
  obtain ⟨gb, ob, rfl, hcb⟩ := hB.cells.resolve_left (by omega)
  have dA := dax ga oa rfl
  have dB := dbx gb ob rfl
  have ltz := hZ.lt (by omega)
  have lta : ga < w.heap.size := World.block_lt_of_cell? w _ (hca 0 (by omega))
  have ltb : gb < w.heap.size := World.block_lt_of_cell? w _ (hcb 0 (by omega))
  have al := hA.len; have bl := hB.len; have acap := hA.cap; have bcap := hB.cap; have abig := hA.big; have bbig := hB.big
  unfold maxLen at abig bbig
  have hscr := scr_le (m + 1) m (by omega)
  have hscp : 0 < scr m := by rw [scr_ge (by omega)]; omega
  obtain ⟨ns, hns⟩ : ∃ ns, ns = scr m := ⟨_, rfl⟩
  rw [← hns] at hscr hscp
  obtain ⟨cnt, hcnt⟩ : ∃ cnt, cnt = n / m := ⟨_, rfl⟩
  have ecnt : (n : Int) / (m : Int) = (cnt : Int) := by rw [hcnt]; exact (Int.natCast_ediv _ _).symm
  have hcm := Nat.div_mul_le_self n m
  have hdm := Nat.div_add_mod n m
  have hml := Nat.mod_lt n (show 0 < m by omega)
  rw [Nat.mul_comm] at hdm
  rw [← hcnt] at hcm hdm
  have hcb8 : cnt ≤ 8192 := by rw [hcnt]; exact Nat.le_trans (Nat.div_le_self _ _) hn8
  have HIH : Hid (∀ r, r < m → 0 < r → MulAt r) := ih
  have HNS : Hid (ns = scr m) := hns
  have HCM : Hid (cnt * m ≤ n) := hcm
  have HDM : Hid (cnt * m + n % m = n) := hdm
  have HDA : Hid (Dj ga oa n gz oz (n + m)) := dA
  have HDB : Hid (Dj gb ob m gz oz (n + m)) := dB
  have HZ0 : Hid (valB B64 zs = 0) := hz0
  clear ih hns hcm hdm hcnt dax dbx dA dB hz0
  obtain ⟨i0, hi, hzz0, hzz1, hzz2⟩ := info_parts Tryz.infoU64
  go_enter Tryz.func157, Tryz.ntmps157
  go_wp2_with (at_make; refine wpList_make_full _ rfl _ _ 93 rfl w.heap.size 22 i0 (.int .u64 0) 1 Tryz.underlying93 hi hzz0 hzz1 _ _ _ _ (2 * m) rfl rfl (by omega) (by omega) (by rw [hzz2]; omega) (by unfold maxLen; omega) (Nat.le_refl _) ?_; intro w1 hown hgrow; have hmk := made_blk hown hgrow; clear hown hgrow)
  obtain ⟨hblk1, hb1⟩ := hmk
  refine (scr_any m _ (by omega)).mono ?_
  rintro e w1' ⟨rfl, hw⟩
  obtain rfl := hw.symm
  rw [← HNS.out]
  clear hw
  go_wp2_with (at_make; refine wpList_make_full _ rfl _ _ 93 rfl w1.heap.size 22 i0 (.int .u64 0) 1 Tryz.underlying93 hi hzz0 hzz1 _ _ _ _ ns rfl rfl (by omega) (by omega) (by rw [hzz2]; omega) (by unfold maxLen; omega) (Nat.le_refl _) ?_; intro w2 hown hgrow; have hmk := made_blk hown hgrow; clear hown hgrow)
  obtain ⟨hblk2, hb2⟩ := hmk
  have hlt1 := hblk1.lt
  have hr1 := (hblk1.row (Dig.replicate _ _ B64_pos)).below hb2 hlt1
  have hr2 := hblk2.row (Dig.replicate _ _ B64_pos)
  rw [List.length_replicate] at hr1 hr2
  have hb12 : Below w.heap.size w w2 := hb1.trans (hb2.mono hb1.size)
  have Z2 := hZ.below hb12 ltz
  have A2 := hA.below hb12; have B2 := hB.below hb12
  have hgp : w.heap.size < w1.heap.size := hlt1
  obtain ⟨gp, hgpe⟩ : ∃ gp, gp = w.heap.size := ⟨_, rfl⟩
  obtain ⟨gs, hgse⟩ : ∃ gs, gs = w1.heap.size := ⟨_, rfl⟩
  rw [← hgpe] at hr1 ⊢
  rw [← hgse] at hr2 ⊢
  have hap : ga < gp ∧ gb < gp ∧ gz < gp ∧ gp < gs := by omega
  have HC2 : Hid (Chg (Rg gz oz (n + m)) w w2) := Below.chg hb12 _
  have hs2 := hb2.size; have hs1 := hb1.size
  have hgpw : w.heap.size ≤ gp := by omega
  have hsz : gs < w2.heap.size := hr2.lt hscp
  clear hblk1 hblk2 hb1 hb2 hlt1 hgp hb12 hgpe hgse
  go_wp2_with fail
  go_loopw [10, 11, 26] (fun _ _ i wr => ∃ k : Nat, k ≤ cnt ∧ i = .int .i64 k ∧ BlkRel w2 gz oz (n + m) gp gs m ns xs ys (k * m) wr) (fun _ _ i _ => cnt - (intOf i).toNat)
  case atStart => exact ⟨0, Nat.zero_le _, rfl, Chg.refl _ _, ⟨_, hr1⟩, ⟨_, hr2⟩, zs, Z2, by rw [HZ0.out]; simp [valB]⟩
  case round =>
    obtain ⟨k, hk, rfl, hR⟩ := hrel
    by_cases hlt : k < cnt
    · obtain ⟨o, ho⟩ : ∃ o, o = k * m := ⟨_, rfl⟩
      have hom : o + m ≤ n := by
        have h1 : (k + 1) * m ≤ cnt * m := Nat.mul_le_mul_right m hlt
        have h2 := HCM.out
        rw [Nat.add_mul, Nat.one_mul] at h1
        omega
      have e1 : (k : Int) * (m : Int) = (o : Int) := by rw [ho]; exact (Int.natCast_mul _ _).symm
      have e2 : ((k : Int) + 1) * (m : Int) = ((o + m : Nat) : Int) := by rw [Int.add_mul, e1]; omega
      rw [← ho] at hR
      obtain ⟨ps, P3⟩ := hR.part
      obtain ⟨ss, S3⟩ := hR.scr
      obtain ⟨dk, Z3, vZ⟩ := hR.z
      have C3 := hR.chg
      have A3 := A2.chg C3 (fun g off hp j hj hg => by
        simp only [Option.some.injEq, Addr.mk.injEq, and_true] at hp
        obtain ⟨rfl, rfl⟩ := hp
        have := HDA.out; unfold Dj at this; unfold Rg; omega)
      have B3 := B2.chg C3 (fun g off hp j hj hg => by
        simp only [Option.some.injEq, Addr.mk.injEq, and_true] at hp
        obtain ⟨rfl, rfl⟩ := hp
        have := HDB.out; unfold Dj at this; unfold Rg; omega)
      have RA : Rd wr ga oa n xs := by
        obtain ⟨g3, o3, hp3, hc3⟩ := A3.cells.resolve_left (by omega)
        simp only [Option.some.injEq, Addr.mk.injEq, and_true] at hp3
        obtain ⟨rfl, rfl⟩ := hp3
        exact ⟨al, A3.dig, hc3⟩
      have RB : Rd wr gb ob m ys := by
        obtain ⟨g3, o3, hp3, hc3⟩ := B3.cells.resolve_left (by omega)
        simp only [Option.some.injEq, Addr.mk.injEq, and_true] at hp3
        obtain ⟨rfl, rfl⟩ := hp3
        exact ⟨bl, B3.dig, hc3⟩
      have RK := RA.sub o m (by omega)
      have HVZ : Hid (valB B64 dk = valB B64 (xs.take o) * valB B64 ys) := vZ
      have HO : Hid (o = k * m) := ho
      clear hR vZ ho A3 B3
      go_wp2_with fail
      refine (kar_any (m + 1) m (by omega) (by omega) (by omega) gp 0 (2 * m) (2 * m) ga (oa + o) m gb ob cm gs 0 ns ns _ _ _ _ _ rfl P3 RK RB S3 (by rw [HNS.out]; exact Nat.le_refl _) (Nat.le_refl _) (Nat.le_refl _) bcap (Nat.le_refl _) (by omega) (by omega) (by omega) (by omega) (by unfold Dj; omega) (by unfold Dj; omega) (by unfold Dj; omega) (by unfold Dj; omega) (by unfold Dj; omega)).mono ?_
      rintro e w4 ⟨zp, s4, rfl, C4, P4, S4, vP⟩
      have Z4 := Z3.chg C4 (fun j hj => by unfold Rg; omega)
      have ZO := Z4.sub o (n + m - o) (by omega)
      have tz : (dk.drop o).take (n + m - o) = dk.drop o := List.take_of_length_le (by rw [List.length_drop, Z4.len]; exact Nat.le_refl _)
      rw [tz] at ZO
      have HVP : Hid (valB B64 zp = valB B64 ((xs.drop o).take m) * valB B64 ys) := vP
      clear vP tz P3 S3 Z3 RA RB RK
      go_wp2_with fail
      refine (ladd_any gz (oz + o) (n + m - o) (cz - o) _ (some ⟨gp, 0, none⟩) (2 * m) (2 * m) _ _ ZO (by omega) (by omega) (P4.at_ (Nat.le_refl _) (by unfold maxLen; omega)) (by omega) (fun g2 off2 _ hp => by
        simp only [Option.some.injEq, Addr.mk.injEq, and_true] at hp
        omega)).mono ?_
      rintro e w5 ⟨cy, zz, rfl, hcy, W5, ZZ5, e5⟩
      have HE5 : Hid (valB B64 zz + B64 ^ (n + m - o) * cy = valB B64 (dk.drop o) + valB B64 zp) := e5
      clear e5
      go_wp2_with fail
      go_roundw
      case rel =>
        have ho := HO.out
        have C5 := W5.chg
        refine ⟨k + 1, by omega, by go_num, ?_⟩
        rw [Nat.add_mul, Nat.one_mul, ← ho]
        refine ⟨(C3.trans (C4.mono (fun b c h => by unfold Rg at *; omega))).trans (C5.mono (fun b c h => by unfold Rg at *; omega)), ⟨_, P4.chg C5 (fun j hj => by unfold Rg; omega)⟩, ⟨_, S4.chg C5 (fun j hj => by unfold Rg; omega)⟩, dk.take o ++ zz, ?_, ?_⟩
        · have lo := (Z4.take o (by omega)).chg C5 (fun j hj => by unfold Rg; omega)
          have all := lo.join ZZ5
          rw [show o + (n + m - o) = n + m by omega] at all
          exact all
        · exact blk_val Z4.len (by omega) al bl rfl hA.dig hB.dig hom cy HVZ.out HVP.out HE5.out
      case measure => simp [intOf]; omega
    · obtain rfl : k = cnt := by omega
      obtain ⟨o, ho⟩ : ∃ o, o = k * m := ⟨_, rfl⟩
      have hon : o ≤ n := by rw [ho]; exact HCM.out
      have e1 : (k : Int) * (m : Int) = (o : Int) := by rw [ho]; exact (Int.natCast_mul _ _).symm
      have hrm : n - o < m := by have := HDM.out; rw [← ho] at this; omega
      rw [← ho] at hR
      have C3 := hR.chg
      obtain ⟨dk, Z3, vZ⟩ := hR.z
      have HC3 : Hid (Chg (Rg gz oz (n + m)) w wr) := HC2.out.trans_new C3 (fun x c hx h => by unfold Rg at *; omega)
      have A3 := A2.chg C3 (fun g off hp j hj hg => by
        simp only [Option.some.injEq, Addr.mk.injEq, and_true] at hp
        obtain ⟨rfl, rfl⟩ := hp
        have := HDA.out; unfold Dj at this; unfold Rg; omega)
      have B3 := B2.chg C3 (fun g off hp j hj hg => by
        simp only [Option.some.injEq, Addr.mk.injEq, and_true] at hp
        obtain ⟨rfl, rfl⟩ := hp
        have := HDB.out; unfold Dj at this; unfold Rg; omega)
      have hszr := C3.size
      have HVZ : Hid (valB B64 dk = valB B64 (xs.take o) * valB B64 ys) := vZ
      have HO2 : Hid (k * m = o) := ho.symm
      clear hR vZ ho HCM HDM
      by_cases hr0 : n ≤ o
      · go_wp2_with fail
        all_goals go_end0
        all_goals have hv2 : valB B64 dk = valB B64 xs * valB B64 ys := by rw [HVZ.out, List.take_of_length_le (by omega)]
        all_goals first | exact ⟨dk, rfl, HC3.out, Z3, hv2⟩ | exact ⟨rfl, HC3.out, dk, Z3, hv2⟩
      · have RA : Rd wr ga oa n xs := by
          obtain ⟨g3, o3, hp3, hc3⟩ := A3.cells.resolve_left (by omega)
          simp only [Option.some.injEq, Addr.mk.injEq, and_true] at hp3
          obtain ⟨rfl, rfl⟩ := hp3
          exact ⟨al, A3.dig, hc3⟩
        have RK := (RA.sub o (n - o) (by omega)).at_ (c := cn - o) (by omega) (by unfold maxLen; omega)
        have tk : (xs.drop o).take (n - o) = xs.drop o := List.take_of_length_le (by rw [List.length_drop, al]; exact Nat.le_refl _)
        rw [tk] at RK
        have RK2 : At wr.drew (some ⟨ga, oa + o, none⟩) (n - o) (cn - o) (xs.drop o) := ⟨RK.len, RK.cap, RK.big, RK.dig, RK.cells⟩
        have B32 : At wr.drew (some ⟨gb, ob, none⟩) m cm ys := ⟨B3.len, B3.cap, B3.big, B3.dig, B3.cells⟩
        have ZO := (Z3.sub o (n + m - o) (by omega)).drew
        have tz : (dk.drop o).take (n + m - o) = dk.drop o := List.take_of_length_le (by rw [List.length_drop, Z3.len]; exact Nat.le_refl _)
        rw [tz] at ZO
        have ZT := (Z3.take o (by omega)).drew
        have hzlt : gz < wr.heap.size := Z3.lt (by omega)
        have lenM : ∀ zs' : List Nat, Nf B64 zs' (valB B64 (xs.drop o) * valB B64 ys) → zs'.length ≤ n + m - o := by
          intro zs' hN
          refine (hN.len_le B64_one).2 ?_
          have b1 := valB_lt B64_pos (hA.dig.drop o); have b2 := valB_lt B64_pos hB.dig
          rw [List.length_drop, al] at b1; rw [bl] at b2
          have := Nat.mul_lt_mul'' b1 b2
          rw [← Nat.pow_add, show n - o + m = n + m - o by omega] at this; exact this
        have HLM : Hid (∀ zs' : List Nat, Nf B64 zs' (valB B64 (xs.drop o) * valB B64 ys) → zs'.length ≤ n + m - o) := lenM
        have HZL : Hid (dk.length = n + m) := Z3.len
        clear tk tz RA RK A3 B3 lenM C3 Z3
        have h1 : ¬ o = cz := by omega
        have h2 : ¬ cz = o := by omega
        have h3 : (o : Int) ≤ (n : Int) + (m : Int) := by omega
        have h3n : o ≤ n + m := by omega
        go_wp2_with fail
        have hkm0 : 0 ≤ (k : Int) * (m : Int) := by rw [e1]; omega
        have hkm1 : (k : Int) * (m : Int) ≤ 1000000 := by rw [e1]; omega
        have hwo : IntKind.i64.wrap (o : Int) = (o : Int) := wrap_small o (by omega)
        clear h1 hkm0 hkm1
        go_region_with (first | (go_at_call 138; refine (HIH.out (n - o) hrm (by omega) (some ⟨ga, oa + o, none⟩) (some ⟨gb, ob, none⟩) (n - o) (cn - o) m cm _ _ _ RK2 B32 (by omega) (by omega) (by omega) (by omega) (.inl ⟨rfl, by omega⟩)).mono ?_; rintro e w6 ⟨p', m', zs6, rfl, ho6, n6, hb6⟩; have hm6 : m' ≤ n + m - o := (by rw [← ho6.len]; exact HLM.out zs6 n6); have ZO6 := ZO.below hb6 hzlt; have ZT6 := ZT.below hb6 hzlt) | (go_at_call 146; refine (ladd_any gz (oz + o) (n + m - o) (cz - o) _ p' m' m' _ _ ZO6 (by omega) (by omega) (ho6.at2 (by omega)) hm6 (ho6.dj hzlt)).mono ?_; rintro e w7 ⟨cy, zz, rfl, hcy, W7, ZZ7, e7⟩))
        all_goals
          go_wp2_with fail
          go_end0
          have C7 := W7.chg
          have lo := ZT6.chg C7 (fun j hj => by unfold Rg; omega)
          have all := lo.join ZZ7
          rw [show o + (n + m - o) = n + m by omega] at all
          refine ⟨dk.take o ++ zz, rfl, (HC3.out.drew.trans_new (Below.chg hb6 (Rg gz oz (n + m))) (fun x c _ h => h)).trans (C7.mono (fun b c h => by unfold Rg at *; omega)), all, ?_⟩
          have vps : valB B64 zs6 = valB B64 ((xs.drop o).take (n - o)) * valB B64 ys := by
            rw [n6.val, List.take_of_length_le (by rw [List.length_drop, al]; exact Nat.le_refl _)]
          exact blk_fin HZL.out hon al bl hA.dig hB.dig HVZ.out vps e7
theorem dj_fresh {w : World} {p : Option Addr} {n c : Nat} {xs : List Nat} (h : At w p n c xs) (hn : 0 < n) (off m : Nat) : ∀ g2 off2, p = some ⟨g2, off2, none⟩ → Dj g2 off2 n w.heap.size off m :=
  fun g2 off2 hp => .inl (h.fresh (Nat.le_refl _) g2 off2 hn hp)

theorem mul_of_blk (m : Nat) (hbk : 48 ≤ m → BlkAt m) : MulAt m := by
  intro p q n cn l cl xs ys w hA hB hn hl hn8 hl8 hcase
  have HB : Hid (48 ≤ m → BlkAt m) := hbk
  have al := hA.len; have bl := hB.len
  clear hbk
  obtain ⟨i0, hi, hzz0, hzz1, hzz2⟩ := info_parts Tryz.infoU64
  by_cases hlt : n < l
  · have hm : n = m := by omega
    subst hm
    go_enter Tryz.func138, Tryz.ntmps138
    go_wp2_with (at_make; refine wpList_make_full _ rfl _ _ 93 rfl w.heap.size 22 i0 (.int .u64 0) 1 Tryz.underlying93 hi hzz0 hzz1 _ _ _ _ (l + n) rfl rfl (by omega) (by omega) (by rw [hzz2]; omega) (by unfold maxLen; omega) (Nat.le_refl _) ?_; intro w1 hown hgrow; have hmk := made_blk hown hgrow; clear hown hgrow)
    all_goals obtain ⟨hblk, hb1⟩ := hmk
    all_goals have hr := hblk.row (Dig.replicate _ _ B64_pos)
    all_goals rw [List.length_replicate] at hr
    all_goals have A1 := hB.below hb1
    all_goals have B1 := hA.below hb1
    · refine (rows_any w.heap.size 0 (l + n) _ q p l cl n cn ys xs _ hr (Nat.le_refl _) (by omega) A1 B1 (by omega) (by omega) (dj_fresh hB (by omega) 0 _) (dj_fresh hA (by omega) 0 _)).mono ?_
      rintro e w2 ⟨zs, rfl, hwr, hrow, hval⟩
      have hb2 : Below w.heap.size w w2 := hb1.trans (hwr.below (Nat.le_refl _))
      clear hwr hb1 hblk hr A1 B1
      have A2 := hrow.at_ (Nat.le_refl _) (by unfold maxLen; omega)
      have hN := Nf.trim hrow.dig
      rw [hval] at hN
      have HV : Hid (Nf B64 (trimL zs) (valB B64 ys * valB B64 xs)) := hN
      clear hval hN
      go_wp2_with fail
      refine (trim_any A2).mono ?_
      rintro e w3 ⟨p', m', rfl, hm', hp', hw⟩
      obtain rfl := hw.symm
      have HM : Hid (m' = (trimL zs).length) := hm'
      clear hw hm'
      go_wp2_with fail
      go_ret
      exact ⟨p', m', trimL zs, rfl, hrow.own (Nat.le_refl _) HM.out hp', by rw [Nat.mul_comm]; exact HV.out, hb2⟩
    · refine (HB.out (by omega) w.heap.size 0 (l + n) l cl cn q p ys xs _ _ hr (valB_replicate _ _) (Nat.le_refl _) (by omega) A1 B1 (by omega) (by omega) (dj_fresh hB (by omega) 0 _) (dj_fresh hA (by omega) 0 _)).mono ?_
      rintro e w2 ⟨zs, rfl, hcg, hrow, hval⟩
      have hb2 : Below w.heap.size w w2 := hb1.trans (hcg.below (fun b o h => by unfold Rg at h; omega) (by have := hblk.lt; omega))
      clear hcg hb1 hblk hr A1 B1
      have A2 := hrow.at_ (Nat.le_refl _) (by unfold maxLen; omega)
      have hN := Nf.trim hrow.dig
      rw [hval] at hN
      have HV : Hid (Nf B64 (trimL zs) (valB B64 ys * valB B64 xs)) := hN
      clear hval hN
      go_wp2_with fail
      refine (trim_any A2).mono ?_
      rintro e w3 ⟨p', m', rfl, hm', hp', hw⟩
      obtain rfl := hw.symm
      have HM : Hid (m' = (trimL zs).length) := hm'
      clear hw hm'
      go_wp2_with fail
      go_ret
      exact ⟨p', m', trimL zs, rfl, hrow.own (Nat.le_refl _) HM.out hp', by rw [Nat.mul_comm]; exact HV.out, hb2⟩
  · have hm : l = m := by omega
    subst hm
    go_enter Tryz.func138, Tryz.ntmps138
    go_wp2_with (at_make; refine wpList_make_full _ rfl _ _ 93 rfl w.heap.size 22 i0 (.int .u64 0) 1 Tryz.underlying93 hi hzz0 hzz1 _ _ _ _ (n + l) rfl rfl (by omega) (by omega) (by rw [hzz2]; omega) (by unfold maxLen; omega) (Nat.le_refl _) ?_; intro w1 hown hgrow; have hmk := made_blk hown hgrow; clear hown hgrow)
    all_goals obtain ⟨hblk, hb1⟩ := hmk
    all_goals have hr := hblk.row (Dig.replicate _ _ B64_pos)
    all_goals rw [List.length_replicate] at hr
    all_goals have A1 := hA.below hb1
    all_goals have B1 := hB.below hb1
    · refine (rows_any w.heap.size 0 (n + l) _ p q n cn l cl xs ys _ hr (Nat.le_refl _) (by omega) A1 B1 (by omega) (by omega) (dj_fresh hA (by omega) 0 _) (dj_fresh hB (by omega) 0 _)).mono ?_
      rintro e w2 ⟨zs, rfl, hwr, hrow, hval⟩
      have hb2 : Below w.heap.size w w2 := hb1.trans (hwr.below (Nat.le_refl _))
      clear hwr hb1 hblk hr A1 B1
      have A2 := hrow.at_ (Nat.le_refl _) (by unfold maxLen; omega)
      have hN := Nf.trim hrow.dig
      rw [hval] at hN
      have HV : Hid (Nf B64 (trimL zs) (valB B64 xs * valB B64 ys)) := hN
      clear hval hN
      go_wp2_with fail
      refine (trim_any A2).mono ?_
      rintro e w3 ⟨p', m', rfl, hm', hp', hw⟩
      obtain rfl := hw.symm
      have HM : Hid (m' = (trimL zs).length) := hm'
      clear hw hm'
      go_wp2_with fail
      go_ret
      exact ⟨p', m', trimL zs, rfl, hrow.own (Nat.le_refl _) HM.out hp', HV.out, hb2⟩
    · refine (HB.out (by omega) w.heap.size 0 (n + l) n cn cl p q xs ys _ _ hr (valB_replicate _ _) (Nat.le_refl _) (by omega) A1 B1 (by omega) (by omega) (dj_fresh hA (by omega) 0 _) (dj_fresh hB (by omega) 0 _)).mono ?_
      rintro e w2 ⟨zs, rfl, hcg, hrow, hval⟩
      have hb2 : Below w.heap.size w w2 := hb1.trans (hcg.below (fun b o h => by unfold Rg at h; omega) (by have := hblk.lt; omega))
      clear hcg hb1 hblk hr A1 B1
      have A2 := hrow.at_ (Nat.le_refl _) (by unfold maxLen; omega)
      have hN := Nf.trim hrow.dig
      rw [hval] at hN
      have HV : Hid (Nf B64 (trimL zs) (valB B64 xs * valB B64 ys)) := hN
      clear hval hN
      go_wp2_with fail
      refine (trim_any A2).mono ?_
      rintro e w3 ⟨p', m', rfl, hm', hp', hw⟩
      obtain rfl := hw.symm
      have HM : Hid (m' = (trimL zs).length) := hm'
      clear hw hm'
      go_wp2_with fail
      go_ret
      exact ⟨p', m', trimL zs, rfl, hrow.own (Nat.le_refl _) HM.out hp', HV.out, hb2⟩

theorem mul_at : ∀ (N m : Nat), m < N → MulAt m := by
  intro N
  induction N with
  | zero => intro m h; omega
  | succ N ih =>
    intro m hm
    exact mul_of_blk m (fun h48 => blk_step m h48 (fun r hr h0 => ih r (by omega)))
theorem mult_any {p q : Option Addr} {n cn l cl : Nat} {xs ys : List Nat} {w : World} (hA : At w p n cn xs) (hB : At w q l cl ys) (hn : 0 < n) (hl : 0 < l) (hn8 : n ≤ 8192) (hl8 : l ≤ 8192) :
    Calls Tryz.prog 138 #[.slice p n cn, .slice q l cl] w fun e w' => ∃ p' m' zs, e = .returned (.slice p' m' m') ∧ Own w.heap.size w' p' m' zs ∧ Nf B64 zs (valB B64 xs * valB B64 ys) ∧ Below w.heap.size w w' :=
  mul_at (min n l + 1) (min n l) (by omega) p q n cn l cl xs ys w hA hB hn hl hn8 hl8 (by omega)
theorem Nf.big {us : List Nat} {a n : Nat} (h : Nf B64 us a) (hl : us.length = n) (h0 : 0 < n) : B64 ^ (n - 1) ≤ a := by
  have := mt (h.len_le (k := n - 1) B64_one).2 (by omega)
  omega
theorem mul_big (K : Nat) {us vs : List Nat} {a b n m : Nat} (hx : Nf B64 us a) (hy : Nf B64 vs b) (hl : us.length = n) (hm : vs.length = m) (h0 : 0 < n) (h1 : 0 < m) (h : K < n + m - 1) : B64 ^ K ≤ a * b := by
  refine Nat.le_trans ?_ (Nat.mul_le_mul (hx.big hl h0) (hy.big hm h1))
  rw [← Nat.pow_add]
  exact Nat.pow_le_pow_right B64_pos (by omega)
theorem mul_lim {us vs : List Nat} {a b n m : Nat} (hx : Nf B64 us a) (hy : Nf B64 vs b) (hl : us.length = n) (hm : vs.length = m) (h0 : 0 < n) (h1 : 0 < m) (h : 8192 < n + m - 1) : LIM ≤ a * b := by
  obtain ⟨K, hK⟩ : ∃ K, K = 8192 := ⟨8192, rfl⟩
  rw [LIM_eq K hK]
  exact mul_big K hx hy hl hm h0 h1 (by omega)
theorem Nf.zero {us : List Nat} {a : Nat} (h : Nf B64 us a) (hl : us.length = 0) : a = 0 := by
  obtain rfl := List.eq_nil_of_length_eq_zero hl
  have := h.val; simp [valB] at this; omega
theorem ans_zero (B : Nat) (w : World) : Ans B w (.returned (.tuple #[.slice none 0 0, .int .i64 0])) 0 :=
  .inl ⟨(Nf.nil B64).lim.1 (by simp), none, 0, [], rfl, ⟨rfl, Dig.nil _, .inl rfl⟩, Nf.nil _, by omega⟩

theorem mul_any {p q : Option Addr} {n m c d : Nat} {xs ys : List Nat} {a b : Nat} {w : World} (h : At w p n c xs) (k : At w q m d ys) (hx : Nf B64 xs a) (hy : Nf B64 ys b) (hlx : n ≤ 8192) (hly : m ≤ 8192) :
    Calls Tryz.prog 125 #[.slice p n c, .slice q m d] w fun e w' => Ans w.heap.size w' e (a * b) ∧ Below w.heap.size w w' := by
  have fx := hx.form (by rw [h.len]; exact hlx)
  have fy := hy.form (by rw [k.len]; exact hly)
  have HX : Hid (Nf B64 xs a) := hx
  have HY : Hid (Nf B64 ys b) := hy
  clear hx hy
  go_enter Tryz.func125, Tryz.ntmps125
  go_wp2_with fail
  refine (form_true h fx).mono ?_
  rintro e w' ⟨rfl, hw⟩
  obtain rfl := hw.symm
  clear hw
  go_wp2_with fail
  refine (form_true k fy).mono ?_
  rintro e w' ⟨rfl, hw⟩
  obtain rfl := hw.symm
  clear hw fx fy
  by_cases hn0 : n = 0
  · have HA : Hid (a = 0) := HX.out.zero (by rw [h.len]; exact hn0)
    subst hn0
    go_wp2_with fail
    go_ret2
    rw [HA.out, Nat.zero_mul]
    exact ⟨ans_zero _ _, Below.refl _ _⟩
  · by_cases hm0 : m = 0
    · have HA : Hid (b = 0) := HY.out.zero (by rw [k.len]; exact hm0)
      subst hm0
      go_wp2_with fail
      go_ret2
      rw [HA.out, Nat.mul_zero]
      exact ⟨ans_zero _ _, Below.refl _ _⟩
    · have hn0' : ((n : Int) == 0) = false := by simp; omega
      have hm0' : ((m : Int) == 0) = false := by simp; omega
      by_cases hbig : 8192 < n + m - 1
      · go_wp2_with fail
        go_ret2
        exact ⟨.inr ⟨mul_lim HX.out HY.out h.len k.len (by omega) (by omega) hbig, rfl⟩, Below.refl _ _⟩
      · go_wp2_with fail
        refine (mult_any h k (by omega) (by omega) hlx hly).mono ?_
        rintro e w1 ⟨p', m', zs, rfl, ho, hN, hb⟩
        rw [HX.out.val, HY.out.val] at hN
        have HV : Hid (Nf B64 zs (a * b)) := hN
        have HO : Hid (Own w.heap.size w1 p' m' zs) := ho
        have hlen : zs.length = m' := ho.1
        have HL : Hid (zs.length = m') := hlen
        clear hN ho hlen
        by_cases hle : m' ≤ 8192
        · go_wp2_with fail
          go_ret2
          exact ⟨.inl ⟨HV.out.lim.1 (by rw [HL.out]; exact hle), p', m', zs, rfl, HO.out, HV.out, hle⟩, hb⟩
        · go_wp2_with fail
          go_ret2
          refine ⟨.inr ⟨?_, rfl⟩, hb⟩
          have := mt HV.out.lim.2 (by rw [HL.out]; exact hle)
          omega
end Go.Proofs.YtmhkabomabkkfaaGreatDoor
