import Derived.Test.YtmkglkdhnbjjhaaNums
import Derived.Laws.ResultCell
namespace Go.Proofs.Ytmkglkdhnbjjhaa
open Go.RowKit Go.Shelf

/-- The whole number of a sign and a size. -/
def iv (s : Bool) (a : Nat) : Int := if s then -(a : Int) else (a : Int)
theorem iv_t (a : Nat) : iv true a = -(a : Int) := rfl
theorem iv_f (a : Nat) : iv false a = (a : Int) := rfl
/-- An api.Int as a value. -/
abbrev ZV (s : Bool) (p : Option Addr) (n c : Nat) : Value := .agg #[.bool s, .slice p n c]
/-- What a call answers whose answer is the whole number z: it, in new memory; or ErrLimit. -/
def AnsI (B : Nat) (w' : World) (e : Ending) (z : Int) : Prop :=
  (z.natAbs < LIM ∧ ∃ p m zs, e = .returned (.tuple #[ZV (decide (z < 0)) p m m, .int .i64 0]) ∧ Own B w' p m zs ∧ Nf B64 zs z.natAbs ∧ m ≤ 8192) ∨
  (LIM ≤ z.natAbs ∧ e = .returned (.tuple #[ZV false none 0 0, .int .i64 5]))
theorem AnsI.ok {B : Nat} {w' : World} {e : Ending} {z : Int} (h : AnsI B w' e z) (hz : z.natAbs < LIM) : ∃ p m zs, e = .returned (.tuple #[ZV (decide (z < 0)) p m m, .int .i64 0]) ∧ Own B w' p m zs ∧ Nf B64 zs z.natAbs ∧ m ≤ 8192 := by
  rcases h with ⟨_, h⟩ | ⟨h, _⟩
  · exact h
  · omega
theorem AnsI.no {B : Nat} {w' : World} {e : Ending} {z : Int} (h : AnsI B w' e z) (hz : LIM ≤ z.natAbs) : e = .returned (.tuple #[ZV false none 0 0, .int .i64 5]) := by
  rcases h with ⟨h, _⟩ | ⟨_, h⟩
  · omega
  · exact h
theorem Num.zero {w : World} {p : Option Addr} {m c : Nat} {xs : List Nat} {a : Nat} (h : Num w p m c xs a) : m = 0 ↔ a = 0 := by
  rw [← h.nf.zero_iff B64_one, ← h.at_.len]
  exact ⟨List.eq_nil_of_length_eq_zero, fun e => by rw [e]; rfl⟩

theorem results_cell1 {fn : Func} {p : Tmp} {ty : TypeId} (h : fn.results = #[.cell p ty]) (tmps : Array Value) (P : Program) (w : World) :
    (results fn tmps).run P w = ((asAddr (tmps.getD p undef)).run P w).andThen fun a w₁ => (loadVar ty a).run P w₁ := by
  simp only [results, h]
  simp [Sem.run_bind, Result.andThen]
theorem signed_any (s : Bool) (p : Option Addr) (m c : Nat) (w : World) :
    Calls Try.prog 27 #[.bool s, .slice p m c] w fun e w' => e = .returned (ZV (s && decide (0 < m)) p m c) ∧ Below w.heap.size w w' := by
  cases s
  · go_enter Try.func27, Try.ntmps27
    go_wp2_with fail
    refine bodyPost_ret (v := ZV false p m c) ?_ rfl ⟨rfl, below1 w _⟩
    rw [results_cell1 rfl]
    go_simp
  · by_cases h : 0 < m
    · have hd : decide ((0 : Int) < (m : Int)) = true := decide_eq_true (by omega)
      go_enter Try.func27, Try.ntmps27
      go_wp2_with fail
      refine bodyPost_ret (v := ZV true p m c) ?_ rfl ⟨by simp [h], below1 w _⟩
      rw [results_cell1 rfl]
      go_simp
    · have hd : decide ((0 : Int) < (m : Int)) = false := decide_eq_false (by omega)
      have hn : ¬ 0 < m := h
      go_enter Try.func27, Try.ntmps27
      go_wp2_with fail
      refine bodyPost_ret (v := ZV false p m c) ?_ rfl ⟨by simp [h], below1 w _⟩
      rw [results_cell1 rfl]
      go_simp
theorem Row.oth {w : World} {g off n : Nat} {xs : List Nat} (h : Row w g off n xs) (g2 o2 : Nat) (v : Value) (hne : g ≠ g2) : Row (w.setCell ⟨g2, o2, none⟩ v) g off n xs := by
  refine ⟨h.len, h.dig, fun j hj => ?_, fun j hj => by rw [World.frozen?_setCell]; exact h.frozen j hj⟩
  exact (World.cell?_setCell_other _ _ _ _ (by intro e; apply hne; have := congrArg Addr.block e; simp at this; omega)).trans (h.cell j hj)
theorem Own.setOld {B : Nat} {w : World} {p : Option Addr} {m : Nat} {zs : List Nat} (h : Own B w p m zs) (g2 o2 : Nat) (v : Value) (hlt : g2 < B) : Own B (w.setCell ⟨g2, o2, none⟩ v) p m zs := by
  refine ⟨h.len, h.dig, ?_⟩
  rcases h.mem with h0 | ⟨g, hp, hg, hr⟩
  · exact .inl h0
  · exact .inr ⟨g, hp, hg, hr.oth g2 o2 v (by omega)⟩
theorem bSet {B : Nat} {a w : World} (h : Below B a w) (g o : Nat) (v : Value) (hB : B ≤ g) : Below B a (w.setCell ⟨g, o, none⟩ v) :=
  h.trans ((Wr.refl g o 1 w).setCell o ⟨by omega, by omega⟩ v |>.below hB)
/-- Three new blocks: two arguments and the answer. -/
theorem below3 (w : World) (o1 o2 o3 : Obj) : Below w.heap.size w (((w.alloc o1).alloc o2).alloc o3) := (below2 w o1 o2).alloc (by simp; omega) o3
theorem At.alloc3 {w : World} {p : Option Addr} {n c : Nat} {xs : List Nat} (h : At w p n c xs) (o1 o2 o3 : Obj) : At (((w.alloc o1).alloc o2).alloc o3) p n c xs := ((h.alloc o1).alloc o2).alloc o3
theorem iv_abs_same (s : Bool) (a b : Nat) : (iv s a + iv s b).natAbs = a + b ∧ (decide (iv s a + iv s b < 0) = (s && decide (0 < a + b))) := by
  cases s
  · rw [iv_f, iv_f]; refine ⟨by omega, ?_⟩
    simp only [Bool.false_and, decide_eq_false_iff_not]; omega
  · rw [iv_t, iv_t]; refine ⟨by omega, ?_⟩
    simp only [Bool.true_and]; exact decide_eq_decide.2 (by omega)
theorem iv_abs_diff (s : Bool) {a b : Nat} (h : b ≤ a) : (iv s a + iv (!s) b).natAbs = a - b ∧ (decide (iv s a + iv (!s) b < 0) = (s && decide (0 < a - b))) := by
  cases s
  · rw [Bool.not_false, iv_f, iv_t]; refine ⟨by omega, ?_⟩
    simp only [Bool.false_and, decide_eq_false_iff_not]; omega
  · rw [Bool.not_true, iv_f, iv_t]; refine ⟨by omega, ?_⟩
    simp only [Bool.true_and]; exact decide_eq_decide.2 (by omega)
theorem Nf.lenpos {zs : List Nat} {n m : Nat} (h : Nf B64 zs n) (hl : zs.length = m) : decide (0 < m) = decide (0 < n) := by
  refine decide_eq_decide.2 ?_
  have := h.zero_iff B64_one
  constructor
  · intro hm
    rcases Nat.eq_zero_or_pos n with e | e
    · have := this.2 e; rw [this] at hl; simp at hl; omega
    · exact e
  · intro hn
    rcases Nat.eq_zero_or_pos m with e | e
    · have := this.1 (List.eq_nil_of_length_eq_zero (by omega)); omega
    · exact e

set_option maxRecDepth 20000 in
set_option maxHeartbeats 1000000 in
theorem sum_same {p q : Option Addr} {n m c d : Nat} {xs ys : List Nat} {a b : Nat} {w : World} (s : Bool) (h : Num w p n c xs a) (k : Num w q m d ys b) :
    Calls Try.prog 26 #[ZV s p n c, ZV s q m d] w fun e w' => AnsI w.heap.size w' e (iv s a + iv s b) ∧ Below w.heap.size w w' := by
  obtain ⟨z, hz⟩ : ∃ z, z = iv s a + iv s b := ⟨_, rfl⟩
  rw [← hz]
  have hab := iv_abs_same s a b
  rw [← hz] at hab
  have HZ : Hid (z.natAbs = a + b ∧ decide (z < 0) = (s && decide (0 < a + b))) := hab
  have H : Hid (Num w p n c xs a) := h
  have K : Hid (Num w q m d ys b) := k
  clear hz hab h k
  have hss : (s == s) = true := by simp
  go_enter Try.func26, Try.ntmps26
  go_wp2_with fail
  refine (add_ord (H.out.at_.alloc3 _ _ _) (K.out.at_.alloc3 _ _ _) H.out.nf K.out.nf H.out.le K.out.le).mono ?_
  rintro e w1 ⟨ha, hb⟩
  have hbw := Below.on (below3 w _ _ _) hb
  have cx0 : w1.cell? ⟨w.heap.size, 0, none⟩ = some (.bool s) := (hb.cell (p := ⟨w.heap.size, 0, none⟩) (by simp <;> omega)).trans (by go_simp)
  have cr0 : (w1.cell? ⟨w.heap.size + 1 + 1, 0, none⟩) = some (.bool false) := (hb.cell (p := ⟨w.heap.size + 1 + 1, 0, none⟩) (by simp <;> omega)).trans (by go_simp)
  have cr1 : (w1.cell? ⟨w.heap.size + 1 + 1, 1, none⟩) = some (.slice none 0 0) := (hb.cell (p := ⟨w.heap.size + 1 + 1, 1, none⟩) (by simp <;> omega)).trans (by go_simp)
  have fr0 : w1.frozen? ⟨w.heap.size + 1 + 1, 0, none⟩ = false := (hb.frozen (p := ⟨w.heap.size + 1 + 1, 0, none⟩) (by simp <;> omega)).trans (by go_simp)
  have fr1 : w1.frozen? ⟨w.heap.size + 1 + 1, 1, none⟩ = false := (hb.frozen (p := ⟨w.heap.size + 1 + 1, 1, none⟩) (by simp <;> omega)).trans (by go_simp)
  have hsz : w.heap.size + 1 + 1 < w1.heap.size := by have := hb.size; simp at this; omega
  clear hb
  rcases ha with ⟨hl, p1, m1, z1, rfl, ho, hn, hm⟩ | ⟨hl, rfl⟩
  · have HL : Hid (a + b < LIM) := hl
    have HN : Hid (Nf B64 z1 (a + b)) := hn
    have HOW : Hid (Own (w.heap.size + 1 + 1 + 1) w1 p1 m1 z1) := by have := ho; simp at this; exact this
    have HM : Hid (m1 ≤ 8192) := hm
    have hv : (s && decide (0 < m1)) = decide (z < 0) := by rw [HZ.out.2, hn.lenpos ho.len]
    clear hl hn ho hm
    go_wp2_with fail
    refine (signed_any s p1 m1 m1 w1).mono ?_
    rintro e w2 ⟨rfl, hb2⟩
    rw [hv]
    obtain ⟨sz, hs⟩ : ∃ sz, sz = decide (z < 0) := ⟨_, rfl⟩
    rw [← hs]
    have HSZ : Hid (sz = decide (z < 0)) := hs
    have dr0 : w2.cell? ⟨w.heap.size + 1 + 1, 0, none⟩ = some (.bool false) := (hb2.cell (p := ⟨w.heap.size + 1 + 1, 0, none⟩) hsz).trans cr0
    have dr1 : w2.cell? ⟨w.heap.size + 1 + 1, 1, none⟩ = some (.slice none 0 0) := (hb2.cell (p := ⟨w.heap.size + 1 + 1, 1, none⟩) hsz).trans cr1
    have er0 : w2.frozen? ⟨w.heap.size + 1 + 1, 0, none⟩ = false := (hb2.frozen (p := ⟨w.heap.size + 1 + 1, 0, none⟩) hsz).trans fr0
    have er1 : w2.frozen? ⟨w.heap.size + 1 + 1, 1, none⟩ = false := (hb2.frozen (p := ⟨w.heap.size + 1 + 1, 1, none⟩) hsz).trans fr1
    have HOW2 : Hid (Own (w.heap.size + 1 + 1 + 1) w2 p1 m1 z1) := HOW.out.below hb2
    have hbw2 := Below.on hbw hb2
    clear hv hs cr0 cr1 fr0 fr1 cx0 hbw hb2 hsz HOW
    go_wp2_with fail
    refine bodyPost_ret (v := .tuple #[ZV sz p1 m1 m1, .int .i64 0]) (by rw [results_cell_tmp rfl]; go_simp) rfl ⟨.inl ⟨by rw [HZ.out.1]; exact HL.out, p1, m1, z1, by rw [HSZ.out], ?_, by rw [HZ.out.1]; exact HN.out, HM.out⟩, ?_⟩
    · exact ((HOW2.out.setOld _ _ _ (by omega)).setOld _ _ _ (by omega)).mono (by omega)
    · exact bSet (bSet hbw2 _ _ _ (by omega)) _ _ _ (by omega)
  · have HL : Hid (LIM ≤ a + b) := hl
    clear hl
    go_wp2_with fail
    refine (signed_any s none 0 0 w1).mono ?_
    rintro e w2 ⟨rfl, hb2⟩
    have hv : (s && decide (0 < 0)) = false := by simp
    rw [hv]
    have dr0 : w2.cell? ⟨w.heap.size + 1 + 1, 0, none⟩ = some (.bool false) := (hb2.cell (p := ⟨w.heap.size + 1 + 1, 0, none⟩) hsz).trans cr0
    have dr1 : w2.cell? ⟨w.heap.size + 1 + 1, 1, none⟩ = some (.slice none 0 0) := (hb2.cell (p := ⟨w.heap.size + 1 + 1, 1, none⟩) hsz).trans cr1
    have er0 : w2.frozen? ⟨w.heap.size + 1 + 1, 0, none⟩ = false := (hb2.frozen (p := ⟨w.heap.size + 1 + 1, 0, none⟩) hsz).trans fr0
    have er1 : w2.frozen? ⟨w.heap.size + 1 + 1, 1, none⟩ = false := (hb2.frozen (p := ⟨w.heap.size + 1 + 1, 1, none⟩) hsz).trans fr1
    have hbw2 := Below.on hbw hb2
    clear hv cr0 cr1 fr0 fr1 cx0 hbw hb2 hsz
    go_wp2_with fail
    refine bodyPost_ret (v := .tuple #[ZV false none 0 0, .int .i64 5]) (by rw [results_cell_tmp rfl]; go_simp) rfl ⟨.inr ⟨by rw [HZ.out.1]; exact HL.out, rfl⟩, ?_⟩
    exact bSet (bSet hbw2 _ _ _ (by omega)) _ _ _ (by omega)

theorem sub_okN {p q : Option Addr} {n m c d : Nat} {xs ys : List Nat} {a b : Nat} {w : World} (h : At w p n c xs) (k : At w q m d ys) (hx : Nf B64 xs a) (hy : Nf B64 ys b) (hn : n ≤ 8192) (hm : m ≤ 8192) (hle : b ≤ a) :
    Calls Try.prog 34 #[.slice p n c, .slice q m d] w fun e w' => (∃ p m zs, e = .returned (.tuple #[.slice p m m, .int .i64 0]) ∧ Own w.heap.size w' p m zs ∧ Nf B64 zs (a - b) ∧ m ≤ 8192) ∧ Below w.heap.size w w' := by
  refine (sub_nf h k hx hy hn hm).mono ?_
  rintro e w' ⟨h1 | h1, hb⟩
  · exact ⟨h1.2, hb⟩
  · exact absurd h1.1 (by omega)
theorem cmp_wN {p q : Option Addr} {n m c d : Nat} {xs ys : List Nat} {a b : Nat} {w : World} (h : At w p n c xs) (k : At w q m d ys) (hx : Nf B64 xs a) (hy : Nf B64 ys b) :
    Calls Try.prog 35 #[.slice p n c, .slice q m d] w fun e w' => e = .returned (.int .i64 (cmpN a b)) ∧ ∃ r, w' = w.drewN r := by
  have := cmp_any h k
  rw [hx.val, hy.val] at this; exact this

set_option maxRecDepth 20000 in
set_option maxHeartbeats 1000000 in
theorem sum_ge {p q : Option Addr} {n m c d : Nat} {xs ys : List Nat} {a b : Nat} {w : World} (s : Bool) (h : Num w p n c xs a) (k : Num w q m d ys b) (hle : b ≤ a) :
    Calls Try.prog 26 #[ZV s p n c, ZV (!s) q m d] w fun e w' => AnsI w.heap.size w' e (iv s a + iv (!s) b) ∧ Below w.heap.size w w' := by
  obtain ⟨z, hz⟩ : ∃ z, z = iv s a + iv (!s) b := ⟨_, rfl⟩
  rw [← hz]
  have hab := iv_abs_diff s hle
  rw [← hz] at hab
  have HZ : Hid (z.natAbs = a - b ∧ decide (z < 0) = (s && decide (0 < a - b))) := hab
  have H : Hid (Num w p n c xs a) := h
  have K : Hid (Num w q m d ys b) := k
  have HLE : Hid (b ≤ a) := hle
  have HL : Hid (a - b < LIM) := Nat.lt_of_le_of_lt (Nat.sub_le _ _) h.lim
  have hss : (s == !s) = false := by cases s <;> rfl
  obtain ⟨cc, hcc⟩ : ∃ cc, cc = cmpN a b := ⟨_, rfl⟩
  have hcn : decide (cc < 0) = false := decide_eq_false (by rw [hcc, cmpN_neg]; omega)
  have HCC : Hid (cc = cmpN a b) := hcc
  clear hz hab h k hle hcc
  go_enter Try.func26, Try.ntmps26
  go_wp2_with fail
  refine (cmp_wN (H.out.at_.alloc3 _ _ _) (K.out.at_.alloc3 _ _ _) H.out.nf K.out.nf).mono ?_
  rintro e w2 ⟨rfl, r2, rfl⟩
  rw [← HCC.out]
  go_wp2_with fail
  refine (sub_okN ((H.out.at_.alloc3 _ _ _).drewN r2) ((K.out.at_.alloc3 _ _ _).drewN r2) H.out.nf K.out.nf H.out.le K.out.le HLE.out).mono ?_
  rintro e w3 ⟨⟨p1, m1, z1, rfl, ho, hn, hm⟩, hb3⟩
  have hbw3 := Below.on (bDrewN (below3 w _ _ _) r2) hb3
  have cx0 : w3.cell? ⟨w.heap.size, 0, none⟩ = some (.bool s) := (hb3.cell (p := ⟨w.heap.size, 0, none⟩) (by simp <;> omega)).trans (by go_simp)
  have cr0 : w3.cell? ⟨w.heap.size + 1 + 1, 0, none⟩ = some (.bool false) := (hb3.cell (p := ⟨w.heap.size + 1 + 1, 0, none⟩) (by simp <;> omega)).trans (by go_simp)
  have cr1 : w3.cell? ⟨w.heap.size + 1 + 1, 1, none⟩ = some (.slice none 0 0) := (hb3.cell (p := ⟨w.heap.size + 1 + 1, 1, none⟩) (by simp <;> omega)).trans (by go_simp)
  have fr0 : w3.frozen? ⟨w.heap.size + 1 + 1, 0, none⟩ = false := (hb3.frozen (p := ⟨w.heap.size + 1 + 1, 0, none⟩) (by simp <;> omega)).trans (by go_simp)
  have fr1 : w3.frozen? ⟨w.heap.size + 1 + 1, 1, none⟩ = false := (hb3.frozen (p := ⟨w.heap.size + 1 + 1, 1, none⟩) (by simp <;> omega)).trans (by go_simp)
  have hsz : w.heap.size + 1 + 1 < w3.heap.size := by have := hb3.size; simp at this; omega
  have HN : Hid (Nf B64 z1 (a - b)) := hn
  have HOW : Hid (Own (w.heap.size + 1 + 1 + 1) w3 p1 m1 z1) := ho.mono (by simp)
  have HM : Hid (m1 ≤ 8192) := hm
  have hv : (s && decide (0 < m1)) = decide (z < 0) := by rw [HZ.out.2, hn.lenpos ho.len]
  clear hn ho hm hb3
  go_wp2_with fail
  refine (signed_any s p1 m1 m1 w3).mono ?_
  rintro e w4 ⟨rfl, hb4⟩
  rw [hv]
  obtain ⟨sz, hs⟩ : ∃ sz, sz = decide (z < 0) := ⟨_, rfl⟩
  rw [← hs]
  have HSZ : Hid (sz = decide (z < 0)) := hs
  have dr0 : w4.cell? ⟨w.heap.size + 1 + 1, 0, none⟩ = some (.bool false) := (hb4.cell (p := ⟨w.heap.size + 1 + 1, 0, none⟩) hsz).trans cr0
  have dr1 : w4.cell? ⟨w.heap.size + 1 + 1, 1, none⟩ = some (.slice none 0 0) := (hb4.cell (p := ⟨w.heap.size + 1 + 1, 1, none⟩) hsz).trans cr1
  have er0 : w4.frozen? ⟨w.heap.size + 1 + 1, 0, none⟩ = false := (hb4.frozen (p := ⟨w.heap.size + 1 + 1, 0, none⟩) hsz).trans fr0
  have er1 : w4.frozen? ⟨w.heap.size + 1 + 1, 1, none⟩ = false := (hb4.frozen (p := ⟨w.heap.size + 1 + 1, 1, none⟩) hsz).trans fr1
  have HOW2 : Hid (Own (w.heap.size + 1 + 1 + 1) w4 p1 m1 z1) := HOW.out.below hb4
  have hbw4 := Below.on hbw3 hb4
  clear hv hs cr0 cr1 fr0 fr1 cx0 hbw3 hb4 hsz HOW
  go_wp2_with fail
  refine bodyPost_ret (v := .tuple #[ZV sz p1 m1 m1, .int .i64 0]) (by rw [results_cell_tmp rfl]; go_simp) rfl ⟨.inl ⟨by rw [HZ.out.1]; exact HL.out, p1, m1, z1, by rw [HSZ.out], ?_, by rw [HZ.out.1]; exact HN.out, HM.out⟩, ?_⟩
  · exact ((HOW2.out.setOld _ _ _ (by omega)).setOld _ _ _ (by omega)).mono (by omega)
  · exact bSet (bSet hbw4 _ _ _ (by omega)) _ _ _ (by omega)

set_option maxRecDepth 20000 in
set_option maxHeartbeats 1000000 in
theorem sum_lt {p q : Option Addr} {n m c d : Nat} {xs ys : List Nat} {a b : Nat} {w : World} (s : Bool) (h : Num w p n c xs a) (k : Num w q m d ys b) (hlt : a < b) :
    Calls Try.prog 26 #[ZV s p n c, ZV (!s) q m d] w fun e w' => AnsI w.heap.size w' e (iv s a + iv (!s) b) ∧ Below w.heap.size w w' := by
  obtain ⟨z, hz⟩ : ∃ z, z = iv s a + iv (!s) b := ⟨_, rfl⟩
  rw [← hz]
  obtain ⟨t, ht⟩ : ∃ t, t = !s := ⟨_, rfl⟩
  have hst : s = !t := by rw [ht]; simp
  have hab := iv_abs_diff t (Nat.le_of_lt hlt)
  rw [← hst, ht, Int.add_comm, ← hz, ← ht] at hab
  rw [← ht]
  have HZ : Hid (z.natAbs = b - a ∧ decide (z < 0) = (t && decide (0 < b - a))) := hab
  have H : Hid (Num w p n c xs a) := h
  have K : Hid (Num w q m d ys b) := k
  have HLE : Hid (a ≤ b) := Nat.le_of_lt hlt
  have hss : (s == t) = false := by rw [ht]; cases s <;> rfl
  have HCC : Hid (cmpN a b = -1) := cmpN_lt hlt
  clear hz hab h k hlt ht hst
  go_enter Try.func26, Try.ntmps26
  go_wp2_with fail
  refine (cmp_wN (H.out.at_.alloc3 _ _ _) (K.out.at_.alloc3 _ _ _) H.out.nf K.out.nf).mono ?_
  rintro e w2 ⟨rfl, r2, hw2⟩
  rw [HCC.out]
  have c00 : w2.cell? ⟨w.heap.size, 0, none⟩ = some (.bool s) := by rw [hw2]; go_simp
  have c01 : w2.cell? ⟨w.heap.size, 1, none⟩ = some (.slice p n c) := by rw [hw2]; go_simp
  have c10 : w2.cell? ⟨w.heap.size + 1, 0, none⟩ = some (.bool t) := by rw [hw2]; go_simp
  have c11 : w2.cell? ⟨w.heap.size + 1, 1, none⟩ = some (.slice q m d) := by rw [hw2]; go_simp
  have c20 : w2.cell? ⟨w.heap.size + 1 + 1, 0, none⟩ = some (.bool false) := by rw [hw2]; go_simp
  have c21 : w2.cell? ⟨w.heap.size + 1 + 1, 1, none⟩ = some (.slice none 0 0) := by rw [hw2]; go_simp
  have f00 : w2.frozen? ⟨w.heap.size, 0, none⟩ = false := by rw [hw2]; go_simp
  have f01 : w2.frozen? ⟨w.heap.size, 1, none⟩ = false := by rw [hw2]; go_simp
  have f10 : w2.frozen? ⟨w.heap.size + 1, 0, none⟩ = false := by rw [hw2]; go_simp
  have f11 : w2.frozen? ⟨w.heap.size + 1, 1, none⟩ = false := by rw [hw2]; go_simp
  have f20 : w2.frozen? ⟨w.heap.size + 1 + 1, 0, none⟩ = false := by rw [hw2]; go_simp
  have f21 : w2.frozen? ⟨w.heap.size + 1 + 1, 1, none⟩ = false := by rw [hw2]; go_simp
  have hb2 : Below w.heap.size w w2 := by rw [hw2]; exact bDrewN (below3 w _ _ _) r2
  have hs2 : w2.heap.size = w.heap.size + 1 + 1 + 1 := by rw [hw2]; simp
  have HS2 : Hid (w2.heap.size = w.heap.size + 1 + 1 + 1) := hs2
  have HB2 : Hid (Below w.heap.size w w2) := hb2
  clear hw2 hb2 hs2
  obtain ⟨hs, ehs⟩ : ∃ hs, hs = w.heap.size := ⟨_, rfl⟩
  have HHS : Hid (hs = w.heap.size) := ehs
  rw [← ehs] at c00 c01 c10 c11 c20 c21 f00 f01 f10 f11 f20 f21 HS2 HB2 ⊢
  clear ehs
  go_wp2_with fail
  have hbw4 := bSet (bSet (bSet (bSet HB2.out hs 0 (.bool t) (Nat.le_refl _)) hs 1 (.slice q m d) (Nat.le_refl _)) (hs + 1) 0 (.bool s) (by omega)) (hs + 1) 1 (.slice p n c) (by omega)
  have hsz4 : ((((w2.setCell ⟨hs, 0, none⟩ (.bool t)).setCell ⟨hs, 1, none⟩ (.slice q m d)).setCell ⟨hs + 1, 0, none⟩ (.bool s)).setCell ⟨hs + 1, 1, none⟩ (.slice p n c)).heap.size = hs + 1 + 1 + 1 := by simp [World.setCell]; exact HS2.out
  have d00 : ((((w2.setCell ⟨hs, 0, none⟩ (.bool t)).setCell ⟨hs, 1, none⟩ (.slice q m d)).setCell ⟨hs + 1, 0, none⟩ (.bool s)).setCell ⟨hs + 1, 1, none⟩ (.slice p n c)).cell? ⟨hs, 0, none⟩ = some (.bool t) := by go_simp
  have d20 : ((((w2.setCell ⟨hs, 0, none⟩ (.bool t)).setCell ⟨hs, 1, none⟩ (.slice q m d)).setCell ⟨hs + 1, 0, none⟩ (.bool s)).setCell ⟨hs + 1, 1, none⟩ (.slice p n c)).cell? ⟨hs + 1 + 1, 0, none⟩ = some (.bool false) := by go_simp
  have d21 : ((((w2.setCell ⟨hs, 0, none⟩ (.bool t)).setCell ⟨hs, 1, none⟩ (.slice q m d)).setCell ⟨hs + 1, 0, none⟩ (.bool s)).setCell ⟨hs + 1, 1, none⟩ (.slice p n c)).cell? ⟨hs + 1 + 1, 1, none⟩ = some (.slice none 0 0) := by go_simp
  have g20 : ((((w2.setCell ⟨hs, 0, none⟩ (.bool t)).setCell ⟨hs, 1, none⟩ (.slice q m d)).setCell ⟨hs + 1, 0, none⟩ (.bool s)).setCell ⟨hs + 1, 1, none⟩ (.slice p n c)).frozen? ⟨hs + 1 + 1, 0, none⟩ = false := by go_simp
  have g21 : ((((w2.setCell ⟨hs, 0, none⟩ (.bool t)).setCell ⟨hs, 1, none⟩ (.slice q m d)).setCell ⟨hs + 1, 0, none⟩ (.bool s)).setCell ⟨hs + 1, 1, none⟩ (.slice p n c)).frozen? ⟨hs + 1 + 1, 1, none⟩ = false := by go_simp
  generalize ((((w2.setCell ⟨hs, 0, none⟩ (.bool t)).setCell ⟨hs, 1, none⟩ (.slice q m d)).setCell ⟨hs + 1, 0, none⟩ (.bool s)).setCell ⟨hs + 1, 1, none⟩ (.slice p n c)) = W4 at *
  rw [HHS.out] at hbw4
  refine (sub_okN (K.out.at_.below hbw4) (H.out.at_.below hbw4) K.out.nf H.out.nf K.out.le H.out.le HLE.out).mono ?_
  rintro e w3 ⟨⟨p1, m1, z1, rfl, ho, hn, hm⟩, hb3⟩
  have hbw3 := Below.on hbw4 hb3
  have cx0 : w3.cell? ⟨hs, 0, none⟩ = some (.bool t) := (hb3.cell (p := ⟨hs, 0, none⟩) (by simp; omega)).trans d00
  have cr0 : w3.cell? ⟨hs + 1 + 1, 0, none⟩ = some (.bool false) := (hb3.cell (p := ⟨hs + 1 + 1, 0, none⟩) (by simp; omega)).trans d20
  have cr1 : w3.cell? ⟨hs + 1 + 1, 1, none⟩ = some (.slice none 0 0) := (hb3.cell (p := ⟨hs + 1 + 1, 1, none⟩) (by simp; omega)).trans d21
  have fr0 : w3.frozen? ⟨hs + 1 + 1, 0, none⟩ = false := (hb3.frozen (p := ⟨hs + 1 + 1, 0, none⟩) (by simp; omega)).trans g20
  have fr1 : w3.frozen? ⟨hs + 1 + 1, 1, none⟩ = false := (hb3.frozen (p := ⟨hs + 1 + 1, 1, none⟩) (by simp; omega)).trans g21
  have hsz : hs + 1 + 1 < w3.heap.size := by have := hb3.size; omega
  have HN : Hid (Nf B64 z1 (b - a)) := hn
  have HOW : Hid (Own (hs + 1 + 1 + 1) w3 p1 m1 z1) := ho.mono (by omega)
  have HM : Hid (m1 ≤ 8192) := hm
  have hv : (t && decide (0 < m1)) = decide (z < 0) := by rw [HZ.out.2, hn.lenpos ho.len]
  clear hn ho hm hb3 d00 d20 d21 g20 g21 c00 c01 c10 c11 c20 c21 f00 f01 f10 f11 f20 f21 hsz4 hbw4
  go_wp2_with fail
  refine (signed_any t p1 m1 m1 w3).mono ?_
  rintro e w4 ⟨rfl, hb4⟩
  rw [hv]
  obtain ⟨sz, hss2⟩ : ∃ sz, sz = decide (z < 0) := ⟨_, rfl⟩
  rw [← hss2]
  have HSZ : Hid (sz = decide (z < 0)) := hss2
  have dr0 : w4.cell? ⟨hs + 1 + 1, 0, none⟩ = some (.bool false) := (hb4.cell (p := ⟨hs + 1 + 1, 0, none⟩) hsz).trans cr0
  have dr1 : w4.cell? ⟨hs + 1 + 1, 1, none⟩ = some (.slice none 0 0) := (hb4.cell (p := ⟨hs + 1 + 1, 1, none⟩) hsz).trans cr1
  have er0 : w4.frozen? ⟨hs + 1 + 1, 0, none⟩ = false := (hb4.frozen (p := ⟨hs + 1 + 1, 0, none⟩) hsz).trans fr0
  have er1 : w4.frozen? ⟨hs + 1 + 1, 1, none⟩ = false := (hb4.frozen (p := ⟨hs + 1 + 1, 1, none⟩) hsz).trans fr1
  have HOW2 : Hid (Own (hs + 1 + 1 + 1) w4 p1 m1 z1) := HOW.out.below hb4
  have hbz := Below.on hbw3 hb4
  clear hv hss2 cr0 cr1 fr0 fr1 cx0 hbw3 hb4 hsz HOW
  go_wp2_with fail
  refine bodyPost_ret (v := .tuple #[ZV sz p1 m1 m1, .int .i64 0]) (by rw [results_cell_tmp rfl]; go_simp) rfl ⟨.inl ⟨by rw [HZ.out.1]; exact Nat.lt_of_le_of_lt (Nat.sub_le _ _) K.out.lim, p1, m1, z1, by rw [HSZ.out], ?_, by rw [HZ.out.1]; exact HN.out, HM.out⟩, ?_⟩
  · exact ((HOW2.out.setOld _ _ _ (by omega)).setOld _ _ _ (by omega)).mono (by have := HHS.out; omega)
  · exact bSet (bSet hbz _ _ _ (by have := HHS.out; omega)) _ _ _ (by have := HHS.out; omega)
/-- num.sum, of sizes in form, with whatever signs. -/
theorem sum_any {p q : Option Addr} {n m c d : Nat} {xs ys : List Nat} {a b : Nat} {w : World} (s t : Bool) (h : Num w p n c xs a) (k : Num w q m d ys b) :
    Calls Try.prog 26 #[ZV s p n c, ZV t q m d] w fun e w' => AnsI w.heap.size w' e (iv s a + iv t b) ∧ Below w.heap.size w w' := by
  by_cases e : s = t
  · subst e; exact sum_same s h k
  · obtain rfl : t = !s := by revert e; cases s <;> cases t <;> simp
    rcases Nat.lt_or_ge a b with hl | hl
    · exact sum_lt s h k hl
    · exact sum_ge s h k hl
end Go.Proofs.Ytmkglkdhnbjjhaa
