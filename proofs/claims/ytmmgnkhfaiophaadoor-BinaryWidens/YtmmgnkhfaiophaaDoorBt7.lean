import Derived.Deep.LoopGhost
import Derived.Test.YtmmgnkhfaiophaaDoorBrW
namespace Go.Proofs.YtmmgnkhfaiophaaDoor
open Go.RowKit Go.Shelf

/-- One call of a script of layer 7. -/
abbrev OV (k f : Int) (b : Nat) (neg : Bool) (n : Int) : Value := .agg #[.int .i64 k, .int .i64 f, U b, .bool neg, .int .i64 n]
/-- One call of a script of layer 7, read. -/
structure Op7 where
  k : Int
  f : Int
  b : Nat
  neg : Bool
  n : Int
/-- A script of layer 7 where it lies in memory. -/
structure Scr7 (w : World) (P : Option Addr) (N C : Nat) (its : List Op7) : Prop where
  len : its.length = N
  cap : N ≤ C
  big : C ≤ maxLen
  ats : ∀ t ∈ its, t.b < B64 ∧ -9223372036854775808 ≤ t.n ∧ t.n ≤ 9223372036854775807
  cells : N = 0 ∨ ∃ g off, P = some ⟨g, off, none⟩ ∧ ∀ i (h : i < its.length), w.cell? ⟨g, off + i * 5, none⟩ = some (.int .i64 its[i].k) ∧ w.cell? ⟨g, off + i * 5 + 1, none⟩ = some (.int .i64 its[i].f) ∧
    w.cell? ⟨g, off + i * 5 + 2, none⟩ = some (U its[i].b) ∧ w.cell? ⟨g, off + i * 5 + 3, none⟩ = some (.bool its[i].neg) ∧ w.cell? ⟨g, off + i * 5 + 4, none⟩ = some (.int .i64 its[i].n)
theorem Scr7.below {w w' : World} {P : Option Addr} {N C : Nat} {its : List Op7} (h : Scr7 w P N C its) (hb : Below w.heap.size w w') : Scr7 w' P N C its := by
  refine ⟨h.len, h.cap, h.big, h.ats, ?_⟩
  rcases h.cells with h0 | ⟨g, off, hP, hc⟩
  · exact .inl h0
  · refine .inr ⟨g, off, hP, fun i hi => ?_⟩
    obtain ⟨h0, h1, h2, h3, h4⟩ := hc i hi
    have hl : g < w.heap.size := World.block_lt_of_cell? w _ h0
    exact ⟨(hb.cell (p := ⟨g, off + i * 5, none⟩) hl).trans h0, (hb.cell (p := ⟨g, off + i * 5 + 1, none⟩) hl).trans h1, (hb.cell (p := ⟨g, off + i * 5 + 2, none⟩) hl).trans h2,
      (hb.cell (p := ⟨g, off + i * 5 + 3, none⟩) hl).trans h3, (hb.cell (p := ⟨g, off + i * 5 + 4, none⟩) hl).trans h4⟩
/-- The kinds that are asked. -/
structure Kds (w : World) (g : Nat) (ks : List Int) : Prop where
  c : ∀ j (h : j < ks.length), w.cell? ⟨g, j, none⟩ = some (.int .i64 ks[j])
  lt : g < w.heap.size
theorem Kds.below {w w' : World} {g : Nat} {ks : List Int} (h : Kds w g ks) (hb : Below w.heap.size w w') : Kds w' g ks :=
  ⟨fun j hj => (hb.cell (p := ⟨g, j, none⟩) h.lt).trans (h.c j hj), Nat.lt_of_lt_of_le h.lt hb.size⟩

set_option maxRecDepth 20000 in
set_option maxHeartbeats 8000000 in
/-- gnomonlaw07.all, of kinds each of which plays well. -/
theorem all7T {P : Option Addr} {N C : Nat} {its : List Op7} {w : World} {gq K : Nat} {ks : List Int} (h : Scr7 w P N C its) (hk : Kds w gq ks) (hK : ks.length = K) (hK9 : K ≤ 100) (hT : qTab w)
    (hp : ∀ k ∈ ks, ∀ (f : Int) (b : Nat) (neg : Bool) (n : Int) (w : World), qTab w → b < B64 → -9223372036854775808 ≤ n → n ≤ 9223372036854775807 → Calls Tryd.prog 16 #[OV k f b neg n] w fun e w' => e = .returned (.bool true) ∧ Below w.heap.size w w') :
    Calls Tryd.prog 6 #[.slice P N C, .slice (some ⟨gq, 0, none⟩) K K] w fun e w' => e = .returned (.bool true) ∧ Below w.heap.size w w' := by
  have H : Hid (Scr7 w P N C its) := h
  have HK : Hid (Kds w gq ks) := hk
  have HKL : Hid (ks.length = K) := hK
  have HT : Hid (qTab w) := hT
  have HP : Hid (∀ k ∈ ks, ∀ (f : Int) (b : Nat) (neg : Bool) (n : Int) (w : World), qTab w → b < B64 → -9223372036854775808 ≤ n → n ≤ 9223372036854775807 → Calls Tryd.prog 16 #[OV k f b neg n] w fun e w' => e = .returned (.bool true) ∧ Below w.heap.size w w') := hp
  have HLN : Hid (its.length = N) := h.len
  have cap := h.cap; have big := h.big
  unfold maxLen at big
  clear h hk hK hp hT
  go_enter Tryd.func6, Tryd.ntmps6
  go_wp2_with fail
  go_loopg [11] N (fun gg iv wr => ∃ k : Nat, k + gg = N ∧ iv = .int .i64 k ∧ Below w.heap.size w wr)
  case atStart => exact ⟨0, by omega, rfl, Below.refl _ _⟩
  case round =>
    obtain ⟨k, hkg, rfl, hbw⟩ := hrel
    cases gk with
    | zero =>
      obtain rfl : k = N := by omega
      have hnk : ¬ (k : Int) < (k : Int) := by omega
      go_wp2_with fail
      go_ret
      exact ⟨rfl, hbw⟩
    | succ gg =>
      have hki : k < its.length := by rw [HLN.out]; omega
      have HR := H.out.below hbw
      have HKR : Hid (Kds wr gq ks) := HK.out.below hbw
      obtain ⟨g, off, rfl, hc⟩ := HR.cells.resolve_left (by omega)
      obtain ⟨e0, e1, e2, e3, e4⟩ := hc k hki
      obtain ⟨hb9, hn1, hn2⟩ := HR.ats its[k] (List.getElem_mem hki)
      have HB9 : Hid (its[k].b < B64) := hb9
      have HN1 : Hid (-9223372036854775808 ≤ its[k].n) := hn1
      have HN2 : Hid (its[k].n ≤ 9223372036854775807) := hn2
      have HBW : Hid (Below w.heap.size w wr) := hbw
      have hkk : (k : Int) < (N : Int) := by omega
      have hlt : g < wr.heap.size := World.block_lt_of_cell? wr _ e0
      clear hc HR hb9 hn1 hn2 hbw
      generalize its[k].k = kd at *
      generalize its[k].f = f at *
      generalize its[k].b = b at *
      generalize its[k].neg = neg at *
      generalize its[k].n = n at *
      go_wp2_with fail
      clear e0 e1 e2 e3 e4 hlt
      have Y := B5q.new wr 49 (.int .i64 kd) (.int .i64 f) (U b) (.bool neg) (.int .i64 n)
      have hb0 := bwAlloc wr (.cells #[.int .i64 kd, .int .i64 f, U b, .bool neg, .int .i64 n] 49)
      generalize wr.alloc (.cells #[.int .i64 kd, .int .i64 f, U b, .bool neg, .int .i64 n] 49) = Wo at *
      obtain ⟨go, hgo⟩ : ∃ go, go = wr.heap.size := ⟨_, rfl⟩
      rw [← hgo] at Y ⊢
      clear hgo
      have HY : Hid (B5q Wo go (.int .i64 kd) (.int .i64 f) (U b) (.bool neg) (.int .i64 n)) := Y
      have HKO : Hid (Kds Wo gq ks) := HKR.out.below hb0
      have HBO : Hid (Below w.heap.size w Wo) := bwOn HBW.out hb0
      clear Y hb0 HKR HBW
      go_loopg [17] K (fun gk iv wr => ∃ j : Nat, j + gk = K ∧ iv = .int .i64 j ∧ Below Wo.heap.size Wo wr)
      case atStart => exact ⟨0, by omega, rfl, Below.refl _ _⟩
      case round =>
        obtain ⟨j, hjg, rfl, hbz⟩ := hrel
        cases gk with
        | zero =>
          obtain rfl : j = K := by omega
          have hnj : ¬ (j : Int) < (j : Int) := by omega
          have hbw2 := bwOn HBO.out hbz
          clear hbz
          go_wp2_with fail
          go_roundg gg
          case measure => omega
          case rel => exact ⟨k + 1, by omega, by go_num, hbw2⟩
        | succ g2 =>
          have hjl : j < ks.length := by rw [HKL.out]; omega
          have hjj : (j : Int) < (K : Int) := by omega
          have hkc := (HKO.out.below hbz).c j hjl
          have HPK : Hid (ks[j] ∈ ks) := List.getElem_mem hjl
          obtain ⟨y0, y1, y2, y3, y4, y5, y6, y7, y8, y9⟩ := HY.out.below hbz
          have HBZ : Hid (Below Wo.heap.size Wo wr) := hbz
          have HTR : Hid (qTab wr) := HT.out.below (bwOn HBO.out hbz)
          generalize ks[j] = kv at *
          have hwj : IntKind.i64.wrap (j : Int) = (j : Int) := by simp [IntKind.wrap, IntKind.signed, IntKind.bits]; omega
          clear hjl hbz
          by_cases hkv : kd = kv
          · subst hkv
            have hkb : (kd == kd) = true := by simp
            go_wp2_with fail
            refine (HP.out kd HPK.out f b neg n _ HTR.out HB9.out HN1.out HN2.out).mono ?_
            rintro e wz ⟨rfl, hbq⟩
            have hbz2 := bwOn HBZ.out hbq
            clear hbq hkc y0 y1 y2 y3 y4 y5 y6 y7 y8 y9
            go_wp2_with fail
            go_roundg g2
            case measure => omega
            case rel => exact ⟨j + 1, by omega, by go_num, hbz2⟩
          · have hkb : (kd == kv) = false := by simp [hkv]
            go_wp2_with fail
            go_roundg g2
            case measure => omega
            case rel => exact ⟨j + 1, by omega, by go_num, HBZ.out⟩
set_option maxRecDepth 20000 in
set_option maxHeartbeats 2000000 in
theorem patt11 {f : Int} {b : Nat} {neg : Bool} {n v er : Int} (h : ∀ w, qTab w → Calls Tryd.prog 5 #[U b] w fun e w' => e = .returned (.tuple #[.int .u64 v, .int .i64 er]) ∧ Below w.heap.size w w') (w : World) (hT : qTab w) : Calls Tryd.prog 40 #[OV 11 f b neg n] w fun e w' => e = .returned (.tuple #[.int .u64 v, .int .i64 er]) ∧ Below w.heap.size w w' := by
  have H : Hid (∀ w, qTab w → Calls Tryd.prog 5 #[U b] w fun e w' => e = .returned (.tuple #[.int .u64 v, .int .i64 er]) ∧ Below w.heap.size w w') := h
  have HT : Hid (qTab w) := hT
  clear h hT
  go_enter Tryd.func40, Tryd.ntmps40
  go_wp2_with fail
  refine (H.out _ (HT.out.below (bwAlloc w _))).mono ?_
  rintro e w1 ⟨rfl, hb1⟩
  have hbw := bwOn (bwAlloc w _) hb1
  clear hb1
  go_wp2_with fail
  go_ret2
  exact ⟨rfl, hbw⟩
set_option maxRecDepth 20000 in
set_option maxHeartbeats 2000000 in
theorem docpatt11 {f : Int} {b : Nat} {neg : Bool} {n v er : Int} (h : ∀ w, Calls Tryd.prog 63 #[U b] w fun e w' => e = .returned (.tuple #[.int .u64 v, .int .i64 er]) ∧ Below w.heap.size w w') (w : World) : Calls Tryd.prog 41 #[OV 11 f b neg n] w fun e w' => e = .returned (.tuple #[.int .u64 v, .int .i64 er]) ∧ Below w.heap.size w w' := by
  have H : Hid (∀ w, Calls Tryd.prog 63 #[U b] w fun e w' => e = .returned (.tuple #[.int .u64 v, .int .i64 er]) ∧ Below w.heap.size w w') := h
  skip
  clear h
  go_enter Tryd.func41, Tryd.ntmps41
  go_wp2_with fail
  refine (H.out _).mono ?_
  rintro e w1 ⟨rfl, hb1⟩
  have hbw := bwOn (bwAlloc w _) hb1
  clear hb1
  go_wp2_with fail
  go_ret2
  exact ⟨rfl, hbw⟩
theorem widen_all (b : Nat) (hb9 : b < B64) : ∃ v er : Int, (∀ w, qTab w → Calls Tryd.prog 5 #[U b] w fun e w' => e = .returned (.tuple #[.int .u64 v, .int .i64 er]) ∧ Below w.heap.size w w') ∧
    (∀ w, Calls Tryd.prog 63 #[U b] w fun e w' => e = .returned (.tuple #[.int .u64 v, .int .i64 er]) ∧ Below w.heap.size w w') := by
  by_cases hg : 4294967296 ≤ b
  · exact ⟨0, 2, fun w _ => widen_big b hb9 hg w, fun w => docwiden_big b hb9 hg w⟩
  · have hb : b < 4294967296 := by omega
    rcases Nat.lt_trichotomy (b % 2147483648) 2139095040 with h | h | h
    · exact ⟨_, 0, fun w hT => widen_fin b hb w h hT, fun w => docwiden_fin b hb h w⟩
    · exact ⟨_, 0, fun w _ => widen_inf b hb w h, fun w => docwiden_inf b hb h w⟩
    · exact ⟨_, 0, fun w _ => widen_nan b hb w h, fun w => docwiden_nan b hb h w⟩
set_option maxRecDepth 20000 in
set_option maxHeartbeats 4000000 in
theorem bplays_11 {f : Int} {b : Nat} {neg : Bool} {n : Int} (hb9 : b < B64) (w : World) (hT : qTab w) : Calls Tryd.prog 16 #[OV 11 f b neg n] w fun e w' => e = .returned (.bool true) ∧ Below w.heap.size w w' := by
  obtain ⟨v, er, h1, h2⟩ := widen_all b hb9
  have H1 : Hid (∀ w, qTab w → Calls Tryd.prog 5 #[U b] w fun e w' => e = .returned (.tuple #[.int .u64 v, .int .i64 er]) ∧ Below w.heap.size w w') := h1
  have H2 : Hid (∀ w, Calls Tryd.prog 63 #[U b] w fun e w' => e = .returned (.tuple #[.int .u64 v, .int .i64 er]) ∧ Below w.heap.size w w') := h2
  have HT : Hid (qTab w) := hT
  have hv : (v == v) = true := by simp
  have he : (er == er) = true := by simp
  clear h1 h2 hb9 hT
  go_enter Tryd.func16, Tryd.ntmps16
  go_wp2_with fail
  have Y := B5q.new w 49 (.int .i64 11) (.int .i64 f) (U b) (.bool neg) (.int .i64 n)
  have hb0 := bwAlloc w (.cells #[.int .i64 11, .int .i64 f, U b, .bool neg, .int .i64 n] 49)
  have HTW : Hid (qTab (w.alloc (.cells #[.int .i64 11, .int .i64 f, U b, .bool neg, .int .i64 n] 49))) := HT.out.below hb0
  generalize w.alloc (.cells #[.int .i64 11, .int .i64 f, U b, .bool neg, .int .i64 n] 49) = W at *
  obtain ⟨g, hg⟩ : ∃ g, g = w.heap.size := ⟨_, rfl⟩
  rw [← hg] at Y ⊢
  clear hg
  refine (patt11 H1.out _ HTW.out).mono ?_
  rintro e w1 ⟨rfl, hb1⟩
  have Y1 : Hid (B5q w1 g (.int .i64 11) (.int .i64 f) (U b) (.bool neg) (.int .i64 n)) := Y.below hb1
  have HB1 : Hid (Below w.heap.size w w1) := bwOn hb0 hb1
  clear Y hb0 hb1 HTW
  obtain ⟨y0, y1, y2, y3, y4, y5, y6, y7, y8, y9⟩ := Y1.out
  go_wp2_with fail
  refine (docpatt11 H2.out _).mono ?_
  rintro e w2 ⟨rfl, hb2⟩
  have HB2 : Hid (Below w.heap.size w w2) := bwOn HB1.out hb2
  clear hb2 y0 y1 y2 y3 y4 y5 y6 y7 y8 y9
  go_wp2_with fail
  go_ret
  exact ⟨rfl, HB2.out⟩
theorem say_w (w : World) (hT : qTab w) : Calls Tryd.prog 5 #[.int .u64 2147483649] w fun e w' => e = .returned (.tuple #[.int .u64 13159518111176589312, .int .i64 0]) ∧ Below w.heap.size w w' := by
  have h := widen_fin 2147483649 (by decide) w (by decide) hT
  have e : (if decide (2147483648 ≤ 2147483649) = true then 9223372036854775808 + wV (2147483649 % 2147483648) else wV (2147483649 % 2147483648)) = 13159518111176589312 := by decide +kernel
  rw [e] at h
  exact h
set_option maxRecDepth 20000 in
set_option maxHeartbeats 4000000 in
theorem binaryWidens_walk {P : Option Addr} {N C : Nat} {its : List Op7} {w : World} (h : Scr7 w P N C its) (hT : qTab w) :
    Calls Tryd.prog 3 #[.slice P N C] w fun e w' => e = .returned (.bool true) ∧ Below w.heap.size w w' := by
  have H : Hid (Scr7 w P N C its) := h
  have HT : Hid (qTab w) := hT
  clear h hT
  go_enter Tryd.func3, Tryd.ntmps3
  go_wp2_with fail
  refine (say_w _ HT.out).mono ?_
  rintro e w1 ⟨rfl, hb1⟩
  have H1 : Hid (Scr7 w1 P N C its) := H.out.below hb1
  have HT1 : Hid (qTab w1) := HT.out.below hb1
  have HB1 : Hid (Below w.heap.size w w1) := hb1
  clear hb1
  go_wp2_with fail
  have hb2 := bwAlloc w1 (.cells #[.int .i64 11] 3)
  have hk : Kds (w1.alloc (.cells #[.int .i64 11] 3)) w1.heap.size [11] := by
    refine ⟨fun j hj => ?_, by simp⟩
    match j, hj with
    | 0, _ => go_simp
  refine (all7T (H1.out.below hb2) hk rfl (by decide) (HT1.out.below hb2) ?_).mono ?_
  · intro k hk f b neg n w hT hb _ _
    simp only [List.mem_cons, List.not_mem_nil, or_false] at hk
    subst hk
    exact bplays_11 hb w hT
  rintro e w3 ⟨rfl, hb3⟩
  have hbw := bwOn (bwOn HB1.out hb2) hb3
  clear hb2 hb3 hk
  go_wp2_with fail
  go_ret
  exact ⟨rfl, hbw⟩
end Go.Proofs.YtmmgnkhfaiophaaDoor
