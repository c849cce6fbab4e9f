import Derived.Deep.AppendLies
import Derived.Test.YtimjajoddmbjlaaJ10
import Derived.Test.YtimjajoddmbjlaaJ9
namespace Go.Proofs.Ytimjajoddmbjlaa
open Go.RowKit Go.Shelf
set_option maxRecDepth 20000
set_option maxHeartbeats 0
def fuv (t : It) : Value := .slice t.p (t.n + 80) (t.n + 80)
structure Sp1 (w : World) (go : Nat) (fo : Option Nat) (t : It) (b : Nat) : Prop where
  p : t.p = some ⟨b, 0, none⟩
  ne : b ≠ go
  ge : go ≤ b
  nf : some b ≠ fo
  row : Row w b 0 (t.n + 80) (spl t.xs)
  c : t.c = t.n + 80
  n : t.xs.length = t.n
  le : t.n ≤ 17592186044416
  a : t.a = valB B64 t.xs
  dig : Dig B64 t.xs
theorem row_lt9 {w : World} {g off n : Nat} {xs : List Nat} (h : Row w g off n xs) (hn : 0 < n) : g < w.heap.size := World.block_lt_of_cell? w _ (h.cell 0 hn)
theorem Sp1.lt {w : World} {go : Nat} {fo : Option Nat} {t : It} {b : Nat} (h : Sp1 w go fo t b) : b < w.heap.size := row_lt9 h.row (by omega)
theorem Sp1.below {w w' : World} {go : Nat} {fo : Option Nat} {t : It} {b : Nat} (h : Sp1 w go fo t b) (hb : Below w.heap.size w w') : Sp1 w' go fo t b := ⟨h.p, h.ne, h.ge, h.nf, h.row.below hb h.lt, h.c, h.n, h.le, h.a, h.dig⟩
theorem Row.grow {w w' : World} {g off n : Nat} {xs : List Nat} {row : Option Nat} (h : Row w g off n xs) (hg : w.grownBy w' row) (hne : some g ≠ row) : Row w' g off n xs :=
  ⟨h.len, h.dig, fun j hj => hg.cell (h.cell j hj) hne, fun j hj => (hg.frozen_far _ (World.block_lt_of_cell? w _ (h.cell j hj)) hne).trans (h.frozen j hj)⟩
theorem Sp1.grow {w w' : World} {go : Nat} {fo fo' : Option Nat} {t : It} {b : Nat} {row : Option Nat} (h : Sp1 w go fo t b) (hg : w.grownBy w' row) (hne : some b ≠ row) (hf : some b ≠ fo') : Sp1 w' go fo' t b := ⟨h.p, h.ne, h.ge, hf, h.row.grow hg hne, h.c, h.n, h.le, h.a, h.dig⟩
theorem Sp1.at_ {w : World} {go : Nat} {fo : Option Nat} {t : It} {b : Nat} (h : Sp1 w go fo t b) : At w t.p t.n t.c t.xs := by
  have h1 := (h.row.at_ (Nat.le_refl _) (by unfold maxLen; have := h.le; omega)).take t.n (by omega) (t.n + 80) (by omega) (by unfold maxLen; have := h.le; omega)
  rw [← h.n, spl_take] at h1
  rw [h.p, h.c, ← h.n]
  exact h1
theorem Sp1.full {w : World} {go : Nat} {fo : Option Nat} {t : It} {b : Nat} (h : Sp1 w go fo t b) : At w (some ⟨b, 0, none⟩) (t.n + 80) (t.n + 80) (spl t.xs) := h.row.at_ (Nat.le_refl _) (by unfold maxLen; have := h.le; omega)
structure Sps (w : World) (go : Nat) (fo : Option Nat) (js its : List It) (bs : List Nat) : Prop where
  xs : js.map It.xs = its.map It.xs
  a : js.map It.a = its.map It.a
  len : bs.length = js.length
  each : ∀ i (h : i < js.length) (h2 : i < bs.length), Sp1 w go fo js[i] bs[i]
  nodup : bs.Nodup
theorem Sps.below {w w' : World} {go : Nat} {fo : Option Nat} {js its : List It} {bs : List Nat} (h : Sps w go fo js its bs) (hb : Below w.heap.size w w') : Sps w' go fo js its bs := ⟨h.xs, h.a, h.len, fun i h1 h2 => (h.each i h1 h2).below hb, h.nodup⟩
theorem Sps.grow {w w' : World} {go : Nat} {fo fo' : Option Nat} {js its : List It} {bs : List Nat} {row : Option Nat} (h : Sps w go fo js its bs) (hg : w.grownBy w' row) (hr : row = fo ∨ row = some go) (hf : fo' = fo ∨ fo' = some w.heap.size) : Sps w' go fo' js its bs :=
  ⟨h.xs, h.a, h.len, fun i h1 h2 => (h.each i h1 h2).grow hg (by
    rcases hr with e | e <;> rw [e]
    · exact (h.each i h1 h2).nf
    · exact fun e2 => (h.each i h1 h2).ne (Option.some.inj e2)) (by
    rcases hf with e | e <;> rw [e]
    · exact (h.each i h1 h2).nf
    · exact fun e2 => absurd (h.each i h1 h2).lt (by rw [Option.some.inj e2]; exact Nat.lt_irrefl _)), h.nodup⟩
theorem Sps.snoc {w : World} {go : Nat} {fo : Option Nat} {js its : List It} {bs : List Nat} {t u : It} {b : Nat} (h : Sps w go fo js its bs) (h1 : Sp1 w go fo t b) (hx : t.xs = u.xs) (ha : t.a = u.a) (hb : b ∉ bs) : Sps w go fo (js ++ [t]) (its ++ [u]) (bs ++ [b]) := by
  refine ⟨by rw [List.map_append, List.map_append, h.xs, List.map_singleton, List.map_singleton, hx], by rw [List.map_append, List.map_append, h.a, List.map_singleton, List.map_singleton, ha], by simp [h.len], fun i h2 h3 => ?_, ?_⟩
  · rcases Nat.lt_or_ge i js.length with h4 | h4
    · rw [List.getElem_append_left h4, List.getElem_append_left (by rw [h.len]; exact h4)]
      exact h.each i h4 _
    · have e : i = js.length := by rw [List.length_append, List.length_singleton] at h2; omega
      have e2 : i = bs.length := by rw [h.len]; exact e
      rw [List.getElem_append_right h4, List.getElem_append_right (by rw [h.len]; exact h4)]
      simpa using h1
  · rw [List.nodup_append]
    exact ⟨h.nodup, by simp, fun x hx y hy => by rw [List.mem_singleton.1 hy]; exact fun e => hb (e ▸ hx)⟩
theorem Sps.notin {w : World} {go b : Nat} {fo : Option Nat} {js its : List It} {bs : List Nat} (h : Sps w go fo js its bs) (hb : w.heap.size ≤ b) : b ∉ bs := by
  intro hm
  obtain ⟨i, hi, rfl⟩ := List.getElem_of_mem hm
  have := (h.each i (by rw [← h.len]; exact hi) hi).lt
  omega
theorem cell_new2 (w : World) (u v : Value) (ty : TypeId) : ∀ j x, [u, v][j]? = some x → (w.alloc (.cells #[u, v] ty)).cell? ((⟨w.heap.size, 0, none⟩ : Addr).add j) = some x := by
  intro j x h
  match j with
  | 0 => simp at h; subst h; simp [Addr.add]
  | 1 => simp at h; subst h; simp [Addr.add]
theorem map_get {js its : List It} (h : js.map It.xs = its.map It.xs) {k : Nat} (h1 : k < js.length) (h2 : k < its.length) : js[k].xs = its[k].xs := by
  have h3 : (js.map It.xs)[k]? = (its.map It.xs)[k]? := by rw [h]
  rw [List.getElem?_map, List.getElem?_map, List.getElem?_eq_getElem h1, List.getElem?_eq_getElem h2] at h3
  exact Option.some.inj h3
theorem xor6 (x : Nat) : ∃ y : Nat, bits .xor .u64 (x : Int) 6 = (y : Int) ∧ y < 18446744073709551616 := by
  have e : bits .xor .u64 (x : Int) 6 = IntKind.u64.wrap ((BitVec.ofInt 64 (x : Int) ^^^ BitVec.ofInt 64 6).toNat : Int) := rfl
  rw [IntKind.wrap_u64] at e
  rw [e]
  generalize (BitVec.ofInt 64 (x : Int) ^^^ BitVec.ofInt 64 6).toNat = z
  exact ⟨z % 18446744073709551616, by omega, by omega⟩
theorem At.setOther {w : World} {b n c : Nat} {xs : List Nat} (h : At w (some ⟨b, 0, none⟩) n c xs) {g o : Nat} (v : Value) (hne : b ≠ g) : At (w.setCell ⟨g, o, none⟩ v) (some ⟨b, 0, none⟩) n c xs := by
  refine ⟨h.len, h.cap, h.big, h.dig, ?_⟩
  rcases h.cells with h1 | ⟨g', off, h1, h2⟩
  · exact .inl h1
  · refine .inr ⟨g', off, h1, fun j hj => ?_⟩
    simp only [Option.some.injEq, Addr.mk.injEq] at h1
    obtain ⟨rfl, _⟩ := h1
    exact (World.cell?_setCell_other _ _ _ _ (by intro e; exact hne (congrArg Addr.block e).symm)).trans (h2 j hj)
theorem set_take (xs ys : List Nat) (m y : Nat) (hm : m < xs.length) : ((xs ++ ys).set m y).take xs.length = xs.set m y := by
  rw [List.set_append_left _ _ hm, List.take_left' (by rw [List.length_set])]
theorem Sps.write {w : World} {go : Nat} {fo : Option Nat} {js its : List It} {bs : List Nat} (h : Sps w go fo js its bs) {N C : Nat} (hL : LsA w (some ⟨go, 0, none⟩) N C js) {k m y : Nat} (hk : k < js.length) (hk2 : k < bs.length) (hm : m < js[k].n) (hy : y < B64) :
    ∃ js2, LsA (w.setCell ⟨bs[k], m, none⟩ (U y)) (some ⟨go, 0, none⟩) N C js2 := by
  have S := h.each k hk hk2
  refine ⟨js.set k ⟨js[k].p, js[k].n, js[k].c, js[k].xs.set m y, valB B64 (js[k].xs.set m y)⟩, ⟨by rw [List.length_set]; exact hL.len, hL.cap, hL.big, ?_, fun t ht => ?_⟩⟩
  · rcases hL.cells with h0 | ⟨g', off, h1, h2⟩
    · exact .inl h0
    · refine .inr ⟨g', off, h1, fun j hj => ?_⟩
      have hj2 : j < js.length := by rw [List.length_set] at hj; exact hj
      simp only [Option.some.injEq, Addr.mk.injEq] at h1
      obtain ⟨rfl, _⟩ := h1
      rw [World.cell?_setCell_other _ _ _ _ (by intro e; exact S.ne (congrArg Addr.block e)), h2 j hj2]
      by_cases e : k = j
      · subst e; simp
      · rw [List.getElem_set_ne e]
  · obtain ⟨i, hi, rfl⟩ := List.getElem_of_mem ht
    have hi2 : i < js.length := by rw [List.length_set] at hi; exact hi
    by_cases e : k = i
    · subst e
      simp only [List.getElem_set_self]
      refine ⟨?_, S.le, trivial⟩
      have hR := S.row.set m y (by omega) hy
      rw [Nat.zero_add] at hR
      have h1 := (hR.at_ (Nat.le_refl _) (by unfold maxLen; have := S.le; omega)).take js[k].n (by omega) (js[k].n + 80) (by omega) (by unfold maxLen; have := S.le; omega)
      unfold spl at h1
      rw [← S.n, set_take _ _ _ _ (by rw [S.n]; exact hm), S.n] at h1
      rw [S.p, S.c]
      exact h1
    · rw [List.getElem_set_ne e]
      have T := h.each i hi2 (by rw [h.len]; exact hi2)
      refine ⟨?_, T.le, T.a⟩
      have h1 := T.at_
      rw [T.p] at h1 ⊢
      exact h1.setOther _ (fun e2 => e ((List.getElem_inj h.nodup).1 e2.symm))
theorem own_ob {w : World} {B k : Nat} {e : TypeId} {v : Value} {xs : List Value} (h : w.ownsRow B e 1 v k xs) {b : Nat} (hb : v.ownBlock = some b) : B ≤ b ∧ b < w.heap.size := by
  rcases h.2 with ⟨h2, _⟩ | ⟨g', cap, cur, h2, h3, h4, h5⟩
  · rw [h2] at hb; cases hb
  · rw [h2] at hb
    cases hb
    exact ⟨h3, (Array.getElem?_eq_some_iff.1 h4).1⟩
theorem own_two {w : World} {B g N C : Nat} {js : List It} {m1 m2 : Value} (h : w.ownsRow B 24 1 (.slice (some ⟨g, 0, none⟩) (N + 2) C) (N + 2) (js.map itv ++ [m1, m2])) (hl : js.length = N) :
    (∀ j (hj : j < js.length), w.cell? ⟨g, 0 + j, none⟩ = some (.slice js[j].p js[j].n js[j].c)) ∧ w.cell? ⟨g, N, none⟩ = some m1 ∧ w.cell? ⟨g, N + 1, none⟩ = some m2 := by
  refine ⟨fun j hj => ?_, ?_, ?_⟩
  · rw [Nat.zero_add, h.cellAt j (by omega), List.getElem?_append_left (by rw [List.length_map]; exact hj), List.getElem?_map, List.getElem?_eq_getElem hj]; rfl
  · rw [h.cellAt N (by omega), List.getElem?_append_right (by rw [List.length_map, hl]; exact Nat.le_refl _), List.length_map, hl, Nat.sub_self]; rfl
  · rw [h.cellAt (N + 1) (by omega), List.getElem?_append_right (by rw [List.length_map, hl]; omega), List.length_map, hl, Nat.add_sub_cancel_left]; rfl
theorem own_full {w : World} {B N : Nat} {js : List It} {v : Value} (h : w.ownsRow B 24 1 v N (js.map fuv)) (hl : js.length = N) :
    ∃ pf cf, v = .slice pf N cf ∧ N ≤ cf ∧ cf ≤ maxLen ∧ (N = 0 ∨ ∃ gf, pf = some ⟨gf, 0, none⟩ ∧ ∀ j (hj : j < js.length), w.cell? ⟨gf, 0 + j, none⟩ = some (.slice js[j].p (js[j].n + 80) (js[j].n + 80))) := by
  rcases h.2 with ⟨h1, h2⟩ | ⟨g, cap, cur, h1, h2, h3, h4, h5, h6⟩
  · subst h2; exact ⟨none, 0, h1, Nat.le_refl _, Nat.zero_le _, .inl rfl⟩
  · refine ⟨_, cap, h1, h4, h5, .inr ⟨g, rfl, fun j hj => ?_⟩⟩
    have h7 := h
    rw [h1] at h7
    rw [Nat.zero_add, h7.cellAt j (by omega), List.getElem?_map, List.getElem?_eq_getElem hj]; rfl
theorem ownAny {w w' : World} {B k : Nat} {e : TypeId} {v : Value} {xs : List Value} (h : w.ownsRow B e 1 v k xs) (hb : Below w.heap.size w w') : w'.ownsRow B e 1 v k xs := by
  refine ⟨h.1, ?_⟩
  rcases h.2 with h2 | ⟨g, cap, cur, h2, h3, h4, h5⟩
  · exact .inl h2
  · have hg : g < w.heap.size := by
      rcases Nat.lt_or_ge g w.heap.size with h6 | h6
      · exact h6
      · rw [Array.getElem?_eq_none h6] at h4; cases h4
    exact .inr ⟨g, cap, cur, h2, h3, (hb.block _ hg).trans h4, h5⟩
theorem natmulLists_w {P : Option Addr} {N C : Nat} {its : List It} {w : World} (h : LsA w P N C its) (hN : N ≤ 5864062014805) :
    Calls Try.prog 4 #[.slice P N C] w fun en w' => en = .returned (.bool true) ∧ Below w.heap.size w w' := by
  obtain ⟨i0, hi, hz0, hz1, hz2⟩ := info_parts Try.infoSl
  have H : Hid (LsA w P N C its) := h
  have HLN : Hid (its.length = N) := h.len
  have cap := h.cap; have big := h.big
  unfold maxLen at big
  clear h
  go_enter Try.func4, Try.ntmps4
  go_wp2_with fail
  have hbw : Below w.heap.size w w := Below.refl _ _
  refine (awake_any w).mono ?_
  rintro e w1 ⟨rfl, hb1⟩
  replace hbw := Below.on hbw hb1
  clear hb1
  go_wp2_with fail
  refine (lists_ok (H.out.below hbw) (by omega)).mono ?_
  rintro e w2 ⟨g2, ks, rfl, hg2, hLs, hxs, has, hb2⟩
  have L2 : Hid (LsA w2 (some ⟨g2, 0, none⟩) N N ks ∧ ks.map It.xs = its.map It.xs ∧ ks.map It.a = its.map It.a) := ⟨hLs, hxs, has⟩
  clear hLs hxs has hg2
  replace hbw := Below.on hbw hb2
  clear hb2
  go_wp2_with fail
  refine (docprod_all L2.out.1).mono ?_
  rintro e w3 ⟨p3, m3, N3, us, f3, rfl, hA3, hP3, hb3⟩
  have B3 : Hid (At w3 p3 m3 N3 us) := hA3
  have PR : Hid (PrIs its us f3) := hP3.cast L2.out.2.1 L2.out.2.2
  clear hA3 hP3 L2
  replace hbw := Below.on hbw hb3
  clear hb3
  have wN : wrap64 ((N : Int) + 2) = ((N + 2 : Nat) : Int) := by simp only [wrap64]; omega
  go_wp2_with (at_make; refine wpList_make_own _ rfl _ _ 22 rfl (w3.alloc (.cells #[.int .u64 41, .int .u64 42] 29)).heap.size 24 i0 (.slice none 0 0) 1 Try.underlying22 hi hz0 hz1 _ _ _ (N + 2) rfl rfl (by omega) (by rw [hz2]; omega) (by unfold maxLen; omega) (Nat.le_refl _) ?_; intro w4 hown hgrow)
  have MKA : Hid (At (w3.alloc (.cells #[.int .u64 41, .int .u64 42] 29)) (some ⟨w3.heap.size, 0, none⟩) 2 2 [41, 42]) := lit_at w3 _ [41, 42] 2 rfl rfl (dig2 (by decide) (by decide)) (by omega)
  have hbx : Below w3.heap.size w3 (w3.alloc (.cells #[.int .u64 41, .int .u64 42] 29)) := below1 w3 _
  have hsx : (w3.alloc (.cells #[.int .u64 41, .int .u64 42] 29)).heap.size = w3.heap.size + 1 := by simp
  rw [hsx] at hown
  obtain ⟨wm, hwm⟩ : ∃ x, x = (w3.alloc (.cells #[.int .u64 41, .int .u64 42] 29)) := ⟨_, rfl⟩
  rw [← hwm] at MKA hbx hsx hgrow
  clear hwm
  have B3m : Hid (At wm p3 m3 N3 us) := B3.out.below hbx
  have hbwm := Below.on hbw hbx
  have Hm : Hid (LsA wm P N C its) := H.out.below hbwm
  have hbm : Below wm.heap.size wm w4 := (Below.refl _ _).grown hgrow (Nat.le_refl _) (fun k hk => by cases hk)
  clear hbx hgrow B3 hbw H
  generalize w3.heap.size = gm at *
  rw [← hsx] at hown
  rw [← hsx]
  obtain ⟨go, hgo⟩ : ∃ x, x = wm.heap.size := ⟨_, rfl⟩
  rw [← hgo] at hown hbm
  rw [← hgo]
  have HGO : Hid (go = wm.heap.size) := hgo
  have HWG : Hid (w.heap.size ≤ go) := by rw [hgo]; exact hbwm.size
  have HOW0 : Hid (w4.ownsRow go 24 1 (.slice (some ⟨go, 0, none⟩) 0 (N + 2)) 0 []) := hown
  clear hown hgo hsx wN
  go_loopg [6, 7, 35] N (fun gk ov fv iv wr => ∃ (k : Nat) (js : List It) (bs : List Nat), k + gk = N ∧ iv = .int .i64 k ∧ ov = .slice (some ⟨go, 0, none⟩) k (N + 2) ∧ wr.ownsRow go 24 1 (.slice (some ⟨go, 0, none⟩) k (N + 2)) k (js.map itv) ∧ wr.ownsRow go 24 1 fv k (js.map fuv) ∧ fv.ownBlock ≠ some go ∧ Sps wr go fv.ownBlock js (its.take k) bs ∧ Below go wm wr)
  case atStart => exact ⟨0, [], [], by omega, rfl, rfl, HOW0.out, ⟨rfl, .inl ⟨rfl, rfl⟩⟩, (by intro h; cases h), ⟨rfl, rfl, rfl, fun i h => absurd h (Nat.not_lt_zero _), List.nodup_nil⟩, hbm⟩
  case round =>
    obtain ⟨k, js, bs, hkg, rfl, rfl, xo, xf, xn, xs, hbr⟩ := hrel
    clear HOW0 hbm
    have OW : Hid (wr.ownsRow go 24 1 (.slice (some ⟨go, 0, none⟩) k (N + 2)) k (js.map itv)) := xo
    have OF : Hid (wr.ownsRow go 24 1 u7 k (js.map fuv) ∧ u7.ownBlock ≠ some go) := ⟨xf, xn⟩
    have SP : Hid (Sps wr go u7.ownBlock js (its.take k) bs) := xs
    have hbm := hbr
    clear xo xf xn xs hbr
    cases gk with
    | succ gg =>
      have hk : k < its.length := by rw [HLN.out]; omega
      obtain ⟨gs, off, rfl, hc⟩ := Hm.out.cells.resolve_left (by omega)
      have hbg : Below wm.heap.size wm wr := by rw [← HGO.out]; exact hbm
      have hcx := (hbg.cell (p := ⟨gs, off + k, none⟩) (World.block_lt_of_cell? wm _ (hc k hk))).trans (hc k hk)
      have hAt := Hm.out.ats its[k] (List.getElem_mem hk)
      have AT : Hid (At wr its[k].p its[k].n its[k].c its[k].xs ∧ its[k].n ≤ 17592186044416 ∧ its[k].a = valB B64 its[k].xs) := ⟨hAt.1.below hbg, hAt.2⟩
      have HTK : Hid (its.take (k + 1) = its.take k ++ [its[k]]) := List.take_succ_eq_append_getElem hk
      have hkk : (k : Int) < (N : Int) := by omega
      have hn17 := hAt.2.1
      clear hc hAt hbg
      obtain ⟨u, hu⟩ : ∃ u, u = its[k] := ⟨_, rfl⟩
      rw [← hu] at AT HTK hcx hn17
      clear hu
      obtain ⟨tp, tn, tc, txs, ta⟩ := u
      simp only at hcx hn17
      go_wp2_with fail
      refine (spare_ok AT.out.1 hn17).mono ?_
      rintro e v1 ⟨g1, rfl, hg1, hR1, hb1⟩
      have R1 : Hid (Row v1 g1 0 (tn + 80) (spl txs)) := hR1
      have HG1 : Hid (wr.heap.size ≤ g1) := hg1
      have OW1 : Hid (v1.ownsRow go 24 1 (.slice (some ⟨go, 0, none⟩) k (N + 2)) k (js.map itv)) := ownAny OW.out hb1
      have OF1 : Hid (v1.ownsRow go 24 1 u7 k (js.map fuv)) := ownAny OF.out.1 hb1
      have SP1 : Hid (Sps v1 go u7.ownBlock js (its.take k) bs) := SP.out.below hb1
      have HGG : Hid (go < wr.heap.size) := own_lt OW.out
      have hbm1 : Below go wm v1 := hbm.trans (hb1.mono (by have := HGG.out; omega))
      clear OW hR1 hg1 hb1 hbm hcx
      have hbA : Below v1.heap.size v1 (v1.alloc (.cells #[.slice (some ⟨g1, 0, none⟩) tn (tn + 80)] 24)) := below1 v1 _
      have OWA : Hid ((v1.alloc (.cells #[.slice (some ⟨g1, 0, none⟩) tn (tn + 80)] 24)).ownsRow go 24 1 (.slice (some ⟨go, 0, none⟩) k (N + 2)) k (js.map itv)) := ownAny OW1.out hbA
      have OFA : Hid ((v1.alloc (.cells #[.slice (some ⟨g1, 0, none⟩) tn (tn + 80)] 24)).ownsRow go 24 1 u7 k (js.map fuv)) := ownAny OF1.out hbA
      have SPA : Hid (Sps (v1.alloc (.cells #[.slice (some ⟨g1, 0, none⟩) tn (tn + 80)] 24)) go u7.ownBlock js (its.take k) bs) := SP1.out.below hbA
      have RA : Hid (Row (v1.alloc (.cells #[.slice (some ⟨g1, 0, none⟩) tn (tn + 80)] 24)) g1 0 (tn + 80) (spl txs)) := R1.out.below hbA (row_lt9 R1.out (by omega))
      have hbmA : Below go wm (v1.alloc (.cells #[.slice (some ⟨g1, 0, none⟩) tn (tn + 80)] 24)) := hbm1.trans (hbA.mono (by have h1 := HGG.out; have h2 := row_lt9 R1.out (by omega); have h3 := HG1.out; omega))
      clear hbA OW1 OF1 SP1 R1 hbm1
      go_wp2_with (at_builtin; first
        | (refine wpList_append_own_spare _ rfl _ _ 22 rfl go 24 i0 1 Try.underlying22 hi hz1 go k (N + 2) (js.map itv) rfl OWA.out ⟨v1.heap.size, 0, none⟩ 1 1 [.slice (some ⟨g1, 0, none⟩) tn (tn + 80)] rfl rfl (cell_new1 _ _ _) (by intro u hu; simp at hu; subst hu; rfl) (by omega) ?_
           intro w6 hown6 hgr6
           have HN1 : Hid (g1 ≠ go) := by (have h1 := HGG.out; have h2 := HG1.out; show _ ≠ _; omega)
           have hbm6 : Below go wm w6 := hbmA.grown hgr6 (by have := hbmA.size; have := HGO.out; omega) (fun b hb => by cases hb; exact Nat.le_refl _)
           have OW6 : Hid (w6.ownsRow go 24 1 (.slice (some ⟨go, 0, none⟩) (k + 1) (N + 2)) (k + 1) (js.map itv ++ [.slice (some ⟨g1, 0, none⟩) tn (tn + 80)])) := hown6
           have OF6 : Hid (w6.ownsRow go 24 1 u7 k (js.map fuv)) := OFA.out.kept hgr6 (.inr OF.out.2)
           have SP6 : Hid (Sps w6 go u7.ownBlock js (its.take k) bs) := SPA.out.grow hgr6 (.inr rfl) (.inl rfl)
           have R6 : Hid (Row w6 g1 0 (tn + 80) (spl txs)) := RA.out.grow hgr6 (fun e => HN1.out (Option.some.inj e))
           clear hown6 hgr6 OWA OFA SPA RA hbmA
           have hbF : Below w6.heap.size w6 (w6.alloc (.cells #[.slice (some ⟨g1, 0, none⟩) (tn + 80) (tn + 80)] 24)) := below1 w6 _
           have OWF : Hid ((w6.alloc (.cells #[.slice (some ⟨g1, 0, none⟩) (tn + 80) (tn + 80)] 24)).ownsRow go 24 1 (.slice (some ⟨go, 0, none⟩) (k + 1) (N + 2)) (k + 1) (js.map itv ++ [.slice (some ⟨g1, 0, none⟩) tn (tn + 80)])) := ownAny OW6.out hbF
           have OFF : Hid ((w6.alloc (.cells #[.slice (some ⟨g1, 0, none⟩) (tn + 80) (tn + 80)] 24)).ownsRow go 24 1 u7 k (js.map fuv)) := ownAny OF6.out hbF
           have SPF : Hid (Sps (w6.alloc (.cells #[.slice (some ⟨g1, 0, none⟩) (tn + 80) (tn + 80)] 24)) go u7.ownBlock js (its.take k) bs) := SP6.out.below hbF
           have RF : Hid (Row (w6.alloc (.cells #[.slice (some ⟨g1, 0, none⟩) (tn + 80) (tn + 80)] 24)) g1 0 (tn + 80) (spl txs)) := R6.out.below hbF (row_lt9 R6.out (by omega))
           have HSF : Hid (go < (w6.alloc (.cells #[.slice (some ⟨g1, 0, none⟩) (tn + 80) (tn + 80)] 24)).heap.size) := by (have h1 := own_lt OW6.out; have h2 := hbF.size; show _ < _; omega)
           have hbmF : Below go wm (w6.alloc (.cells #[.slice (some ⟨g1, 0, none⟩) (tn + 80) (tn + 80)] 24)) := hbm6.trans (hbF.mono (Nat.le_of_lt (own_lt OW6.out)))
           clear hbF OW6 OF6 SP6 R6 hbm6)
        | (refine wpList_append_own_at _ rfl _ _ 22 rfl go 24 i0 (.slice none 0 0) 1 24 Try.underlying22 hi hz0 hz1 hz2 rfl (by decide) u7 k (js.map fuv) rfl OFF.out ⟨w6.heap.size, 0, none⟩ 1 1 [.slice (some ⟨g1, 0, none⟩) (tn + 80) (tn + 80)] rfl rfl (cell_new1 _ _ _) (by intro u hu; simp at hu; subst hu; rfl) (by unfold maxLen; omega) (by omega) (Nat.le_of_lt HSF.out) ?_
           intro v7 w7 hown7 hgr7 hnil7 hat7))
      go_roundg gg
      case measure => omega
      case rel =>
        have hnu : some g1 ≠ u7.ownBlock := fun e => by have h1 := (own_ob OF.out.1 e.symm).2; have h2 := HG1.out; omega
        have hs1 : Sp1 (w6.alloc (.cells #[.slice (some ⟨g1, 0, none⟩) (tn + 80) (tn + 80)] 24)) go u7.ownBlock ⟨some ⟨g1, 0, none⟩, tn, tn + 80, txs, ta⟩ g1 := ⟨rfl, HN1.out, Nat.le_of_lt (Nat.lt_of_lt_of_le HGG.out HG1.out), hnu, RF.out, rfl, AT.out.1.len, AT.out.2.1, AT.out.2.2, AT.out.1.dig⟩
        refine ⟨k + 1, js ++ [⟨some ⟨g1, 0, none⟩, tn, tn + 80, txs, ta⟩], bs ++ [g1], by omega, by go_num, rfl, ?_, ?_, ?_, ?_, ?_⟩
        · rw [List.map_append]; exact OWF.out.kept hgr7 (.inr (fun e => OF.out.2 e.symm))
        · rw [List.map_append]; exact hown7
        · rcases hat7 with e | e
          · rw [e]; exact OF.out.2
          · rw [e]; intro e2; have h1 := Option.some.inj e2; have h2 := HSF.out; omega
        · rw [HTK.out]; exact (SPF.out.snoc (u := ⟨tp, tn, tc, txs, ta⟩) hs1 rfl rfl (SP.out.notin HG1.out)).grow hgr7 (.inl rfl) hat7
        · exact hbmF.grown hgr7 (Nat.le_of_lt HSF.out) (fun b hb => (own_ob OFF.out hb).1)
    | zero =>
      obtain rfl : N = k := by omega
      have hnk : ¬ (N : Int) < (N : Int) := by omega
      have SP2 : Hid (Sps wr go u7.ownBlock js its bs) := by have h := SP.out; rw [List.take_of_length_le (by rw [HLN.out]; exact Nat.le_refl _)] at h; exact h
      clear SP
      have hbB : Below wr.heap.size wr (wr.alloc (.cells #[.slice (some ⟨gm, 0, none⟩) 2 2, .slice (some ⟨gm, 0, none⟩) 2 2] 24)) := below1 wr _
      have OWB : Hid ((wr.alloc (.cells #[.slice (some ⟨gm, 0, none⟩) 2 2, .slice (some ⟨gm, 0, none⟩) 2 2] 24)).ownsRow go 24 1 (.slice (some ⟨go, 0, none⟩) N (N + 2)) N (js.map itv)) := ownAny OW.out hbB
      have OFB : Hid ((wr.alloc (.cells #[.slice (some ⟨gm, 0, none⟩) 2 2, .slice (some ⟨gm, 0, none⟩) 2 2] 24)).ownsRow go 24 1 u7 N (js.map fuv)) := ownAny OF.out.1 hbB
      have SPB : Hid (Sps (wr.alloc (.cells #[.slice (some ⟨gm, 0, none⟩) 2 2, .slice (some ⟨gm, 0, none⟩) 2 2] 24)) go u7.ownBlock js its bs) := SP2.out.below hbB
      have hbmB : Below go wm (wr.alloc (.cells #[.slice (some ⟨gm, 0, none⟩) 2 2, .slice (some ⟨gm, 0, none⟩) 2 2] 24)) := hbm.trans (hbB.mono (Nat.le_of_lt (own_lt OW.out)))
      clear hbB OW SP2 hbm
      go_wp2_with (at_builtin; refine wpList_append_own_spare _ rfl _ _ 22 rfl go 24 i0 1 Try.underlying22 hi hz1 go N (N + 2) (js.map itv) rfl OWB.out ⟨wr.heap.size, 0, none⟩ 2 2 [.slice (some ⟨gm, 0, none⟩) 2 2, .slice (some ⟨gm, 0, none⟩) 2 2] rfl rfl (cell_new2 _ _ _ _) (by intro u hu; simp at hu; subst hu; rfl) (by omega) ?_; intro w6 hown6 hgr6)
      have hjl : js.length = N := by have h := congrArg List.length SPB.out.xs; rw [List.length_map, List.length_map, HLN.out] at h; exact h
      have hC := own_two hown6 hjl
      have SPW : Hid (Sps w6 go u7.ownBlock js its bs) := SPB.out.grow hgr6 (.inr rfl) (.inl rfl)
      have LS : Hid (LsA w6 (some ⟨go, 0, none⟩) N (N + 2) js) := ⟨hjl, by omega, by unfold maxLen; omega, .inr ⟨go, 0, rfl, hC.1⟩, fun t ht => by obtain ⟨i, hi, rfl⟩ := List.getElem_of_mem ht; have h := SPW.out.each i hi (by rw [SPW.out.len]; exact hi); exact ⟨h.at_, h.le, h.a⟩⟩
      have CM : Hid (w6.cell? ⟨go, N, none⟩ = some (.slice (some ⟨gm, 0, none⟩) 2 2) ∧ w6.cell? ⟨go, N + 1, none⟩ = some (.slice (some ⟨gm, 0, none⟩) 2 2)) := hC.2
      obtain ⟨pf, cf, hu7, hcf1, hcf2, hcf3⟩ := own_full (OFB.out.kept hgr6 (.inr OF.out.2)) hjl
      have FU : Hid (N = 0 ∨ ∃ gf, pf = some ⟨gf, 0, none⟩ ∧ ∀ j (hj : j < js.length), w6.cell? ⟨gf, 0 + j, none⟩ = some (.slice js[j].p (js[j].n + 80) (js[j].n + 80))) := hcf3
      have hbm6 : Below go wm w6 := hbmB.grown hgr6 (by have := hbmB.size; have := HGO.out; omega) (fun b hb => by cases hb; exact Nat.le_refl _)
      have hbg : Below wm.heap.size wm w6 := by rw [← HGO.out]; exact hbm6
      have MK6 : Hid (At w6 (some ⟨gm, 0, none⟩) 2 2 [41, 42]) := MKA.out.below hbg
      have B6 : Hid (At w6 p3 m3 N3 us) := B3m.out.below hbg
      have LI : Hid (LsA w6 P N C its) := Hm.out.below hbg
      have hbw6 := Below.on hbwm hbg
      have HJL : Hid (js.length = N) := hjl
      unfold maxLen at hcf2
      rw [hu7]
      generalize u7.ownBlock = fo at *
      clear hjl hC hown6 hgr6 OWB OFB SPB hbmB OF hbm6 hbg MKA B3m Hm hbwm hcf3 hkg hnk hu7
      have hb0 : Below w6.heap.size w6 w6 := Below.refl _ _
      go_loopg [60] 2 (fun gk iv wr => ∃ (k : Nat), k + gk = 2 ∧ iv = .int .i64 k ∧ Below w6.heap.size w6 wr)
      case atStart => exact ⟨0, by omega, rfl, hb0⟩
      case round =>
        obtain ⟨r, hrg, rfl, hbr⟩ := hrel
        clear hb0
        cases gk with
        | succ gr =>
          have hr2 : (r : Int) < 2 := by omega
          have hbw := hbr
          clear hbr
          go_wp2_with fail
          refine (product_all (LS.out.below hbw)).mono ?_
          rintro e v1 ⟨p1, m1, us1, f1, rfl, hA1, hP1, hb1⟩
          obtain ⟨ez, ef⟩ := PR.out.inj (hP1.cast SPW.out.xs SPW.out.a)
          subst ez ef
          have A1 : Hid (At v1 p1 m1 m1 us) := hA1
          clear hA1 hP1
          replace hbw := Below.on hbw hb1
          clear hb1
          go_wp2_with fail
          refine (same_t A1.out (B6.out.below hbw)).mono ?_
          rintro e v2 ⟨rfl, hb2⟩
          clear A1
          replace hbw := Below.on hbw hb2
          clear hb2
          go_wp2_with fail
          have hb0 := hbw
          clear hbw
          go_loopg [84] N (fun gk iv wr => ∃ (k : Nat), k + gk = N ∧ iv = .int .i64 k ∧ Below w6.heap.size w6 wr)
          case atStart => exact ⟨0, by omega, rfl, hb0⟩
          case round =>
            obtain ⟨k, hkg, rfl, hbw⟩ := hrel
            clear hb0
            cases gk with
            | succ gg =>
              have hk : k < its.length := by rw [HLN.out]; omega
              have hkj : k < js.length := by rw [HJL.out]; omega
              obtain ⟨gs, off, rfl, hc⟩ := LI.out.cells.resolve_left (by omega)
              obtain ⟨gf, rfl, hcF⟩ := FU.out.resolve_left (by omega)
              obtain ⟨go2, of2, hP2, hcO⟩ := LS.out.cells.resolve_left (by omega)
              simp only [Option.some.injEq, Addr.mk.injEq, and_true] at hP2
              obtain ⟨rfl, rfl⟩ := hP2
              have S1 := SPW.out.each k hkj (by rw [SPW.out.len]; exact hkj)
              have hxs := map_get SPW.out.xs hkj hk
              have hAt := LI.out.ats its[k] (List.getElem_mem hk)
              have hnn : js[k].n = its[k].n := by rw [← S1.n, hxs, hAt.1.len]
              have hcx := (hbw.cell (p := ⟨gs, off + k, none⟩) (World.block_lt_of_cell? w6 _ (hc k hk))).trans (hc k hk)
              have hco := (hbw.cell (p := ⟨go, 0 + k, none⟩) (World.block_lt_of_cell? w6 _ (hcO k hkj))).trans (hcO k hkj)
              have hcf := (hbw.cell (p := ⟨gf, 0 + k, none⟩) (World.block_lt_of_cell? w6 _ (hcF k hkj))).trans (hcF k hkj)
              have HCB : Hid (w6.cell? ⟨gf, 0 + k, none⟩ = some (.slice js[k].p (js[k].n + 80) (js[k].n + 80))) := hcF k hkj
              rw [Nat.zero_add] at hco hcf HCB
              have A1 : Hid (At w6 js[k].p js[k].n js[k].c its[k].xs) := by rw [← hxs]; exact S1.at_
              have A2 : Hid (At w6 its[k].p its[k].n its[k].c its[k].xs) := hAt.1
              have A3 : Hid (At w6 js[k].p (its[k].n + 80) (its[k].n + 80) (spl its[k].xs)) := by have h := S1.full; rw [hnn, hxs, ← S1.p] at h; exact h
              have HPB : Hid (js[k].p = some ⟨bs[k]'(by rw [SPW.out.len]; exact hkj), 0, none⟩) := S1.p
              rw [hnn] at hcf hco A1 HCB
              have hn17 := hAt.2.1
              have hkk : (k : Int) < (N : Int) := by omega
              have hk0 : (0 : Int) ≤ (k : Int) ∧ (k : Int) < (N : Int) := by omega
              clear hc hcO hcF hAt S1 hxs hnn
              generalize its[k].p = tp at *
              generalize its[k].n = tn at *
              generalize its[k].c = tc at *
              generalize its[k].xs = txs at *
              generalize bs[k]'(by rw [SPW.out.len]; exact hkj) = bb at *
              generalize js[k].c = oc at *
              generalize js[k].p = op at *
              obtain rfl := HPB.out
              go_wp2_with fail
              refine (same_t (A1.out.below hbw) (A2.out.below hbw)).mono ?_
              rintro e v3 ⟨rfl, hb3⟩
              clear hcx hco hcf
              replace hbw := Below.on hbw hb3
              clear hb3
              have hcf := (hbw.cell (p := ⟨gf, k, none⟩) (World.block_lt_of_cell? w6 _ HCB.out)).trans HCB.out
              have hkc : (0 : Int) ≤ (k : Int) ∧ (k : Int) < (N : Int) := by omega
              go_wp2_with fail
              refine (kept_ok (A2.out.below hbw) (A3.out.below hbw) hn17).mono ?_
              rintro e v4 ⟨rfl, hb4⟩
              clear hcf
              replace hbw := Below.on hbw hb4
              clear hb4
              go_wp2_with fail
              go_roundg gg
              case measure => omega
              case rel => exact ⟨k + 1, by omega, by go_num, hbw⟩
            | zero =>
              obtain rfl : N = k := by omega
              have hnk : ¬ (N : Int) < (N : Int) := by omega
              have hcm := (hbw.cell (p := ⟨go, N, none⟩) (World.block_lt_of_cell? w6 _ CM.out.1)).trans CM.out.1
              have hb1 : (0 : Int) ≤ (N : Int) ∧ (N : Int) < ((N + 2 : Nat) : Int) := by omega
              have hb2 : (0 : Int) ≤ (N : Int) ∧ (N : Int) < (N : Int) + 2 := by omega
              go_wp2_with fail
              refine (same_t (MK6.out.below hbw) (MK6.out.below hbw)).mono ?_
              rintro e v3 ⟨rfl, hb3⟩
              clear hcm hnk
              replace hbw := Below.on hbw hb3
              clear hb3
              have hcm := (hbw.cell (p := ⟨go, N + 1, none⟩) (World.block_lt_of_cell? w6 _ CM.out.2)).trans CM.out.2
              have hb3 : (0 : Int) ≤ (N : Int) + 1 ∧ (N : Int) + 1 < ((N + 2 : Nat) : Int) := by omega
              have hb4 : (0 : Int) ≤ (N : Int) + 1 ∧ (N : Int) + 1 < (N : Int) + 2 := by omega
              have hw1 : wrap64 ((N : Int) + 1) = (N : Int) + 1 := by simp only [wrap64]; omega
              go_wp2_with fail
              clear hw1 hcm
              refine (same_t (MK6.out.below hbw) (MK6.out.below hbw)).mono ?_
              rintro e v4 ⟨rfl, hb4x⟩
              replace hbw := Below.on hbw hb4x
              clear hb4x
              go_wp2_with fail
              go_roundg gr
              case measure => omega
              case rel => exact ⟨r + 1, by omega, by go_num, hbw⟩
        | zero =>
          obtain rfl : r = 2 := by omega
          have hbw := hbr
          clear hbr hrg
          by_cases hN0 : N = 0
          · subst hN0
            go_wp2_with fail
            go_ret
            exact ⟨rfl, Below.on hbw6 hbw⟩
          · obtain ⟨k, rfl⟩ : ∃ k, N = k + 1 := ⟨N - 1, by omega⟩
            have hk : k < its.length := by rw [HLN.out]; omega
            have hkj : k < js.length := by rw [HJL.out]; omega
            obtain ⟨gs, off, rfl, hc⟩ := LI.out.cells.resolve_left (by omega)
            obtain ⟨go2, of2, hP2, hcO⟩ := LS.out.cells.resolve_left (by omega)
            simp only [Option.some.injEq, Addr.mk.injEq, and_true] at hP2
            obtain ⟨rfl, rfl⟩ := hP2
            have S1 := SPW.out.each k hkj (by rw [SPW.out.len]; exact hkj)
            have hxs := map_get SPW.out.xs hkj hk
            have hAt := LI.out.ats its[k] (List.getElem_mem hk)
            have hnn : js[k].n = its[k].n := by rw [← S1.n, hxs, hAt.1.len]
            have hcx := (hbw.cell (p := ⟨gs, off + k, none⟩) (World.block_lt_of_cell? w6 _ (hc k hk))).trans (hc k hk)
            have hco := (hbw.cell (p := ⟨go, 0 + k, none⟩) (World.block_lt_of_cell? w6 _ (hcO k hkj))).trans (hcO k hkj)
            rw [Nat.zero_add] at hco
            have hN1 : ((((k + 1 : Nat) : Int)) == 0) = false := by simp; omega
            have hw1 : wrap64 (((k + 1 : Nat) : Int) - 1) = (k : Int) := by simp only [wrap64]; omega
            have hw2 : ((k + 1 : Nat) : Int) - 1 = (k : Int) := by omega
            have hi1 : (0 : Int) ≤ (k : Int) ∧ (k : Int) < ((k + 1 : Nat) : Int) := by omega
            have hi2 : (0 : Int) ≤ (k : Int) ∧ (k : Int) < (k : Int) + 1 := by omega
            have S2 : Hid (Sp1 w6 go fo js[k] (bs[k]'(by rw [SPW.out.len]; exact hkj)) ∧ js[k].n = its[k].n) := ⟨S1, hnn⟩
            have hn17 := hAt.2.1
            by_cases ht0 : its[k].n = 0
            · rw [ht0] at hcx
              clear hc hcO hAt S1 hxs hnn hco
              go_wp2_with fail
              go_ret
              exact ⟨rfl, Below.on hbw6 hbw⟩
            · obtain ⟨m, hm⟩ : ∃ m, its[k].n = m + 1 := ⟨its[k].n - 1, by omega⟩
              have hrow := S1.row
              rw [hnn, hm] at hrow
              have hlt := row_lt9 hrow (by omega)
              have hcl := (hbw.cell (p := ⟨_, 0 + m, none⟩) hlt).trans (hrow.cell m (by omega))
              have hfr := (hbw.frozen (p := ⟨_, 0 + m, none⟩) hlt).trans (hrow.frozen m (by omega))
              rw [Nat.zero_add] at hcl hfr
              rw [hm] at hcx hn17
              rw [S1.p, hnn, hm] at hco
              have HM : Hid (its[k].n = m + 1) := hm
              have hc0 := hrow.cell m (by omega)
              have hf0 := hrow.frozen m (by omega)
              rw [Nat.zero_add] at hc0 hf0
              have hc1 := hc k hk
              rw [hm] at hc1
              have hc2 := hcO k hkj
              rw [Nat.zero_add, S1.p, hnn, hm] at hc2
              obtain ⟨x, hx⟩ : ∃ x, x = (spl js[k].xs).getD m 0 := ⟨_, rfl⟩
              rw [← hx] at hcl hc0
              have HB0 : Hid (go ≤ bs[k]'(by rw [SPW.out.len]; exact hkj) ∧ bs[k]'(by rw [SPW.out.len]; exact hkj) < w6.heap.size ∧ w6.cell? ⟨bs[k]'(by rw [SPW.out.len]; exact hkj), m, none⟩ = some (U x) ∧ w6.frozen? ⟨bs[k]'(by rw [SPW.out.len]; exact hkj), m, none⟩ = false ∧ gs < w6.heap.size ∧ w6.cell? ⟨gs, off + k, none⟩ = some (.slice its[k].p (m + 1) its[k].c) ∧ w6.cell? ⟨go, k, none⟩ = some (.slice (some ⟨bs[k]'(by rw [SPW.out.len]; exact hkj), 0, none⟩) (m + 1) js[k].c) ∧ go < w6.heap.size) := ⟨S1.ge, hlt, hc0, hf0, World.block_lt_of_cell? w6 _ hc1, hc1, hc2, World.block_lt_of_cell? w6 _ hc2⟩
              clear hc0 hf0 hc1 hc2
              have hxb : x < 18446744073709551616 := by rw [hx, List.getD_eq_getElem?_getD, List.getElem?_eq_getElem (by rw [hrow.len]; omega)]; exact hrow.dig _ (List.getElem_mem _)
              obtain ⟨y, hy, hyb⟩ := xor6 x
              clear hc hcO hAt S1 hxs hnn hrow hlt hx hm ht0
              generalize its[k].p = tp at *
              generalize its[k].c = tc at *
              generalize js[k].c = oc at *
              have wm1 : wrap64 (((m + 1 : Nat) : Int) - 1) = (m : Int) := by simp only [wrap64]; omega
              have wm2 : ((m + 1 : Nat) : Int) - 1 = (m : Int) := by omega
              have hm1 : ((((m + 1 : Nat) : Int)) == 0) = false := by simp; omega
              have wki : IntKind.i64.wrap (k : Int) = (k : Int) := by rw [IntKind.wrap_i64]; omega
              have wmi : IntKind.i64.wrap (m : Int) = (m : Int) := by rw [IntKind.wrap_i64]; omega
              have hm4 : (((m : Int) + 1) == 0) = false := by simp; omega
              have hm2 : (0 : Int) ≤ (m : Int) ∧ (m : Int) < ((m + 1 : Nat) : Int) := by omega
              have hm3 : (0 : Int) ≤ (m : Int) ∧ (m : Int) < (m : Int) + 1 := by omega
              go_wp2_with fail
              have S3 := S2.out.1
              generalize hbk : bs[k]'(by rw [SPW.out.len]; exact hkj) = bb at *
              have HBB : Hid (bs[k]'(by rw [SPW.out.len]; exact hkj) = bb ∧ go ≤ bb ∧ bb < w6.heap.size ∧ w6.cell? ⟨bb, m, none⟩ = some (U x) ∧ w6.frozen? ⟨bb, m, none⟩ = false ∧ gs < w6.heap.size ∧ w6.cell? ⟨gs, off + k, none⟩ = some (.slice tp (m + 1) tc) ∧ w6.cell? ⟨go, k, none⟩ = some (.slice (some ⟨bb, 0, none⟩) (m + 1) oc) ∧ go < w6.heap.size) := ⟨hbk, HB0.out⟩
              clear HB0 S3 hbk hcx hco hcl hfr
              obtain ⟨V1, hV1⟩ : ∃ W9, W9 = wr.drew := ⟨_, rfl⟩
              have hbd : Below wr.heap.size wr V1 := by rw [hV1]; exact bDrew1 (Below.refl _ _)
              replace hbw := Below.on hbw hbd
              clear hbd
              have HJ : Hid ((fun W' : World => W'.cell? ⟨gs, off + k, none⟩ = some (.slice tp (m + 1) tc) ∧ W'.cell? ⟨go, k, none⟩ = some (.slice (some ⟨bb, 0, none⟩) (m + 1) oc) ∧ W'.cell? ⟨bb, m, none⟩ = some (U x)) V1) := ⟨((hbw.cell (p := ⟨gs, off + k, none⟩) HBB.out.2.2.2.2.2.1).trans HBB.out.2.2.2.2.2.2.1), ((hbw.cell (p := ⟨go, k, none⟩) HBB.out.2.2.2.2.2.2.2.2).trans HBB.out.2.2.2.2.2.2.2.1), ((hbw.cell (p := ⟨bb, m, none⟩) HBB.out.2.2.1).trans HBB.out.2.2.2.1)⟩
              refine wp_region_L (fun W' => W'.cell? ⟨gs, off + k, none⟩ = some (.slice tp (m + 1) tc) ∧ W'.cell? ⟨go, k, none⟩ = some (.slice (some ⟨bb, 0, none⟩) (m + 1) oc) ∧ W'.cell? ⟨bb, m, none⟩ = some (U x)) 16 (by kernel_rfl) ?_
              rw [← hV1]
              clear hV1
              refine wpL_take (i := 0) (v := ?v1x0) rfl (by kernel_rfl) (by kernel_rfl) (by kernel_rfl) (fun _ _ _ h => h) (by kernel_rfl) ?hy1x0 HJ.out ?rest1x0
              case hy1x0 => (intro W' hJ; obtain ⟨j0, j1, j2⟩ := hJ; go_simp; first | done | with_reducible rfl)
              refine wpL_take (i := 1) (v := ?v2x1) rfl (by kernel_rfl) (by kernel_rfl) (by kernel_rfl) (fun _ _ _ h => h) (by kernel_rfl) ?hy2x1 HJ.out ?rest2x1
              case hy2x1 => (intro W' hJ; obtain ⟨j0, j1, j2⟩ := hJ; go_simp; first | done | with_reducible rfl)
              refine wpL_take (i := 2) (v := ?v3x2) rfl (by kernel_rfl) (by kernel_rfl) (by kernel_rfl) (fun _ _ _ h => h) (by kernel_rfl) ?hy3x2 HJ.out ?rest3x2
              case hy3x2 => (intro W' hJ; obtain ⟨j0, j1, j2⟩ := hJ; go_simp; first | done | with_reducible rfl)
              refine wpL_take (i := 3) (v := ?v4x3) rfl (by kernel_rfl) (by kernel_rfl) (by kernel_rfl) (fun _ _ _ h => h) (by kernel_rfl) ?hy4x3 HJ.out ?rest4x3
              case hy4x3 => (intro W' hJ; obtain ⟨j0, j1, j2⟩ := hJ; go_simp; first | done | with_reducible rfl)
              refine wpL_take (i := 4) (v := ?v5x4) rfl (by kernel_rfl) (by kernel_rfl) (by kernel_rfl) (fun _ _ _ h => h) (by kernel_rfl) ?hy5x4 HJ.out ?rest5x4
              case hy5x4 => (intro W' hJ; obtain ⟨j0, j1, j2⟩ := hJ; go_simp; first | done | with_reducible rfl)
              go_simp
              refine wpL_take (i := 5) (v := ?v6x5) rfl (by kernel_rfl) (by kernel_rfl) (by kernel_rfl) (fun _ _ _ h => h) (by kernel_rfl) ?hy6x5 HJ.out ?rest6x5
              case hy6x5 => (intro W' hJ; obtain ⟨j0, j1, j2⟩ := hJ; go_simp; first | done | with_reducible rfl)
              refine wpL_take (i := 6) (v := ?v7x6) rfl (by kernel_rfl) (by kernel_rfl) (by kernel_rfl) (fun _ _ _ h => h) (by kernel_rfl) ?hy7x6 HJ.out ?rest7x6
              case hy7x6 => (intro W' hJ; obtain ⟨j0, j1, j2⟩ := hJ; go_simp; first | done | with_reducible rfl)
              refine wpL_take (i := 7) (v := ?v8x7) rfl (by kernel_rfl) (by kernel_rfl) (by kernel_rfl) (fun _ _ _ h => h) (by kernel_rfl) ?hy8x7 HJ.out ?rest8x7
              case hy8x7 => (intro W' hJ; obtain ⟨j0, j1, j2⟩ := hJ; go_simp; first | done | with_reducible rfl)
              refine wpL_take (i := 8) (v := ?v9x8) rfl (by kernel_rfl) (by kernel_rfl) (by kernel_rfl) (fun _ _ _ h => h) (by kernel_rfl) ?hy9x8 HJ.out ?rest9x8
              case hy9x8 => (intro W' hJ; obtain ⟨j0, j1, j2⟩ := hJ; go_simp; first | done | with_reducible rfl)
              refine wpL_take (i := 9) (v := ?v10x9) rfl (by kernel_rfl) (by kernel_rfl) (by kernel_rfl) (fun _ _ _ h => h) (by kernel_rfl) ?hy10x9 HJ.out ?rest10x9
              case hy10x9 => (intro W' hJ; obtain ⟨j0, j1, j2⟩ := hJ; go_simp; first | done | with_reducible rfl)
              go_simp
              refine wpL_take (i := 10) (v := ?v11x10) rfl (by kernel_rfl) (by kernel_rfl) (by kernel_rfl) (fun _ _ _ h => h) (by kernel_rfl) ?hy11x10 HJ.out ?rest11x10
              case hy11x10 => (intro W' hJ; obtain ⟨j0, j1, j2⟩ := hJ; go_simp; first | done | with_reducible rfl)
              refine wpL_take (i := 11) (v := ?v12x11) rfl (by kernel_rfl) (by kernel_rfl) (by kernel_rfl) (fun _ _ _ h => h) (by kernel_rfl) ?hy12x11 HJ.out ?rest12x11
              case hy12x11 => (intro W' hJ; obtain ⟨j0, j1, j2⟩ := hJ; go_simp; first | done | with_reducible rfl)
              refine wpL_take (i := 12) (v := ?v13x12) rfl (by kernel_rfl) (by kernel_rfl) (by kernel_rfl) (fun _ _ _ h => h) (by kernel_rfl) ?hy13x12 HJ.out ?rest13x12
              case hy13x12 => (intro W' hJ; obtain ⟨j0, j1, j2⟩ := hJ; go_simp; first | done | with_reducible rfl)
              refine wpL_take (i := 13) (v := ?v14x13) rfl (by kernel_rfl) (by kernel_rfl) (by kernel_rfl) (fun _ _ _ h => h) (by kernel_rfl) ?hy14x13 HJ.out ?rest14x13
              case hy14x13 => (intro W' hJ; obtain ⟨j0, j1, j2⟩ := hJ; go_simp; first | done | with_reducible rfl)
              refine wpL_take (i := 14) (v := ?v15x14) rfl (by kernel_rfl) (by kernel_rfl) (by kernel_rfl) (fun _ _ _ h => h) (by kernel_rfl) ?hy15x14 HJ.out ?rest15x14
              case hy15x14 => (intro W' hJ; obtain ⟨j0, j1, j2⟩ := hJ; go_simp; first | done | with_reducible rfl)
              go_simp
              refine wpL_take (i := 15) (v := ?v16x15) rfl (by kernel_rfl) (by kernel_rfl) (by kernel_rfl) (fun _ _ _ h => h) (by kernel_rfl) ?hy16x15 HJ.out ?rest16x15
              case hy16x15 => (intro W' hJ; obtain ⟨j0, j1, j2⟩ := hJ; go_simp; first | done | with_reducible rfl)
              go_simp
              have hcl := (hbw.cell (p := ⟨bb, m, none⟩) HBB.out.2.2.1).trans HBB.out.2.2.2.1
              have hfr := (hbw.frozen (p := ⟨bb, m, none⟩) HBB.out.2.2.1).trans HBB.out.2.2.2.2.1
              refine wpL_last (by kernel_rfl) rfl (by kernel_rfl) (fun KJ hK => ?_)
              go_simp
              refine hK _ _ ?_
              clear hK HJ
              refine wpL_done (by kernel_rfl) ?_ _
              obtain ⟨js2, hL2⟩ := (SPW.out.below hbw).write (LS.out.below hbw) (k := k) (m := m) (y := y) hkj (by rw [SPW.out.len]; exact hkj) (by rw [S2.out.2, HM.out]; omega) hyb
              rw [HBB.out.1] at hL2
              have hbwx := bSet (Below.on hbw6 hbw) bb m (U y) (Nat.le_trans HWG.out HBB.out.2.1)
              generalize V1.setCell ⟨bb, m, none⟩ (U y) = W7 at *
              have LX : Hid (LsA W7 (some ⟨go, 0, none⟩) (k + 1) (k + 1 + 2) js2) := hL2
              clear hL2 hcl hfr hbw
              have hbw := hbwx
              clear hbwx
              go_wp2_with fail
              refine (product_all LX.out).mono ?_
              rintro e v5 ⟨p5, m5, us5, f5, rfl, hA5, hP5, hb5⟩
              have A5 : Hid (At v5 p5 m5 m5 us5) := hA5
              have P5 : Hid (PrIs js2 us5 f5) := hP5
              clear hA5 hP5
              replace LX : Hid (LsA v5 (some ⟨go, 0, none⟩) (k + 1) (k + 1 + 2) js2) := LX.out.below hb5
              replace hbw := Below.on hbw hb5
              clear hb5
              go_wp2_with fail
              refine (docprod_all LX.out).mono ?_
              rintro e v6 ⟨p6, m6, N6, us6, f6, rfl, hA6, hP6, hb6⟩
              obtain ⟨ez, ef⟩ := P5.out.inj hP6
              subst ez ef
              have A6 : Hid (At v6 p6 m6 N6 us5) := hA6
              clear hA6 hP6
              replace LX : Hid (LsA v6 (some ⟨go, 0, none⟩) (k + 1) (k + 1 + 2) js2) := LX.out.below hb6
              replace A5 : Hid _ := A5.out.below hb6
              replace hbw := Below.on hbw hb6
              clear hb6
              go_wp2_with fail
              refine (same_t A5.out A6.out).mono ?_
              rintro e v7 ⟨rfl, hb7⟩
              replace LX : Hid (LsA v7 (some ⟨go, 0, none⟩) (k + 1) (k + 1 + 2) js2) := LX.out.below hb7
              replace A5 : Hid _ := A5.out.below hb7
              replace A6 : Hid _ := A6.out.below hb7
              replace hbw := Below.on hbw hb7
              clear hb7
              go_wp2_with fail
              go_ret
              exact ⟨rfl, hbw⟩
end Go.Proofs.Ytimjajoddmbjlaa
