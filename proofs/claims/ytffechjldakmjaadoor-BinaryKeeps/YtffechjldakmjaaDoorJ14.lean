import Derived.Deep.DeepAppendRoom
import Derived.Maps.AppendAt
import Derived.OwnWalk
import Derived.Test.YtffechjldakmjaaDoorJ13
import Derived.Test.YtffechjldakmjaaDoorJ8
import Derived.ArgAppend
import Derived.Deep.DeepAppendWide
import Derived.Test.YtffechjldakmjaaDoorJ12
namespace Go.Proofs.YtffechjldakmjaaDoor
open Go.RowKit Go.Shelf
set_option maxRecDepth 20000
set_option maxHeartbeats 0
def itv (t : It) : Value := .slice t.p t.n t.c
structure LsA (w : World) (P : Option Addr) (N C : Nat) (its : List It) : Prop where
  len : its.length = N
  cap : N ≤ C
  big : C ≤ maxLen
  cells : N = 0 ∨ ∃ g off, P = some ⟨g, off, none⟩ ∧ ∀ j (h : j < its.length), w.cell? ⟨g, off + j, none⟩ = some (.slice its[j].p its[j].n its[j].c)
  ats : ∀ t ∈ its, At w t.p t.n t.c t.xs ∧ t.n ≤ 17592186044416 ∧ t.a = valB B64 t.xs
theorem LsA.below {w w' : World} {P : Option Addr} {N C : Nat} {its : List It} (h : LsA w P N C its) (hb : Below w.heap.size w w') : LsA w' P N C its := by
  refine ⟨h.len, h.cap, h.big, ?_, fun t ht => ⟨(h.ats t ht).1.below hb, (h.ats t ht).2⟩⟩
  rcases h.cells with h0 | ⟨g, off, rfl, hc⟩
  · exact .inl h0
  · exact .inr ⟨g, off, rfl, fun j hj => (hb.cell (p := ⟨g, off + j, none⟩) (World.block_lt_of_cell? w _ (hc j hj))).trans (hc j hj)⟩
theorem LsA.nums {w : World} {P : Option Addr} {N C : Nat} {its : List It} (h : LsA w P N C its) (hf : ∀ t ∈ its, formB t.xs = true) : Lists w P N C its :=
  ⟨h.len, h.cap, h.big, h.cells, fun t ht => ⟨(h.ats t ht).1, by rw [(h.ats t ht).2.2]; exact nf_of_form (h.ats t ht).1.dig (hf t ht), by rw [← (h.ats t ht).1.len]; exact ((formB_iff _).1 (hf t ht)).1⟩⟩
theorem At.grow {w w' : World} {g n c : Nat} {xs : List Nat} {row : Option Nat} (h : At w (some ⟨g, 0, none⟩) n c xs) (hg : w.grownBy w' row) (hne : some g ≠ row) : At w' (some ⟨g, 0, none⟩) n c xs := by
  refine ⟨h.len, h.cap, h.big, h.dig, ?_⟩
  rcases h.cells with h1 | ⟨g', off, h1, h2⟩
  · exact .inl h1
  · refine .inr ⟨g', off, h1, fun j hj => hg.cell (h2 j hj) ?_⟩
    simp only [Option.some.injEq, Addr.mk.injEq] at h1
    obtain ⟨rfl, _⟩ := h1
    exact hne
theorem Tryd.infoSl : (Tryd.prog.info? 25).map (fun i => (i.zero, i.size, i.bytes)) = some (some (.slice none 0 0), 1, 24) := by kernel_rfl
theorem cell_new1 (w : World) (v : Value) (ty : TypeId) : ∀ j u, [v][j]? = some u → (w.alloc (.cells #[v] ty)).cell? ((⟨w.heap.size, 0, none⟩ : Addr).add j) = some u := by
  intro j u h
  match j with
  | 0 => simp at h; subst h; simp [Addr.add]
def Cps (w : World) (g : Nat) (js its : List It) : Prop := js.map It.xs = its.map It.xs ∧ js.map It.a = its.map It.a ∧ ∀ t ∈ js, (∃ b, t.p = some ⟨b, 0, none⟩ ∧ b ≠ g) ∧ At w t.p t.n t.c t.xs ∧ t.n ≤ 17592186044416 ∧ t.a = valB B64 t.xs
theorem Cps.below {w w' : World} {g : Nat} {js its : List It} (h : Cps w g js its) (hb : Below w.heap.size w w') : Cps w' g js its := ⟨h.1, h.2.1, fun t ht => ⟨(h.2.2 t ht).1, (h.2.2 t ht).2.1.below hb, (h.2.2 t ht).2.2⟩⟩
theorem Cps.grow {w w' : World} {g : Nat} {js its : List It} (h : Cps w g js its) (hg : w.grownBy w' (some g)) : Cps w' g js its := ⟨h.1, h.2.1, fun t ht => by
  obtain ⟨⟨b, h1, h2⟩, h3, h4⟩ := h.2.2 t ht
  refine ⟨⟨b, h1, h2⟩, ?_, h4⟩
  rw [h1] at h3 ⊢
  exact h3.grow hg (fun e => h2 (Option.some.inj e))⟩
theorem Cps.snoc {w : World} {g : Nat} {js its : List It} {t u : It} (h : Cps w g js its) (hx : t.xs = u.xs) (ha : t.a = u.a) (hp : ∃ b, t.p = some ⟨b, 0, none⟩ ∧ b ≠ g) (hA : At w t.p t.n t.c t.xs ∧ t.n ≤ 17592186044416 ∧ t.a = valB B64 t.xs) : Cps w g (js ++ [t]) (its ++ [u]) := by
  refine ⟨by rw [List.map_append, List.map_append, h.1, List.map_singleton, List.map_singleton, hx], by rw [List.map_append, List.map_append, h.2.1, List.map_singleton, List.map_singleton, ha], fun s hs => ?_⟩
  rcases List.mem_append.1 hs with h1 | h1
  · exact h.2.2 s h1
  · rw [List.mem_singleton.1 h1]; exact ⟨hp, hA⟩
end Go.Proofs.YtffechjldakmjaaDoor
namespace Go.Proofs.YtffechjldakmjaaDoor
open Go.RowKit
set_option maxRecDepth 20000
set_option maxHeartbeats 0
variable {P : Program} {md : Region.Mode} {ops : Array Oper} {Q : Exit → Act → World → Prop} {J : World → Prop} {L : Nat}

def ClosedL (md : Region.Mode) (ops : Array Oper) (listed : Array Bool) : Prop :=
  ∀ (k : Nat) (o : Oper), ops[k]? = some o → listed.getD k false = true → ∀ e ∈ o.after, Region.binds md e = true → listed.getD e.on false = true
theorem ClosedL.step {listed : Array Bool} (h : ClosedL md ops listed) {j : Nat} (hj : j ∈ Region.ready md ops listed) : ClosedL md ops (listed.setIfInBounds j true) := by
  intro k o ho hk e he hb
  obtain ⟨h0, oj, hoj, hall⟩ := mem_ready.1 hj
  by_cases hjk : j = k
  · subst hjk
    rw [hoj] at ho
    obtain rfl := Option.some.inj ho
    exact getD_set_true (hall e he hb)
  · rw [getD_set_ne false hjk] at hk
    exact getD_set_true (h k o ho hk e he hb)
end Go.Proofs.YtffechjldakmjaaDoor
namespace Go.Proofs.YtffechjldakmjaaDoor
open Go.RowKit Go.Shelf
set_option maxRecDepth 20000
set_option maxHeartbeats 0
def mkN (i j : Nat) : Nat := 11944390636716687360 + (i + 1) * 16777216 + j
theorem mkN_lt {i j : Nat} (hi : i ≤ 1000000) (hj : j < 1000000000000000000) : mkN i j < B64 := by unfold mkN; show _ < 18446744073709551616; omega
structure LQ (w : World) (B go off N : Nat) (p : Nat → Option Addr) (n b : Nat → Nat) (X : Nat → List Nat) : Prop where
  cells : ∀ i, i < N → w.cell? ⟨go, off + i, none⟩ = some (.slice (p i) (n i) (n i))
  addr : ∀ i, i < N → n i = 0 ∨ p i = some ⟨b i, 0, none⟩
  pn : ∀ i, i < N → p i = none → n i = 0
  row : ∀ i, i < N → Row w (b i) 0 (n i) (X i)
  ge : ∀ i, i < N → B ≤ b i
  le : ∀ i, i < N → n i ≤ 17592186044496
  ne : ∀ i, i < N → n i ≠ 0 → b i ≠ go
  dist : ∀ i j, i < N → j < N → i ≠ j → n i ≠ 0 → n j ≠ 0 → b i ≠ b j
theorem row_lt7 {w : World} {g off n : Nat} {xs : List Nat} (h : Row w g off n xs) (hn : n ≠ 0) : g < w.heap.size := World.block_lt_of_cell? w _ (h.cell 0 (by omega))
theorem row_none {w : World} {g off n : Nat} {xs : List Nat} (h : Row w g off n xs) (hn : n = 0) (w' : World) (g' : Nat) : Row w' g' 0 n xs := ⟨h.len, h.dig, fun j hj => by omega, fun j hj => by omega⟩
theorem Row.setNo {w : World} {g n : Nat} {xs : List Nat} (h : Row w g 0 n xs) (g2 o2 : Nat) (v : Value) (hne : g ≠ g2) : Row (w.setCell ⟨g2, o2, none⟩ v) g 0 n xs :=
  ⟨h.len, h.dig, fun j hj => (World.cell?_setCell_other _ _ _ _ (by intro e; exact hne (congrArg Addr.block e).symm)).trans (h.cell j hj), fun j hj => by rw [World.frozen?_setCell]; exact h.frozen j hj⟩
theorem LQ.set {w : World} {B go off N : Nat} {p : Nat → Option Addr} {n b : Nat → Nat} {X : Nat → List Nat} (h : LQ w B go off N p n b X) {i j y : Nat} (hi : i < N) (hj : j < n i) (hy : y < B64) :
    LQ (w.setCell ⟨b i, j, none⟩ (U y)) B go off N p n b (fun k => if k = i then (X i).set j y else X k) := by
  refine ⟨fun k hk => ?_, h.addr, h.pn, fun k hk => ?_, h.ge, h.le, h.ne, h.dist⟩
  · exact (World.cell?_setCell_other _ _ _ _ (by intro e; exact h.ne i hi (by omega) (congrArg Addr.block e))).trans (h.cells k hk)
  · by_cases e : k = i
    · subst e
      rw [if_pos rfl]
      have := (h.row k hk).set j y hj hy
      rw [Nat.zero_add] at this
      exact this
    · rw [if_neg e]
      by_cases h0 : n k = 0
      · exact row_none (h.row k hk) h0 _ _
      · exact (h.row k hk).setNo _ _ _ (h.dist k i hk hi e h0 (by omega))
theorem LQ.below {w w' : World} {B go off N : Nat} {p : Nat → Option Addr} {n b : Nat → Nat} {X : Nat → List Nat} (h : LQ w B go off N p n b X) (hb : Below w.heap.size w w') : LQ w' B go off N p n b X :=
  ⟨fun i hi => (hb.cell (p := ⟨go, off + i, none⟩) (World.block_lt_of_cell? w _ (h.cells i hi))).trans (h.cells i hi), h.addr, h.pn, fun i hi => by
    by_cases h0 : n i = 0
    · exact row_none (h.row i hi) h0 _ _
    · exact (h.row i hi).below hb (row_lt7 (h.row i hi) h0), h.ge, h.le, h.ne, h.dist⟩
def Mkd (n : Nat → Nat) (X : Nat → List Nat) (k : Nat) : Prop := ∀ m, m < n k → (X k).getD m 0 = mkN k m
theorem mkd_succ {n : Nat → Nat} {X : Nat → List Nat} {i : Nat} (h : ∀ k, k < i → Mkd n X k) (h2 : ∀ m, m < n i → (X i).getD m 0 = mkN i m) : ∀ k, k < i + 1 → Mkd n X k := by
  intro k hk
  rcases Nat.lt_or_ge k i with h1 | h1
  · exact h k h1
  · obtain rfl : k = i := by omega
    exact h2
theorem mark_ij (i j : Nat) (hi : i ≤ 1000000) (hj : j < 1000000000000000000) {w : World} :
    Calls Tryd.prog 24 #[.int .i64 i, .int .i64 j] w fun en w' => en = .returned (U (mkN i j)) ∧ w' = w := by
  have h0 : wrap64 ((i : Int) + 1) = (i : Int) + 1 := by simp only [wrap64]; omega
  have h1 : IntKind.u64.wrap (j : Int) = (j : Int) := by rw [IntKind.wrap_u64]; omega
  have h3 : IntKind.u64.wrap ((i : Int) + 1) = (i : Int) + 1 := by rw [IntKind.wrap_u64]; omega
  go_enter Tryd.func24, Tryd.ntmps24
  go_wp2_with fail
  go_ret
  exact ⟨rfl, rfl⟩
theorem wpList_append_full {P : Program} (w : World) {ops : Array Oper} {rest : List Oper} {o : Oper} {a : Act} {Q : Exit → Act → World → Prop}
    (hg : o.guard = none) (s x : Operand) (t : TypeId) (hop : o.op = Op.call { callee := Callee.builtin Builtin.append, args := #[s, x], argTypes := #[t, t] })
    (e : TypeId) (i : TypeInfo) (z : Value) (size bytes : Nat) (h1 : P.underlying t = some (.slice e)) (h2 : P.info? e = some i) (h3 : i.zero = some z) (h4 : i.size = size) (h5 : i.bytes = bytes) (h6 : z.cells.size = size) (h7 : 0 < size)
    (p : Option Addr) (n : Nat) (olds : List Value) (hs : a.eval s = .slice p n n) (hp0 : p = none → n = 0) (hlo : olds.length = n * size) (holds : ∀ b, p = some b → ∀ j u, olds[j]? = some u → w.cell? (b.add j) = some u)
    (ad : Addr) (m c : Nat) (news : List Value) (hx : a.eval x = .slice (some ad) m c) (hn : news.length = m * size) (hc : ∀ j u, news[j]? = some u → w.cell? (ad.add j) = some u) (h1c : ∀ u ∈ news, u.oneCell' = true)
    (hm : 0 < m) (b1 : n + m ≤ maxLen) (b2 : ((n + m) + (n + m) / 4 + 192) * bytes ≤ 281474976710656)
    (hgrow : ∀ v' w', w'.ownsRow w.heap.size e size v' (n + m) (olds ++ news) → w.grownBy w' none → wpList P ops Q rest (a.put o.dst v') w') :
    wpList P ops Q (o :: rest) a w := by
  refine wpList_plain hg fun K hK' => ?_
  have hrun : ∃ v' w', (Builtin.append_ #[t, t] o.type #[.slice p n n, .slice (some ad) m c]).run P w = .ok v' w' ∧ w'.ownsRow w.heap.size e size v' (n + m) (olds ++ news) ∧ w.grownBy w' none := by
    cases p with
    | none =>
      obtain rfl := hp0 rfl
      obtain rfl : olds = [] := List.eq_nil_of_length_eq_zero (by omega)
      obtain ⟨v', w', r1, r2, r3, _⟩ := run_append_own_wide (P := P) w w.heap.size t o.type e i z size bytes h1 h2 h3 h4 h5 h6 h7 (.slice none 0 0) 0 [] ⟨by simp, .inl ⟨rfl, rfl⟩⟩ ad m c news hn hc h1c b1 b2 (Nat.le_refl _)
      exact ⟨v', w', r1, r2, r3⟩
    | some b =>
      subst h4 h5
      have hf : n < n + m := by omega
      have hln : (olds ++ news).length = (n + m) * i.size := by rw [List.length_append, hlo, hn, Nat.add_mul]
      have hg1 := grownCap_ge w (n + m) n e
      have hg2 := grownCap_le_maxLen w (n + m) n e b1
      have hr := run_append_grow (P := P) w t o.type e i z h1 h2 h3 b n n olds hlo (holds b rfl) ad m c news hn hc hf (by unfold maxLen at b1; omega) (growslice_fits_wide hf b2)
      refine ⟨_, _, hr, ⟨hln, .inr ⟨w.heap.size, _, _, rfl, Nat.le_refl _, heap_alloc_new w.drew _, hg1, hg2, ?_, ?_⟩⟩, ⟨rfl, rfl, rfl, by simp, fun k hk _ => _root_.Go.heap_alloc_old w.drew _ hk⟩⟩
      · simp only [Array.size_append, List.size_toArray, size_zeroCells, h6, hlo, hn, ← Nat.add_mul]
        congr 1
        omega
      · rw [Array.toList_append, Array.toList_append, ← hln]
        exact List.take_left
  obtain ⟨v', w', r1, r2, r3⟩ := hrun
  unfold Oper.wp
  simp [execOp, hop, resolve, invoke, builtin, hs, hx, r1, Result.andThen]
  exact hK' _ _ (hgrow v' w' r2 r3)
def mks (i m : Nat) : List Nat := (List.range m).map (mkN i)
theorem mks_len (i m : Nat) : (mks i m).length = m := by simp [mks]
theorem mks_succ (i m : Nat) : mks i (m + 1) = mks i m ++ [mkN i m] := by unfold mks; rw [List.range_succ, List.map_append]; rfl
theorem mks_get {i m j : Nat} (h : j < m) : (mks i m).getD j 0 = mkN i j := by
  unfold mks
  rw [List.getD_eq_getElem?_getD, List.getElem?_map, List.getElem?_range h]
  rfl
theorem mks_eq {xs : List Nat} {i m : Nat} (hl : xs.length = m) (h : ∀ j, j < m → xs.getD j 0 = mkN i j) : xs = mks i m := by
  refine List.ext_getElem (by rw [hl, mks_len]) fun j h1 h2 => ?_
  have e : xs.getD j 0 = (mks i m).getD j 0 := by rw [h j (by omega), mks_get (by omega)]
  rw [List.getD_eq_getElem?_getD, List.getD_eq_getElem?_getD, List.getElem?_eq_getElem h1, List.getElem?_eq_getElem h2] at e
  exact e
theorem mks_dig {i m : Nat} (hi : i ≤ 1000000) (hm : m < 1000000000000000000) : Dig B64 (mks i m) := by
  intro x hx
  obtain ⟨j, hj, rfl⟩ := List.mem_map.1 hx
  exact mkN_lt hi (Nat.lt_trans (List.mem_range.1 hj) hm)
theorem own_ob7 {w : World} {B k : Nat} {e : TypeId} {v : Value} {xs : List Value} (h : w.ownsRow B e 1 v k xs) {b : Nat} (hb : v.ownBlock = some b) : B ≤ b ∧ b < w.heap.size := by
  rcases h.2 with ⟨h2, _⟩ | ⟨g', cap, cur, h2, h3, h4, h5⟩
  · rw [h2] at hb; cases hb
  · rw [h2] at hb
    cases hb
    exact ⟨h3, (Array.getElem?_eq_some_iff.1 h4).1⟩
theorem ownAny7 {w w' : World} {B k : Nat} {e : TypeId} {v : Value} {xs : List Value} (h : w.ownsRow B e 1 v k xs) (hb : Below w.heap.size w w') : w'.ownsRow B e 1 v k xs := by
  refine ⟨h.1, ?_⟩
  rcases h.2 with h2 | ⟨g, cap, cur, h2, h3, h4, h5⟩
  · exact .inl h2
  · have hg : g < w.heap.size := by
      rcases Nat.lt_or_ge g w.heap.size with h6 | h6
      · exact h6
      · rw [Array.getElem?_eq_none h6] at h4; cases h4
    exact .inr ⟨g, cap, cur, h2, h3, (hb.block _ hg).trans h4, h5⟩
theorem own_mono {w : World} {B B' k : Nat} {e : TypeId} {v : Value} {xs : List Value} (h : w.ownsRow B e 1 v k xs) (hB : B' ≤ B) : w.ownsRow B' e 1 v k xs := by
  refine ⟨h.1, ?_⟩
  rcases h.2 with h2 | ⟨g, cap, cur, h2, h3, h4⟩
  · exact .inl h2
  · exact .inr ⟨g, cap, cur, h2, Nat.le_trans hB h3, h4⟩
theorem own_sl7 {w : World} {B k i : Nat} {v : Value} (h : w.ownsRow B 23 1 v (k + 1) (cellsU (mks i (k + 1)))) (hi : i ≤ 1000000) (hk : k + 1 < 1000000000000000000) :
    ∃ g cap, v = .slice (some ⟨g, 0, none⟩) (k + 1) cap ∧ B ≤ g ∧ g < w.heap.size ∧ At w (some ⟨g, 0, none⟩) (k + 1) cap (mks i (k + 1)) := by
  rcases h.2 with ⟨_, h2⟩ | ⟨g, cap, cur, h2, h3, h4, h5, h6, h7, h8⟩
  · omega
  · have hd := mks_dig hi hk
    refine ⟨g, cap, h2, h3, (Array.getElem?_eq_some_iff.1 h4).1, mks_len _ _, h5, h6, hd, .inr ⟨g, 0, rfl, fun jj hj => ?_⟩⟩
    rw [Nat.zero_add, cell_of_row w g jj _ _ _ h4]
    have e1 := cellsU_get (mks i (k + 1)) jj (by rw [mks_len]; exact hj)
    rw [← h8, Nat.mul_one, List.getElem?_take, if_pos hj] at e1
    rw [← Array.getElem?_toList]; exact e1
theorem full_cells {w w' : World} {B go off N i ni : Nat} {p : Nat → Option Addr} {n b : Nat → Nat} {X : Nat → List Nat} {pi : Option Addr} (h : LQ w B go off N p n b X) (hm : Mkd n X i) (hi : i < N) (e1 : ni = n i) (e2 : pi = p i) (hb : Below w.heap.size w w') :
    ∀ c, pi = some c → ∀ j u, (cellsU (mks i ni))[j]? = some u → w'.cell? (c.add j) = some u := by
  intro c hc j u hu
  have hr := h.row i hi
  have ex : X i = mks i (n i) := mks_eq hr.len hm
  have hj : j < n i := by
    rcases Nat.lt_or_ge j (n i) with h1 | h1
    · exact h1
    · rw [List.getElem?_eq_none (by rw [cellsU_length, mks_len, e1]; exact h1)] at hu; cases hu
  have hp := (h.addr i hi).resolve_left (by omega)
  rw [e2, hp] at hc
  cases hc
  have hcl := hr.cell j hj
  rw [Nat.zero_add] at hcl
  have hadd : (⟨b i, 0, none⟩ : Addr).add j = ⟨b i, j, none⟩ := by unfold Addr.add; split <;> simp_all
  rw [hadd, (hb.cell (p := ⟨b i, j, none⟩) (World.block_lt_of_cell? w _ hcl)).trans hcl, ex]
  rw [cellsU_get _ _ (by rw [mks_len, e1]; exact hj), e1] at hu
  exact hu
structure GQ (w : World) (fo : Option Nat) (N : Nat) (Gs : List It) : Prop where
  blk : ∀ q (h : q < Gs.length), ∃ b, Gs[q].p = some ⟨b, 0, none⟩ ∧ some b ≠ fo ∧ b < w.heap.size
  at_ : ∀ q (h : q < Gs.length), At w Gs[q].p Gs[q].n Gs[q].c Gs[q].xs
  mrk : ∀ q (h : q < Gs.length), ∀ m, m < Gs[q].n → Gs[q].xs.getD m 0 = mkN (q % N) m
  le : ∀ q (h : q < Gs.length), Gs[q].n ≤ 17592186044596
theorem GQ.below {w w' : World} {fo : Option Nat} {N : Nat} {Gs : List It} (h : GQ w fo N Gs) (hb : Below w.heap.size w w') : GQ w' fo N Gs :=
  ⟨fun q hq => by obtain ⟨b, h1, h2, h3⟩ := h.blk q hq; exact ⟨b, h1, h2, Nat.lt_of_lt_of_le h3 hb.size⟩, fun q hq => (h.at_ q hq).below hb, h.mrk, h.le⟩
theorem GQ.grow {w w' : World} {fo fo' : Option Nat} {N : Nat} {Gs : List It} (h : GQ w fo N Gs) (hg : w.grownBy w' fo) (hf : fo' = fo ∨ fo' = some w.heap.size) : GQ w' fo' N Gs := by
  refine ⟨fun q hq => ?_, fun q hq => ?_, h.mrk, h.le⟩
  · obtain ⟨b, h1, h2, h3⟩ := h.blk q hq
    refine ⟨b, h1, ?_, Nat.lt_of_lt_of_le h3 hg.size⟩
    rcases hf with e | e <;> rw [e]
    · exact h2
    · intro e2; have := Option.some.inj e2; omega
  · obtain ⟨b, h1, h2, h3⟩ := h.blk q hq
    have h4 := h.at_ q hq
    rw [h1] at h4 ⊢
    exact h4.grow hg h2
theorem GQ.snoc {w : World} {fo : Option Nat} {N : Nat} {Gs : List It} (h : GQ w fo N Gs) (t : It) {b : Nat} (h1 : t.p = some ⟨b, 0, none⟩) (h2 : some b ≠ fo) (h3 : b < w.heap.size) (h4 : At w t.p t.n t.c t.xs) (h5 : ∀ m, m < t.n → t.xs.getD m 0 = mkN (Gs.length % N) m) (h6 : t.n ≤ 17592186044596) : GQ w fo N (Gs ++ [t]) := by
  have key : ∀ q (hq : q < (Gs ++ [t]).length), (∃ hq2 : q < Gs.length, (Gs ++ [t])[q] = Gs[q]) ∨ (q = Gs.length ∧ (Gs ++ [t])[q] = t) := by
    intro q hq
    rcases Nat.lt_or_ge q Gs.length with h7 | h7
    · exact .inl ⟨h7, List.getElem_append_left h7⟩
    · have e : q = Gs.length := by rw [List.length_append, List.length_singleton] at hq; omega
      subst e
      exact .inr ⟨rfl, by simp⟩
  refine ⟨fun q hq => ?_, fun q hq => ?_, fun q hq => ?_, fun q hq => ?_⟩ <;> rcases key q hq with ⟨hq2, e⟩ | ⟨e1, e⟩ <;> rw [e]
  · exact h.blk q hq2
  · exact ⟨b, h1, h2, h3⟩
  · exact h.at_ q hq2
  · exact h4
  · exact h.mrk q hq2
  · rw [e1]; exact h5
  · exact h.le q hq2
  · exact h6
def MidK (f : Int) (b : Nat) : Prop := ∃ er z e : Int, (∀ w, Tab w → Calls Tryd.prog 6 #[.int .i64 f, U b] w fun en w' => ∃ s p m, en = .returned (.tuple #[DV s p m m e, .int .i64 er]) ∧ DO w.heap.size w' s p m e z ∧ Below w.heap.size w w') ∧ (∀ w, Calls Tryd.prog 8 #[.int .i64 f, U b] w fun en w' => ∃ s p m c, en = .returned (.tuple #[DV s p m c e, .int .i64 er]) ∧ DN w' s p m c e z ∧ Below w.heap.size w w')
def ValK (f : Int) (b : Nat) : Prop := ∃ er z e : Int, (∀ w, Tab w → Calls Tryd.prog 5 #[.int .i64 f, U b] w fun en w' => ∃ s p m, en = .returned (.tuple #[DV s p m m e, .int .i64 er]) ∧ DO w.heap.size w' s p m e z ∧ Below w.heap.size w w') ∧ (∀ w, Calls Tryd.prog 7 #[.int .i64 f, U b] w fun en w' => ∃ s p m c, en = .returned (.tuple #[DV s p m c e, .int .i64 er]) ∧ DN w' s p m c e z ∧ Below w.heap.size w w')
theorem do_z0 (B : Nat) (w : World) : DO B w false none 0 0 0 := ⟨⟨[], ⟨rfl, Dig.nil _, .inl rfl⟩, Nf.nil _, by omega⟩, rfl, .inl ⟨rfl, rfl⟩⟩
theorem AnsD.own {B : Nat} {w' : World} {v : Value} {z e : Int} (h : AnsD B w' v z e) (hf : DFm z e) : ∃ s p m, v = DV s p m m e ∧ DO B w' s p m e z := by
  obtain ⟨p, m, zs, rfl, ho, hn, hm⟩ := h
  exact ⟨_, p, m, rfl, ⟨zs, ho, hn, hm⟩, rfl, hf⟩
theorem midk_err {f er : Int} {b : Nat} (he : er ≠ 0) (h1 : ∀ w, Calls Tryd.prog 34 #[.int .i64 f, U b] w fun e w' => e = .returned (.tuple #[PV 0 0 0 false 0, .int .i64 er]) ∧ Below w.heap.size w w') (h2 : ∀ w, Calls Tryd.prog 17 #[.int .i64 f, U b] w fun e w' => e = .returned (.int .i64 er) ∧ Below w.heap.size w w') : MidK f b :=
  ⟨er, 0, 0, fun w _ => (mid_e h1 he w).mono fun _ w' ⟨h3, h4⟩ => ⟨_, _, _, h3, do_z0 _ w', h4⟩, fun w => (rmid_e h2 he w).mono fun _ w' ⟨h3, h4⟩ => ⟨_, _, _, _, h3, dn_z0 w', h4⟩⟩
theorem midk_fmt {f p m l P G : Int} {S I Q H : Nat} (F : Pm f p m l S I H) (R : Rf f S P l G I Q) (wh : ∀ (b : Nat) w, Calls Tryd.prog 20 #[FV S P l G I Q, U b] w fun en w' => ∃ v, en = .returned v ∧ GotR w.heap.size w' v (svS S H b) 2200 ∧ Below w.heap.size w w') (hc : I < S ∧ S ≤ 9223372036854775808) {b : Nat} (hb9 : b < B64) : MidK f b := by
  by_cases h1 : b < 2 * S
  · by_cases h2 : b % S < I
    · have hp := F.hp
      have hlo := F.lo
      have hst := F.st _ h2
      refine ⟨0, iv (decide (S ≤ b)) (2 * (b % S - (b % S / H - 1) * H) + 1), l - 1 + ((b % S / H - 1 : Nat) : Int), fun w hT => ?_, fun w => ?_⟩
      · refine (mid_ok F b _ _ h1 h2 rfl rfl w hT).mono fun en w' ⟨h3, h4⟩ => ?_
        have hodd : iv (decide (S ≤ b)) (2 * (b % S - (b % S / H - 1) * H) + 1) % 2 = 1 := by
          cases decide (S ≤ b)
          · rw [iv_f]; omega
          · rw [iv_t]; omega
        have hf : DFm (iv (decide (S ≤ b)) (2 * (b % S - (b % S / H - 1) * H) + 1)) (l - 1 + ((b % S / H - 1 : Nat) : Int)) := .inr ⟨hodd, by omega, by omega⟩
        obtain ⟨v, h5, h6⟩ := h3.form hf (by rw [show l - 1 + ((b % S / H - 1 : Nat) : Int) = l + ((b % S / H - 1 : Nat) : Int) - 1 from by omega])
        obtain ⟨s, p, m, rfl, h7⟩ := h6.own hf
        exact ⟨s, p, m, h5, h7, h4⟩
      · refine (rmid_o R wh b h1 h2 ⟨hc.1, hc.2, hp, hlo.1, hlo.2⟩ hst w).mono ?_
        rintro en w' ⟨g, m', c', rfl, h3, h4⟩
        exact ⟨_, _, _, _, rfl, h3, h4⟩
    · have h3 : I ≤ b % S := by omega
      refine midk_err (er := 6) (by decide) (fun w => ?_) (fun w => rfin_i R b h1 h3 (by omega) hc.2 w)
      rcases Nat.eq_or_lt_of_le h3 with h4 | h4
      · exact finite_i F b h1 h4.symm w
      · exact finite_e (fun w => ranked_nan F.fm b h1 h4 w) (by decide) w
  · exact midk_err (er := 2) (by decide) (fun w => finite_e (fun w => ranked_bad (fun w => F.fm.big b w hb9 (by omega)) (by decide) w) (by decide) w) (fun w => rfin_b R b hb9 (by omega) w)
theorem midk_all (f : Int) {b : Nat} (hb9 : b < B64) : MidK f b := by
  by_cases h1 : f = 32
  · subst h1; exact midk_fmt pm_32 rf_32 (fun b w => rwhole_32 w) (by decide) hb9
  by_cases h2 : f = 64
  · subst h2; exact midk_fmt pm_64 rf_64 (fun b w => rwhole_64 w) (by decide) hb9
  · exact midk_err (er := 1) (by decide) (fun w => finite_e (fun w => ranked_bad (fun w => patternOf_x f h1 h2 b w) (by decide) w) (by decide) w) (fun w => rfin_x f h1 h2 b w)
theorem valk_err {f : Int} {b : Nat} (h : FinB f b) : ValK f b := by
  obtain ⟨er, h1, h2, h3⟩ := h
  exact ⟨er, 0, 0, fun w _ => (value_e h2 h1 w).mono fun _ w' ⟨h3, h4⟩ => ⟨_, _, _, h3, do_z0 _ w', h4⟩, fun w => (docvalue_e h3 h1 w).mono fun _ w' ⟨h3, h4⟩ => ⟨_, _, _, _, h3, dn_z0 w', h4⟩⟩
theorem valk_fmt {f p m l P G : Int} {S I Q H L : Nat} (hL : L ≤ 2200) (hLv : ∀ b, (svS S H b).natAbs < 2 ^ L) (F : Pm f p m l S I H) (R : Rf f S P l G I Q) (wh : ∀ (b : Nat) w, Calls Tryd.prog 20 #[FV S P l G I Q, U b] w fun en w' => ∃ v, en = .returned v ∧ GotR w.heap.size w' v (svS S H b) 2200 ∧ Below w.heap.size w w') (hc : I < S ∧ S ≤ 9223372036854775808) {b : Nat} (h1 : b < 2 * S) (h2 : b % S < I) : ValK f b := by
  have hlo := F.lo
  have hp : ∀ {zo eo : Int}, VF S H l b zo eo → ∀ w, Tab w → Calls Tryd.prog 5 #[.int .i64 f, U b] w fun en w' => ∃ s p m, en = .returned (.tuple #[DV s p m m eo, .int .i64 0]) ∧ DO w.heap.size w' s p m eo zo ∧ Below w.heap.size w w' := by
    intro zo eo hv w hT
    refine (value_v F h1 h2 hv w hT).mono fun en w' ⟨v, h5, h6, h7⟩ => ?_
    obtain ⟨s, p, m, rfl, h8⟩ := h6.own hv.fm
    exact ⟨s, p, m, h5, h8, h7⟩
  by_cases hz : svS S H b = 0
  · have hv : VF S H l b 0 0 := ⟨.inl ⟨rfl, rfl⟩, by rw [hz, dv_zero, dv_zero]⟩
    exact ⟨0, 0, 0, hp hv, fun w => (docvalue_z R wh b h1 h2 (by omega) hz w).mono fun _ w' ⟨h3, h4⟩ => ⟨_, _, _, _, h3, dn_z0 w', h4⟩⟩
  · obtain ⟨K, hK⟩ := TzIs.ex (svS S H b).natAbs (by omega)
    obtain ⟨zo, g1, g2, g3, g4, g5⟩ := tz_vale hz hK
    have hK9 : K ≤ 2200 := by have := hk9 (hLv b) hK; omega
    have hv : VF S H l b zo (l + K) := ⟨.inr ⟨g2, by omega, by omega⟩, by rw [dv_up _ (by omega), g3]⟩
    exact ⟨0, zo, l + K, hp hv, fun w => (docvalue_n R wh b h1 h2 (by omega) hz hK ⟨g1, g2, g4, g5⟩ hK9 w).mono fun _ w' ⟨s, g, m', c', h3, h4, h5⟩ => ⟨_, _, _, _, h3, h4, h5⟩⟩
theorem valk_all (f : Int) {b : Nat} (hb9 : b < B64) : ValK f b := by
  obtain ⟨L, hL⟩ : ∃ L, L = 2200 := ⟨_, rfl⟩
  by_cases h1 : f = 32
  · subst h1
    by_cases h : b < 2 * 2147483648 ∧ b % 2147483648 < 2139095040
    · exact valk_fmt (L := L) (by omega) (fun b => svS_lt b (a := 23) (c := 256) (by decide) (by decide) (by decide) (by decide) (by omega)) pm_32 rf_32 (fun b w => rwhole_32 w) (by decide) h.1 h.2
    · exact valk_err (finb_fmt pm_32 rf_32 (by decide) hb9 h)
  by_cases h2 : f = 64
  · subst h2
    by_cases h : b < 2 * 9223372036854775808 ∧ b % 9223372036854775808 < 9218868437227405312
    · exact valk_fmt (L := L) (by omega) (fun b => svS_lt b (a := 52) (c := 2048) (by decide) (by decide) (by decide) (by decide) (by omega)) pm_64 rf_64 (fun b w => rwhole_64 w) (by decide) h.1 h.2
    · exact valk_err (finb_fmt pm_64 rf_64 (by decide) hb9 h)
  · exact valk_err (finb_x f h1 h2 b)
structure EQ7 (w : World) (B : Nat) (p : Option Addr) (n b : Nat) (X : List Nat) : Prop where
  addr : n = 0 ∨ p = some ⟨b, 0, none⟩
  pn : p = none → n = 0
  row : Row w b 0 n X
  ge : B ≤ b
  le : n ≤ 17592186044496
theorem EQ7.lt {w : World} {B : Nat} {p : Option Addr} {n b : Nat} {X : List Nat} (h : EQ7 w B p n b X) (h0 : n ≠ 0) : b < w.heap.size := row_lt7 h.row h0
theorem Row.belowQ {w w' : World} {g n : Nat} {xs : List Nat} (h : Row w g 0 n xs) (hb : Below w.heap.size w w') : Row w' g 0 n xs :=
  ⟨h.len, h.dig, fun j hj => (hb.cell (p := ⟨g, 0 + j, none⟩) (World.block_lt_of_cell? w _ (h.cell j hj))).trans (h.cell j hj), fun j hj => (hb.frozen (p := ⟨g, 0 + j, none⟩) (World.block_lt_of_cell? w _ (h.cell j hj))).trans (h.frozen j hj)⟩
theorem EQ7.below {w w' : World} {B : Nat} {p : Option Addr} {n b : Nat} {X : List Nat} (h : EQ7 w B p n b X) (hb : Below w.heap.size w w') : EQ7 w' B p n b X := ⟨h.addr, h.pn, h.row.belowQ hb, h.ge, h.le⟩
theorem eq_own7 {w : World} {B B1 : Nat} {p : Option Addr} {m : Nat} {zs : List Nat} (h : Own B1 w p m zs) (hB : B ≤ B1) (hm : m ≤ 8192) : ∃ b, EQ7 w B p m b zs ∧ (m ≠ 0 → B1 ≤ b ∧ b < w.heap.size) := by
  by_cases h0 : m = 0
  · subst h0
    exact ⟨B, ⟨.inl rfl, fun _ => rfl, ⟨h.len, h.dig, fun j hj => by omega, fun j hj => by omega⟩, Nat.le_refl _, by omega⟩, fun h => absurd rfl h⟩
  · obtain ⟨g, e, hg, hr⟩ := h.mem.resolve_left h0
    exact ⟨g, ⟨.inr e, fun hp => (by rw [e] at hp; cases hp), hr, by omega, by omega⟩, fun _ => ⟨hg, row_lt7 hr h0⟩⟩
structure EN7 where
  p : Option Addr
  n : Nat
  b : Nat
  X : List Nat
def enD7 : EN7 := ⟨none, 0, 0, []⟩
theorem lq_list {w : World} {B go : Nat} (es : List EN7) (h : ∀ e ∈ es, EQ7 w B e.p e.n e.b e.X) (hc : ∀ i, i < es.length → w.cell? ⟨go, i, none⟩ = some (.slice (es.getD i enD7).p (es.getD i enD7).n (es.getD i enD7).n))
    (hlt : ∀ e ∈ es, e.n ≠ 0 → e.b ≠ go) (hd : es.Pairwise (fun a b => a.n ≠ 0 → b.n ≠ 0 → a.b ≠ b.b)) :
    LQ w B go 0 es.length (fun i => (es.getD i enD7).p) (fun i => (es.getD i enD7).n) (fun i => (es.getD i enD7).b) (fun i => (es.getD i enD7).X) := by
  have hg : ∀ i, (hi : i < es.length) → es.getD i enD7 = es[i] := fun i hi => by rw [List.getD_eq_getElem?_getD, List.getElem?_eq_getElem hi]; rfl
  have he : ∀ i, i < es.length → EQ7 w B (es.getD i enD7).p (es.getD i enD7).n (es.getD i enD7).b (es.getD i enD7).X := fun i hi => by rw [hg i hi]; exact h _ (List.getElem_mem hi)
  have hp := List.pairwise_iff_getElem.1 hd
  refine ⟨fun i hi => by rw [Nat.zero_add]; exact hc i hi, fun i hi => (he i hi).addr, fun i hi => (he i hi).pn, fun i hi => (he i hi).row, fun i hi => (he i hi).ge, fun i hi => (he i hi).le, fun i hi => ?_, fun i j hi hj hne h1 h2 => ?_⟩
  · show (es.getD i enD7).n ≠ 0 → (es.getD i enD7).b ≠ go
    rw [hg i hi]; exact hlt _ (List.getElem_mem hi)
  · simp only [hg i hi, hg j hj] at h1 h2 ⊢
    rcases Nat.lt_or_ge i j with h3 | h3
    · exact hp i j hi hj h3 h1 h2
    · exact fun e => hp j i hj hi (by omega) h2 h1 e.symm
theorem iv7 {a b l h l2 h2 : Nat} (H1 : l ≤ a ∧ a < h) (H2 : l2 ≤ b ∧ b < h2) (h3 : h ≤ l2) : a ≠ b := by omega
theorem pw6 {l1 h1 m1 b1 l2 h2 m2 b2 l3 h3 m3 b3 l4 h4 m4 b4 l5 h5 m5 b5 l6 h6 m6 b6 : Nat} {z1 z2 z3 z4 z5 z6 : List Nat} {p1 p2 p3 p4 p5 p6 : Option Addr} (H1 : m1 ≠ 0 → l1 ≤ b1 ∧ b1 < h1) (H2 : m2 ≠ 0 → l2 ≤ b2 ∧ b2 < h2) (H3 : m3 ≠ 0 → l3 ≤ b3 ∧ b3 < h3) (H4 : m4 ≠ 0 → l4 ≤ b4 ∧ b4 < h4) (H5 : m5 ≠ 0 → l5 ≤ b5 ∧ b5 < h5) (H6 : m6 ≠ 0 → l6 ≤ b6 ∧ b6 < h6) (c1 : h1 ≤ l2) (c2 : h2 ≤ l3) (c3 : h3 ≤ l4) (c4 : h4 ≤ l5) (c5 : h5 ≤ l6) (d2 : l2 ≤ h2) (d3 : l3 ≤ h3) (d4 : l4 ≤ h4) (d5 : l5 ≤ h5) :
    ([⟨p1, m1, b1, z1⟩, ⟨p2, m2, b2, z2⟩, ⟨p3, m3, b3, z3⟩, ⟨p4, m4, b4, z4⟩, ⟨p5, m5, b5, z5⟩, ⟨p6, m6, b6, z6⟩] : List EN7).Pairwise (fun a b => a.n ≠ 0 → b.n ≠ 0 → a.b ≠ b.b) := by
  exact (List.Pairwise.cons (List.forall_mem_cons.2 ⟨(fun h1 h2 => iv7 (H1 h1) (H2 h2) (by omega)), (List.forall_mem_cons.2 ⟨(fun h1 h2 => iv7 (H1 h1) (H3 h2) (by omega)), (List.forall_mem_cons.2 ⟨(fun h1 h2 => iv7 (H1 h1) (H4 h2) (by omega)), (List.forall_mem_cons.2 ⟨(fun h1 h2 => iv7 (H1 h1) (H5 h2) (by omega)), (List.forall_mem_cons.2 ⟨(fun h1 h2 => iv7 (H1 h1) (H6 h2) (by omega)), (fun _ h => absurd h (List.not_mem_nil))⟩)⟩)⟩)⟩)⟩)
    (List.Pairwise.cons (List.forall_mem_cons.2 ⟨(fun h1 h2 => iv7 (H2 h1) (H3 h2) (by omega)), (List.forall_mem_cons.2 ⟨(fun h1 h2 => iv7 (H2 h1) (H4 h2) (by omega)), (List.forall_mem_cons.2 ⟨(fun h1 h2 => iv7 (H2 h1) (H5 h2) (by omega)), (List.forall_mem_cons.2 ⟨(fun h1 h2 => iv7 (H2 h1) (H6 h2) (by omega)), (fun _ h => absurd h (List.not_mem_nil))⟩)⟩)⟩)⟩)
    (List.Pairwise.cons (List.forall_mem_cons.2 ⟨(fun h1 h2 => iv7 (H3 h1) (H4 h2) (by omega)), (List.forall_mem_cons.2 ⟨(fun h1 h2 => iv7 (H3 h1) (H5 h2) (by omega)), (List.forall_mem_cons.2 ⟨(fun h1 h2 => iv7 (H3 h1) (H6 h2) (by omega)), (fun _ h => absurd h (List.not_mem_nil))⟩)⟩)⟩)
    (List.Pairwise.cons (List.forall_mem_cons.2 ⟨(fun h1 h2 => iv7 (H4 h1) (H5 h2) (by omega)), (List.forall_mem_cons.2 ⟨(fun h1 h2 => iv7 (H4 h1) (H6 h2) (by omega)), (fun _ h => absurd h (List.not_mem_nil))⟩)⟩)
    (List.Pairwise.cons (List.forall_mem_cons.2 ⟨(fun h1 h2 => iv7 (H5 h1) (H6 h2) (by omega)), (fun _ h => absurd h (List.not_mem_nil))⟩)
    (List.Pairwise.cons (fun _ h => absurd h (List.not_mem_nil))
    List.Pairwise.nil))))))
theorem wnk7 {n k : Nat} (h : n ≤ 17592186044496) (hk : k ≤ 16) : wrap64 ((n : Int) + (k : Int)) = ((n + k : Nat) : Int) := by
  have e : (n : Int) + (k : Int) = ((n + k : Nat) : Int) := by omega
  rw [e]
  simp only [wrap64]; omega
theorem lt7 {n k : Nat} (h : n ≤ 17592186044496) (hk : k ≤ 16) : n + k < 1000000000000000000 := by omega
theorem bd8 {i : Nat} (h : i ≤ 1000000) : i + 1 ≤ maxLen ∧ (i + 1) * 24 ≤ 140737488355328 := by
  unfold maxLen; omega
theorem bd7 {n k : Nat} (h : n ≤ 17592186044496) (hk : k ≤ 16) : n + k + 1 ≤ maxLen ∧ ((n + k + 1) + (n + k + 1) / 4 + 192) * 8 ≤ 281474976710656 := by
  unfold maxLen; omega
theorem wnk80 {n k : Nat} (h : n ≤ 17592186044496) (hk : k < 80) : wrap64 ((n : Int) + (k : Int)) = ((n + k : Nat) : Int) := by
  simp only [wrap64]; omega
theorem bd80 {n : Nat} (h : n ≤ 17592186044496) : n + 80 ≤ maxLen ∧ ((n + 80) + (n + 80) / 4 + 192) * 8 ≤ 281474976710656 := by
  unfold maxLen; omega
theorem bd88 {N i : Nat} (h : N ≤ 1000000) (hi : i ≤ 1000000) : N + i + 1 ≤ maxLen ∧ (N + i + 1) * 24 ≤ 140737488355328 := by
  unfold maxLen; omega
theorem mks_app {ys : List Nat} {i n L : Nat} (hl : ys.length = L) (h : ∀ m, m < L → ys.getD m 0 = mkN i (n + m)) : mks i n ++ ys = mks i (n + L) := by
  refine mks_eq (by rw [List.length_append, mks_len, hl]) fun j hj => ?_
  rw [List.getD_eq_getElem?_getD, List.getElem?_append, mks_len]
  by_cases h1 : j < n
  · rw [if_pos h1, ← List.getD_eq_getElem?_getD, mks_get h1]
  · rw [if_neg h1, ← List.getD_eq_getElem?_getD, h (j - n) (by omega)]
    rw [show n + (j - n) = j by omega]
theorem own_cells7 {w : World} {B k : Nat} {e : TypeId} {v : Value} {xs : List Value} (h : w.ownsRow B e 1 v k xs) (hk : 0 < k) : ∃ g cap, v = .slice (some ⟨g, 0, none⟩) k cap ∧ ∀ q, q < k → w.cell? ⟨g, q, none⟩ = xs[q]? := by
  rcases h.2 with ⟨_, h2⟩ | ⟨g, cap, cur, h2, h3, h4, h5, h6, h7, h8⟩
  · omega
  · refine ⟨g, cap, h2, fun q hq => ?_⟩
    rw [cell_of_row w g q _ _ _ h4, ← h8, Nat.mul_one, List.getElem?_take, if_pos hq, Array.getElem?_toList]
theorem wj7 {j : Nat} (h : j < 17592186044596) : wrap64 ((j : Int) + 1) = ((j + 1 : Nat) : Int) := by
  simp only [wrap64]; omega
theorem got7 {w : World} {fo : Option Nat} {N K gg : Nat} {Gs : List It} (h : GQ w fo N Gs) (hl : Gs.length = K) {q : Nat} (hq : q < K) (hc : w.cell? ⟨gg, q, none⟩ = (Gs.map itv)[q]?) : ∃ bi ni ci, w.cell? ⟨gg, q, none⟩ = some (.slice (some ⟨bi, 0, none⟩) ni ci) ∧ ni ≤ 17592186044596 ∧ ∀ m, m < ni → w.cell? ⟨bi, m, none⟩ = some (U (mkN (q % N) m)) := by
  have hq2 : q < Gs.length := by omega
  obtain ⟨bi, h1, -, -⟩ := h.blk q hq2
  have h2 := h.at_ q hq2
  refine ⟨bi, Gs[q].n, Gs[q].c, ?_, h.le q hq2, fun m hm => ?_⟩
  · rw [hc, List.getElem?_map, List.getElem?_eq_getElem hq2, ← h1]; rfl
  · obtain ⟨g', off, e, hcl⟩ := h2.cells.resolve_left (by omega)
    rw [h1] at e
    simp only [Option.some.injEq, Addr.mk.injEq, and_true] at e
    obtain ⟨rfl, rfl⟩ := e
    have h3 := hcl m hm
    rw [Nat.zero_add, h.mrk q hq2 m hm] at h3
    exact h3
theorem row_src7 {w : World} {g L : Nat} {xs : List Nat} (h : Row w g 0 L xs) : (cellsU xs).length = L * 1 ∧ (∀ j u, (cellsU xs)[j]? = some u → w.cell? ((⟨g, 0, none⟩ : Addr).add j) = some u) ∧ ∀ u ∈ cellsU xs, u.oneCell' = true := by
  refine ⟨by rw [cellsU_length, h.len]; omega, fun j u hu => ?_, fun u hu => ?_⟩
  · have hj : j < L := by
      rcases Nat.lt_or_ge j L with h6 | h6
      · exact h6
      · rw [List.getElem?_eq_none (by rw [cellsU_length, h.len]; exact h6)] at hu; cases hu
    have hadd : (⟨g, 0, none⟩ : Addr).add j = ⟨g, j, none⟩ := by unfold Addr.add; split <;> simp_all
    have hcl := h.cell j hj
    rw [Nat.zero_add] at hcl
    rw [hadd, hcl, ← hu, cellsU_get _ _ (by rw [h.len]; exact hj)]
  · obtain ⟨x, _, rfl⟩ := List.mem_map.1 hu
    rfl
theorem apart_ok {go off N C B : Nat} {p : Nat → Option Addr} {n b : Nat → Nat} {X : Nat → List Nat} {w : World} (h : LQ w B go off N p n b X) (hN : N ≤ 1000000) (hN0 : 0 < N) (_hC : N ≤ C) (_hC2 : C ≤ maxLen) (hB : B ≤ w.heap.size) :
    Calls Tryd.prog 10 #[.slice (some ⟨go, off, none⟩) N C] w fun en w' => en = .returned (.bool true) ∧ Below B w w' := by
  obtain ⟨i0, hi, hz0, hz1, hz2⟩ := info_parts Tryd.infoU64
  obtain ⟨s0, hs, hy0, hy1, hy2⟩ := info_parts Tryd.infoSl
  have H : Hid (LQ w B go off N p n b X) := h
  have HB : Hid (B ≤ w.heap.size) := hB
  clear h hB
  go_enter Tryd.func10, Tryd.ntmps10
  go_wp2_with fail
  go_loopg [3] N (fun gk iv wr => ∃ (i : Nat) (X : Nat → List Nat), i + gk = N ∧ iv = .int .i64 i ∧ LQ wr B go off N p n b X ∧ (∀ k, k < i → Mkd n X k) ∧ Below B w wr)
  case atStart => exact ⟨0, X, by omega, rfl, H.out, fun k hk => by omega, Below.refl _ _⟩
  case round =>
    obtain ⟨i, X, hig, rfl, xl, xm, hbw⟩ := hrel
    clear H
    have LL : Hid (LQ wr B go off N p n b X ∧ ∀ k, k < i → Mkd n X k) := ⟨xl, xm⟩
    clear xl xm
    cases gk with
    | succ gi =>
      have hil : (i : Int) < (N : Int) := by omega
      have hi0 : (0 : Int) ≤ (i : Int) ∧ (i : Int) < (N : Int) := by omega
      go_wp2_with fail
      have hbw1 := hbw
      clear hbw
      go_loopg [4] (n i) (fun gj jv wr => ∃ (j : Nat) (X : Nat → List Nat), j + gj = n i ∧ jv = .int .i64 j ∧ LQ wr B go off N p n b X ∧ (∀ k, k < i → Mkd n X k) ∧ (∀ m, m < j → (X i).getD m 0 = mkN i m) ∧ Below B w wr)
      case atStart => exact ⟨0, X, by omega, rfl, LL.out.1, LL.out.2, fun m hm => by omega, hbw1⟩
      case round =>
        obtain ⟨j, X, hjg, rfl, xl, xm, xj, hbw⟩ := hrel
        clear LL hbw1
        have LL : Hid (LQ wr B go off N p n b X) := xl
        have HM : Hid ((∀ k, k < i → Mkd n X k) ∧ ∀ m, m < j → (X i).getD m 0 = mkN i m) := ⟨xm, xj⟩
        clear xl xm xj
        have hcx := LL.out.cells i (by omega)
        have hle := LL.out.le i (by omega)
        cases gk with
        | succ gj =>
          have hp := (LL.out.addr i (by omega)).resolve_left (by omega)
          rw [hp] at hcx
          have hcl := (LL.out.row i (by omega)).cell j (by omega)
          have hfr := (LL.out.row i (by omega)).frozen j (by omega)
          rw [Nat.zero_add] at hcl hfr
          have HNE : Hid (b i ≠ go) := LL.out.ne i (by omega) (by omega)
          obtain ⟨ni, hni⟩ : ∃ x, x = n i := ⟨_, rfl⟩
          obtain ⟨bi, hbi⟩ : ∃ x, x = b i := ⟨_, rfl⟩
          rw [← hni, ← hbi] at hcx
          rw [← hni] at hle hjg
          rw [← hbi] at hcl hfr HNE
          have HNI : Hid (ni = n i ∧ bi = b i ∧ p i = some ⟨b i, 0, none⟩) := ⟨hni, hbi, hp⟩
          clear hni hbi hp
          have hjl : (j : Int) < (ni : Int) := by omega
          have hj0 : (0 : Int) ≤ (j : Int) ∧ (j : Int) < (ni : Int) := by omega
          go_wp2_with fail
          have HCX : Hid (wr.cell? ⟨go, off + i, none⟩ = some (.slice (some ⟨bi, 0, none⟩) ni ni)) := hcx
          have HCL : Hid (wr.cell? ⟨bi, j, none⟩ = some (U ((X i).getD j 0)) ∧ wr.frozen? ⟨bi, j, none⟩ = false) := ⟨hcl, hfr⟩
          have hbr : Below wr.heap.size wr wr := Below.refl _ _
          have hbB := hbw
          clear hcx hcl hfr hbw
          have hbw := hbr
          clear hbr
          obtain ⟨W1, hW1⟩ : ∃ W1, W1 = wr.drew := ⟨_, rfl⟩
          have hbd : Below wr.heap.size wr W1 := by rw [hW1]; exact bDrew1 (Below.refl _ _)
          replace hbw := Below.on hbw hbd
          clear hbd
          have HJ : Hid ((fun W' : World => W'.cell? ⟨go, off + i, none⟩ = some (.slice (some ⟨bi, 0, none⟩) ni ni)) W1) := ((hbw.cell (p := ⟨go, off + i, none⟩) (World.block_lt_of_cell? wr _ HCX.out)).trans HCX.out)
          refine wp_region_J (fun W' => W'.cell? ⟨go, off + i, none⟩ = some (.slice (some ⟨bi, 0, none⟩) ni ni)) (by kernel_rfl) ?_
          rw [← hW1]
          clear hW1
          refine wpJ_tk 0 (v := ?v1x0) rfl ?hy1x0 HJ.out ?_
          case hy1x0 => (intro W' hJ; have j0 := hJ; go_simp; first | done | with_reducible rfl)
          refine wpJ_tk 1 (v := ?v2x1) rfl ?hy2x1 HJ.out ?_
          case hy2x1 => (intro W' hJ; have j0 := hJ; go_simp; first | done | with_reducible rfl)
          refine wpJ_tk 2 (v := ?v3x2) rfl ?hy3x2 HJ.out ?_
          case hy3x2 => (intro W' hJ; have j0 := hJ; go_simp; first | done | with_reducible rfl)
          refine wpJ_tk 3 (v := ?v4x3) rfl ?hy4x3 HJ.out ?_
          case hy4x3 => (intro W' hJ; have j0 := hJ; go_simp; first | done | with_reducible rfl)
          refine wpJ_tk 4 (v := ?v5x4) rfl ?hy5x4 HJ.out ?_
          case hy5x4 => (intro W' hJ; have j0 := hJ; go_simp; first | done | with_reducible rfl)
          go_simp
          refine wpJ_tk 5 (v := ?v6x5) rfl ?hy6x5 HJ.out ?_
          case hy6x5 => (intro W' hJ; have j0 := hJ; go_simp; first | done | with_reducible rfl)
          refine wpJ_tk 6 (v := ?v7x6) rfl ?hy7x6 HJ.out ?_
          case hy7x6 => (intro W' hJ; have j0 := hJ; go_simp; first | done | with_reducible rfl)
          refine wpJ_on 7 rfl fun KJ hK => ?_
          go_simp
          refine (mark_ij i j (by omega) (by omega)).mono ?_
          rintro e w' ⟨rfl, hw⟩
          obtain rfl := hw.symm
          clear hw
          clear HJ
          have HJ : Hid ((fun W' : World => W'.cell? ⟨go, off + i, none⟩ = some (.slice (some ⟨bi, 0, none⟩) ni ni)) W1) := ((hbw.cell (p := ⟨go, off + i, none⟩) (World.block_lt_of_cell? wr _ HCX.out)).trans HCX.out)
          refine hK _ _ HJ.out ?_
          clear hK
          refine wpJ_tk 8 (v := ?v8x8) rfl ?hy8x8 HJ.out ?_
          case hy8x8 => (intro W' hJ; have j0 := hJ; go_simp; first | done | with_reducible rfl)
          have hcl := (hbw.cell (p := ⟨bi, j, none⟩) (World.block_lt_of_cell? wr _ HCL.out.1)).trans HCL.out.1
          have hfr := (hbw.frozen (p := ⟨bi, j, none⟩) (World.block_lt_of_cell? wr _ HCL.out.1)).trans HCL.out.2
          refine wpJ_on 9 rfl fun KJ hK => ?_
          go_simp
          have HJ2 : Hid ((fun W' : World => W'.cell? ⟨go, off + i, none⟩ = some (.slice (some ⟨bi, 0, none⟩) ni ni)) (W1.setCell ⟨bi, j, none⟩ (U (mkN i j)))) := (World.cell?_setCell_other _ _ _ _ (by intro e; exact HNE.out (congrArg Addr.block e))).trans HJ.out
          refine hK _ _ HJ2.out ?_
          clear hK HJ
          have HJ := HJ2
          clear HJ2
          refine wpJ_done (by kernel_rfl) ?_ _
          clear HJ
          have LL2 := (LL.out.below hbw).set (i := i) (j := j) (y := mkN i j) (by omega) (by rw [← HNI.out.1]; omega) (mkN_lt (by omega) (by omega))
          have HBG : Hid (B ≤ b i) := LL.out.ge i (by omega)
          rw [← HNI.out.2.1] at LL2
          have hbw2 := bSet (hbB.trans (hbw.mono (by have := hbB.size; have := HB.out; omega))) bi j (U (mkN i j)) (by rw [HNI.out.2.1]; exact HBG.out)
          generalize W1.setCell ⟨bi, j, none⟩ (U (mkN i j)) = W2 at *
          clear hcl hfr hbw hbB
          go_wp2_with fail
          go_roundg gj
          case measure => omega
          case rel =>
            refine ⟨j + 1, _, by rw [← HNI.out.1]; omega, by go_num, LL2, fun k hk => ?_, fun m hm => ?_, hbw2⟩
            · intro m hm; show (if k = i then (X i).set j (mkN i j) else X k).getD m 0 = _; rw [if_neg (by omega)]; exact HM.out.1 k hk m hm
            · show (if i = i then (X i).set j (mkN i j) else X i).getD m 0 = _; rw [if_pos rfl, getD_set _ _ _ _ (by rw [(LL.out.row i (by omega)).len, ← HNI.out.1]; omega)]
              by_cases e : m = j
              · rw [if_pos e, e]
              · rw [if_neg e]; exact HM.out.2 m (by omega)
        | zero =>
          obtain rfl : j = n i := by omega
          have hnj : ¬ ((n i : Nat) : Int) < ((n i : Nat) : Int) := by omega
          have HM2 : Hid (∀ k, k < i + 1 → Mkd n X k) := mkd_succ HM.out.1 HM.out.2
          generalize n i = ni at *
          go_wp2_with fail
          go_roundg gi
          case measure => omega
          case rel => exact ⟨i + 1, X, by omega, by go_num, LL.out, HM2.out, hbw⟩
    | zero =>
      obtain rfl : N = i := by omega
      have hnk : ¬ (N : Int) < (N : Int) := by omega
      go_wp2_with fail
      clear hnk hig
      generalize wr = w1 at *
      have LM : Hid (LQ w1 B go off N p n b X ∧ (∀ k, k < N → Mkd n X k) ∧ B ≤ w1.heap.size) := ⟨LL.out.1, LL.out.2, by have := hbw.size; have := HB.out; omega⟩
      have HBW : Hid (Below B w w1) := hbw
      clear LL hbw
      go_loopg [5, 6] N (fun gk gv iv wr => ∃ (i : Nat) (Gs : List It), i + gk = N ∧ iv = .int .i64 i ∧ Gs.length = i ∧ wr.ownsRow w1.heap.size 25 1 gv i (Gs.map itv) ∧ GQ wr gv.ownBlock N Gs ∧ Below w1.heap.size w1 wr)
      case atStart => exact ⟨0, [], by omega, rfl, rfl, ⟨rfl, .inl ⟨rfl, rfl⟩⟩, ⟨fun q h => absurd h (Nat.not_lt_zero _), fun q h => absurd h (Nat.not_lt_zero _), fun q h => absurd h (Nat.not_lt_zero _), fun q h => absurd h (Nat.not_lt_zero _)⟩, Below.refl _ _⟩
      case round =>
        obtain ⟨i, Gs, hig, rfl, hgl, xo, xg, hbw⟩ := hrel
        have OG : Hid (wr.ownsRow w1.heap.size 25 1 u5 i (Gs.map itv) ∧ Gs.length = i) := ⟨xo, hgl⟩
        have GG : Hid (GQ wr u5.ownBlock N Gs) := xg
        clear xo xg hgl
        cases gk with
        | succ gi =>
          have hil : (i : Int) < (N : Int) := by omega
          have hi0 : (0 : Int) ≤ (i : Int) ∧ (i : Int) < (N : Int) := by omega
          have HCX : Hid (w1.cell? ⟨go, off + i, none⟩ = some (.slice (p i) (n i) (n i))) := LM.out.1.cells i (by omega)
          have hle := LM.out.1.le i (by omega)
          obtain ⟨ni, hni⟩ : ∃ x, x = n i := ⟨_, rfl⟩
          obtain ⟨pi, hpi⟩ : ∃ x, x = p i := ⟨_, rfl⟩
          rw [← hni, ← hpi] at HCX
          rw [← hni] at hle
          have HNI : Hid (ni = n i ∧ pi = p i) := ⟨hni, hpi⟩
          clear hni hpi
          have hcx := (hbw.cell (p := ⟨go, off + i, none⟩) (World.block_lt_of_cell? w1 _ HCX.out)).trans HCX.out
          go_wp2_with fail
          clear hcx
          generalize wr = wi at *
          have hbi : Below w1.heap.size w1 wi := hbw
          have hb0 : Below wi.heap.size wi wi := Below.refl _ _
          clear hbw
          go_loopg [7, 8] 16 (fun gk gv kv wr => ∃ (k : Nat), k + gk = 16 ∧ kv = .int .i64 k ∧ ((k = 0 ∧ gv = .slice pi ni ni) ∨ (1 ≤ k ∧ wr.ownsRow wi.heap.size 23 1 gv (ni + k) (cellsU (mks i (ni + k))))) ∧ Below wi.heap.size wi wr)
          case atStart => exact ⟨0, by omega, rfl, .inl ⟨rfl, rfl⟩, hb0⟩
          case round =>
            obtain ⟨k, hkg, rfl, hgv, hbw⟩ := hrel
            clear hb0
            cases gk with
            | succ gk =>
              have hk16 : (k : Int) < 16 := by omega
              have HI6 : Hid (i ≤ 1000000 ∧ ni + k < 1000000000000000000) := ⟨by omega, lt7 hle (show k ≤ 16 by omega)⟩
              have HBD : Hid (ni + k + 1 ≤ maxLen ∧ ((ni + k + 1) + (ni + k + 1) / 4 + 192) * 8 ≤ 281474976710656) := bd7 hle (show k ≤ 16 by omega)
              have hb1 := Below.on hbi hbw
              have hcx := (hb1.cell (p := ⟨go, off + i, none⟩) (World.block_lt_of_cell? w1 _ HCX.out)).trans HCX.out
              have ea : (ni : Int) + (k : Int) = ((ni + k : Nat) : Int) := by omega
              have HEA : Hid ((ni : Int) + (k : Int) = ((ni + k : Nat) : Int)) := ea
              clear ea
              have wnk := wnk7 hle (show k ≤ 16 by omega)
              go_wp2_with fail
              rw [HEA.out]
              refine (mark_ij i (ni + k) HI6.out.1 HI6.out.2).mono ?_
              rintro e w' ⟨rfl, hw⟩
              obtain rfl := hw.symm
              clear hw wnk hcx
              obtain ⟨y, hy⟩ : ∃ y, y = mkN i (ni + k) := ⟨_, rfl⟩
              rw [← hy]
              have HY : Hid (y = mkN i (ni + k)) := hy
              clear hy
              have hbA : Below wr.heap.size wr (wr.alloc (.cells #[U y] 23)) := below1 wr _
              have hbwA := Below.on hbw hbA
              have HSZ : Hid (wi.heap.size ≤ (wr.alloc (.cells #[U y] 23)).heap.size) := hbwA.size
              rcases hgv with ⟨hk0, hgv⟩ | ⟨hk1, hgv⟩
              · subst hk0 hgv
                have hb1A := Below.on hb1 hbA
                have HAT : Hid (pi = none → ni = 0) := fun h => by rw [HNI.out.1]; exact LM.out.1.pn i (by omega) (by rw [← HNI.out.2]; exact h)
                have HOL : Hid (∀ b, pi = some b → ∀ j u, (cellsU (mks i ni))[j]? = some u → (wr.alloc (.cells #[U y] 23)).cell? (b.add j) = some u) := full_cells LM.out.1 (LM.out.2.1 i (by omega)) (by omega) HNI.out.1 HNI.out.2 hb1A
                clear hb1A hbA hb1
                go_wp2_with (at_builtin; go_loud (refine wpList_append_full _ rfl _ _ 25 rfl 23 i0 (.int .u64 0) 1 8 Tryd.underlying25 hi hz0 hz1 hz2 rfl (by decide) pi ni (cellsU (mks i ni)) rfl HAT.out (by rw [cellsU_length, mks_len]; omega) HOL.out ⟨wr.heap.size, 0, none⟩ 1 1 [U y] rfl rfl (cell_new1 _ _ _) (by intro u hu; simp at hu; subst hu; rfl) (by decide) HBD.out.1 HBD.out.2 ?_); intro v6 w6 hown6 hgr6)
                go_roundg gk
                case measure => omega
                case rel =>
                  refine ⟨0 + 1, by omega, by go_num, .inr ⟨by omega, ?_⟩, hbwA.grown hgr6 HSZ.out (fun b hb => by cases hb)⟩
                  have e0 : cellsU (mks i (ni + (0 + 1))) = cellsU (mks i ni) ++ [U y] := by rw [HY.out, Nat.zero_add, mks_succ]; unfold cellsU; rw [List.map_append]; rfl
                  rw [e0]
                  exact own_mono hown6 HSZ.out
              · have OWA : Hid ((wr.alloc (.cells #[U y] 23)).ownsRow wi.heap.size 23 1 u7 (ni + k) (cellsU (mks i (ni + k)))) := ownAny7 hgv hbA
                clear hbA hb1 hgv
                go_wp2_with (at_builtin; refine wpList_append_own_wide _ rfl _ _ 25 rfl wi.heap.size 23 i0 (.int .u64 0) 1 8 Tryd.underlying25 hi hz0 hz1 hz2 rfl (by decide) u7 (ni + k) (cellsU (mks i (ni + k))) rfl OWA.out ⟨wr.heap.size, 0, none⟩ 1 1 [U y] rfl rfl (cell_new1 _ _ _) (by intro u hu; simp at hu; subst hu; rfl) HBD.out.1 HBD.out.2 HSZ.out ?_; intro v6 w6 hown6 hgr6 hnil6)
                go_roundg gk
                case measure => omega
                case rel =>
                  refine ⟨k + 1, by omega, by go_num, .inr ⟨by omega, ?_⟩, hbwA.grown hgr6 HSZ.out (fun b hb => (own_ob7 OWA.out hb).1)⟩
                  have e0 : cellsU (mks i (ni + (k + 1))) = cellsU (mks i (ni + k)) ++ [U y] := by rw [HY.out, ← Nat.add_assoc, mks_succ]; unfold cellsU; rw [List.map_append]; rfl
                  rw [e0, ← Nat.add_assoc]
                  exact hown6
            | zero =>
              obtain rfl : k = 16 := by omega
              obtain ⟨-, hgv⟩ := hgv.resolve_left (by rintro ⟨h, _⟩; omega)
              have HLE : Hid (i ≤ 1000000 ∧ i < N ∧ ni + 16 ≤ 17592186044596) := ⟨by omega, by omega, by omega⟩
              have hsl : ∃ g7 c7, u7 = .slice (some ⟨g7, 0, none⟩) (ni + 16) c7 ∧ wi.heap.size ≤ g7 ∧ g7 < wr.heap.size ∧ At wr (some ⟨g7, 0, none⟩) (ni + 16) c7 (mks i (ni + 16)) := own_sl7 (k := ni + 15) hgv HLE.out.1 (show ni + 16 < 1000000000000000000 from lt7 hle (Nat.le_refl 16))
              obtain ⟨g7, c7, rfl, hg1, hg2, hat⟩ := hsl
              have hbA : Below wr.heap.size wr (wr.alloc (.cells #[.slice (some ⟨g7, 0, none⟩) (ni + 16) c7] 25)) := below1 wr _
              have hbwA := Below.on hbw hbA
              have OGA : Hid ((wr.alloc (.cells #[.slice (some ⟨g7, 0, none⟩) (ni + 16) c7] 25)).ownsRow w1.heap.size 25 1 u5 i (Gs.map itv)) := ownAny7 OG.out.1 hbwA
              have HSZ : Hid (w1.heap.size ≤ (wr.alloc (.cells #[.slice (some ⟨g7, 0, none⟩) (ni + 16) c7] 25)).heap.size) := Nat.le_trans hbi.size hbwA.size
              have HBD : Hid (i + 1 ≤ maxLen ∧ (i + 1) * 24 ≤ 140737488355328) := bd8 HLE.out.1
              have GGA : Hid (GQ (wr.alloc (.cells #[.slice (some ⟨g7, 0, none⟩) (ni + 16) c7] 25)) u5.ownBlock N Gs) := GG.out.below hbwA
              have HAT : Hid (At (wr.alloc (.cells #[.slice (some ⟨g7, 0, none⟩) (ni + 16) c7] 25)) (some ⟨g7, 0, none⟩) (ni + 16) c7 (mks i (ni + 16))) := hat.below hbA
              have HG7 : Hid (some g7 ≠ u5.ownBlock ∧ g7 < (wr.alloc (.cells #[.slice (some ⟨g7, 0, none⟩) (ni + 16) c7] 25)).heap.size) := ⟨fun e => by have := (own_ob7 OG.out.1 e.symm).2; omega, Nat.lt_of_lt_of_le hg2 hbA.size⟩
              have HBL : Hid (Below w1.heap.size w1 (wr.alloc (.cells #[.slice (some ⟨g7, 0, none⟩) (ni + 16) c7] 25))) := Below.on hbi hbwA
              clear hgv hat hbA hbwA hbw hg1 hg2 hbi
              go_wp2_with (at_builtin; refine wpList_append_own_at _ rfl _ _ 37 rfl w1.heap.size 25 s0 (.slice none 0 0) 1 24 Tryd.underlying37 hs hy0 hy1 hy2 rfl (by decide) u5 i (Gs.map itv) rfl OGA.out ⟨wr.heap.size, 0, none⟩ 1 1 [.slice (some ⟨g7, 0, none⟩) (ni + 16) c7] rfl rfl (cell_new1 _ _ _) (by intro u hu; simp at hu; subst hu; rfl) HBD.out.1 HBD.out.2 HSZ.out ?_; intro v8 w8 hown8 hgr8 hnil8 hob8)
              go_roundg gi
              case measure => omega
              case rel =>
                refine ⟨i + 1, Gs ++ [⟨some ⟨g7, 0, none⟩, ni + 16, c7, mks i (ni + 16), 0⟩], by omega, by go_num, by rw [List.length_append, OG.out.2]; rfl, by rw [List.map_append]; exact hown8, ?_, HBL.out.grown hgr8 HSZ.out (fun b hb => (own_ob7 OGA.out hb).1)⟩
                refine (GGA.out.grow hgr8 hob8).snoc _ (b := g7) rfl ?_ (Nat.lt_of_lt_of_le HG7.out.2 hgr8.size) (HAT.out.grow hgr8 HG7.out.1) ?_ HLE.out.2.2
                · rcases hob8 with e | e <;> rw [e]
                  · exact HG7.out.1
                  · intro e2; exact absurd (Option.some.inj e2) (Nat.ne_of_lt HG7.out.2)
                · intro m hm; rw [OG.out.2, Nat.mod_eq_of_lt HLE.out.2.1]; exact mks_get hm
        | zero =>
          obtain rfl : N = i := by omega
          have hnk : ¬ (N : Int) < (N : Int) := by omega
          go_wp2_with fail
          clear hnk hig
          go_loopg [5, 9] N (fun gk gv iv wr => ∃ (i : Nat) (Gs : List It), i + gk = N ∧ iv = .int .i64 i ∧ Gs.length = N + i ∧ wr.ownsRow w1.heap.size 25 1 gv (N + i) (Gs.map itv) ∧ GQ wr gv.ownBlock N Gs ∧ Below w1.heap.size w1 wr)
          case atStart => exact ⟨0, Gs, by omega, rfl, OG.out.2, OG.out.1, GG.out, hbw⟩
          case round =>
            clear OG GG hbw
            obtain ⟨i, Gs, hig, rfl, hgl, xo, xg, hbw⟩ := hrel
            have OG : Hid (wr.ownsRow w1.heap.size 25 1 u5 (N + i) (Gs.map itv) ∧ Gs.length = N + i) := ⟨xo, hgl⟩
            have GG : Hid (GQ wr u5.ownBlock N Gs) := xg
            clear xo xg hgl
            cases gk with
            | succ gi =>
              have hil : (i : Int) < (N : Int) := by omega
              have hi0 : (0 : Int) ≤ (i : Int) ∧ (i : Int) < (N : Int) := by omega
              have HCX : Hid (w1.cell? ⟨go, off + i, none⟩ = some (.slice (p i) (n i) (n i))) := LM.out.1.cells i (by omega)
              have hle := LM.out.1.le i (by omega)
              obtain ⟨ni, hni⟩ : ∃ x, x = n i := ⟨_, rfl⟩
              obtain ⟨pi, hpi⟩ : ∃ x, x = p i := ⟨_, rfl⟩
              rw [← hni, ← hpi] at HCX
              rw [← hni] at hle
              have HNI : Hid (ni = n i ∧ pi = p i) := ⟨hni, hpi⟩
              clear hni hpi
              generalize wr = wi at *
              have hbi : Below w1.heap.size w1 wi := hbw
              clear hbw
              go_wp2_with (at_make; refine wpList_make_full _ rfl _ _ 25 rfl wi.heap.size 23 i0 (.int .u64 0) 1 Tryd.underlying25 hi hz0 hz1 _ _ _ _ 80 rfl rfl (by omega) (by omega) (by rw [hz2]; omega) (by unfold maxLen; omega) (Nat.le_refl _) ?_; intro w2 hown hgrow; have hb := made_blk hown hgrow; clear hown hgrow)
              have hm2 : Row w2 wi.heap.size 0 80 (List.replicate 80 0) := by have := hb.1.row (Dig.replicate B64 80 B64_pos); rw [List.length_replicate] at this; exact this
              have HM2 : Hid (Row w2 wi.heap.size 0 80 (List.replicate 80 0) ∧ Below wi.heap.size wi w2) := ⟨hm2, hb.2⟩
              clear hm2 hb
              go_loopg [11] 80 (fun gk kv wr => ∃ (k : Nat) (ys : List Nat), k + gk = 80 ∧ kv = .int .i64 k ∧ Row wr wi.heap.size 0 80 ys ∧ (∀ m, m < k → ys.getD m 0 = mkN i (ni + m)) ∧ Below wi.heap.size wi wr)
              case atStart => exact ⟨0, _, by omega, rfl, HM2.out.1, fun m hm => absurd hm (Nat.not_lt_zero _), HM2.out.2⟩
              case round =>
                clear HM2
                obtain ⟨k, ys, hkg, rfl, x1, x2, hbw⟩ := hrel
                have HYS : Hid (Row wr wi.heap.size 0 80 ys ∧ ∀ m, m < k → ys.getD m 0 = mkN i (ni + m)) := ⟨x1, x2⟩
                clear x1 x2
                cases gk with
                | succ gk =>
                  have hk80 : (k : Int) < 80 := by omega
                  have hk0 : (0 : Int) ≤ (k : Int) ∧ (k : Int) < 80 := by omega
                  have HI6 : Hid (i ≤ 1000000 ∧ ni + k < 1000000000000000000 ∧ k < 80) := ⟨by omega, by omega, by omega⟩
                  have hb1 := Below.on hbi hbw
                  have hcx := (hb1.cell (p := ⟨go, off + i, none⟩) (World.block_lt_of_cell? w1 _ HCX.out)).trans HCX.out
                  have HEA : Hid ((ni : Int) + (k : Int) = ((ni + k : Nat) : Int)) := by show (_ : Int) = _; omega
                  have wnk := wnk80 hle HI6.out.2.2
                  have hcl := HYS.out.1.cell k HI6.out.2.2
                  have hfr := HYS.out.1.frozen k HI6.out.2.2
                  rw [Nat.zero_add] at hcl hfr
                  clear hb1
                  go_wp2_with fail
                  rw [HEA.out]
                  refine (mark_ij i (ni + k) HI6.out.1 HI6.out.2.1).mono ?_
                  rintro e w' ⟨rfl, hw⟩
                  obtain rfl := hw.symm
                  clear hw wnk
                  obtain ⟨y, hy⟩ : ∃ y, Hid (y = mkN i (ni + k)) := ⟨_, rfl⟩
                  rw [← hy.out]
                  have HR5 : Hid (Row (wr.setCell ⟨wi.heap.size, k, none⟩ (U y)) wi.heap.size 0 80 (ys.set k y)) := by have h9 := HYS.out.1.set k y HI6.out.2.2 (by rw [hy.out]; exact mkN_lt HI6.out.1 HI6.out.2.1); rw [Nat.zero_add] at h9; exact h9
                  have HB5 : Hid (Below wi.heap.size wi (wr.setCell ⟨wi.heap.size, k, none⟩ (U y))) := bSet hbw wi.heap.size k (U y) (Nat.le_refl _)
                  go_wp2_with fail
                  go_roundg gk
                  case measure => omega
                  case rel =>
                    refine ⟨k + 1, ys.set k y, by omega, by go_num, HR5.out, fun m hm => ?_, HB5.out⟩
                    rw [getD_set _ _ _ _ (by rw [HYS.out.1.len]; exact HI6.out.2.2)]
                    by_cases e : m = k
                    · rw [if_pos e, e, hy.out]
                    · rw [if_neg e]; exact HYS.out.2 m (by omega)
                | zero =>
                  obtain rfl : k = 80 := by omega
                  have HNW : Hid ((cellsU ys).length = 80 * 1 ∧ (∀ j u, (cellsU ys)[j]? = some u → wr.cell? ((⟨wi.heap.size, 0, none⟩ : Addr).add j) = some u) ∧ ∀ u ∈ cellsU ys, u.oneCell' = true) := row_src7 HYS.out.1
                  have HAP : Hid (mks i ni ++ ys = mks i (ni + 80)) := mks_app HYS.out.1.len HYS.out.2
                  have hb1 := Below.on hbi hbw
                  have hcx := (hb1.cell (p := ⟨go, off + i, none⟩) (World.block_lt_of_cell? w1 _ HCX.out)).trans HCX.out
                  have HAT : Hid (pi = none → ni = 0) := fun h => by rw [HNI.out.1]; exact LM.out.1.pn i (by omega) (by rw [← HNI.out.2]; exact h)
                  have HOL : Hid (∀ b, pi = some b → ∀ j u, (cellsU (mks i ni))[j]? = some u → wr.cell? (b.add j) = some u) := full_cells LM.out.1 (LM.out.2.1 i (by omega)) (by omega) HNI.out.1 HNI.out.2 hb1
                  have HBD : Hid (ni + 80 ≤ maxLen ∧ ((ni + 80) + (ni + 80) / 4 + 192) * 8 ≤ 281474976710656) := bd80 hle
                  clear hb1
                  have HLE : Hid (i ≤ 1000000 ∧ i < N ∧ ni + 80 ≤ 17592186044596 ∧ N ≤ 1000000) := ⟨by omega, by omega, by omega, by omega⟩
                  have HDG : Hid (ni + 80 < 1000000000000000000) := by show _ < _; omega
                  go_wp2_with (at_builtin; first | (refine wpList_append_full _ rfl _ _ 25 rfl 23 i0 (.int .u64 0) 1 8 Tryd.underlying25 hi hz0 hz1 hz2 rfl (by decide) pi ni (cellsU (mks i ni)) rfl HAT.out (by rw [cellsU_length, mks_len]; omega) HOL.out ⟨wi.heap.size, 0, none⟩ 80 80 (cellsU ys) rfl HNW.out.1 HNW.out.2.1 HNW.out.2.2 (by decide) HBD.out.1 HBD.out.2 ?_; intro v6 w6 hown6 hgr6; have hbw6 : Below wi.heap.size wi w6 := hbw.grown hgr6 (hbw.size) (fun b hb => by cases hb); have hgv : w6.ownsRow wr.heap.size 23 1 v6 (ni + 79 + 1) (cellsU (mks i (ni + 79 + 1))) := (by rw [show ni + 79 + 1 = ni + 80 from rfl, ← HAP.out, show cellsU (mks i ni ++ ys) = cellsU (mks i ni) ++ cellsU ys from (by unfold cellsU; rw [List.map_append])]; exact hown6); have hsl : ∃ g7 c7, v6 = .slice (some ⟨g7, 0, none⟩) (ni + 80) c7 ∧ wr.heap.size ≤ g7 ∧ g7 < w6.heap.size ∧ At w6 (some ⟨g7, 0, none⟩) (ni + 80) c7 (mks i (ni + 80)) := own_sl7 (k := ni + 79) hgv HLE.out.1 HDG.out; obtain ⟨g7, c7, rfl, hg1, hg2, hat⟩ := hsl; have hbA : Below w6.heap.size w6 (w6.alloc (.cells #[.slice (some ⟨g7, 0, none⟩) (ni + 80) c7] 25)) := below1 w6 _; have hbwA := Below.on hbw6 hbA; have OGA : Hid ((w6.alloc (.cells #[.slice (some ⟨g7, 0, none⟩) (ni + 80) c7] 25)).ownsRow w1.heap.size 25 1 u5 (N + i) (Gs.map itv)) := ownAny7 OG.out.1 hbwA; have HSZ : Hid (w1.heap.size ≤ (w6.alloc (.cells #[.slice (some ⟨g7, 0, none⟩) (ni + 80) c7] 25)).heap.size) := Nat.le_trans hbi.size hbwA.size; have HBE : Hid (N + i + 1 ≤ maxLen ∧ (N + i + 1) * 24 ≤ 140737488355328) := bd88 HLE.out.2.2.2 HLE.out.1; have GGA : Hid (GQ (w6.alloc (.cells #[.slice (some ⟨g7, 0, none⟩) (ni + 80) c7] 25)) u5.ownBlock N Gs) := GG.out.below hbwA; have HA7 : Hid (At (w6.alloc (.cells #[.slice (some ⟨g7, 0, none⟩) (ni + 80) c7] 25)) (some ⟨g7, 0, none⟩) (ni + 80) c7 (mks i (ni + 80))) := hat.below hbA; have HG7 : Hid (some g7 ≠ u5.ownBlock ∧ g7 < (w6.alloc (.cells #[.slice (some ⟨g7, 0, none⟩) (ni + 80) c7] 25)).heap.size) := ⟨fun e => (by have := (own_ob7 OG.out.1 e.symm).2; have := hbw.size; omega), Nat.lt_of_lt_of_le hg2 hbA.size⟩; have HBL : Hid (Below w1.heap.size w1 (w6.alloc (.cells #[.slice (some ⟨g7, 0, none⟩) (ni + 80) c7] 25))) := Below.on hbi hbwA; clear hgv hat hbA hbwA hbw6 hbw hg1 hg2 hcx hown6 hgr6) | (refine wpList_append_own_at _ rfl _ _ 37 rfl w1.heap.size 25 s0 (.slice none 0 0) 1 24 Tryd.underlying37 hs hy0 hy1 hy2 rfl (by decide) u5 (N + i) (Gs.map itv) rfl OGA.out ⟨w6.heap.size, 0, none⟩ 1 1 [.slice (some ⟨g7, 0, none⟩) (ni + 80) c7] rfl rfl (cell_new1 _ _ _) (by intro u hu; simp at hu; subst hu; rfl) HBE.out.1 HBE.out.2 HSZ.out ?_; intro v8 w8 hown8 hgr8 hnil8 hob8))
                  go_roundg gi
                  case measure => omega
                  case rel =>
                    refine ⟨i + 1, Gs ++ [⟨some ⟨g7, 0, none⟩, ni + 80, c7, mks i (ni + 80), 0⟩], by omega, by go_num, by rw [List.length_append, OG.out.2]; rfl, by rw [List.map_append]; exact hown8, ?_, HBL.out.grown hgr8 HSZ.out (fun b hb => (own_ob7 OGA.out hb).1)⟩
                    refine (GGA.out.grow hgr8 hob8).snoc _ (b := g7) rfl ?_ (Nat.lt_of_lt_of_le HG7.out.2 hgr8.size) (HA7.out.grow hgr8 HG7.out.1) ?_ HLE.out.2.2.1
                    · rcases hob8 with e | e <;> rw [e]
                      · exact HG7.out.1
                      · intro e2; exact absurd (Option.some.inj e2) (Nat.ne_of_lt HG7.out.2)
                    · intro m hm; rw [OG.out.2, Nat.add_mod_left, Nat.mod_eq_of_lt HLE.out.2.1]; exact mks_get hm
            | zero =>
              obtain rfl : N = i := by omega
              have hnk : ¬ (N : Int) < (N : Int) := by omega
              go_wp2_with fail
              clear hnk hig
              generalize wr = wl at *
              obtain ⟨gg, cg, hu5, hcg⟩ := own_cells7 OG.out.1 (by omega)
              subst hu5
              have HBZ : Hid (Below B w wl) := HBW.out.trans (hbw.mono LM.out.2.2)
              have LN : Hid (LQ wl B go off N p n b X) := LM.out.1.below hbw
              have HTT : Hid (∀ q, q < N + N → ∃ bi ni ci, wl.cell? ⟨gg, q, none⟩ = some (.slice (some ⟨bi, 0, none⟩) ni ci) ∧ ni ≤ 17592186044596 ∧ ∀ m, m < ni → wl.cell? ⟨bi, m, none⟩ = some (U (mkN (q % N) m))) := fun q hq => got7 GG.out OG.out.2 hq (hcg q hq)
              have HNN : Hid (N ≤ 1000000 ∧ 0 < N) := ⟨hN, hN0⟩
              clear OG GG hbw hcg
              have hbw : Below wl.heap.size wl wl := Below.refl _ _
              obtain ⟨NN, hNN⟩ : ∃ x, x = N + N := ⟨_, rfl⟩
              rw [← hNN] at HTT
              have HN2 : Hid (NN = N + N) := hNN
              try rw [← hNN]
              clear hNN
              go_loopg [12] NN (fun gk iv wr => ∃ (i : Nat), i + gk = NN ∧ iv = .int .i64 i ∧ Below wl.heap.size wl wr)
              case atStart => exact ⟨0, by omega, rfl, hbw⟩
              case round =>
                clear hbw
                obtain ⟨i, hig, rfl, hbw⟩ := hrel
                cases gk with
                | succ gi =>
                  have hil : (i : Int) < (NN : Int) := by omega
                  have hi0 : (0 : Int) ≤ (i : Int) ∧ (i : Int) < (NN : Int) := by omega
                  obtain ⟨bi, ni, ci, t1, t2, t3⟩ := HTT.out i (by omega)
                  have HCX : Hid (wl.cell? ⟨gg, i, none⟩ = some (.slice (some ⟨bi, 0, none⟩) ni ci)) := t1
                  have HTI : Hid (ni ≤ 17592186044596 ∧ ∀ m, m < ni → wl.cell? ⟨bi, m, none⟩ = some (U (mkN (i % N) m))) := ⟨t2, t3⟩
                  have HIM : Hid (i % N ≤ 1000000) := by have := Nat.mod_lt i HNN.out.2; have := HNN.out.1; show _ ≤ _; omega
                  have HIB : Hid (i < 17592186044596) := by have := HN2.out; have := HNN.out.1; show _ < _; omega
                  clear t1 t2 t3
                  go_wp2_with fail
                  go_loopg [13] ni (fun gk jv wr => ∃ (j : Nat), j + gk = ni ∧ jv = .int .i64 j ∧ Below wl.heap.size wl wr)
                  case atStart => exact ⟨0, by omega, rfl, hbw⟩
                  case round =>
                    clear hbw
                    obtain ⟨j, hjg, rfl, hbw⟩ := hrel
                    have hcx := (hbw.cell (p := ⟨gg, i, none⟩) (World.block_lt_of_cell? wl _ HCX.out)).trans HCX.out
                    cases gk with
                    | zero =>
                      obtain rfl : j = ni := by omega
                      have hnk : ¬ (j : Int) < (j : Int) := by omega
                      have wi1 : wrap64 ((i : Int) + 1) = ((i + 1 : Nat) : Int) := wj7 HIB.out
                      go_wp2_with fail
                      go_roundg gi
                      case measure => omega
                      case rel => exact ⟨i + 1, by omega, by go_num, hbw⟩
                    | succ gg2 =>
                      have hjl : (j : Int) < (ni : Int) := by omega
                      have hj0 : (0 : Int) ≤ (j : Int) ∧ (j : Int) < (ni : Int) := by omega
                      have HCF : Hid (wl.cell? ⟨bi, j, none⟩ = some (U (mkN (i % N) j))) := HTI.out.2 j (by omega)
                      have HJB : Hid (j < 17592186044596) := by have := HTI.out.1; show _ < _; omega
                      obtain ⟨x, hx⟩ : ∃ x, Hid (x = mkN (i % N) j) := ⟨_, rfl⟩
                      rw [← hx.out] at HCF
                      have hz8 : ((N : Int) == 0) = false := by have := HNN.out.2; simp; omega
                      have hz9 : ¬ (N : Int) = 0 := by have := HNN.out.2; omega
                      have hz7 : ¬ N = 0 := by have := HNN.out.2; omega
                      go_wp2_with fail
                      clear hcx
                      obtain ⟨W1, hW1⟩ : ∃ W1, W1 = wr.drew := ⟨_, rfl⟩
                      have hbd : Below wr.heap.size wr W1 := by rw [hW1]; exact bDrew1 (Below.refl _ _)
                      replace hbw := Below.on hbw hbd
                      clear hbd
                      have HJ : Hid ((fun W' : World => W'.cell? ⟨gg, i, none⟩ = some (.slice (some ⟨bi, 0, none⟩) ni ci) ∧ W'.cell? ⟨bi, j, none⟩ = some (U x)) W1) := ⟨((hbw.cell (p := ⟨gg, i, none⟩) (World.block_lt_of_cell? wl _ HCX.out)).trans HCX.out), ((hbw.cell (p := ⟨bi, j, none⟩) (World.block_lt_of_cell? wl _ HCF.out)).trans HCF.out)⟩
                      refine wp_region_J (fun W' => W'.cell? ⟨gg, i, none⟩ = some (.slice (some ⟨bi, 0, none⟩) ni ci) ∧ W'.cell? ⟨bi, j, none⟩ = some (U x)) (by kernel_rfl) ?_
                      rw [← hW1]
                      clear hW1
                      refine wpJ_tq 0 rfl HJ.out ?_
                      refine wpJ_tq 1 rfl HJ.out ?_
                      refine wpJ_tq 2 rfl HJ.out ?_
                      refine wpJ_tq 3 rfl HJ.out ?_
                      refine wpJ_tq 4 rfl HJ.out ?_
                      go_simp
                      refine wpJ_tq 5 rfl HJ.out ?_
                      refine wpJ_tq 6 rfl HJ.out ?_
                      refine wpJ_tq 7 rfl HJ.out ?_
                      refine wpJ_tq 8 rfl HJ.out ?_
                      refine wpJ_tq 9 rfl HJ.out ?_
                      go_simp
                      refine wpJ_tq 10 rfl HJ.out ?_
                      refine wpJ_tq 11 rfl HJ.out ?_
                      refine wpJ_on 12 rfl fun KJ hK => ?_
                      go_simp
                      rw [show (i : Int).tmod (N : Int) = ((i % N : Nat) : Int) from rfl]
                      refine (mark_ij (i % N) j HIM.out (Nat.lt_trans HJB.out (by decide))).mono ?_
                      rintro e w' ⟨rfl, hw⟩
                      obtain rfl := hw.symm
                      clear hw
                      rw [← hx.out]
                      clear HJ
                      have HJ : Hid ((fun W' : World => W'.cell? ⟨gg, i, none⟩ = some (.slice (some ⟨bi, 0, none⟩) ni ci) ∧ W'.cell? ⟨bi, j, none⟩ = some (U x)) W1) := ⟨((hbw.cell (p := ⟨gg, i, none⟩) (World.block_lt_of_cell? wl _ HCX.out)).trans HCX.out), ((hbw.cell (p := ⟨bi, j, none⟩) (World.block_lt_of_cell? wl _ HCF.out)).trans HCF.out)⟩
                      refine hK _ _ HJ.out ?_
                      clear hK
                      refine wpJ_tq 13 rfl HJ.out ?_
                      refine wpJ_done (by kernel_rfl) ?_ _
                      clear HJ
                      have wj : wrap64 ((j : Int) + 1) = ((j + 1 : Nat) : Int) := wj7 HJB.out
                      clear hz8 hz9 hz7
                      go_wp2_with fail
                      have hjb := HJB.out
                      go_roundg gg2
                      case measure => omega
                      case rel => exact ⟨j + 1, by omega, by go_num, hbw⟩
                | zero =>
                  obtain rfl : NN = i := by omega
                  have hnk : ¬ (NN : Int) < (NN : Int) := by omega
                  go_wp2_with fail
                  clear hnk hig
                  have HB2 : Hid (Below wl.heap.size wl wr) := hbw
                  go_loopg [14] N (fun gk iv wr => ∃ (i : Nat), i + gk = N ∧ iv = .int .i64 i ∧ Below wl.heap.size wl wr)
                  case atStart => exact ⟨0, by omega, rfl, HB2.out⟩
                  case round =>
                    clear hbw HB2
                    obtain ⟨i, hig, rfl, hbw⟩ := hrel
                    cases gk with
                    | succ gi =>
                      have hiN : i < N := by omega
                      have hil : (i : Int) < (N : Int) := by omega
                      have hi0 : (0 : Int) ≤ (i : Int) ∧ (i : Int) < (N : Int) := by omega
                      have HCX : Hid (wl.cell? ⟨go, off + i, none⟩ = some (.slice (p i) (n i) (n i))) := LN.out.cells i hiN
                      have HTI : Hid (n i ≤ 17592186044496 ∧ (∀ m, m < n i → wl.cell? ⟨b i, m, none⟩ = some (U (mkN i m))) ∧ (n i ≠ 0 → p i = some ⟨b i, 0, none⟩)) := ⟨LN.out.le i hiN, fun m hm => by have h9 := (LN.out.row i hiN).cell m hm; rw [Nat.zero_add, LM.out.2.1 i hiN m hm] at h9; exact h9, fun h => (LN.out.addr i hiN).resolve_left h⟩
                      have HIM : Hid (i ≤ 1000000) := by have := HNN.out.1; show _ ≤ _; omega
                      clear hiN
                      generalize n i = ni at *
                      generalize p i = pi at *
                      generalize b i = bi at *
                      go_wp2_with fail
                      go_loopg [15] ni (fun gk jv wr => ∃ (j : Nat), j + gk = ni ∧ jv = .int .i64 j ∧ Below wl.heap.size wl wr)
                      case atStart => exact ⟨0, by omega, rfl, hbw⟩
                      case round =>
                        clear hbw
                        obtain ⟨j, hjg, rfl, hbw⟩ := hrel
                        have hcx := (hbw.cell (p := ⟨go, off + i, none⟩) (World.block_lt_of_cell? wl _ HCX.out)).trans HCX.out
                        cases gk with
                        | zero =>
                          obtain rfl : j = ni := by omega
                          have hnk : ¬ (j : Int) < (j : Int) := by omega
                          go_wp2_with fail
                          go_roundg gi
                          case measure => omega
                          case rel => exact ⟨i + 1, by omega, by go_num, hbw⟩
                        | succ gg2 =>
                          obtain rfl := HTI.out.2.2 (by omega)
                          have hjl : (j : Int) < (ni : Int) := by omega
                          have hj0 : (0 : Int) ≤ (j : Int) ∧ (j : Int) < (ni : Int) := by omega
                          have HCF : Hid (wl.cell? ⟨bi, j, none⟩ = some (U (mkN i j))) := HTI.out.2.1 j (by omega)
                          have HJB : Hid (j < 17592186044596) := by have := HTI.out.1; show _ < _; omega
                          obtain ⟨x, hx⟩ : ∃ x, Hid (x = mkN i j) := ⟨_, rfl⟩
                          rw [← hx.out] at HCF
                          go_wp2_with fail
                          clear hcx
                          obtain ⟨W1, hW1⟩ : ∃ W1, W1 = wr.drew := ⟨_, rfl⟩
                          have hbd : Below wr.heap.size wr W1 := by rw [hW1]; exact bDrew1 (Below.refl _ _)
                          replace hbw := Below.on hbw hbd
                          clear hbd
                          have HJ : Hid ((fun W' : World => W'.cell? ⟨go, off + i, none⟩ = some (.slice (some ⟨bi, 0, none⟩) ni ni) ∧ W'.cell? ⟨bi, j, none⟩ = some (U x)) W1) := ⟨((hbw.cell (p := ⟨go, off + i, none⟩) (World.block_lt_of_cell? wl _ HCX.out)).trans HCX.out), ((hbw.cell (p := ⟨bi, j, none⟩) (World.block_lt_of_cell? wl _ HCF.out)).trans HCF.out)⟩
                          refine wp_region_J (fun W' => W'.cell? ⟨go, off + i, none⟩ = some (.slice (some ⟨bi, 0, none⟩) ni ni) ∧ W'.cell? ⟨bi, j, none⟩ = some (U x)) (by kernel_rfl) ?_
                          rw [← hW1]
                          clear hW1
                          refine wpJ_tq 0 rfl HJ.out ?_
                          refine wpJ_tq 1 rfl HJ.out ?_
                          refine wpJ_tq 2 rfl HJ.out ?_
                          refine wpJ_tq 3 rfl HJ.out ?_
                          refine wpJ_tq 4 rfl HJ.out ?_
                          go_simp
                          refine wpJ_tq 5 rfl HJ.out ?_
                          refine wpJ_tq 6 rfl HJ.out ?_
                          refine wpJ_tq 7 rfl HJ.out ?_
                          refine wpJ_tq 8 rfl HJ.out ?_
                          refine wpJ_on 9 rfl fun KJ hK => ?_
                          go_simp
                          refine (mark_ij i j HIM.out (Nat.lt_trans HJB.out (by decide))).mono ?_
                          rintro e w' ⟨rfl, hw⟩
                          obtain rfl := hw.symm
                          clear hw
                          rw [← hx.out]
                          clear HJ
                          have HJ : Hid ((fun W' : World => W'.cell? ⟨go, off + i, none⟩ = some (.slice (some ⟨bi, 0, none⟩) ni ni) ∧ W'.cell? ⟨bi, j, none⟩ = some (U x)) W1) := ⟨((hbw.cell (p := ⟨go, off + i, none⟩) (World.block_lt_of_cell? wl _ HCX.out)).trans HCX.out), ((hbw.cell (p := ⟨bi, j, none⟩) (World.block_lt_of_cell? wl _ HCF.out)).trans HCF.out)⟩
                          refine hK _ _ HJ.out ?_
                          clear hK
                          refine wpJ_tq 10 rfl HJ.out ?_
                          refine wpJ_done (by kernel_rfl) ?_ _
                          clear HJ
                          have wj : wrap64 ((j : Int) + 1) = ((j + 1 : Nat) : Int) := wj7 HJB.out
                          go_wp2_with fail
                          have hjb := HJB.out
                          go_roundg gg2
                          case measure => omega
                          case rel => exact ⟨j + 1, by omega, by go_num, hbw⟩
                    | zero =>
                      obtain rfl : N = i := by omega
                      have hnk : ¬ (N : Int) < (N : Int) := by omega
                      go_wp2_with fail
                      go_ret
                      exact ⟨rfl, HBZ.out.trans (hbw.mono (by have := HBZ.out.size; have := HB.out; omega))⟩
theorem binaryKeeps_w (f : Int) {a b : Nat} (ha9 : a < B64) (hb9 : b < B64) (w : World) (hT : Tab w) :
    Calls Tryd.prog 3 #[.int .i64 f, U a, U b] w fun en w' => en = .returned (.bool true) ∧ Below w.heap.size w w' := by
  have TB : Hid (Tab w) := hT
  obtain ⟨ra, za, ea, h1, h2⟩ := valk_all f ha9
  have PA : Hid (∀ w, Tab w → Calls Tryd.prog 5 #[.int .i64 f, U a] w fun en w' => ∃ s p m, en = .returned (.tuple #[DV s p m m ea, .int .i64 ra]) ∧ DO w.heap.size w' s p m ea za ∧ Below w.heap.size w w') := h1
  have DA : Hid (∀ w, Calls Tryd.prog 7 #[.int .i64 f, U a] w fun en w' => ∃ s p m c, en = .returned (.tuple #[DV s p m c ea, .int .i64 ra]) ∧ DN w' s p m c ea za ∧ Below w.heap.size w w') := h2
  clear h1 h2
  obtain ⟨rm, zm, em, h1, h2⟩ := midk_all f ha9
  have PM : Hid (∀ w, Tab w → Calls Tryd.prog 6 #[.int .i64 f, U a] w fun en w' => ∃ s p m, en = .returned (.tuple #[DV s p m m em, .int .i64 rm]) ∧ DO w.heap.size w' s p m em zm ∧ Below w.heap.size w w') := h1
  have DM : Hid (∀ w, Calls Tryd.prog 8 #[.int .i64 f, U a] w fun en w' => ∃ s p m c, en = .returned (.tuple #[DV s p m c em, .int .i64 rm]) ∧ DN w' s p m c em zm ∧ Below w.heap.size w w') := h2
  clear h1 h2
  obtain ⟨rb, zb, eb, h1, h2⟩ := valk_all f hb9
  have PB : Hid (∀ w, Tab w → Calls Tryd.prog 5 #[.int .i64 f, U b] w fun en w' => ∃ s p m, en = .returned (.tuple #[DV s p m m eb, .int .i64 rb]) ∧ DO w.heap.size w' s p m eb zb ∧ Below w.heap.size w w') := h1
  have DB : Hid (∀ w, Calls Tryd.prog 7 #[.int .i64 f, U b] w fun en w' => ∃ s p m c, en = .returned (.tuple #[DV s p m c eb, .int .i64 rb]) ∧ DN w' s p m c eb zb ∧ Below w.heap.size w w') := h2
  clear h1 h2
  have he : (ra == ra) = true := by simp
  clear hT ha9 hb9
  go_enter Tryd.func3, Tryd.ntmps3
  go_wp2_with fail
  have hbw : Below w.heap.size w w := Below.refl _ _
  refine (awake7 _ TB.out).mono ?_
  rintro e v0 ⟨rfl, hb0⟩
  replace hbw := Below.on hbw hb0
  clear hb0
  go_wp2_with fail
  refine (PA.out _ (TB.out.below hbw)).mono ?_
  rintro e2 v1 ⟨s1, p1, m1, rfl, hd, hb⟩
  obtain ⟨u1, hO, hN, hL⟩ := hd.own
  obtain ⟨b1, hE, hI⟩ := eq_own7 hO (hbw.size : w.heap.size ≤ v0.heap.size) hL
  have I1 : Hid ((m1 ≠ 0 → v0.heap.size ≤ b1 ∧ b1 < v1.heap.size) ∧ v0.heap.size ≤ v1.heap.size) := ⟨hI, hb.size⟩
  have hdn := hd.dn
  clear hO hN hL hI hd
  replace hbw := Below.on hbw hb
  clear hb
  have N1 : Hid (DN v1 s1 p1 m1 m1 ea za) := hdn
  have E1 : Hid (EQ7 v1 w.heap.size p1 m1 b1 u1) := hE
  clear hdn hE
  go_wp2_with fail
  have Xx10 : Hid (B3q (v1.alloc (.cells #[.bool s1, .slice p1 m1 m1, .int .i64 ea] 29)) v1.heap.size (.bool s1) (.slice p1 m1 m1) (.int .i64 ea)) := B3q.new v1 _ _ _ _
  have hbn : Below v1.heap.size v1 (v1.alloc (.cells #[.bool s1, .slice p1 m1 m1, .int .i64 ea] 29)) := below1 v1 _
  generalize v1.alloc (.cells #[.bool s1, .slice p1 m1 m1, .int .i64 ea] 29) = Wx1 at *
  have HGx1 : Hid (w.heap.size ≤ v1.heap.size) := hbw.size
  replace N1 : Hid _ := N1.out.below hbn
  replace E1 : Hid (EQ7 Wx1 w.heap.size p1 m1 b1 u1) := E1.out.below hbn
  replace hbw := Below.on hbw hbn
  clear hbn
  generalize v1.heap.size = gx1 at *
  have Xx1 := Xx10
  clear Xx10
  have S1 : Hid (gx1 ≤ Wx1.heap.size) := Nat.le_of_lt (World.block_lt_of_cell? _ _ Xx1.out.1)
  refine (PA.out _ (TB.out.below hbw)).mono ?_
  rintro e2 v2 ⟨s2, p2, m2, rfl, hd, hb⟩
  obtain ⟨u2, hO, hN, hL⟩ := hd.own
  obtain ⟨b2, hE, hI⟩ := eq_own7 hO (hbw.size : w.heap.size ≤ Wx1.heap.size) hL
  have I2 : Hid ((m2 ≠ 0 → Wx1.heap.size ≤ b2 ∧ b2 < v2.heap.size) ∧ Wx1.heap.size ≤ v2.heap.size) := ⟨hI, hb.size⟩
  have hdn := hd.dn
  clear hO hN hL hI hd
  replace Xx1 : Hid _ := Xx1.out.below hb
  replace N1 : Hid _ := N1.out.below hb
  replace E1 : Hid (EQ7 v2 w.heap.size p1 m1 b1 u1) := E1.out.below hb
  replace hbw := Below.on hbw hb
  clear hb
  have N2 : Hid (DN v2 s2 p2 m2 m2 ea za) := hdn
  have E2 : Hid (EQ7 v2 w.heap.size p2 m2 b2 u2) := hE
  clear hdn hE
  go_wp2_with fail
  have Xx20 : Hid (B3q (v2.alloc (.cells #[.bool s2, .slice p2 m2 m2, .int .i64 ea] 29)) v2.heap.size (.bool s2) (.slice p2 m2 m2) (.int .i64 ea)) := B3q.new v2 _ _ _ _
  have hbn : Below v2.heap.size v2 (v2.alloc (.cells #[.bool s2, .slice p2 m2 m2, .int .i64 ea] 29)) := below1 v2 _
  generalize v2.alloc (.cells #[.bool s2, .slice p2 m2 m2, .int .i64 ea] 29) = Wx2 at *
  have HGx2 : Hid (w.heap.size ≤ v2.heap.size) := hbw.size
  replace Xx1 : Hid _ := Xx1.out.below hbn
  replace N1 : Hid _ := N1.out.below hbn
  replace E1 : Hid (EQ7 Wx2 w.heap.size p1 m1 b1 u1) := E1.out.below hbn
  replace N2 : Hid _ := N2.out.below hbn
  replace E2 : Hid (EQ7 Wx2 w.heap.size p2 m2 b2 u2) := E2.out.below hbn
  replace hbw := Below.on hbw hbn
  clear hbn
  generalize v2.heap.size = gx2 at *
  have Xx2 := Xx20
  clear Xx20
  have S2 : Hid (gx2 ≤ Wx2.heap.size) := Nat.le_of_lt (World.block_lt_of_cell? _ _ Xx2.out.1)
  refine (PM.out _ (TB.out.below hbw)).mono ?_
  rintro e2 v3 ⟨s3, p3, m3, rfl, hd, hb⟩
  obtain ⟨u3, hO, hN, hL⟩ := hd.own
  obtain ⟨b3, hE, hI⟩ := eq_own7 hO (hbw.size : w.heap.size ≤ Wx2.heap.size) hL
  have I3 : Hid ((m3 ≠ 0 → Wx2.heap.size ≤ b3 ∧ b3 < v3.heap.size) ∧ Wx2.heap.size ≤ v3.heap.size) := ⟨hI, hb.size⟩
  have hdn := hd.dn
  clear hO hN hL hI hd
  replace Xx1 : Hid _ := Xx1.out.below hb
  replace Xx2 : Hid _ := Xx2.out.below hb
  replace N1 : Hid _ := N1.out.below hb
  replace E1 : Hid (EQ7 v3 w.heap.size p1 m1 b1 u1) := E1.out.below hb
  replace N2 : Hid _ := N2.out.below hb
  replace E2 : Hid (EQ7 v3 w.heap.size p2 m2 b2 u2) := E2.out.below hb
  replace hbw := Below.on hbw hb
  clear hb
  have N3 : Hid (DN v3 s3 p3 m3 m3 em zm) := hdn
  have E3 : Hid (EQ7 v3 w.heap.size p3 m3 b3 u3) := hE
  clear hdn hE
  go_wp2_with fail
  have Xx30 : Hid (B3q (v3.alloc (.cells #[.bool s3, .slice p3 m3 m3, .int .i64 em] 29)) v3.heap.size (.bool s3) (.slice p3 m3 m3) (.int .i64 em)) := B3q.new v3 _ _ _ _
  have hbn : Below v3.heap.size v3 (v3.alloc (.cells #[.bool s3, .slice p3 m3 m3, .int .i64 em] 29)) := below1 v3 _
  generalize v3.alloc (.cells #[.bool s3, .slice p3 m3 m3, .int .i64 em] 29) = Wx3 at *
  have HGx3 : Hid (w.heap.size ≤ v3.heap.size) := hbw.size
  replace Xx1 : Hid _ := Xx1.out.below hbn
  replace Xx2 : Hid _ := Xx2.out.below hbn
  replace N1 : Hid _ := N1.out.below hbn
  replace E1 : Hid (EQ7 Wx3 w.heap.size p1 m1 b1 u1) := E1.out.below hbn
  replace N2 : Hid _ := N2.out.below hbn
  replace E2 : Hid (EQ7 Wx3 w.heap.size p2 m2 b2 u2) := E2.out.below hbn
  replace N3 : Hid _ := N3.out.below hbn
  replace E3 : Hid (EQ7 Wx3 w.heap.size p3 m3 b3 u3) := E3.out.below hbn
  replace hbw := Below.on hbw hbn
  clear hbn
  generalize v3.heap.size = gx3 at *
  have Xx3 := Xx30
  clear Xx30
  have S3 : Hid (gx3 ≤ Wx3.heap.size) := Nat.le_of_lt (World.block_lt_of_cell? _ _ Xx3.out.1)
  refine (PM.out _ (TB.out.below hbw)).mono ?_
  rintro e2 v4 ⟨s4, p4, m4, rfl, hd, hb⟩
  obtain ⟨u4, hO, hN, hL⟩ := hd.own
  obtain ⟨b4, hE, hI⟩ := eq_own7 hO (hbw.size : w.heap.size ≤ Wx3.heap.size) hL
  have I4 : Hid ((m4 ≠ 0 → Wx3.heap.size ≤ b4 ∧ b4 < v4.heap.size) ∧ Wx3.heap.size ≤ v4.heap.size) := ⟨hI, hb.size⟩
  have hdn := hd.dn
  clear hO hN hL hI hd
  replace Xx1 : Hid _ := Xx1.out.below hb
  replace Xx2 : Hid _ := Xx2.out.below hb
  replace Xx3 : Hid _ := Xx3.out.below hb
  replace N1 : Hid _ := N1.out.below hb
  replace E1 : Hid (EQ7 v4 w.heap.size p1 m1 b1 u1) := E1.out.below hb
  replace N2 : Hid _ := N2.out.below hb
  replace E2 : Hid (EQ7 v4 w.heap.size p2 m2 b2 u2) := E2.out.below hb
  replace N3 : Hid _ := N3.out.below hb
  replace E3 : Hid (EQ7 v4 w.heap.size p3 m3 b3 u3) := E3.out.below hb
  replace hbw := Below.on hbw hb
  clear hb
  have N4 : Hid (DN v4 s4 p4 m4 m4 em zm) := hdn
  have E4 : Hid (EQ7 v4 w.heap.size p4 m4 b4 u4) := hE
  clear hdn hE
  go_wp2_with fail
  have Xx40 : Hid (B3q (v4.alloc (.cells #[.bool s4, .slice p4 m4 m4, .int .i64 em] 29)) v4.heap.size (.bool s4) (.slice p4 m4 m4) (.int .i64 em)) := B3q.new v4 _ _ _ _
  have hbn : Below v4.heap.size v4 (v4.alloc (.cells #[.bool s4, .slice p4 m4 m4, .int .i64 em] 29)) := below1 v4 _
  generalize v4.alloc (.cells #[.bool s4, .slice p4 m4 m4, .int .i64 em] 29) = Wx4 at *
  have HGx4 : Hid (w.heap.size ≤ v4.heap.size) := hbw.size
  replace Xx1 : Hid _ := Xx1.out.below hbn
  replace Xx2 : Hid _ := Xx2.out.below hbn
  replace Xx3 : Hid _ := Xx3.out.below hbn
  replace N1 : Hid _ := N1.out.below hbn
  replace E1 : Hid (EQ7 Wx4 w.heap.size p1 m1 b1 u1) := E1.out.below hbn
  replace N2 : Hid _ := N2.out.below hbn
  replace E2 : Hid (EQ7 Wx4 w.heap.size p2 m2 b2 u2) := E2.out.below hbn
  replace N3 : Hid _ := N3.out.below hbn
  replace E3 : Hid (EQ7 Wx4 w.heap.size p3 m3 b3 u3) := E3.out.below hbn
  replace N4 : Hid _ := N4.out.below hbn
  replace E4 : Hid (EQ7 Wx4 w.heap.size p4 m4 b4 u4) := E4.out.below hbn
  replace hbw := Below.on hbw hbn
  clear hbn
  generalize v4.heap.size = gx4 at *
  have Xx4 := Xx40
  clear Xx40
  have S4 : Hid (gx4 ≤ Wx4.heap.size) := Nat.le_of_lt (World.block_lt_of_cell? _ _ Xx4.out.1)
  refine (PB.out _ (TB.out.below hbw)).mono ?_
  rintro e2 v5 ⟨s5, p5, m5, rfl, hd, hb⟩
  obtain ⟨u5, hO, hN, hL⟩ := hd.own
  obtain ⟨b5, hE, hI⟩ := eq_own7 hO (hbw.size : w.heap.size ≤ Wx4.heap.size) hL
  have I5 : Hid ((m5 ≠ 0 → Wx4.heap.size ≤ b5 ∧ b5 < v5.heap.size) ∧ Wx4.heap.size ≤ v5.heap.size) := ⟨hI, hb.size⟩
  have hdn := hd.dn
  clear hO hN hL hI hd
  replace Xx1 : Hid _ := Xx1.out.below hb
  replace Xx2 : Hid _ := Xx2.out.below hb
  replace Xx3 : Hid _ := Xx3.out.below hb
  replace Xx4 : Hid _ := Xx4.out.below hb
  replace N1 : Hid _ := N1.out.below hb
  replace E1 : Hid (EQ7 v5 w.heap.size p1 m1 b1 u1) := E1.out.below hb
  replace N2 : Hid _ := N2.out.below hb
  replace E2 : Hid (EQ7 v5 w.heap.size p2 m2 b2 u2) := E2.out.below hb
  replace N3 : Hid _ := N3.out.below hb
  replace E3 : Hid (EQ7 v5 w.heap.size p3 m3 b3 u3) := E3.out.below hb
  replace N4 : Hid _ := N4.out.below hb
  replace E4 : Hid (EQ7 v5 w.heap.size p4 m4 b4 u4) := E4.out.below hb
  replace hbw := Below.on hbw hb
  clear hb
  have N5 : Hid (DN v5 s5 p5 m5 m5 eb zb) := hdn
  have E5 : Hid (EQ7 v5 w.heap.size p5 m5 b5 u5) := hE
  clear hdn hE
  go_wp2_with fail
  have Xx50 : Hid (B3q (v5.alloc (.cells #[.bool s5, .slice p5 m5 m5, .int .i64 eb] 29)) v5.heap.size (.bool s5) (.slice p5 m5 m5) (.int .i64 eb)) := B3q.new v5 _ _ _ _
  have hbn : Below v5.heap.size v5 (v5.alloc (.cells #[.bool s5, .slice p5 m5 m5, .int .i64 eb] 29)) := below1 v5 _
  generalize v5.alloc (.cells #[.bool s5, .slice p5 m5 m5, .int .i64 eb] 29) = Wx5 at *
  have HGx5 : Hid (w.heap.size ≤ v5.heap.size) := hbw.size
  replace Xx1 : Hid _ := Xx1.out.below hbn
  replace Xx2 : Hid _ := Xx2.out.below hbn
  replace Xx3 : Hid _ := Xx3.out.below hbn
  replace Xx4 : Hid _ := Xx4.out.below hbn
  replace N1 : Hid _ := N1.out.below hbn
  replace E1 : Hid (EQ7 Wx5 w.heap.size p1 m1 b1 u1) := E1.out.below hbn
  replace N2 : Hid _ := N2.out.below hbn
  replace E2 : Hid (EQ7 Wx5 w.heap.size p2 m2 b2 u2) := E2.out.below hbn
  replace N3 : Hid _ := N3.out.below hbn
  replace E3 : Hid (EQ7 Wx5 w.heap.size p3 m3 b3 u3) := E3.out.below hbn
  replace N4 : Hid _ := N4.out.below hbn
  replace E4 : Hid (EQ7 Wx5 w.heap.size p4 m4 b4 u4) := E4.out.below hbn
  replace N5 : Hid _ := N5.out.below hbn
  replace E5 : Hid (EQ7 Wx5 w.heap.size p5 m5 b5 u5) := E5.out.below hbn
  replace hbw := Below.on hbw hbn
  clear hbn
  generalize v5.heap.size = gx5 at *
  have Xx5 := Xx50
  clear Xx50
  have S5 : Hid (gx5 ≤ Wx5.heap.size) := Nat.le_of_lt (World.block_lt_of_cell? _ _ Xx5.out.1)
  refine (PA.out _ (TB.out.below hbw)).mono ?_
  rintro e2 v6 ⟨s6, p6, m6, rfl, hd, hb⟩
  obtain ⟨u6, hO, hN, hL⟩ := hd.own
  obtain ⟨b6, hE, hI⟩ := eq_own7 hO (hbw.size : w.heap.size ≤ Wx5.heap.size) hL
  have I6 : Hid ((m6 ≠ 0 → Wx5.heap.size ≤ b6 ∧ b6 < v6.heap.size) ∧ Wx5.heap.size ≤ v6.heap.size) := ⟨hI, hb.size⟩
  have hdn := hd.dn
  clear hO hN hL hI hd
  replace Xx1 : Hid _ := Xx1.out.below hb
  replace Xx2 : Hid _ := Xx2.out.below hb
  replace Xx3 : Hid _ := Xx3.out.below hb
  replace Xx4 : Hid _ := Xx4.out.below hb
  replace Xx5 : Hid _ := Xx5.out.below hb
  replace N1 : Hid _ := N1.out.below hb
  replace E1 : Hid (EQ7 v6 w.heap.size p1 m1 b1 u1) := E1.out.below hb
  replace N2 : Hid _ := N2.out.below hb
  replace E2 : Hid (EQ7 v6 w.heap.size p2 m2 b2 u2) := E2.out.below hb
  replace N3 : Hid _ := N3.out.below hb
  replace E3 : Hid (EQ7 v6 w.heap.size p3 m3 b3 u3) := E3.out.below hb
  replace N4 : Hid _ := N4.out.below hb
  replace E4 : Hid (EQ7 v6 w.heap.size p4 m4 b4 u4) := E4.out.below hb
  replace N5 : Hid _ := N5.out.below hb
  replace E5 : Hid (EQ7 v6 w.heap.size p5 m5 b5 u5) := E5.out.below hb
  replace hbw := Below.on hbw hb
  clear hb
  have N6 : Hid (DN v6 s6 p6 m6 m6 ea za) := hdn
  have E6 : Hid (EQ7 v6 w.heap.size p6 m6 b6 u6) := hE
  clear hdn hE
  go_wp2_with fail
  have Xx60 : Hid (B3q (v6.alloc (.cells #[.bool s6, .slice p6 m6 m6, .int .i64 ea] 29)) v6.heap.size (.bool s6) (.slice p6 m6 m6) (.int .i64 ea)) := B3q.new v6 _ _ _ _
  have hbn : Below v6.heap.size v6 (v6.alloc (.cells #[.bool s6, .slice p6 m6 m6, .int .i64 ea] 29)) := below1 v6 _
  generalize v6.alloc (.cells #[.bool s6, .slice p6 m6 m6, .int .i64 ea] 29) = Wx6 at *
  have HGx6 : Hid (w.heap.size ≤ v6.heap.size) := hbw.size
  replace Xx1 : Hid _ := Xx1.out.below hbn
  replace Xx2 : Hid _ := Xx2.out.below hbn
  replace Xx3 : Hid _ := Xx3.out.below hbn
  replace Xx4 : Hid _ := Xx4.out.below hbn
  replace Xx5 : Hid _ := Xx5.out.below hbn
  replace N1 : Hid _ := N1.out.below hbn
  replace E1 : Hid (EQ7 Wx6 w.heap.size p1 m1 b1 u1) := E1.out.below hbn
  replace N2 : Hid _ := N2.out.below hbn
  replace E2 : Hid (EQ7 Wx6 w.heap.size p2 m2 b2 u2) := E2.out.below hbn
  replace N3 : Hid _ := N3.out.below hbn
  replace E3 : Hid (EQ7 Wx6 w.heap.size p3 m3 b3 u3) := E3.out.below hbn
  replace N4 : Hid _ := N4.out.below hbn
  replace E4 : Hid (EQ7 Wx6 w.heap.size p4 m4 b4 u4) := E4.out.below hbn
  replace N5 : Hid _ := N5.out.below hbn
  replace E5 : Hid (EQ7 Wx6 w.heap.size p5 m5 b5 u5) := E5.out.below hbn
  replace N6 : Hid _ := N6.out.below hbn
  replace E6 : Hid (EQ7 Wx6 w.heap.size p6 m6 b6 u6) := E6.out.below hbn
  replace hbw := Below.on hbw hbn
  clear hbn
  generalize v6.heap.size = gx6 at *
  have Xx6 := Xx60
  clear Xx60
  have S6 : Hid (gx6 ≤ Wx6.heap.size) := Nat.le_of_lt (World.block_lt_of_cell? _ _ Xx6.out.1)
  refine (DA.out _).mono ?_
  rintro e2 v7 ⟨s7, p7, m7, c7, rfl, hd, hb⟩
  replace Xx1 : Hid _ := Xx1.out.below hb
  replace Xx2 : Hid _ := Xx2.out.below hb
  replace Xx3 : Hid _ := Xx3.out.below hb
  replace Xx4 : Hid _ := Xx4.out.below hb
  replace Xx5 : Hid _ := Xx5.out.below hb
  replace Xx6 : Hid _ := Xx6.out.below hb
  replace N1 : Hid _ := N1.out.below hb
  replace E1 : Hid (EQ7 v7 w.heap.size p1 m1 b1 u1) := E1.out.below hb
  replace N2 : Hid _ := N2.out.below hb
  replace E2 : Hid (EQ7 v7 w.heap.size p2 m2 b2 u2) := E2.out.below hb
  replace N3 : Hid _ := N3.out.below hb
  replace E3 : Hid (EQ7 v7 w.heap.size p3 m3 b3 u3) := E3.out.below hb
  replace N4 : Hid _ := N4.out.below hb
  replace E4 : Hid (EQ7 v7 w.heap.size p4 m4 b4 u4) := E4.out.below hb
  replace N5 : Hid _ := N5.out.below hb
  replace E5 : Hid (EQ7 v7 w.heap.size p5 m5 b5 u5) := E5.out.below hb
  replace N6 : Hid _ := N6.out.below hb
  replace E6 : Hid (EQ7 v7 w.heap.size p6 m6 b6 u6) := E6.out.below hb
  replace hbw := Below.on hbw hb
  clear hb
  have N7 : Hid (DN v7 s7 p7 m7 c7 ea za) := hd
  clear hd
  go_wp2_with fail
  have Xy10 : Hid (B3q (v7.alloc (.cells #[.bool s7, .slice p7 m7 c7, .int .i64 ea] 29)) v7.heap.size (.bool s7) (.slice p7 m7 c7) (.int .i64 ea)) := B3q.new v7 _ _ _ _
  have hbn : Below v7.heap.size v7 (v7.alloc (.cells #[.bool s7, .slice p7 m7 c7, .int .i64 ea] 29)) := below1 v7 _
  generalize v7.alloc (.cells #[.bool s7, .slice p7 m7 c7, .int .i64 ea] 29) = Wy1 at *
  have HGy1 : Hid (w.heap.size ≤ v7.heap.size) := hbw.size
  replace Xx1 : Hid _ := Xx1.out.below hbn
  replace Xx2 : Hid _ := Xx2.out.below hbn
  replace Xx3 : Hid _ := Xx3.out.below hbn
  replace Xx4 : Hid _ := Xx4.out.below hbn
  replace Xx5 : Hid _ := Xx5.out.below hbn
  replace Xx6 : Hid _ := Xx6.out.below hbn
  replace N1 : Hid _ := N1.out.below hbn
  replace E1 : Hid (EQ7 Wy1 w.heap.size p1 m1 b1 u1) := E1.out.below hbn
  replace N2 : Hid _ := N2.out.below hbn
  replace E2 : Hid (EQ7 Wy1 w.heap.size p2 m2 b2 u2) := E2.out.below hbn
  replace N3 : Hid _ := N3.out.below hbn
  replace E3 : Hid (EQ7 Wy1 w.heap.size p3 m3 b3 u3) := E3.out.below hbn
  replace N4 : Hid _ := N4.out.below hbn
  replace E4 : Hid (EQ7 Wy1 w.heap.size p4 m4 b4 u4) := E4.out.below hbn
  replace N5 : Hid _ := N5.out.below hbn
  replace E5 : Hid (EQ7 Wy1 w.heap.size p5 m5 b5 u5) := E5.out.below hbn
  replace N6 : Hid _ := N6.out.below hbn
  replace E6 : Hid (EQ7 Wy1 w.heap.size p6 m6 b6 u6) := E6.out.below hbn
  replace N7 : Hid _ := N7.out.below hbn
  replace hbw := Below.on hbw hbn
  clear hbn
  generalize v7.heap.size = gy1 at *
  have Xy1 := Xy10
  clear Xy10
  refine (DM.out _).mono ?_
  rintro e2 v8 ⟨s8, p8, m8, c8, rfl, hd, hb⟩
  replace Xx1 : Hid _ := Xx1.out.below hb
  replace Xx2 : Hid _ := Xx2.out.below hb
  replace Xx3 : Hid _ := Xx3.out.below hb
  replace Xx4 : Hid _ := Xx4.out.below hb
  replace Xx5 : Hid _ := Xx5.out.below hb
  replace Xx6 : Hid _ := Xx6.out.below hb
  replace Xy1 : Hid _ := Xy1.out.below hb
  replace N1 : Hid _ := N1.out.below hb
  replace E1 : Hid (EQ7 v8 w.heap.size p1 m1 b1 u1) := E1.out.below hb
  replace N2 : Hid _ := N2.out.below hb
  replace E2 : Hid (EQ7 v8 w.heap.size p2 m2 b2 u2) := E2.out.below hb
  replace N3 : Hid _ := N3.out.below hb
  replace E3 : Hid (EQ7 v8 w.heap.size p3 m3 b3 u3) := E3.out.below hb
  replace N4 : Hid _ := N4.out.below hb
  replace E4 : Hid (EQ7 v8 w.heap.size p4 m4 b4 u4) := E4.out.below hb
  replace N5 : Hid _ := N5.out.below hb
  replace E5 : Hid (EQ7 v8 w.heap.size p5 m5 b5 u5) := E5.out.below hb
  replace N6 : Hid _ := N6.out.below hb
  replace E6 : Hid (EQ7 v8 w.heap.size p6 m6 b6 u6) := E6.out.below hb
  replace N7 : Hid _ := N7.out.below hb
  replace hbw := Below.on hbw hb
  clear hb
  have N8 : Hid (DN v8 s8 p8 m8 c8 em zm) := hd
  clear hd
  go_wp2_with fail
  have Xy20 : Hid (B3q (v8.alloc (.cells #[.bool s8, .slice p8 m8 c8, .int .i64 em] 29)) v8.heap.size (.bool s8) (.slice p8 m8 c8) (.int .i64 em)) := B3q.new v8 _ _ _ _
  have hbn : Below v8.heap.size v8 (v8.alloc (.cells #[.bool s8, .slice p8 m8 c8, .int .i64 em] 29)) := below1 v8 _
  generalize v8.alloc (.cells #[.bool s8, .slice p8 m8 c8, .int .i64 em] 29) = Wy2 at *
  have HGy2 : Hid (w.heap.size ≤ v8.heap.size) := hbw.size
  replace Xx1 : Hid _ := Xx1.out.below hbn
  replace Xx2 : Hid _ := Xx2.out.below hbn
  replace Xx3 : Hid _ := Xx3.out.below hbn
  replace Xx4 : Hid _ := Xx4.out.below hbn
  replace Xx5 : Hid _ := Xx5.out.below hbn
  replace Xx6 : Hid _ := Xx6.out.below hbn
  replace Xy1 : Hid _ := Xy1.out.below hbn
  replace N1 : Hid _ := N1.out.below hbn
  replace E1 : Hid (EQ7 Wy2 w.heap.size p1 m1 b1 u1) := E1.out.below hbn
  replace N2 : Hid _ := N2.out.below hbn
  replace E2 : Hid (EQ7 Wy2 w.heap.size p2 m2 b2 u2) := E2.out.below hbn
  replace N3 : Hid _ := N3.out.below hbn
  replace E3 : Hid (EQ7 Wy2 w.heap.size p3 m3 b3 u3) := E3.out.below hbn
  replace N4 : Hid _ := N4.out.below hbn
  replace E4 : Hid (EQ7 Wy2 w.heap.size p4 m4 b4 u4) := E4.out.below hbn
  replace N5 : Hid _ := N5.out.below hbn
  replace E5 : Hid (EQ7 Wy2 w.heap.size p5 m5 b5 u5) := E5.out.below hbn
  replace N6 : Hid _ := N6.out.below hbn
  replace E6 : Hid (EQ7 Wy2 w.heap.size p6 m6 b6 u6) := E6.out.below hbn
  replace N7 : Hid _ := N7.out.below hbn
  replace N8 : Hid _ := N8.out.below hbn
  replace hbw := Below.on hbw hbn
  clear hbn
  generalize v8.heap.size = gy2 at *
  have Xy2 := Xy20
  clear Xy20
  refine (DB.out _).mono ?_
  rintro e2 v9 ⟨s9, p9, m9, c9, rfl, hd, hb⟩
  replace Xx1 : Hid _ := Xx1.out.below hb
  replace Xx2 : Hid _ := Xx2.out.below hb
  replace Xx3 : Hid _ := Xx3.out.below hb
  replace Xx4 : Hid _ := Xx4.out.below hb
  replace Xx5 : Hid _ := Xx5.out.below hb
  replace Xx6 : Hid _ := Xx6.out.below hb
  replace Xy1 : Hid _ := Xy1.out.below hb
  replace Xy2 : Hid _ := Xy2.out.below hb
  replace N1 : Hid _ := N1.out.below hb
  replace E1 : Hid (EQ7 v9 w.heap.size p1 m1 b1 u1) := E1.out.below hb
  replace N2 : Hid _ := N2.out.below hb
  replace E2 : Hid (EQ7 v9 w.heap.size p2 m2 b2 u2) := E2.out.below hb
  replace N3 : Hid _ := N3.out.below hb
  replace E3 : Hid (EQ7 v9 w.heap.size p3 m3 b3 u3) := E3.out.below hb
  replace N4 : Hid _ := N4.out.below hb
  replace E4 : Hid (EQ7 v9 w.heap.size p4 m4 b4 u4) := E4.out.below hb
  replace N5 : Hid _ := N5.out.below hb
  replace E5 : Hid (EQ7 v9 w.heap.size p5 m5 b5 u5) := E5.out.below hb
  replace N6 : Hid _ := N6.out.below hb
  replace E6 : Hid (EQ7 v9 w.heap.size p6 m6 b6 u6) := E6.out.below hb
  replace N7 : Hid _ := N7.out.below hb
  replace N8 : Hid _ := N8.out.below hb
  replace hbw := Below.on hbw hb
  clear hb
  have N9 : Hid (DN v9 s9 p9 m9 c9 eb zb) := hd
  clear hd
  obtain ⟨cx10, cx11, cx12, fx10, fx11, fx12⟩ := Xx1.out
  have hnex1 : gx1 < v9.heap.size := World.block_lt_of_cell? v9 _ cx10
  obtain ⟨cy10, cy11, cy12, fy10, fy11, fy12⟩ := Xy1.out
  have hney1 : gy1 < v9.heap.size := World.block_lt_of_cell? v9 _ cy10
  go_wp2_with fail
  clear cx10 cx11 cx12 fx10 fx11 fx12 hnex1
  clear cy10 cy11 cy12 fy10 fy11 fy12 hney1
  have Xy30 : Hid (B3q (v9.alloc (.cells #[.bool s9, .slice p9 m9 c9, .int .i64 eb] 29)) v9.heap.size (.bool s9) (.slice p9 m9 c9) (.int .i64 eb)) := B3q.new v9 _ _ _ _
  have hbn : Below v9.heap.size v9 (v9.alloc (.cells #[.bool s9, .slice p9 m9 c9, .int .i64 eb] 29)) := below1 v9 _
  generalize v9.alloc (.cells #[.bool s9, .slice p9 m9 c9, .int .i64 eb] 29) = Wy3 at *
  have HGy3 : Hid (w.heap.size ≤ v9.heap.size) := hbw.size
  replace Xx1 : Hid _ := Xx1.out.below hbn
  replace Xx2 : Hid _ := Xx2.out.below hbn
  replace Xx3 : Hid _ := Xx3.out.below hbn
  replace Xx4 : Hid _ := Xx4.out.below hbn
  replace Xx5 : Hid _ := Xx5.out.below hbn
  replace Xx6 : Hid _ := Xx6.out.below hbn
  replace Xy1 : Hid _ := Xy1.out.below hbn
  replace Xy2 : Hid _ := Xy2.out.below hbn
  replace N1 : Hid _ := N1.out.below hbn
  replace E1 : Hid (EQ7 Wy3 w.heap.size p1 m1 b1 u1) := E1.out.below hbn
  replace N2 : Hid _ := N2.out.below hbn
  replace E2 : Hid (EQ7 Wy3 w.heap.size p2 m2 b2 u2) := E2.out.below hbn
  replace N3 : Hid _ := N3.out.below hbn
  replace E3 : Hid (EQ7 Wy3 w.heap.size p3 m3 b3 u3) := E3.out.below hbn
  replace N4 : Hid _ := N4.out.below hbn
  replace E4 : Hid (EQ7 Wy3 w.heap.size p4 m4 b4 u4) := E4.out.below hbn
  replace N5 : Hid _ := N5.out.below hbn
  replace E5 : Hid (EQ7 Wy3 w.heap.size p5 m5 b5 u5) := E5.out.below hbn
  replace N6 : Hid _ := N6.out.below hbn
  replace E6 : Hid (EQ7 Wy3 w.heap.size p6 m6 b6 u6) := E6.out.below hbn
  replace N7 : Hid _ := N7.out.below hbn
  replace N8 : Hid _ := N8.out.below hbn
  replace N9 : Hid _ := N9.out.below hbn
  replace hbw := Below.on hbw hbn
  clear hbn
  generalize v9.heap.size = gy3 at *
  have Xy3 := Xy30
  clear Xy30
  refine (same7 N1.out N7.out).mono ?_
  rintro e v10 ⟨rfl, hb10⟩
  replace Xx1 : Hid _ := Xx1.out.below hb10
  replace Xx2 : Hid _ := Xx2.out.below hb10
  replace Xx3 : Hid _ := Xx3.out.below hb10
  replace Xx4 : Hid _ := Xx4.out.below hb10
  replace Xx5 : Hid _ := Xx5.out.below hb10
  replace Xx6 : Hid _ := Xx6.out.below hb10
  replace Xy1 : Hid _ := Xy1.out.below hb10
  replace Xy2 : Hid _ := Xy2.out.below hb10
  replace Xy3 : Hid _ := Xy3.out.below hb10
  replace N1 : Hid _ := N1.out.below hb10
  replace E1 : Hid (EQ7 v10 w.heap.size p1 m1 b1 u1) := E1.out.below hb10
  replace N2 : Hid _ := N2.out.below hb10
  replace E2 : Hid (EQ7 v10 w.heap.size p2 m2 b2 u2) := E2.out.below hb10
  replace N3 : Hid _ := N3.out.below hb10
  replace E3 : Hid (EQ7 v10 w.heap.size p3 m3 b3 u3) := E3.out.below hb10
  replace N4 : Hid _ := N4.out.below hb10
  replace E4 : Hid (EQ7 v10 w.heap.size p4 m4 b4 u4) := E4.out.below hb10
  replace N5 : Hid _ := N5.out.below hb10
  replace E5 : Hid (EQ7 v10 w.heap.size p5 m5 b5 u5) := E5.out.below hb10
  replace N6 : Hid _ := N6.out.below hb10
  replace E6 : Hid (EQ7 v10 w.heap.size p6 m6 b6 u6) := E6.out.below hb10
  replace N7 : Hid _ := N7.out.below hb10
  replace N8 : Hid _ := N8.out.below hb10
  replace N9 : Hid _ := N9.out.below hb10
  replace hbw := Below.on hbw hb10
  clear hb10
  obtain ⟨cx20, cx21, cx22, fx20, fx21, fx22⟩ := Xx2.out
  have hnex2 : gx2 < v10.heap.size := World.block_lt_of_cell? v10 _ cx20
  obtain ⟨cy10, cy11, cy12, fy10, fy11, fy12⟩ := Xy1.out
  have hney1 : gy1 < v10.heap.size := World.block_lt_of_cell? v10 _ cy10
  go_wp2_with fail
  clear cx20 cx21 cx22 fx20 fx21 fx22 hnex2
  clear cy10 cy11 cy12 fy10 fy11 fy12 hney1
  refine (same7 N2.out N7.out).mono ?_
  rintro e v11 ⟨rfl, hb11⟩
  replace Xx1 : Hid _ := Xx1.out.below hb11
  replace Xx2 : Hid _ := Xx2.out.below hb11
  replace Xx3 : Hid _ := Xx3.out.below hb11
  replace Xx4 : Hid _ := Xx4.out.below hb11
  replace Xx5 : Hid _ := Xx5.out.below hb11
  replace Xx6 : Hid _ := Xx6.out.below hb11
  replace Xy1 : Hid _ := Xy1.out.below hb11
  replace Xy2 : Hid _ := Xy2.out.below hb11
  replace Xy3 : Hid _ := Xy3.out.below hb11
  replace N1 : Hid _ := N1.out.below hb11
  replace E1 : Hid (EQ7 v11 w.heap.size p1 m1 b1 u1) := E1.out.below hb11
  replace N2 : Hid _ := N2.out.below hb11
  replace E2 : Hid (EQ7 v11 w.heap.size p2 m2 b2 u2) := E2.out.below hb11
  replace N3 : Hid _ := N3.out.below hb11
  replace E3 : Hid (EQ7 v11 w.heap.size p3 m3 b3 u3) := E3.out.below hb11
  replace N4 : Hid _ := N4.out.below hb11
  replace E4 : Hid (EQ7 v11 w.heap.size p4 m4 b4 u4) := E4.out.below hb11
  replace N5 : Hid _ := N5.out.below hb11
  replace E5 : Hid (EQ7 v11 w.heap.size p5 m5 b5 u5) := E5.out.below hb11
  replace N6 : Hid _ := N6.out.below hb11
  replace E6 : Hid (EQ7 v11 w.heap.size p6 m6 b6 u6) := E6.out.below hb11
  replace N7 : Hid _ := N7.out.below hb11
  replace N8 : Hid _ := N8.out.below hb11
  replace N9 : Hid _ := N9.out.below hb11
  replace hbw := Below.on hbw hb11
  clear hb11
  obtain ⟨cx60, cx61, cx62, fx60, fx61, fx62⟩ := Xx6.out
  have hnex6 : gx6 < v11.heap.size := World.block_lt_of_cell? v11 _ cx60
  obtain ⟨cy10, cy11, cy12, fy10, fy11, fy12⟩ := Xy1.out
  have hney1 : gy1 < v11.heap.size := World.block_lt_of_cell? v11 _ cy10
  go_wp2_with fail
  clear cx60 cx61 cx62 fx60 fx61 fx62 hnex6
  clear cy10 cy11 cy12 fy10 fy11 fy12 hney1
  refine (same7 N6.out N7.out).mono ?_
  rintro e v12 ⟨rfl, hb12⟩
  replace Xx1 : Hid _ := Xx1.out.below hb12
  replace Xx2 : Hid _ := Xx2.out.below hb12
  replace Xx3 : Hid _ := Xx3.out.below hb12
  replace Xx4 : Hid _ := Xx4.out.below hb12
  replace Xx5 : Hid _ := Xx5.out.below hb12
  replace Xx6 : Hid _ := Xx6.out.below hb12
  replace Xy1 : Hid _ := Xy1.out.below hb12
  replace Xy2 : Hid _ := Xy2.out.below hb12
  replace Xy3 : Hid _ := Xy3.out.below hb12
  replace N1 : Hid _ := N1.out.below hb12
  replace E1 : Hid (EQ7 v12 w.heap.size p1 m1 b1 u1) := E1.out.below hb12
  replace N2 : Hid _ := N2.out.below hb12
  replace E2 : Hid (EQ7 v12 w.heap.size p2 m2 b2 u2) := E2.out.below hb12
  replace N3 : Hid _ := N3.out.below hb12
  replace E3 : Hid (EQ7 v12 w.heap.size p3 m3 b3 u3) := E3.out.below hb12
  replace N4 : Hid _ := N4.out.below hb12
  replace E4 : Hid (EQ7 v12 w.heap.size p4 m4 b4 u4) := E4.out.below hb12
  replace N5 : Hid _ := N5.out.below hb12
  replace E5 : Hid (EQ7 v12 w.heap.size p5 m5 b5 u5) := E5.out.below hb12
  replace N6 : Hid _ := N6.out.below hb12
  replace E6 : Hid (EQ7 v12 w.heap.size p6 m6 b6 u6) := E6.out.below hb12
  replace N7 : Hid _ := N7.out.below hb12
  replace N8 : Hid _ := N8.out.below hb12
  replace N9 : Hid _ := N9.out.below hb12
  replace hbw := Below.on hbw hb12
  clear hb12
  obtain ⟨cx30, cx31, cx32, fx30, fx31, fx32⟩ := Xx3.out
  have hnex3 : gx3 < v12.heap.size := World.block_lt_of_cell? v12 _ cx30
  obtain ⟨cy20, cy21, cy22, fy20, fy21, fy22⟩ := Xy2.out
  have hney2 : gy2 < v12.heap.size := World.block_lt_of_cell? v12 _ cy20
  go_wp2_with fail
  clear cx30 cx31 cx32 fx30 fx31 fx32 hnex3
  clear cy20 cy21 cy22 fy20 fy21 fy22 hney2
  refine (same7 N3.out N8.out).mono ?_
  rintro e v13 ⟨rfl, hb13⟩
  replace Xx1 : Hid _ := Xx1.out.below hb13
  replace Xx2 : Hid _ := Xx2.out.below hb13
  replace Xx3 : Hid _ := Xx3.out.below hb13
  replace Xx4 : Hid _ := Xx4.out.below hb13
  replace Xx5 : Hid _ := Xx5.out.below hb13
  replace Xx6 : Hid _ := Xx6.out.below hb13
  replace Xy1 : Hid _ := Xy1.out.below hb13
  replace Xy2 : Hid _ := Xy2.out.below hb13
  replace Xy3 : Hid _ := Xy3.out.below hb13
  replace N1 : Hid _ := N1.out.below hb13
  replace E1 : Hid (EQ7 v13 w.heap.size p1 m1 b1 u1) := E1.out.below hb13
  replace N2 : Hid _ := N2.out.below hb13
  replace E2 : Hid (EQ7 v13 w.heap.size p2 m2 b2 u2) := E2.out.below hb13
  replace N3 : Hid _ := N3.out.below hb13
  replace E3 : Hid (EQ7 v13 w.heap.size p3 m3 b3 u3) := E3.out.below hb13
  replace N4 : Hid _ := N4.out.below hb13
  replace E4 : Hid (EQ7 v13 w.heap.size p4 m4 b4 u4) := E4.out.below hb13
  replace N5 : Hid _ := N5.out.below hb13
  replace E5 : Hid (EQ7 v13 w.heap.size p5 m5 b5 u5) := E5.out.below hb13
  replace N6 : Hid _ := N6.out.below hb13
  replace E6 : Hid (EQ7 v13 w.heap.size p6 m6 b6 u6) := E6.out.below hb13
  replace N7 : Hid _ := N7.out.below hb13
  replace N8 : Hid _ := N8.out.below hb13
  replace N9 : Hid _ := N9.out.below hb13
  replace hbw := Below.on hbw hb13
  clear hb13
  obtain ⟨cx40, cx41, cx42, fx40, fx41, fx42⟩ := Xx4.out
  have hnex4 : gx4 < v13.heap.size := World.block_lt_of_cell? v13 _ cx40
  obtain ⟨cy20, cy21, cy22, fy20, fy21, fy22⟩ := Xy2.out
  have hney2 : gy2 < v13.heap.size := World.block_lt_of_cell? v13 _ cy20
  go_wp2_with fail
  clear cx40 cx41 cx42 fx40 fx41 fx42 hnex4
  clear cy20 cy21 cy22 fy20 fy21 fy22 hney2
  refine (same7 N4.out N8.out).mono ?_
  rintro e v14 ⟨rfl, hb14⟩
  replace Xx1 : Hid _ := Xx1.out.below hb14
  replace Xx2 : Hid _ := Xx2.out.below hb14
  replace Xx3 : Hid _ := Xx3.out.below hb14
  replace Xx4 : Hid _ := Xx4.out.below hb14
  replace Xx5 : Hid _ := Xx5.out.below hb14
  replace Xx6 : Hid _ := Xx6.out.below hb14
  replace Xy1 : Hid _ := Xy1.out.below hb14
  replace Xy2 : Hid _ := Xy2.out.below hb14
  replace Xy3 : Hid _ := Xy3.out.below hb14
  replace N1 : Hid _ := N1.out.below hb14
  replace E1 : Hid (EQ7 v14 w.heap.size p1 m1 b1 u1) := E1.out.below hb14
  replace N2 : Hid _ := N2.out.below hb14
  replace E2 : Hid (EQ7 v14 w.heap.size p2 m2 b2 u2) := E2.out.below hb14
  replace N3 : Hid _ := N3.out.below hb14
  replace E3 : Hid (EQ7 v14 w.heap.size p3 m3 b3 u3) := E3.out.below hb14
  replace N4 : Hid _ := N4.out.below hb14
  replace E4 : Hid (EQ7 v14 w.heap.size p4 m4 b4 u4) := E4.out.below hb14
  replace N5 : Hid _ := N5.out.below hb14
  replace E5 : Hid (EQ7 v14 w.heap.size p5 m5 b5 u5) := E5.out.below hb14
  replace N6 : Hid _ := N6.out.below hb14
  replace E6 : Hid (EQ7 v14 w.heap.size p6 m6 b6 u6) := E6.out.below hb14
  replace N7 : Hid _ := N7.out.below hb14
  replace N8 : Hid _ := N8.out.below hb14
  replace N9 : Hid _ := N9.out.below hb14
  replace hbw := Below.on hbw hb14
  clear hb14
  obtain ⟨cx50, cx51, cx52, fx50, fx51, fx52⟩ := Xx5.out
  have hnex5 : gx5 < v14.heap.size := World.block_lt_of_cell? v14 _ cx50
  obtain ⟨cy30, cy31, cy32, fy30, fy31, fy32⟩ := Xy3.out
  have hney3 : gy3 < v14.heap.size := World.block_lt_of_cell? v14 _ cy30
  go_wp2_with fail
  clear cx50 cx51 cx52 fx50 fx51 fx52 hnex5
  clear cy30 cy31 cy32 fy30 fy31 fy32 hney3
  refine (same7 N5.out N9.out).mono ?_
  rintro e v15 ⟨rfl, hb15⟩
  replace Xx1 : Hid _ := Xx1.out.below hb15
  replace Xx2 : Hid _ := Xx2.out.below hb15
  replace Xx3 : Hid _ := Xx3.out.below hb15
  replace Xx4 : Hid _ := Xx4.out.below hb15
  replace Xx5 : Hid _ := Xx5.out.below hb15
  replace Xx6 : Hid _ := Xx6.out.below hb15
  replace Xy1 : Hid _ := Xy1.out.below hb15
  replace Xy2 : Hid _ := Xy2.out.below hb15
  replace Xy3 : Hid _ := Xy3.out.below hb15
  replace N1 : Hid _ := N1.out.below hb15
  replace E1 : Hid (EQ7 v15 w.heap.size p1 m1 b1 u1) := E1.out.below hb15
  replace N2 : Hid _ := N2.out.below hb15
  replace E2 : Hid (EQ7 v15 w.heap.size p2 m2 b2 u2) := E2.out.below hb15
  replace N3 : Hid _ := N3.out.below hb15
  replace E3 : Hid (EQ7 v15 w.heap.size p3 m3 b3 u3) := E3.out.below hb15
  replace N4 : Hid _ := N4.out.below hb15
  replace E4 : Hid (EQ7 v15 w.heap.size p4 m4 b4 u4) := E4.out.below hb15
  replace N5 : Hid _ := N5.out.below hb15
  replace E5 : Hid (EQ7 v15 w.heap.size p5 m5 b5 u5) := E5.out.below hb15
  replace N6 : Hid _ := N6.out.below hb15
  replace E6 : Hid (EQ7 v15 w.heap.size p6 m6 b6 u6) := E6.out.below hb15
  replace N7 : Hid _ := N7.out.below hb15
  replace N8 : Hid _ := N8.out.below hb15
  replace N9 : Hid _ := N9.out.below hb15
  replace hbw := Below.on hbw hb15
  clear hb15
  clear N1
  clear N2
  clear N3
  clear N4
  clear N5
  clear N6
  clear N7
  clear N8
  clear N9
  obtain ⟨cx10, cx11, cx12, fx10, fx11, fx12⟩ := Xx1.out
  have hnex1 : gx1 < v15.heap.size := World.block_lt_of_cell? v15 _ cx10
  obtain ⟨cx20, cx21, cx22, fx20, fx21, fx22⟩ := Xx2.out
  have hnex2 : gx2 < v15.heap.size := World.block_lt_of_cell? v15 _ cx20
  obtain ⟨cx30, cx31, cx32, fx30, fx31, fx32⟩ := Xx3.out
  have hnex3 : gx3 < v15.heap.size := World.block_lt_of_cell? v15 _ cx30
  obtain ⟨cx40, cx41, cx42, fx40, fx41, fx42⟩ := Xx4.out
  have hnex4 : gx4 < v15.heap.size := World.block_lt_of_cell? v15 _ cx40
  obtain ⟨cx50, cx51, cx52, fx50, fx51, fx52⟩ := Xx5.out
  have hnex5 : gx5 < v15.heap.size := World.block_lt_of_cell? v15 _ cx50
  obtain ⟨cx60, cx61, cx62, fx60, fx61, fx62⟩ := Xx6.out
  have hnex6 : gx6 < v15.heap.size := World.block_lt_of_cell? v15 _ cx60
  go_wp2_with fail
  clear cx10 cx11 cx12 fx10 fx11 fx12 hnex1
  clear cx20 cx21 cx22 fx20 fx21 fx22 hnex2
  clear cx30 cx31 cx32 fx30 fx31 fx32 hnex3
  clear cx40 cx41 cx42 fx40 fx41 fx42 hnex4
  clear cx50 cx51 cx52 fx50 fx51 fx52 hnex5
  clear cx60 cx61 cx62 fx60 fx61 fx62 hnex6
  have hbl := below1 v15 (.cells #[.slice p1 m1 m1, .slice p2 m2 m2, .slice p3 m3 m3, .slice p4 m4 m4, .slice p5 m5 m5, .slice p6 m6 m6] 25)
  have HPW : Hid (([⟨p1, m1, b1, u1⟩, ⟨p2, m2, b2, u2⟩, ⟨p3, m3, b3, u3⟩, ⟨p4, m4, b4, u4⟩, ⟨p5, m5, b5, u5⟩, ⟨p6, m6, b6, u6⟩] : List EN7).Pairwise (fun a b => a.n ≠ 0 → b.n ≠ 0 → a.b ≠ b.b)) := pw6 (H1 := I1.out.1) (H2 := I2.out.1) (H3 := I3.out.1) (H4 := I4.out.1) (H5 := I5.out.1) (H6 := I6.out.1) (c1 := S1.out) (c2 := S2.out) (c3 := S3.out) (c4 := S4.out) (c5 := S5.out) (d2 := I2.out.2) (d3 := I3.out.2) (d4 := I4.out.2) (d5 := I5.out.2)
  have HLQ := lq_list (w := v15.alloc (.cells #[.slice p1 m1 m1, .slice p2 m2 m2, .slice p3 m3 m3, .slice p4 m4 m4, .slice p5 m5 m5, .slice p6 m6 m6] 25)) (B := w.heap.size) (go := v15.heap.size) ([⟨p1, m1, b1, u1⟩, ⟨p2, m2, b2, u2⟩, ⟨p3, m3, b3, u3⟩, ⟨p4, m4, b4, u4⟩, ⟨p5, m5, b5, u5⟩, ⟨p6, m6, b6, u6⟩] : List EN7) (List.forall_mem_cons.2 ⟨(E1.out.below hbl), (List.forall_mem_cons.2 ⟨(E2.out.below hbl), (List.forall_mem_cons.2 ⟨(E3.out.below hbl), (List.forall_mem_cons.2 ⟨(E4.out.below hbl), (List.forall_mem_cons.2 ⟨(E5.out.below hbl), (List.forall_mem_cons.2 ⟨(E6.out.below hbl), (fun _ h => absurd h (List.not_mem_nil))⟩)⟩)⟩)⟩)⟩)⟩) (by intro i hi; have hi : i < 6 := hi; have h14 : i = 0 ∨ i = 1 ∨ i = 2 ∨ i = 3 ∨ i = 4 ∨ i = 5 := (by omega); clear hi; rcases h14 with rfl | rfl | rfl | rfl | rfl | rfl <;> go_simp) (List.forall_mem_cons.2 ⟨(fun hc => Nat.ne_of_lt (E1.out.lt hc)), (List.forall_mem_cons.2 ⟨(fun hc => Nat.ne_of_lt (E2.out.lt hc)), (List.forall_mem_cons.2 ⟨(fun hc => Nat.ne_of_lt (E3.out.lt hc)), (List.forall_mem_cons.2 ⟨(fun hc => Nat.ne_of_lt (E4.out.lt hc)), (List.forall_mem_cons.2 ⟨(fun hc => Nat.ne_of_lt (E5.out.lt hc)), (List.forall_mem_cons.2 ⟨(fun hc => Nat.ne_of_lt (E6.out.lt hc)), (fun _ h => absurd h (List.not_mem_nil))⟩)⟩)⟩)⟩)⟩)⟩) HPW.out
  refine (apart_ok (N := 6) (C := 6) HLQ (by decide) (by decide) (by decide) (by decide) (Nat.le_trans hbw.size hbl.size)).mono ?_
  rintro e v50 ⟨rfl, hb50⟩
  have hbz := (Below.on hbw hbl).trans hb50
  clear HLQ hbl hb50 HPW
  go_wp2_with fail
  go_ret
  exact ⟨rfl, hbz⟩
end Go.Proofs.YtffechjldakmjaaDoor
