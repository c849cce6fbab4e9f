import Derived.Test.YtjhopiaeppgioaaJ7
import Derived.Deep.LoopGhost
import Derived.Test.YtjhopiaeppgioaaMem
import Derived.Laws.Bits64b
import Derived.Deep.RegionLaw
import Derived.Shelf.Bits.Mul64
namespace Go.Proofs.Ytjhopiaeppgioaa
open Go.RowKit Go.Shelf
set_option maxRecDepth 100000
set_option maxHeartbeats 0
theorem Row.keepB {w w' : World} {g n : Nat} {xs : List Nat} (h : Row w g 0 n xs) (hb : n ≠ 0 → w'.heap[g]? = w.heap[g]?) : Row w' g 0 n xs :=
  ⟨h.len, h.dig, fun j hj => (World.cell?_of_block (w := w) (hb (by omega))).trans (h.cell j hj), fun j hj => (World.frozen?_of_block (w := w) (hb (by omega))).trans (h.frozen j hj)⟩
theorem VB.keepB {w w' : World} {g n : Nat} {f : Nat → Value} (h : VB w g n f) (hb : w'.heap[g]? = w.heap[g]?) : VB w' g n f :=
  ⟨fun j hj => (World.cell?_of_block (w := w) hb).trans (h.cell j hj), fun j hj => (World.frozen?_of_block (w := w) hb).trans (h.frz j hj)⟩
theorem VB.congr {w : World} {g n : Nat} {f f' : Nat → Value} (h : VB w g n f) (he : ∀ j, j < n → f j = f' j) : VB w g n f' :=
  ⟨fun j hj => by rw [← he j hj]; exact h.cell j hj, h.frz⟩
theorem own_keepB {w w' : World} {B g n c : Nat} {e : TypeId} {xs : List Value} (h : w.ownsRow B e 1 (.slice (some ⟨g, 0, none⟩) n c) n xs) (hb : w'.heap[g]? = w.heap[g]?) : w'.ownsRow B e 1 (.slice (some ⟨g, 0, none⟩) n c) n xs := by
  refine ⟨h.1, ?_⟩
  rcases h.2 with h2 | ⟨g', cap, cur, h2, h3, h4, h5⟩
  · exact .inl h2
  · simp only [Value.slice.injEq, Option.some.injEq, Addr.mk.injEq, and_true, true_and] at h2
    obtain ⟨rfl, rfl⟩ := h2
    exact .inr ⟨g, c, cur, rfl, h3, hb.trans h4, h5⟩
theorem own_blt {w : World} {B g n c : Nat} {e : TypeId} {xs : List Value} (h : w.ownsRow B e 1 (.slice (some ⟨g, 0, none⟩) n c) n xs) : g < w.heap.size := by
  rcases h.2 with ⟨h2, _⟩ | ⟨g', cap, cur, h2, h3, h4, h5⟩
  · cases h2
  · simp only [Value.slice.injEq, Option.some.injEq, Addr.mk.injEq, and_true, true_and] at h2
    obtain ⟨rfl, rfl⟩ := h2
    exact (Array.getElem?_eq_some_iff.1 h4).1
theorem own_cut5 {w : World} {B k : Nat} {e : TypeId} {v : Value} {xs : List Value} (h : w.ownsRow B e 1 v (k + 1) xs) : ∃ g cap, v = .slice (some ⟨g, 0, none⟩) (k + 1) cap ∧ B ≤ g ∧ g < w.heap.size := by
  rcases h.2 with ⟨_, h2⟩ | ⟨g, cap, cur, h2, h3, h4, h5⟩
  · omega
  · exact ⟨g, cap, h2, h3, (Array.getElem?_eq_some_iff.1 h4).1⟩
theorem own_mono5 {w : World} {B B' k : Nat} {e : TypeId} {v : Value} {xs : List Value} (h : w.ownsRow B e 1 v k xs) (hB : B' ≤ B) : w.ownsRow B' e 1 v k xs := by
  refine ⟨h.1, ?_⟩
  rcases h.2 with h2 | ⟨g, cap, cur, h2, h3, h4⟩
  · exact .inl h2
  · exact .inr ⟨g, cap, cur, h2, Nat.le_trans hB h3, h4⟩
theorem LC.lt {w : World} {B go N : Nat} {p : Nat → Option Addr} {n c b : Nat → Nat} {X : Nat → List Nat} (h : LC w B go N p n c b X) {i : Nat} (hi : i < N) (hc : c i ≠ 0) : b i < w.heap.size := by
  rcases Nat.lt_or_ge (n i) (c i) with h1 | h1
  · exact own_blt (h.room i hi h1)
  · exact row_lt3 (h.row i hi) (by omega)
theorem LC.keepB {w w' : World} {B go N : Nat} {p : Nat → Option Addr} {n c b : Nat → Nat} {X : Nat → List Nat} (h : LC w B go N p n c b X) (hgo : w'.heap[go]? = w.heap[go]?) (hb : ∀ i, i < N → c i ≠ 0 → w'.heap[b i]? = w.heap[b i]?) : LC w' B go N p n c b X :=
  ⟨fun i hi => (World.cell?_of_block (w := w) hgo).trans (h.cells i hi), h.cap, h.six, h.addr, h.pn, fun i hi => (h.row i hi).keepB (fun h0 => hb i hi (by have := h.cap i hi; omega)), fun i hi hr => own_keepB (h.room i hi hr) (hb i hi (by omega)), h.ge, h.le, h.ne, h.dist⟩
def mq (Mb i k : Nat) : List Nat := (List.range k).map (fun j => mkR i (Mb + j))
theorem mq_len (Mb i k : Nat) : (mq Mb i k).length = k := by simp [mq]
theorem mq_succ (Mb i k : Nat) : mq Mb i (k + 1) = mq Mb i k ++ [mkR i (Mb + k)] := by unfold mq; rw [List.range_succ, List.map_append]; rfl
theorem mq_dig {Mb i k : Nat} (hi : i ≤ 1000) (hk : Mb + k < 100000000000000) : Dig B64 (mq Mb i k) := by
  intro x hx
  obtain ⟨j, hj, rfl⟩ := List.mem_map.1 hx
  have := List.mem_range.1 hj
  exact mkR_lt hi (by omega)
theorem dig_app5 {xs ys : List Nat} (h1 : Dig B64 xs) (h2 : Dig B64 ys) : Dig B64 (xs ++ ys) := by
  intro x hx
  rcases List.mem_append.1 hx with h | h
  · exact h1 x h
  · exact h2 x h
theorem mq_lo {xs ys : List Nat} {i : Nat} (h : i < xs.length) : (xs ++ ys).getD i 0 = xs.getD i 0 := by
  rw [List.getD_eq_getElem?_getD, List.getElem?_append_left h, ← List.getD_eq_getElem?_getD]
theorem mq_hi {Mb k L : Nat} {xs : List Nat} {j : Nat} (h : xs.length ≤ j) (h2 : j < xs.length + L) : (xs ++ mq Mb k L).getD j 0 = mkR k (Mb + j - xs.length) := by
  unfold mq
  rw [List.getD_eq_getElem?_getD, List.getElem?_append_right h, List.getElem?_map, List.getElem?_range (by omega)]
  show mkR k (Mb + (j - xs.length)) = _
  rw [show Mb + (j - xs.length) = Mb + j - xs.length by omega]
theorem cellsU_app5 (xs : List Nat) (y : Nat) : cellsU xs ++ [U y] = cellsU (xs ++ [y]) := by unfold cellsU; rw [List.map_append]; rfl
structure SG (w0 w : World) (B go N : Nat) (p : Nat → Option Addr) (n c b : Nat → Nat) (X : Nat → List Nat) (h0 H L Mb i : Nat) (F : Nat → Value) (f cc : Nat → Nat) : Prop where
  lc : LC w B go N p n c b X
  vb : VB w h0 N F
  val : ∀ k, k < i → F k = .slice (some ⟨f k, 0, none⟩) (n k + L) (cc k)
  gt : ∀ k, k < i → H < f k
  row : ∀ k, k < i → Row w (f k) 0 (n k + L) (X k ++ mq Mb k L)
  bb : Below B w0 w
  sz : H < w.heap.size
  bh : B ≤ h0 ∧ h0 ≤ H ∧ go < h0 ∧ 0 < L
  lo : ∀ k, k < N → c k ≠ 0 → b k < h0
theorem SG.keepB {w0 w w' : World} {B go N : Nat} {p : Nat → Option Addr} {n c b : Nat → Nat} {X : Nat → List Nat} {h0 H L Mb i : Nat} {F : Nat → Value} {f cc : Nat → Nat} (h : SG w0 w B go N p n c b X h0 H L Mb i F f cc)
    (hbe : Below B w w') (hgo : w'.heap[go]? = w.heap[go]?) (hb : ∀ k, k < N → c k ≠ 0 → w'.heap[b k]? = w.heap[b k]?) (hh : w'.heap[h0]? = w.heap[h0]?) (hf : ∀ k, k < i → w'.heap[f k]? = w.heap[f k]?) : SG w0 w' B go N p n c b X h0 H L Mb i F f cc :=
  ⟨h.lc.keepB hgo hb, h.vb.keepB hh, h.val, h.gt, fun k hk => (h.row k hk).keepB (fun _ => hf k hk), h.bb.trans hbe, Nat.lt_of_lt_of_le h.sz hbe.size, h.bh, h.lo⟩
theorem SG.flt {w0 w : World} {B go N : Nat} {p : Nat → Option Addr} {n c b : Nat → Nat} {X : Nat → List Nat} {h0 H L Mb i : Nat} {F : Nat → Value} {f cc : Nat → Nat} (h : SG w0 w B go N p n c b X h0 H L Mb i F f cc) {k : Nat} (hk : k < i) : f k < w.heap.size :=
  row_lt3 (h.row k hk) (by have := h.bh; omega)
theorem SG.away {w0 w w' : World} {B go N : Nat} {p : Nat → Option Addr} {n c b : Nat → Nat} {X : Nat → List Nat} {h0 H L Mb i : Nat} {F : Nat → Value} {f cc : Nat → Nat} (h : SG w0 w B go N p n c b X h0 H L Mb i F f cc)
    (hbe : Below B w w') (q : Nat) (hq : H ≤ q ∧ h0 < q) (hqf : ∀ k, k < i → f k ≠ q) (hb : ∀ k, k < w.heap.size → k ≠ q → w'.heap[k]? = w.heap[k]?) : SG w0 w' B go N p n c b X h0 H L Mb i F f cc := by
  have h1 := h.bh
  have h2 := h.sz
  refine h.keepB hbe (hb _ (by omega) (by omega)) (fun k hk hc => ?_) (hb _ (by omega) (by omega)) (fun k hk => hb _ (h.flt hk) (hqf k hk))
  have := h.lo k hk hc
  exact hb _ (by omega) (by omega)
theorem SG.below {w0 w w' : World} {B go N : Nat} {p : Nat → Option Addr} {n c b : Nat → Nat} {X : Nat → List Nat} {h0 H L Mb i : Nat} {F : Nat → Value} {f cc : Nat → Nat} (h : SG w0 w B go N p n c b X h0 H L Mb i F f cc)
    (hbe : Below w.heap.size w w') : SG w0 w' B go N p n c b X h0 H L Mb i F f cc := by
  have h1 := h.bh
  have h2 := h.sz
  refine h.away (hbe.mono (by omega)) w.heap.size ⟨by omega, by omega⟩ (fun k hk => ?_) (fun k hk _ => hbe.block k hk)
  have := h.flt hk
  omega
theorem SG.store {w0 w : World} {B go N : Nat} {p : Nat → Option Addr} {n c b : Nat → Nat} {X : Nat → List Nat} {h0 H L Mb i : Nat} {F : Nat → Value} {f cc : Nat → Nat} (h : SG w0 w B go N p n c b X h0 H L Mb i F f cc)
    {g cap : Nat} (hg : H < g) (hr : Row w g 0 (n i + L) (X i ++ mq Mb i L)) :
    SG w0 (w.setCell ⟨h0, i, none⟩ (.slice (some ⟨g, 0, none⟩) (n i + L) cap)) B go N p n c b X h0 H L Mb (i + 1) (fun j => if j = i then .slice (some ⟨g, 0, none⟩) (n i + L) cap else F j) (fun k => if k = i then g else f k) (fun k => if k = i then cap else cc k) := by
  have h1 := h.bh
  have h2 := h.sz
  have hot : ∀ k, k ≠ h0 → (w.setCell ⟨h0, i, none⟩ (.slice (some ⟨g, 0, none⟩) (n i + L) cap)).heap[k]? = w.heap[k]? := fun k hk => Below.heap_setCell w _ _ k hk
  refine ⟨h.lc.keepB (hot _ (by omega)) (fun k hk hc => hot _ (by have := h.lo k hk hc; omega)), h.vb.set i _, fun k hk => ?_, fun k hk => ?_, fun k hk => ?_, bSet h.bb _ _ _ (by omega), by rw [World.size_setCell]; exact h2, h.bh, h.lo⟩
  · by_cases e : k = i
    · rw [if_pos e, if_pos e, if_pos e, e]
    · rw [if_neg e, if_neg e, if_neg e]; exact h.val k (by omega)
  · by_cases e : k = i
    · rw [if_pos e]; exact hg
    · rw [if_neg e]; exact h.gt k (by omega)
  · by_cases e : k = i
    · rw [if_pos e, e]; exact hr.keepB (fun _ => hot _ (by omega))
    · rw [if_neg e]; exact (h.row k (by omega)).keepB (fun _ => hot _ (by have := h.gt k (by omega); omega))
structure S2 (w0 w : World) (B go N : Nat) (p : Nat → Option Addr) (n c b : Nat → Nat) (X : Nat → List Nat) (h0 H L Mb i : Nat) (F : Nat → Value) (f cc : Nat → Nat) (h1 k : Nat) (gv : Value) : Prop where
  sg : SG w0 w B go N p n c b X h0 H L Mb i F f cc
  hw : h1 ≤ w.heap.size
  hh : H < h1
  fl : ∀ k, k < i → f k < h1
  gs : (gv = .slice (p i) (n i + k) (c i) ∧ n i + k ≤ c i ∧ Row w (b i) 0 (n i + k) (X i ++ mq Mb i k) ∧ (n i + k < c i → w.ownsRow B 34 1 (.slice (some ⟨b i, 0, none⟩) (n i + k) (c i)) (n i + k) (cellsU (X i ++ mq Mb i k)))) ∨ (1 ≤ k ∧ w.ownsRow h1 34 1 gv (n i + k) (cellsU (X i ++ mq Mb i k)))
theorem S2.start {w0 w : World} {B go N : Nat} {p : Nat → Option Addr} {n c b : Nat → Nat} {X : Nat → List Nat} {h0 H L Mb i : Nat} {F : Nat → Value} {f cc : Nat → Nat} (h : SG w0 w B go N p n c b X h0 H L Mb i F f cc) (hi : i < N) :
    S2 w0 w B go N p n c b X h0 H L Mb i F f cc w.heap.size 0 (.slice (p i) (n i) (c i)) := by
  refine ⟨h, Nat.le_refl _, h.sz, fun k hk => h.flt hk, .inl ?_⟩
  have e : X i ++ mq Mb i 0 = X i := by simp [mq]
  rw [e, Nat.add_zero]
  exact ⟨rfl, h.lc.cap i hi, h.lc.row i hi, h.lc.room i hi⟩
theorem S2.below {w0 w w' : World} {B go N : Nat} {p : Nat → Option Addr} {n c b : Nat → Nat} {X : Nat → List Nat} {h0 H L Mb i : Nat} {F : Nat → Value} {f cc : Nat → Nat} {h1 k : Nat} {gv : Value} (h : S2 w0 w B go N p n c b X h0 H L Mb i F f cc h1 k gv)
    (hb : Below w.heap.size w w') : S2 w0 w' B go N p n c b X h0 H L Mb i F f cc h1 k gv := by
  refine ⟨h.sg.below hb, Nat.le_trans h.hw hb.size, h.hh, h.fl, ?_⟩
  rcases h.gs with ⟨e1, e2, e3, e4⟩ | ⟨e1, e2⟩
  · exact .inl ⟨e1, e2, e3.keepB (fun h0 => hb.block _ (row_lt3 e3 h0)), fun hr => ownAny3 (e4 hr) hb⟩
  · exact .inr ⟨e1, ownAny3 e2 hb⟩
theorem S2.way {w0 w : World} {B go N : Nat} {p : Nat → Option Addr} {n c b : Nat → Nat} {X : Nat → List Nat} {h0 H L Mb i : Nat} {F : Nat → Value} {f cc : Nat → Nat} {h1 k : Nat} {gv : Value} (h : S2 w0 w B go N p n c b X h0 H L Mb i F f cc h1 k gv) (hi : i < N) :
    (gv = .slice (some ⟨b i, 0, none⟩) (n i + k) (c i) ∧ n i + k + 1 ≤ c i ∧ w.ownsRow B 34 1 (.slice (some ⟨b i, 0, none⟩) (n i + k) (c i)) (n i + k) (cellsU (X i ++ mq Mb i k)))
    ∨ (gv = .slice (p i) (n i + k) (c i) ∧ c i < n i + k + 1 ∧ (p i = none → n i + k = 0 ∧ c i = 0) ∧ (cellsU (X i ++ mq Mb i k)).length = (n i + k) * 1 ∧ (∀ a, p i = some a → ∀ j u, (cellsU (X i ++ mq Mb i k))[j]? = some u → w.cell? (a.add j) = some u))
    ∨ w.ownsRow h1 34 1 gv (n i + k) (cellsU (X i ++ mq Mb i k)) := by
  rcases h.gs with ⟨e1, e2, e3, e4⟩ | ⟨e1, e2⟩
  · rcases Nat.lt_or_ge (n i + k) (c i) with h5 | h5
    · have hp := (h.sg.lc.addr i hi).resolve_left (by omega)
      rw [hp] at e1
      exact .inl ⟨e1, h5, e4 h5⟩
    · refine .inr (.inl ⟨e1, by omega, fun hp => ?_, ?_, fun a ha j u hu => ?_⟩)
      · have := h.sg.lc.pn i hi hp; omega
      · rw [cellsU_length, e3.len]; omega
      · have hj : j < n i + k := by
          rcases Nat.lt_or_ge j (n i + k) with h6 | h6
          · exact h6
          · rw [List.getElem?_eq_none (by rw [cellsU_length, e3.len]; exact h6)] at hu; cases hu
        have hp := (h.sg.lc.addr i hi).resolve_left (by omega)
        rw [hp] at ha
        cases ha
        have hadd : (⟨b i, 0, none⟩ : Addr).add j = ⟨b i, j, none⟩ := by unfold Addr.add; split <;> simp_all
        have hcl := e3.cell j hj
        rw [Nat.zero_add] at hcl
        rw [hadd, hcl, ← hu, cellsU_get _ _ (by rw [e3.len]; exact hj)]
  · exact .inr (.inr e2)
theorem S2.fits {w0 w w' : World} {B go N : Nat} {p : Nat → Option Addr} {n c b : Nat → Nat} {X : Nat → List Nat} {h0 H L Mb i : Nat} {F : Nat → Value} {f cc : Nat → Nat} {h1 k : Nat} {gv : Value} (h : S2 w0 w B go N p n c b X h0 H L Mb i F f cc h1 k gv) (hi : i < N) (hi2 : i ≤ 1000) (hk2 : Mb + k < 10000000)
    (hc : n i + k + 1 ≤ c i) (hgr : w.grownBy w' (some (b i))) (ho : w'.ownsRow B 34 1 (.slice (some ⟨b i, 0, none⟩) (n i + k + 1) (c i)) (n i + k + 1) (cellsU (X i ++ mq Mb i k) ++ [U (mkR i (Mb + k))])) :
    S2 w0 w' B go N p n c b X h0 H L Mb i F f cc h1 (k + 1) (.slice (some ⟨b i, 0, none⟩) (n i + k + 1) (c i)) := by
  have hbh := h.sg.bh
  have hsz := h.sg.sz
  have hge := h.sg.lc.ge i hi
  have hlo := h.sg.lo i hi (by omega)
  have hbk : ∀ k, k < w.heap.size → k ≠ b i → w'.heap[k]? = w.heap[k]? := fun k hk hne => hgr.block k hk (fun e => hne (by simpa using e))
  have hp := (h.sg.lc.addr i hi).resolve_left (by omega)
  have ec : cellsU (X i ++ mq Mb i k) ++ [U (mkR i (Mb + k))] = cellsU (X i ++ mq Mb i (k + 1)) := by rw [cellsU_app5, mq_succ, List.append_assoc]
  have hd : Dig B64 (X i ++ mq Mb i (k + 1)) := dig_app5 (h.sg.lc.row i hi).dig (mq_dig hi2 (by omega))
  have ho1 := ho
  rw [ec] at ho1
  refine ⟨⟨h.sg.lc.grow (m := k + 1) (ys := cellsU (mq Mb i (k + 1))) hi hgr ?_ (by omega) (by omega), h.sg.vb.keepB (hbk _ (by omega) (by omega)), h.sg.val, h.sg.gt, fun k hk => (h.sg.row k hk).keepB (fun _ => hbk _ (h.sg.flt hk) (by have := h.sg.gt k hk; omega)), h.sg.bb.grown hgr (by omega) (fun q hq => by cases hq; exact hge), Nat.lt_of_lt_of_le hsz hgr.size, h.sg.bh, h.sg.lo⟩, Nat.le_trans h.hw hgr.size, h.hh, h.fl, .inl ⟨by rw [hp, Nat.add_assoc], by omega, ?_, fun _ => ?_⟩⟩
  · rw [show cellsU (X i) ++ cellsU (mq Mb i (k + 1)) = cellsU (X i ++ mq Mb i (k + 1)) from by unfold cellsU; rw [List.map_append]]
    exact ho1
  · exact own_row3 ho1 hd
  · exact ho1
theorem S2.newm {w0 w w' : World} {B go N : Nat} {p : Nat → Option Addr} {n c b : Nat → Nat} {X : Nat → List Nat} {h0 H L Mb i : Nat} {F : Nat → Value} {f cc : Nat → Nat} {h1 k : Nat} {gv v' : Value} (h : S2 w0 w B go N p n c b X h0 H L Mb i F f cc h1 k gv)
    {row : Option Nat} (hrow : ∀ q, row = some q → h1 ≤ q) (hgr : w.grownBy w' row) (ho : w'.ownsRow h1 34 1 v' (n i + k + 1) (cellsU (X i ++ mq Mb i k) ++ [U (mkR i (Mb + k))])) :
    S2 w0 w' B go N p n c b X h0 H L Mb i F f cc h1 (k + 1) v' := by
  have hbh := h.sg.bh
  have hsz := h.sg.sz
  have hhh := h.hh
  have ec : cellsU (X i ++ mq Mb i k) ++ [U (mkR i (Mb + k))] = cellsU (X i ++ mq Mb i (k + 1)) := by rw [cellsU_app5, mq_succ, List.append_assoc]
  have hbk : ∀ q, q < w.heap.size → q < h1 → w'.heap[q]? = w.heap[q]? := fun q hq hne => hgr.block q hq (fun e => by have := hrow q e.symm; omega)
  rw [ec] at ho
  refine ⟨h.sg.keepB ((Below.refl _ _).grown hgr (by omega) (fun q hq => by have := hrow q hq; omega)) (hbk _ (by omega) (by omega)) (fun k hk hc => by have := h.sg.lo k hk hc; exact hbk _ (by omega) (by omega)) (hbk _ (by omega) (by omega)) (fun k hk => hbk _ (h.sg.flt hk) (h.fl k hk)), Nat.le_trans h.hw hgr.size, h.hh, h.fl, .inr ⟨by omega, ho⟩⟩
theorem S2.stop {w0 w : World} {B go N : Nat} {p : Nat → Option Addr} {n c b : Nat → Nat} {X : Nat → List Nat} {h0 H L Mb i : Nat} {F : Nat → Value} {f cc : Nat → Nat} {h1 : Nat} {gv : Value} (h : S2 w0 w B go N p n c b X h0 H L Mb i F f cc h1 L gv) (hi : i < N) (hi2 : i ≤ 1000) (hL : 6 < L) (hk2 : Mb + L < 10000000) :
    ∃ g cap, gv = .slice (some ⟨g, 0, none⟩) (n i + L) cap ∧ H < g ∧ Row w g 0 (n i + L) (X i ++ mq Mb i L) := by
  rcases h.gs with ⟨e1, e2, e3, e4⟩ | ⟨e1, e2⟩
  · have := h.sg.lc.six i hi; omega
  · obtain ⟨L', rfl⟩ : ∃ L', L = L' + 1 := ⟨L - 1, by omega⟩
    obtain ⟨g, cap, rfl, h5, h6⟩ := own_cut5 (k := n i + L') e2
    exact ⟨g, cap, rfl, Nat.lt_of_lt_of_le h.hh h5, own_row3 e2 (dig_app5 (h.sg.lc.row i hi).dig (mq_dig hi2 (by omega)))⟩
structure EK (w : World) (B : Nat) (p : Option Addr) (n c b : Nat) (X : List Nat) : Prop where
  cap : n ≤ c
  six : c ≤ n + 6
  addr : c = 0 ∨ p = some ⟨b, 0, none⟩
  pn : p = none → n = 0 ∧ c = 0
  row : Row w b 0 n X
  room : n < c → w.ownsRow B 34 1 (.slice (some ⟨b, 0, none⟩) n c) n (cellsU X)
  ge : B ≤ b
  le : n ≤ 17592186044422
theorem EK.below {w w' : World} {B : Nat} {p : Option Addr} {n c b : Nat} {X : List Nat} (h : EK w B p n c b X) (hb : Below w.heap.size w w') : EK w' B p n c b X :=
  ⟨h.cap, h.six, h.addr, h.pn, h.row.keepB (fun h0 => hb.block _ (row_lt3 h.row h0)), fun hr => ownAny3 (h.room hr) hb, h.ge, h.le⟩
theorem ek_own {w : World} {B B1 : Nat} {p : Option Addr} {m : Nat} {zs : List Nat} (h : Own B1 w p m zs) (hB : B ≤ B1) (hm : m ≤ 8192) : ∃ b, EK w B p m m b zs ∧ (m ≠ 0 → B1 ≤ b ∧ b < w.heap.size) := by
  rcases h.mem with h0 | ⟨g, e, hg, hr⟩
  · subst h0
    exact ⟨B, ⟨Nat.le_refl _, by omega, .inl rfl, fun _ => ⟨rfl, rfl⟩, ⟨h.len, h.dig, fun j hj => by omega, fun j hj => by omega⟩, fun hr => by omega, Nat.le_refl _, by omega⟩, fun h => absurd rfl h⟩
  · by_cases h0 : m = 0
    · subst h0
      exact ⟨B, ⟨Nat.le_refl _, by omega, .inl rfl, fun _ => ⟨rfl, rfl⟩, ⟨h.len, h.dig, fun j hj => by omega, fun j hj => by omega⟩, fun hr => by omega, Nat.le_refl _, by omega⟩, fun h => absurd rfl h⟩
    · exact ⟨g, ⟨Nat.le_refl _, by omega, .inr e, fun hp => (by rw [e] at hp; cases hp), hr, fun hr => by omega, by omega, by omega⟩, fun _ => ⟨hg, row_lt3 hr h0⟩⟩
theorem ek_room {w : World} {B m g : Nat} {zs : List Nat} (h : w.ownsRow B 34 1 (.slice (some ⟨g, 0, none⟩) (m + 6) (m + 6)) (m + 6) (cellsU zs)) (hd : Dig B64 zs) (hm : m ≤ 17592186044416) : EK w B (some ⟨g, 0, none⟩) m (m + 6) g (zs.take m) := by
  have hl : zs.length = m + 6 := by have := h.1; rw [cellsU_length, Nat.mul_one] at this; exact this
  have e : cellsU zs = cellsU (zs.take m) ++ cellsU (zs.drop m) := by unfold cellsU; rw [← List.map_append, List.take_append_drop]
  have hd2 : Dig B64 (zs.take m) := fun x hx => hd x (List.mem_of_mem_take hx)
  have h2 := h
  rw [e] at h2
  have h3 := own_pre h2 (by rw [cellsU_length, List.length_take]; omega)
  refine ⟨by omega, Nat.le_refl _, .inr rfl, fun h => (by cases h), own_row3 h3 hd2, fun _ => h3, ?_, by omega⟩
  rcases h.2 with ⟨h4, _⟩ | ⟨g', cap, cur, h4, h5, h6⟩
  · cases h4
  · simp only [Value.slice.injEq, Option.some.injEq, Addr.mk.injEq, and_true, true_and] at h4
    rw [h4.1]; exact h5
theorem EK.keepB {w w' : World} {B : Nat} {p : Option Addr} {n c b : Nat} {X : List Nat} (h : EK w B p n c b X) (hb : c ≠ 0 → w'.heap[b]? = w.heap[b]?) : EK w' B p n c b X :=
  ⟨h.cap, h.six, h.addr, h.pn, h.row.keepB (fun h0 => hb (by have := h.cap; omega)), fun hr => own_keepB (h.room hr) (hb (by omega)), h.ge, h.le⟩
theorem EK.lt {w : World} {B : Nat} {p : Option Addr} {n c b : Nat} {X : List Nat} (h : EK w B p n c b X) (hc : c ≠ 0) : b < w.heap.size := by
  rcases Nat.lt_or_ge n c with h1 | h1
  · exact own_blt (h.room h1)
  · exact row_lt3 h.row (by omega)
theorem lt92 {j : Nat} (h : j < 17592186044416) : j < 100000000000000 := by omega
theorem wj92 {j : Nat} (h : j < 17592186044416) : wrap64 ((j : Int) + 1) = ((j + 1 : Nat) : Int) := by
  simp only [wrap64]; omega
theorem rmy_dig {k : Nat} {xs : List Nat} (hk : k ≤ 1000) (h : Dig B64 xs) : Dig B64 (rmy k xs) := by
  intro x hx
  unfold rmy at hx
  rcases List.mem_append.1 hx with h1 | h1
  · exact h x h1
  · obtain ⟨j, hj, rfl⟩ := List.mem_map.1 h1
    have := List.mem_range.1 hj
    exact mkR_lt hk (by omega)
theorem cut7 {w : World} {g n : Nat} {xs : List Nat} (h : Row w g 0 n xs) (k : Nat) (hk : k ≤ n) (hb : n ≤ maxLen) : At w (some ⟨g, 0, none⟩) k n (xs.take k) := by
  refine ⟨by rw [List.length_take, h.len]; omega, hk, hb, fun x hx => h.dig x (List.mem_of_mem_take hx), .inr ⟨g, 0, rfl, fun j hj => ?_⟩⟩
  rw [h.cell j (by omega), List.getD_eq_getElem?_getD, List.getD_eq_getElem?_getD, List.getElem?_take, if_pos hj]
theorem own_at7 {w : World} {B m g : Nat} {zs : List Nat} (h : w.ownsRow B 34 1 (.slice (some ⟨g, 0, none⟩) (m + 6) (m + 6)) (m + 6) (cellsU zs)) (hd : Dig B64 zs) (hm : m ≤ 17592186044416) : At w (some ⟨g, 0, none⟩) m (m + 6) (zs.take m) :=
  cut7 (own_row3 h hd) m (by omega) (by unfold maxLen; omega)
structure X7 (w : World) (B m g j : Nat) (zs : List Nat) : Prop where
  own : w.ownsRow B 34 1 (.slice (some ⟨g, 0, none⟩) (m + 6) (m + 6)) (m + 6) (cellsU zs)
  dig : Dig B64 zs
  mrk : ∀ k, k < j → zs.getD k 0 = mkR 92 k
theorem X7.len {w : World} {B m g j : Nat} {zs : List Nat} (h : X7 w B m g j zs) : zs.length = m + 6 := by have := h.own.1; rw [cellsU_length, Nat.mul_one] at this; exact this
theorem X7.below {w w' : World} {B m g j : Nat} {zs : List Nat} (h : X7 w B m g j zs) (hb : Below w.heap.size w w') : X7 w' B m g j zs := ⟨ownAny3 h.own hb, h.dig, h.mrk⟩
theorem X7.set {w : World} {B m g j : Nat} {zs : List Nat} (h : X7 w B m g j zs) (hj : j < m) (hm : m ≤ 17592186044416) : X7 (w.setCell ⟨g, j, none⟩ (U (mkR 92 j))) B m g (j + 1) (zs.set j (mkR 92 j)) := by
  have hl := h.len
  refine ⟨by rw [cellsU_set]; exact own_set h.own j _, fun x hx => ?_, fun k hk => ?_⟩
  · rcases List.mem_or_eq_of_mem_set hx with h1 | h1
    · exact h.dig x h1
    · rw [h1]; exact mkR_lt (by omega) (by omega)
  · rw [getD_set _ _ _ _ (by omega)]
    by_cases e : k = j
    · rw [if_pos e, e]
    · rw [if_neg e]; exact h.mrk k (by omega)
structure EN where
  p : Option Addr
  n : Nat
  c : Nat
  b : Nat
  X : List Nat
def enD : EN := ⟨none, 0, 0, 0, []⟩
theorem lc_list {w : World} {B go : Nat} (es : List EN) (h : ∀ e ∈ es, EK w B e.p e.n e.c e.b e.X) (hc : ∀ i, i < es.length → w.cell? ⟨go, i, none⟩ = some (.slice (es.getD i enD).p (es.getD i enD).n (es.getD i enD).c))
    (hlt : ∀ e ∈ es, e.c ≠ 0 → e.b ≠ go) (hd : es.Pairwise (fun a b => a.c ≠ 0 → b.c ≠ 0 → a.b ≠ b.b)) :
    LC w B go es.length (fun i => (es.getD i enD).p) (fun i => (es.getD i enD).n) (fun i => (es.getD i enD).c) (fun i => (es.getD i enD).b) (fun i => (es.getD i enD).X) := by
  have hg : ∀ i, (hi : i < es.length) → es.getD i enD = es[i] := fun i hi => by rw [List.getD_eq_getElem?_getD, List.getElem?_eq_getElem hi]; rfl
  have he : ∀ i, i < es.length → EK w B (es.getD i enD).p (es.getD i enD).n (es.getD i enD).c (es.getD i enD).b (es.getD i enD).X := fun i hi => by rw [hg i hi]; exact h _ (List.getElem_mem hi)
  have hp := List.pairwise_iff_getElem.1 hd
  refine ⟨hc, fun i hi => (he i hi).cap, fun i hi => (he i hi).six, fun i hi => (he i hi).addr, fun i hi => (he i hi).pn, fun i hi => (he i hi).row, fun i hi => (he i hi).room, fun i hi => (he i hi).ge, fun i hi => (he i hi).le, fun i hi => ?_, fun i j hi hj hne h1 h2 => ?_⟩
  · show (es.getD i enD).c ≠ 0 → (es.getD i enD).b ≠ go
    rw [hg i hi]; exact hlt _ (List.getElem_mem hi)
  · simp only [hg i hi, hg j hj] at h1 h2 ⊢
    rcases Nat.lt_or_ge i j with h3 | h3
    · exact hp i j hi hj h3 h1 h2
    · exact fun e => hp j i hj hi (by omega) h2 h1 e.symm
end Go.Proofs.Ytjhopiaeppgioaa
namespace Go.Proofs.Ytjhopiaeppgioaa
open Go.RowKit
set_option maxRecDepth 100000
set_option maxHeartbeats 0
def B32 : Nat := 4294967296
theorem B32_eq : B32 = 4294967296 := rfl
theorem B32_pos : 0 < B32 := by decide
theorem B32_two : B32 * B32 = B64 := by decide
abbrev V (n : Nat) : Value := .int .u32 (n : Int)

structure At32 (w : World) (p : Option Addr) (n c : Nat) (xs : List Nat) : Prop where
  len : xs.length = n
  cap : n ≤ c
  big : c ≤ maxLen
  dig : Dig B32 xs
  cells : n = 0 ∨ ∃ g off, p = some ⟨g, off, none⟩ ∧ ∀ j, j < n → w.cell? ⟨g, off + j, none⟩ = some (V (xs.getD j 0))
theorem At32.below {w w' : World} {p : Option Addr} {n c : Nat} {xs : List Nat} (h : At32 w p n c xs) (hb : Below w.heap.size w w') : At32 w' p n c xs := by
  refine ⟨h.len, h.cap, h.big, h.dig, ?_⟩
  rcases h.cells with h0 | ⟨g, off, rfl, hc⟩
  · exact .inl h0
  · exact .inr ⟨g, off, rfl, fun j hj => (hb.cell (p := ⟨g, off + j, none⟩) (World.block_lt_of_cell? w _ (hc j hj))).trans (hc j hj)⟩
theorem At32.drewN {w : World} {p : Option Addr} {n c : Nat} {xs : List Nat} (h : At32 w p n c xs) (q : Nat) : At32 (w.drewN q) p n c xs := ⟨h.len, h.cap, h.big, h.dig, h.cells⟩
theorem At32.alloc {w : World} {p : Option Addr} {n c : Nat} {xs : List Nat} (h : At32 w p n c xs) (o : Obj) : At32 (w.alloc o) p n c xs :=
  h.below ((Below.refl _ _).alloc (Nat.le_refl _) o)
theorem At32.take {w : World} {p : Option Addr} {n c : Nat} {xs : List Nat} (h : At32 w p n c xs) (m : Nat) (hm : m ≤ n) (c' : Nat) (hc : m ≤ c') (hb : c' ≤ maxLen) : At32 w p m c' (xs.take m) := by
  refine ⟨by rw [List.length_take, h.len]; omega, hc, hb, h.dig.take m, ?_⟩
  rcases h.cells with h0 | ⟨g, off, rfl, hcl⟩
  · exact .inl (by omega)
  · refine .inr ⟨g, off, rfl, fun j hj => ?_⟩
    have e : (xs.take m).getD j 0 = xs.getD j 0 := by rw [List.getD_eq_getElem?_getD, List.getD_eq_getElem?_getD, List.getElem?_take, if_pos hj]
    rw [e]; exact hcl j (by omega)
theorem At32.empty (w : World) (p : Option Addr) (c : Nat) (hb : c ≤ maxLen) : At32 w p 0 c [] := ⟨rfl, Nat.zero_le _, hb, Dig.nil _, .inl rfl⟩
theorem Try.infoU32 : (Try.prog.info? 49).map (fun i => (i.zero, i.size, i.bytes)) = some (some (.int .u32 0), 1, 4) := by kernel_rfl
theorem Try.sizeU32 : (Try.prog.info? 49).map (·.size) = some 1 := by kernel_rfl
def cellsV (xs : List Nat) : List Value := xs.map V
theorem madeV (n : Nat) : (madeCells (Value.cells (.int .u32 0)) (n * 1)).toList = cellsV (List.replicate n 0) := by
  unfold madeCells cellsV
  apply List.ext_getElem
  · simp
  · intro i h1 h2
    have e : i % 1 = 0 := Nat.mod_one i
    simp [Value.cells, V, e]
def Blk32 (w : World) (g : Nat) (xs : List Nat) : Prop := w.heap[g]? = some (.cells (cellsV xs).toArray 49 (0, 0))
theorem cellsV_get (xs : List Nat) (j : Nat) (h : j < xs.length) : (cellsV xs)[j]? = some (V (xs.getD j 0)) := by
  unfold cellsV
  rw [List.getElem?_map, List.getElem?_eq_getElem h, List.getD_eq_getElem?_getD, List.getElem?_eq_getElem h]; rfl
theorem Blk32.cell {w : World} {g : Nat} {xs : List Nat} (h : Blk32 w g xs) (j : Nat) (hj : j < xs.length) : w.cell? ⟨g, j, none⟩ = some (V (xs.getD j 0)) := by
  rw [cell_of_row w g j _ _ _ h]
  rw [List.getElem?_toArray]; exact cellsV_get xs j hj
theorem Blk32.lt {w : World} {g : Nat} {xs : List Nat} (h : Blk32 w g xs) : g < w.heap.size := (Array.getElem?_eq_some_iff.1 h).1
theorem own_blk32 {w : World} {base g n : Nat} {xs : List Nat} (h : w.ownsRow base 49 1 (.slice (some ⟨g, 0, none⟩) n n) n (cellsV xs)) : Blk32 w g xs := by
  rcases h.2 with ⟨h', _⟩ | ⟨g', cap', cur, h', _, hg, _, _, hsz, htake⟩
  · simp at h'
  · simp only [Value.slice.injEq, Option.some.injEq, Addr.mk.injEq, and_true, true_and] at h'
    obtain ⟨rfl, rfl⟩ := h'
    have e : cur = (cellsV xs).toArray := by
      rw [← htake, List.take_of_length_le (by rw [Array.length_toList, hsz]; exact Nat.le_refl _)]
    unfold Blk32; rw [← e]; exact hg
theorem splice_cellsV (n : Nat) (xs : List Nat) : splice (cellsV (List.replicate n 0)) 0 (cellsV xs) = cellsV (xs ++ List.replicate (n - xs.length) 0) := by
  unfold splice cellsV
  simp only [List.take_zero, List.nil_append, List.length_map, Nat.zero_add, List.map_append, List.map_replicate, List.drop_replicate]
theorem made_blk32 {w w1 : World} {n : Nat} (hown : w1.ownsRow w.heap.size 49 1 (.slice (some ⟨w.heap.size, 0, none⟩) n n) n (madeCells (Value.cells (.int .u32 0)) (n * 1)).toList) (hgrow : w.grownBy w1 none) :
    Blk32 w1 w.heap.size (List.replicate n 0) ∧ Below w.heap.size w w1 := by
  rw [madeV] at hown
  exact ⟨own_blk32 hown, (Below.refl _ _).grown hgrow (Nat.le_refl _) (fun k hk => by simp at hk)⟩
theorem cellsV_one (xs : List Nat) : ∀ v ∈ cellsV xs, v.oneCell' = true := by
  intro v hv; unfold cellsV at hv; rw [List.mem_map] at hv; obtain ⟨x, _, rfl⟩ := hv; rfl
theorem cellsV_length (xs : List Nat) : (cellsV xs).length = xs.length := by simp [cellsV]
theorem At32.src {w : World} {p : Option Addr} {n c : Nat} {xs : List Nat} (h : At32 w p n c xs) (hn : 0 < n) : ∃ ad, p = some ad ∧ ∀ j v, (cellsV xs)[j]? = some v → w.cell? (ad.add j) = some v := by
  rcases h.cells with h0 | ⟨g, off, rfl, hc⟩
  · omega
  · refine ⟨_, rfl, fun j v hv => ?_⟩
    have hj : j < xs.length := by
      have := (List.getElem?_eq_some_iff.1 hv).1
      rwa [cellsV_length] at this
    have hadd : (⟨g, off, none⟩ : Addr).add j = ⟨g, off + j, none⟩ := by unfold Addr.add; split <;> simp_all
    rw [hadd, hc j (by have := h.len; omega)]
    rw [cellsV_get xs j hj] at hv; exact hv

theorem Blk32.at_ {w : World} {g : Nat} {xs : List Nat} (h : Blk32 w g xs) (hd : Dig B32 xs) {n : Nat} (hn : xs.length = n) (hb : n ≤ maxLen) : At32 w (some ⟨g, 0, none⟩) n n xs := by
  subst hn
  exact ⟨rfl, Nat.le_refl _, hb, hd, .inr ⟨g, 0, rfl, fun j hj => by rw [Nat.zero_add]; exact h.cell j hj⟩⟩
theorem At32.cellAt {w : World} {g off n c : Nat} {xs : List Nat} (h : At32 w (some ⟨g, off, none⟩) n c xs) (j : Nat) (hj : j < n) : w.cell? ⟨g, off + j, none⟩ = some (V (xs.getD j 0)) := by
  obtain ⟨g', o', he, hcell⟩ := h.cells.resolve_left (by omega)
  simp only [Option.some.injEq, Addr.mk.injEq, and_true] at he
  obtain ⟨rfl, rfl⟩ := he
  exact hcell j hj

def dig32 : List Nat → List Nat
  | [] => []
  | x :: xs => x % B32 :: x / B32 :: dig32 xs
theorem dig32_val (xs : List Nat) : valB B32 (dig32 xs) = valB B64 xs := by
  induction xs with
  | nil => rfl
  | cons x xs ih =>
    show x % B32 + B32 * (x / B32 + B32 * valB B32 (dig32 xs)) = x + B64 * valB B64 xs
    rw [ih, Nat.mul_add, ← Nat.mul_assoc, B32_two]
    have := Nat.mod_add_div x B32
    omega
theorem dig32_len (xs : List Nat) : (dig32 xs).length = 2 * xs.length := by
  induction xs with
  | nil => rfl
  | cons x xs ih => show (dig32 xs).length + 1 + 1 = 2 * (xs.length + 1); omega
theorem dig32_dig {xs : List Nat} (h : Dig B64 xs) : Dig B32 (dig32 xs) := by
  induction xs with
  | nil => exact Dig.nil _
  | cons x xs ih =>
    refine Dig.cons (Nat.mod_lt _ B32_pos) (Dig.cons ?_ (ih h.tail))
    refine Nat.div_lt_of_lt_mul ?_
    rw [B32_two]; exact h.head
theorem dig32_append (xs ys : List Nat) : dig32 (xs ++ ys) = dig32 xs ++ dig32 ys := by
  induction xs with
  | nil => rfl
  | cons x xs ih => show _ :: _ :: dig32 (xs ++ ys) = _; rw [ih]; rfl
theorem dig32_snoc (xs : List Nat) (k : Nat) (h : k < xs.length) : dig32 (xs.take (k + 1)) = dig32 (xs.take k) ++ [xs.getD k 0 % B32, xs.getD k 0 / B32] := by
  rw [take_succ_getD xs k h, dig32_append]; rfl

theorem rnorm_any {p : Option Addr} {n c : Nat} {xs : List Nat} {w : World} (h : At32 w p n c xs) (hn : n ≤ 35184372088832) :
    Calls Try.prog 24 #[.slice p n c] w fun e w' =>
      ∃ g, e = .returned (.slice (some ⟨g, 0, none⟩) (trimL xs).length (trimL xs).length) ∧ w.heap.size ≤ g ∧ Blk32 w' g (trimL xs) ∧ Below w.heap.size w w' := by
  obtain ⟨i0, hi, hz0, hz1, hz2⟩ := info_parts Try.infoU32
  have hl := h.len; have cap := h.cap; have big := h.big
  unfold maxLen at big
  have HL : Hid (xs.length = n) := hl
  clear hl
  go_enter Try.func24, Try.ntmps24
  go_wp2
  go_loopg [3] n (fun gk nv wr => nv = .int .i64 gk ∧ gk ≤ n ∧ Hid (∀ j, gk ≤ j → j < n → xs.getD j 0 = 0) ∧ wr = w)
  case atStart => exact ⟨rfl, Nat.le_refl _, fun j h1 h2 => absurd h1 (by omega), rfl⟩
  case round =>
    obtain ⟨rfl, hgn, HZ, hwr⟩ := hrel
    obtain rfl := hwr.symm
    clear hwr
    by_cases hg0 : gk = 0
    · have HG0 : Hid (gk = 0) := hg0
      have hng : ¬ 0 < gk := by omega
      have hgc : gk ≤ c := by omega
      clear hg0
      cases p
      · have ht : trimL xs = xs.take gk := trimL_of_take xs gk (by rw [HL.out]; omega) (fun j h1 h2 => HZ.out j h1 (by rw [← HL.out]; exact h2)) (.inl HG0.out)
        have hlt : (trimL xs).length = gk := by rw [ht, List.length_take, HL.out]; omega
        have HT : Hid (trimL xs = xs.take gk) := ht
        have HLT : Hid ((trimL xs).length = gk) := hlt
        have hA := h.take gk (by omega) c (by omega) (by unfold maxLen; omega)
        clear ht hlt h
        go_wp2_with (first
          | (at_make; refine wpList_make_full _ rfl _ _ 36 rfl w.heap.size 49 i0 (.int .u32 0) 1 Try.underlying36 hi hz0 hz1 _ _ _ _ gk rfl rfl (by omega) (by omega) (by rw [hz2]; omega) (by unfold maxLen; omega) (Nat.le_refl _) ?_; intro w1 hown hgrow; have hb := made_blk32 hown hgrow; clear hown hgrow)
          | (refine wpList_copy_splice rfl (.tmp 21) (.tmp 24) 36 36 rfl 49 Try.underlying36 Try.sizeU32 (some ⟨w.heap.size, 0, none⟩) _ gk gk gk c rfl rfl w.heap.size 0 (cellsV (List.replicate gk 0)) 49 hb.1 (cellsV (xs.take gk)) (by rw [cellsV_length, hA.len]; exact (Nat.min_self gk).symm) (fun h0 => ⟨rfl, (hA.below hb.2).src (by rw [cellsV_length, hA.len] at h0; exact h0)⟩) (by simp [cellsV_length]; omega) (cellsV_one _) w.heap.size w hb.2 (Nat.le_refl _) ?_; intro w2 hg2 hb2))
        go_ret
        rw [HLT.out, HT.out]
        refine ⟨_, rfl, Nat.le_refl _, ?_, hb2⟩
        rw [splice_cellsV, hA.len, Nat.sub_self, List.replicate_zero, List.append_nil] at hg2
        exact hg2
      · have ht : trimL xs = xs.take gk := trimL_of_take xs gk (by rw [HL.out]; omega) (fun j h1 h2 => HZ.out j h1 (by rw [← HL.out]; exact h2)) (.inl HG0.out)
        have hlt : (trimL xs).length = gk := by rw [ht, List.length_take, HL.out]; omega
        have HT : Hid (trimL xs = xs.take gk) := ht
        have HLT : Hid ((trimL xs).length = gk) := hlt
        have hA := h.take gk (by omega) c (by omega) (by unfold maxLen; omega)
        clear ht hlt h
        go_wp2_with (first
          | (at_make; refine wpList_make_full _ rfl _ _ 36 rfl w.heap.size 49 i0 (.int .u32 0) 1 Try.underlying36 hi hz0 hz1 _ _ _ _ gk rfl rfl (by omega) (by omega) (by rw [hz2]; omega) (by unfold maxLen; omega) (Nat.le_refl _) ?_; intro w1 hown hgrow; have hb := made_blk32 hown hgrow; clear hown hgrow)
          | (refine wpList_copy_splice rfl (.tmp 21) (.tmp 24) 36 36 rfl 49 Try.underlying36 Try.sizeU32 (some ⟨w.heap.size, 0, none⟩) _ gk gk gk c rfl rfl w.heap.size 0 (cellsV (List.replicate gk 0)) 49 hb.1 (cellsV (xs.take gk)) (by rw [cellsV_length, hA.len]; exact (Nat.min_self gk).symm) (fun h0 => ⟨rfl, (hA.below hb.2).src (by rw [cellsV_length, hA.len] at h0; exact h0)⟩) (by simp [cellsV_length]; omega) (cellsV_one _) w.heap.size w hb.2 (Nat.le_refl _) ?_; intro w2 hg2 hb2))
        go_ret
        rw [HLT.out, HT.out]
        refine ⟨_, rfl, Nat.le_refl _, ?_, hb2⟩
        rw [splice_cellsV, hA.len, Nat.sub_self, List.replicate_zero, List.append_nil] at hg2
        exact hg2
    · obtain ⟨g, off, rfl, hc⟩ := h.cells.resolve_left (by omega)
      obtain ⟨x, hx⟩ : ∃ x, x = xs.getD (gk - 1) 0 := ⟨_, rfl⟩
      have hcx : w.cell? ⟨g, off + (gk - 1), none⟩ = some (V x) := by rw [hx]; exact hc (gk - 1) (by omega)
      have hdg : decide ((0 : Int) < (gk : Int)) = true := decide_eq_true (by omega)
      have HX : Hid (x = xs.getD (gk - 1) 0) := hx
      clear hc hx
      by_cases h0 : x = 0
      · subst h0
        go_wp2_with fail
        go_roundg (gk - 1)
        case measure => omega
        case rel =>
          refine ⟨by go_num, by omega, fun j h1 h2 => ?_, rfl⟩
          by_cases hj : j = gk - 1
          · subst hj; exact HX.out.symm
          · exact HZ.out j (by omega) h2
      · have h0' : ((x : Int) == 0) = false := by simp; omega
        have hgc : gk ≤ c := by omega
        have HXN : Hid (xs.getD (gk - 1) 0 ≠ 0) := by rw [← HX.out]; exact h0
        clear h0
        have ht : trimL xs = xs.take gk := trimL_of_take xs gk (by rw [HL.out]; omega) (fun j h1 h2 => HZ.out j h1 (by rw [← HL.out]; exact h2)) (.inr HXN.out)
        have hlt : (trimL xs).length = gk := by rw [ht, List.length_take, HL.out]; omega
        have HT : Hid (trimL xs = xs.take gk) := ht
        have HLT : Hid ((trimL xs).length = gk) := hlt
        have hA := h.take gk (by omega) c (by omega) (by unfold maxLen; omega)
        clear ht hlt h
        go_wp2_with (first
          | (at_make; refine wpList_make_full _ rfl _ _ 36 rfl w.heap.size 49 i0 (.int .u32 0) 1 Try.underlying36 hi hz0 hz1 _ _ _ _ gk rfl rfl (by omega) (by omega) (by rw [hz2]; omega) (by unfold maxLen; omega) (Nat.le_refl _) ?_; intro w1 hown hgrow; have hb := made_blk32 hown hgrow; clear hown hgrow)
          | (refine wpList_copy_splice rfl (.tmp 21) (.tmp 24) 36 36 rfl 49 Try.underlying36 Try.sizeU32 (some ⟨w.heap.size, 0, none⟩) _ gk gk gk c rfl rfl w.heap.size 0 (cellsV (List.replicate gk 0)) 49 hb.1 (cellsV (xs.take gk)) (by rw [cellsV_length, hA.len]; exact (Nat.min_self gk).symm) (fun h0 => ⟨rfl, (hA.below hb.2).src (by rw [cellsV_length, hA.len] at h0; exact h0)⟩) (by simp [cellsV_length]; omega) (cellsV_one _) w.heap.size w hb.2 (Nat.le_refl _) ?_; intro w2 hg2 hb2))
        go_ret
        rw [HLT.out, HT.out]
        refine ⟨_, rfl, Nat.le_refl _, ?_, hb2⟩
        rw [splice_cellsV, hA.len, Nat.sub_self, List.replicate_zero, List.append_nil] at hg2
        exact hg2
theorem B64_p : B64 = 2 ^ 64 := rfl
theorem pow_split (s : Nat) (hs : s ≤ 64) : 2 ^ s * 2 ^ (64 - s) = B64 := by rw [← Nat.pow_add, show s + (64 - s) = 64 by omega]; rfl

def shlW (x s : Nat) : Nat := x * 2 ^ s % B64
theorem shlW_lt (x s : Nat) : shlW x s < B64 := Nat.mod_lt _ B64_pos
theorem shlW_eq (x s : Nat) (hs : s ≤ 64) : shlW x s = 2 ^ s * (x % 2 ^ (64 - s)) := by
  unfold shlW
  rw [← pow_split s hs, Nat.mul_comm x, Nat.mul_mod_mul_left]
theorem shrW_eq (y s : Nat) (hs : s ≤ 64) : y / 2 ^ (64 - s) = y * 2 ^ s / B64 := by
  rw [← pow_split s hs, Nat.mul_comm y, Nat.mul_div_mul_left _ _ (Nat.two_pow_pos s)]
theorem shrW_lt (y s : Nat) (hs : s ≤ 64) (hy : y < B64) : y / 2 ^ (64 - s) < 2 ^ s := by
  rw [Nat.div_lt_iff_lt_mul (Nat.two_pow_pos _), pow_split s hs]; exact hy
theorem or_low (s A b : Nat) (hb : b < 2 ^ s) : (2 ^ s * A) ||| b = 2 ^ s * A + b := (Nat.two_pow_add_eq_or_of_lt hb A).symm

theorem int_pow (s : Nat) : ((2 : Int) ^ s) = ((2 ^ s : Nat) : Int) := by
  induction s with
  | zero => rfl
  | succ s ih => rw [Int.pow_succ, ih, Nat.pow_succ]; simp
theorem walk_shl (x s : Nat) : Value.int .u64 (IntKind.u64.wrap ((x : Int) * 2 ^ s)) = U (shlW x s) := by
  unfold U shlW
  rw [int_pow, IntKind.wrap_u64, B64_eq, ← Int.natCast_mul]
  congr 1
theorem walk_shr (y s : Nat) : Value.int .u64 ((y : Int) / 2 ^ s) = U (y / 2 ^ s) := by
  unfold U
  rw [int_pow]
  congr 1
theorem walk_or (a b : Nat) (ha : a < B64) (hb : b < B64) : bits .or .u64 (a : Int) (b : Int) = ((a ||| b : Nat) : Int) := by
  rw [B64_eq] at ha hb
  exact bits_or_u64_nat a b ha hb
theorem wrap_nat (x s : Nat) : IntKind.u64.wrap ((x : Int) * 2 ^ s) = ((shlW x s : Nat) : Int) := by
  have := walk_shl x s
  simpa [U] using this
theorem div_nat (y s : Nat) : (y : Int) / 2 ^ s = ((y / 2 ^ s : Nat) : Int) := by
  simp
theorem walk_up (x y s : Nat) (hs : s ≤ 64) (hy : y < B64) : Value.int .u64 (bits .or .u64 (IntKind.u64.wrap ((x : Int) * 2 ^ s)) ((y : Int) / 2 ^ (64 - s))) = U (shlW x s + y * 2 ^ s / B64) := by
  have h1 := shrW_lt y s hs hy
  have h2 : 2 ^ s ≤ B64 := by rw [B64_p]; exact Nat.pow_le_pow_right (by decide) hs
  rw [wrap_nat, div_nat, walk_or _ _ (shlW_lt x s) (by omega), shlW_eq x s hs, or_low s _ _ h1, shrW_eq y s hs]
theorem up_lt (x y s : Nat) (hs : s ≤ 64) (hy : y < B64) : shlW x s + y * 2 ^ s / B64 < B64 := by
  have h1 := shrW_lt y s hs hy
  rw [← shrW_eq y s hs, shlW_eq x s hs]
  have h2 : x % 2 ^ (64 - s) + 1 ≤ 2 ^ (64 - s) := Nat.mod_lt _ (Nat.two_pow_pos _)
  have h3 := Nat.mul_le_mul_left (2 ^ s) h2
  rw [pow_split s hs, Nat.mul_add] at h3
  omega
theorem walk_down (x z s : Nat) (hs : s ≤ 64) (hx : x < B64) : Value.int .u64 (bits .or .u64 ((x : Int) / 2 ^ s) (IntKind.u64.wrap ((z : Int) * 2 ^ (64 - s)))) = U (x / 2 ^ s + 2 ^ (64 - s) * (z % 2 ^ s)) := by
  have e : 64 - (64 - s) = s := by omega
  have h1 := shrW_lt x (64 - s) (by omega) hx
  rw [e] at h1
  have h2 : 2 ^ (64 - s) ≤ B64 := by rw [B64_p]; exact Nat.pow_le_pow_right (by decide) (by omega)
  rw [wrap_nat, div_nat, walk_or _ _ (by omega) (shlW_lt _ _), shlW_eq z (64 - s) (by omega), e, Nat.or_comm, or_low (64 - s) _ _ h1, Nat.add_comm]
theorem down_lt (x z s : Nat) (hs : s ≤ 64) (hx : x < B64) : x / 2 ^ s + 2 ^ (64 - s) * (z % 2 ^ s) < B64 := by
  have e : 64 - (64 - s) = s := by omega
  have h1 := shrW_lt x (64 - s) (by omega) hx
  rw [e] at h1
  have h2 : z % 2 ^ s + 1 ≤ 2 ^ s := Nat.mod_lt _ (Nat.two_pow_pos _)
  have h3 := Nat.mul_le_mul_left (2 ^ (64 - s)) h2
  rw [Nat.mul_comm (2 ^ (64 - s)) (2 ^ s), pow_split s hs, Nat.mul_add] at h3
  omega

def cin (zs : List Nat) (s j : Nat) : Nat := if j = 0 then 0 else zs.getD (j - 1) 0 * 2 ^ s / B64
theorem up_step {zs T : List Nat} {s a ov k d : Nat} (ha : a < zs.length) (hd : d = shlW (zs.getD a 0) s + cin zs s a) (h : valB B64 T + B64 ^ k * ov = 2 ^ s * valB B64 (zs.drop (a + 1)) + cin zs s (a + 1)) :
    valB B64 (d :: T) + B64 ^ (k + 1) * ov = 2 ^ s * valB B64 (zs.drop a) + cin zs s a := by
  have e1 : cin zs s (a + 1) = zs.getD a 0 * 2 ^ s / B64 := by unfold cin; rw [if_neg (by omega), Nat.add_sub_cancel]
  have e2 := Nat.mod_add_div (zs.getD a 0 * 2 ^ s) B64
  rw [valB_cons, valB_drop _ zs a ha, hd]
  unfold shlW
  rw [e1] at h
  have e3 : B64 * (valB B64 T + B64 ^ k * ov) = B64 * (2 ^ s * valB B64 (zs.drop (a + 1)) + zs.getD a 0 * 2 ^ s / B64) := by rw [h]
  rw [Nat.mul_add, Nat.mul_add] at e3
  rw [Nat.pow_succ, Nat.mul_add]
  have e4 : B64 ^ k * B64 * ov = B64 * (B64 ^ k * ov) := by rw [Nat.mul_comm (B64 ^ k) B64, Nat.mul_assoc]
  have e5 : 2 ^ s * (B64 * valB B64 (zs.drop (a + 1))) = B64 * (2 ^ s * valB B64 (zs.drop (a + 1))) := by rw [← Nat.mul_assoc, ← Nat.mul_assoc, Nat.mul_comm (2 ^ s) B64]
  rw [e4, e5, Nat.mul_comm (2 ^ s) (zs.getD a 0)]
  generalize B64 * (B64 ^ k * ov) = X1 at *
  generalize B64 * (2 ^ s * valB B64 (zs.drop (a + 1))) = X2 at *
  generalize B64 * valB B64 T = X3 at *
  generalize B64 * (zs.getD a 0 * 2 ^ s / B64) = X4 at *
  generalize zs.getD a 0 * 2 ^ s = X5 at *
  omega

def cout (zs : List Nat) (s j : Nat) : Nat := zs.getD j 0 % 2 ^ s
theorem down_step {zs dk : List Nat} {s i rem d : Nat} (hs : s ≤ 64) (hd : d = zs.getD i 0 / 2 ^ s + 2 ^ (64 - s) * cout zs s (i + 1)) (h : 2 ^ s * valB B64 (dk.take i) + rem = valB B64 (zs.take i) + B64 ^ i * cout zs s i) (hi : i < zs.length) :
    2 ^ s * (valB B64 (dk.take i) + B64 ^ i * d) + rem = valB B64 (zs.take (i + 1)) + B64 ^ (i + 1) * cout zs s (i + 1) := by
  have e1 := Nat.mod_add_div (zs.getD i 0) (2 ^ s)
  rw [valB_take_succ _ zs i hi, Nat.pow_succ, hd, Nat.mul_add (2 ^ s)]
  have e2 : 2 ^ s * (B64 ^ i * (zs.getD i 0 / 2 ^ s + 2 ^ (64 - s) * cout zs s (i + 1))) = B64 ^ i * (2 ^ s * (zs.getD i 0 / 2 ^ s)) + B64 ^ i * B64 * cout zs s (i + 1) := by
    rw [← Nat.mul_assoc, Nat.mul_comm (2 ^ s) (B64 ^ i), Nat.mul_assoc, Nat.mul_add, Nat.mul_add, ← Nat.mul_assoc (2 ^ s) (2 ^ (64 - s)), pow_split s hs, Nat.mul_assoc]
  have e3 : B64 ^ i * (zs.getD i 0 % 2 ^ s) + B64 ^ i * (2 ^ s * (zs.getD i 0 / 2 ^ s)) = B64 ^ i * zs.getD i 0 := by rw [← Nat.mul_add, e1]
  rw [e2]
  have e4 : cout zs s i = zs.getD i 0 % 2 ^ s := rfl
  rw [e4] at h
  generalize B64 ^ i * (2 ^ s * (zs.getD i 0 / 2 ^ s)) = X1 at *
  generalize B64 ^ i * (zs.getD i 0 % 2 ^ s) = X2 at *
  generalize B64 ^ i * B64 * cout zs s (i + 1) = X3 at *
  omega
end Go.Proofs.Ytjhopiaeppgioaa
namespace Go.Proofs.Ytjhopiaeppgioaa
set_option maxRecDepth 100000
set_option maxHeartbeats 0
theorem kn_init {b y1 y0 u d : Nat} (hd : d < b) (hu : u < y1 * b + y0) (h0 : y0 < b) (h1 : b ≤ 2 * y1) : (u * b + d) / (y1 * b + y0) ≤ u / y1 ∧ u / y1 ≤ b + 1 := by
  have hy1 : 0 < y1 := by omega
  have hY : 0 < y1 * b + y0 := by
    have := Nat.mul_pos hy1 (show 0 < b by omega)
    omega
  have hm := Nat.div_add_mod u y1
  have hl := Nat.mod_lt u hy1
  refine ⟨?_, ?_⟩
  · refine Nat.le_of_lt_succ ((Nat.div_lt_iff_lt_mul hY).2 ?_)
    have a1 : (u + 1) * b ≤ (u / y1 + 1) * y1 * b := by
      refine Nat.mul_le_mul_right b ?_
      rw [Nat.add_mul, Nat.one_mul, Nat.mul_comm (u / y1) y1]; omega
    have a2 : (u / y1 + 1) * (y1 * b + y0) = (u / y1 + 1) * y1 * b + (u / y1 + 1) * y0 := by rw [Nat.mul_add, Nat.mul_assoc]
    rw [Nat.succ_eq_add_one, a2]
    rw [Nat.add_mul, Nat.one_mul] at a1
    omega
  · refine Nat.le_of_lt_succ ((Nat.div_lt_iff_lt_mul hy1).2 ?_)
    have : (b + 1).succ * y1 = y1 * b + 2 * y1 := by rw [Nat.succ_eq_add_one, show b + 1 + 1 = b + 2 by omega, Nat.add_mul, Nat.mul_comm b y1]
    rw [this]; omega
theorem kn_more {b y1 y0 u d q r : Nat} (hd : d < b) (hu : u < y1 * b + y0) (hq : q * y1 + r = u) (hc : b ≤ q ∨ b * r + d < q * y0) : (u * b + d) / (y1 * b + y0) + 1 ≤ q := by
  refine (Nat.div_lt_iff_lt_mul (by omega)).2 ?_
  rcases hc with hc | hc
  · have a1 : b * (y1 * b + y0) ≤ q * (y1 * b + y0) := Nat.mul_le_mul_right _ hc
    have a2 : b * (u + 1) ≤ b * (y1 * b + y0) := Nat.mul_le_mul_left _ hu
    rw [Nat.mul_add, Nat.mul_one, Nat.mul_comm b u] at a2
    omega
  · have a1 : q * (y1 * b + y0) = q * y1 * b + q * y0 := by rw [Nat.mul_add, Nat.mul_assoc]
    have a2 : u * b = q * y1 * b + r * b := by rw [← hq, Nat.add_mul]
    rw [Nat.mul_comm b r] at hc
    omega
theorem kn_exit {b y1 y0 u d q r : Nat} (hu : u < y1 * b + y0) (hq : q * y1 + r = u) (hQ : (u * b + d) / (y1 * b + y0) ≤ q) (hc : q * y0 ≤ b * r + d) : q = (u * b + d) / (y1 * b + y0) := by
  refine Nat.le_antisymm ((Nat.le_div_iff_mul_le (by omega)).2 ?_) hQ
  have a1 : q * (y1 * b + y0) = q * y1 * b + q * y0 := by rw [Nat.mul_add, Nat.mul_assoc]
  have a2 : u * b = q * y1 * b + r * b := by rw [← hq, Nat.add_mul]
  rw [Nat.mul_comm b r] at hc
  omega
theorem kn_far {b y0 d q r : Nat} (h0 : y0 < b) (hq : q ≤ b) (hr : b ≤ r) : q * y0 ≤ b * r + d := by
  have a1 : q * y0 ≤ b * b := Nat.mul_le_mul hq (by omega)
  have a2 : b * b ≤ b * r := Nat.mul_le_mul_left b hr
  omega
theorem kn_lt {b y1 y0 u d : Nat} (hd : d < b) (hu : u < y1 * b + y0) : (u * b + d) / (y1 * b + y0) < b := by
  refine (Nat.div_lt_iff_lt_mul (by omega)).2 ?_
  have a2 : b * (u + 1) ≤ b * (y1 * b + y0) := Nat.mul_le_mul_left _ hu
  rw [Nat.mul_add, Nat.mul_one, Nat.mul_comm b u] at a2
  omega

theorem kn_join {b Y u un1 un0 q1 q0 r1 r0 : Nat} (h1 : u * b + un1 = q1 * Y + r1) (h0 : r1 * b + un0 = q0 * Y + r0) : u * (b * b) + (un1 * b + un0) = (q1 * b + q0) * Y + r0 := by
  have e1 : (u * b + un1) * b = (q1 * Y + r1) * b := by rw [h1]
  rw [Nat.add_mul, Nat.add_mul] at e1
  have e2 : u * b * b = u * (b * b) := Nat.mul_assoc _ _ _
  have e3 : q1 * Y * b = q1 * b * Y := by rw [Nat.mul_assoc, Nat.mul_comm Y b, ← Nat.mul_assoc]
  rw [Nat.add_mul]
  omega
theorem kn_scale {P y n q r0 : Nat} (hP : 0 < P) (h : P * n = q * (y * P) + r0) (hr : r0 < y * P) : n = q * y + r0 / P ∧ r0 / P < y := by
  have e : q * (y * P) = P * (q * y) := by rw [← Nat.mul_assoc, Nat.mul_comm]
  rw [e] at h
  have hd : P ∣ r0 := by
    have : r0 = P * n - P * (q * y) := by omega
    rw [this, ← Nat.mul_sub]; exact Nat.dvd_mul_right _ _
  obtain ⟨t, rfl⟩ := hd
  rw [Nat.mul_div_cancel_left _ hP]
  rw [← Nat.mul_add] at h
  refine ⟨Nat.eq_of_mul_eq_mul_left hP h, ?_⟩
  rw [Nat.mul_comm y P] at hr
  exact Nat.lt_of_mul_lt_mul_left hr
end Go.Proofs.Ytjhopiaeppgioaa
namespace Go.Proofs.Ytjhopiaeppgioaa
open Go.RowKit
set_option maxRecDepth 100000
set_option maxHeartbeats 0
theorem lz_any (x s : Nat) (w : World) (hx : x < B64) (hs : s + bitsN x = 64) : Calls Try.prog 28 #[U x] w fun e w' => e = .returned (.int .i64 s) ∧ w' = w := by
  go_enter Try.func28, Try.ntmps28
  go_wp2_with fail
  refine (len_any x _ hx).mono ?_
  rintro e w' ⟨rfl, hw⟩
  obtain rfl := hw.symm
  clear hw
  go_wp2_with fail
  go_ret
  exact ⟨ret_int (by omega), rfl⟩

theorem wrap_mod (n : Int) (m : Nat) (h : n % 18446744073709551616 = (m : Int)) : IntKind.u64.wrap n = (m : Int) := by rw [IntKind.wrap_u64]; exact h
theorem u_quo (lo y : Nat) (hlo : lo < B64) : IntKind.u64.wrap ((lo : Int) / (y : Int)) = ((lo / y : Nat) : Int) := by
  have := Nat.div_le_self lo y
  rw [B64_eq] at hlo
  refine wrap_mod _ _ ?_
  rw [← Int.natCast_ediv]
  generalize lo / y = Q at *
  omega

theorem div64_zero (lo y : Nat) (w : World) (hy0 : ((y : Int) == 0) = false) (hlo : lo < B64) :
    Calls Try.prog 26 #[U 0, U lo, U y] w fun e w' => e = .returned (.tuple #[U (lo / y), U (lo % y)]) ∧ ∃ r, w' = w.drewN r := by
  have hy : 0 < y := by simp at hy0; omega
  have hq := u_quo lo y hlo
  generalize lo / y = Q at *
  go_enter Try.func26, Try.ntmps26
  go_wp2_with fail
  go_quiet (fail)
  go_wp2_with fail
  go_ret2
  exact ⟨rfl, _, rfl⟩

structure Kn (y1 y0 u d q r : Nat) : Prop where
  eq : q * y1 + r = u
  ge : (u * 4294967296 + d) / (y1 * 4294967296 + y0) ≤ q
  le : q ≤ 4294967297
def jq (a b : Nat) : Nat := a * 4294967296 + b
structure KnB (r : Nat) : Prop where
  lt : r < 4294967296
structure KnC (y1 y0 u d : Nat) : Prop where
  hy0 : y0 < 4294967296
  hd : d < 4294967296
  hu : u < y1 * 4294967296 + y0
  hy1 : 4294967296 ≤ 2 * y1
theorem Kn.init {y1 y0 u d : Nat} (h : KnC y1 y0 u d) : Kn y1 y0 u d (u / y1) (u - u / y1 * y1) := by
  have := kn_init h.hd h.hu h.hy0 h.hy1
  have h2 := Nat.div_mul_le_self u y1
  exact ⟨by omega, this.1, this.2⟩
theorem Kn.down {y1 y0 u d q r : Nat} (k : Kn y1 y0 u d q r) (h : KnC y1 y0 u d) (hc : 4294967296 ≤ q ∨ 4294967296 * r + d < q * y0) : 1 ≤ q ∧ Kn y1 y0 u d (q - 1) (r + y1) := by
  have h1 := kn_more h.hd h.hu k.eq hc
  have h2 := k.le
  have h3 := k.eq
  refine ⟨by generalize (u * 4294967296 + d) / (y1 * 4294967296 + y0) = T at *; omega, ?_, by generalize (u * 4294967296 + d) / (y1 * 4294967296 + y0) = T at *; omega, by omega⟩
  have h4 : 1 ≤ q := by generalize (u * 4294967296 + d) / (y1 * 4294967296 + y0) = T at *; omega
  obtain ⟨t, rfl⟩ : ∃ t, q = t + 1 := ⟨q - 1, by omega⟩
  rw [Nat.add_sub_cancel]
  rw [Nat.add_mul, Nat.one_mul] at h3
  omega
theorem dm (N M : Nat) : N = N / M * M + N % M := by rw [Nat.mul_comm]; exact (Nat.div_add_mod N M).symm
structure KnD (y1 y0 u d q : Nat) (rest : Nat) : Prop where
  lt : q < 4294967296
  eq : u * 4294967296 + d = q * (y1 * 4294967296 + y0) + rest
  rlt : rest < y1 * 4294967296 + y0
theorem Kn.done {y1 y0 u d q r : Nat} (k : Kn y1 y0 u d q r) (h : KnC y1 y0 u d) (hc : q * y0 ≤ 4294967296 * r + d) : KnD y1 y0 u d q ((u * 4294967296 + d) % (y1 * 4294967296 + y0)) := by
  have h1 := kn_exit h.hu k.eq k.ge hc
  have h2 := kn_lt h.hd h.hu
  refine ⟨by omega, ?_, Nat.mod_lt _ (by have := h.hu; omega)⟩
  rw [h1]; exact dm _ _
theorem Kn.far {y1 y0 u d q r : Nat} (k : Kn y1 y0 u d q r) (h : KnC y1 y0 u d) (hq : q ≤ 4294967296) (hr : 4294967296 ≤ r) : KnD y1 y0 u d q ((u * 4294967296 + d) % (y1 * 4294967296 + y0)) :=
  k.done h (kn_far h.hy0 hq hr)
theorem kn_words {y1 y0 u d q rest Y : Nat} (k : KnD y1 y0 u d q rest) (hY : Y = y1 * 4294967296 + y0) (hYb : Y < 18446744073709551616) :
    ∃ a1 a2 a3, IntKind.u64.wrap ((u : Int) * 4294967296) = (a1 : Nat) ∧ IntKind.u64.wrap ((a1 : Nat) + (d : Int)) = (a2 : Nat) ∧ IntKind.u64.wrap ((q : Int) * (Y : Int)) = (a3 : Nat) ∧ IntKind.u64.wrap (((a2 : Nat) : Int) - ((a3 : Nat) : Int)) = (rest : Nat) := by
  have h1 := k.eq
  have h2 := k.rlt
  rw [← hY] at h1 h2
  refine ⟨u * 4294967296 % 18446744073709551616, (u * 4294967296 % 18446744073709551616 + d) % 18446744073709551616, q * Y % 18446744073709551616, ?_, ?_, ?_, ?_⟩
  · exact wrap_mod _ _ (by omega)
  · exact wrap_mod _ _ (by omega)
  · refine wrap_mod _ _ ?_
    rw [← Int.natCast_mul]; omega
  · refine wrap_mod _ _ ?_
    generalize q * Y = Z at *
    omega

theorem ret_two {a b c d : Int} (h : a = c) (k : b = d) : Ending.returned (.tuple #[.int .u64 a, .int .u64 b]) = .returned (.tuple #[.int .u64 c, .int .u64 d]) := by rw [h, k]
theorem norm_y {y s : Nat} (hy : y ≠ 0) (hs : s + bitsN y = 64) : y * 2 ^ s < 18446744073709551616 ∧ 9223372036854775808 ≤ y * 2 ^ s := by
  have h1 := bitsN_lt y
  have h2 := bitsN_le y hy
  have hp := Nat.two_pow_pos s
  constructor
  · have := Nat.mul_lt_mul_of_pos_right h1 hp
    rw [← Nat.pow_add, show bitsN y + s = 64 by omega] at this; exact this
  · have h3 := Nat.mul_le_mul_right (2 ^ s) h2
    have h4 : bitsN y ≠ 0 := by unfold bitsN; rw [if_neg hy]; omega
    rw [← Nat.pow_add, show bitsN y - 1 + s = 63 by omega] at h3; exact h3
theorem and32 (v : Nat) (h : v < 18446744073709551616) : bits .and .u64 (v : Int) 4294967295 = ((v % 4294967296 : Nat) : Int) := by
  have h1 := bits_and_u64_nat v 4294967295 h (by omega)
  rw [show v &&& 4294967295 = v % 4294967296 from Nat.and_two_pow_sub_one_eq_mod v 32] at h1
  exact h1
theorem div32 (v : Nat) : (v : Int) / 4294967296 = ((v / 4294967296 : Nat) : Int) := by omega

theorem div64_walk (hi lo y s Y y1 y0 hs ls u v un1 un0 qi qy ri : Nat) (w : World) (hh0 : ((hi : Int) == 0) = false) (hy0 : ((y : Int) == 0) = false) (hhy : hi < y) (hyb : y < B64) (HSB : Hid (s + bitsN y = 64)) (hs64 : s < 64)
    (eY : IntKind.u64.wrap ((y : Int) * 2 ^ s) = (Y : Int)) (ey1 : (Y : Int) / 4294967296 = (y1 : Int)) (ey0 : bits .and .u64 (Y : Int) 4294967295 = (y0 : Int))
    (ehs : IntKind.u64.wrap ((hi : Int) * 2 ^ s) = (hs : Int)) (els : (lo : Int) / 2 ^ (64 - s) = (ls : Int)) (eu : bits .or .u64 (hs : Int) (ls : Int) = (u : Int))
    (ev : IntKind.u64.wrap ((lo : Int) * 2 ^ s) = (v : Int)) (eun1 : (v : Int) / 4294967296 = (un1 : Int)) (eun0 : bits .and .u64 (v : Int) 4294967295 = (un0 : Int))
    (eqi : (u : Int) / (y1 : Int) = (qi : Int)) (eqy : (qi : Int) * (y1 : Int) = (qy : Int)) (eri : (u : Int) - (qy : Int) = (ri : Int)) (hqi : qi ≤ 4294967297) (hqy : qy ≤ 18446744073709551615) (hri : ri < 4294967296)
    (hy1 : 1 ≤ y1) (hy1b : y1 < 4294967296) (hy0b : y0 < 4294967296) (hun1 : un1 < 4294967296) (hun0 : un0 < 4294967296)
    (HC : Hid (KnC y1 y0 u un1)) (HK : Hid (Kn y1 y0 u un1 qi ri)) (HY : Hid (Y = y1 * 4294967296 + y0)) (HYB : Hid (Y < 18446744073709551616)) :
    Calls Try.prog 26 #[U hi, U lo, U y] w fun e w' => ∃ q1 q0 r1 r0, e = .returned (.tuple #[U (jq q1 q0), U (r0 / 2 ^ s)]) ∧ w' = w ∧ KnD y1 y0 u un1 q1 r1 ∧ KnD y1 y0 r1 un0 q0 r0 := by
  go_enter Try.func26, Try.ntmps26
  go_wp2_with fail
  refine (lz_any y s _ hyb HSB.out).mono ?_
  rintro e w' ⟨rfl, hw⟩
  obtain rfl := hw.symm
  clear hw
  go_wp2_with fail
  go_loop [15, 16] (fun a b => ∃ q r : Nat, a = U q ∧ b = U r ∧ KnB r ∧ Kn y1 y0 u un1 q r) (fun a _ => (intOf a).toNat)
  case atStart => exact ⟨qi, ri, rfl, rfl, ⟨hri⟩, HK.out⟩
  case round =>
    obtain ⟨q, r, rfl, rfl, hrb, hk⟩ := hrel
    have hr := hrb.lt
    have hq := hk.le
    have HK2 : Hid (Kn y1 y0 u un1 q r) := hk
    clear hk HK eY ey1 ey0 ehs els eu ev eun1 eun0 eqi eqy eri hyb hqi hqy hri hh0 hy0 hhy
    obtain ⟨pq, epq⟩ : ∃ pq : Nat, (q : Int) * (y0 : Int) = (pq : Int) := ⟨q * y0, by simp⟩
    have HPQ : Hid (pq = q * y0) := by have := epq; rw [← Int.natCast_mul] at this; exact (Int.ofNat.inj this).symm
    have hpb : q < 4294967296 → pq ≤ 18446744073709551615 := by
      intro hlt
      rw [HPQ.out]
      have := Nat.mul_le_mul (show q ≤ 4294967295 by omega) (show y0 ≤ 4294967295 by omega)
      omega
    by_cases c1 : 4294967296 ≤ q
    · have c1b : decide ((4294967296 : Int) ≤ (q : Int)) = true := decide_eq_true (by omega)
      obtain ⟨hq1, hk2⟩ := HK2.out.down HC.out (.inl c1)
      clear hpb epq HPQ c1
      by_cases c3 : 4294967296 ≤ r + y1
      · have HD : Hid (KnD y1 y0 u un1 (q - 1) ((u * 4294967296 + un1) % (y1 * 4294967296 + y0))) := hk2.far HC.out (by omega) c3
        generalize (u * 4294967296 + un1) % (y1 * 4294967296 + y0) = R1 at HD
        obtain ⟨q', hq'⟩ : ∃ q', q' = q - 1 := ⟨_, rfl⟩
        have eq' : (q : Int) - 1 = (q' : Int) := by omega
        rw [← hq'] at HD
        have c3b : decide ((4294967296 : Int) ≤ (r : Int) + (y1 : Int)) = true := decide_eq_true (by omega)
        clear hk2 hq'
        have hqb : q' < 4294967296 := HD.out.lt
        have hrlt := HD.out.rlt
        obtain ⟨a1, a2, a3, e1, e2, e3, e4⟩ := kn_words HD.out HY.out HYB.out
        have HC2 : Hid (KnC y1 y0 R1 un0) := ⟨hy0b, hun0, hrlt, HC.out.hy1⟩
        have hin := Kn.init HC2.out
        have hrb2 : R1 ≤ 18446744073709551615 := by have h1 := HY.out; have h2 := HYB.out; omega
        obtain ⟨qj, hqj⟩ : ∃ qj, qj = R1 / y1 := ⟨_, rfl⟩
        obtain ⟨qjy, hqjy⟩ : ∃ qjy, qjy = R1 / y1 * y1 := ⟨_, rfl⟩
        obtain ⟨rj, hrj⟩ : ∃ rj, rj = R1 - R1 / y1 * y1 := ⟨_, rfl⟩
        have hle := Nat.div_mul_le_self R1 y1
        have hml := Nat.mod_lt R1 (show 0 < y1 by omega)
        have hdm := Nat.div_add_mod R1 y1
        rw [Nat.mul_comm] at hdm
        rw [← hrj, ← hqj] at hin
        have g1 : (R1 : Int) / (y1 : Int) = (qj : Int) := by rw [hqj]; exact (Int.natCast_ediv _ _).symm
        have g2 : (qj : Int) * (y1 : Int) = (qjy : Int) := by rw [hqjy, hqj]; exact (Int.natCast_mul _ _).symm
        have g3 : (R1 : Int) - (qjy : Int) = (rj : Int) := by rw [hqjy, hrj]; omega
        have hqjb : qj ≤ 4294967297 := hin.le
        have hqjyb : qjy ≤ R1 := by rw [hqjy]; exact hle
        have hrjb : rj < 4294967296 := by rw [hrj]; omega
        have HIN : Hid (Kn y1 y0 R1 un0 qj rj) := hin
        clear hin hle hml hdm hqj hqjy hrj hrlt
        go_wp2_with fail
        go_loop [18, 16] (fun a b => ∃ t z : Nat, a = U t ∧ b = U z ∧ KnB z ∧ Kn y1 y0 R1 un0 t z) (fun a _ => (intOf a).toNat)
        case atStart => exact ⟨qj, rj, rfl, rfl, ⟨hrjb⟩, HIN.out⟩
        case round =>
          obtain ⟨t, z, rfl, rfl, hzb, hkt⟩ := hrel
          have hz := hzb.lt
          have ht := hkt.le
          have HKT : Hid (Kn y1 y0 R1 un0 t z) := hkt
          clear hkt HIN e1 e2 e3 e4 g1 g2 g3 hqjb hqjyb hrjb
          obtain ⟨pt, ept⟩ : ∃ pt : Nat, (t : Int) * (y0 : Int) = (pt : Int) := ⟨t * y0, by simp⟩
          have HPT : Hid (pt = t * y0) := by have := ept; rw [← Int.natCast_mul] at this; exact (Int.ofNat.inj this).symm
          have hptb : t < 4294967296 → pt ≤ 18446744073709551615 := by
            intro hlt
            rw [HPT.out]
            have := Nat.mul_le_mul (show t ≤ 4294967295 by omega) (show y0 ≤ 4294967295 by omega)
            omega
          by_cases d1 : 4294967296 ≤ t
          · have d1b : decide ((4294967296 : Int) ≤ (t : Int)) = true := decide_eq_true (by omega)
            obtain ⟨ht1, hk3⟩ := HKT.out.down HC2.out (.inl d1)
            clear hptb ept HPT
            by_cases d3 : 4294967296 ≤ z + y1
            · have HE : Hid (KnD y1 y0 R1 un0 (t - 1) ((R1 * 4294967296 + un0) % (y1 * 4294967296 + y0))) := hk3.far HC2.out (by omega) d3
              generalize (R1 * 4294967296 + un0) % (y1 * 4294967296 + y0) = R0 at HE
              obtain ⟨t', ht'⟩ : ∃ t', t' = t - 1 := ⟨_, rfl⟩
              have et' : (t : Int) - 1 = (t' : Int) := by omega
              rw [← ht'] at HE
              have d3b : decide ((4294967296 : Int) ≤ (z : Int) + (y1 : Int)) = true := decide_eq_true (by omega)
              clear hk3 ht'
              have htb : t' < 4294967296 := HE.out.lt
              have hqb2 : q' < 4294967296 := HD.out.lt
              obtain ⟨b1, b2, b3, f1, f2, f3, f4⟩ := kn_words HE.out HY.out HYB.out
              go_wp2_with fail
              go_ret2
              refine ⟨q', t', R1, R0, ?_, rfl, HD.out, HE.out⟩
              exact ret_two (by unfold jq; omega) (by rw [div_nat])
            · have HK4 : Hid (Kn y1 y0 R1 un0 (t - 1) (z + y1)) := hk3
              have d3b : decide ((4294967296 : Int) ≤ (z : Int) + (y1 : Int)) = false := decide_eq_false (by omega)
              clear hk3
              go_wp2_with fail
              go_round
              case rel => exact ⟨t - 1, z + y1, by go_num, by go_num, ⟨by omega⟩, HK4.out⟩
              case measure => simp [intOf]; omega
          · have hptb' := hptb (by omega)
            have d1b : decide ((4294967296 : Int) ≤ (t : Int)) = false := decide_eq_false (by omega)
            by_cases d2 : 4294967296 * z + un0 < pt
            · obtain ⟨ht1, hk3⟩ := HKT.out.down HC2.out (.inr (by rw [← HPT.out]; exact d2))
              have d2b : decide (4294967296 * (z : Int) + (un0 : Int) < (pt : Int)) = true := decide_eq_true (by omega)
              clear hptb
              by_cases d3 : 4294967296 ≤ z + y1
              · have HE : Hid (KnD y1 y0 R1 un0 (t - 1) ((R1 * 4294967296 + un0) % (y1 * 4294967296 + y0))) := hk3.far HC2.out (by omega) d3
                generalize (R1 * 4294967296 + un0) % (y1 * 4294967296 + y0) = R0 at HE
                obtain ⟨t', ht'⟩ : ∃ t', t' = t - 1 := ⟨_, rfl⟩
                have et' : (t : Int) - 1 = (t' : Int) := by omega
                rw [← ht'] at HE
                have d3b : decide ((4294967296 : Int) ≤ (z : Int) + (y1 : Int)) = true := decide_eq_true (by omega)
                clear hk3 ht'
                have htb : t' < 4294967296 := HE.out.lt
                have hqb2 : q' < 4294967296 := HD.out.lt
                obtain ⟨b1, b2, b3, f1, f2, f3, f4⟩ := kn_words HE.out HY.out HYB.out
                go_wp2_with fail
                go_ret2
                refine ⟨q', t', R1, R0, ?_, rfl, HD.out, HE.out⟩
                exact ret_two (by unfold jq; omega) (by rw [div_nat])
              · have HK4 : Hid (Kn y1 y0 R1 un0 (t - 1) (z + y1)) := hk3
                have d3b : decide ((4294967296 : Int) ≤ (z : Int) + (y1 : Int)) = false := decide_eq_false (by omega)
                clear hk3
                go_wp2_with fail
                go_round
                case rel => exact ⟨t - 1, z + y1, by go_num, by go_num, ⟨by omega⟩, HK4.out⟩
                case measure => simp [intOf]; omega
            · have HE : Hid (KnD y1 y0 R1 un0 t ((R1 * 4294967296 + un0) % (y1 * 4294967296 + y0))) := HKT.out.done HC2.out (by rw [← HPT.out]; omega)
              have d2b : decide (4294967296 * (z : Int) + (un0 : Int) < (pt : Int)) = false := decide_eq_false (by omega)
              clear hptb
              generalize (R1 * 4294967296 + un0) % (y1 * 4294967296 + y0) = R0 at HE
              have htb : t < 4294967296 := HE.out.lt
              have hqb2 : q' < 4294967296 := HD.out.lt
              obtain ⟨b1, b2, b3, f1, f2, f3, f4⟩ := kn_words HE.out HY.out HYB.out
              go_wp2_with fail
              go_ret2
              refine ⟨q', t, R1, R0, ?_, rfl, HD.out, HE.out⟩
              exact ret_two (by unfold jq; omega) (by rw [div_nat])
      · have HK3 : Hid (Kn y1 y0 u un1 (q - 1) (r + y1)) := hk2
        have c3b : decide ((4294967296 : Int) ≤ (r : Int) + (y1 : Int)) = false := decide_eq_false (by omega)
        clear hk2
        go_wp2_with fail
        go_round
        case rel => exact ⟨q - 1, r + y1, by go_num, by go_num, ⟨by omega⟩, HK3.out⟩
        case measure => simp [intOf]; omega
    · have hpb' := hpb (by omega)
      have c1b : decide ((4294967296 : Int) ≤ (q : Int)) = false := decide_eq_false (by omega)
      by_cases c2 : 4294967296 * r + un1 < pq
      · obtain ⟨hq1, hk2⟩ := HK2.out.down HC.out (.inr (by rw [← HPQ.out]; exact c2))
        have c2b : decide (4294967296 * (r : Int) + (un1 : Int) < (pq : Int)) = true := decide_eq_true (by omega)
        clear hpb
        by_cases c3 : 4294967296 ≤ r + y1
        · have HD : Hid (KnD y1 y0 u un1 (q - 1) ((u * 4294967296 + un1) % (y1 * 4294967296 + y0))) := hk2.far HC.out (by omega) c3
          generalize (u * 4294967296 + un1) % (y1 * 4294967296 + y0) = R1 at HD
          obtain ⟨q', hq'⟩ : ∃ q', q' = q - 1 := ⟨_, rfl⟩
          have eq' : (q : Int) - 1 = (q' : Int) := by omega
          rw [← hq'] at HD
          have c3b : decide ((4294967296 : Int) ≤ (r : Int) + (y1 : Int)) = true := decide_eq_true (by omega)
          clear hk2 hq'
          have hqb : q' < 4294967296 := HD.out.lt
          have hrlt := HD.out.rlt
          obtain ⟨a1, a2, a3, e1, e2, e3, e4⟩ := kn_words HD.out HY.out HYB.out
          have HC2 : Hid (KnC y1 y0 R1 un0) := ⟨hy0b, hun0, hrlt, HC.out.hy1⟩
          have hin := Kn.init HC2.out
          have hrb2 : R1 ≤ 18446744073709551615 := by have h1 := HY.out; have h2 := HYB.out; omega
          obtain ⟨qj, hqj⟩ : ∃ qj, qj = R1 / y1 := ⟨_, rfl⟩
          obtain ⟨qjy, hqjy⟩ : ∃ qjy, qjy = R1 / y1 * y1 := ⟨_, rfl⟩
          obtain ⟨rj, hrj⟩ : ∃ rj, rj = R1 - R1 / y1 * y1 := ⟨_, rfl⟩
          have hle := Nat.div_mul_le_self R1 y1
          have hml := Nat.mod_lt R1 (show 0 < y1 by omega)
          have hdm := Nat.div_add_mod R1 y1
          rw [Nat.mul_comm] at hdm
          rw [← hrj, ← hqj] at hin
          have g1 : (R1 : Int) / (y1 : Int) = (qj : Int) := by rw [hqj]; exact (Int.natCast_ediv _ _).symm
          have g2 : (qj : Int) * (y1 : Int) = (qjy : Int) := by rw [hqjy, hqj]; exact (Int.natCast_mul _ _).symm
          have g3 : (R1 : Int) - (qjy : Int) = (rj : Int) := by rw [hqjy, hrj]; omega
          have hqjb : qj ≤ 4294967297 := hin.le
          have hqjyb : qjy ≤ R1 := by rw [hqjy]; exact hle
          have hrjb : rj < 4294967296 := by rw [hrj]; omega
          have HIN : Hid (Kn y1 y0 R1 un0 qj rj) := hin
          clear hin hle hml hdm hqj hqjy hrj hrlt
          go_wp2_with fail
          go_loop [18, 16] (fun a b => ∃ t z : Nat, a = U t ∧ b = U z ∧ KnB z ∧ Kn y1 y0 R1 un0 t z) (fun a _ => (intOf a).toNat)
          case atStart => exact ⟨qj, rj, rfl, rfl, ⟨hrjb⟩, HIN.out⟩
          case round =>
            obtain ⟨t, z, rfl, rfl, hzb, hkt⟩ := hrel
            have hz := hzb.lt
            have ht := hkt.le
            have HKT : Hid (Kn y1 y0 R1 un0 t z) := hkt
            clear hkt HIN e1 e2 e3 e4 g1 g2 g3 hqjb hqjyb hrjb
            obtain ⟨pt, ept⟩ : ∃ pt : Nat, (t : Int) * (y0 : Int) = (pt : Int) := ⟨t * y0, by simp⟩
            have HPT : Hid (pt = t * y0) := by have := ept; rw [← Int.natCast_mul] at this; exact (Int.ofNat.inj this).symm
            have hptb : t < 4294967296 → pt ≤ 18446744073709551615 := by
              intro hlt
              rw [HPT.out]
              have := Nat.mul_le_mul (show t ≤ 4294967295 by omega) (show y0 ≤ 4294967295 by omega)
              omega
            by_cases d1 : 4294967296 ≤ t
            · have d1b : decide ((4294967296 : Int) ≤ (t : Int)) = true := decide_eq_true (by omega)
              obtain ⟨ht1, hk3⟩ := HKT.out.down HC2.out (.inl d1)
              clear hptb ept HPT
              by_cases d3 : 4294967296 ≤ z + y1
              · have HE : Hid (KnD y1 y0 R1 un0 (t - 1) ((R1 * 4294967296 + un0) % (y1 * 4294967296 + y0))) := hk3.far HC2.out (by omega) d3
                generalize (R1 * 4294967296 + un0) % (y1 * 4294967296 + y0) = R0 at HE
                obtain ⟨t', ht'⟩ : ∃ t', t' = t - 1 := ⟨_, rfl⟩
                have et' : (t : Int) - 1 = (t' : Int) := by omega
                rw [← ht'] at HE
                have d3b : decide ((4294967296 : Int) ≤ (z : Int) + (y1 : Int)) = true := decide_eq_true (by omega)
                clear hk3 ht'
                have htb : t' < 4294967296 := HE.out.lt
                have hqb2 : q' < 4294967296 := HD.out.lt
                obtain ⟨b1, b2, b3, f1, f2, f3, f4⟩ := kn_words HE.out HY.out HYB.out
                go_wp2_with fail
                go_ret2
                refine ⟨q', t', R1, R0, ?_, rfl, HD.out, HE.out⟩
                exact ret_two (by unfold jq; omega) (by rw [div_nat])
              · have HK4 : Hid (Kn y1 y0 R1 un0 (t - 1) (z + y1)) := hk3
                have d3b : decide ((4294967296 : Int) ≤ (z : Int) + (y1 : Int)) = false := decide_eq_false (by omega)
                clear hk3
                go_wp2_with fail
                go_round
                case rel => exact ⟨t - 1, z + y1, by go_num, by go_num, ⟨by omega⟩, HK4.out⟩
                case measure => simp [intOf]; omega
            · have hptb' := hptb (by omega)
              have d1b : decide ((4294967296 : Int) ≤ (t : Int)) = false := decide_eq_false (by omega)
              by_cases d2 : 4294967296 * z + un0 < pt
              · obtain ⟨ht1, hk3⟩ := HKT.out.down HC2.out (.inr (by rw [← HPT.out]; exact d2))
                have d2b : decide (4294967296 * (z : Int) + (un0 : Int) < (pt : Int)) = true := decide_eq_true (by omega)
                clear hptb
                by_cases d3 : 4294967296 ≤ z + y1
                · have HE : Hid (KnD y1 y0 R1 un0 (t - 1) ((R1 * 4294967296 + un0) % (y1 * 4294967296 + y0))) := hk3.far HC2.out (by omega) d3
                  generalize (R1 * 4294967296 + un0) % (y1 * 4294967296 + y0) = R0 at HE
                  obtain ⟨t', ht'⟩ : ∃ t', t' = t - 1 := ⟨_, rfl⟩
                  have et' : (t : Int) - 1 = (t' : Int) := by omega
                  rw [← ht'] at HE
                  have d3b : decide ((4294967296 : Int) ≤ (z : Int) + (y1 : Int)) = true := decide_eq_true (by omega)
                  clear hk3 ht'
                  have htb : t' < 4294967296 := HE.out.lt
                  have hqb2 : q' < 4294967296 := HD.out.lt
                  obtain ⟨b1, b2, b3, f1, f2, f3, f4⟩ := kn_words HE.out HY.out HYB.out
                  go_wp2_with fail
                  go_ret2
                  refine ⟨q', t', R1, R0, ?_, rfl, HD.out, HE.out⟩
                  exact ret_two (by unfold jq; omega) (by rw [div_nat])
                · have HK4 : Hid (Kn y1 y0 R1 un0 (t - 1) (z + y1)) := hk3
                  have d3b : decide ((4294967296 : Int) ≤ (z : Int) + (y1 : Int)) = false := decide_eq_false (by omega)
                  clear hk3
                  go_wp2_with fail
                  go_round
                  case rel => exact ⟨t - 1, z + y1, by go_num, by go_num, ⟨by omega⟩, HK4.out⟩
                  case measure => simp [intOf]; omega
              · have HE : Hid (KnD y1 y0 R1 un0 t ((R1 * 4294967296 + un0) % (y1 * 4294967296 + y0))) := HKT.out.done HC2.out (by rw [← HPT.out]; omega)
                have d2b : decide (4294967296 * (z : Int) + (un0 : Int) < (pt : Int)) = false := decide_eq_false (by omega)
                clear hptb
                generalize (R1 * 4294967296 + un0) % (y1 * 4294967296 + y0) = R0 at HE
                have htb : t < 4294967296 := HE.out.lt
                have hqb2 : q' < 4294967296 := HD.out.lt
                obtain ⟨b1, b2, b3, f1, f2, f3, f4⟩ := kn_words HE.out HY.out HYB.out
                go_wp2_with fail
                go_ret2
                refine ⟨q', t, R1, R0, ?_, rfl, HD.out, HE.out⟩
                exact ret_two (by unfold jq; omega) (by rw [div_nat])
        · have HK3 : Hid (Kn y1 y0 u un1 (q - 1) (r + y1)) := hk2
          have c3b : decide ((4294967296 : Int) ≤ (r : Int) + (y1 : Int)) = false := decide_eq_false (by omega)
          clear hk2
          go_wp2_with fail
          go_round
          case rel => exact ⟨q - 1, r + y1, by go_num, by go_num, ⟨by omega⟩, HK3.out⟩
          case measure => simp [intOf]; omega
      · have HD : Hid (KnD y1 y0 u un1 q ((u * 4294967296 + un1) % (y1 * 4294967296 + y0))) := HK2.out.done HC.out (by rw [← HPQ.out]; omega)
        have c2b : decide (4294967296 * (r : Int) + (un1 : Int) < (pq : Int)) = false := decide_eq_false (by omega)
        clear hpb
        generalize (u * 4294967296 + un1) % (y1 * 4294967296 + y0) = R1 at HD
        have hqb : q < 4294967296 := HD.out.lt
        have hrlt := HD.out.rlt
        obtain ⟨a1, a2, a3, e1, e2, e3, e4⟩ := kn_words HD.out HY.out HYB.out
        have HC2 : Hid (KnC y1 y0 R1 un0) := ⟨hy0b, hun0, hrlt, HC.out.hy1⟩
        have hin := Kn.init HC2.out
        have hrb2 : R1 ≤ 18446744073709551615 := by have h1 := HY.out; have h2 := HYB.out; omega
        obtain ⟨qj, hqj⟩ : ∃ qj, qj = R1 / y1 := ⟨_, rfl⟩
        obtain ⟨qjy, hqjy⟩ : ∃ qjy, qjy = R1 / y1 * y1 := ⟨_, rfl⟩
        obtain ⟨rj, hrj⟩ : ∃ rj, rj = R1 - R1 / y1 * y1 := ⟨_, rfl⟩
        have hle := Nat.div_mul_le_self R1 y1
        have hml := Nat.mod_lt R1 (show 0 < y1 by omega)
        have hdm := Nat.div_add_mod R1 y1
        rw [Nat.mul_comm] at hdm
        rw [← hrj, ← hqj] at hin
        have g1 : (R1 : Int) / (y1 : Int) = (qj : Int) := by rw [hqj]; exact (Int.natCast_ediv _ _).symm
        have g2 : (qj : Int) * (y1 : Int) = (qjy : Int) := by rw [hqjy, hqj]; exact (Int.natCast_mul _ _).symm
        have g3 : (R1 : Int) - (qjy : Int) = (rj : Int) := by rw [hqjy, hrj]; omega
        have hqjb : qj ≤ 4294967297 := hin.le
        have hqjyb : qjy ≤ R1 := by rw [hqjy]; exact hle
        have hrjb : rj < 4294967296 := by rw [hrj]; omega
        have HIN : Hid (Kn y1 y0 R1 un0 qj rj) := hin
        clear hin hle hml hdm hqj hqjy hrj hrlt
        go_wp2_with fail
        go_loop [18, 16] (fun a b => ∃ t z : Nat, a = U t ∧ b = U z ∧ KnB z ∧ Kn y1 y0 R1 un0 t z) (fun a _ => (intOf a).toNat)
        case atStart => exact ⟨qj, rj, rfl, rfl, ⟨hrjb⟩, HIN.out⟩
        case round =>
          obtain ⟨t, z, rfl, rfl, hzb, hkt⟩ := hrel
          have hz := hzb.lt
          have ht := hkt.le
          have HKT : Hid (Kn y1 y0 R1 un0 t z) := hkt
          clear hkt HIN e1 e2 e3 e4 g1 g2 g3 hqjb hqjyb hrjb
          obtain ⟨pt, ept⟩ : ∃ pt : Nat, (t : Int) * (y0 : Int) = (pt : Int) := ⟨t * y0, by simp⟩
          have HPT : Hid (pt = t * y0) := by have := ept; rw [← Int.natCast_mul] at this; exact (Int.ofNat.inj this).symm
          have hptb : t < 4294967296 → pt ≤ 18446744073709551615 := by
            intro hlt
            rw [HPT.out]
            have := Nat.mul_le_mul (show t ≤ 4294967295 by omega) (show y0 ≤ 4294967295 by omega)
            omega
          by_cases d1 : 4294967296 ≤ t
          · have d1b : decide ((4294967296 : Int) ≤ (t : Int)) = true := decide_eq_true (by omega)
            obtain ⟨ht1, hk3⟩ := HKT.out.down HC2.out (.inl d1)
            clear hptb ept HPT
            by_cases d3 : 4294967296 ≤ z + y1
            · have HE : Hid (KnD y1 y0 R1 un0 (t - 1) ((R1 * 4294967296 + un0) % (y1 * 4294967296 + y0))) := hk3.far HC2.out (by omega) d3
              generalize (R1 * 4294967296 + un0) % (y1 * 4294967296 + y0) = R0 at HE
              obtain ⟨t', ht'⟩ : ∃ t', t' = t - 1 := ⟨_, rfl⟩
              have et' : (t : Int) - 1 = (t' : Int) := by omega
              rw [← ht'] at HE
              have d3b : decide ((4294967296 : Int) ≤ (z : Int) + (y1 : Int)) = true := decide_eq_true (by omega)
              clear hk3 ht'
              have htb : t' < 4294967296 := HE.out.lt
              have hqb2 : q < 4294967296 := HD.out.lt
              obtain ⟨b1, b2, b3, f1, f2, f3, f4⟩ := kn_words HE.out HY.out HYB.out
              go_wp2_with fail
              go_ret2
              refine ⟨q, t', R1, R0, ?_, rfl, HD.out, HE.out⟩
              exact ret_two (by unfold jq; omega) (by rw [div_nat])
            · have HK4 : Hid (Kn y1 y0 R1 un0 (t - 1) (z + y1)) := hk3
              have d3b : decide ((4294967296 : Int) ≤ (z : Int) + (y1 : Int)) = false := decide_eq_false (by omega)
              clear hk3
              go_wp2_with fail
              go_round
              case rel => exact ⟨t - 1, z + y1, by go_num, by go_num, ⟨by omega⟩, HK4.out⟩
              case measure => simp [intOf]; omega
          · have hptb' := hptb (by omega)
            have d1b : decide ((4294967296 : Int) ≤ (t : Int)) = false := decide_eq_false (by omega)
            by_cases d2 : 4294967296 * z + un0 < pt
            · obtain ⟨ht1, hk3⟩ := HKT.out.down HC2.out (.inr (by rw [← HPT.out]; exact d2))
              have d2b : decide (4294967296 * (z : Int) + (un0 : Int) < (pt : Int)) = true := decide_eq_true (by omega)
              clear hptb
              by_cases d3 : 4294967296 ≤ z + y1
              · have HE : Hid (KnD y1 y0 R1 un0 (t - 1) ((R1 * 4294967296 + un0) % (y1 * 4294967296 + y0))) := hk3.far HC2.out (by omega) d3
                generalize (R1 * 4294967296 + un0) % (y1 * 4294967296 + y0) = R0 at HE
                obtain ⟨t', ht'⟩ : ∃ t', t' = t - 1 := ⟨_, rfl⟩
                have et' : (t : Int) - 1 = (t' : Int) := by omega
                rw [← ht'] at HE
                have d3b : decide ((4294967296 : Int) ≤ (z : Int) + (y1 : Int)) = true := decide_eq_true (by omega)
                clear hk3 ht'
                have htb : t' < 4294967296 := HE.out.lt
                have hqb2 : q < 4294967296 := HD.out.lt
                obtain ⟨b1, b2, b3, f1, f2, f3, f4⟩ := kn_words HE.out HY.out HYB.out
                go_wp2_with fail
                go_ret2
                refine ⟨q, t', R1, R0, ?_, rfl, HD.out, HE.out⟩
                exact ret_two (by unfold jq; omega) (by rw [div_nat])
              · have HK4 : Hid (Kn y1 y0 R1 un0 (t - 1) (z + y1)) := hk3
                have d3b : decide ((4294967296 : Int) ≤ (z : Int) + (y1 : Int)) = false := decide_eq_false (by omega)
                clear hk3
                go_wp2_with fail
                go_round
                case rel => exact ⟨t - 1, z + y1, by go_num, by go_num, ⟨by omega⟩, HK4.out⟩
                case measure => simp [intOf]; omega
            · have HE : Hid (KnD y1 y0 R1 un0 t ((R1 * 4294967296 + un0) % (y1 * 4294967296 + y0))) := HKT.out.done HC2.out (by rw [← HPT.out]; omega)
              have d2b : decide (4294967296 * (z : Int) + (un0 : Int) < (pt : Int)) = false := decide_eq_false (by omega)
              clear hptb
              generalize (R1 * 4294967296 + un0) % (y1 * 4294967296 + y0) = R0 at HE
              have htb : t < 4294967296 := HE.out.lt
              have hqb2 : q < 4294967296 := HD.out.lt
              obtain ⟨b1, b2, b3, f1, f2, f3, f4⟩ := kn_words HE.out HY.out HYB.out
              go_wp2_with fail
              go_ret2
              refine ⟨q, t, R1, R0, ?_, rfl, HD.out, HE.out⟩
              exact ret_two (by unfold jq; omega) (by rw [div_nat])
theorem step_append_own {P : Program} {ops : Array Oper} {o : Oper} {a : Act} {w : World} {K : Act → World → Prop} {Q : Exit → Act → World → Prop} {E : Prop}
    (hg : o.guard = none) (s x : Operand) (t : TypeId) (hop : o.op = Op.call { callee := Callee.builtin Builtin.append, args := #[s, x], argTypes := #[t, t] })
    (base : Nat) (e : TypeId) (i : TypeInfo) (size : Nat) (h1 : P.underlying t = some (.slice e)) (h2 : P.info? e = some i) (h4 : i.size = size)
    (g k cap : Nat) (xs : List Value) (hs : a.eval s = .slice (some ⟨g, 0, none⟩) k cap) (hown : w.ownsRow base e size (.slice (some ⟨g, 0, none⟩) k cap) k xs) (ad : Addr) (m c : Nat) (news : List Value) (hx : a.eval x = .slice (some ad) m c) (hn : news.length = m * size)
    (hc : ∀ j u, news[j]? = some u → w.cell? (ad.add j) = some u) (h1c : ∀ u ∈ news, u.oneCell' = true) (b1 : k + m ≤ cap)
    (hK : ∀ w', w'.ownsRow base e size (.slice (some ⟨g, 0, none⟩) (k + m) cap) (k + m) (xs ++ news) → w.grownBy w' (some g) → K (a.put o.dst (.slice (some ⟨g, 0, none⟩) (k + m) cap)) w') :
    if Region.wanted o (yielded ops a.tmps) = true then Oper.wp P o a w K Q else E := by
  have hw : Region.wanted o (yielded ops a.tmps) = true := by simp [Region.wanted, hg]
  rw [if_pos hw]
  obtain ⟨w', hrun, r1, r2⟩ := run_append_fits (P := P) w base t o.type e i size h1 h2 h4 g k cap xs hown ad m c news hn hc h1c b1
  unfold Oper.wp
  simp [execOp, hop, resolve, invoke, builtin, hs, hx, hrun, Result.andThen]
  exact hK _ r1 r2
theorem bDrew {B : Nat} {a w : World} (h : Below B a w) : Below B a w.drew := ⟨h.os, h.tape, h.output, h.size, h.block⟩
theorem wrap32 (v : Nat) (h : v < B32) : IntKind.u32.wrap (v : Int) = (v : Int) := by
  rw [B32_eq] at h
  simp [IntKind.wrap, IntKind.signed, IntKind.bits]
  omega
theorem two_cells (w : World) (x y : Nat) : ∀ (j : Nat) (u : Value), [V x, V y][j]? = some u → (w.alloc (.cells #[V x, V y] 49)).cell? ((⟨w.heap.size, 0, none⟩ : Addr).add j) = some u := by
  intro j u h
  have hb : Blk32 (w.alloc (.cells #[V x, V y] 49)) w.heap.size [x, y] := heap_alloc_new w _
  have hj : j < 2 := by
    have := (List.getElem?_eq_some_iff.1 h).1
    simpa using this
  have hadd : (⟨w.heap.size, 0, none⟩ : Addr).add j = ⟨w.heap.size, j, none⟩ := by unfold Addr.add; split <;> simp_all
  rw [hadd, hb.cell j (by simpa using hj)]
  rcases Nat.lt_or_ge j 1 with h1 | h1
  · obtain rfl : j = 0 := by omega
    simpa using h
  · obtain rfl : j = 1 := by omega
    simpa using h

theorem from_any {p : Option Addr} {n c : Nat} {xs : List Nat} {w : World} (h : At w p n c xs) (hn : n ≤ 17592186044416) :
    Calls Try.prog 13 #[.slice p n c] w fun e w' =>
      ∃ g zs, e = .returned (.slice (some ⟨g, 0, none⟩) zs.length zs.length) ∧ w.heap.size ≤ g ∧ Blk32 w' g zs ∧ Nf B32 zs (valB B64 xs) ∧ zs.length ≤ 2 * n ∧ Below w.heap.size w w' := by
  obtain ⟨i0, hi, hz0, hz1, hz2⟩ := info_parts Try.infoU32
  have hl := h.len; have cap := h.cap; have big := h.big
  unfold maxLen at big
  have HL : Hid (xs.length = n) := hl
  clear hl
  go_enter Try.func13, Try.ntmps13
  go_wp2_with (at_make; refine wpList_make_own _ rfl _ _ 36 rfl w.heap.size 49 i0 (.int .u32 0) 1 Try.underlying36 hi hz0 hz1 _ _ _ (2 * n) rfl rfl (by omega) (by rw [hz2]; omega) (by unfold maxLen; omega) (Nat.le_refl _) ?_; intro w1 hown hgrow)
  have HO : Hid (w1.ownsRow w.heap.size 49 1 (.slice (some ⟨w.heap.size, 0, none⟩) 0 (2 * n)) 0 []) := hown
  have hb1 : Below w.heap.size w w1 := (Below.refl _ _).grown hgrow (Nat.le_refl _) (fun k hk => by simp at hk)
  clear hown hgrow
  obtain ⟨N, hN⟩ : ∃ N, N = 2 * n := ⟨_, rfl⟩
  rw [← hN] at HO ⊢
  have HN : Hid (N = 2 * n) := hN
  clear hN
  go_loopg [3, 4] n (fun gk dv iv wr => ∃ k K2 : Nat, k + gk = n ∧ iv = .int .i64 k ∧ Hid (K2 = 2 * k) ∧ dv = .slice (some ⟨w.heap.size, 0, none⟩) K2 N ∧ Hid (wr.ownsRow w.heap.size 49 1 (.slice (some ⟨w.heap.size, 0, none⟩) K2 N) K2 (cellsV (dig32 (xs.take k)))) ∧ Below w.heap.size w wr)
  case atStart => exact ⟨0, 0, by omega, rfl, rfl, rfl, HO, hb1⟩
  case round =>
    obtain ⟨k, K2, hkg, rfl, HK2, rfl, HOW, hbx⟩ := hrel
    cases gk with
    | zero =>
      obtain rfl : k = n := by omega
      have hO := HOW.out
      rcases hO.2 with ⟨h', _⟩ | ⟨g', cap', cur, h', hbase, hgc, hcap', hmx, hsz, htake⟩
      · simp at h'
      simp only [Value.slice.injEq, Option.some.injEq, Addr.mk.injEq, and_true, true_and] at h'
      obtain ⟨rfl, rfl⟩ := h'
      have hK := HK2.out
      have hNN := HN.out
      have hdl : (dig32 xs).length = K2 := by rw [dig32_len, HL.out, hK]
      have etk : xs.take k = xs := List.take_of_length_le (by rw [HL.out]; omega)
      rw [etk] at htake
      have A32 : At32 wr (some ⟨w.heap.size, 0, none⟩) K2 N (dig32 xs) := by
        refine ⟨hdl, hcap', hmx, dig32_dig h.dig, .inr ⟨w.heap.size, 0, rfl, fun jj hj => ?_⟩⟩
        rw [Nat.zero_add, cell_of_row wr w.heap.size jj _ _ _ hgc]
        have e1 := cellsV_get (dig32 xs) jj (by omega)
        rw [← htake, Nat.mul_one, List.getElem?_take, if_pos hj] at e1
        rw [← Array.getElem?_toList]; exact e1
      have hle := trimL_length_le (dig32 xs)
      have HNF : Hid (Nf B32 (trimL (dig32 xs)) (valB B64 xs)) := by
        have := Nf.trim (dig32_dig h.dig)
        rw [dig32_val] at this; exact this
      have HLE : Hid ((trimL (dig32 xs)).length ≤ 2 * k) := by show _ ≤ _; omega
      clear hO hbase hgc hcap' hmx hsz htake hK hNN hle hdl
      go_wp2_with fail
      refine (rnorm_any A32 (by have := HK2.out; omega)).mono ?_
      rintro e w5 ⟨g5, rfl, hg5, hblk5, hb5⟩
      generalize trimL (dig32 xs) = zs at *
      go_wp2_with fail
      go_ret
      exact ⟨g5, zs, rfl, by have := hbx.size; omega, hblk5, HNF.out, HLE.out, Below.on hbx hb5⟩
    | succ gg =>
      obtain ⟨g, off, rfl, hc⟩ := h.cells.resolve_left (by omega)
      obtain ⟨x, hx⟩ : ∃ x, x = xs.getD k 0 := ⟨_, rfl⟩
      have hcx0 : w.cell? ⟨g, off + k, none⟩ = some (U x) := by rw [hx]; exact hc k (by omega)
      have hcx : wr.cell? ⟨g, off + k, none⟩ = some (U x) := (hbx.cell (p := ⟨g, off + k, none⟩) (World.block_lt_of_cell? w _ hcx0)).trans hcx0
      have hxb : x < B64 := by rw [hx]; exact h.dig.getD B64_pos k
      have HX : Hid (x = xs.getD k 0) := hx
      clear hc hx hcx0
      obtain ⟨lo, hlo⟩ : ∃ lo, lo = x % B32 := ⟨_, rfl⟩
      obtain ⟨hh, hhi⟩ : ∃ hh, hh = x / B32 := ⟨_, rfl⟩
      have hlob : lo < B32 := by rw [hlo]; exact Nat.mod_lt _ B32_pos
      have hhib : hh < B32 := by rw [hhi]; exact Nat.div_lt_of_lt_mul (by rw [B32_two]; exact hxb)
      have e1 : bits .and .u64 (x : Int) 4294967295 = (lo : Int) := by rw [hlo, B32_eq]; exact and32 x (by rw [← B64_eq]; exact hxb)
      have e2 : (x : Int) / 4294967296 = (hh : Int) := by rw [hhi, B32_eq]; exact div32 x
      have e3 : IntKind.u32.wrap (lo : Int) = (lo : Int) := wrap32 lo hlob
      have e4 : IntKind.u32.wrap (hh : Int) = (hh : Int) := wrap32 hh hhib
      have HLO : Hid (lo = x % B32) := hlo
      have HHI : Hid (hh = x / B32) := hhi
      have hsp : K2 + 2 ≤ N := by have := HK2.out; have := HN.out; omega
      have HOA : Hid ((wr.drew.alloc (.cells #[V lo, V hh] 49)).ownsRow w.heap.size 49 1 (.slice (some ⟨w.heap.size, 0, none⟩) K2 N) K2 (cellsV (dig32 (xs.take k)))) := by
        have h0 : wr.drew.ownsRow w.heap.size 49 1 (.slice (some ⟨w.heap.size, 0, none⟩) K2 N) K2 (cellsV (dig32 (xs.take k))) := HOW.out
        exact h0.alloc _
      clear hlo hhi
      go_wp2_with fail
      go_region_law (refine step_append_own rfl (.tmp 15) (.tmp 28) 36 rfl w.heap.size 49 i0 1 Try.underlying36 hi hz1 w.heap.size K2 N (cellsV (dig32 (xs.take k))) (by simp [Act.eval]) HOA.out ⟨wr.heap.size, 0, none⟩ 2 2 [V lo, V hh] (by simp [Act.eval]) rfl (two_cells wr.drew lo hh) (by intro u hu; simp at hu; rcases hu with rfl | rfl <;> rfl) hsp ?_; intro w3 hw3 hgr3)
      all_goals
        (have hbx3 : Below w.heap.size w w3 := ((bDrew hbx).alloc (by have := hbx.size; exact this) _).grown hgr3 (by have := hbx.size; simp; omega) (fun q hq => by simp at hq; omega)
         have HW3 : Hid (w3.ownsRow w.heap.size 49 1 (.slice (some ⟨w.heap.size, 0, none⟩) (K2 + 2) N) (K2 + 2) (cellsV (dig32 (xs.take (k + 1))))) := by
           have e0 : cellsV (dig32 (xs.take (k + 1))) = cellsV (dig32 (xs.take k)) ++ [V lo, V hh] := by
             rw [dig32_snoc xs k (by rw [HL.out]; omega), ← HX.out, ← HLO.out, ← HHI.out]; unfold cellsV; rw [List.map_append]; rfl
           rw [e0]; exact hw3
         clear hw3 hgr3
         go_wp2_with fail
         go_roundg gg
         case measure => omega
         case rel => exact ⟨k + 1, K2 + 2, by omega, by go_num, by have := HK2.out; show _ = _; omega, rfl, HW3, hbx3⟩)
end Go.Proofs.Ytjhopiaeppgioaa
namespace Go.Proofs.Ytjhopiaeppgioaa
open Go.RowKit Go.Shelf
set_option maxRecDepth 100000
set_option maxHeartbeats 0
def renMul : Ren := ⟨fun x => match x with | 264 => 57 | n => n, fun x => match x with | 53 => 34 | 46 => 50 | n => n, fun n => n⟩
theorem laysMul : Lays.n264 Try.prog renMul :=
  { mixed := by kernel_rfl, f264 := Try.func57.trans (congrArg some (by kernel_rfl)),
    t46 := Try.underlying50, a46 := Try.isAgg50, z46 := Try.sizeOf50, v46 := Try.zeroValue50, t53 := Try.underlying34, a53 := Try.isAgg34, z53 := Try.sizeOf34, v53 := Try.zeroValue34 }

theorem mul64_ex (x y : Nat) (hx : x < B64) (hy : y < B64) : ∃ hi lo, (∀ w : World, Calls Try.prog 57 #[U x, U y] w fun e w' => e = .returned (.tuple #[U hi, U lo]) ∧ w' = w) ∧ x * y = lo + B64 * hi ∧ lo < B64 := by
  refine ⟨x * y / 18446744073709551616, x * y % 18446744073709551616, fun w => ?_, ?_, ?_⟩
  · rw [B64_eq] at hx hy
    exact Any.bits_Mul64 laysMul x y hx hy w
  · rw [B64_eq]; exact (Nat.mod_add_div _ _).symm
  · rw [B64_eq]; exact Nat.mod_lt _ (by decide)

theorem Row.snoc {w : World} {g off m : Nat} {zs : List Nat} (h : Row w g off m zs) {y : Nat} (hc : w.cell? ⟨g, off + m, none⟩ = some (U y)) (hf : w.frozen? ⟨g, off + m, none⟩ = false) (hy : y < B64) : Row w g off (m + 1) (zs ++ [y]) := by
  have hl := h.len
  refine ⟨by simp; omega, h.dig.append (dig1 hy), fun j hj => ?_, fun j hj => ?_⟩
  · by_cases e : j = m
    · subst e
      rw [List.getD_eq_getElem?_getD, List.getElem?_append_right (by omega)]
      simpa [hl] using hc
    · rw [List.getD_eq_getElem?_getD, List.getElem?_append_left (by omega), ← List.getD_eq_getElem?_getD]
      exact h.cell j (by omega)
  · by_cases e : j = m
    · subst e; exact hf
    · exact h.frozen j (by omega)

theorem amul_limb {x y z cy hi lo l1 c1 l2 c2 : Nat} (hx : x < B64) (hy : y < B64) (hz : z < B64) (hc : cy < B64) (h1 : x * y = lo + B64 * hi) (h2 : lo + z + 0 = l1 + B64 * c1) (h3 : l1 + cy + 0 = l2 + B64 * c2) :
    hi + c1 + c2 < B64 ∧ x * y + z + cy = l2 + B64 * (hi + c1 + c2) := by
  have e : x * y + z + cy = l2 + B64 * (hi + c1 + c2) := by rw [Nat.mul_add, Nat.mul_add]; omega
  refine ⟨?_, e⟩
  have a1 : x * y ≤ (B64 - 1) * (B64 - 1) := Nat.mul_le_mul (by omega) (by omega)
  have a2 : (B64 - 1) * (B64 - 1) + 2 * (B64 - 1) < B64 * B64 := by decide
  have a3 : B64 * (hi + c1 + c2) < B64 * B64 := by omega
  exact Nat.lt_of_mul_lt_mul_left a3

structure MulRel (w : World) (g off m : Nat) (zs ys : List Nat) (v k cy : Nat) (dk : List Nat) (wr : World) : Prop where
  wrs : Wr g off m w wr
  row : Row wr g off m dk
  hi : dk.drop k = zs.drop k
  car : cy < B64
  sum : valB B64 (dk.take k) + B64 ^ k * cy = valB B64 (zs.take k) + valB B64 (ys.take k) * v

theorem MulRel.step {w : World} {g off m : Nat} {zs ys : List Nat} {v k cy : Nat} {dk : List Nat} {wr : World} (h : MulRel w g off m zs ys v k cy dk wr) (hk : k < m)
    {x z l d : Nat} (hz : z = dk.getD k 0) (hx : x = ys.getD k 0) (hs : x * v + z + cy = l + B64 * d) (hl : l < B64) (hd : d < B64) :
    MulRel w g off m zs ys v (k + 1) d (dk.set k l) (wr.setCell ⟨g, off + k, none⟩ (U l)) := by
  have hlen := h.row.len
  refine ⟨h.wrs.setCell (off + k) ⟨by omega, by omega⟩ _, h.row.set k l hk hl, ?_, hd, ?_⟩
  · rw [drop_set_lt]; exact drop_succ_of_drop h.hi
  · have hzz : z = zs.getD k 0 := hz.trans (getD_of_drop h.hi)
    rw [take_set_succ dk k l (by omega), valB_snoc, List.length_take, hlen, Nat.min_eq_left (by omega), valB_take_any _ zs k, valB_take_any _ ys k, ← hzz, ← hx, Nat.pow_succ, Nat.add_mul]
    have e1 := h.sum
    have e2 : B64 ^ k * (x * v + z + cy) = B64 ^ k * (l + B64 * d) := by rw [hs]
    rw [Nat.mul_add, Nat.mul_add, Nat.mul_add, ← Nat.mul_assoc] at e2
    have e3 : B64 ^ k * x * v = B64 ^ k * (x * v) := Nat.mul_assoc _ _ _
    have e4 : B64 ^ k * B64 * d = B64 ^ k * (B64 * d) := Nat.mul_assoc _ _ _
    rw [e3, e4]
    rw [← Nat.mul_assoc] at e2
    generalize B64 ^ k * x * v = X0 at *
    generalize B64 ^ k * (x * v) = X1 at *
    generalize B64 ^ k * B64 * d = X2 at *
    generalize B64 ^ k * (B64 * d) = X3 at *
    generalize B64 ^ k * z = X4 at *
    generalize B64 ^ k * cy = X5 at *
    generalize B64 ^ k * l = X6 at *
    omega

theorem amul_any (g off n c : Nat) (zs : List Nat) (p : Option Addr) (m d : Nat) (ys : List Nat) (v : Nat) (w : World) (hz : Row w g off m zs) (hmn : m ≤ n) (hnc : n ≤ c) (_hbig : c ≤ 9223372036854775807)
    (ha : At w p m d ys) (hv : v < B64) (hap : ∀ g2 off2, 0 < m → p = some ⟨g2, off2, none⟩ → g2 ≠ g ∨ off2 + m ≤ off ∨ off + m ≤ off2) :
    Calls Try.prog 61 #[.slice (some ⟨g, off, none⟩) n c, .slice p m d, U v] w fun e w' =>
      ∃ cy zs', e = .returned (U cy) ∧ cy < B64 ∧ Wr g off m w w' ∧ Row w' g off m zs' ∧ valB B64 zs' + B64 ^ m * cy = valB B64 zs + valB B64 ys * v := by
  have hl := hz.len; have al := ha.len; have acap := ha.cap; have abig := ha.big
  unfold maxLen at abig
  go_enter Try.func61, Try.ntmps61
  go_wp2_with fail
  go_loopw [7, 8, 9, 10, 11, 18] (fun cv _ _ _ _ i wr => ∃ (k cy : Nat) (dk : List Nat), k ≤ m ∧ i = .int .i64 k ∧ cv = U cy ∧ MulRel w g off m zs ys v k cy dk wr) (fun _ _ _ _ _ i _ => m - (intOf i).toNat)
  case atStart => exact ⟨0, 0, zs, Nat.zero_le _, rfl, rfl, ⟨Wr.refl _ _ _ _, hz, rfl, B64_pos, by simp [valB]⟩⟩
  case round =>
    obtain ⟨k, cy, dk, hk, rfl, rfl, hR⟩ := hrel
    by_cases hlt : k < m
    · obtain ⟨g2, off2, rfl, hc2⟩ := ha.cells.resolve_left (by omega)
      obtain ⟨z, hzz⟩ : ∃ z, z = dk.getD k 0 := ⟨_, rfl⟩
      obtain ⟨x, hx⟩ : ∃ x, x = ys.getD k 0 := ⟨_, rfl⟩
      have hcz : wr.cell? ⟨g, off + k, none⟩ = some (U z) := by rw [hzz]; exact hR.row.cell k (by omega)
      have hfz : wr.frozen? ⟨g, off + k, none⟩ = false := hR.row.frozen k (by omega)
      have hcx : wr.cell? ⟨g2, off2 + k, none⟩ = some (U x) := by
        rw [hx, hR.wrs.cell g2 (off2 + k) (by have := hap g2 off2 (by omega) rfl; omega)]; exact hc2 k hlt
      have hzb : z < B64 := by rw [hzz]; exact hR.row.dig.getD B64_pos k
      have hxb : x < B64 := by rw [hx]; exact ha.dig.getD B64_pos k
      obtain ⟨hi, lo, hmul, em, hlo⟩ := mul64_ex x v hxb hv
      obtain ⟨l1, c1, hrun10, e1, hl1, hc1⟩ := add64_ex lo z 0 hlo hzb (by omega)
      obtain ⟨l2, c2, hrun20, e2, hl2, hc2'⟩ := add64_ex l1 cy 0 hl1 hR.car (by omega)
      obtain ⟨hfit, hsum⟩ := amul_limb hxb hv hzb hR.car em e1 e2
      have hrun1 : ∀ w : World, (callFunc 49 #[U lo, U z, .int .u64 0]).run Try.prog w = .ok (.value (.tuple #[U l1, U c1])) w := hrun10
      have hrun2 : ∀ w : World, (callFunc 49 #[U l1, U cy, .int .u64 0]).run Try.prog w = .ok (.value (.tuple #[U l2, U c2])) w := hrun20
      have hf1 : hi + c1 + c2 ≤ 18446744073709551615 := by rw [B64_eq] at hfit; omega
      have HR : Hid (MulRel w g off m zs ys v k cy dk wr) := hR
      have HX : Hid (x = ys.getD k 0) := hx
      have HZ : Hid (z = dk.getD k 0) := hzz
      have HS : Hid (x * v + z + cy = l2 + B64 * (hi + c1 + c2)) := hsum
      have HM : Hid (∀ w : World, Calls Try.prog 57 #[U x, U v] w fun e w' => e = .returned (.tuple #[U hi, U lo]) ∧ w' = w) := hmul
      clear hR hx hzz hsum hmul hc2 hrun10 hrun20 em e1 e2 hc1 hc2'
      go_wp2_with (go_at_call 57; refine (HM.out _).mono ?_; rintro e w' ⟨rfl, hw⟩; obtain rfl := hw.symm; clear hw)
      go_roundw
      case rel => exact ⟨k + 1, hi + c1 + c2, dk.set k l2, by omega, by go_num, by go_num, HR.out.step hlt HZ.out HX.out HS.out hl2 hfit⟩
      case measure => simp [intOf]; omega
    · obtain rfl : k = m := by omega
      have HR : Hid (MulRel w g off k zs ys v k cy dk wr) := hR
      clear hR
      go_wp2_with fail
      go_ret
      have hh := HR.out
      have h1 := hh.sum
      have h2 := hh.row.len
      rw [List.take_of_length_le (by omega), List.take_of_length_le (by omega), List.take_of_length_le (by omega)] at h1
      exact ⟨cy, dk, rfl, hh.car, hh.wrs, hh.row, h1⟩
theorem smul_limb {x y z cy hi lo l1 c1 l2 c2 : Nat} (hx : x < B64) (hy : y < B64) (hz : z < B64) (hc : cy < B64) (h1 : x * y = lo + B64 * hi) (h2 : lo + cy + 0 = l1 + B64 * c1) (h3 : z + B64 * c2 = l2 + l1 + 0) (hc2 : c2 ≤ 1) (hl2 : l2 < B64) (_hl1 : l1 < B64) :
    hi + c1 < B64 ∧ hi + c1 + c2 < B64 ∧ l2 + x * y + cy = z + B64 * (hi + c1 + c2) := by
  have e0 : x * y + cy = l1 + B64 * (hi + c1) := by rw [Nat.mul_add]; omega
  have e : l2 + x * y + cy = z + B64 * (hi + c1 + c2) := by rw [Nat.mul_add]; omega
  have a1 : x * y ≤ (B64 - 1) * (B64 - 1) := Nat.mul_le_mul (by omega) (by omega)
  have a2 : (B64 - 1) * (B64 - 1) + (B64 - 1) = B64 * (B64 - 1) := by decide
  have a3 : B64 * (hi + c1) + l1 ≤ B64 * (B64 - 1) := by omega
  have a4 : hi + c1 ≤ B64 - 1 := Nat.le_of_mul_le_mul_left (by omega : B64 * (hi + c1) ≤ B64 * (B64 - 1)) B64_pos
  have hp := B64_pos
  refine ⟨by omega, ?_, e⟩
  by_cases hh : hi + c1 = B64 - 1
  · rw [hh] at a3
    have : l1 = 0 := by omega
    have : c2 = 0 := by
      rcases Nat.eq_zero_or_pos c2 with h | h
      · exact h
      · have : c2 = 1 := by omega
        subst this; omega
    omega
  · omega

structure SubMulRel (w : World) (g off m : Nat) (zs ys : List Nat) (v k cy : Nat) (dk : List Nat) (wr : World) : Prop where
  wrs : Wr g off m w wr
  row : Row wr g off m dk
  hi : dk.drop k = zs.drop k
  car : cy < B64
  sum : valB B64 (zs.take k) + B64 ^ k * cy = valB B64 (dk.take k) + valB B64 (ys.take k) * v

theorem SubMulRel.step {w : World} {g off m : Nat} {zs ys : List Nat} {v k cy : Nat} {dk : List Nat} {wr : World} (h : SubMulRel w g off m zs ys v k cy dk wr) (hk : k < m)
    {x z l d : Nat} (hz : z = dk.getD k 0) (hx : x = ys.getD k 0) (hs : l + x * v + cy = z + B64 * d) (hl : l < B64) (hd : d < B64) :
    SubMulRel w g off m zs ys v (k + 1) d (dk.set k l) (wr.setCell ⟨g, off + k, none⟩ (U l)) := by
  have hlen := h.row.len
  refine ⟨h.wrs.setCell (off + k) ⟨by omega, by omega⟩ _, h.row.set k l hk hl, ?_, hd, ?_⟩
  · rw [drop_set_lt]; exact drop_succ_of_drop h.hi
  · have hzz : z = zs.getD k 0 := hz.trans (getD_of_drop h.hi)
    rw [take_set_succ dk k l (by omega), valB_snoc, List.length_take, hlen, Nat.min_eq_left (by omega), valB_take_any _ zs k, valB_take_any _ ys k, ← hzz, ← hx, Nat.pow_succ, Nat.add_mul]
    have e1 := h.sum
    have e2 : B64 ^ k * (l + x * v + cy) = B64 ^ k * (z + B64 * d) := by rw [hs]
    rw [Nat.mul_add, Nat.mul_add, Nat.mul_add, ← Nat.mul_assoc] at e2
    have e3 : B64 ^ k * x * v = B64 ^ k * (x * v) := Nat.mul_assoc _ _ _
    have e4 : B64 ^ k * B64 * d = B64 ^ k * (B64 * d) := Nat.mul_assoc _ _ _
    rw [e3, e4]
    rw [← Nat.mul_assoc] at e2
    generalize B64 ^ k * x * v = X0 at *
    generalize B64 ^ k * (x * v) = X1 at *
    generalize B64 ^ k * B64 * d = X2 at *
    generalize B64 ^ k * (B64 * d) = X3 at *
    generalize B64 ^ k * z = X4 at *
    generalize B64 ^ k * cy = X5 at *
    generalize B64 ^ k * l = X6 at *
    omega

theorem smul_any (g off n c : Nat) (zs : List Nat) (p : Option Addr) (m d : Nat) (ys : List Nat) (v : Nat) (w : World) (hz : Row w g off m zs) (hmn : m ≤ n) (hnc : n ≤ c) (_hbig : c ≤ 9223372036854775807)
    (ha : At w p m d ys) (hv : v < B64) (hap : ∀ g2 off2, 0 < m → p = some ⟨g2, off2, none⟩ → g2 ≠ g ∨ off2 + m ≤ off ∨ off + m ≤ off2) :
    Calls Try.prog 51 #[.slice (some ⟨g, off, none⟩) n c, .slice p m d, U v] w fun e w' =>
      ∃ cy zs', e = .returned (U cy) ∧ cy < B64 ∧ Wr g off m w w' ∧ Row w' g off m zs' ∧ valB B64 zs + B64 ^ m * cy = valB B64 zs' + valB B64 ys * v := by
  have hl := hz.len; have al := ha.len; have acap := ha.cap; have abig := ha.big
  unfold maxLen at abig
  go_enter Try.func51, Try.ntmps51
  go_wp2_with fail
  go_loopw [7, 8, 9, 10, 11, 18] (fun cv _ _ _ _ i wr => ∃ (k cy : Nat) (dk : List Nat), k ≤ m ∧ i = .int .i64 k ∧ cv = U cy ∧ SubMulRel w g off m zs ys v k cy dk wr) (fun _ _ _ _ _ i _ => m - (intOf i).toNat)
  case atStart => exact ⟨0, 0, zs, Nat.zero_le _, rfl, rfl, ⟨Wr.refl _ _ _ _, hz, rfl, B64_pos, by simp [valB]⟩⟩
  case round =>
    obtain ⟨k, cy, dk, hk, rfl, rfl, hR⟩ := hrel
    by_cases hlt : k < m
    · obtain ⟨g2, off2, rfl, hc2⟩ := ha.cells.resolve_left (by omega)
      obtain ⟨z, hzz⟩ : ∃ z, z = dk.getD k 0 := ⟨_, rfl⟩
      obtain ⟨x, hx⟩ : ∃ x, x = ys.getD k 0 := ⟨_, rfl⟩
      have hcz : wr.cell? ⟨g, off + k, none⟩ = some (U z) := by rw [hzz]; exact hR.row.cell k (by omega)
      have hfz : wr.frozen? ⟨g, off + k, none⟩ = false := hR.row.frozen k (by omega)
      have hcx : wr.cell? ⟨g2, off2 + k, none⟩ = some (U x) := by
        rw [hx, hR.wrs.cell g2 (off2 + k) (by have := hap g2 off2 (by omega) rfl; omega)]; exact hc2 k hlt
      have hzb : z < B64 := by rw [hzz]; exact hR.row.dig.getD B64_pos k
      have hxb : x < B64 := by rw [hx]; exact ha.dig.getD B64_pos k
      obtain ⟨hi, lo, hmul, em, hlo⟩ := mul64_ex x v hxb hv
      obtain ⟨l1, c1, hrun10, e1, hl1, hc1⟩ := add64_ex lo cy 0 hlo hR.car (by omega)
      obtain ⟨l2, c2, hrun20, e2, hl2, hc2'⟩ := sub64_ex z l1 0 hzb hl1 (by omega)
      obtain ⟨hfit0, hfit, hsum⟩ := smul_limb hxb hv hzb hR.car em e1 e2 hc2' hl2 hl1
      have hrun1 : ∀ w : World, (callFunc 49 #[U lo, U cy, .int .u64 0]).run Try.prog w = .ok (.value (.tuple #[U l1, U c1])) w := hrun10
      have hrun2 : ∀ w : World, (callFunc 52 #[U z, U l1, .int .u64 0]).run Try.prog w = .ok (.value (.tuple #[U l2, U c2])) w := hrun20
      have hf0 : hi + c1 ≤ 18446744073709551615 := by rw [B64_eq] at hfit0; omega
      have hf1 : hi + c1 + c2 ≤ 18446744073709551615 := by rw [B64_eq] at hfit; omega
      have HR : Hid (SubMulRel w g off m zs ys v k cy dk wr) := hR
      have HX : Hid (x = ys.getD k 0) := hx
      have HZ : Hid (z = dk.getD k 0) := hzz
      have HS : Hid (l2 + x * v + cy = z + B64 * (hi + c1 + c2)) := hsum
      have HM : Hid (∀ w : World, Calls Try.prog 57 #[U x, U v] w fun e w' => e = .returned (.tuple #[U hi, U lo]) ∧ w' = w) := hmul
      clear hR hx hzz hsum hmul hc2 hrun10 hrun20 em e1 e2 hc1 hc2'
      go_wp2_with (go_at_call 57; refine (HM.out _).mono ?_; rintro e w' ⟨rfl, hw⟩; obtain rfl := hw.symm; clear hw)
      go_roundw
      case rel => exact ⟨k + 1, hi + c1 + c2, dk.set k l2, by omega, by go_num, by go_num, HR.out.step hlt HZ.out HX.out HS.out hl2 hfit⟩
      case measure => simp [intOf]; omega
    · obtain rfl : k = m := by omega
      have HR : Hid (SubMulRel w g off k zs ys v k cy dk wr) := hR
      clear hR
      go_wp2_with fail
      go_ret
      have hh := HR.out
      have h1 := hh.sum
      have h2 := hh.row.len
      rw [List.take_of_length_le (by omega), List.take_of_length_le (by omega), List.take_of_length_le (by omega)] at h1
      exact ⟨cy, dk, rfl, hh.car, hh.wrs, hh.row, h1⟩
end Go.Proofs.Ytjhopiaeppgioaa
namespace Go.Proofs.Ytjhopiaeppgioaa
open Go.RowKit
set_option maxRecDepth 100000
set_option maxHeartbeats 0
theorem bits64 {y : Nat} (h : y < B64) : bitsN y ≤ 64 := by
  by_cases e : y = 0
  · subst e; simp [bitsN]
  · have h1 := bitsN_le y e
    have h2 : bitsN y - 1 < 64 := (Nat.pow_lt_pow_iff_right (by decide : 1 < 2)).1 (Nat.lt_of_le_of_lt h1 (by rw [B64_p] at h; exact h))
    omega
theorem split32 (v : Nat) : v / 4294967296 * 4294967296 + v % 4294967296 = v := by omega
theorem quo_unique {n q y r : Nat} (h : n = q * y + r) (hr : r < y) : q = n / y ∧ r = n % y := by
  have hy : 0 < y := by omega
  have h1 : n = r + y * q := by rw [h, Nat.mul_comm]; omega
  constructor
  · rw [h1, Nat.add_mul_div_left _ _ hy, Nat.div_eq_of_lt hr, Nat.zero_add]
  · rw [h1, Nat.add_mul_mod_self_left, Nat.mod_eq_of_lt hr]

theorem div64_big (hi lo y : Nat) (w : World) (hh : hi ≠ 0) (hhy : hi < y) (hyb : y < B64) (hlo : lo < B64) :
    Calls Try.prog 26 #[U hi, U lo, U y] w fun e w' => e = .returned (.tuple #[U ((hi * B64 + lo) / y), U ((hi * B64 + lo) % y)]) ∧ w' = w := by
  obtain ⟨s, hs⟩ : ∃ s, s + bitsN y = 64 := ⟨64 - bitsN y, by have := bits64 hyb; omega⟩
  have hy0 : y ≠ 0 := by omega
  have hs64 : s < 64 := by
    have : bitsN y ≠ 0 := by unfold bitsN; rw [if_neg hy0]; omega
    omega
  obtain ⟨nY, nY2⟩ := norm_y hy0 hs
  have hP := Nat.two_pow_pos s
  have hhs : hi * 2 ^ s < y * 2 ^ s := Nat.mul_lt_mul_of_pos_right hhy hP
  have hls := shrW_lt lo s (by omega) hlo
  have hlse := shrW_eq lo s (by omega)
  have hjoin : (hi * 2 ^ s + lo / 2 ^ (64 - s)) * B64 + shlW lo s = 2 ^ s * (hi * B64 + lo) := by
    have e1 := Nat.mod_add_div (lo * 2 ^ s) B64
    rw [hlse, Nat.add_mul, Nat.mul_add]
    unfold shlW
    have e2 : hi * 2 ^ s * B64 = 2 ^ s * (hi * B64) := by rw [Nat.mul_comm hi, Nat.mul_assoc]
    rw [e2, Nat.mul_comm (lo * 2 ^ s / B64), Nat.mul_comm (2 ^ s) lo]
    generalize B64 * (lo * 2 ^ s / B64) = X1 at *
    generalize lo * 2 ^ s % B64 = X2 at *
    generalize lo * 2 ^ s = X3 at *
    omega
  have huY : hi * 2 ^ s + lo / 2 ^ (64 - s) < y * 2 ^ s := by
    have e1 : (hi + 1) * 2 ^ s ≤ y * 2 ^ s := Nat.mul_le_mul_right _ hhy
    rw [Nat.add_mul, Nat.one_mul] at e1
    omega
  obtain ⟨Y, hY⟩ : ∃ Y, Y = y * 2 ^ s := ⟨_, rfl⟩
  obtain ⟨u, hu⟩ : ∃ u, u = hi * 2 ^ s + lo / 2 ^ (64 - s) := ⟨_, rfl⟩
  obtain ⟨v, hv⟩ : ∃ v, v = shlW lo s := ⟨_, rfl⟩
  have hvb : v < 18446744073709551616 := by rw [hv, ← B64_eq]; exact shlW_lt lo s
  rw [← hY] at nY nY2 huY
  rw [← hu] at huY hjoin
  rw [← hv] at hjoin
  have hsplitY := split32 Y
  have HC : KnC (Y / 4294967296) (Y % 4294967296) u (v / 4294967296) := ⟨by omega, by omega, by rw [hsplitY]; exact huY, by omega⟩
  have hin := Kn.init HC
  have hq := hin.le
  have hle := Nat.div_mul_le_self u (Y / 4294967296)
  have hml := Nat.mod_lt u (show 0 < Y / 4294967296 by omega)
  have hdm := Nat.div_add_mod u (Y / 4294967296)
  rw [Nat.mul_comm] at hdm
  have hub : u < 18446744073709551616 := by omega
  have eY : IntKind.u64.wrap ((y : Int) * 2 ^ s) = (Y : Int) := by
    rw [wrap_nat, hY]; unfold shlW; rw [Nat.mod_eq_of_lt (by rw [B64_eq, ← hY]; exact nY)]
  have ehs : IntKind.u64.wrap ((hi : Int) * 2 ^ s) = ((hi * 2 ^ s : Nat) : Int) := by
    rw [wrap_nat]; unfold shlW; rw [Nat.mod_eq_of_lt (by rw [B64_eq]; rw [← hY] at hhs; omega)]
  have eu : bits .or .u64 ((hi * 2 ^ s : Nat) : Int) ((lo / 2 ^ (64 - s) : Nat) : Int) = (u : Int) := by
    rw [walk_or _ _ (by rw [B64_eq]; rw [← hY] at hhs; omega) (by rw [B64_eq]; omega), Nat.mul_comm hi, or_low s _ _ hls, hu, Nat.mul_comm hi]
  refine (div64_walk hi lo y s Y (Y / 4294967296) (Y % 4294967296) (hi * 2 ^ s) (lo / 2 ^ (64 - s)) u v (v / 4294967296) (v % 4294967296) (u / (Y / 4294967296)) (u / (Y / 4294967296) * (Y / 4294967296)) (u - u / (Y / 4294967296) * (Y / 4294967296)) w
    (by simp; omega) (by simp; omega) hhy hyb hs hs64 eY (div32 Y) (and32 Y nY) ehs (div_nat lo (64 - s)) eu (by rw [wrap_nat, hv]) (div32 v) (and32 v hvb) (Int.natCast_ediv _ _).symm (Int.natCast_mul _ _).symm (by omega) hq (by omega) (by omega) (by omega) (by omega) (by omega) (by omega) (by omega)
    HC hin hsplitY.symm nY).mono ?_
  rintro e w' ⟨q1, q0, r1, r0, rfl, hw, k1, k0⟩
  refine ⟨?_, hw⟩
  have e1 := k1.eq
  have e0 := k0.eq
  have er := k0.rlt
  rw [hsplitY] at e1 e0 er
  have ej := kn_join e1 e0
  rw [split32 v, show (4294967296 : Nat) * 4294967296 = B64 from rfl, hjoin, hY] at ej
  rw [hY] at er
  obtain ⟨f1, f2⟩ := kn_scale hP ej er
  obtain ⟨g1, g2⟩ := quo_unique f1 f2
  have g3 : jq q1 q0 = (hi * B64 + lo) / y := g1
  rw [g3, g2]

theorem div64_any (hi lo y : Nat) (w : World) (hhy : hi < y) (hyb : y < B64) (hlo : lo < B64) :
    Calls Try.prog 26 #[U hi, U lo, U y] w fun e w' => e = .returned (.tuple #[U ((hi * B64 + lo) / y), U ((hi * B64 + lo) % y)]) ∧ ∃ r, w' = w.drewN r := by
  by_cases hh : hi = 0
  · subst hh
    rw [Nat.zero_mul, Nat.zero_add]
    exact div64_zero lo y w (by simp; omega) hlo
  · exact (div64_big hi lo y w hh hhy hyb hlo).mono fun e w' h => ⟨h.1, 0, h.2⟩
end Go.Proofs.Ytjhopiaeppgioaa
