import Derived.Test.YtkdpafliibclnaaDoorJ12
import Derived.Test.YtkdpafliibclnaaDoorJ8
namespace Go.Proofs.YtkdpafliibclnaaDoor
open Go.RowKit Go.Shelf
set_option maxRecDepth 20000
set_option maxHeartbeats 0
structure EQ7 (w : World) (B : Nat) (p : Option Addr) (n b : Nat) (X : List Nat) : Prop where
  addr : n = 0 ∨ p = some ⟨b, 0, none⟩
  pn : p = none → n = 0
  row : Row w b 0 n X
  ge : B ≤ b
  le : n ≤ 17592186044496
theorem EQ7.lt {w : World} {B : Nat} {p : Option Addr} {n b : Nat} {X : List Nat} (h : EQ7 w B p n b X) (h0 : n ≠ 0) : b < w.heap.size := row_lt7 h.row h0
theorem Row.belowQ {w w' : World} {g n : Nat} {xs : List Nat} (h : Row w g 0 n xs) (hb : Below w.heap.size w w') : Row w' g 0 n xs :=
  ⟨h.len, h.dig, fun j hj => (hb.cell (p := ⟨g, 0 + j, none⟩) (World.block_lt_of_cell? w _ (h.cell j hj))).trans (h.cell j hj), fun j hj => (hb.frozen (p := ⟨g, 0 + j, none⟩) (World.block_lt_of_cell? w _ (h.cell j hj))).trans (h.frozen j hj)⟩
theorem EQ7.below {w w' : World} {B : Nat} {p : Option Addr} {n b : Nat} {X : List Nat} (h : EQ7 w B p n b X) (hb : Below w.heap.size w w') : EQ7 w' B p n b X := ⟨h.addr, h.pn, h.row.belowQ hb, h.ge, h.le⟩
theorem eq_own7 {w : World} {B B1 : Nat} {p : Option Addr} {m : Nat} {zs : List Nat} (h : Own B1 w p m zs) (hB : B ≤ B1) (hm : m ≤ 8192) : ∃ b, EQ7 w B p m b zs ∧ (m ≠ 0 → B1 ≤ b ∧ b < w.heap.size) := by
  by_cases h0 : m = 0
  · subst h0
    exact ⟨B, ⟨.inl rfl, fun _ => rfl, ⟨h.len, h.dig, fun j hj => by omega, fun j hj => by omega⟩, Nat.le_refl _, by omega⟩, fun h => absurd rfl h⟩
  · obtain ⟨g, e, hg, hr⟩ := h.mem.resolve_left h0
    exact ⟨g, ⟨.inr e, fun hp => (by rw [e] at hp; cases hp), hr, by omega, by omega⟩, fun _ => ⟨hg, row_lt7 hr h0⟩⟩
structure EN7 where
  p : Option Addr
  n : Nat
  b : Nat
  X : List Nat
def enD7 : EN7 := ⟨none, 0, 0, []⟩
theorem lq_list {w : World} {B go : Nat} (es : List EN7) (h : ∀ e ∈ es, EQ7 w B e.p e.n e.b e.X) (hc : ∀ i, i < es.length → w.cell? ⟨go, i, none⟩ = some (.slice (es.getD i enD7).p (es.getD i enD7).n (es.getD i enD7).n))
    (hlt : ∀ e ∈ es, e.n ≠ 0 → e.b ≠ go) (hd : es.Pairwise (fun a b => a.n ≠ 0 → b.n ≠ 0 → a.b ≠ b.b)) :
    LQ w B go 0 es.length (fun i => (es.getD i enD7).p) (fun i => (es.getD i enD7).n) (fun i => (es.getD i enD7).b) (fun i => (es.getD i enD7).X) := by
  have hg : ∀ i, (hi : i < es.length) → es.getD i enD7 = es[i] := fun i hi => by rw [List.getD_eq_getElem?_getD, List.getElem?_eq_getElem hi]; rfl
  have he : ∀ i, i < es.length → EQ7 w B (es.getD i enD7).p (es.getD i enD7).n (es.getD i enD7).b (es.getD i enD7).X := fun i hi => by rw [hg i hi]; exact h _ (List.getElem_mem hi)
  have hp := List.pairwise_iff_getElem.1 hd
  refine ⟨fun i hi => by rw [Nat.zero_add]; exact hc i hi, fun i hi => (he i hi).addr, fun i hi => (he i hi).pn, fun i hi => (he i hi).row, fun i hi => (he i hi).ge, fun i hi => (he i hi).le, fun i hi => ?_, fun i j hi hj hne h1 h2 => ?_⟩
  · show (es.getD i enD7).n ≠ 0 → (es.getD i enD7).b ≠ go
    rw [hg i hi]; exact hlt _ (List.getElem_mem hi)
  · simp only [hg i hi, hg j hj] at h1 h2 ⊢
    rcases Nat.lt_or_ge i j with h3 | h3
    · exact hp i j hi hj h3 h1 h2
    · exact fun e => hp j i hj hi (by omega) h2 h1 e.symm
theorem iv7 {a b l h l2 h2 : Nat} (H1 : l ≤ a ∧ a < h) (H2 : l2 ≤ b ∧ b < h2) (h3 : h ≤ l2) : a ≠ b := by omega
theorem Row.keepQ {w w' : World} {g n : Nat} {xs : List Nat} (h : Row w g 0 n xs) (hb : n ≠ 0 → w'.heap[g]? = w.heap[g]?) : Row w' g 0 n xs :=
  ⟨h.len, h.dig, fun j hj => (World.cell?_of_block (w := w) (hb (by omega))).trans (h.cell j hj), fun j hj => (World.frozen?_of_block (w := w) (hb (by omega))).trans (h.frozen j hj)⟩
theorem EQ7.keep {w w' : World} {B : Nat} {p : Option Addr} {n b : Nat} {X : List Nat} (h : EQ7 w B p n b X) (hb : n ≠ 0 → w'.heap[b]? = w.heap[b]?) : EQ7 w' B p n b X := ⟨h.addr, h.pn, h.row.keepQ hb, h.ge, h.le⟩
theorem EQ7.at_ {w : World} {B : Nat} {p : Option Addr} {n b : Nat} {X : List Nat} (h : EQ7 w B p n b X) : At w p n n X := by
  refine ⟨h.row.len, Nat.le_refl _, by have := h.le; unfold maxLen; omega, h.row.dig, ?_⟩
  rcases h.addr with h0 | h0
  · exact .inl h0
  · exact .inr ⟨b, 0, h0, h.row.cell⟩
structure WA7 (w : World) (p : Option Addr) (n c b : Nat) (xs : List Nat) : Prop where
  at_ : At w p n c xs
  blk : n ≠ 0 → p = some ⟨b, 0, none⟩
theorem WA7.below {w w' : World} {p : Option Addr} {n c b : Nat} {xs : List Nat} (h : WA7 w p n c b xs) (hb : Below w.heap.size w w') : WA7 w' p n c b xs := ⟨h.at_.below hb, h.blk⟩
theorem WA7.lt {w : World} {p : Option Addr} {n c b : Nat} {xs : List Nat} (h : WA7 w p n c b xs) (h0 : n ≠ 0) : b < w.heap.size := by
  obtain ⟨g', off, e, hc⟩ := h.at_.cells.resolve_left h0
  rw [h.blk h0] at e
  simp only [Option.some.injEq, Addr.mk.injEq, and_true] at e
  obtain ⟨rfl, rfl⟩ := e
  exact World.block_lt_of_cell? w _ (hc 0 (by omega))
theorem WA7.keep {w w' : World} {p : Option Addr} {n c b : Nat} {xs : List Nat} (h : WA7 w p n c b xs) (hb : n ≠ 0 → w'.heap[b]? = w.heap[b]?) : WA7 w' p n c b xs := by
  refine ⟨⟨h.at_.len, h.at_.cap, h.at_.big, h.at_.dig, ?_⟩, h.blk⟩
  rcases h.at_.cells with h0 | ⟨g', off, e, hc⟩
  · exact .inl h0
  · by_cases h0 : n = 0
    · exact .inl h0
    · have e2 := e
      rw [h.blk h0] at e2
      simp only [Option.some.injEq, Addr.mk.injEq, and_true] at e2
      obtain ⟨rfl, rfl⟩ := e2
      exact .inr ⟨b, 0, e, fun j hj => (World.cell?_of_block (w := w) (hb h0)).trans (hc j hj)⟩
def MK : Nat := 11944390636716687360
def spl (xs : List Nat) : List Nat := xs ++ (List.range 80).map (fun j => MK + (xs.length + j))
theorem spl_len (xs : List Nat) : (spl xs).length = xs.length + 80 := by simp [spl]
theorem spl_lo {xs : List Nat} {i : Nat} (h : i < xs.length) : (spl xs).getD i 0 = xs.getD i 0 := by
  unfold spl
  rw [List.getD_eq_getElem?_getD, List.getElem?_append_left h, ← List.getD_eq_getElem?_getD]
theorem spl_hi {xs : List Nat} {i : Nat} (h : xs.length ≤ i) (h2 : i < xs.length + 80) : (spl xs).getD i 0 = MK + i := by
  unfold spl
  rw [List.getD_eq_getElem?_getD, List.getElem?_append_right h, List.getElem?_map, List.getElem?_range (by omega)]
  show MK + (xs.length + (i - xs.length)) = MK + i
  omega
theorem spl_eq {xs zs : List Nat} (hl : zs.length = xs.length + 80) (h1 : ∀ i, i < xs.length → zs.getD i 0 = xs.getD i 0) (h2 : ∀ i, xs.length ≤ i → i < xs.length + 80 → zs.getD i 0 = MK + i) : zs = spl xs := by
  refine List.ext_getElem (by rw [hl, spl_len]) fun i hi1 hi2 => ?_
  have e : zs.getD i 0 = (spl xs).getD i 0 := by
    rcases Nat.lt_or_ge i xs.length with h | h
    · rw [h1 i h, spl_lo h]
    · rw [h2 i h (by omega), spl_hi h (by omega)]
  rw [List.getD_eq_getElem?_getD, List.getD_eq_getElem?_getD, List.getElem?_eq_getElem hi1, List.getElem?_eq_getElem hi2] at e
  exact e
theorem mark_m1 (j : Nat) (hj : j < 1000000000000000000) {w : World} :
    Calls Tryd.prog 38 #[.int .i64 (-1), .int .i64 j] w fun en w' => en = .returned (U (MK + j)) ∧ w' = w := by
  have h1 : IntKind.u64.wrap (j : Int) = (j : Int) := by rw [IntKind.wrap_u64]; omega
  have h2 : IntKind.u64.wrap (11944390636716687360 + (j : Int)) = ((MK + j : Nat) : Int) := by rw [IntKind.wrap_u64]; unfold MK; omega
  clear hj
  go_enter Tryd.func38, Tryd.ntmps38
  go_wp2_with fail
  go_ret
  exact ⟨rfl, rfl⟩
theorem spare_ok {p : Option Addr} {n c : Nat} {xs : List Nat} {w : World} (h : At w p n c xs) (hn : n ≤ 17592186044416) :
    Calls Tryd.prog 13 #[.slice p n c] w fun en w' => ∃ g, en = .returned (.tuple #[.slice (some ⟨g, 0, none⟩) n (n + 80), .slice (some ⟨g, 0, none⟩) (n + 80) (n + 80)]) ∧ w.heap.size ≤ g ∧ Row w' g 0 (n + 80) (spl xs) ∧ Below w.heap.size w w' := by
  obtain ⟨i0, hi, hz0, hz1, hz2⟩ := info_parts Tryd.infoU64
  have hl := h.len
  have HX : Hid (At w p n c xs) := h
  have cap := h.cap; have big := h.big
  unfold maxLen at big
  have wn : wrap64 ((n : Int) + 80) = ((n + 80 : Nat) : Int) := by simp only [wrap64]; omega
  go_enter Tryd.func13, Tryd.ntmps13
  go_wp2_with (first
    | (at_make; refine wpList_make_full _ rfl _ _ 24 rfl w.heap.size 23 i0 (.int .u64 0) 1 Tryd.underlying24 hi hz0 hz1 _ _ _ _ (n + 80) rfl rfl (by omega) (by omega) (by rw [hz2]; omega) (by unfold maxLen; omega) (Nat.le_refl _) ?_; intro w1 hown hgrow; have hb := made_blk hown hgrow; clear hown hgrow)
    | (refine wpList_copy_splice rfl (.tmp 10) (.tmp 11) 24 24 rfl 23 Tryd.underlying24 Tryd.sizeU64 (some ⟨w.heap.size, 0, none⟩) p (n + 80) (n + 80) n c rfl rfl w.heap.size 0 (cellsU (List.replicate (n + 80) 0)) 23 hb.1 (cellsU xs) (by rw [cellsU_length, hl]; exact (Nat.min_eq_left (by omega)).symm) (fun h0 => ⟨rfl, (h.below hb.2).src (by rw [cellsU_length] at h0; omega)⟩) (by simp [cellsU_length]; omega) (cellsU_one xs) w.heap.size w hb.2 (Nat.le_refl _) ?_; intro w2 hg2 hb2))
  rw [splice_cellsU, hl, show n + 80 - n = 80 by omega] at hg2
  have hR : Row w2 w.heap.size 0 (n + 80) (xs ++ List.replicate 80 0) := by have h1 := Blk.row hg2 (h.dig.append (Dig.replicate _ _ B64_pos)); rw [List.length_append, List.length_replicate, hl] at h1; exact h1
  have RW : Hid (Row w2 w.heap.size 0 (n + 80) (xs ++ List.replicate 80 0)) := hR
  have hbw := hb2
  obtain ⟨g, hg⟩ : ∃ g, g = w.heap.size := ⟨_, rfl⟩
  have HG : Hid (w.heap.size ≤ g) := by rw [hg]; exact Nat.le_refl _
  rw [← hg] at RW
  rw [← hg]
  clear hR hg2 hb2 hb hg h wn
  go_loopg [5] 80 (fun gk jv wr => ∃ (j : Nat) (zs : List Nat), j + gk = n + 80 ∧ n ≤ j ∧ jv = .int .i64 j ∧ Row wr g 0 (n + 80) zs ∧ ((∀ i, i < n → zs.getD i 0 = xs.getD i 0) ∧ ∀ i, n ≤ i → i < j → zs.getD i 0 = MK + i) ∧ Below w.heap.size w wr)
  case atStart => exact ⟨n, _, by omega, Nat.le_refl _, rfl, RW.out, ⟨fun i hi => by rw [List.getD_eq_getElem?_getD, List.getElem?_append_left (by omega), ← List.getD_eq_getElem?_getD], fun i h1 h2 => by omega⟩, hbw⟩
  case round =>
    obtain ⟨j, zs, hjg, hnj, rfl, xr, xz, hbr⟩ := hrel
    clear RW hbw
    have RW : Hid (Row wr g 0 (n + 80) zs) := xr
    have HZ : Hid ((∀ i, i < n → zs.getD i 0 = xs.getD i 0) ∧ ∀ i, n ≤ i → i < j → zs.getD i 0 = MK + i) := xz
    have hbw := hbr
    clear xr xz hbr
    cases gk with
    | zero =>
      obtain rfl : j = n + 80 := by omega
      have hnk : ¬ ((n + 80 : Nat) : Int) < ((n + 80 : Nat) : Int) := by omega
      have hs1 : (0 : Int) ≤ (n : Int) ∧ (n : Int) ≤ ((n + 80 : Nat) : Int) := by omega
      have hs2 : ¬ ((n + 80 : Nat) : Int) < (n : Int) := by omega
      go_wp2_with fail
      go_ret2
      have e := spl_eq (xs := xs) (zs := zs) (by rw [hl]; exact RW.out.len) (by rw [hl]; exact HZ.out.1) (by rw [hl]; exact HZ.out.2)
      rw [← e]
      exact ⟨g, rfl, HG.out, RW.out, hbw⟩
    | succ gg =>
      have hjl : (j : Int) < ((n + 80 : Nat) : Int) := by omega
      have hj2 : (0 : Int) ≤ (j : Int) ∧ (j : Int) < ((n + 80 : Nat) : Int) := by omega
      have hj3 : (0 : Int) ≤ (j : Int) ∧ (j : Int) < (n : Int) + 80 := by omega
      have hcl := RW.out.cell j (by omega)
      have hfr := RW.out.frozen j (by omega)
      rw [Nat.zero_add] at hcl hfr
      have wj : wrap64 ((j : Int) + 1) = ((j + 1 : Nat) : Int) := by simp only [wrap64]; omega
      go_wp2_with fail
      refine (mark_m1 j (by omega)).mono ?_
      rintro e w' ⟨rfl, hw⟩
      obtain rfl := hw.symm
      clear hw
      go_wp2_with fail
      go_roundg gg
      case measure => omega
      case rel =>
        have hR2 := RW.out.set j (MK + j) (by omega) (by unfold MK; show _ < 18446744073709551616; omega)
        rw [Nat.zero_add] at hR2
        refine ⟨j + 1, zs.set j (MK + j), by omega, by omega, by go_num, hR2, ⟨fun i h1 => ?_, fun i h1 h2 => ?_⟩, bSet hbw _ _ _ HG.out⟩
        · rw [getD_set _ _ _ _ (by rw [RW.out.len]; omega), if_neg (by omega)]; exact HZ.out.1 i h1
        · rw [getD_set _ _ _ _ (by rw [RW.out.len]; omega)]
          by_cases e : i = j
          · rw [if_pos e, e]
          · rw [if_neg e]; exact HZ.out.2 i h1 (by omega)
theorem kept_ok {p : Option Addr} {n c g : Nat} {xs : List Nat} {w : World} (h : At w p n c xs) (k : At w (some ⟨g, 0, none⟩) (n + 80) (n + 80) (spl xs)) (hn : n ≤ 17592186044416) :
    Calls Tryd.prog 15 #[.slice (some ⟨g, 0, none⟩) (n + 80) (n + 80), .slice p n c] w fun en w' => en = .returned (.bool true) ∧ Below w.heap.size w w' := by
  have HX : Hid (At w p n c xs) := h
  have HK : Hid (At w (some ⟨g, 0, none⟩) (n + 80) (n + 80) (spl xs)) := k
  have HL : Hid (xs.length = n) := h.len
  have cap := h.cap; have big := h.big
  unfold maxLen at big
  have wn : wrap64 ((n : Int) + 80) = ((n + 80 : Nat) : Int) := by simp only [wrap64]; omega
  clear h k
  go_enter Tryd.func15, Tryd.ntmps15
  go_wp2_with fail
  clear wn
  go_loopg [5] (n + 80) (fun gk jv wr => ∃ (j : Nat), j + gk = n + 80 ∧ jv = .int .i64 j ∧ Below w.heap.size w wr)
  case atStart => exact ⟨0, by omega, rfl, Below.refl _ _⟩
  case round =>
    obtain ⟨j, hjg, rfl, hbw⟩ := hrel
    cases gk with
    | zero =>
      obtain rfl : j = n + 80 := by omega
      have hnk : ¬ ((n + 80 : Nat) : Int) < ((n + 80 : Nat) : Int) := by omega
      go_wp2_with fail
      go_ret
      exact ⟨rfl, hbw⟩
    | succ gg =>
      have hjl : (j : Int) < ((n + 80 : Nat) : Int) := by omega
      have hj2 : (0 : Int) ≤ (j : Int) ∧ (j : Int) < ((n + 80 : Nat) : Int) := by omega
      have hj3 : (0 : Int) ≤ (j : Int) ∧ (j : Int) < (n : Int) + 80 := by omega
      have wj : wrap64 ((j : Int) + 1) = ((j + 1 : Nat) : Int) := by simp only [wrap64]; omega
      have hcf : w.cell? ⟨g, j, none⟩ = some (U ((spl xs).getD j 0)) := by rcases HK.out.cells with h0 | ⟨g', o', h1, h2⟩; omega; simp only [Option.some.injEq, Addr.mk.injEq, and_true] at h1; obtain ⟨rfl, rfl⟩ := h1; have h3 := h2 j (by omega); rw [Nat.zero_add] at h3; exact h3
      have HCF : Hid (w.cell? ⟨g, j, none⟩ = some (U ((spl xs).getD j 0))) := hcf
      clear hcf
      by_cases hjn : j < n
      · have hs := spl_lo (xs := xs) (i := j) (by rw [HL.out]; exact hjn)
        obtain ⟨ga, oa, rfl, hca⟩ := HX.out.cells.resolve_left (by omega)
        have HCA : Hid (w.cell? ⟨ga, oa + j, none⟩ = some (U (xs.getD j 0))) := hca j hjn
        rw [hs] at HCF
        obtain ⟨x, hx⟩ : ∃ x, x = xs.getD j 0 := ⟨_, rfl⟩
        rw [← hx] at HCF HCA
        have hj5 : (j : Int) < (n : Int) := by omega
        have hj6 : (0 : Int) ≤ (j : Int) ∧ (j : Int) < (n : Int) := by omega
        have dd1 : decide ((j : Int) < (n : Int)) = true := decide_eq_true hj5
        have dd2 : decide ((n : Int) ≤ (j : Int)) = false := decide_eq_false (by omega)
        have dd3 : decide (j < n) = true := decide_eq_true hjn
        have dd4 : decide (n ≤ j) = false := decide_eq_false (by omega)
        clear hs hca hx
        go_wp2_with fail
        obtain ⟨W1, hW1⟩ : ∃ W1, W1 = wr.drew := ⟨_, rfl⟩
        have hbd : Below wr.heap.size wr W1 := by rw [hW1]; exact bDrew1 (Below.refl _ _)
        replace hbw := Below.on hbw hbd
        clear hbd
        have HJ : Hid ((fun W' : World => W'.cell? ⟨g, j, none⟩ = some (U x) ∧ W'.cell? ⟨ga, oa + j, none⟩ = some (U x)) W1) := ⟨((hbw.cell (p := ⟨g, j, none⟩) (World.block_lt_of_cell? w _ HCF.out)).trans HCF.out), ((hbw.cell (p := ⟨ga, oa + j, none⟩) (World.block_lt_of_cell? w _ HCA.out)).trans HCA.out)⟩
        refine wp_region_J (fun W' => W'.cell? ⟨g, j, none⟩ = some (U x) ∧ W'.cell? ⟨ga, oa + j, none⟩ = some (U x)) (by kernel_rfl) ?_
        rw [← hW1]
        clear hW1
        refine wpJ_tq 0 rfl HJ.out ?_
        refine wpJ_tq 1 rfl HJ.out ?_
        refine wpJ_tq 2 rfl HJ.out ?_
        refine wpJ_tq 3 rfl HJ.out ?_
        refine wpJ_tq 4 rfl HJ.out ?_
        go_simp
        refine wpJ_tq 5 rfl HJ.out ?_
        refine wpJ_tq 6 rfl HJ.out ?_
        refine wpJ_tq 7 rfl HJ.out ?_
        refine wpJ_tq 8 rfl HJ.out ?_
        refine wpJ_tq 9 rfl HJ.out ?_
        go_simp
        refine wpJ_tq 10 rfl HJ.out ?_
        refine wpJ_tq 11 rfl HJ.out ?_
        refine wpJ_tq 12 rfl HJ.out ?_
        refine wpJ_tq 13 rfl HJ.out ?_
        refine wpJ_tq 14 rfl HJ.out ?_
        go_simp
        refine wpJ_tq 15 rfl HJ.out ?_
        refine wpJ_tq 16 rfl HJ.out ?_
        refine wpJ_tq 17 rfl HJ.out ?_
        refine wpJ_tq 18 rfl HJ.out ?_
        refine wpJ_tq 19 rfl HJ.out ?_
        go_simp
        refine wpJ_tq 20 rfl HJ.out ?_
        refine wpJ_sk 21 rfl HJ.out ?_
        refine wpJ_sk 22 rfl HJ.out ?_
        refine wpJ_sk 23 rfl HJ.out ?_
        refine wpJ_sk 24 rfl HJ.out ?_
        go_simp
        refine wpJ_sk 25 rfl HJ.out ?_
        refine wpJ_sk 26 rfl HJ.out ?_
        refine wpJ_sk 27 rfl HJ.out ?_
        refine wpJ_tq 28 rfl HJ.out ?_
        refine wpJ_tq 29 rfl HJ.out ?_
        refine wpJ_done (by kernel_rfl) ?_ _
        clear HJ
        clear dd1 dd2 dd3 dd4
        go_wp2_with fail
        go_roundg gg
        case measure => omega
        case rel => exact ⟨j + 1, by omega, by go_num, hbw⟩
      · have hs := spl_hi (xs := xs) (i := j) (by rw [HL.out]; omega) (by rw [HL.out]; omega)
        rw [hs] at HCF
        obtain ⟨x, hx⟩ : ∃ x, x = MK + j := ⟨_, rfl⟩
        rw [← hx] at HCF
        have HXX : Hid (x = MK + j) := hx
        have dd1 : decide ((j : Int) < (n : Int)) = false := decide_eq_false (by omega)
        have dd2 : decide ((n : Int) ≤ (j : Int)) = true := decide_eq_true (by omega)
        have dd3 : decide (j < n) = false := decide_eq_false (by omega)
        have dd4 : decide (n ≤ j) = true := decide_eq_true (by omega)
        clear hs hx
        go_wp2_with fail
        obtain ⟨W1, hW1⟩ : ∃ W1, W1 = wr.drew := ⟨_, rfl⟩
        have hbd : Below wr.heap.size wr W1 := by rw [hW1]; exact bDrew1 (Below.refl _ _)
        replace hbw := Below.on hbw hbd
        clear hbd
        have HJ : Hid ((fun W' : World => W'.cell? ⟨g, j, none⟩ = some (U x)) W1) := ((hbw.cell (p := ⟨g, j, none⟩) (World.block_lt_of_cell? w _ HCF.out)).trans HCF.out)
        refine wp_region_J (fun W' => W'.cell? ⟨g, j, none⟩ = some (U x)) (by kernel_rfl) ?_
        rw [← hW1]
        clear hW1
        refine wpJ_tk 0 (v := ?v24x0) rfl ?hy24x0 HJ.out ?_
        case hy24x0 => (intro W' hJ; have j0 := hJ; go_simp; first | done | with_reducible rfl)
        refine wpJ_tk 1 (v := ?v25x1) rfl ?hy25x1 HJ.out ?_
        case hy25x1 => (intro W' hJ; have j0 := hJ; go_simp; first | done | with_reducible rfl)
        refine wpJ_tk 2 (v := ?v26x2) rfl ?hy26x2 HJ.out ?_
        case hy26x2 => (intro W' hJ; have j0 := hJ; go_simp; first | done | with_reducible rfl)
        refine wpJ_tk 3 (v := ?v27x3) rfl ?hy27x3 HJ.out ?_
        case hy27x3 => (intro W' hJ; have j0 := hJ; go_simp; first | done | with_reducible rfl)
        refine wpJ_tk 4 (v := ?v28x4) rfl ?hy28x4 HJ.out ?_
        case hy28x4 => (intro W' hJ; have j0 := hJ; go_simp; first | done | with_reducible rfl)
        go_simp
        refine wpJ_sk 5 rfl HJ.out ?_
        refine wpJ_sk 6 rfl HJ.out ?_
        refine wpJ_sk 7 rfl HJ.out ?_
        refine wpJ_sk 8 rfl HJ.out ?_
        refine wpJ_sk 9 rfl HJ.out ?_
        go_simp
        refine wpJ_sk 10 rfl HJ.out ?_
        refine wpJ_sk 11 rfl HJ.out ?_
        refine wpJ_sk 12 rfl HJ.out ?_
        refine wpJ_sk 13 rfl HJ.out ?_
        refine wpJ_tk 14 (v := ?v29x14) rfl ?hy29x14 HJ.out ?_
        case hy29x14 => (intro W' hJ; have j0 := hJ; go_simp; first | done | with_reducible rfl)
        go_simp
        refine wpJ_tk 15 (v := ?v30x15) rfl ?hy30x15 HJ.out ?_
        case hy30x15 => (intro W' hJ; have j0 := hJ; go_simp; first | done | with_reducible rfl)
        refine wpJ_tk 16 (v := ?v31x16) rfl ?hy31x16 HJ.out ?_
        case hy31x16 => (intro W' hJ; have j0 := hJ; go_simp; first | done | with_reducible rfl)
        refine wpJ_tk 17 (v := ?v32x17) rfl ?hy32x17 HJ.out ?_
        case hy32x17 => (intro W' hJ; have j0 := hJ; go_simp; first | done | with_reducible rfl)
        refine wpJ_tk 18 (v := ?v33x18) rfl ?hy33x18 HJ.out ?_
        case hy33x18 => (intro W' hJ; have j0 := hJ; go_simp; first | done | with_reducible rfl)
        refine wpJ_tk 19 (v := ?v34x19) rfl ?hy34x19 HJ.out ?_
        case hy34x19 => (intro W' hJ; have j0 := hJ; go_simp; first | done | with_reducible rfl)
        go_simp
        refine wpJ_tk 20 (v := ?v35x20) rfl ?hy35x20 HJ.out ?_
        case hy35x20 => (intro W' hJ; have j0 := hJ; go_simp; first | done | with_reducible rfl)
        refine wpJ_tk 21 (v := ?v36x21) rfl ?hy36x21 HJ.out ?_
        case hy36x21 => (intro W' hJ; have j0 := hJ; go_simp; first | done | with_reducible rfl)
        refine wpJ_tk 22 (v := ?v37x22) rfl ?hy37x22 HJ.out ?_
        case hy37x22 => (intro W' hJ; have j0 := hJ; go_simp; first | done | with_reducible rfl)
        refine wpJ_tk 23 (v := ?v38x23) rfl ?hy38x23 HJ.out ?_
        case hy38x23 => (intro W' hJ; have j0 := hJ; go_simp; first | done | with_reducible rfl)
        refine wpJ_tk 24 (v := ?v39x24) rfl ?hy39x24 HJ.out ?_
        case hy39x24 => (intro W' hJ; have j0 := hJ; go_simp; first | done | with_reducible rfl)
        go_simp
        refine wpJ_tk 25 (v := ?v40x25) rfl ?hy40x25 HJ.out ?_
        case hy40x25 => (intro W' hJ; have j0 := hJ; go_simp; first | done | with_reducible rfl)
        refine wpJ_on 26 rfl fun KJ hK => ?_
        go_simp
        refine (mark_m1 j (by omega)).mono ?_
        rintro e w' ⟨rfl, hw⟩
        obtain rfl := hw.symm
        clear hw
        rw [← HXX.out]
        clear HJ
        have HJ : Hid ((fun W' : World => W'.cell? ⟨g, j, none⟩ = some (U x)) W1) := ((hbw.cell (p := ⟨g, j, none⟩) (World.block_lt_of_cell? w _ HCF.out)).trans HCF.out)
        refine hK _ _ HJ.out ?_
        clear hK
        refine wpJ_tk 27 (v := ?v41x27) rfl ?hy41x27 HJ.out ?_
        case hy41x27 => (intro W' hJ; have j0 := hJ; go_simp; first | done | with_reducible rfl)
        refine wpJ_tk 28 (v := ?v42x28) rfl ?hy42x28 HJ.out ?_
        case hy42x28 => (intro W' hJ; have j0 := hJ; go_simp; first | done | with_reducible rfl)
        refine wpJ_tk 29 (v := ?v43x29) rfl ?hy43x29 HJ.out ?_
        case hy43x29 => (intro W' hJ; have j0 := hJ; go_simp; first | done | with_reducible rfl)
        refine wpJ_done (by kernel_rfl) ?_ _
        clear HJ
        clear dd1 dd2 dd3 dd4
        go_wp2_with fail
        go_roundg gg
        case measure => omega
        case rel => exact ⟨j + 1, by omega, by go_num, hbw⟩
structure B5q (W : World) (g : Nat) (v0 v1 v2 v3 v4 : Value) : Prop where
  c0 : W.cell? ⟨g, 0, none⟩ = some v0
  c1 : W.cell? ⟨g, 1, none⟩ = some v1
  c2 : W.cell? ⟨g, 2, none⟩ = some v2
  c3 : W.cell? ⟨g, 3, none⟩ = some v3
  c4 : W.cell? ⟨g, 4, none⟩ = some v4
  f0 : W.frozen? ⟨g, 0, none⟩ = false
  f1 : W.frozen? ⟨g, 1, none⟩ = false
  f2 : W.frozen? ⟨g, 2, none⟩ = false
  f3 : W.frozen? ⟨g, 3, none⟩ = false
  f4 : W.frozen? ⟨g, 4, none⟩ = false
theorem B5q.below {W W' : World} {g : Nat} {v0 v1 v2 v3 v4 : Value} (h : B5q W g v0 v1 v2 v3 v4) (hb : Below W.heap.size W W') : B5q W' g v0 v1 v2 v3 v4 := by
  have hl : g < W.heap.size := World.block_lt_of_cell? W _ h.c0
  exact ⟨(hb.cell (p := ⟨g, 0, none⟩) hl).trans h.c0, (hb.cell (p := ⟨g, 1, none⟩) hl).trans h.c1, (hb.cell (p := ⟨g, 2, none⟩) hl).trans h.c2, (hb.cell (p := ⟨g, 3, none⟩) hl).trans h.c3, (hb.cell (p := ⟨g, 4, none⟩) hl).trans h.c4,
    (hb.frozen (p := ⟨g, 0, none⟩) hl).trans h.f0, (hb.frozen (p := ⟨g, 1, none⟩) hl).trans h.f1, (hb.frozen (p := ⟨g, 2, none⟩) hl).trans h.f2, (hb.frozen (p := ⟨g, 3, none⟩) hl).trans h.f3, (hb.frozen (p := ⟨g, 4, none⟩) hl).trans h.f4⟩
theorem B5q.new (w : World) (ty : TypeId) (v0 v1 v2 v3 v4 : Value) : B5q (w.alloc (.cells #[v0, v1, v2, v3, v4] ty)) w.heap.size v0 v1 v2 v3 v4 :=
  ⟨by go_simp, by go_simp, by go_simp, by go_simp, by go_simp, by go_simp, by go_simp, by go_simp, by go_simp, by go_simp⟩
theorem B5q.lt {W : World} {g : Nat} {v0 v1 v2 v3 v4 : Value} (h : B5q W g v0 v1 v2 v3 v4) : g < W.heap.size := World.block_lt_of_cell? W _ h.c0
structure SR (w : World) (B g n : Nat) (zs : List Nat) : Prop where
  row : Row w g 0 (n + 80) (spl zs)
  len : zs.length = n
  ge : B ≤ g
  dig : Dig B64 zs
theorem SR.below {w w' : World} {B g n : Nat} {zs : List Nat} (h : SR w B g n zs) (hb : Below w.heap.size w w') : SR w' B g n zs := ⟨h.row.belowQ hb, h.len, h.ge, h.dig⟩
theorem SR.keep {w w' : World} {B g n : Nat} {zs : List Nat} (h : SR w B g n zs) (hb : w'.heap[g]? = w.heap[g]?) : SR w' B g n zs := ⟨h.row.keepQ (fun _ => hb), h.len, h.ge, h.dig⟩
theorem SR.lt {w : World} {B g n : Nat} {zs : List Nat} (h : SR w B g n zs) : g < w.heap.size := row_lt7 h.row (by omega)
theorem SR.at_ {w : World} {B g n : Nat} {zs : List Nat} (h : SR w B g n zs) (hn : n ≤ 17592186044416) : At w (some ⟨g, 0, none⟩) n (n + 80) zs :=
  ⟨h.len, by omega, by unfold maxLen; omega, h.dig, .inr ⟨g, 0, rfl, fun j hj => by rw [h.row.cell j (by omega), spl_lo (by rw [h.len]; exact hj)]⟩⟩
theorem SR.full {w : World} {B g n : Nat} {zs : List Nat} (h : SR w B g n zs) (hn : n ≤ 17592186044416) : At w (some ⟨g, 0, none⟩) (n + 80) (n + 80) (spl zs) := h.row.at_ (Nat.le_refl _) (by unfold maxLen; omega)
theorem spl_set {zs : List Nat} {i y : Nat} (h : i < zs.length) : (spl zs).set i y = spl (zs.set i y) := by
  unfold spl
  rw [List.set_append_left _ _ h, List.length_set]
theorem SR.set {w : World} {B g n : Nat} {zs : List Nat} (h : SR w B g n zs) {i y : Nat} (hi : i < n) (hy : y < B64) : SR (w.setCell ⟨g, i, none⟩ (U y)) B g n (zs.set i y) := by
  have h1 := h.row.set i y (by omega) hy
  rw [Nat.zero_add, spl_set (by rw [h.len]; exact hi)] at h1
  refine ⟨h1, by rw [List.length_set]; exact h.len, h.ge, fun x hx => ?_⟩
  rcases List.mem_or_eq_of_mem_set hx with h2 | h2
  · exact h.dig x h2
  · rw [h2]; exact hy
theorem spare_sr {p : Option Addr} {n c : Nat} {xs : List Nat} {w : World} (h : At w p n c xs) (hn : n ≤ 17592186044416) :
    Calls Tryd.prog 13 #[.slice p n c] w fun en w' => ∃ g, en = .returned (.tuple #[.slice (some ⟨g, 0, none⟩) n (n + 80), .slice (some ⟨g, 0, none⟩) (n + 80) (n + 80)]) ∧ w.heap.size ≤ g ∧ g < w'.heap.size ∧ SR w' w.heap.size g n xs ∧ Below w.heap.size w w' :=
  (spare_ok h hn).mono fun en w' ⟨g, h1, h2, h3, h4⟩ => ⟨g, h1, h2, row_lt7 h3 (by omega), ⟨h3, h.len, h2, h.dig⟩, h4⟩
theorem SR.mono {w : World} {B B' g n : Nat} {zs : List Nat} (h : SR w B g n zs) (hB : B' ≤ B) : SR w B' g n zs := ⟨h.row, h.len, Nat.le_trans hB h.ge, h.dig⟩
theorem B5q.keep {w w' : World} {g : Nat} {v0 v1 v2 v3 v4 : Value} (h : B5q w g v0 v1 v2 v3 v4) (hb : w'.heap[g]? = w.heap[g]?) : B5q w' g v0 v1 v2 v3 v4 :=
  ⟨(World.cell?_of_block (w := w) hb).trans h.c0, (World.cell?_of_block (w := w) hb).trans h.c1, (World.cell?_of_block (w := w) hb).trans h.c2, (World.cell?_of_block (w := w) hb).trans h.c3, (World.cell?_of_block (w := w) hb).trans h.c4, (World.frozen?_of_block (w := w) hb).trans h.f0, (World.frozen?_of_block (w := w) hb).trans h.f1, (World.frozen?_of_block (w := w) hb).trans h.f2, (World.frozen?_of_block (w := w) hb).trans h.f3, (World.frozen?_of_block (w := w) hb).trans h.f4⟩
theorem xorM (x : Nat) : ∃ y : Nat, bits .xor .u64 IntKind.u64.max (x : Int) = (y : Int) ∧ y < B64 := by
  have e : bits .xor .u64 IntKind.u64.max (x : Int) = IntKind.u64.wrap ((BitVec.ofInt 64 IntKind.u64.max ^^^ BitVec.ofInt 64 (x : Int)).toNat : Int) := rfl
  rw [IntKind.wrap_u64] at e
  rw [e]
  generalize (BitVec.ofInt 64 IntKind.u64.max ^^^ BitVec.ofInt 64 (x : Int)).toNat = z
  exact ⟨z % 18446744073709551616, by omega, by rw [B64_eq]; omega⟩
theorem wj80 {j : Nat} (h : j < 17592186044500) : wrap64 ((j : Int) + 1) = ((j + 1 : Nat) : Int) := by
  simp only [wrap64]; omega
theorem mark_m2 (j : Nat) (hj : j < 17592186044500) {w : World} :
    Calls Tryd.prog 38 #[.int .i64 (-2), .int .i64 j] w fun en w' => (∃ v, v < B64 ∧ en = .returned (U v)) ∧ w' = w := by
  have h1 : IntKind.u64.wrap (j : Int) = (j : Int) := by rw [IntKind.wrap_u64]; omega
  have h2 : IntKind.u64.wrap (11944390636699910144 + (j : Int)) = ((11944390636699910144 + j : Nat) : Int) := by rw [IntKind.wrap_u64]; omega
  have h3 : IntKind.u64.wrap (11944390636716687360 + IntKind.u64.wrap (IntKind.u64.wrap (-1) * 16777216)) = 11944390636699910144 := by decide
  have HJ : Hid (11944390636699910144 + j < B64) := by show _ < 18446744073709551616; omega
  clear hj
  go_enter Tryd.func38, Tryd.ntmps38
  go_wp2_with fail
  go_ret
  exact ⟨⟨_, HJ.out, rfl⟩, rfl⟩
theorem over_ok {g L : Nat} {ys : List Nat} {w : World} (h : Row w g 0 L ys) (hL : L ≤ 17592186044496) :
    Calls Tryd.prog 17 #[.slice (some ⟨g, 0, none⟩) L L] w fun en w' => en = .returned (.tuple #[]) ∧ (∃ zs, Row w' g 0 L zs) ∧ w'.heap.size = w.heap.size ∧ (∀ k, k ≠ g → w'.heap[k]? = w.heap[k]?) ∧ Below g w w' := by
  have HR : Hid (Row w g 0 L ys) := h
  clear h
  go_enter Tryd.func17, Tryd.ntmps17
  go_wp2_with fail
  go_loopg [2] L (fun gk jv wr => ∃ (j : Nat) (zs : List Nat), j + gk = L ∧ jv = .int .i64 j ∧ Row wr g 0 L zs ∧ wr.heap.size = w.heap.size ∧ (∀ k, k ≠ g → wr.heap[k]? = w.heap[k]?) ∧ Below g w wr)
  case atStart => exact ⟨0, ys, by omega, rfl, HR.out, rfl, fun _ _ => rfl, Below.refl _ _⟩
  case round =>
    clear HR
    obtain ⟨j, zs, hjg, rfl, x1, x2, x3, hbw⟩ := hrel
    have HR : Hid (Row wr g 0 L zs ∧ wr.heap.size = w.heap.size ∧ ∀ k, k ≠ g → wr.heap[k]? = w.heap[k]?) := ⟨x1, x2, x3⟩
    clear x1 x2 x3
    cases gk with
    | zero =>
      obtain rfl : j = L := by omega
      have hnk : ¬ (j : Int) < (j : Int) := by omega
      go_wp2_with fail
      refine bodyPost_end (results_none rfl _ _ _) rfl ?_
      exact ⟨rfl, ⟨zs, HR.out.1⟩, HR.out.2.1, HR.out.2.2, hbw⟩
    | succ gj =>
      have hjl : (j : Int) < (L : Int) := by omega
      have hj0 : (0 : Int) ≤ (j : Int) ∧ (j : Int) < (L : Int) := by omega
      have HJ : Hid (j < L ∧ j < 17592186044500) := ⟨by omega, by omega⟩
      have hcl := HR.out.1.cell j HJ.out.1
      have hfr := HR.out.1.frozen j HJ.out.1
      rw [Nat.zero_add] at hcl hfr
      go_wp2_with fail
      refine (mark_m2 j HJ.out.2).mono ?_
      rintro e w' ⟨⟨v, hv, rfl⟩, hw⟩
      obtain rfl := hw.symm
      clear hw
      have wj := wj80 HJ.out.2
      obtain ⟨y, hy, hyb⟩ := xorM v
      have HY : Hid (y < B64) := hyb
      have hsg : IntKind.u64.signed = false := rfl
      clear hv hyb
      go_wp2_with fail
      go_roundg gj
      case measure => omega
      case rel =>
        have h9 := HR.out.1.set j y HJ.out.1 HY.out
        rw [Nat.zero_add] at h9
        exact ⟨j + 1, _, by omega, by go_num, h9, by rw [World.size_setCell]; exact HR.out.2.1, fun k hk => (Below.heap_setCell wr _ _ k hk).trans (HR.out.2.2 k hk), bSet hbw g j _ (Nat.le_refl _)⟩
theorem wnk7 {n k : Nat} (h : n ≤ 17592186044496) (hk : k ≤ 16) : wrap64 ((n : Int) + (k : Int)) = ((n + k : Nat) : Int) := by
  have e : (n : Int) + (k : Int) = ((n + k : Nat) : Int) := by omega
  rw [e]
  simp only [wrap64]; omega
theorem lt7 {n k : Nat} (h : n ≤ 17592186044496) (hk : k ≤ 16) : n + k < 1000000000000000000 := by omega
theorem bd8 {i : Nat} (h : i ≤ 1000000) : i + 1 ≤ maxLen ∧ (i + 1) * 24 ≤ 140737488355328 := by
  unfold maxLen; omega
theorem bd7 {n k : Nat} (h : n ≤ 17592186044496) (hk : k ≤ 16) : n + k + 1 ≤ maxLen ∧ ((n + k + 1) + (n + k + 1) / 4 + 192) * 8 ≤ 281474976710656 := by
  unfold maxLen; omega
theorem wnk80 {n k : Nat} (h : n ≤ 17592186044496) (hk : k < 80) : wrap64 ((n : Int) + (k : Int)) = ((n + k : Nat) : Int) := by
  simp only [wrap64]; omega
theorem bd80 {n : Nat} (h : n ≤ 17592186044496) : n + 80 ≤ maxLen ∧ ((n + 80) + (n + 80) / 4 + 192) * 8 ≤ 281474976710656 := by
  unfold maxLen; omega
theorem bd88 {N i : Nat} (h : N ≤ 1000000) (hi : i ≤ 1000000) : N + i + 1 ≤ maxLen ∧ (N + i + 1) * 24 ≤ 140737488355328 := by
  unfold maxLen; omega
theorem mks_app {ys : List Nat} {i n L : Nat} (hl : ys.length = L) (h : ∀ m, m < L → ys.getD m 0 = mkN i (n + m)) : mks i n ++ ys = mks i (n + L) := by
  refine mks_eq (by rw [List.length_append, mks_len, hl]) fun j hj => ?_
  rw [List.getD_eq_getElem?_getD, List.getElem?_append, mks_len]
  by_cases h1 : j < n
  · rw [if_pos h1, ← List.getD_eq_getElem?_getD, mks_get h1]
  · rw [if_neg h1, ← List.getD_eq_getElem?_getD, h (j - n) (by omega)]
    rw [show n + (j - n) = j by omega]
theorem own_cells7 {w : World} {B k : Nat} {e : TypeId} {v : Value} {xs : List Value} (h : w.ownsRow B e 1 v k xs) (hk : 0 < k) : ∃ g cap, v = .slice (some ⟨g, 0, none⟩) k cap ∧ ∀ q, q < k → w.cell? ⟨g, q, none⟩ = xs[q]? := by
  rcases h.2 with ⟨_, h2⟩ | ⟨g, cap, cur, h2, h3, h4, h5, h6, h7, h8⟩
  · omega
  · refine ⟨g, cap, h2, fun q hq => ?_⟩
    rw [cell_of_row w g q _ _ _ h4, ← h8, Nat.mul_one, List.getElem?_take, if_pos hq, Array.getElem?_toList]
theorem wj7 {j : Nat} (h : j < 17592186044596) : wrap64 ((j : Int) + 1) = ((j + 1 : Nat) : Int) := by
  simp only [wrap64]; omega
theorem got7 {w : World} {fo : Option Nat} {N K gg : Nat} {Gs : List It} (h : GQ w fo N Gs) (hl : Gs.length = K) {q : Nat} (hq : q < K) (hc : w.cell? ⟨gg, q, none⟩ = (Gs.map itv)[q]?) : ∃ bi ni ci, w.cell? ⟨gg, q, none⟩ = some (.slice (some ⟨bi, 0, none⟩) ni ci) ∧ ni ≤ 17592186044596 ∧ ∀ m, m < ni → w.cell? ⟨bi, m, none⟩ = some (U (mkN (q % N) m)) := by
  have hq2 : q < Gs.length := by omega
  obtain ⟨bi, h1, -, -⟩ := h.blk q hq2
  have h2 := h.at_ q hq2
  refine ⟨bi, Gs[q].n, Gs[q].c, ?_, h.le q hq2, fun m hm => ?_⟩
  · rw [hc, List.getElem?_map, List.getElem?_eq_getElem hq2, ← h1]; rfl
  · obtain ⟨g', off, e, hcl⟩ := h2.cells.resolve_left (by omega)
    rw [h1] at e
    simp only [Option.some.injEq, Addr.mk.injEq, and_true] at e
    obtain ⟨rfl, rfl⟩ := e
    have h3 := hcl m hm
    rw [Nat.zero_add, h.mrk q hq2 m hm] at h3
    exact h3
theorem row_src7 {w : World} {g L : Nat} {xs : List Nat} (h : Row w g 0 L xs) : (cellsU xs).length = L * 1 ∧ (∀ j u, (cellsU xs)[j]? = some u → w.cell? ((⟨g, 0, none⟩ : Addr).add j) = some u) ∧ ∀ u ∈ cellsU xs, u.oneCell' = true := by
  refine ⟨by rw [cellsU_length, h.len]; omega, fun j u hu => ?_, fun u hu => ?_⟩
  · have hj : j < L := by
      rcases Nat.lt_or_ge j L with h6 | h6
      · exact h6
      · rw [List.getElem?_eq_none (by rw [cellsU_length, h.len]; exact h6)] at hu; cases hu
    have hadd : (⟨g, 0, none⟩ : Addr).add j = ⟨g, j, none⟩ := by unfold Addr.add; split <;> simp_all
    have hcl := h.cell j hj
    rw [Nat.zero_add] at hcl
    rw [hadd, hcl, ← hu, cellsU_get _ _ (by rw [h.len]; exact hj)]
  · obtain ⟨x, _, rfl⟩ := List.mem_map.1 hu
    rfl
theorem apart_ok {go off N C B : Nat} {p : Nat → Option Addr} {n b : Nat → Nat} {X : Nat → List Nat} {w : World} (h : LQ w B go off N p n b X) (hN : N ≤ 1000000) (hN0 : 0 < N) (_hC : N ≤ C) (_hC2 : C ≤ maxLen) (hB : B ≤ w.heap.size) :
    Calls Tryd.prog 18 #[.slice (some ⟨go, off, none⟩) N C] w fun en w' => en = .returned (.bool true) ∧ Below B w w' := by
  obtain ⟨i0, hi, hz0, hz1, hz2⟩ := info_parts Tryd.infoU64
  obtain ⟨s0, hs, hy0, hy1, hy2⟩ := info_parts Tryd.infoSl
  have H : Hid (LQ w B go off N p n b X) := h
  have HB : Hid (B ≤ w.heap.size) := hB
  clear h hB
  go_enter Tryd.func18, Tryd.ntmps18
  go_wp2_with fail
  go_loopg [3] N (fun gk iv wr => ∃ (i : Nat) (X : Nat → List Nat), i + gk = N ∧ iv = .int .i64 i ∧ LQ wr B go off N p n b X ∧ (∀ k, k < i → Mkd n X k) ∧ Below B w wr)
  case atStart => exact ⟨0, X, by omega, rfl, H.out, fun k hk => by omega, Below.refl _ _⟩
  case round =>
    obtain ⟨i, X, hig, rfl, xl, xm, hbw⟩ := hrel
    clear H
    have LL : Hid (LQ wr B go off N p n b X ∧ ∀ k, k < i → Mkd n X k) := ⟨xl, xm⟩
    clear xl xm
    cases gk with
    | succ gi =>
      have hil : (i : Int) < (N : Int) := by omega
      have hi0 : (0 : Int) ≤ (i : Int) ∧ (i : Int) < (N : Int) := by omega
      go_wp2_with fail
      have hbw1 := hbw
      clear hbw
      go_loopg [4] (n i) (fun gj jv wr => ∃ (j : Nat) (X : Nat → List Nat), j + gj = n i ∧ jv = .int .i64 j ∧ LQ wr B go off N p n b X ∧ (∀ k, k < i → Mkd n X k) ∧ (∀ m, m < j → (X i).getD m 0 = mkN i m) ∧ Below B w wr)
      case atStart => exact ⟨0, X, by omega, rfl, LL.out.1, LL.out.2, fun m hm => by omega, hbw1⟩
      case round =>
        obtain ⟨j, X, hjg, rfl, xl, xm, xj, hbw⟩ := hrel
        clear LL hbw1
        have LL : Hid (LQ wr B go off N p n b X) := xl
        have HM : Hid ((∀ k, k < i → Mkd n X k) ∧ ∀ m, m < j → (X i).getD m 0 = mkN i m) := ⟨xm, xj⟩
        clear xl xm xj
        have hcx := LL.out.cells i (by omega)
        have hle := LL.out.le i (by omega)
        cases gk with
        | succ gj =>
          have hp := (LL.out.addr i (by omega)).resolve_left (by omega)
          rw [hp] at hcx
          have hcl := (LL.out.row i (by omega)).cell j (by omega)
          have hfr := (LL.out.row i (by omega)).frozen j (by omega)
          rw [Nat.zero_add] at hcl hfr
          have HNE : Hid (b i ≠ go) := LL.out.ne i (by omega) (by omega)
          obtain ⟨ni, hni⟩ : ∃ x, x = n i := ⟨_, rfl⟩
          obtain ⟨bi, hbi⟩ : ∃ x, x = b i := ⟨_, rfl⟩
          rw [← hni, ← hbi] at hcx
          rw [← hni] at hle hjg
          rw [← hbi] at hcl hfr HNE
          have HNI : Hid (ni = n i ∧ bi = b i ∧ p i = some ⟨b i, 0, none⟩) := ⟨hni, hbi, hp⟩
          clear hni hbi hp
          have hjl : (j : Int) < (ni : Int) := by omega
          have hj0 : (0 : Int) ≤ (j : Int) ∧ (j : Int) < (ni : Int) := by omega
          go_wp2_with fail
          have HCX : Hid (wr.cell? ⟨go, off + i, none⟩ = some (.slice (some ⟨bi, 0, none⟩) ni ni)) := hcx
          have HCL : Hid (wr.cell? ⟨bi, j, none⟩ = some (U ((X i).getD j 0)) ∧ wr.frozen? ⟨bi, j, none⟩ = false) := ⟨hcl, hfr⟩
          have hbr : Below wr.heap.size wr wr := Below.refl _ _
          have hbB := hbw
          clear hcx hcl hfr hbw
          have hbw := hbr
          clear hbr
          obtain ⟨W1, hW1⟩ : ∃ W1, W1 = wr.drew := ⟨_, rfl⟩
          have hbd : Below wr.heap.size wr W1 := by rw [hW1]; exact bDrew1 (Below.refl _ _)
          replace hbw := Below.on hbw hbd
          clear hbd
          have HJ : Hid ((fun W' : World => W'.cell? ⟨go, off + i, none⟩ = some (.slice (some ⟨bi, 0, none⟩) ni ni)) W1) := ((hbw.cell (p := ⟨go, off + i, none⟩) (World.block_lt_of_cell? wr _ HCX.out)).trans HCX.out)
          refine wp_region_J (fun W' => W'.cell? ⟨go, off + i, none⟩ = some (.slice (some ⟨bi, 0, none⟩) ni ni)) (by kernel_rfl) ?_
          rw [← hW1]
          clear hW1
          refine wpJ_tk 0 (v := ?v1x0) rfl ?hy1x0 HJ.out ?_
          case hy1x0 => (intro W' hJ; have j0 := hJ; go_simp; first | done | with_reducible rfl)
          refine wpJ_tk 1 (v := ?v2x1) rfl ?hy2x1 HJ.out ?_
          case hy2x1 => (intro W' hJ; have j0 := hJ; go_simp; first | done | with_reducible rfl)
          refine wpJ_tk 2 (v := ?v3x2) rfl ?hy3x2 HJ.out ?_
          case hy3x2 => (intro W' hJ; have j0 := hJ; go_simp; first | done | with_reducible rfl)
          refine wpJ_tk 3 (v := ?v4x3) rfl ?hy4x3 HJ.out ?_
          case hy4x3 => (intro W' hJ; have j0 := hJ; go_simp; first | done | with_reducible rfl)
          refine wpJ_tk 4 (v := ?v5x4) rfl ?hy5x4 HJ.out ?_
          case hy5x4 => (intro W' hJ; have j0 := hJ; go_simp; first | done | with_reducible rfl)
          go_simp
          refine wpJ_tk 5 (v := ?v6x5) rfl ?hy6x5 HJ.out ?_
          case hy6x5 => (intro W' hJ; have j0 := hJ; go_simp; first | done | with_reducible rfl)
          refine wpJ_tk 6 (v := ?v7x6) rfl ?hy7x6 HJ.out ?_
          case hy7x6 => (intro W' hJ; have j0 := hJ; go_simp; first | done | with_reducible rfl)
          refine wpJ_on 7 rfl fun KJ hK => ?_
          go_simp
          refine (mark_ij i j (by omega) (by omega)).mono ?_
          rintro e w' ⟨rfl, hw⟩
          obtain rfl := hw.symm
          clear hw
          clear HJ
          have HJ : Hid ((fun W' : World => W'.cell? ⟨go, off + i, none⟩ = some (.slice (some ⟨bi, 0, none⟩) ni ni)) W1) := ((hbw.cell (p := ⟨go, off + i, none⟩) (World.block_lt_of_cell? wr _ HCX.out)).trans HCX.out)
          refine hK _ _ HJ.out ?_
          clear hK
          refine wpJ_tk 8 (v := ?v8x8) rfl ?hy8x8 HJ.out ?_
          case hy8x8 => (intro W' hJ; have j0 := hJ; go_simp; first | done | with_reducible rfl)
          have hcl := (hbw.cell (p := ⟨bi, j, none⟩) (World.block_lt_of_cell? wr _ HCL.out.1)).trans HCL.out.1
          have hfr := (hbw.frozen (p := ⟨bi, j, none⟩) (World.block_lt_of_cell? wr _ HCL.out.1)).trans HCL.out.2
          refine wpJ_on 9 rfl fun KJ hK => ?_
          go_simp
          have HJ2 : Hid ((fun W' : World => W'.cell? ⟨go, off + i, none⟩ = some (.slice (some ⟨bi, 0, none⟩) ni ni)) (W1.setCell ⟨bi, j, none⟩ (U (mkN i j)))) := (World.cell?_setCell_other _ _ _ _ (by intro e; exact HNE.out (congrArg Addr.block e))).trans HJ.out
          refine hK _ _ HJ2.out ?_
          clear hK HJ
          have HJ := HJ2
          clear HJ2
          refine wpJ_done (by kernel_rfl) ?_ _
          clear HJ
          have LL2 := (LL.out.below hbw).set (i := i) (j := j) (y := mkN i j) (by omega) (by rw [← HNI.out.1]; omega) (mkN_lt (by omega) (by omega))
          have HBG : Hid (B ≤ b i) := LL.out.ge i (by omega)
          rw [← HNI.out.2.1] at LL2
          have hbw2 := bSet (hbB.trans (hbw.mono (by have := hbB.size; have := HB.out; omega))) bi j (U (mkN i j)) (by rw [HNI.out.2.1]; exact HBG.out)
          generalize W1.setCell ⟨bi, j, none⟩ (U (mkN i j)) = W2 at *
          clear hcl hfr hbw hbB
          go_wp2_with fail
          go_roundg gj
          case measure => omega
          case rel =>
            refine ⟨j + 1, _, by rw [← HNI.out.1]; omega, by go_num, LL2, fun k hk => ?_, fun m hm => ?_, hbw2⟩
            · intro m hm; show (if k = i then (X i).set j (mkN i j) else X k).getD m 0 = _; rw [if_neg (by omega)]; exact HM.out.1 k hk m hm
            · show (if i = i then (X i).set j (mkN i j) else X i).getD m 0 = _; rw [if_pos rfl, getD_set _ _ _ _ (by rw [(LL.out.row i (by omega)).len, ← HNI.out.1]; omega)]
              by_cases e : m = j
              · rw [if_pos e, e]
              · rw [if_neg e]; exact HM.out.2 m (by omega)
        | zero =>
          obtain rfl : j = n i := by omega
          have hnj : ¬ ((n i : Nat) : Int) < ((n i : Nat) : Int) := by omega
          have HM2 : Hid (∀ k, k < i + 1 → Mkd n X k) := mkd_succ HM.out.1 HM.out.2
          generalize n i = ni at *
          go_wp2_with fail
          go_roundg gi
          case measure => omega
          case rel => exact ⟨i + 1, X, by omega, by go_num, LL.out, HM2.out, hbw⟩
    | zero =>
      obtain rfl : N = i := by omega
      have hnk : ¬ (N : Int) < (N : Int) := by omega
      go_wp2_with fail
      clear hnk hig
      generalize wr = w1 at *
      have LM : Hid (LQ w1 B go off N p n b X ∧ (∀ k, k < N → Mkd n X k) ∧ B ≤ w1.heap.size) := ⟨LL.out.1, LL.out.2, by have := hbw.size; have := HB.out; omega⟩
      have HBW : Hid (Below B w w1) := hbw
      clear LL hbw
      go_loopg [5, 6] N (fun gk gv iv wr => ∃ (i : Nat) (Gs : List It), i + gk = N ∧ iv = .int .i64 i ∧ Gs.length = i ∧ wr.ownsRow w1.heap.size 24 1 gv i (Gs.map itv) ∧ GQ wr gv.ownBlock N Gs ∧ Below w1.heap.size w1 wr)
      case atStart => exact ⟨0, [], by omega, rfl, rfl, ⟨rfl, .inl ⟨rfl, rfl⟩⟩, ⟨fun q h => absurd h (Nat.not_lt_zero _), fun q h => absurd h (Nat.not_lt_zero _), fun q h => absurd h (Nat.not_lt_zero _), fun q h => absurd h (Nat.not_lt_zero _)⟩, Below.refl _ _⟩
      case round =>
        obtain ⟨i, Gs, hig, rfl, hgl, xo, xg, hbw⟩ := hrel
        have OG : Hid (wr.ownsRow w1.heap.size 24 1 u5 i (Gs.map itv) ∧ Gs.length = i) := ⟨xo, hgl⟩
        have GG : Hid (GQ wr u5.ownBlock N Gs) := xg
        clear xo xg hgl
        cases gk with
        | succ gi =>
          have hil : (i : Int) < (N : Int) := by omega
          have hi0 : (0 : Int) ≤ (i : Int) ∧ (i : Int) < (N : Int) := by omega
          have HCX : Hid (w1.cell? ⟨go, off + i, none⟩ = some (.slice (p i) (n i) (n i))) := LM.out.1.cells i (by omega)
          have hle := LM.out.1.le i (by omega)
          obtain ⟨ni, hni⟩ : ∃ x, x = n i := ⟨_, rfl⟩
          obtain ⟨pi, hpi⟩ : ∃ x, x = p i := ⟨_, rfl⟩
          rw [← hni, ← hpi] at HCX
          rw [← hni] at hle
          have HNI : Hid (ni = n i ∧ pi = p i) := ⟨hni, hpi⟩
          clear hni hpi
          have hcx := (hbw.cell (p := ⟨go, off + i, none⟩) (World.block_lt_of_cell? w1 _ HCX.out)).trans HCX.out
          go_wp2_with fail
          clear hcx
          generalize wr = wi at *
          have hbi : Below w1.heap.size w1 wi := hbw
          have hb0 : Below wi.heap.size wi wi := Below.refl _ _
          clear hbw
          go_loopg [7, 8] 16 (fun gk gv kv wr => ∃ (k : Nat), k + gk = 16 ∧ kv = .int .i64 k ∧ ((k = 0 ∧ gv = .slice pi ni ni) ∨ (1 ≤ k ∧ wr.ownsRow wi.heap.size 23 1 gv (ni + k) (cellsU (mks i (ni + k))))) ∧ Below wi.heap.size wi wr)
          case atStart => exact ⟨0, by omega, rfl, .inl ⟨rfl, rfl⟩, hb0⟩
          case round =>
            obtain ⟨k, hkg, rfl, hgv, hbw⟩ := hrel
            clear hb0
            cases gk with
            | succ gk =>
              have hk16 : (k : Int) < 16 := by omega
              have HI6 : Hid (i ≤ 1000000 ∧ ni + k < 1000000000000000000) := ⟨by omega, lt7 hle (show k ≤ 16 by omega)⟩
              have HBD : Hid (ni + k + 1 ≤ maxLen ∧ ((ni + k + 1) + (ni + k + 1) / 4 + 192) * 8 ≤ 281474976710656) := bd7 hle (show k ≤ 16 by omega)
              have hb1 := Below.on hbi hbw
              have hcx := (hb1.cell (p := ⟨go, off + i, none⟩) (World.block_lt_of_cell? w1 _ HCX.out)).trans HCX.out
              have ea : (ni : Int) + (k : Int) = ((ni + k : Nat) : Int) := by omega
              have HEA : Hid ((ni : Int) + (k : Int) = ((ni + k : Nat) : Int)) := ea
              clear ea
              have wnk := wnk7 hle (show k ≤ 16 by omega)
              go_wp2_with fail
              rw [HEA.out]
              refine (mark_ij i (ni + k) HI6.out.1 HI6.out.2).mono ?_
              rintro e w' ⟨rfl, hw⟩
              obtain rfl := hw.symm
              clear hw wnk hcx
              obtain ⟨y, hy⟩ : ∃ y, y = mkN i (ni + k) := ⟨_, rfl⟩
              rw [← hy]
              have HY : Hid (y = mkN i (ni + k)) := hy
              clear hy
              have hbA : Below wr.heap.size wr (wr.alloc (.cells #[U y] 23)) := below1 wr _
              have hbwA := Below.on hbw hbA
              have HSZ : Hid (wi.heap.size ≤ (wr.alloc (.cells #[U y] 23)).heap.size) := hbwA.size
              rcases hgv with ⟨hk0, hgv⟩ | ⟨hk1, hgv⟩
              · subst hk0 hgv
                have hb1A := Below.on hb1 hbA
                have HAT : Hid (pi = none → ni = 0) := fun h => by rw [HNI.out.1]; exact LM.out.1.pn i (by omega) (by rw [← HNI.out.2]; exact h)
                have HOL : Hid (∀ b, pi = some b → ∀ j u, (cellsU (mks i ni))[j]? = some u → (wr.alloc (.cells #[U y] 23)).cell? (b.add j) = some u) := full_cells LM.out.1 (LM.out.2.1 i (by omega)) (by omega) HNI.out.1 HNI.out.2 hb1A
                clear hb1A hbA hb1
                go_wp2_with (at_builtin; go_loud (refine wpList_append_full _ rfl _ _ 24 rfl 23 i0 (.int .u64 0) 1 8 Tryd.underlying24 hi hz0 hz1 hz2 rfl (by decide) pi ni (cellsU (mks i ni)) rfl HAT.out (by rw [cellsU_length, mks_len]; omega) HOL.out ⟨wr.heap.size, 0, none⟩ 1 1 [U y] rfl rfl (cell_new1 _ _ _) (by intro u hu; simp at hu; subst hu; rfl) (by decide) HBD.out.1 HBD.out.2 ?_); intro v6 w6 hown6 hgr6)
                go_roundg gk
                case measure => omega
                case rel =>
                  refine ⟨0 + 1, by omega, by go_num, .inr ⟨by omega, ?_⟩, hbwA.grown hgr6 HSZ.out (fun b hb => by cases hb)⟩
                  have e0 : cellsU (mks i (ni + (0 + 1))) = cellsU (mks i ni) ++ [U y] := by rw [HY.out, Nat.zero_add, mks_succ]; unfold cellsU; rw [List.map_append]; rfl
                  rw [e0]
                  exact own_mono hown6 HSZ.out
              · have OWA : Hid ((wr.alloc (.cells #[U y] 23)).ownsRow wi.heap.size 23 1 u7 (ni + k) (cellsU (mks i (ni + k)))) := ownAny7 hgv hbA
                clear hbA hb1 hgv
                go_wp2_with (at_builtin; refine wpList_append_own_wide _ rfl _ _ 24 rfl wi.heap.size 23 i0 (.int .u64 0) 1 8 Tryd.underlying24 hi hz0 hz1 hz2 rfl (by decide) u7 (ni + k) (cellsU (mks i (ni + k))) rfl OWA.out ⟨wr.heap.size, 0, none⟩ 1 1 [U y] rfl rfl (cell_new1 _ _ _) (by intro u hu; simp at hu; subst hu; rfl) HBD.out.1 HBD.out.2 HSZ.out ?_; intro v6 w6 hown6 hgr6 hnil6)
                go_roundg gk
                case measure => omega
                case rel =>
                  refine ⟨k + 1, by omega, by go_num, .inr ⟨by omega, ?_⟩, hbwA.grown hgr6 HSZ.out (fun b hb => (own_ob7 OWA.out hb).1)⟩
                  have e0 : cellsU (mks i (ni + (k + 1))) = cellsU (mks i (ni + k)) ++ [U y] := by rw [HY.out, ← Nat.add_assoc, mks_succ]; unfold cellsU; rw [List.map_append]; rfl
                  rw [e0, ← Nat.add_assoc]
                  exact hown6
            | zero =>
              obtain rfl : k = 16 := by omega
              obtain ⟨-, hgv⟩ := hgv.resolve_left (by rintro ⟨h, _⟩; omega)
              have HLE : Hid (i ≤ 1000000 ∧ i < N ∧ ni + 16 ≤ 17592186044596) := ⟨by omega, by omega, by omega⟩
              have hsl : ∃ g7 c7, u7 = .slice (some ⟨g7, 0, none⟩) (ni + 16) c7 ∧ wi.heap.size ≤ g7 ∧ g7 < wr.heap.size ∧ At wr (some ⟨g7, 0, none⟩) (ni + 16) c7 (mks i (ni + 16)) := own_sl7 (k := ni + 15) hgv HLE.out.1 (show ni + 16 < 1000000000000000000 from lt7 hle (Nat.le_refl 16))
              obtain ⟨g7, c7, rfl, hg1, hg2, hat⟩ := hsl
              have hbA : Below wr.heap.size wr (wr.alloc (.cells #[.slice (some ⟨g7, 0, none⟩) (ni + 16) c7] 24)) := below1 wr _
              have hbwA := Below.on hbw hbA
              have OGA : Hid ((wr.alloc (.cells #[.slice (some ⟨g7, 0, none⟩) (ni + 16) c7] 24)).ownsRow w1.heap.size 24 1 u5 i (Gs.map itv)) := ownAny7 OG.out.1 hbwA
              have HSZ : Hid (w1.heap.size ≤ (wr.alloc (.cells #[.slice (some ⟨g7, 0, none⟩) (ni + 16) c7] 24)).heap.size) := Nat.le_trans hbi.size hbwA.size
              have HBD : Hid (i + 1 ≤ maxLen ∧ (i + 1) * 24 ≤ 140737488355328) := bd8 HLE.out.1
              have GGA : Hid (GQ (wr.alloc (.cells #[.slice (some ⟨g7, 0, none⟩) (ni + 16) c7] 24)) u5.ownBlock N Gs) := GG.out.below hbwA
              have HAT : Hid (At (wr.alloc (.cells #[.slice (some ⟨g7, 0, none⟩) (ni + 16) c7] 24)) (some ⟨g7, 0, none⟩) (ni + 16) c7 (mks i (ni + 16))) := hat.below hbA
              have HG7 : Hid (some g7 ≠ u5.ownBlock ∧ g7 < (wr.alloc (.cells #[.slice (some ⟨g7, 0, none⟩) (ni + 16) c7] 24)).heap.size) := ⟨fun e => by have := (own_ob7 OG.out.1 e.symm).2; omega, Nat.lt_of_lt_of_le hg2 hbA.size⟩
              have HBL : Hid (Below w1.heap.size w1 (wr.alloc (.cells #[.slice (some ⟨g7, 0, none⟩) (ni + 16) c7] 24))) := Below.on hbi hbwA
              clear hgv hat hbA hbwA hbw hg1 hg2 hbi
              go_wp2_with (at_builtin; refine wpList_append_own_at _ rfl _ _ 46 rfl w1.heap.size 24 s0 (.slice none 0 0) 1 24 Tryd.underlying46 hs hy0 hy1 hy2 rfl (by decide) u5 i (Gs.map itv) rfl OGA.out ⟨wr.heap.size, 0, none⟩ 1 1 [.slice (some ⟨g7, 0, none⟩) (ni + 16) c7] rfl rfl (cell_new1 _ _ _) (by intro u hu; simp at hu; subst hu; rfl) HBD.out.1 HBD.out.2 HSZ.out ?_; intro v8 w8 hown8 hgr8 hnil8 hob8)
              go_roundg gi
              case measure => omega
              case rel =>
                refine ⟨i + 1, Gs ++ [⟨some ⟨g7, 0, none⟩, ni + 16, c7, mks i (ni + 16), 0⟩], by omega, by go_num, by rw [List.length_append, OG.out.2]; rfl, by rw [List.map_append]; exact hown8, ?_, HBL.out.grown hgr8 HSZ.out (fun b hb => (own_ob7 OGA.out hb).1)⟩
                refine (GGA.out.grow hgr8 hob8).snoc _ (b := g7) rfl ?_ (Nat.lt_of_lt_of_le HG7.out.2 hgr8.size) (HAT.out.grow hgr8 HG7.out.1) ?_ HLE.out.2.2
                · rcases hob8 with e | e <;> rw [e]
                  · exact HG7.out.1
                  · intro e2; exact absurd (Option.some.inj e2) (Nat.ne_of_lt HG7.out.2)
                · intro m hm; rw [OG.out.2, Nat.mod_eq_of_lt HLE.out.2.1]; exact mks_get hm
        | zero =>
          obtain rfl : N = i := by omega
          have hnk : ¬ (N : Int) < (N : Int) := by omega
          go_wp2_with fail
          clear hnk hig
          go_loopg [5, 9] N (fun gk gv iv wr => ∃ (i : Nat) (Gs : List It), i + gk = N ∧ iv = .int .i64 i ∧ Gs.length = N + i ∧ wr.ownsRow w1.heap.size 24 1 gv (N + i) (Gs.map itv) ∧ GQ wr gv.ownBlock N Gs ∧ Below w1.heap.size w1 wr)
          case atStart => exact ⟨0, Gs, by omega, rfl, OG.out.2, OG.out.1, GG.out, hbw⟩
          case round =>
            clear OG GG hbw
            obtain ⟨i, Gs, hig, rfl, hgl, xo, xg, hbw⟩ := hrel
            have OG : Hid (wr.ownsRow w1.heap.size 24 1 u5 (N + i) (Gs.map itv) ∧ Gs.length = N + i) := ⟨xo, hgl⟩
            have GG : Hid (GQ wr u5.ownBlock N Gs) := xg
            clear xo xg hgl
            cases gk with
            | succ gi =>
              have hil : (i : Int) < (N : Int) := by omega
              have hi0 : (0 : Int) ≤ (i : Int) ∧ (i : Int) < (N : Int) := by omega
              have HCX : Hid (w1.cell? ⟨go, off + i, none⟩ = some (.slice (p i) (n i) (n i))) := LM.out.1.cells i (by omega)
              have hle := LM.out.1.le i (by omega)
              obtain ⟨ni, hni⟩ : ∃ x, x = n i := ⟨_, rfl⟩
              obtain ⟨pi, hpi⟩ : ∃ x, x = p i := ⟨_, rfl⟩
              rw [← hni, ← hpi] at HCX
              rw [← hni] at hle
              have HNI : Hid (ni = n i ∧ pi = p i) := ⟨hni, hpi⟩
              clear hni hpi
              generalize wr = wi at *
              have hbi : Below w1.heap.size w1 wi := hbw
              clear hbw
              go_wp2_with (at_make; refine wpList_make_full _ rfl _ _ 24 rfl wi.heap.size 23 i0 (.int .u64 0) 1 Tryd.underlying24 hi hz0 hz1 _ _ _ _ 80 rfl rfl (by omega) (by omega) (by rw [hz2]; omega) (by unfold maxLen; omega) (Nat.le_refl _) ?_; intro w2 hown hgrow; have hb := made_blk hown hgrow; clear hown hgrow)
              have hm2 : Row w2 wi.heap.size 0 80 (List.replicate 80 0) := by have := hb.1.row (Dig.replicate B64 80 B64_pos); rw [List.length_replicate] at this; exact this
              have HM2 : Hid (Row w2 wi.heap.size 0 80 (List.replicate 80 0) ∧ Below wi.heap.size wi w2) := ⟨hm2, hb.2⟩
              clear hm2 hb
              go_loopg [11] 80 (fun gk kv wr => ∃ (k : Nat) (ys : List Nat), k + gk = 80 ∧ kv = .int .i64 k ∧ Row wr wi.heap.size 0 80 ys ∧ (∀ m, m < k → ys.getD m 0 = mkN i (ni + m)) ∧ Below wi.heap.size wi wr)
              case atStart => exact ⟨0, _, by omega, rfl, HM2.out.1, fun m hm => absurd hm (Nat.not_lt_zero _), HM2.out.2⟩
              case round =>
                clear HM2
                obtain ⟨k, ys, hkg, rfl, x1, x2, hbw⟩ := hrel
                have HYS : Hid (Row wr wi.heap.size 0 80 ys ∧ ∀ m, m < k → ys.getD m 0 = mkN i (ni + m)) := ⟨x1, x2⟩
                clear x1 x2
                cases gk with
                | succ gk =>
                  have hk80 : (k : Int) < 80 := by omega
                  have hk0 : (0 : Int) ≤ (k : Int) ∧ (k : Int) < 80 := by omega
                  have HI6 : Hid (i ≤ 1000000 ∧ ni + k < 1000000000000000000 ∧ k < 80) := ⟨by omega, by omega, by omega⟩
                  have hb1 := Below.on hbi hbw
                  have hcx := (hb1.cell (p := ⟨go, off + i, none⟩) (World.block_lt_of_cell? w1 _ HCX.out)).trans HCX.out
                  have HEA : Hid ((ni : Int) + (k : Int) = ((ni + k : Nat) : Int)) := by show (_ : Int) = _; omega
                  have wnk := wnk80 hle HI6.out.2.2
                  have hcl := HYS.out.1.cell k HI6.out.2.2
                  have hfr := HYS.out.1.frozen k HI6.out.2.2
                  rw [Nat.zero_add] at hcl hfr
                  clear hb1
                  go_wp2_with fail
                  rw [HEA.out]
                  refine (mark_ij i (ni + k) HI6.out.1 HI6.out.2.1).mono ?_
                  rintro e w' ⟨rfl, hw⟩
                  obtain rfl := hw.symm
                  clear hw wnk
                  obtain ⟨y, hy⟩ : ∃ y, Hid (y = mkN i (ni + k)) := ⟨_, rfl⟩
                  rw [← hy.out]
                  have HR5 : Hid (Row (wr.setCell ⟨wi.heap.size, k, none⟩ (U y)) wi.heap.size 0 80 (ys.set k y)) := by have h9 := HYS.out.1.set k y HI6.out.2.2 (by rw [hy.out]; exact mkN_lt HI6.out.1 HI6.out.2.1); rw [Nat.zero_add] at h9; exact h9
                  have HB5 : Hid (Below wi.heap.size wi (wr.setCell ⟨wi.heap.size, k, none⟩ (U y))) := bSet hbw wi.heap.size k (U y) (Nat.le_refl _)
                  go_wp2_with fail
                  go_roundg gk
                  case measure => omega
                  case rel =>
                    refine ⟨k + 1, ys.set k y, by omega, by go_num, HR5.out, fun m hm => ?_, HB5.out⟩
                    rw [getD_set _ _ _ _ (by rw [HYS.out.1.len]; exact HI6.out.2.2)]
                    by_cases e : m = k
                    · rw [if_pos e, e, hy.out]
                    · rw [if_neg e]; exact HYS.out.2 m (by omega)
                | zero =>
                  obtain rfl : k = 80 := by omega
                  have HNW : Hid ((cellsU ys).length = 80 * 1 ∧ (∀ j u, (cellsU ys)[j]? = some u → wr.cell? ((⟨wi.heap.size, 0, none⟩ : Addr).add j) = some u) ∧ ∀ u ∈ cellsU ys, u.oneCell' = true) := row_src7 HYS.out.1
                  have HAP : Hid (mks i ni ++ ys = mks i (ni + 80)) := mks_app HYS.out.1.len HYS.out.2
                  have hb1 := Below.on hbi hbw
                  have hcx := (hb1.cell (p := ⟨go, off + i, none⟩) (World.block_lt_of_cell? w1 _ HCX.out)).trans HCX.out
                  have HAT : Hid (pi = none → ni = 0) := fun h => by rw [HNI.out.1]; exact LM.out.1.pn i (by omega) (by rw [← HNI.out.2]; exact h)
                  have HOL : Hid (∀ b, pi = some b → ∀ j u, (cellsU (mks i ni))[j]? = some u → wr.cell? (b.add j) = some u) := full_cells LM.out.1 (LM.out.2.1 i (by omega)) (by omega) HNI.out.1 HNI.out.2 hb1
                  have HBD : Hid (ni + 80 ≤ maxLen ∧ ((ni + 80) + (ni + 80) / 4 + 192) * 8 ≤ 281474976710656) := bd80 hle
                  clear hb1
                  have HLE : Hid (i ≤ 1000000 ∧ i < N ∧ ni + 80 ≤ 17592186044596 ∧ N ≤ 1000000) := ⟨by omega, by omega, by omega, by omega⟩
                  have HDG : Hid (ni + 80 < 1000000000000000000) := by show _ < _; omega
                  go_wp2_with (at_builtin; first | (refine wpList_append_full _ rfl _ _ 24 rfl 23 i0 (.int .u64 0) 1 8 Tryd.underlying24 hi hz0 hz1 hz2 rfl (by decide) pi ni (cellsU (mks i ni)) rfl HAT.out (by rw [cellsU_length, mks_len]; omega) HOL.out ⟨wi.heap.size, 0, none⟩ 80 80 (cellsU ys) rfl HNW.out.1 HNW.out.2.1 HNW.out.2.2 (by decide) HBD.out.1 HBD.out.2 ?_; intro v6 w6 hown6 hgr6; have hbw6 : Below wi.heap.size wi w6 := hbw.grown hgr6 (hbw.size) (fun b hb => by cases hb); have hgv : w6.ownsRow wr.heap.size 23 1 v6 (ni + 79 + 1) (cellsU (mks i (ni + 79 + 1))) := (by rw [show ni + 79 + 1 = ni + 80 from rfl, ← HAP.out, show cellsU (mks i ni ++ ys) = cellsU (mks i ni) ++ cellsU ys from (by unfold cellsU; rw [List.map_append])]; exact hown6); have hsl : ∃ g7 c7, v6 = .slice (some ⟨g7, 0, none⟩) (ni + 80) c7 ∧ wr.heap.size ≤ g7 ∧ g7 < w6.heap.size ∧ At w6 (some ⟨g7, 0, none⟩) (ni + 80) c7 (mks i (ni + 80)) := own_sl7 (k := ni + 79) hgv HLE.out.1 HDG.out; obtain ⟨g7, c7, rfl, hg1, hg2, hat⟩ := hsl; have hbA : Below w6.heap.size w6 (w6.alloc (.cells #[.slice (some ⟨g7, 0, none⟩) (ni + 80) c7] 24)) := below1 w6 _; have hbwA := Below.on hbw6 hbA; have OGA : Hid ((w6.alloc (.cells #[.slice (some ⟨g7, 0, none⟩) (ni + 80) c7] 24)).ownsRow w1.heap.size 24 1 u5 (N + i) (Gs.map itv)) := ownAny7 OG.out.1 hbwA; have HSZ : Hid (w1.heap.size ≤ (w6.alloc (.cells #[.slice (some ⟨g7, 0, none⟩) (ni + 80) c7] 24)).heap.size) := Nat.le_trans hbi.size hbwA.size; have HBE : Hid (N + i + 1 ≤ maxLen ∧ (N + i + 1) * 24 ≤ 140737488355328) := bd88 HLE.out.2.2.2 HLE.out.1; have GGA : Hid (GQ (w6.alloc (.cells #[.slice (some ⟨g7, 0, none⟩) (ni + 80) c7] 24)) u5.ownBlock N Gs) := GG.out.below hbwA; have HA7 : Hid (At (w6.alloc (.cells #[.slice (some ⟨g7, 0, none⟩) (ni + 80) c7] 24)) (some ⟨g7, 0, none⟩) (ni + 80) c7 (mks i (ni + 80))) := hat.below hbA; have HG7 : Hid (some g7 ≠ u5.ownBlock ∧ g7 < (w6.alloc (.cells #[.slice (some ⟨g7, 0, none⟩) (ni + 80) c7] 24)).heap.size) := ⟨fun e => (by have := (own_ob7 OG.out.1 e.symm).2; have := hbw.size; omega), Nat.lt_of_lt_of_le hg2 hbA.size⟩; have HBL : Hid (Below w1.heap.size w1 (w6.alloc (.cells #[.slice (some ⟨g7, 0, none⟩) (ni + 80) c7] 24))) := Below.on hbi hbwA; clear hgv hat hbA hbwA hbw6 hbw hg1 hg2 hcx hown6 hgr6) | (refine wpList_append_own_at _ rfl _ _ 46 rfl w1.heap.size 24 s0 (.slice none 0 0) 1 24 Tryd.underlying46 hs hy0 hy1 hy2 rfl (by decide) u5 (N + i) (Gs.map itv) rfl OGA.out ⟨w6.heap.size, 0, none⟩ 1 1 [.slice (some ⟨g7, 0, none⟩) (ni + 80) c7] rfl rfl (cell_new1 _ _ _) (by intro u hu; simp at hu; subst hu; rfl) HBE.out.1 HBE.out.2 HSZ.out ?_; intro v8 w8 hown8 hgr8 hnil8 hob8))
                  go_roundg gi
                  case measure => omega
                  case rel =>
                    refine ⟨i + 1, Gs ++ [⟨some ⟨g7, 0, none⟩, ni + 80, c7, mks i (ni + 80), 0⟩], by omega, by go_num, by rw [List.length_append, OG.out.2]; rfl, by rw [List.map_append]; exact hown8, ?_, HBL.out.grown hgr8 HSZ.out (fun b hb => (own_ob7 OGA.out hb).1)⟩
                    refine (GGA.out.grow hgr8 hob8).snoc _ (b := g7) rfl ?_ (Nat.lt_of_lt_of_le HG7.out.2 hgr8.size) (HA7.out.grow hgr8 HG7.out.1) ?_ HLE.out.2.2.1
                    · rcases hob8 with e | e <;> rw [e]
                      · exact HG7.out.1
                      · intro e2; exact absurd (Option.some.inj e2) (Nat.ne_of_lt HG7.out.2)
                    · intro m hm; rw [OG.out.2, Nat.add_mod_left, Nat.mod_eq_of_lt HLE.out.2.1]; exact mks_get hm
            | zero =>
              obtain rfl : N = i := by omega
              have hnk : ¬ (N : Int) < (N : Int) := by omega
              go_wp2_with fail
              clear hnk hig
              generalize wr = wl at *
              obtain ⟨gg, cg, hu5, hcg⟩ := own_cells7 OG.out.1 (by omega)
              subst hu5
              have HBZ : Hid (Below B w wl) := HBW.out.trans (hbw.mono LM.out.2.2)
              have LN : Hid (LQ wl B go off N p n b X) := LM.out.1.below hbw
              have HTT : Hid (∀ q, q < N + N → ∃ bi ni ci, wl.cell? ⟨gg, q, none⟩ = some (.slice (some ⟨bi, 0, none⟩) ni ci) ∧ ni ≤ 17592186044596 ∧ ∀ m, m < ni → wl.cell? ⟨bi, m, none⟩ = some (U (mkN (q % N) m))) := fun q hq => got7 GG.out OG.out.2 hq (hcg q hq)
              have HNN : Hid (N ≤ 1000000 ∧ 0 < N) := ⟨hN, hN0⟩
              clear OG GG hbw hcg
              have hbw : Below wl.heap.size wl wl := Below.refl _ _
              obtain ⟨NN, hNN⟩ : ∃ x, x = N + N := ⟨_, rfl⟩
              rw [← hNN] at HTT
              have HN2 : Hid (NN = N + N) := hNN
              try rw [← hNN]
              clear hNN
              go_loopg [12] NN (fun gk iv wr => ∃ (i : Nat), i + gk = NN ∧ iv = .int .i64 i ∧ Below wl.heap.size wl wr)
              case atStart => exact ⟨0, by omega, rfl, hbw⟩
              case round =>
                clear hbw
                obtain ⟨i, hig, rfl, hbw⟩ := hrel
                cases gk with
                | succ gi =>
                  have hil : (i : Int) < (NN : Int) := by omega
                  have hi0 : (0 : Int) ≤ (i : Int) ∧ (i : Int) < (NN : Int) := by omega
                  obtain ⟨bi, ni, ci, t1, t2, t3⟩ := HTT.out i (by omega)
                  have HCX : Hid (wl.cell? ⟨gg, i, none⟩ = some (.slice (some ⟨bi, 0, none⟩) ni ci)) := t1
                  have HTI : Hid (ni ≤ 17592186044596 ∧ ∀ m, m < ni → wl.cell? ⟨bi, m, none⟩ = some (U (mkN (i % N) m))) := ⟨t2, t3⟩
                  have HIM : Hid (i % N ≤ 1000000) := by have := Nat.mod_lt i HNN.out.2; have := HNN.out.1; show _ ≤ _; omega
                  have HIB : Hid (i < 17592186044596) := by have := HN2.out; have := HNN.out.1; show _ < _; omega
                  clear t1 t2 t3
                  go_wp2_with fail
                  go_loopg [13] ni (fun gk jv wr => ∃ (j : Nat), j + gk = ni ∧ jv = .int .i64 j ∧ Below wl.heap.size wl wr)
                  case atStart => exact ⟨0, by omega, rfl, hbw⟩
                  case round =>
                    clear hbw
                    obtain ⟨j, hjg, rfl, hbw⟩ := hrel
                    have hcx := (hbw.cell (p := ⟨gg, i, none⟩) (World.block_lt_of_cell? wl _ HCX.out)).trans HCX.out
                    cases gk with
                    | zero =>
                      obtain rfl : j = ni := by omega
                      have hnk : ¬ (j : Int) < (j : Int) := by omega
                      have wi1 : wrap64 ((i : Int) + 1) = ((i + 1 : Nat) : Int) := wj7 HIB.out
                      go_wp2_with fail
                      go_roundg gi
                      case measure => omega
                      case rel => exact ⟨i + 1, by omega, by go_num, hbw⟩
                    | succ gg2 =>
                      have hjl : (j : Int) < (ni : Int) := by omega
                      have hj0 : (0 : Int) ≤ (j : Int) ∧ (j : Int) < (ni : Int) := by omega
                      have HCF : Hid (wl.cell? ⟨bi, j, none⟩ = some (U (mkN (i % N) j))) := HTI.out.2 j (by omega)
                      have HJB : Hid (j < 17592186044596) := by have := HTI.out.1; show _ < _; omega
                      obtain ⟨x, hx⟩ : ∃ x, Hid (x = mkN (i % N) j) := ⟨_, rfl⟩
                      rw [← hx.out] at HCF
                      have hz8 : ((N : Int) == 0) = false := by have := HNN.out.2; simp; omega
                      have hz9 : ¬ (N : Int) = 0 := by have := HNN.out.2; omega
                      have hz7 : ¬ N = 0 := by have := HNN.out.2; omega
                      go_wp2_with fail
                      clear hcx
                      obtain ⟨W1, hW1⟩ : ∃ W1, W1 = wr.drew := ⟨_, rfl⟩
                      have hbd : Below wr.heap.size wr W1 := by rw [hW1]; exact bDrew1 (Below.refl _ _)
                      replace hbw := Below.on hbw hbd
                      clear hbd
                      have HJ : Hid ((fun W' : World => W'.cell? ⟨gg, i, none⟩ = some (.slice (some ⟨bi, 0, none⟩) ni ci) ∧ W'.cell? ⟨bi, j, none⟩ = some (U x)) W1) := ⟨((hbw.cell (p := ⟨gg, i, none⟩) (World.block_lt_of_cell? wl _ HCX.out)).trans HCX.out), ((hbw.cell (p := ⟨bi, j, none⟩) (World.block_lt_of_cell? wl _ HCF.out)).trans HCF.out)⟩
                      refine wp_region_J (fun W' => W'.cell? ⟨gg, i, none⟩ = some (.slice (some ⟨bi, 0, none⟩) ni ci) ∧ W'.cell? ⟨bi, j, none⟩ = some (U x)) (by kernel_rfl) ?_
                      rw [← hW1]
                      clear hW1
                      refine wpJ_tq 0 rfl HJ.out ?_
                      refine wpJ_tq 1 rfl HJ.out ?_
                      refine wpJ_tq 2 rfl HJ.out ?_
                      refine wpJ_tq 3 rfl HJ.out ?_
                      refine wpJ_tq 4 rfl HJ.out ?_
                      go_simp
                      refine wpJ_tq 5 rfl HJ.out ?_
                      refine wpJ_tq 6 rfl HJ.out ?_
                      refine wpJ_tq 7 rfl HJ.out ?_
                      refine wpJ_tq 8 rfl HJ.out ?_
                      refine wpJ_tq 9 rfl HJ.out ?_
                      go_simp
                      refine wpJ_tq 10 rfl HJ.out ?_
                      refine wpJ_tq 11 rfl HJ.out ?_
                      refine wpJ_on 12 rfl fun KJ hK => ?_
                      go_simp
                      rw [show (i : Int).tmod (N : Int) = ((i % N : Nat) : Int) from rfl]
                      refine (mark_ij (i % N) j HIM.out (Nat.lt_trans HJB.out (by decide))).mono ?_
                      rintro e w' ⟨rfl, hw⟩
                      obtain rfl := hw.symm
                      clear hw
                      rw [← hx.out]
                      clear HJ
                      have HJ : Hid ((fun W' : World => W'.cell? ⟨gg, i, none⟩ = some (.slice (some ⟨bi, 0, none⟩) ni ci) ∧ W'.cell? ⟨bi, j, none⟩ = some (U x)) W1) := ⟨((hbw.cell (p := ⟨gg, i, none⟩) (World.block_lt_of_cell? wl _ HCX.out)).trans HCX.out), ((hbw.cell (p := ⟨bi, j, none⟩) (World.block_lt_of_cell? wl _ HCF.out)).trans HCF.out)⟩
                      refine hK _ _ HJ.out ?_
                      clear hK
                      refine wpJ_tq 13 rfl HJ.out ?_
                      refine wpJ_done (by kernel_rfl) ?_ _
                      clear HJ
                      have wj : wrap64 ((j : Int) + 1) = ((j + 1 : Nat) : Int) := wj7 HJB.out
                      clear hz8 hz9 hz7
                      go_wp2_with fail
                      have hjb := HJB.out
                      go_roundg gg2
                      case measure => omega
                      case rel => exact ⟨j + 1, by omega, by go_num, hbw⟩
                | zero =>
                  obtain rfl : NN = i := by omega
                  have hnk : ¬ (NN : Int) < (NN : Int) := by omega
                  go_wp2_with fail
                  clear hnk hig
                  have HB2 : Hid (Below wl.heap.size wl wr) := hbw
                  go_loopg [14] N (fun gk iv wr => ∃ (i : Nat), i + gk = N ∧ iv = .int .i64 i ∧ Below wl.heap.size wl wr)
                  case atStart => exact ⟨0, by omega, rfl, HB2.out⟩
                  case round =>
                    clear hbw HB2
                    obtain ⟨i, hig, rfl, hbw⟩ := hrel
                    cases gk with
                    | succ gi =>
                      have hiN : i < N := by omega
                      have hil : (i : Int) < (N : Int) := by omega
                      have hi0 : (0 : Int) ≤ (i : Int) ∧ (i : Int) < (N : Int) := by omega
                      have HCX : Hid (wl.cell? ⟨go, off + i, none⟩ = some (.slice (p i) (n i) (n i))) := LN.out.cells i hiN
                      have HTI : Hid (n i ≤ 17592186044496 ∧ (∀ m, m < n i → wl.cell? ⟨b i, m, none⟩ = some (U (mkN i m))) ∧ (n i ≠ 0 → p i = some ⟨b i, 0, none⟩)) := ⟨LN.out.le i hiN, fun m hm => by have h9 := (LN.out.row i hiN).cell m hm; rw [Nat.zero_add, LM.out.2.1 i hiN m hm] at h9; exact h9, fun h => (LN.out.addr i hiN).resolve_left h⟩
                      have HIM : Hid (i ≤ 1000000) := by have := HNN.out.1; show _ ≤ _; omega
                      clear hiN
                      generalize n i = ni at *
                      generalize p i = pi at *
                      generalize b i = bi at *
                      go_wp2_with fail
                      go_loopg [15] ni (fun gk jv wr => ∃ (j : Nat), j + gk = ni ∧ jv = .int .i64 j ∧ Below wl.heap.size wl wr)
                      case atStart => exact ⟨0, by omega, rfl, hbw⟩
                      case round =>
                        clear hbw
                        obtain ⟨j, hjg, rfl, hbw⟩ := hrel
                        have hcx := (hbw.cell (p := ⟨go, off + i, none⟩) (World.block_lt_of_cell? wl _ HCX.out)).trans HCX.out
                        cases gk with
                        | zero =>
                          obtain rfl : j = ni := by omega
                          have hnk : ¬ (j : Int) < (j : Int) := by omega
                          go_wp2_with fail
                          go_roundg gi
                          case measure => omega
                          case rel => exact ⟨i + 1, by omega, by go_num, hbw⟩
                        | succ gg2 =>
                          obtain rfl := HTI.out.2.2 (by omega)
                          have hjl : (j : Int) < (ni : Int) := by omega
                          have hj0 : (0 : Int) ≤ (j : Int) ∧ (j : Int) < (ni : Int) := by omega
                          have HCF : Hid (wl.cell? ⟨bi, j, none⟩ = some (U (mkN i j))) := HTI.out.2.1 j (by omega)
                          have HJB : Hid (j < 17592186044596) := by have := HTI.out.1; show _ < _; omega
                          obtain ⟨x, hx⟩ : ∃ x, Hid (x = mkN i j) := ⟨_, rfl⟩
                          rw [← hx.out] at HCF
                          go_wp2_with fail
                          clear hcx
                          obtain ⟨W1, hW1⟩ : ∃ W1, W1 = wr.drew := ⟨_, rfl⟩
                          have hbd : Below wr.heap.size wr W1 := by rw [hW1]; exact bDrew1 (Below.refl _ _)
                          replace hbw := Below.on hbw hbd
                          clear hbd
                          have HJ : Hid ((fun W' : World => W'.cell? ⟨go, off + i, none⟩ = some (.slice (some ⟨bi, 0, none⟩) ni ni) ∧ W'.cell? ⟨bi, j, none⟩ = some (U x)) W1) := ⟨((hbw.cell (p := ⟨go, off + i, none⟩) (World.block_lt_of_cell? wl _ HCX.out)).trans HCX.out), ((hbw.cell (p := ⟨bi, j, none⟩) (World.block_lt_of_cell? wl _ HCF.out)).trans HCF.out)⟩
                          refine wp_region_J (fun W' => W'.cell? ⟨go, off + i, none⟩ = some (.slice (some ⟨bi, 0, none⟩) ni ni) ∧ W'.cell? ⟨bi, j, none⟩ = some (U x)) (by kernel_rfl) ?_
                          rw [← hW1]
                          clear hW1
                          refine wpJ_tq 0 rfl HJ.out ?_
                          refine wpJ_tq 1 rfl HJ.out ?_
                          refine wpJ_tq 2 rfl HJ.out ?_
                          refine wpJ_tq 3 rfl HJ.out ?_
                          refine wpJ_tq 4 rfl HJ.out ?_
                          go_simp
                          refine wpJ_tq 5 rfl HJ.out ?_
                          refine wpJ_tq 6 rfl HJ.out ?_
                          refine wpJ_tq 7 rfl HJ.out ?_
                          refine wpJ_tq 8 rfl HJ.out ?_
                          refine wpJ_on 9 rfl fun KJ hK => ?_
                          go_simp
                          refine (mark_ij i j HIM.out (Nat.lt_trans HJB.out (by decide))).mono ?_
                          rintro e w' ⟨rfl, hw⟩
                          obtain rfl := hw.symm
                          clear hw
                          rw [← hx.out]
                          clear HJ
                          have HJ : Hid ((fun W' : World => W'.cell? ⟨go, off + i, none⟩ = some (.slice (some ⟨bi, 0, none⟩) ni ni) ∧ W'.cell? ⟨bi, j, none⟩ = some (U x)) W1) := ⟨((hbw.cell (p := ⟨go, off + i, none⟩) (World.block_lt_of_cell? wl _ HCX.out)).trans HCX.out), ((hbw.cell (p := ⟨bi, j, none⟩) (World.block_lt_of_cell? wl _ HCF.out)).trans HCF.out)⟩
                          refine hK _ _ HJ.out ?_
                          clear hK
                          refine wpJ_tq 10 rfl HJ.out ?_
                          refine wpJ_done (by kernel_rfl) ?_ _
                          clear HJ
                          have wj : wrap64 ((j : Int) + 1) = ((j + 1 : Nat) : Int) := wj7 HJB.out
                          go_wp2_with fail
                          have hjb := HJB.out
                          go_roundg gg2
                          case measure => omega
                          case rel => exact ⟨j + 1, by omega, by go_num, hbw⟩
                    | zero =>
                      obtain rfl : N = i := by omega
                      have hnk : ¬ (N : Int) < (N : Int) := by omega
                      go_wp2_with fail
                      go_ret
                      exact ⟨rfl, HBZ.out.trans (hbw.mono (by have := HBZ.out.size; have := HB.out; omega))⟩
end Go.Proofs.YtkdpafliibclnaaDoor
