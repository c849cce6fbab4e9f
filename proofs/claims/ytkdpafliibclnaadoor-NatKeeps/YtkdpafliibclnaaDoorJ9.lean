import Derived.Test.YtkdpafliibclnaaDoorJ8
import Derived.Shelf.Bits.Mul64
import Derived.Laws.ResultCell
import Derived.Deep.RegionWith
import Derived.Deep.DeepCutAuto
import Derived.Deep.LoopGhost
import Derived.Test.YtkdpafliibclnaaDoorOpenS
import Derived.Deep.Slices
import Derived.WalkMore
namespace Go.Proofs.YtkdpafliibclnaaDoor
open Go.RowKit Go.Shelf
set_option maxRecDepth 20000
set_option maxHeartbeats 0
theorem B64_sq (k : Nat) : B64 ^ k = B32 ^ (2 * k) := by rw [Nat.pow_mul, show B32 ^ 2 = B64 from rfl]
structure RToR (w : World) (g N m : Nat) (ds : List Nat) (k : Nat) (us : List Nat) (wr : World) : Prop where
  bel : Below g w wr
  own : wr.ownsRow g 23 1 (.slice (some ⟨g, 0, none⟩) k N) k (cellsU us)
  len : us.length = k
  dig : Dig B64 us
  top : m ≤ 2 * k → Top us
  val : valB B64 us = valB B32 (ds.take (2 * k))
theorem rto_val {us ds : List Nat} {k x y : Nat} (h : valB B64 us = valB B32 (ds.take (2 * k))) (hl : us.length = k) (ex : x = ds.getD (2 * k) 0) (ey : y = ds.getD (2 * k + 1) 0) : valB B64 (us ++ [x + B32 * y]) = valB B32 (ds.take (2 * (k + 1))) := by
  rw [valB_snoc, hl, h, B64_sq, show 2 * (k + 1) = 2 * k + 1 + 1 by omega, valB_take_any _ ds (2 * k + 1), valB_take_any _ ds (2 * k), ← ex, ← ey, Nat.pow_succ, Nat.mul_add, Nat.mul_assoc]
  omega
theorem top_snoc (us : List Nat) {x : Nat} (h : x ≠ 0) : Top (us ++ [x]) := by
  intro z hz; simp at hz; omega
theorem own_at {wr : World} {g i N : Nat} {ss : List Nat} (ho : wr.ownsRow g 23 1 (.slice (some ⟨g, 0, none⟩) i N) i (cellsU ss)) (hl : ss.length = i) (hd : Dig B64 ss) : At wr (some ⟨g, 0, none⟩) i N ss := by
  rcases ho.2 with ⟨h', _⟩ | ⟨g', cap', cur, h', hbase, hgc, hcap', hmx, hsz, htake⟩
  · simp at h'
  · simp only [Value.slice.injEq, Option.some.injEq, Addr.mk.injEq, and_true, true_and] at h'
    obtain ⟨rfl, rfl⟩ := h'
    refine ⟨hl, hcap', hmx, hd, .inr ⟨g, 0, rfl, fun jj hj => ?_⟩⟩
    rw [Nat.zero_add, cell_of_row wr g jj _ _ _ hgc]
    have e1 := cellsU_get ss jj (by rw [hl]; exact hj)
    rw [← htake, Nat.mul_one, List.getElem?_take, if_pos hj] at e1
    rw [← Array.getElem?_toList]; exact e1
theorem one_cellU (w : World) (x : Nat) : ∀ (j : Nat) (u : Value), [U x][j]? = some u → (w.alloc (.cells #[U x] 23)).cell? ((⟨w.heap.size, 0, none⟩ : Addr).add j) = some u := by
  intro j u h
  have hb : Blk (w.alloc (.cells #[U x] 23)) w.heap.size [x] := heap_alloc_new w _
  have hj : j < 1 := by
    have := (List.getElem?_eq_some_iff.1 h).1
    simpa using this
  have hadd : (⟨w.heap.size, 0, none⟩ : Addr).add j = ⟨w.heap.size, j, none⟩ := by unfold Addr.add; split <;> simp_all
  rw [hadd, hb.cell j (by simpa using hj)]
  obtain rfl : j = 0 := by omega
  simpa using h

theorem rto_any {p : Option Addr} {n c : Nat} {xs : List Nat} {w : World} (h : At32 w p n c xs) (hn : n ≤ 35184372088832) :
    Calls Tryd.prog 58 #[.slice p n c] w fun e w' => ∃ g k N us, e = .returned (.slice (some ⟨g, 0, none⟩) k N) ∧ w.heap.size ≤ g ∧ At w' (some ⟨g, 0, none⟩) k N us ∧ Nf B64 us (valB B32 xs) ∧ Below w.heap.size w w' := by
  obtain ⟨i0, hi, hz0, hz1, hz2⟩ := info_parts Tryd.infoU64
  have HDG : Hid (Dig B32 xs) := h.dig
  have hlx := h.len
  have hle := trimL_length_le xs
  have hm0 : (trimL xs).length ≤ 35184372088832 := by omega
  have HV : Hid (valB B32 (trimL xs) = valB B32 xs) := valB_trimL _ _
  have HTOP : Hid (Top (trimL xs)) := Top_trimL xs
  have HDT : Hid (Dig B32 (trimL xs)) := h.dig.trimL
  clear hlx hle
  go_enter Tryd.func58, Tryd.ntmps58
  go_wp2_with fail
  refine (rnorm_any h (by omega)).mono ?_
  rintro e w0 ⟨gd, rfl, hgd, hblk, hb0⟩
  have A0 := hblk.at_ HDT.out rfl (by unfold maxLen; omega)
  generalize trimL xs = ds at *
  obtain ⟨m, hm⟩ : ∃ m, m = ds.length := ⟨_, rfl⟩
  rw [← hm] at A0 hm0 ⊢
  have HM : Hid (m = ds.length) := hm
  clear hm hblk h
  have hNi : (m : Int).tdiv 2 = ((m / 2 : Nat) : Int) := by rw [Int.tdiv_eq_ediv_of_nonneg (by omega)]; omega
  go_wp2_with (at_make; refine wpList_make_own _ rfl _ _ 24 rfl w0.heap.size 23 i0 (.int .u64 0) 1 Tryd.underlying24 hi hz0 hz1 _ _ _ (m / 2 + 1) rfl rfl (by omega) (by rw [hz2]; omega) (by unfold maxLen; omega) (Nat.le_refl _) ?_; intro w1 hown hgrow)
  have hb1 : Below w0.heap.size w0 w1 := (Below.refl _ _).grown hgrow (Nat.le_refl _) (fun k hk => by simp at hk)
  have HO : Hid (RToR w0 w0.heap.size (m / 2 + 1) m ds 0 [] w1) := ⟨hb1, hown, rfl, Dig.nil _, fun _ => by intro x hx; simp at hx, by simp [valB]⟩
  clear hown hgrow hb1 hNi
  obtain ⟨N, hN⟩ : ∃ N, N = m / 2 + 1 := ⟨_, rfl⟩
  rw [← hN] at HO ⊢
  have HN : Hid (N = m / 2 + 1) := hN
  have hNb : N ≤ 17592186044417 := by omega
  clear hN
  go_loopg [4, 5] N (fun gk lv iv wr => ∃ (k i : Nat) (us : List Nat), k + gk = N ∧ Hid (i = 2 * k) ∧ iv = .int .i64 i ∧ lv = .slice (some ⟨w0.heap.size, 0, none⟩) k N ∧ Hid (RToR w0 w0.heap.size N m ds k us wr))
  case atStart => exact ⟨0, 0, [], by omega, rfl, rfl, rfl, HO⟩
  case round =>
    obtain ⟨k, i, us, hkg, HI, rfl, rfl, HR⟩ := hrel
    by_cases him : i < m
    · have hsp : k + 1 ≤ N := by have := HI.out; have := HN.out; omega
      obtain ⟨x, hx⟩ : ∃ x, x = ds.getD i 0 := ⟨_, rfl⟩
      obtain ⟨y, hy⟩ : ∃ y, y = ds.getD (i + 1) 0 := ⟨_, rfl⟩
      have hxb : x < B32 := by rw [hx]; exact HDT.out.getD B32_pos i
      have hyb : y < B32 := by rw [hy]; exact HDT.out.getD B32_pos (i + 1)
      rw [B32_eq] at hxb hyb
      have c0 : w0.cell? ⟨gd, i, none⟩ = some (V x) := by
        have := A0.cellAt i (by omega)
        rw [Nat.zero_add] at this
        rw [hx]; exact this
      have c1 : wr.cell? ⟨gd, i, none⟩ = some (V x) := (HR.out.bel.cell (p := ⟨gd, i, none⟩) (World.block_lt_of_cell? w0 _ c0)).trans c0
      have hxw : IntKind.u64.wrap (x : Int) = (x : Int) := wrap_mod _ _ (by omega)
      have hyw : IntKind.u64.wrap (y : Int) = (y : Int) := wrap_mod _ _ (by omega)
      obtain ⟨yh, eyh⟩ : ∃ yh, yh = 4294967296 * y := ⟨_, rfl⟩
      have f1 : IntKind.u64.wrap ((y : Int) * 4294967296) = (yh : Int) := wrap_mod _ _ (by omega)
      obtain ⟨ww, eww⟩ : ∃ ww, ww = x + yh := ⟨_, rfl⟩
      have f2 : IntKind.u64.wrap ((x : Int) + (yh : Int)) = (ww : Int) := wrap_mod _ _ (by omega)
      have hwb : ww < B64 := by rw [B64_eq]; omega
      have EW : Hid (ww = x + B32 * y) := by show _ = _; rw [B32_eq]; omega
      have HXE : Hid (x = ds.getD (2 * k) 0) := by rw [← HI.out]; exact hx
      have HYE : Hid (y = ds.getD (2 * k + 1) 0) := by rw [← HI.out]; exact hy
      have HTT : Hid (m ≤ 2 * (k + 1) → ww ≠ 0) := by
        intro hle
        have hi2 := HI.out
        by_cases h1 : i + 1 < m
        · have : y ≠ 0 := by
            refine HTOP.out y ?_
            rw [List.getLast?_eq_getElem?, ← HM.out, show m - 1 = i + 1 by omega, hy, List.getD_eq_getElem?_getD, List.getElem?_eq_getElem (by have := HM.out; omega)]; rfl
          omega
        · have : x ≠ 0 := by
            refine HTOP.out x ?_
            rw [List.getLast?_eq_getElem?, ← HM.out, show m - 1 = i by omega, hx, List.getD_eq_getElem?_getD, List.getElem?_eq_getElem (by have := HM.out; omega)]; rfl
          omega
      have HOA : Hid ((wr.alloc (.cells #[U ww] 23)).ownsRow w0.heap.size 23 1 (.slice (some ⟨w0.heap.size, 0, none⟩) k N) k (cellsU us)) := HR.out.own.alloc _
      by_cases h1 : i + 1 < m
      · have d0 : w0.cell? ⟨gd, i + 1, none⟩ = some (V y) := by
          have := A0.cellAt (i + 1) (by omega)
          rw [Nat.zero_add] at this
          rw [hy]; exact this
        have d1 : wr.cell? ⟨gd, i + 1, none⟩ = some (V y) := (HR.out.bel.cell (p := ⟨gd, i + 1, none⟩) (World.block_lt_of_cell? w0 _ d0)).trans d0
        clear hx hy c0 d0 eyh eww hxb hyb
        go_wp2_with (at_builtin; refine wpList_append_fits _ rfl (.tmp 39) (.tmp 41) 24 rfl w0.heap.size 23 i0 1 Tryd.underlying24 hi hz1 w0.heap.size k N (cellsU us) rfl HOA.out ⟨wr.heap.size, 0, none⟩ 1 1 [U ww] rfl rfl (one_cellU wr ww) (by intro u hu; simp at hu; subst hu; rfl) hsp ?_; intro w3 hw3 hgr3)
        have HR3 : Hid (RToR w0 w0.heap.size N m ds (k + 1) (us ++ [ww]) w3) := by
          have hR := HR.out
          refine ⟨(hR.bel.alloc hR.bel.size _).grown hgr3 (by have := hR.bel.size; simp; omega) (fun q hq => by simp at hq; omega), ?_, by simp [hR.len], hR.dig.append (dig1 hwb), fun hle => top_snoc us (HTT.out hle), ?_⟩
          · have e0 : cellsU (us ++ [ww]) = cellsU us ++ [U ww] := by unfold cellsU; rw [List.map_append]; rfl
            rw [e0]; exact hw3
          · rw [EW.out]; exact rto_val hR.val hR.len HXE.out HYE.out
        clear hw3 hgr3
        go_roundg (gk - 1)
        case measure => omega
        case rel => exact ⟨k + 1, i + 2, us ++ [ww], by omega, by have := HI.out; show _ = _; omega, by go_num, rfl, HR3⟩
      · have hy0 : y = 0 := by rw [hy, List.getD_eq_getElem?_getD, List.getElem?_eq_none (by have := HM.out; omega)]; rfl
        have eyx : ww = x := by omega
        subst eyx
        clear hx hy c0 eyh eww hxb hyb f1 f2 hyw
        go_wp2_with (at_builtin; refine wpList_append_fits _ rfl (.tmp 39) (.tmp 41) 24 rfl w0.heap.size 23 i0 1 Tryd.underlying24 hi hz1 w0.heap.size k N (cellsU us) rfl HOA.out ⟨wr.heap.size, 0, none⟩ 1 1 [U ww] rfl rfl (one_cellU wr ww) (by intro u hu; simp at hu; subst hu; rfl) hsp ?_; intro w3 hw3 hgr3)
        have HR3 : Hid (RToR w0 w0.heap.size N m ds (k + 1) (us ++ [ww]) w3) := by
          have hR := HR.out
          refine ⟨(hR.bel.alloc hR.bel.size _).grown hgr3 (by have := hR.bel.size; simp; omega) (fun q hq => by simp at hq; omega), ?_, by simp [hR.len], hR.dig.append (dig1 hwb), fun hle => top_snoc us (HTT.out hle), ?_⟩
          · have e0 : cellsU (us ++ [ww]) = cellsU us ++ [U ww] := by unfold cellsU; rw [List.map_append]; rfl
            rw [e0]; exact hw3
          · rw [EW.out]; exact rto_val hR.val hR.len HXE.out HYE.out
        clear hw3 hgr3
        go_roundg (gk - 1)
        case measure => omega
        case rel => exact ⟨k + 1, i + 2, us ++ [ww], by omega, by have := HI.out; show _ = _; omega, by go_num, rfl, HR3⟩
    · have hR := HR.out
      have hi2 := HI.out
      have AT := own_at hR.own hR.len hR.dig
      have HNF : Hid (Nf B64 us (valB B32 xs)) := by
        refine ⟨hR.dig, hR.top (by omega), ?_⟩
        have hv := hR.val
        rw [List.take_of_length_le (by have := HM.out; omega), HV.out] at hv; exact hv
      have hbx := Below.on hb0 hR.bel
      have hgz := hb0.size
      clear hR hi2
      go_wp2_with fail
      go_ret
      exact ⟨_, k, N, us, rfl, by omega, AT, HNF.out, hbx⟩
-- the document's side
theorem LIM_32 {J : Nat} (hJ : J = 16384) : LIM = B32 ^ J := by
  obtain ⟨K, hK⟩ : ∃ K, K = 8192 := ⟨8192, rfl⟩
  rw [LIM_eq K hK, B64_sq]
  have : 2 * K = J := by omega
  rw [this]
theorem nf32_lt {zs : List Nat} {v K : Nat} (h : Nf B32 zs v) (hl : zs.length ≤ K) : v < B32 ^ K := by
  rw [← h.val]
  exact Nat.lt_of_lt_of_le (valB_lt B32_pos h.dig) (Nat.pow_le_pow_right B32_pos hl)
theorem nf32_ge {zs : List Nat} {v K : Nat} (h : Nf B32 zs v) (hl : K < zs.length) : B32 ^ K ≤ v := by
  rw [← h.val]
  exact Nat.le_trans (Nat.pow_le_pow_right B32_pos (by omega)) (valB_pos B32_pos (by intro e; rw [e] at hl; simp at hl) h.top)

theorem B32_pow (k : Nat) : B32 ^ k = 2 ^ (32 * k) := by rw [show B32 = 2 ^ 32 from rfl, ← Nat.pow_mul]
theorem bitsN_list32 {us : List Nat} {m x : Nat} (hd : Dig B32 us) (ht : Top us) (hl : us.length = m) (hm : m ≠ 0) (hx : x = us.getD (m - 1) 0) : bitsN (valB B32 us) = 32 * (m - 1) + bitsN x := by
  have h1 := valB_lt B32_pos (hd.take (m - 1))
  rw [List.length_take, hl, Nat.min_eq_left (by omega), B32_pow] at h1
  have hx0 : x ≠ 0 := by
    rw [hx]
    refine ht _ ?_
    rw [List.getLast?_eq_getElem?, hl, List.getD_eq_getElem?_getD, List.getElem?_eq_getElem (by omega)]; rfl
  have e : valB B32 us = valB B32 (us.take (m - 1)) + B32 ^ (m - 1) * x := by
    have := valB_take_succ B32 us (m - 1) (by omega)
    rw [show m - 1 + 1 = m by omega, List.take_of_length_le (by omega), ← hx] at this
    exact this
  rw [e, B32_pow]
  exact bitsN_top h1 (bitsN_lt x) (bitsN_le x hx0) (by unfold bitsN; rw [if_neg hx0]; omega)
theorem half_int (g : Nat) : (g : Int).tdiv 2 = ((g / 2 : Nat) : Int) := by
  rw [Int.tdiv_eq_ediv_of_nonneg (Int.natCast_nonneg g)]; omega

theorem rbits_any {p : Option Addr} {n c : Nat} {zs : List Nat} {v : Nat} {w : World} (h : At32 w p n c zs) (hx : Nf B32 zs v) (hn : n ≤ 35184372088832) :
    Calls Tryd.prog 73 #[.slice p n c] w fun e w' => e = .returned (.int .i64 (bitsN v)) ∧ w' = w := by
  have hl := h.len; have hcap := h.cap; have hbig := h.big
  unfold maxLen at hbig
  by_cases h0 : n = 0
  · subst h0
    have hv : v = 0 := by rw [← hx.val]; rw [List.eq_nil_of_length_eq_zero hl]; rfl
    subst hv
    clear hx
    go_enter Tryd.func73, Tryd.ntmps73
    go_wp2_with fail
    go_ret
    exact ⟨rfl, rfl⟩
  · obtain ⟨g, off, rfl, hc⟩ := h.cells.resolve_left h0
    obtain ⟨x, hx0⟩ : ∃ x, x = zs.getD (n - 1) 0 := ⟨_, rfl⟩
    have hcx : w.cell? ⟨g, off + (n - 1), none⟩ = some (V x) := by rw [hx0]; exact hc _ (by omega)
    have hxl : x < B32 := by
      rw [hx0, List.getD_eq_getElem?_getD, List.getElem?_eq_getElem (by omega)]
      exact h.dig _ (List.getElem_mem _)
    obtain ⟨T, hT⟩ : ∃ T, T = 32 * (n - 1) + bitsN x := ⟨_, rfl⟩
    have HT : Hid (bitsN v = T) := by show _ = _; rw [← hx.val, hT]; exact bitsN_list32 hx.dig hx.top hl h0 hx0
    have HX : Hid (x < B32) := hxl
    have HTT : Hid (T = 32 * (n - 1) + bitsN x) := hT
    obtain ⟨M, hM⟩ : ∃ M, M = n - 1 := ⟨_, rfl⟩
    have hn1 : (n : Int) - 1 = (M : Int) := by omega
    have h0' : ((n : Int) == 0) = false := by simp; omega
    rw [← hM] at hcx
    have HM : Hid (M = n - 1) := hM
    have hMl : M < n := by omega
    clear hx hl hc hx0 hxl hT h hM
    go_enter Tryd.func73, Tryd.ntmps73
    go_wp2_with fail
    have hTb : T ≤ 1200000000000000 := by
      have h1 := HTT.out
      have h2 : bitsN x ≤ 32 := by
        rcases Nat.lt_or_ge 32 (bitsN x) with e | e
        · exfalso
          have h3 : x ≠ 0 := by intro e0; rw [e0, bitsN_zero] at e; omega
          have h4 := bitsN_le x h3
          have h5 : (2:Nat) ^ 32 ≤ 2 ^ (bitsN x - 1) := Nat.pow_le_pow_right (by decide) (by omega)
          have h6 := HX.out
          rw [B32_eq] at h6
          omega
        · exact e
      omega
    go_loopg [3, 4] x (fun gk nv wv wr => ∃ N : Nat, nv = .int .i64 N ∧ wv = .int .u32 gk ∧ N + bitsN gk = T ∧ gk < B32 ∧ wr = w)
    case atStart => exact ⟨32 * M, by first | rfl | (congr 1; omega) | (simp; omega), rfl, by rw [HTT.out, HM.out], HX.out, rfl⟩
    case round =>
      obtain ⟨N, rfl, rfl, hNT, hgB, hwr⟩ := hrel
      obtain rfl := hwr.symm
      clear hwr
      by_cases hg0 : gk = 0
      · subst hg0
        rw [bitsN_zero] at hNT
        have HNT : Hid (N = T) := by show _ = _; omega
        clear hNT hgB
        go_wp2_with fail
        go_ret
        exact ⟨by rw [HT.out, ← HNT.out]; rfl, rfl⟩
      · have hb := bitsN_half gk hg0
        have hN1 : N + 1 ≤ 1200000000000000 := by omega
        have hgp : (0 : Int) < (gk : Int) := by omega
        have hh := half_int gk
        obtain ⟨k2, hk2⟩ : ∃ k2, k2 = gk / 2 := ⟨_, rfl⟩
        rw [← hk2] at hh hb
        have HK2 : Hid (k2 < gk ∧ N + 1 + bitsN k2 = T ∧ k2 < B32) := ⟨by omega, by omega, by omega⟩
        have hw2 : IntKind.u32.wrap (k2 : Int) = (k2 : Int) := wrap32 k2 (by omega)
        clear hb hNT hgB hk2 hg0
        go_wp2_with fail
        go_roundg k2
        case measure => exact HK2.out.1
        case rel => exact ⟨N + 1, by first | rfl | simp, by first | rfl | simp, HK2.out.2.1, HK2.out.2.2, rfl⟩

def DocIs (v : Nat) (us : List Nat) (f : Int) : Prop := (v < LIM ∧ Nf B64 us v ∧ f = 0) ∨ (LIM ≤ v ∧ us = [] ∧ f = 5)
def renMul : Ren := ⟨fun x => match x with | 264 => 81 | n => n, fun x => match x with | 53 => 23 | 46 => 70 | n => n, fun n => n⟩
theorem laysMul : Lays.n264 Tryd.prog renMul :=
  { mixed := by kernel_rfl, f264 := Tryd.func81.trans (congrArg some (by kernel_rfl)),
    t46 := Tryd.underlying70, a46 := Tryd.isAgg70, z46 := Tryd.sizeOf70, v46 := Tryd.zeroValue70, t53 := Tryd.underlying23, a53 := Tryd.isAgg23, z53 := Tryd.sizeOf23, v53 := Tryd.zeroValue23 }

theorem mul64_ex (x y : Nat) (hx : x < B64) (hy : y < B64) : ∃ hi lo, (∀ w : World, Calls Tryd.prog 81 #[U x, U y] w fun e w' => e = .returned (.tuple #[U hi, U lo]) ∧ w' = w) ∧ x * y = lo + B64 * hi ∧ lo < B64 := by
  refine ⟨x * y / 18446744073709551616, x * y % 18446744073709551616, fun w => ?_, ?_, ?_⟩
  · rw [B64_eq] at hx hy
    exact Any.bits_Mul64 laysMul x y hx hy w
  · rw [B64_eq]; exact (Nat.mod_add_div _ _).symm
  · rw [B64_eq]; exact Nat.mod_lt _ (by decide)

theorem Row.snoc {w : World} {g off m : Nat} {zs : List Nat} (h : Row w g off m zs) {y : Nat} (hc : w.cell? ⟨g, off + m, none⟩ = some (U y)) (hf : w.frozen? ⟨g, off + m, none⟩ = false) (hy : y < B64) : Row w g off (m + 1) (zs ++ [y]) := by
  have hl := h.len
  refine ⟨by simp; omega, h.dig.append (dig1 hy), fun j hj => ?_, fun j hj => ?_⟩
  · by_cases e : j = m
    · subst e
      rw [List.getD_eq_getElem?_getD, List.getElem?_append_right (by omega)]
      simpa [hl] using hc
    · rw [List.getD_eq_getElem?_getD, List.getElem?_append_left (by omega), ← List.getD_eq_getElem?_getD]
      exact h.cell j (by omega)
  · by_cases e : j = m
    · subst e; exact hf
    · exact h.frozen j (by omega)

theorem amul_limb {x y z cy hi lo l1 c1 l2 c2 : Nat} (hx : x < B64) (hy : y < B64) (hz : z < B64) (hc : cy < B64) (h1 : x * y = lo + B64 * hi) (h2 : lo + z + 0 = l1 + B64 * c1) (h3 : l1 + cy + 0 = l2 + B64 * c2) :
    hi + c1 + c2 < B64 ∧ x * y + z + cy = l2 + B64 * (hi + c1 + c2) := by
  have e : x * y + z + cy = l2 + B64 * (hi + c1 + c2) := by rw [Nat.mul_add, Nat.mul_add]; omega
  refine ⟨?_, e⟩
  have a1 : x * y ≤ (B64 - 1) * (B64 - 1) := Nat.mul_le_mul (by omega) (by omega)
  have a2 : (B64 - 1) * (B64 - 1) + 2 * (B64 - 1) < B64 * B64 := by decide
  have a3 : B64 * (hi + c1 + c2) < B64 * B64 := by omega
  exact Nat.lt_of_mul_lt_mul_left a3

structure MulRel (w : World) (g off m : Nat) (zs ys : List Nat) (v k cy : Nat) (dk : List Nat) (wr : World) : Prop where
  wrs : Wr g off m w wr
  row : Row wr g off m dk
  hi : dk.drop k = zs.drop k
  car : cy < B64
  sum : valB B64 (dk.take k) + B64 ^ k * cy = valB B64 (zs.take k) + valB B64 (ys.take k) * v

theorem MulRel.step {w : World} {g off m : Nat} {zs ys : List Nat} {v k cy : Nat} {dk : List Nat} {wr : World} (h : MulRel w g off m zs ys v k cy dk wr) (hk : k < m)
    {x z l d : Nat} (hz : z = dk.getD k 0) (hx : x = ys.getD k 0) (hs : x * v + z + cy = l + B64 * d) (hl : l < B64) (hd : d < B64) :
    MulRel w g off m zs ys v (k + 1) d (dk.set k l) (wr.setCell ⟨g, off + k, none⟩ (U l)) := by
  have hlen := h.row.len
  refine ⟨h.wrs.setCell (off + k) ⟨by omega, by omega⟩ _, h.row.set k l hk hl, ?_, hd, ?_⟩
  · rw [drop_set_lt]; exact drop_succ_of_drop h.hi
  · have hzz : z = zs.getD k 0 := hz.trans (getD_of_drop h.hi)
    rw [take_set_succ dk k l (by omega), valB_snoc, List.length_take, hlen, Nat.min_eq_left (by omega), valB_take_any _ zs k, valB_take_any _ ys k, ← hzz, ← hx, Nat.pow_succ, Nat.add_mul]
    have e1 := h.sum
    have e2 : B64 ^ k * (x * v + z + cy) = B64 ^ k * (l + B64 * d) := by rw [hs]
    rw [Nat.mul_add, Nat.mul_add, Nat.mul_add, ← Nat.mul_assoc] at e2
    have e3 : B64 ^ k * x * v = B64 ^ k * (x * v) := Nat.mul_assoc _ _ _
    have e4 : B64 ^ k * B64 * d = B64 ^ k * (B64 * d) := Nat.mul_assoc _ _ _
    rw [e3, e4]
    rw [← Nat.mul_assoc] at e2
    generalize B64 ^ k * x * v = X0 at *
    generalize B64 ^ k * (x * v) = X1 at *
    generalize B64 ^ k * B64 * d = X2 at *
    generalize B64 ^ k * (B64 * d) = X3 at *
    generalize B64 ^ k * z = X4 at *
    generalize B64 ^ k * cy = X5 at *
    generalize B64 ^ k * l = X6 at *
    omega

theorem amul_any (g off n c : Nat) (zs : List Nat) (p : Option Addr) (m d : Nat) (ys : List Nat) (v : Nat) (w : World) (hz : Row w g off m zs) (hmn : m ≤ n) (hnc : n ≤ c) (_hbig : c ≤ 9223372036854775807)
    (ha : At w p m d ys) (hv : v < B64) (hap : ∀ g2 off2, 0 < m → p = some ⟨g2, off2, none⟩ → g2 ≠ g ∨ off2 + m ≤ off ∨ off + m ≤ off2) :
    Calls Tryd.prog 71 #[.slice (some ⟨g, off, none⟩) n c, .slice p m d, U v] w fun e w' =>
      ∃ cy zs', e = .returned (U cy) ∧ cy < B64 ∧ Wr g off m w w' ∧ Row w' g off m zs' ∧ valB B64 zs' + B64 ^ m * cy = valB B64 zs + valB B64 ys * v := by
  have hl := hz.len; have al := ha.len; have acap := ha.cap; have abig := ha.big
  unfold maxLen at abig
  go_enter Tryd.func71, Tryd.ntmps71
  go_wp2_with fail
  go_loopw [7, 8, 9, 10, 11, 18] (fun cv _ _ _ _ i wr => ∃ (k cy : Nat) (dk : List Nat), k ≤ m ∧ i = .int .i64 k ∧ cv = U cy ∧ MulRel w g off m zs ys v k cy dk wr) (fun _ _ _ _ _ i _ => m - (intOf i).toNat)
  case atStart => exact ⟨0, 0, zs, Nat.zero_le _, rfl, rfl, ⟨Wr.refl _ _ _ _, hz, rfl, B64_pos, by simp [valB]⟩⟩
  case round =>
    obtain ⟨k, cy, dk, hk, rfl, rfl, hR⟩ := hrel
    by_cases hlt : k < m
    · obtain ⟨g2, off2, rfl, hc2⟩ := ha.cells.resolve_left (by omega)
      obtain ⟨z, hzz⟩ : ∃ z, z = dk.getD k 0 := ⟨_, rfl⟩
      obtain ⟨x, hx⟩ : ∃ x, x = ys.getD k 0 := ⟨_, rfl⟩
      have hcz : wr.cell? ⟨g, off + k, none⟩ = some (U z) := by rw [hzz]; exact hR.row.cell k (by omega)
      have hfz : wr.frozen? ⟨g, off + k, none⟩ = false := hR.row.frozen k (by omega)
      have hcx : wr.cell? ⟨g2, off2 + k, none⟩ = some (U x) := by
        rw [hx, hR.wrs.cell g2 (off2 + k) (by have := hap g2 off2 (by omega) rfl; omega)]; exact hc2 k hlt
      have hzb : z < B64 := by rw [hzz]; exact hR.row.dig.getD B64_pos k
      have hxb : x < B64 := by rw [hx]; exact ha.dig.getD B64_pos k
      obtain ⟨hi, lo, hmul, em, hlo⟩ := mul64_ex x v hxb hv
      obtain ⟨l1, c1, hrun10, e1, hl1, hc1⟩ := add64_ex lo z 0 hlo hzb (by omega)
      obtain ⟨l2, c2, hrun20, e2, hl2, hc2'⟩ := add64_ex l1 cy 0 hl1 hR.car (by omega)
      obtain ⟨hfit, hsum⟩ := amul_limb hxb hv hzb hR.car em e1 e2
      have hrun1 : ∀ w : World, (callFunc 54 #[U lo, U z, .int .u64 0]).run Tryd.prog w = .ok (.value (.tuple #[U l1, U c1])) w := hrun10
      have hrun2 : ∀ w : World, (callFunc 54 #[U l1, U cy, .int .u64 0]).run Tryd.prog w = .ok (.value (.tuple #[U l2, U c2])) w := hrun20
      have hf1 : hi + c1 + c2 ≤ 18446744073709551615 := by rw [B64_eq] at hfit; omega
      have HR : Hid (MulRel w g off m zs ys v k cy dk wr) := hR
      have HX : Hid (x = ys.getD k 0) := hx
      have HZ : Hid (z = dk.getD k 0) := hzz
      have HS : Hid (x * v + z + cy = l2 + B64 * (hi + c1 + c2)) := hsum
      have HM : Hid (∀ w : World, Calls Tryd.prog 81 #[U x, U v] w fun e w' => e = .returned (.tuple #[U hi, U lo]) ∧ w' = w) := hmul
      clear hR hx hzz hsum hmul hc2 hrun10 hrun20 em e1 e2 hc1 hc2'
      go_wp2_with (go_at_call 81; refine (HM.out _).mono ?_; rintro e w' ⟨rfl, hw⟩; obtain rfl := hw.symm; clear hw)
      go_roundw
      case rel => exact ⟨k + 1, hi + c1 + c2, dk.set k l2, by omega, by go_num, by go_num, HR.out.step hlt HZ.out HX.out HS.out hl2 hfit⟩
      case measure => simp [intOf]; omega
    · obtain rfl : k = m := by omega
      have HR : Hid (MulRel w g off k zs ys v k cy dk wr) := hR
      clear hR
      go_wp2_with fail
      go_ret
      have hh := HR.out
      have h1 := hh.sum
      have h2 := hh.row.len
      rw [List.take_of_length_le (by omega), List.take_of_length_le (by omega), List.take_of_length_le (by omega)] at h1
      exact ⟨cy, dk, rfl, hh.car, hh.wrs, hh.row, h1⟩
structure SubMulRel (w : World) (g off m : Nat) (zs ys : List Nat) (v k cy : Nat) (dk : List Nat) (wr : World) : Prop where
  wrs : Wr g off m w wr
  row : Row wr g off m dk
  hi : dk.drop k = zs.drop k
  car : cy < B64
  sum : valB B64 (zs.take k) + B64 ^ k * cy = valB B64 (dk.take k) + valB B64 (ys.take k) * v

theorem SubMulRel.step {w : World} {g off m : Nat} {zs ys : List Nat} {v k cy : Nat} {dk : List Nat} {wr : World} (h : SubMulRel w g off m zs ys v k cy dk wr) (hk : k < m)
    {x z l d : Nat} (hz : z = dk.getD k 0) (hx : x = ys.getD k 0) (hs : l + x * v + cy = z + B64 * d) (hl : l < B64) (hd : d < B64) :
    SubMulRel w g off m zs ys v (k + 1) d (dk.set k l) (wr.setCell ⟨g, off + k, none⟩ (U l)) := by
  have hlen := h.row.len
  refine ⟨h.wrs.setCell (off + k) ⟨by omega, by omega⟩ _, h.row.set k l hk hl, ?_, hd, ?_⟩
  · rw [drop_set_lt]; exact drop_succ_of_drop h.hi
  · have hzz : z = zs.getD k 0 := hz.trans (getD_of_drop h.hi)
    rw [take_set_succ dk k l (by omega), valB_snoc, List.length_take, hlen, Nat.min_eq_left (by omega), valB_take_any _ zs k, valB_take_any _ ys k, ← hzz, ← hx, Nat.pow_succ, Nat.add_mul]
    have e1 := h.sum
    have e2 : B64 ^ k * (l + x * v + cy) = B64 ^ k * (z + B64 * d) := by rw [hs]
    rw [Nat.mul_add, Nat.mul_add, Nat.mul_add, ← Nat.mul_assoc] at e2
    have e3 : B64 ^ k * x * v = B64 ^ k * (x * v) := Nat.mul_assoc _ _ _
    have e4 : B64 ^ k * B64 * d = B64 ^ k * (B64 * d) := Nat.mul_assoc _ _ _
    rw [e3, e4]
    rw [← Nat.mul_assoc] at e2
    generalize B64 ^ k * x * v = X0 at *
    generalize B64 ^ k * (x * v) = X1 at *
    generalize B64 ^ k * B64 * d = X2 at *
    generalize B64 ^ k * (B64 * d) = X3 at *
    generalize B64 ^ k * z = X4 at *
    generalize B64 ^ k * cy = X5 at *
    generalize B64 ^ k * l = X6 at *
    omega
end Go.Proofs.YtkdpafliibclnaaDoor
namespace Go.Proofs.YtkdpafliibclnaaDoor
open Go.RowKit
set_option maxRecDepth 20000
set_option maxHeartbeats 0
theorem bits64 {y : Nat} (h : y < B64) : bitsN y ≤ 64 := by
  by_cases e : y = 0
  · subst e; simp [bitsN]
  · have h1 := bitsN_le y e
    have h2 : bitsN y - 1 < 64 := (Nat.pow_lt_pow_iff_right (by decide : 1 < 2)).1 (Nat.lt_of_le_of_lt h1 (by rw [B64_p] at h; exact h))
    omega
theorem split32 (v : Nat) : v / 4294967296 * 4294967296 + v % 4294967296 = v := by omega
theorem quo_unique {n q y r : Nat} (h : n = q * y + r) (hr : r < y) : q = n / y ∧ r = n % y := by
  have hy : 0 < y := by omega
  have h1 : n = r + y * q := by rw [h, Nat.mul_comm]; omega
  constructor
  · rw [h1, Nat.add_mul_div_left _ _ hy, Nat.div_eq_of_lt hr, Nat.zero_add]
  · rw [h1, Nat.add_mul_mod_self_left, Nat.mod_eq_of_lt hr]

theorem div64_big (hi lo y : Nat) (w : World) (hh : hi ≠ 0) (hhy : hi < y) (hyb : y < B64) (hlo : lo < B64) :
    Calls Tryd.prog 72 #[U hi, U lo, U y] w fun e w' => e = .returned (.tuple #[U ((hi * B64 + lo) / y), U ((hi * B64 + lo) % y)]) ∧ w' = w := by
  obtain ⟨s, hs⟩ : ∃ s, s + bitsN y = 64 := ⟨64 - bitsN y, by have := bits64 hyb; omega⟩
  have hy0 : y ≠ 0 := by omega
  have hs64 : s < 64 := by
    have : bitsN y ≠ 0 := by unfold bitsN; rw [if_neg hy0]; omega
    omega
  obtain ⟨nY, nY2⟩ := norm_y hy0 hs
  have hP := Nat.two_pow_pos s
  have hhs : hi * 2 ^ s < y * 2 ^ s := Nat.mul_lt_mul_of_pos_right hhy hP
  have hls := shrW_lt lo s (by omega) hlo
  have hlse := shrW_eq lo s (by omega)
  have hjoin : (hi * 2 ^ s + lo / 2 ^ (64 - s)) * B64 + shlW lo s = 2 ^ s * (hi * B64 + lo) := by
    have e1 := Nat.mod_add_div (lo * 2 ^ s) B64
    rw [hlse, Nat.add_mul, Nat.mul_add]
    unfold shlW
    have e2 : hi * 2 ^ s * B64 = 2 ^ s * (hi * B64) := by rw [Nat.mul_comm hi, Nat.mul_assoc]
    rw [e2, Nat.mul_comm (lo * 2 ^ s / B64), Nat.mul_comm (2 ^ s) lo]
    generalize B64 * (lo * 2 ^ s / B64) = X1 at *
    generalize lo * 2 ^ s % B64 = X2 at *
    generalize lo * 2 ^ s = X3 at *
    omega
  have huY : hi * 2 ^ s + lo / 2 ^ (64 - s) < y * 2 ^ s := by
    have e1 : (hi + 1) * 2 ^ s ≤ y * 2 ^ s := Nat.mul_le_mul_right _ hhy
    rw [Nat.add_mul, Nat.one_mul] at e1
    omega
  obtain ⟨Y, hY⟩ : ∃ Y, Y = y * 2 ^ s := ⟨_, rfl⟩
  obtain ⟨u, hu⟩ : ∃ u, u = hi * 2 ^ s + lo / 2 ^ (64 - s) := ⟨_, rfl⟩
  obtain ⟨v, hv⟩ : ∃ v, v = shlW lo s := ⟨_, rfl⟩
  have hvb : v < 18446744073709551616 := by rw [hv, ← B64_eq]; exact shlW_lt lo s
  rw [← hY] at nY nY2 huY
  rw [← hu] at huY hjoin
  rw [← hv] at hjoin
  have hsplitY := split32 Y
  have HC : KnC (Y / 4294967296) (Y % 4294967296) u (v / 4294967296) := ⟨by omega, by omega, by rw [hsplitY]; exact huY, by omega⟩
  have hin := Kn.init HC
  have hq := hin.le
  have hle := Nat.div_mul_le_self u (Y / 4294967296)
  have hml := Nat.mod_lt u (show 0 < Y / 4294967296 by omega)
  have hdm := Nat.div_add_mod u (Y / 4294967296)
  rw [Nat.mul_comm] at hdm
  have hub : u < 18446744073709551616 := by omega
  have eY : IntKind.u64.wrap ((y : Int) * 2 ^ s) = (Y : Int) := by
    rw [wrap_nat, hY]; unfold shlW; rw [Nat.mod_eq_of_lt (by rw [B64_eq, ← hY]; exact nY)]
  have ehs : IntKind.u64.wrap ((hi : Int) * 2 ^ s) = ((hi * 2 ^ s : Nat) : Int) := by
    rw [wrap_nat]; unfold shlW; rw [Nat.mod_eq_of_lt (by rw [B64_eq]; rw [← hY] at hhs; omega)]
  have eu : bits .or .u64 ((hi * 2 ^ s : Nat) : Int) ((lo / 2 ^ (64 - s) : Nat) : Int) = (u : Int) := by
    rw [walk_or _ _ (by rw [B64_eq]; rw [← hY] at hhs; omega) (by rw [B64_eq]; omega), Nat.mul_comm hi, or_low s _ _ hls, hu, Nat.mul_comm hi]
  refine (div64_walk hi lo y s Y (Y / 4294967296) (Y % 4294967296) (hi * 2 ^ s) (lo / 2 ^ (64 - s)) u v (v / 4294967296) (v % 4294967296) (u / (Y / 4294967296)) (u / (Y / 4294967296) * (Y / 4294967296)) (u - u / (Y / 4294967296) * (Y / 4294967296)) w
    (by simp; omega) (by simp; omega) hhy hyb hs hs64 eY (div32 Y) (and32 Y nY) ehs (div_nat lo (64 - s)) eu (by rw [wrap_nat, hv]) (div32 v) (and32 v hvb) (Int.natCast_ediv _ _).symm (Int.natCast_mul _ _).symm (by omega) hq (by omega) (by omega) (by omega) (by omega) (by omega) (by omega) (by omega)
    HC hin hsplitY.symm nY).mono ?_
  rintro e w' ⟨q1, q0, r1, r0, rfl, hw, k1, k0⟩
  refine ⟨?_, hw⟩
  have e1 := k1.eq
  have e0 := k0.eq
  have er := k0.rlt
  rw [hsplitY] at e1 e0 er
  have ej := kn_join e1 e0
  rw [split32 v, show (4294967296 : Nat) * 4294967296 = B64 from rfl, hjoin, hY] at ej
  rw [hY] at er
  obtain ⟨f1, f2⟩ := kn_scale hP ej er
  obtain ⟨g1, g2⟩ := quo_unique f1 f2
  have g3 : jq q1 q0 = (hi * B64 + lo) / y := g1
  rw [g3, g2]

theorem div64_any (hi lo y : Nat) (w : World) (hhy : hi < y) (hyb : y < B64) (hlo : lo < B64) :
    Calls Tryd.prog 72 #[U hi, U lo, U y] w fun e w' => e = .returned (.tuple #[U ((hi * B64 + lo) / y), U ((hi * B64 + lo) % y)]) ∧ ∃ r, w' = w.drewN r := by
  by_cases hh : hi = 0
  · subst hh
    rw [Nat.zero_mul, Nat.zero_add]
    exact div64_zero lo y w (by simp; omega) hlo
  · exact (div64_big hi lo y w hh hhy hyb hlo).mono fun e w' h => ⟨h.1, 0, h.2⟩
end Go.Proofs.YtkdpafliibclnaaDoor
namespace Go.Proofs.YtkdpafliibclnaaDoor
open Go.RowKit Go.Shelf
set_option maxRecDepth 20000
set_option maxHeartbeats 0
theorem trial_step {q d l f s w0 w1 w2 : Nat} (h : q * (s + B64 * f) ≤ w0 + B64 * (w1 + B64 * w2)) (hi : d * f + l = w1 + B64 * w2) (hg : l * B64 + w0 < d * s) : q < d := by
  have h1 : d * (s + B64 * f) = d * s + B64 * (d * f) := by rw [Nat.mul_add, Nat.mul_left_comm]
  have h2 : B64 * (d * f) + B64 * l = B64 * (w1 + B64 * w2) := by rw [← Nat.mul_add, hi]
  have h3 : l * B64 = B64 * l := Nat.mul_comm _ _
  have h4 : q * (s + B64 * f) < d * (s + B64 * f) := by omega
  exact Nat.lt_of_mul_lt_mul_right h4
structure TrialC (ws ds : List Nat) (n w0 w1 w2 s f q : Nat) : Prop where
  e0 : w0 = ws.getD (n - 2) 0
  e1 : w1 = ws.getD (n - 1) 0
  e2 : w2 = ws.getD n 0
  es : s = ds.getD (n - 2) 0
  ef : f = ds.getD (n - 1) 0
  b0 : w0 < B64
  b1 : w1 < B64
  b2 : w2 < B64
  bs : s < B64
  bf : f < B64
  top : q * (s + B64 * f) ≤ w0 + B64 * (w1 + B64 * w2)
  le : w2 ≤ f
  qb : q < B64
theorem At.cellAt {w : World} {g off n c : Nat} {xs : List Nat} (h : At w (some ⟨g, off, none⟩) n c xs) (j : Nat) (hj : j < n) : w.cell? ⟨g, off + j, none⟩ = some (U (xs.getD j 0)) := by
  obtain ⟨g', o', he, hcell⟩ := h.cells.resolve_left (by omega)
  simp only [Option.some.injEq, Addr.mk.injEq, and_true] at he
  obtain ⟨rfl, rfl⟩ := he
  exact hcell j hj

structure TrialR (w1 w2 f q d l o : Nat) : Prop where
  qd : q ≤ d
  db : d < B64
  lb : l < B64
  ob : o ≤ 1
  sum : o = 0 → d * f + l = w1 + B64 * w2
theorem TrialR.down {w0 w1 w2 s f q d l o l' o' : Nat} (h : TrialR w1 w2 f q d l o) {ws ds : List Nat} {n : Nat} (c : TrialC ws ds n w0 w1 w2 s f q) (ho : o = 0) (hg : l * B64 + w0 < d * s) (ha : l + f + 0 = l' + B64 * o') (hl' : l' < B64) (ho' : o' ≤ 1) : 1 ≤ d ∧ TrialR w1 w2 f q (d - 1) l' o' := by
  have h1 := trial_step c.top (h.sum ho) hg
  have h2 := h.db
  refine ⟨by omega, by omega, by omega, hl', ho', fun h0 => ?_⟩
  subst h0
  have h3 := h.sum ho
  have h4 : d * f = (d - 1) * f + f := by rw [← Nat.succ_mul, show (d - 1).succ = d by omega]
  omega
end Go.Proofs.YtkdpafliibclnaaDoor
namespace Go.Proofs.YtkdpafliibclnaaDoor
open Go.RowKit
set_option maxRecDepth 20000
set_option maxHeartbeats 0
theorem val_lt_len32 {xs ys : List Nat} (hx : Dig B32 xs) (ty : Top ys) (h : xs.length < ys.length) : valB B32 xs < valB B32 ys := by
  have h1 := valB_lt B32_pos hx
  have h2 := valB_pos B32_pos (show ys ≠ [] by intro e; subst e; simp at h) ty
  have h3 : B32 ^ xs.length ≤ B32 ^ (ys.length - 1) := Nat.pow_le_pow_right B32_pos (by omega)
  omega
theorem val_lt_top32 {xs ys : List Nat} (hx : Dig B32 xs) {n t x y : Nat} (lx : xs.length = n) (ly : ys.length = n) (ht : t < n) (hd : xs.drop (t + 1) = ys.drop (t + 1)) (ex : x = xs.getD t 0) (ey : y = ys.getD t 0) (h : x < y) : valB B32 xs < valB B32 ys := by
  have h1 := valB_lt B32_pos (hx.take t)
  rw [List.length_take, lx, Nat.min_eq_left (by omega)] at h1
  rw [valB_split B32 xs t (by omega), valB_split B32 ys t (by omega), valB_drop _ xs t (by omega), valB_drop _ ys t (by omega), hd, ← ex, ← ey]
  have h2 : B32 ^ t * (x + 1) ≤ B32 ^ t * y := Nat.mul_le_mul_left _ h
  rw [Nat.mul_add] at h2
  rw [Nat.mul_add, Nat.mul_add]
  omega

theorem docform_any {p : Option Addr} {n c : Nat} {xs : List Nat} {w : World} (h : At w p n c xs) :
    Calls Tryd.prog 46 #[.slice p n c] w fun e w' => e = .returned (.bool (formB xs)) ∧ w' = w := by
  have hl := h.len; have hcap := h.cap; have hbig := h.big
  unfold maxLen at hbig
  by_cases h1 : n ≤ 8192
  · by_cases h0 : n = 0
    · subst h0
      have hf : formB xs = true := by unfold formB; rw [decide_eq_true_iff]; omega
      have HF : Hid (formB xs = true) := hf
      clear hf hl
      go_enter Tryd.func46, Tryd.ntmps46
      go_wp2
      go_ret
      exact ⟨ret_bool HF.out.symm, rfl⟩
    · obtain ⟨g, off, rfl, hc⟩ := h.cells.resolve_left h0
      obtain ⟨x, hx⟩ : ∃ x, x = xs.getD (n - 1) 0 := ⟨_, rfl⟩
      have hcx : w.cell? ⟨g, off + (n - 1), none⟩ = some (U x) := by rw [hx]; exact hc _ (by omega)
      have h0' : ((n : Int) == 0) = false := by simp; omega
      have hf : formB xs = ((x : Int) != 0) := by
        unfold formB
        rw [hl, ← hx]
        by_cases e : x = 0
        · simp [e, h0]
        · simp [e, h1]
      have HF : Hid (formB xs = ((x : Int) != 0)) := hf
      clear hf hl hx hc
      go_enter Tryd.func46, Tryd.ntmps46
      go_wp2
      go_ret
      exact ⟨ret_bool HF.out.symm, rfl⟩
  · have hf : formB xs = false := by unfold formB; rw [decide_eq_false_iff_not]; omega
    have HF : Hid (formB xs = false) := hf
    clear hf hl
    go_enter Tryd.func46, Tryd.ntmps46
    go_wp2
    go_ret
    exact ⟨ret_bool HF.out.symm, rfl⟩

theorem rcmp_any {p q : Option Addr} {n m c d : Nat} {xs ys : List Nat} {a b : Nat} {w : World} (h : At32 w p n c xs) (k : At32 w q m d ys) (hx : Nf B32 xs a) (hy : Nf B32 ys b) :
    Calls Tryd.prog 61 #[.slice p n c, .slice q m d] w fun e w' => e = .returned (.int .i64 (cmpN a b)) ∧ ∃ r, w' = w.drewN r := by
  obtain ⟨res, hres⟩ : ∃ res, res = cmpN a b := ⟨_, rfl⟩
  rw [← hres]
  have HRES : Hid (res = cmpN a b) := hres
  have HX : Hid (Nf B32 xs a) := hx
  have HY : Hid (Nf B32 ys b) := hy
  have HLX : Hid (xs.length = n) := h.len
  have HLY : Hid (ys.length = m) := k.len
  have cap := h.cap; have big := h.big; have kcap := k.cap; have kbig := k.big
  unfold maxLen at big kbig
  clear hres hx hy
  by_cases hnm : n = m
  · subst hnm
    go_enter Tryd.func61, Tryd.ntmps61
    go_wp2_with fail
    go_loopg [5] n (fun gk iv wr => iv = .int .i64 ((gk : Int) - 1) ∧ gk ≤ n ∧ Hid (xs.drop gk = ys.drop gk) ∧ ∃ r, wr = w.drewN r)
    case atStart => exact ⟨rfl, Nat.le_refl _, by show _ = _; rw [List.drop_of_length_le (by rw [HLX.out]; omega), List.drop_of_length_le (by rw [HLY.out]; omega)], 0, by first | rfl | simp⟩
    case round =>
      obtain ⟨rfl, hgn, HD, r, rfl⟩ := hrel
      by_cases hg0 : gk = 0
      · have hr : res = 0 := HRES.out.trans (cmpN_eq (by have h0 := HD.out; rw [hg0, List.drop_zero, List.drop_zero] at h0; rw [← HX.out.val, ← HY.out.val, h0]))
        have HR : Hid (res = 0) := hr
        have hdec : decide ((0 : Int) ≤ (gk : Int) - 1) = false := decide_eq_false (by omega)
        have hdec' : ¬ 1 ≤ gk := by omega
        clear hr
        go_wp2_with fail
        go_ret
        exact ⟨ret_int HR.out.symm, r, rfl⟩
      · obtain ⟨g, off, rfl, hc⟩ := h.cells.resolve_left (by omega)
        obtain ⟨g2, off2, rfl, hc2⟩ := k.cells.resolve_left (by omega)
        obtain ⟨x, hx⟩ : ∃ x, x = xs.getD (gk - 1) 0 := ⟨_, rfl⟩
        obtain ⟨y, hy⟩ : ∃ y, y = ys.getD (gk - 1) 0 := ⟨_, rfl⟩
        have cx : w.cell? ⟨g, off + (gk - 1), none⟩ = some (V x) := by rw [hx]; exact hc _ (by omega)
        have cy : w.cell? ⟨g2, off2 + (gk - 1), none⟩ = some (V y) := by rw [hy]; exact hc2 _ (by omega)
        have hdec : decide ((0 : Int) ≤ (gk : Int) - 1) = true := decide_eq_true (by omega)
        have hdec' : 1 ≤ gk := by omega
        have hix : 1 ≤ (gk : Int) ∧ (gk : Int) - 1 < (n : Int) := by omega
        have HXE : Hid (x = xs.getD (gk - 1) 0) := hx
        have HYE : Hid (y = ys.getD (gk - 1) 0) := hy
        have HD1 : Hid (xs.drop (gk - 1 + 1) = ys.drop (gk - 1 + 1)) := by rw [show gk - 1 + 1 = gk by omega]; exact HD.out
        clear hc hc2 hx hy
        rcases Nat.lt_trichotomy x y with hlt | heq | hgt
        · have hr : res = -1 := HRES.out.trans (cmpN_lt (by have := val_lt_top32 HX.out.dig HLX.out HLY.out (t := gk - 1) (by omega) HD1.out HXE.out HYE.out hlt; rw [HX.out.val, HY.out.val] at this; exact this))
          have HR : Hid (res = -1) := hr
          have hl' : (x : Int) < (y : Int) := by omega
          clear hr
          go_wp2_with fail
          go_quiet (fail)
          go_wp2_with fail
          go_ret
          exact ⟨ret_int HR.out.symm, _, by first | rfl | (rw [drewN_two])⟩
        · subst heq
          have hl' : ¬ (x : Int) < (x : Int) := by omega
          go_wp2_with fail
          go_quiet (fail)
          go_wp2_with fail
          go_quiet (fail)
          go_wp2_with fail
          go_roundg (gk - 1)
          case measure => omega
          case rel =>
            refine ⟨by go_num, by omega, ?_, _, by first | rfl | (rw [drewN_two, drewN_two]) | (rw [drewN_two])⟩
            exact drop_step HLX.out HLY.out (by omega) HD1.out (by rw [← HXE.out, ← HYE.out])
        · have hr : res = 1 := HRES.out.trans (cmpN_gt (by have := val_lt_top32 HY.out.dig HLY.out HLX.out (t := gk - 1) (by omega) HD1.out.symm HYE.out HXE.out hgt; rw [HX.out.val, HY.out.val] at this; exact this))
          have HR : Hid (res = 1) := hr
          have hl' : ¬ (x : Int) < (y : Int) := by omega
          have hl2 : (y : Int) < (x : Int) := by omega
          clear hr
          go_wp2_with fail
          go_quiet (fail)
          go_wp2_with fail
          go_quiet (fail)
          go_wp2_with fail
          go_ret
          exact ⟨ret_int HR.out.symm, _, by first | rfl | (rw [drewN_two, drewN_two]) | (rw [drewN_two])⟩
  · have hnm' : ((n : Int) != (m : Int)) = true := by simp; omega
    by_cases hlt : n < m
    · have hr : res = -1 := HRES.out.trans (cmpN_lt (by have := val_lt_len32 HX.out.dig HY.out.top (by rw [HLX.out, HLY.out]; exact hlt); rw [HX.out.val, HY.out.val] at this; exact this))
      have HR : Hid (res = -1) := hr
      have hlt' : (n : Int) < (m : Int) := by omega
      clear hr
      go_enter Tryd.func61, Tryd.ntmps61
      go_wp2_with fail
      go_ret
      exact ⟨ret_int HR.out.symm, 0, by first | rfl | simp⟩
    · have hr : res = 1 := HRES.out.trans (cmpN_gt (by have := val_lt_len32 HY.out.dig HX.out.top (by rw [HLX.out, HLY.out]; omega); rw [HX.out.val, HY.out.val] at this; exact this))
      have HR : Hid (res = 1) := hr
      have hlt' : ¬ (n : Int) < (m : Int) := by omega
      clear hr
      go_enter Tryd.func61, Tryd.ntmps61
      go_wp2_with fail
      go_ret
      exact ⟨ret_int HR.out.symm, 0, by first | rfl | simp⟩
end Go.Proofs.YtkdpafliibclnaaDoor
namespace Go.Proofs.YtkdpafliibclnaaDoor
open Go.RowKit Go.Shelf
set_option maxRecDepth 20000
set_option maxHeartbeats 0
structure B5 (W : World) (g : Nat) (v0 v1 v2 v3 v4 : Value) : Prop where
  c0 : W.cell? ⟨g, 0, none⟩ = some v0
  c1 : W.cell? ⟨g, 1, none⟩ = some v1
  c2 : W.cell? ⟨g, 2, none⟩ = some v2
  c3 : W.cell? ⟨g, 3, none⟩ = some v3
  c4 : W.cell? ⟨g, 4, none⟩ = some v4
  f0 : W.frozen? ⟨g, 0, none⟩ = false
  f1 : W.frozen? ⟨g, 1, none⟩ = false
  f2 : W.frozen? ⟨g, 2, none⟩ = false
  f3 : W.frozen? ⟨g, 3, none⟩ = false
  f4 : W.frozen? ⟨g, 4, none⟩ = false
theorem B5.below {W W' : World} {g : Nat} {v0 v1 v2 v3 v4 : Value} (h : B5 W g v0 v1 v2 v3 v4) (hb : Below W.heap.size W W') : B5 W' g v0 v1 v2 v3 v4 := by
  have hl : g < W.heap.size := World.block_lt_of_cell? W _ h.c0
  exact ⟨(hb.cell (p := ⟨g, 0, none⟩) hl).trans h.c0, (hb.cell (p := ⟨g, 1, none⟩) hl).trans h.c1, (hb.cell (p := ⟨g, 2, none⟩) hl).trans h.c2, (hb.cell (p := ⟨g, 3, none⟩) hl).trans h.c3, (hb.cell (p := ⟨g, 4, none⟩) hl).trans h.c4,
    (hb.frozen (p := ⟨g, 0, none⟩) hl).trans h.f0, (hb.frozen (p := ⟨g, 1, none⟩) hl).trans h.f1, (hb.frozen (p := ⟨g, 2, none⟩) hl).trans h.f2, (hb.frozen (p := ⟨g, 3, none⟩) hl).trans h.f3, (hb.frozen (p := ⟨g, 4, none⟩) hl).trans h.f4⟩
theorem B5.new (w : World) (ty : TypeId) (v0 v1 v2 v3 v4 : Value) : B5 (w.alloc (.cells #[v0, v1, v2, v3, v4] ty)) w.heap.size v0 v1 v2 v3 v4 :=
  ⟨by go_simp, by go_simp, by go_simp, by go_simp, by go_simp, by go_simp, by go_simp, by go_simp, by go_simp, by go_simp⟩
theorem DocIs.inj {v : Nat} {us us' : List Nat} {f f' : Int} (h : DocIs v us f) (k : DocIs v us' f') : us = us' ∧ f = f' := by
  rcases h with ⟨h1, h2, rfl⟩ | ⟨h1, rfl, rfl⟩ <;> rcases k with ⟨k1, k2, rfl⟩ | ⟨k1, rfl, rfl⟩
  · exact ⟨h2.inj B64_one k2, rfl⟩
  · omega
  · omega
  · exact ⟨rfl, rfl⟩
theorem DocIs.er {v : Nat} {us : List Nat} {f : Int} (h : DocIs v us f) : f = 0 ∨ f = 5 := by
  rcases h with ⟨_, _, rfl⟩ | ⟨_, _, rfl⟩ <;> simp
theorem lit_at32 (w : World) (x y : Nat) (hx : x < B32) (hy : y < B32) : At32 (w.alloc (.cells #[V x, V y] 87)) (some ⟨w.heap.size, 0, none⟩) 2 2 [x, y] := by
  refine ⟨rfl, Nat.le_refl _, by decide, ?_, .inr ⟨w.heap.size, 0, rfl, ?_⟩⟩
  · intro z hz
    simp at hz
    rcases hz with rfl | rfl <;> assumption
  · intro j hj
    match j, hj with
    | 0, _ => exact World.cell?_alloc_new ..
    | 1, _ => exact World.cell?_alloc_new ..
theorem At.setOther5 {w : World} {p : Option Addr} {n c : Nat} {xs : List Nat} (h : At w p n c xs) (g2 o2 : Nat) (v : Value) (hne : ∀ a, p = some a → a.block ≠ g2) : At (w.setCell ⟨g2, o2, none⟩ v) p n c xs := by
  refine ⟨h.len, h.cap, h.big, h.dig, ?_⟩
  rcases h.cells with h0 | ⟨g, off, rfl, hc⟩
  · exact .inl h0
  · refine .inr ⟨g, off, rfl, fun j hj => ?_⟩
    have hn : g ≠ g2 := hne ⟨g, off, none⟩ rfl
    rw [World.cell?_setCell_other _ _ _ _ (by intro e; apply hn; have := congrArg Addr.block e; simp at this; omega)]
    exact hc j hj
theorem bSetQ {B : Nat} {a w : World} (h : Below B a w) (g o : Nat) (v : Value) (hB : B ≤ g) : Below B a (w.setCell ⟨g, o, none⟩ v) :=
  h.trans ((Wr.refl g o 1 w).setCell o ⟨by omega, by omega⟩ v |>.below hB)
theorem results_cell1' {fn : Func} {p : Tmp} {ty : TypeId} (h : fn.results = #[.cell p ty]) (tmps : Array Value) (P : Program) (w : World) :
    (results fn tmps).run P w = ((asAddr (tmps.getD p undef)).run P w).andThen fun a w₁ => (loadVar ty a).run P w₁ := by
  simp only [results, h]
  simp [Sem.run_bind, Result.andThen]

theorem twin5 {pa pb : Option Addr} {na nb ca cb : Nat} {xa xb : List Nat} {w : World} (h : At w pa na ca xa) (k : At w pb nb cb xb) (hna : na ≤ 17592186044416) (hnb : nb ≤ 17592186044416) (kd nn : Int) (x : Nat) :
    Calls Tryd.prog 16 #[.agg #[.int .i64 kd, .slice pa na ca, .slice pb nb cb, .int .i64 nn, U x]] w fun e w' => ∃ p1 p2, e = .returned (.agg #[.int .i64 kd, .slice p1 na na, .slice p2 nb nb, .int .i64 nn, U x]) ∧ At w' p1 na na xa ∧ At w' p2 nb nb xb ∧ Below w.heap.size w w' := by
  have HA : Hid (At w pa na ca xa) := h
  have HB : Hid (At w pb nb cb xb) := k
  clear h k
  go_enter Tryd.func16, Tryd.ntmps16
  go_wp2_with fail
  have X0 : B5 ((w.alloc (.cells #[.int .i64 kd, .slice pa na ca, .slice pb nb cb, .int .i64 nn, U x] 26)).alloc (.cells #[.int .i64 0, .slice none 0 0, .slice none 0 0, .int .i64 0, .int .u64 0] 26)) w.heap.size (.int .i64 kd) (.slice pa na ca) (.slice pb nb cb) (.int .i64 nn) (U x) := ⟨by go_simp, by go_simp, by go_simp, by go_simp, by go_simp, by go_simp, by go_simp, by go_simp, by go_simp, by go_simp⟩
  have R0 : B5 ((w.alloc (.cells #[.int .i64 kd, .slice pa na ca, .slice pb nb cb, .int .i64 nn, U x] 26)).alloc (.cells #[.int .i64 0, .slice none 0 0, .slice none 0 0, .int .i64 0, .int .u64 0] 26)) (w.heap.size + 1) (.int .i64 0) (.slice none 0 0) (.slice none 0 0) (.int .i64 0) (.int .u64 0) := ⟨by go_simp, by go_simp, by go_simp, by go_simp, by go_simp, by go_simp, by go_simp, by go_simp, by go_simp, by go_simp⟩
  have hb0 : Below w.heap.size w ((w.alloc (.cells #[.int .i64 kd, .slice pa na ca, .slice pb nb cb, .int .i64 nn, U x] 26)).alloc (.cells #[.int .i64 0, .slice none 0 0, .slice none 0 0, .int .i64 0, .int .u64 0] 26)) := below2 w _ _
  have hsW : ((w.alloc (.cells #[.int .i64 kd, .slice pa na ca, .slice pb nb cb, .int .i64 nn, U x] 26)).alloc (.cells #[.int .i64 0, .slice none 0 0, .slice none 0 0, .int .i64 0, .int .u64 0] 26)).heap.size = w.heap.size + 1 + 1 := by simp
  generalize ((w.alloc (.cells #[.int .i64 kd, .slice pa na ca, .slice pb nb cb, .int .i64 nn, U x] 26)).alloc (.cells #[.int .i64 0, .slice none 0 0, .slice none 0 0, .int .i64 0, .int .u64 0] 26)) = W0 at *
  obtain ⟨hs, ehs⟩ : ∃ hs, hs = w.heap.size := ⟨_, rfl⟩
  have HHS : Hid (hs = w.heap.size) := ehs
  rw [← ehs] at X0 R0 hsW ⊢
  refine (twin_any (HA.out.below hb0) (by omega)).mono ?_
  rintro e w1 ⟨g1, rfl, hg1, hk1, hb1⟩
  have X1 : B5 w1 hs (.int .i64 kd) (.slice pa na ca) (.slice pb nb cb) (.int .i64 nn) (U x) := X0.below hb1
  have R1 : Hid (B5 w1 (hs + 1) (.int .i64 0) (.slice none 0 0) (.slice none 0 0) (.int .i64 0) (.int .u64 0)) := R0.below hb1
  have K1 : Hid (At w1 (some ⟨g1, 0, none⟩) na na xa) := hk1.at_ HA.out.dig HA.out.len (by unfold maxLen; omega)
  have HG1 : Hid (hs + 1 + 1 ≤ g1) := Nat.le_trans (Nat.le_of_eq hsW.symm) hg1
  have HB1 : Hid (Below w.heap.size w w1) := Below.on hb0 hb1
  have HS1 : Hid (hs + 1 + 1 ≤ w1.heap.size) := Nat.le_trans (Nat.le_of_eq hsW.symm) hb1.size
  obtain ⟨c0, c1, c2, c3, c4, c5, c6, c7, c8, c9⟩ := X1
  clear X0 R0 hb0 hsW ehs hg1 hk1 hb1
  go_wp2_with fail
  have X2 : Hid (B5 (w1.setCell ⟨hs, 1, none⟩ (.slice (some ⟨g1, 0, none⟩) na na)) hs (.int .i64 kd) (.slice (some ⟨g1, 0, none⟩) na na) (.slice pb nb cb) (.int .i64 nn) (U x)) := ⟨by go_simp, by go_simp, by go_simp, by go_simp, by go_simp, by go_simp, by go_simp, by go_simp, by go_simp, by go_simp⟩
  have R2 : Hid (B5 (w1.setCell ⟨hs, 1, none⟩ (.slice (some ⟨g1, 0, none⟩) na na)) (hs + 1) (.int .i64 0) (.slice none 0 0) (.slice none 0 0) (.int .i64 0) (.int .u64 0)) := by
    obtain ⟨r0, r1, r2, r3, r4, r5, r6, r7, r8, r9⟩ := R1.out
    exact ⟨by go_simp, by go_simp, by go_simp, by go_simp, by go_simp, by go_simp, by go_simp, by go_simp, by go_simp, by go_simp⟩
  have K2 : Hid (At (w1.setCell ⟨hs, 1, none⟩ (.slice (some ⟨g1, 0, none⟩) na na)) (some ⟨g1, 0, none⟩) na na xa) := K1.out.setOther5 _ _ _ (by intro a ha; cases ha; have := HG1.out; simp; omega)
  have HB2 : Hid (Below w.heap.size w (w1.setCell ⟨hs, 1, none⟩ (.slice (some ⟨g1, 0, none⟩) na na))) := HB1.out.trans ((Wr.refl hs 1 1 w1).setCell 1 ⟨by omega, by omega⟩ _ |>.below (by have := HHS.out; omega))
  have HS2 : Hid (hs + 1 + 1 ≤ (w1.setCell ⟨hs, 1, none⟩ (.slice (some ⟨g1, 0, none⟩) na na)).heap.size) := by have := HS1.out; show _ ≤ _; simp; exact this
  clear c0 c1 c2 c3 c4 c5 c6 c7 c8 c9
  clear R1 K1 HB1 HS1
  generalize w1.setCell ⟨hs, 1, none⟩ (.slice (some ⟨g1, 0, none⟩) na na) = w2 at *
  refine (twin_any (HB.out.below HB2.out) (by omega)).mono ?_
  rintro e w3 ⟨g2, rfl, hg2, hk2, hb2⟩
  have X3 : B5 w3 hs (.int .i64 kd) (.slice (some ⟨g1, 0, none⟩) na na) (.slice pb nb cb) (.int .i64 nn) (U x) := X2.out.below hb2
  have R3 : Hid (B5 w3 (hs + 1) (.int .i64 0) (.slice none 0 0) (.slice none 0 0) (.int .i64 0) (.int .u64 0)) := R2.out.below hb2
  have K3 : Hid (At w3 (some ⟨g1, 0, none⟩) na na xa) := K2.out.below hb2
  have L3 : Hid (At w3 (some ⟨g2, 0, none⟩) nb nb xb) := hk2.at_ HB.out.dig HB.out.len (by unfold maxLen; omega)
  have HG2 : Hid (hs + 1 + 1 ≤ g2) := Nat.le_trans HS2.out hg2
  have HB3 : Hid (Below w.heap.size w w3) := Below.on HB2.out hb2
  obtain ⟨c0, c1, c2, c3, c4, c5, c6, c7, c8, c9⟩ := X3
  obtain ⟨r0, r1, r2, r3, r4, r5, r6, r7, r8, r9⟩ := R3.out
  clear X2 R2 K2 HB2 HS2 hg2 hk2 hb2
  go_wp2_with fail
  refine bodyPost_ret (v := .agg #[.int .i64 kd, .slice (some ⟨g1, 0, none⟩) na na, .slice (some ⟨g2, 0, none⟩) nb nb, .int .i64 nn, U x]) (by rw [results_cell1' rfl]; go_simp) rfl ⟨_, _, rfl, ?_, ?_, ?_⟩
  · have hg1 := HG1.out
    have ne : ∀ a, some (⟨g1, 0, none⟩ : Addr) = some a → a.block ≠ hs := by intro a ha; cases ha; simp; omega
    have ne1 : ∀ a, some (⟨g1, 0, none⟩ : Addr) = some a → a.block ≠ hs + 1 := by intro a ha; cases ha; simp; omega
    exact (((((K3.out.setOther5 _ _ _ ne).setOther5 _ _ _ ne1).setOther5 _ _ _ ne1).setOther5 _ _ _ ne1).setOther5 _ _ _ ne1).setOther5 _ _ _ ne1
  · have hg2 := HG2.out
    have ne : ∀ a, some (⟨g2, 0, none⟩ : Addr) = some a → a.block ≠ hs := by intro a ha; cases ha; simp; omega
    have ne1 : ∀ a, some (⟨g2, 0, none⟩ : Addr) = some a → a.block ≠ hs + 1 := by intro a ha; cases ha; simp; omega
    exact (((((L3.out.setOther5 _ _ _ ne).setOther5 _ _ _ ne1).setOther5 _ _ _ ne1).setOther5 _ _ _ ne1).setOther5 _ _ _ ne1).setOther5 _ _ _ ne1
  · have h0 : w.heap.size ≤ hs := by have := HHS.out; omega
    have h1 : w.heap.size ≤ hs + 1 := by omega
    exact bSetQ (bSetQ (bSetQ (bSetQ (bSetQ (bSetQ HB3.out _ _ _ h0) _ _ _ h1) _ _ _ h1) _ _ _ h1) _ _ _ h1) _ _ _ h1
structure Op5 where
  k : Int
  pa : Option Addr
  na : Nat
  ca : Nat
  xa : List Nat
  pb : Option Addr
  nb : Nat
  cb : Nat
  xb : List Nat
  nn : Int
  wd : Nat
structure Scr (w : World) (P : Option Addr) (N C : Nat) (its : List Op5) : Prop where
  len : its.length = N
  cap : N ≤ C
  big : C ≤ maxLen
  ats : ∀ t ∈ its, At w t.pa t.na t.ca t.xa ∧ At w t.pb t.nb t.cb t.xb ∧ t.na ≤ 17592186044416 ∧ t.nb ≤ 17592186044416 ∧ t.wd < B64 ∧ -9223372036854775808 ≤ t.nn ∧ t.nn ≤ 9223372036854775807
  cells : N = 0 ∨ ∃ g off, P = some ⟨g, off, none⟩ ∧ ∀ i (h : i < its.length), w.cell? ⟨g, off + i * 5, none⟩ = some (.int .i64 its[i].k) ∧ w.cell? ⟨g, off + i * 5 + 1, none⟩ = some (.slice its[i].pa its[i].na its[i].ca) ∧
    w.cell? ⟨g, off + i * 5 + 2, none⟩ = some (.slice its[i].pb its[i].nb its[i].cb) ∧ w.cell? ⟨g, off + i * 5 + 3, none⟩ = some (.int .i64 its[i].nn) ∧ w.cell? ⟨g, off + i * 5 + 4, none⟩ = some (U its[i].wd)
theorem Scr.below {w w' : World} {P : Option Addr} {N C : Nat} {its : List Op5} (h : Scr w P N C its) (hb : Below w.heap.size w w') : Scr w' P N C its := by
  refine ⟨h.len, h.cap, h.big, fun t ht => ?_, ?_⟩
  · obtain ⟨h1, h2, h3⟩ := h.ats t ht
    exact ⟨h1.below hb, h2.below hb, h3⟩
  · rcases h.cells with h0 | ⟨g, off, hP, hc⟩
    · exact .inl h0
    · refine .inr ⟨g, off, hP, fun i hi => ?_⟩
      obtain ⟨h0, h1, h2, h3, h4⟩ := hc i hi
      have hl : g < w.heap.size := World.block_lt_of_cell? w _ h0
      exact ⟨(hb.cell (p := ⟨g, off + i * 5, none⟩) hl).trans h0, (hb.cell (p := ⟨g, off + i * 5 + 1, none⟩) hl).trans h1, (hb.cell (p := ⟨g, off + i * 5 + 2, none⟩) hl).trans h2,
        (hb.cell (p := ⟨g, off + i * 5 + 3, none⟩) hl).trans h3, (hb.cell (p := ⟨g, off + i * 5 + 4, none⟩) hl).trans h4⟩
end Go.Proofs.YtkdpafliibclnaaDoor
namespace Go.Proofs.YtkdpafliibclnaaDoor
open Go.ChangeShapes Go.WideShapes Go.ChangeAt Go.RowKit Go.Deep
set_option maxRecDepth 20000
set_option maxHeartbeats 0
theorem weightsAll_mem {H : Type} {P : Program} {e : TypeId} : ∀ {l : List (DataW H)} {d : DataW H}, d ∈ l → ∀ n ∈ d.weights P e, n ∈ DataW.weightsAll P e l
  | [], d, hd, n, hn => by simp at hd
  | d0 :: r, d, hd, n, hn => by
    simp only [DataW.weightsAll, List.mem_append]
    rcases List.mem_cons.1 hd with rfl | h
    · exact .inl hn
    · exact .inr (weightsAll_mem h n hn)
theorem sized_elem {H : Type} {P : Program} {ts : List TypeId} {ds : List (DataW H)} (h : (DataW.weightsEach P ts ds).all (· ≤ reachBytes) = true) {j : Nat} {t e : TypeId} {fs : Array Field} {parts : List (DataW H)} {elems spare : List (DataW H)}
    (ht : ts[j]? = some t) (hd : ds[j]? = some (.slice elems spare)) (hu : P.underlying t = some (.slice e)) (hm : DataW.agg parts ∈ elems) (he : P.underlying e = some (.struct fs)) :
    (DataW.weightsEach P (fs.toList.map (·.type)) parts).all (· ≤ reachBytes) = true := by
  rw [List.all_eq_true]
  intro n hn
  refine List.all_eq_true.1 h n (DataW.weights_mem_each ht hd n ?_)
  simp only [DataW.weights, hu, List.mem_cons, List.mem_append]
  exact .inr (.inl (weightsAll_mem hm n (by simpa [DataW.weights, he] using hn)))
theorem cellsOfOp : Tryd.prog.cellsOf 26 = 5 := by kernel_rfl
theorem oneCellOp {fs : Array Field} (h : Tryd.prog.underlying 26 = some (.struct fs)) : oneCellFields Tryd.prog fs = true := by
  have : (match Tryd.prog.underlying 26 with | some (.struct fs) => oneCellFields Tryd.prog fs | _ => false) = true := by kernel_rfl
  rw [h] at this
  exact this

theorem open_script {H : Type} {enc : TypeId × Value → H} {W : World} {a : Option Addr} {len cap : Nat} {d : DataW H} {ps : List MemPlace} {ts : List TypeId} {ds : List (DataW H)} {j : Nat}
    (h : DataW.Trod enc Tryd.prog W 0 (fun _ => true) true 22 (.slice a len cap) d ps) (hsz : (DataW.weightsEach Tryd.prog ts ds).all (· ≤ reachBytes) = true) (ht : ts[j]? = some 22) (hd : ds[j]? = some d) :
    ∃ its, Scr W a len cap its := by
  obtain ⟨fuel, hf⟩ := h
  rcases DataW.trod_slice Tryd.underlying22 hf with ⟨hcs, _⟩ | ⟨x, l, c, elems, rest, n, _, hcs, hx, hb, hl, hm, hlen, hel, _, _⟩
  · simp [Value.cells] at hcs
    obtain ⟨rfl, rfl, rfl⟩ := hcs
    exact ⟨[], rfl, Nat.le_refl _, by decide, fun t h => by simp at h, .inl rfl⟩
  · simp [Value.cells] at hcs
    obtain ⟨rfl, rfl, rfl⟩ := hcs
    simp only [Prod.mk.injEq] at hx
    obtain ⟨rfl, _⟩ := hx
    obtain ⟨b, off, spot⟩ := x
    have each : ∀ i, i < len → ∃ t : Op5, (W.cell? ((⟨b, off, spot⟩ : Addr).add (i * 5 + 0)) = some (.int .i64 t.k) ∧ W.cell? ((⟨b, off, spot⟩ : Addr).add (i * 5 + 1)) = some (.slice t.pa t.na t.ca) ∧
        W.cell? ((⟨b, off, spot⟩ : Addr).add (i * 5 + 2)) = some (.slice t.pb t.nb t.cb) ∧ W.cell? ((⟨b, off, spot⟩ : Addr).add (i * 5 + 3)) = some (.int .i64 t.nn) ∧ W.cell? ((⟨b, off, spot⟩ : Addr).add (i * 5 + 4)) = some (U t.wd)) ∧
        At W t.pa t.na t.ca t.xa ∧ At W t.pb t.nb t.cb t.xb ∧ t.na ≤ 17592186044416 ∧ t.nb ≤ 17592186044416 ∧ t.wd < B64 ∧ -9223372036854775808 ≤ t.nn ∧ t.nn ≤ 9223372036854775807 := by
      intro i hi
      have h1 := hel i hi
      have hie : i < elems.length := by omega
      rw [List.getElem?_eq_getElem hie, Option.bind_eq_some_iff] at h1
      obtain ⟨cs', h2, h3⟩ := h1
      rw [cellsOfOp] at h2
      obtain ⟨_, hlen5, hcell⟩ := World.cells?_some h2
      obtain ⟨ys, k, _, hxy, _, hxl, hg⟩ := DataW.trod_struct Tryd.underlying26 h3
      have hone := oneCellOp Tryd.underlying26
      match ys, hxl, cs', hlen5 with
      | [y0, y1, y2, y3, y4], _, [v0, v1, v2, v3, v4], _ =>
        have sf := sized_elem hsz ht hd Tryd.underlying22 (parts := [y0.1, y1.1, y2.1, y3.1, y4.1]) (by
          have : elems[i].1 = DataW.agg [y0.1, y1.1, y2.1, y3.1, y4.1] := by rw [hxy]; rfl
          rw [← this]
          exact List.mem_map_of_mem (List.getElem_mem hie)) Tryd.underlying26
        have g0 := hg 0 _ rfl
        have g1 := hg 1 _ rfl
        have g2 := hg 2 _ rfl
        have g3 := hg 3 _ rfl
        have g4 := hg 4 _ rfl
        rw [(hone_of hone 0 _ rfl).1, (hone_of hone 0 _ rfl).2] at g0
        rw [(hone_of hone 1 _ rfl).1, (hone_of hone 1 _ rfl).2] at g1
        rw [(hone_of hone 2 _ rfl).1, (hone_of hone 2 _ rfl).2] at g2
        rw [(hone_of hone 3 _ rfl).1, (hone_of hone 3 _ rfl).2] at g3
        rw [(hone_of hone 4 _ rfl).1, (hone_of hone 4 _ rfl).2] at g4
        have k0 : DataW.trod enc Tryd.prog W 0 (fun _ => true) true k 3 [v0] = some y0 := g0
        have k1 : DataW.trod enc Tryd.prog W 0 (fun _ => true) true k 24 [v1] = some y1 := g1
        have k2 : DataW.trod enc Tryd.prog W 0 (fun _ => true) true k 24 [v2] = some y2 := g2
        have k3 : DataW.trod enc Tryd.prog W 0 (fun _ => true) true k 3 [v3] = some y3 := g3
        have k4 : DataW.trod enc Tryd.prog W 0 (fun _ => true) true k 23 [v4] = some y4 := g4
        clear g0 g1 g2 g3 g4
        obtain ⟨z0, rfl, _⟩ := open_fld_int Tryd.underlying3 k0
        obtain ⟨z3, rfl, w3⟩ := open_fld_int Tryd.underlying3 k3
        obtain ⟨pa, na, ca, _, rfl, _⟩ := open_fld_at k1
        obtain ⟨pb, nb, cb, _, rfl, _⟩ := open_fld_at k2
        obtain ⟨xa, A1, bl1⟩ := open_at (a := pa) (len := na) (cap := ca) (d := y1.1) (ps := y1.2) ⟨k, k1⟩ sf (j := 1) rfl rfl
        obtain ⟨xb, A2, bl2⟩ := open_at (a := pb) (len := nb) (cap := cb) (d := y2.1) (ps := y2.2) ⟨k, k2⟩ sf (j := 2) rfl rfl
        obtain ⟨z4, rfl, w4⟩ := open_fld_int Tryd.underlying23 k4
        have b4 := wf_u64 w4
        obtain ⟨m4, rfl⟩ := Int.eq_ofNat_of_zero_le b4.1
        have hm4 : m4 < B64 := by rw [B64_eq]; omega
        have e0 := hcell 0 (by omega)
        have e1 := hcell 1 (by omega)
        have e2 := hcell 2 (by omega)
        have e3 := hcell 3 (by omega)
        have e4 := hcell 4 (by omega)
        rw [add_add] at e0 e1 e2 e3 e4
        exact ⟨⟨z0, pa, na, ca, xa, pb, nb, cb, xb, z3, m4⟩, ⟨e0, e1, e2, e3, e4⟩, A1, A2, bl1, bl2, hm4, bounds_i64 w3⟩
    have inh : Inhabited Op5 := ⟨⟨0, none, 0, 0, [], none, 0, 0, [], 0, 0⟩⟩
    obtain ⟨q, hq⟩ := choose_lt each
    refine ⟨(List.range len).map q, by simp, hl, hm, ?_, ?_⟩
    · intro t ht
      obtain ⟨i, hi, rfl⟩ := List.mem_map.1 ht
      exact (hq i (List.mem_range.1 hi)).2
    · by_cases h0 : len = 0
      · exact .inl h0
      · have hs := (hq 0 (by omega)).1.1
        have hspot : spot = none := by simpa [Addr.add] using World.cell?_spot hs
        subst hspot
        have hadd : ∀ q : Nat, (⟨b, off, none⟩ : Addr).add q = ⟨b, off + q, none⟩ := by intro q; unfold Addr.add; split <;> simp_all
        refine .inr ⟨b, off, rfl, fun i hi => ?_⟩
        have hi' : i < len := by simpa using hi
        have h5 := (hq i hi').1
        simp only [hadd] at h5
        simpa [Nat.add_assoc] using h5
end Go.Proofs.YtkdpafliibclnaaDoor
namespace Go.Proofs.YtkdpafliibclnaaDoor
open Go.RowKit Go.Shelf
set_option maxRecDepth 20000
set_option maxHeartbeats 0
structure WinRel (w : World) (g off n : Nat) (W D d b : Nat) (ws : List Nat) (wr : World) : Prop where
  wrs : Wr g off (n + 1) w wr
  row : Row wr g off (n + 1) ws
  db : d < B64
  bb : b ≤ 1
  ge : W / D ≤ d
  sum : valB B64 ws + D * d = W + B64 ^ (n + 1) * b
theorem WinRel.done {w : World} {g off n W D d : Nat} {ws : List Nat} {wr : World} (h : WinRel w g off n W D d 0 ws wr) (hD : 0 < D) : d = W / D ∧ valB B64 ws = W % D := by
  have h1 := h.sum; have h2 := h.ge
  rw [Nat.mul_zero, Nat.add_zero] at h1
  have h3 : d ≤ W / D := (Nat.le_div_iff_mul_le hD).2 (by rw [Nat.mul_comm]; omega)
  have h4 : d = W / D := by omega
  refine ⟨h4, ?_⟩
  have h5 := Nat.div_add_mod W D
  rw [← h4] at h5
  omega
theorem WinRel.more {w : World} {g off n W D d : Nat} {ws : List Nat} {wr wr' : World} (h : WinRel w g off n W D d 1 ws wr) {cy : Nat} {ws' : List Nat} (hcy : cy ≤ 1) (hwr : Wr g off (n + 1) wr wr') (hrow : Row wr' g off (n + 1) ws') (hs : valB B64 ws' + B64 ^ (n + 1) * cy = valB B64 ws + D) :
    1 ≤ d ∧ W / D ≤ d - 1 ∧ WinRel w g off n W D (d - 1) (1 - cy) ws' wr' := by
  have h1 := h.sum; have h2 := h.ge; have h3 := h.db
  have hl := valB_lt B64_pos h.row.dig
  rw [h.row.len] at hl
  rw [Nat.mul_one] at h1
  have hgt : W < D * d := by omega
  have hd : 1 ≤ d := by
    rcases Nat.eq_zero_or_pos d with e | e
    · subst e; simp at hgt
    · exact e
  have hlt : W / D < d := Nat.div_lt_of_lt_mul hgt
  have e4 : D * d = D * (d - 1) + D := by rw [← Nat.mul_succ, show (d - 1).succ = d by omega]
  refine ⟨hd, by omega, h.wrs.trans hwr, hrow, by omega, by omega, by omega, ?_⟩
  rcases Nat.eq_zero_or_pos cy with e | e
  · subst e; rw [Nat.mul_zero, Nat.add_zero] at hs; rw [Nat.sub_zero, Nat.mul_one]; omega
  · obtain rfl : cy = 1 := by omega
    rw [Nat.mul_one] at hs; rw [Nat.sub_self, Nat.mul_zero]; omega

structure DigRel (w : World) (gq gr L n : Nat) (A D : Nat) (k : Nat) (qs rs : List Nat) (wr : World) : Prop where
  bel : ∀ B, B ≤ gq → B ≤ gr → Below B w wr
  rowq : Row wr gq 0 L qs
  rowr : Row wr gr 0 (L + n) rs
  cell : ∀ b o, b ≠ gq → b ≠ gr → wr.cell? ⟨b, o, none⟩ = w.cell? ⟨b, o, none⟩
  lt : valB B64 (rs.drop (L - k)) < D
  sum : valB B64 rs + B64 ^ (L - k) * valB B64 (qs.drop (L - k)) * D = A

theorem win_take (rs : List Nat) (a m : Nat) (h : a + m ≤ rs.length) : valB B64 rs = valB B64 (rs.take a) + B64 ^ a * (valB B64 ((rs.drop a).take m) + B64 ^ m * valB B64 (rs.drop (a + m))) := by
  rw [valB_split B64 rs a (by omega), valB_split B64 (rs.drop a) m (by rw [List.length_drop]; omega), List.drop_drop]
def winPut (rs ws : List Nat) (a : Nat) : List Nat := rs.take a ++ ws ++ rs.drop (a + ws.length)
theorem winPut_len (rs ws : List Nat) (a : Nat) (h : a + ws.length ≤ rs.length) : (winPut rs ws a).length = rs.length := by
  unfold winPut; simp; omega
theorem winPut_drop (rs ws : List Nat) (a : Nat) (h : a + ws.length ≤ rs.length) : (winPut rs ws a).drop a = ws ++ rs.drop (a + ws.length) := by
  unfold winPut
  rw [List.append_assoc, List.drop_append_of_le_length (by simp; omega), List.drop_of_length_le (by simp; omega), List.nil_append]
theorem winPut_take (rs ws : List Nat) (a : Nat) (h : a + ws.length ≤ rs.length) : (winPut rs ws a).take a = rs.take a := by
  unfold winPut
  rw [List.append_assoc, List.take_append_of_le_length (by simp; omega), List.take_take, Nat.min_self]
theorem winPut_get (rs ws : List Nat) (a j : Nat) (h : a + ws.length ≤ rs.length) : (winPut rs ws a).getD j 0 = if a ≤ j ∧ j < a + ws.length then ws.getD (j - a) 0 else rs.getD j 0 := by
  unfold winPut
  rw [List.getD_eq_getElem?_getD, List.getElem?_append, List.getElem?_append]
  simp only [List.length_append, List.length_take, Nat.min_eq_left (by omega : a ≤ rs.length)]
  by_cases h1 : j < a
  · rw [if_pos (by omega), if_pos (by omega), List.getElem?_take, if_pos h1, if_neg (by omega), List.getD_eq_getElem?_getD]
  · by_cases h2 : j < a + ws.length
    · rw [if_pos h2, if_neg h1, if_pos ⟨by omega, h2⟩, List.getD_eq_getElem?_getD]
    · rw [if_neg h2, if_neg (by omega), List.getElem?_drop, List.getD_eq_getElem?_getD]
      congr 2; omega
end Go.Proofs.YtkdpafliibclnaaDoor
namespace Go.Proofs.YtkdpafliibclnaaDoor
open Go.RowKit
set_option maxRecDepth 20000
set_option maxHeartbeats 0
structure UpRel (w : World) (g n : Nat) (zs : List Nat) (s ov k : Nat) (dk : List Nat) (wr : World) : Prop where
  wrs : Wr g 0 n w wr
  row : Row wr g 0 n dk
  lo : dk.take (n - k) = zs.take (n - k)
  sum : valB B64 (dk.drop (n - k)) + B64 ^ k * ov = 2 ^ s * valB B64 (zs.drop (n - k)) + cin zs s (n - k)

theorem getD_of_take {dk zs : List Nat} {m j : Nat} (h : dk.take m = zs.take m) (hj : j < m) : dk.getD j 0 = zs.getD j 0 := by
  have := congrArg (fun l : List Nat => l[j]?) h
  simp only [List.getElem?_take, hj, if_true] at this
  rw [List.getD_eq_getElem?_getD, List.getD_eq_getElem?_getD, this]
theorem drop_set_at (dk : List Nat) (a y : Nat) (ha : a < dk.length) : (dk.set a y).drop a = y :: dk.drop (a + 1) := by
  rw [drop_getD _ a (by simpa using ha), getD_set dk a y a ha, if_pos rfl, drop_set_lt]
theorem take_set_at (dk : List Nat) (a y : Nat) : (dk.set a y).take a = dk.take a := by
  rw [List.take_set, List.set_eq_of_length_le (by simp; omega)]
theorem take_of_take {dk zs : List Nat} {m j : Nat} (h : dk.take m = zs.take m) (hj : j ≤ m) : dk.take j = zs.take j := by
  have := congrArg (List.take j) h
  rw [List.take_take, List.take_take, Nat.min_eq_left hj] at this
  exact this

theorem UpRel.step {w : World} {g n : Nat} {zs : List Nat} {s ov k : Nat} {dk : List Nat} {wr wr' : World} (h : UpRel w g n zs s ov k dk wr) (hk : k < n) (hz : zs.length = n) {d : Nat}
    (hd : d = shlW (dk.getD (n - 1 - k) 0) s + cin zs s (n - 1 - k)) (hw : Wr g 0 n w wr') (hr : Row wr' g 0 n (dk.set (n - 1 - k) d)) : UpRel w g n zs s ov (k + 1) (dk.set (n - 1 - k) d) wr' := by
  have hl := h.row.len
  have e : n - (k + 1) = n - 1 - k := by omega
  have e2 : n - 1 - k + 1 = n - k := by omega
  refine ⟨hw, hr, ?_, ?_⟩
  · rw [e, take_set_at]; exact take_of_take h.lo (by omega)
  · rw [e, drop_set_at dk _ d (by omega), e2]
    have h1 := h.sum
    rw [← e2] at h1
    have hdz : d = shlW (zs.getD (n - 1 - k) 0) s + cin zs s (n - 1 - k) := by rw [hd, getD_of_take h.lo (by omega)]
    rw [← e2]
    exact up_step (by omega) hdz h1

theorem sup_gen (g n c s : Nat) (zs : List Nat) (w : World) (hz : Row w g 0 n zs) (hnc : n ≤ c) (hbig : c ≤ 9223372036854775807) (hs : s < 64) :
    Calls Tryd.prog 69 #[.slice (some ⟨g, 0, none⟩) n c, .int .i64 s] w fun e w' =>
      ∃ zs', e = .returned (.tuple #[]) ∧ Wr g 0 n w w' ∧ Row w' g 0 n zs' ∧ valB B64 zs' + B64 ^ n * cin zs s n = 2 ^ s * valB B64 zs := by
  obtain ⟨ov, hov⟩ : ∃ ov, ov = cin zs s n := ⟨_, rfl⟩
  rw [← hov]
  have HOV : Hid (ov = cin zs s n) := hov
  clear hov
  have hl := hz.len
  go_enter Tryd.func69, Tryd.ntmps69
  go_wp2
  go_loopw [4, 5, 8] (fun _ _ i wr => ∃ (k : Nat) (dk : List Nat), k ≤ n ∧ i = .int .i64 k ∧ UpRel w g n zs s ov k dk wr) (fun _ _ i _ => n - (intOf i).toNat)
  case atStart =>
    refine ⟨0, zs, Nat.zero_le _, rfl, Wr.refl _ _ _ _, hz, rfl, ?_⟩
    rw [Nat.sub_zero, List.drop_of_length_le (by omega), HOV.out]; simp [valB]
  case round =>
    obtain ⟨k, dk, hk, rfl, hR⟩ := hrel
    by_cases hlt : k < n
    · obtain ⟨x, hx⟩ : ∃ x, x = dk.getD (n - 1 - k) 0 := ⟨_, rfl⟩
      have HR : Hid (UpRel w g n zs s ov k dk wr) := hR
      have HX : Hid (x = dk.getD (n - 1 - k) 0) := hx
      by_cases hlast : n ≤ k + 1
      · have hc0 : wr.cell? ⟨g, 0, none⟩ = some (U x) := by
          have := hR.row.cell (n - 1 - k) (by omega)
          rw [← hx, show 0 + (n - 1 - k) = 0 by omega] at this; exact this
        have hf0 : wr.frozen? ⟨g, 0, none⟩ = false := hR.row.frozen 0 (by omega)
        clear hR hx
        go_wp2
        go_roundw
        case rel =>
          have e0 : n - 1 - k = 0 := by omega
          have hh := HR.out
          have hxx := HX.out
          rw [walk_shl]
          refine ⟨k + 1, dk.set (n - 1 - k) (shlW x s), by omega, by go_num, ?_⟩
          refine hh.step hlt hl (by rw [← hxx, e0]; simp [cin]) (hh.wrs.setCell 0 ⟨by omega, by omega⟩ _) ?_
          rw [e0]
          exact hh.row.set 0 _ (by omega) (shlW_lt x s)
        case measure => simp [intOf]; omega
      · obtain ⟨y, hy⟩ : ∃ y, y = dk.getD (n - 1 - k - 1) 0 := ⟨_, rfl⟩
        have hcx : wr.cell? ⟨g, n - 1 - k, none⟩ = some (U x) := by
          have := hR.row.cell (n - 1 - k) (by omega)
          rw [← hx, Nat.zero_add] at this; exact this
        have hfx : wr.frozen? ⟨g, n - 1 - k, none⟩ = false := by
          have := hR.row.frozen (n - 1 - k) (by omega)
          rw [Nat.zero_add] at this; exact this
        have hcy : wr.cell? ⟨g, n - 1 - k - 1, none⟩ = some (U y) := by
          have := hR.row.cell (n - 1 - k - 1) (by omega)
          rw [← hy, Nat.zero_add] at this; exact this
        have HY : Hid (y = dk.getD (n - 1 - k - 1) 0) := hy
        have hyb : y < B64 := by rw [hy]; exact hR.row.dig.getD B64_pos _
        clear hR hx hy
        go_wp2
        go_region
        go_wp2
        go_roundw
        case rel =>
          have hh := HR.out
          have hxx := HX.out
          have hyy := HY.out
          rw [walk_up x y s (by omega) hyb, walk_shl]
          refine ⟨k + 1, dk.set (n - 1 - k) (shlW x s + y * 2 ^ s / B64), by omega, by go_num, ?_⟩
          refine hh.step hlt hl ?_ ((((hh.wrs.setCell (n - 1 - k) ⟨by omega, by omega⟩ _).setCell (n - 1 - k) ⟨by omega, by omega⟩ _)).drew) ?_
          · rw [← hxx]; unfold cin
            rw [if_neg (by omega), hyy, getD_of_take hh.lo (by omega)]
          · have h1 := (hh.row.set (n - 1 - k) (shlW x s) (by omega) (shlW_lt x s)).set (n - 1 - k) _ (by omega) (up_lt x y s (by omega) hyb)
            rw [Nat.zero_add, List.set_set] at h1
            exact h1.drew
        case measure => simp [intOf]; omega
    · obtain rfl : k = n := by omega
      have HR : Hid (UpRel w g k zs s ov k dk wr) := hR
      clear hR
      go_wp2
      go_end0
      have hh := HR.out
      refine ⟨dk, rfl, hh.wrs, hh.row, ?_⟩
      have := hh.sum
      rw [Nat.sub_self, List.drop_zero, List.drop_zero] at this
      simpa [cin] using this

theorem sup_any (g n c s : Nat) (zs : List Nat) (w : World) (hz : Row w g 0 n zs) (hnc : n ≤ c) (hbig : c ≤ 9223372036854775807) (hs : s < 64) (htop : n = 0 ∨ zs.getD (n - 1) 0 = 0) :
    Calls Tryd.prog 69 #[.slice (some ⟨g, 0, none⟩) n c, .int .i64 s] w fun e w' =>
      ∃ zs', e = .returned (.tuple #[]) ∧ Wr g 0 n w w' ∧ Row w' g 0 n zs' ∧ valB B64 zs' = 2 ^ s * valB B64 zs := by
  refine (sup_gen g n c s zs w hz hnc hbig hs).mono ?_
  rintro e w' ⟨zs', rfl, h1, h2, h3⟩
  refine ⟨zs', rfl, h1, h2, ?_⟩
  have e0 : cin zs s n = 0 := by
    unfold cin
    rcases htop with h | h
    · simp [h]
    · rw [h]; simp
  rw [e0, Nat.mul_zero, Nat.add_zero] at h3; exact h3
end Go.Proofs.YtkdpafliibclnaaDoor
namespace Go.Proofs.YtkdpafliibclnaaDoor
open Go.RowKit Go.Shelf
set_option maxRecDepth 20000
set_option maxHeartbeats 0
theorem Row.win {w : World} {g m : Nat} {rs : List Nat} (h : Row w g 0 m rs) (a l : Nat) (ha : a + l ≤ m) : Row w g a l ((rs.drop a).take l) := by
  have hl := h.len
  refine ⟨by simp; omega, (h.dig.drop a).take l, fun j hj => ?_, fun j hj => ?_⟩
  · have e : ((rs.drop a).take l).getD j 0 = rs.getD (a + j) 0 := by
      rw [List.getD_eq_getElem?_getD, List.getD_eq_getElem?_getD, List.getElem?_take, if_pos hj, List.getElem?_drop]
    rw [e]
    have := h.cell (a + j) (by omega)
    rw [Nat.zero_add] at this; exact this
  · have := h.frozen (a + j) (by omega)
    rw [Nat.zero_add] at this; exact this
theorem Row.put {w w' : World} {g m a l : Nat} {rs ws : List Nat} (h : Row w g 0 m rs) (hwr : Wr g a l w w') (hr : Row w' g a l ws) (ha : a + l ≤ m) : Row w' g 0 m (winPut rs ws a) := by
  have hl := h.len; have hwl := hr.len
  have hle : a + ws.length ≤ rs.length := by omega
  refine ⟨by rw [winPut_len rs ws a hle]; exact hl, ?_, fun j hj => ?_, fun j hj => ?_⟩
  · unfold winPut; exact ((h.dig.take a).append hr.dig).append (h.dig.drop _)
  · rw [winPut_get rs ws a j hle, Nat.zero_add]
    by_cases hc : a ≤ j ∧ j < a + ws.length
    · rw [if_pos hc]
      have := hr.cell (j - a) (by omega)
      rw [show a + (j - a) = j by omega] at this; exact this
    · rw [if_neg hc, hwr.cell g j (by omega)]
      have := h.cell j hj
      rw [Nat.zero_add] at this; exact this
  · rw [hwr.frozen]; exact h.frozen j hj
theorem Row.other {w : World} {g off n : Nat} {xs : List Nat} (h : Row w g off n xs) (g2 o2 : Nat) (v : Value) (hne : g ≠ g2) : Row (w.setCell ⟨g2, o2, none⟩ v) g off n xs := by
  refine ⟨h.len, h.dig, fun j hj => ?_, fun j hj => by rw [World.frozen?_setCell]; exact h.frozen j hj⟩
  exact (World.cell?_setCell_other _ _ _ _ (by intro e; apply hne; have := congrArg Addr.block e; simp at this; omega)).trans (h.cell j hj)
theorem Row.wr {w w' : World} {g off n g2 o2 l2 : Nat} {xs : List Nat} (h : Row w g off n xs) (hwr : Wr g2 o2 l2 w w') (hne : g ≠ g2) : Row w' g off n xs :=
  ⟨h.len, h.dig, fun j hj => (hwr.cell g (off + j) (.inl hne)).trans (h.cell j hj), fun j hj => (hwr.frozen _).trans (h.frozen j hj)⟩
theorem At.wr {w w' : World} {g off n c g2 o2 l2 : Nat} {xs : List Nat} (h : At w (some ⟨g, off, none⟩) n c xs) (hwr : Wr g2 o2 l2 w w') (hne : g ≠ g2) : At w' (some ⟨g, off, none⟩) n c xs :=
  ⟨h.len, h.cap, h.big, h.dig, by
    rcases h.cells with h0 | ⟨g', o', he, hc⟩
    · exact .inl h0
    · refine .inr ⟨g', o', he, fun j hj => ?_⟩
      simp only [Option.some.injEq, Addr.mk.injEq, and_true] at he
      rw [← he.1, ← he.2] at hc ⊢
      exact (hwr.cell g (off + j) (.inl hne)).trans (hc j hj)⟩
theorem At.cells_of {w w' : World} {g off n c : Nat} {xs : List Nat} (h : At w (some ⟨g, off, none⟩) n c xs) (hc : ∀ o, w'.cell? ⟨g, o, none⟩ = w.cell? ⟨g, o, none⟩) : At w' (some ⟨g, off, none⟩) n c xs :=
  ⟨h.len, h.cap, h.big, h.dig, by
    rcases h.cells with h0 | ⟨g', o', he, hcl⟩
    · exact .inl h0
    · refine .inr ⟨g', o', he, fun j hj => ?_⟩
      simp only [Option.some.injEq, Addr.mk.injEq, and_true] at he
      rw [← he.1, ← he.2] at hcl ⊢
      exact (hc (off + j)).trans (hcl j hj)⟩

theorem dig_abs {P W q r D T Q A : Nat} (hW : q * D + r = W) (h : T + P * W + P * B64 * Q * D = A) : T + P * r + P * (q + B64 * Q) * D = A := by
  subst hW
  have e1 : P * (q + B64 * Q) * D = P * (q * D) + P * B64 * Q * D := by
    rw [Nat.mul_add, Nat.add_mul, Nat.mul_assoc P q D, ← Nat.mul_assoc P B64 Q]
  rw [e1]
  rw [Nat.mul_add] at h
  omega
theorem DigRel.window {w : World} {gq gr L n A D k : Nat} {qs rs : List Nat} {wr : World} (h : DigRel w gq gr L n A D k qs rs wr) (hk : k < L) (hDn : D < B64 ^ n) :
    ∃ a ws, a = L - 1 - k ∧ ws = (rs.drop a).take (n + 1) ∧ Row wr gr a (n + 1) ws ∧ valB B64 ws < B64 * D ∧ valB B64 rs = valB B64 (rs.take a) + B64 ^ a * valB B64 ws ∧ valB B64 (rs.drop (a + (n + 1))) = 0 := by
  have hl := h.rowr.len
  obtain ⟨a, ha⟩ : ∃ a, a = L - 1 - k := ⟨_, rfl⟩
  have hlt := h.lt
  rw [show L - k = a + 1 by omega] at hlt
  have hz : valB B64 (rs.drop (a + (n + 1))) = 0 := by
    have hs := valB_split B64 (rs.drop (a + 1)) n (by rw [List.length_drop]; omega)
    rw [List.drop_drop, show a + 1 + n = a + (n + 1) by omega] at hs
    rcases Nat.eq_zero_or_pos (valB B64 (rs.drop (a + (n + 1)))) with e | e
    · exact e
    · exfalso
      have : B64 ^ n * 1 ≤ B64 ^ n * valB B64 (rs.drop (a + (n + 1))) := Nat.mul_le_mul_left _ e
      omega
  have hw := win_take rs a (n + 1) (by omega)
  rw [hz, Nat.mul_zero, Nat.add_zero] at hw
  refine ⟨a, _, ha, rfl, h.rowr.win a (n + 1) (by omega), ?_, hw, hz⟩
  have hs := valB_split B64 (rs.drop a) (n + 1) (by rw [List.length_drop]; omega)
  rw [List.drop_drop, hz, Nat.mul_zero, Nat.add_zero] at hs
  rw [← hs, valB_drop B64 rs a (by omega)]
  have hb := h.rowr.dig.getD B64_pos a
  have : B64 * (valB B64 (rs.drop (a + 1)) + 1) ≤ B64 * D := Nat.mul_le_mul_left _ hlt
  rw [Nat.mul_add] at this
  omega
theorem DigRel.step {w : World} {gq gr L n A D k : Nat} {qs rs : List Nat} {wr wr' : World} (h : DigRel w gq gr L n A D k qs rs wr) (hk : k < L) (hne : gq ≠ gr) {a q : Nat} {ws ws' : List Nat} (ha : a = L - 1 - k)
    (hrs : valB B64 rs = valB B64 (rs.take a) + B64 ^ a * valB B64 ws) (hz : valB B64 (rs.drop (a + (n + 1))) = 0) (hD : 0 < D) (hq : q = valB B64 ws / D) (hqb : q < B64) (hr : valB B64 ws' = valB B64 ws % D)
    (hwr : Wr gr a (n + 1) wr wr') (hrow : Row wr' gr a (n + 1) ws') : DigRel w gq gr L n A D (k + 1) (qs.set a q) (winPut rs ws' a) (wr'.setCell ⟨gq, a, none⟩ (U q)) := by
  have hl := h.rowr.len; have hql := h.rowq.len; have hwl := hrow.len
  have hle : a + ws'.length ≤ rs.length := by omega
  have e1 : L - (k + 1) = a := by omega
  have e2 : L - k = a + 1 := by omega
  have hdrop : valB B64 ((winPut rs ws' a).drop a) = valB B64 ws % D := by
    rw [winPut_drop rs ws' a hle, valB_append, hwl, hz, Nat.mul_zero, Nat.add_zero, hr]
  refine ⟨fun B h1 h2 => ?_, ?_, ?_, fun b o h1 h2 => ?_, ?_, ?_⟩
  · exact ((h.bel B h1 h2).trans (hwr.below h2)).trans ((Wr.refl gq 0 L wr').setCell a ⟨by omega, by omega⟩ (U q) |>.below h1)
  · have := (h.rowq.wr hwr hne).set a q (by omega) hqb
    rw [Nat.zero_add] at this; exact this
  · exact (h.rowr.put hwr hrow (by omega)).other gq a _ (Ne.symm hne)
  · rw [World.cell?_setCell_other _ _ _ _ (by intro e; apply h1; have := congrArg Addr.block e; simp at this; omega), hwr.cell b o (.inl h2)]
    exact h.cell b o h1 h2
  · rw [e1, hdrop]; exact Nat.mod_lt _ hD
  · have hs := h.sum
    rw [e2, hrs, Nat.pow_succ] at hs
    rw [e1, valB_split B64 (winPut rs ws' a) a (by rw [winPut_len rs ws' a hle]; omega), winPut_take rs ws' a hle, hdrop, drop_set_at qs a q (by omega), valB_cons]
    refine dig_abs (W := valB B64 ws) (q := q) ?_ hs
    rw [hq, Nat.mul_comm]; exact Nat.div_add_mod _ _
structure Row32 (w : World) (g off n : Nat) (xs : List Nat) : Prop where
  len : xs.length = n
  dig : Dig B32 xs
  cell : ∀ j, j < n → w.cell? ⟨g, off + j, none⟩ = some (V (xs.getD j 0))
  frozen : ∀ j, j < n → w.frozen? ⟨g, off + j, none⟩ = false
theorem Row32.at_ {w : World} {g off n c : Nat} {xs : List Nat} (h : Row32 w g off n xs) (hc : n ≤ c) (hb : c ≤ maxLen) : At32 w (some ⟨g, off, none⟩) n c xs :=
  ⟨h.len, hc, hb, h.dig, .inr ⟨g, off, rfl, h.cell⟩⟩
theorem Row32.set {w : World} {g off n : Nat} {xs : List Nat} (h : Row32 w g off n xs) (k y : Nat) (hk : k < n) (hy : y < B32) : Row32 (w.setCell ⟨g, off + k, none⟩ (V y)) g off n (xs.set k y) := by
  refine ⟨by rw [List.length_set]; exact h.len, h.dig.set k hy, fun j hj => ?_, fun j hj => by rw [World.frozen?_setCell]; exact h.frozen j hj⟩
  rw [getD_set xs k y j (by rw [h.len]; exact hk)]
  by_cases e : j = k
  · subst e; rw [if_pos rfl]; exact World.cell?_setCell_same _ _ _ (h.cell j hj)
  · rw [if_neg e]
    exact (World.cell?_setCell_other _ _ _ _ (by intro e2; apply e; have := congrArg Addr.off e2; simp at this; omega)).trans (h.cell j hj)
theorem Row32.drewN {w : World} {g off n : Nat} {xs : List Nat} (h : Row32 w g off n xs) (q : Nat) : Row32 (w.drewN q) g off n xs := ⟨h.len, h.dig, h.cell, h.frozen⟩
theorem Row32.drew {w : World} {g off n : Nat} {xs : List Nat} (h : Row32 w g off n xs) : Row32 w.drew g off n xs := ⟨h.len, h.dig, h.cell, h.frozen⟩
theorem Blk32.frozen {w : World} {g : Nat} {xs : List Nat} (h : Blk32 w g xs) (j : Nat) : w.frozen? ⟨g, j, none⟩ = false := frozen_of_row w g j _ _ h
theorem Blk32.row {w : World} {g : Nat} {xs : List Nat} (h : Blk32 w g xs) (hd : Dig B32 xs) : Row32 w g 0 xs.length xs :=
  ⟨rfl, hd, fun j hj => by rw [Nat.zero_add]; exact h.cell j hj, fun j _ => h.frozen _⟩
theorem Row32.win {w : World} {g m : Nat} {rs : List Nat} (h : Row32 w g 0 m rs) (a l : Nat) (ha : a + l ≤ m) : Row32 w g a l ((rs.drop a).take l) := by
  have hl := h.len
  refine ⟨by simp; omega, (h.dig.drop a).take l, fun j hj => ?_, fun j hj => ?_⟩
  · have e : ((rs.drop a).take l).getD j 0 = rs.getD (a + j) 0 := by
      rw [List.getD_eq_getElem?_getD, List.getD_eq_getElem?_getD, List.getElem?_take, if_pos hj, List.getElem?_drop]
    rw [e]
    have := h.cell (a + j) (by omega)
    rw [Nat.zero_add] at this; exact this
  · have := h.frozen (a + j) (by omega)
    rw [Nat.zero_add] at this; exact this
theorem Row32.put {w w' : World} {g m a l : Nat} {rs ws : List Nat} (h : Row32 w g 0 m rs) (hwr : Wr g a l w w') (hr : Row32 w' g a l ws) (ha : a + l ≤ m) : Row32 w' g 0 m (winPut rs ws a) := by
  have hl := h.len; have hwl := hr.len
  have hle : a + ws.length ≤ rs.length := by omega
  refine ⟨by rw [winPut_len rs ws a hle]; exact hl, ?_, fun j hj => ?_, fun j hj => ?_⟩
  · unfold winPut; exact ((h.dig.take a).append hr.dig).append (h.dig.drop _)
  · rw [winPut_get rs ws a j hle, Nat.zero_add]
    by_cases hc : a ≤ j ∧ j < a + ws.length
    · rw [if_pos hc]
      have := hr.cell (j - a) (by omega)
      rw [show a + (j - a) = j by omega] at this; exact this
    · rw [if_neg hc, hwr.cell g j (by omega)]
      have := h.cell j hj
      rw [Nat.zero_add] at this; exact this
  · rw [hwr.frozen]; exact h.frozen j hj
theorem win_take32 (rs : List Nat) (a m : Nat) (h : a + m ≤ rs.length) : valB B32 rs = valB B32 (rs.take a) + B32 ^ a * (valB B32 ((rs.drop a).take m) + B32 ^ m * valB B32 (rs.drop (a + m))) := by
  rw [valB_split B32 rs a (by omega), valB_split B32 (rs.drop a) m (by rw [List.length_drop]; omega), List.drop_drop]

structure RMulRel (w : World) (g off m : Nat) (zs ys : List Nat) (v k cy : Nat) (dk : List Nat) (wr : World) : Prop where
  wrs : Wr g off m w wr
  row : Row32 wr g off m dk
  hi : dk.drop k = zs.drop k
  car : cy < B32
  sum : valB B32 (dk.take k) + B32 ^ k * cy = valB B32 (zs.take k) + valB B32 (ys.take k) * v
theorem RMulRel.step {w : World} {g off m : Nat} {zs ys : List Nat} {v k cy : Nat} {dk : List Nat} {wr : World} (h : RMulRel w g off m zs ys v k cy dk wr) (hk : k < m)
    {x z l d : Nat} (hz : z = dk.getD k 0) (hx : x = ys.getD k 0) (hs : x * v + z + cy = l + B32 * d) (hl : l < B32) (hd : d < B32) :
    RMulRel w g off m zs ys v (k + 1) d (dk.set k l) (wr.setCell ⟨g, off + k, none⟩ (V l)) := by
  have hlen := h.row.len
  refine ⟨h.wrs.setCell (off + k) ⟨by omega, by omega⟩ _, h.row.set k l hk hl, ?_, hd, ?_⟩
  · rw [drop_set_lt]; exact drop_succ_of_drop h.hi
  · have hzz : z = zs.getD k 0 := hz.trans (getD_of_drop h.hi)
    rw [take_set_succ dk k l (by omega), valB_snoc, List.length_take, hlen, Nat.min_eq_left (by omega), valB_take_any _ zs k, valB_take_any _ ys k, ← hzz, ← hx, Nat.pow_succ, Nat.add_mul]
    have e1 := h.sum
    have e2 : B32 ^ k * (x * v + z + cy) = B32 ^ k * (l + B32 * d) := by rw [hs]
    rw [Nat.mul_add, Nat.mul_add, Nat.mul_add, ← Nat.mul_assoc] at e2
    have e3 : B32 ^ k * x * v = B32 ^ k * (x * v) := Nat.mul_assoc _ _ _
    have e4 : B32 ^ k * B32 * d = B32 ^ k * (B32 * d) := Nat.mul_assoc _ _ _
    rw [e3, e4]
    rw [← Nat.mul_assoc] at e2
    generalize B32 ^ k * x * v = X0 at *
    generalize B32 ^ k * (x * v) = X1 at *
    generalize B32 ^ k * B32 * d = X2 at *
    generalize B32 ^ k * (B32 * d) = X3 at *
    generalize B32 ^ k * z = X4 at *
    generalize B32 ^ k * cy = X5 at *
    generalize B32 ^ k * l = X6 at *
    omega

theorem RMulRel.drewN {w : World} {g off m : Nat} {zs ys : List Nat} {v k cy : Nat} {dk : List Nat} {wr : World} (h : RMulRel w g off m zs ys v k cy dk wr) (q : Nat) : RMulRel w g off m zs ys v k cy dk (wr.drewN q) :=
  ⟨h.wrs.drewN q, h.row.drewN q, h.hi, h.car, h.sum⟩
theorem valB_set_zero (b : Nat) (xs : List Nat) (k y : Nat) (hk : k < xs.length) (h0 : xs.getD k 0 = 0) : valB b (xs.set k y) = valB b xs + b ^ k * y := by
  have h1 := valB_split b xs k (by omega)
  have h2 := valB_split b (xs.set k y) k (by simp; omega)
  rw [drop_set_at xs k y hk, take_set_at, valB_cons] at h2
  rw [valB_drop b xs k hk, h0] at h1
  rw [h2, h1, Nat.mul_add, Nat.zero_add]
  omega
theorem valB_drop_zero {b : Nat} (hb : 0 < b) {xs : List Nat} {k : Nat} (h : valB b (xs.drop k) = 0) : xs.getD k 0 = 0 ∧ valB b (xs.drop (k + 1)) = 0 := by
  by_cases hk : k < xs.length
  · rw [valB_drop b xs k hk] at h
    have h1 : b * valB b (xs.drop (k + 1)) = 0 := by omega
    refine ⟨by omega, ?_⟩
    rcases Nat.mul_eq_zero.1 h1 with e | e
    · omega
    · exact e
  · refine ⟨?_, ?_⟩
    · rw [List.getD_eq_getElem?_getD, List.getElem?_eq_none (by omega)]; rfl
    · rw [List.drop_of_length_le (by omega)]; rfl
structure RMulO (w : World) (g N m : Nat) (xs ys : List Nat) (i : Nat) (ps : List Nat) (wr : World) : Prop where
  bel : Below g w wr
  row : Row32 wr g 0 N ps
  val : valB B32 ps = valB B32 (xs.take i) * valB B32 ys
  zero : valB B32 (ps.drop (i + m)) = 0
theorem rmul_abs {P Y x T Z D V cy B m : Nat} (h1 : V = T + P * Z) (h2 : D + B ^ m * cy = Z + Y * x) : T + P * D + P * B ^ m * cy = V + P * (Y * x) := by
  have e1 : P * (D + B ^ m * cy) = P * (Z + Y * x) := by rw [h2]
  rw [Nat.mul_add, Nat.mul_add, ← Nat.mul_assoc] at e1
  omega
theorem RMulO.step {w : World} {g N m n : Nat} {xs ys : List Nat} {i : Nat} {ps : List Nat} {wr wr' : World} (h : RMulO w g N m xs ys i ps wr) (hi : i < n) (hN : N = n + m) (hx : xs.length = n) (hy : ys.length = m) {x cy : Nat} {dk : List Nat} (ex : x = xs.getD i 0) (hR : RMulRel wr g i m ((ps.drop i).take m) ys x m cy dk wr') :
    RMulO w g N m xs ys (i + 1) ((winPut ps dk i).set (i + m) cy) (wr'.setCell ⟨g, i + m, none⟩ (V cy)) := by
  have hl := h.row.len; have hdl := hR.row.len
  have hle : i + dk.length ≤ ps.length := by omega
  have hrow := h.row.put hR.wrs hR.row (by omega)
  have hz := valB_drop_zero B32_pos h.zero
  have hsum := hR.sum
  have t1 : dk.take m = dk := List.take_of_length_le (by omega)
  have t2 : ((ps.drop i).take m).take m = (ps.drop i).take m := by rw [List.take_take, Nat.min_self]
  have t3 : ys.take m = ys := List.take_of_length_le (by omega)
  rw [t1, t2, t3] at hsum
  have hv := win_take32 ps i m (by omega)
  rw [h.zero, Nat.mul_zero, Nat.add_zero] at hv
  have hv1 : valB B32 (winPut ps dk i) = valB B32 (ps.take i) + B32 ^ i * valB B32 dk := by
    rw [valB_split B32 (winPut ps dk i) i (by rw [winPut_len ps dk i hle]; omega), winPut_take ps dk i hle, winPut_drop ps dk i hle, valB_append, hdl, h.zero, Nat.mul_zero, Nat.add_zero]
  have hg0 : (winPut ps dk i).getD (i + m) 0 = 0 := by
    rw [winPut_get ps dk i (i + m) hle, if_neg (by omega)]; exact hz.1
  refine ⟨(h.bel.trans (hR.wrs.below (Nat.le_refl _))).trans (((Wr.refl g 0 N wr').setCell (i + m) ⟨by omega, by omega⟩ (V cy)).below (Nat.le_refl _)), ?_, ?_, ?_⟩
  · have := hrow.set (i + m) cy (by omega) hR.car
    rw [Nat.zero_add] at this; exact this
  · rw [valB_set_zero B32 _ (i + m) cy (by rw [winPut_len ps dk i hle]; omega) hg0, hv1, Nat.pow_add, rmul_abs hv hsum, h.val, valB_take_succ B32 xs i (by omega), ← ex, Nat.add_mul, Nat.mul_assoc, Nat.mul_comm (valB B32 ys) x]
  · rw [show i + 1 + m = i + m + 1 by omega, drop_set_lt]
    have e : (winPut ps dk i).drop (i + m + 1) = ps.drop (i + m + 1) := by
      have e1 : (winPut ps dk i).drop (i + m) = ps.drop (i + m) := by
        have := congrArg (List.drop dk.length) (winPut_drop ps dk i hle)
        rw [List.drop_drop, List.drop_left, hdl] at this
        exact this
      have := congrArg (List.drop 1) e1
      rw [List.drop_drop, List.drop_drop] at this; exact this
    rw [e]; exact hz.2
theorem rmul_digit {x y z cy : Nat} (hx : x < B32) (hy : y < B32) (hz : z < B32) (hc : cy < B32) : x * y + z + cy < B64 := by
  have h1 : x * y ≤ (B32 - 1) * (B32 - 1) := Nat.mul_le_mul (by omega) (by omega)
  have h2 : (B32 - 1) * (B32 - 1) + 2 * (B32 - 1) < B64 := by decide
  omega

theorem rmul_any {p q : Option Addr} {n m c d : Nat} {xs ys : List Nat} {a b : Nat} {w : World} (h : At32 w p n c xs) (k : At32 w q m d ys) (hx : Nf B32 xs a) (hy : Nf B32 ys b) (hn : n ≤ 1099511627776) (hm : m ≤ 1099511627776) :
    Calls Tryd.prog 66 #[.slice p n c, .slice q m d] w fun e w' => ∃ p' m' zs, e = .returned (.slice p' m' m') ∧ At32 w' p' m' m' zs ∧ Nf B32 zs (a * b) ∧ m' ≤ n + m ∧ Below w.heap.size w w' := by
  obtain ⟨i0, hi, hz0, hz1, hz2⟩ := info_parts Tryd.infoU32
  have HX : Hid (Nf B32 xs a) := hx
  have HY : Hid (Nf B32 ys b) := hy
  have HLX : Hid (xs.length = n) := h.len
  have HLY : Hid (ys.length = m) := k.len
  have hcap := h.cap; have hbig := h.big; have kcap := k.cap; have kbig := k.big
  unfold maxLen at hbig kbig
  obtain ⟨N, hN⟩ : ∃ N, N = n + m := ⟨_, rfl⟩
  have HN : Hid (N = n + m) := hN
  have hNi : (n : Int) + (m : Int) = (N : Int) := by omega
  have hNb : N ≤ 2199023255552 := by omega
  clear hx hy hN
  go_enter Tryd.func66, Tryd.ntmps66
  go_wp2_with (at_make; refine wpList_make_full _ rfl _ _ 72 rfl w.heap.size 87 i0 (.int .u32 0) 1 Tryd.underlying72 hi hz0 hz1 _ _ _ _ N rfl rfl (by omega) (by omega) (by rw [hz2]; omega) (by unfold maxLen; omega) (Nat.le_refl _) ?_; intro w1 hown hgrow; have hb := made_blk32 hown hgrow; clear hown hgrow)
  have HO : Hid (RMulO w w.heap.size N m xs ys 0 (List.replicate N 0) w1) := by
    have hr := hb.1.row (Dig.replicate B32 N B32_pos)
    rw [List.length_replicate] at hr
    refine ⟨hb.2, hr, by rw [valB_replicate]; simp [valB], by rw [List.drop_replicate, valB_replicate]⟩
  clear hb hNi
  go_loopg [6] n (fun gk iv wr => ∃ (i : Nat) (ps : List Nat), i + gk = n ∧ iv = .int .i64 i ∧ Hid (RMulO w w.heap.size N m xs ys i ps wr))
  case atStart => exact ⟨0, _, by omega, rfl, HO⟩
  case round =>
    obtain ⟨i, ps, hig, rfl, HR⟩ := hrel
    cases gk with
    | zero =>
      obtain rfl : i = n := by omega
      have hR := HR.out
      have A32 : At32 wr (some ⟨w.heap.size, 0, none⟩) N N ps := hR.row.at_ (Nat.le_refl _) (by unfold maxLen; omega)
      have hv := hR.val
      rw [List.take_of_length_le (by rw [HLX.out]; omega), HX.out.val, HY.out.val] at hv
      have HNF : Hid (Nf B32 (trimL ps) (a * b)) := by
        have := Nf.trim hR.row.dig
        rw [hv] at this; exact this
      have hle := trimL_length_le ps
      have HLE : Hid ((trimL ps).length ≤ i + m) := by have := hR.row.len; have := HN.out; show _ ≤ _; omega
      have hbx := hR.bel
      clear hR hv hle
      go_wp2_with fail
      refine (rnorm_any A32 (by omega)).mono ?_
      rintro e w5 ⟨g5, rfl, hg5, hblk5, hb5⟩
      have hd5 := HNF.out.dig
      generalize trimL ps = zs at *
      go_wp2_with fail
      go_ret
      exact ⟨_, _, zs, rfl, hblk5.at_ hd5 rfl (by have := HLE.out; unfold maxLen; omega), HNF.out, HLE.out, Below.on hbx hb5⟩
    | succ gg =>
      obtain ⟨wo, hwo⟩ : ∃ wo, wo = wr := ⟨_, rfl⟩
      subst hwo
      obtain ⟨g, off, rfl, hc⟩ := h.cells.resolve_left (by omega)
      obtain ⟨x, hx⟩ : ∃ x, x = xs.getD i 0 := ⟨_, rfl⟩
      have hcx0 : w.cell? ⟨g, off + i, none⟩ = some (V x) := by rw [hx]; exact hc i (by omega)
      have hcx : wo.cell? ⟨g, off + i, none⟩ = some (V x) := (HR.out.bel.cell (p := ⟨g, off + i, none⟩) (World.block_lt_of_cell? w _ hcx0)).trans hcx0
      have hxb : x < B32 := by rw [hx]; exact HX.out.dig.getD B32_pos i
      have hxw : IntKind.u64.wrap (x : Int) = (x : Int) := wrap_mod _ _ (by rw [B32_eq] at hxb; omega)
      have HXE : Hid (x = xs.getD i 0) := hx
      have hin : i < n := by omega
      clear hc hx hcx0
      go_wp2_with fail
      go_loopg [7, 9] m (fun g2 cv jv wy => ∃ (j cy : Nat) (dk : List Nat), j + g2 = m ∧ jv = .int .i64 j ∧ cv = U cy ∧ Hid (RMulRel wo w.heap.size i m ((ps.drop i).take m) ys x j cy dk wy))
      case atStart =>
        refine ⟨0, 0, (ps.drop i).take m, by omega, rfl, rfl, ⟨Wr.refl _ _ _ _, HR.out.row.win i m (by have := HN.out; omega), rfl, B32_pos, ?_⟩⟩
        simp [valB]
      case round =>
        obtain ⟨j, cy, dk, hjg, rfl, rfl, HI⟩ := hrel
        have hcyb := HI.out.car
        cases gk with
        | zero =>
          obtain rfl : j = m := by omega
          have hrow1 := HR.out.row.put HI.out.wrs HI.out.row (by have := HN.out; omega)
          have hct : wr.cell? ⟨w.heap.size, i + j, none⟩ = some (V ((winPut ps dk i).getD (i + j) 0)) := by
            have := hrow1.cell (i + j) (by have := HN.out; omega)
            rw [Nat.zero_add] at this; exact this
          have hft : wr.frozen? ⟨w.heap.size, i + j, none⟩ = false := by
            have := hrow1.frozen (i + j) (by have := HN.out; omega)
            rw [Nat.zero_add] at this; exact this
          have hnj : ¬ j < j := by omega
          have hiN : i + j < N := by have := HN.out; omega
          have hw32 : IntKind.u32.wrap (cy : Int) = (cy : Int) := wrap32 cy hcyb
          clear hrow1
          go_wp2_with fail
          go_roundg gg
          case measure => omega
          case rel => exact ⟨i + 1, (winPut ps dk i).set (i + j) cy, by omega, by go_num, HR.out.step (n := n) hin HN.out HLX.out HLY.out HXE.out HI.out⟩
        | succ g3 =>
          have hjm : j < m := by omega
          obtain ⟨gb, ob, rfl, hcb⟩ := k.cells.resolve_left (by omega)
          obtain ⟨z, hzz⟩ : ∃ z, z = dk.getD j 0 := ⟨_, rfl⟩
          obtain ⟨y, hyy⟩ : ∃ y, y = ys.getD j 0 := ⟨_, rfl⟩
          have hcy0 : w.cell? ⟨gb, ob + j, none⟩ = some (V y) := by rw [hyy]; exact hcb j hjm
          have hgb := World.block_lt_of_cell? w _ hcy0
          have hcy1 : wr.cell? ⟨gb, ob + j, none⟩ = some (V y) := by
            rw [HI.out.wrs.cell gb (ob + j) (.inl (by simp at hgb; omega))]
            exact (HR.out.bel.cell (p := ⟨gb, ob + j, none⟩) hgb).trans hcy0
          have hcz : wr.cell? ⟨w.heap.size, i + j, none⟩ = some (V z) := by rw [hzz]; exact HI.out.row.cell j hjm
          have hfz : wr.frozen? ⟨w.heap.size, i + j, none⟩ = false := HI.out.row.frozen j hjm
          have hzb : z < B32 := by rw [hzz]; exact HI.out.row.dig.getD B32_pos j
          have hyb : y < B32 := by rw [hyy]; exact HY.out.dig.getD B32_pos j
          have hall := rmul_digit hxb hyb hzb hcyb
          obtain ⟨xy, exy⟩ : ∃ xy, xy = x * y := ⟨_, rfl⟩
          rw [← exy] at hall
          rw [B64_eq] at hall
          have f0 : IntKind.u64.wrap (z : Int) = (z : Int) := wrap_mod _ _ (by rw [B32_eq] at hzb; omega)
          have f00 : IntKind.u64.wrap (y : Int) = (y : Int) := wrap_mod _ _ (by rw [B32_eq] at hyb; omega)
          have f1 : IntKind.u64.wrap ((x : Int) * (y : Int)) = (xy : Int) := by
            have e : ((x : Int) * (y : Int)) = ((x * y : Nat) : Int) := by simp
            rw [e, ← exy]; exact wrap_mod _ _ (by omega)
          obtain ⟨s1, es1⟩ : ∃ s1, s1 = z + xy := ⟨_, rfl⟩
          have f2 : IntKind.u64.wrap ((z : Int) + (xy : Int)) = (s1 : Int) := wrap_mod _ _ (by omega)
          obtain ⟨s2, es2⟩ : ∃ s2, s2 = cy + s1 := ⟨_, rfl⟩
          have f3 : IntKind.u64.wrap ((cy : Int) + (s1 : Int)) = (s2 : Int) := wrap_mod _ _ (by omega)
          have hs2 : s2 < 18446744073709551616 := by omega
          obtain ⟨lo, elo⟩ : ∃ lo, lo = s2 % B32 := ⟨_, rfl⟩
          obtain ⟨hh, ehh⟩ : ∃ hh, hh = s2 / B32 := ⟨_, rfl⟩
          have hlob : lo < B32 := by rw [elo]; exact Nat.mod_lt _ B32_pos
          have hhhb : hh < B32 := by rw [ehh]; exact Nat.div_lt_of_lt_mul (by rw [B32_two, B64_eq]; exact hs2)
          have f4 : bits .and .u64 (s2 : Int) 4294967295 = (lo : Int) := by rw [elo, B32_eq]; exact and32 s2 hs2
          have f5 : (s2 : Int) / 4294967296 = (hh : Int) := by rw [ehh, B32_eq]; exact div32 s2
          have f6 : IntKind.u32.wrap (lo : Int) = (lo : Int) := wrap32 lo hlob
          have HSUM : Hid (x * y + z + cy = lo + B32 * hh) := by
            have := Nat.mod_add_div s2 B32
            rw [← elo, ← ehh] at this
            show _ = _; omega
          have HZE : Hid (z = dk.getD j 0) := hzz
          have HYE : Hid (y = ys.getD j 0) := hyy
          have hij : IntKind.i64.wrap ((i : Int) + (j : Int)) = (i : Int) + (j : Int) := by
            have e : ((i : Int) + (j : Int)) = ((i + j : Nat) : Int) := by omega
            rw [e]
            simp [IntKind.wrap, IntKind.signed, IntKind.bits]
            omega
          have hiN : (i : Int) + (j : Int) < (N : Int) := by have := HN.out; omega
          clear hall exy es1 es2 elo ehh hzz hyy hcy0 hcb hgb
          go_wp2_with fail
          go_quiet (fail)
          go_wp2_with fail
          go_roundg g3
          case measure => omega
          case rel =>
            refine ⟨j + 1, hh, dk.set j lo, by omega, by go_num, rfl, ?_⟩
            exact (HI.out.drewN nq).step hjm HZE.out HYE.out (by have := HSUM.out; rw [Nat.mul_comm y x]; exact this) hlob hhhb
end Go.Proofs.YtkdpafliibclnaaDoor
