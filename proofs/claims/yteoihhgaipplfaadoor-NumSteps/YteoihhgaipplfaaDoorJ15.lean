import Derived.Test.YteoihhgaipplfaaDoorJ14
import Derived.Test.YteoihhgaipplfaaDoorJ11
import Derived.Test.YteoihhgaipplfaaDoorJ12
namespace Go.Proofs.YteoihhgaipplfaaDoor
open Go.RowKit Go.Shelf

/-- What ref.Add has done when i digits are through. -/
structure RAddR (w : World) (g N M : Nat) (xs ys : List Nat) (i cy : Nat) (ss : List Nat) (wr : World) : Prop where
  bel : Below g w wr
  own : wr.ownsRow g 112 1 (.slice (some ⟨g, 0, none⟩) i N) i (cellsV ss)
  len : ss.length = i
  dig : Dig B32 ss
  car : cy ≤ 1
  fin : i ≤ M + 1
  last : i = M + 1 → cy = 0
  sum : valB B32 ss + B32 ^ i * cy = valB B32 (xs.take i) + valB B32 (ys.take i)
theorem radd_step {xs ys ss : List Nat} {i cy x y lo hh : Nat} (h : valB B32 ss + B32 ^ i * cy = valB B32 (xs.take i) + valB B32 (ys.take i)) (hl : ss.length = i) (ex : x = xs.getD i 0) (ey : y = ys.getD i 0) (hs : cy + x + y = lo + B32 * hh) :
    valB B32 (ss ++ [lo]) + B32 ^ (i + 1) * hh = valB B32 (xs.take (i + 1)) + valB B32 (ys.take (i + 1)) := by
  rw [valB_snoc, hl, valB_take_any _ xs i, valB_take_any _ ys i, ← ex, ← ey, Nat.pow_succ]
  have e1 : B32 ^ i * (cy + x + y) = B32 ^ i * (lo + B32 * hh) := by rw [hs]
  rw [Nat.mul_add, Nat.mul_add, Nat.mul_add, ← Nat.mul_assoc] at e1
  omega
theorem RAddR.at_ {w : World} {g N M : Nat} {xs ys : List Nat} {i cy : Nat} {ss : List Nat} {wr : World} (h : RAddR w g N M xs ys i cy ss wr) : At32 wr (some ⟨g, 0, none⟩) i N ss := by
  rcases h.own.2 with ⟨h', _⟩ | ⟨g', cap', cur, h', hbase, hgc, hcap', hmx, hsz, htake⟩
  · simp at h'
  · simp only [Value.slice.injEq, Option.some.injEq, Addr.mk.injEq, and_true, true_and] at h'
    obtain ⟨rfl, rfl⟩ := h'
    refine ⟨h.len, hcap', hmx, h.dig, .inr ⟨g, 0, rfl, fun jj hj => ?_⟩⟩
    rw [Nat.zero_add, cell_of_row wr g jj _ _ _ hgc]
    have e1 := cellsV_get ss jj (by rw [h.len]; exact hj)
    rw [← htake, Nat.mul_one, List.getElem?_take, if_pos hj] at e1
    rw [← Array.getElem?_toList]; exact e1
theorem one_cell (w : World) (x : Nat) : ∀ (j : Nat) (u : Value), [V x][j]? = some u → (w.alloc (.cells #[V x] 112)).cell? ((⟨w.heap.size, 0, none⟩ : Addr).add j) = some u := by
  intro j u h
  have hb : Blk32 (w.alloc (.cells #[V x] 112)) w.heap.size [x] := heap_alloc_new w _
  have hj : j < 1 := by
    have := (List.getElem?_eq_some_iff.1 h).1
    simpa using this
  have hadd : (⟨w.heap.size, 0, none⟩ : Addr).add j = ⟨w.heap.size, j, none⟩ := by unfold Addr.add; split <;> simp_all
  rw [hadd, hb.cell j (by simpa using hj)]
  obtain rfl : j = 0 := by omega
  simpa using h

set_option maxRecDepth 20000 in
set_option maxHeartbeats 2000000 in
/-- ref.Add. -/
theorem radd_any {p q : Option Addr} {n m c d : Nat} {xs ys : List Nat} {a b : Nat} {w : World} (h : At32 w p n c xs) (k : At32 w q m d ys) (hx : Nf B32 xs a) (hy : Nf B32 ys b) (hn : n ≤ 4398046511104) (hm : m ≤ 4398046511104) :
    Calls Tryd.prog 80 #[.slice p n c, .slice q m d] w fun e w' => ∃ p' m' zs, e = .returned (.slice p' m' m') ∧ At32 w' p' m' m' zs ∧ Nf B32 zs (a + b) ∧ Below w.heap.size w w' := by
  obtain ⟨i0, hi, hz0, hz1, hz2⟩ := info_parts Tryd.infoU32
  have HX : Hid (Nf B32 xs a) := hx
  have HY : Hid (Nf B32 ys b) := hy
  have HLX : Hid (xs.length = n) := h.len
  have HLY : Hid (ys.length = m) := k.len
  have hcap := h.cap; have hbig := h.big; have kcap := k.cap; have kbig := k.big
  unfold maxLen at hbig kbig
  obtain ⟨M, hM⟩ : ∃ M, M = max n m := ⟨_, rfl⟩
  have hM1 : n ≤ M := by omega
  have hM2 : m ≤ M := by omega
  have HM : Hid (M = n ∨ M = m) := by show _ ∨ _; omega
  have hMi : max (n : Int) (m : Int) = (M : Int) := by omega
  have hMb : M ≤ 4398046511104 := by omega
  clear hx hy hM
  go_enter Tryd.func80, Tryd.ntmps80
  go_wp2_with (at_make; refine wpList_make_own _ rfl _ _ 72 rfl w.heap.size 112 i0 (.int .u32 0) 1 Tryd.underlying72 hi hz0 hz1 _ _ _ (M + 1) rfl rfl (by omega) (by rw [hz2]; omega) (by unfold maxLen; omega) (Nat.le_refl _) ?_; intro w1 hown hgrow)
  have hb1 : Below w.heap.size w w1 := (Below.refl _ _).grown hgrow (Nat.le_refl _) (fun k hk => by simp at hk)
  have HO : Hid (RAddR w w.heap.size (M + 1) M xs ys 0 0 [] w1) := ⟨hb1, hown, rfl, Dig.nil _, by omega, by omega, fun _ => rfl, by simp [valB]⟩
  clear hown hgrow hb1 hMi
  obtain ⟨N, hN⟩ : ∃ N, N = M + 1 := ⟨_, rfl⟩
  rw [← hN] at HO ⊢
  have HN : Hid (N = M + 1) := hN
  clear hN
  -- the loop
  go_loopg [5, 6, 7] (M + 1) (fun gk sv cv iv wr => ∃ (i cy : Nat) (ss : List Nat), i + gk = M + 1 ∧ iv = .int .i64 i ∧ cv = U cy ∧ sv = .slice (some ⟨w.heap.size, 0, none⟩) i N ∧ Hid (RAddR w w.heap.size N M xs ys i cy ss wr))
  case atStart => exact ⟨0, 0, [], by omega, rfl, rfl, rfl, HO⟩
  case round =>
    obtain ⟨i, cy, ss, hig, rfl, rfl, rfl, HR⟩ := hrel
    have hcy := HR.out.car
    by_cases hall : ¬ i < n ∧ ¬ i < m ∧ cy = 0
    · obtain ⟨ha, hb, rfl⟩ := hall
      have A32 := HR.out.at_
      have hv := HR.out.sum
      rw [Nat.mul_zero, Nat.add_zero, List.take_of_length_le (by rw [HLX.out]; omega), List.take_of_length_le (by rw [HLY.out]; omega), HX.out.val, HY.out.val] at hv
      have HNF : Hid (Nf B32 (trimL ss) (a + b)) := by
        have := Nf.trim HR.out.dig
        rw [hv] at this; exact this
      have hle := trimL_length_le ss
      have HLE : Hid ((trimL ss).length ≤ M + 1) := by have := HR.out.len; have := HR.out.fin; show _ ≤ _; omega
      have hib := HR.out.fin
      have hbx := HR.out.bel
      have hc0 : ¬ (0 : Int) < ((0 : Nat) : Int) := by omega
      clear hv hle
      go_wp2_with fail
      refine (rnorm_any A32 (by omega)).mono ?_
      rintro e w5 ⟨g5, rfl, hg5, hblk5, hb5⟩
      have hd5 := HNF.out.dig
      generalize trimL ss = zs at *
      go_wp2_with fail
      go_ret
      exact ⟨_, _, zs, rfl, hblk5.at_ hd5 rfl (by have := HLE.out; unfold maxLen; omega), HNF.out, Below.on hbx hb5⟩
    · obtain ⟨x, hx⟩ : ∃ x, x = xs.getD i 0 := ⟨_, rfl⟩
      obtain ⟨y, hy⟩ : ∃ y, y = ys.getD i 0 := ⟨_, rfl⟩
      have hxb : x < B32 := by rw [hx]; exact HX.out.dig.getD B32_pos i
      have hyb : y < B32 := by rw [hy]; exact HY.out.dig.getD B32_pos i
      have HXE : Hid (x = xs.getD i 0) := hx
      have HYE : Hid (y = ys.getD i 0) := hy
      clear hx hy
      cases gk with
      | zero =>
        exfalso
        have h1 := HR.out.last (by omega)
        exact hall ⟨by omega, by omega, h1⟩
      | succ gg =>
        by_cases ha : i < n
        · by_cases hb : i < m
          · have hin : i < n := ha
            obtain ⟨g, off, rfl, hc⟩ := h.cells.resolve_left (by omega)
            have hcx0 : w.cell? ⟨g, off + i, none⟩ = some (V x) := by rw [HXE.out]; exact hc i hin
            have hcx : wr.cell? ⟨g, off + i, none⟩ = some (V x) := (HR.out.bel.cell (p := ⟨g, off + i, none⟩) (World.block_lt_of_cell? w _ hcx0)).trans hcx0
            have hxw : IntKind.u64.wrap (x : Int) = (x : Int) := wrap_mod _ _ (by rw [B32_eq] at hxb; omega)
            clear hc hcx0
            have him : i < m := hb
            obtain ⟨g2, off2, rfl, hc2⟩ := k.cells.resolve_left (by omega)
            have hcy0 : w.cell? ⟨g2, off2 + i, none⟩ = some (V y) := by rw [HYE.out]; exact hc2 i him
            have hcy1 : wr.cell? ⟨g2, off2 + i, none⟩ = some (V y) := (HR.out.bel.cell (p := ⟨g2, off2 + i, none⟩) (World.block_lt_of_cell? w _ hcy0)).trans hcy0
            have hyw : IntKind.u64.wrap (y : Int) = (y : Int) := wrap_mod _ _ (by rw [B32_eq] at hyb; omega)
            clear hc2 hcy0
            obtain ⟨t1, et1⟩ : ∃ t1, t1 = cy + x := ⟨_, rfl⟩
            obtain ⟨t2, et2⟩ : ∃ t2, t2 = t1 + y := ⟨_, rfl⟩
            rw [B32_eq] at hxb hyb
            have f1 : IntKind.u64.wrap ((cy : Int) + (x : Int)) = (t1 : Int) := wrap_mod _ _ (by omega)
            have f2 : IntKind.u64.wrap ((t1 : Int) + (y : Int)) = (t2 : Int) := wrap_mod _ _ (by omega)
            have ht2 : t2 < 18446744073709551616 := by omega
            obtain ⟨lo, elo⟩ : ∃ lo, lo = t2 % B32 := ⟨_, rfl⟩
            obtain ⟨hh, ehh⟩ : ∃ hh, hh = t2 / B32 := ⟨_, rfl⟩
            have hlob : lo < B32 := by rw [elo]; exact Nat.mod_lt _ B32_pos
            have hhb : hh ≤ 1 := by rw [ehh, B32_eq]; omega
            have f4 : bits .and .u64 (t2 : Int) 4294967295 = (lo : Int) := by rw [elo, B32_eq]; exact and32 t2 ht2
            have f5 : (t2 : Int) / 4294967296 = (hh : Int) := by rw [ehh, B32_eq]; exact div32 t2
            have f6 : IntKind.u32.wrap (lo : Int) = (lo : Int) := wrap32 lo hlob
            have HSUM : Hid (cy + x + y = lo + B32 * hh) := by
              have := Nat.mod_add_div t2 B32
              rw [← elo, ← ehh] at this
              show _ = _; omega
            have HLAST : Hid (i + 1 = M + 1 → hh = 0) := by
              intro hl
              exfalso; omega
            have HI1 : Hid (i + 1 ≤ M + 1) := by
              have h1 := HR.out.fin; have h2 := HR.out.last
              show _ ≤ _; omega
            have HOA : Hid ((wr.alloc (.cells #[V lo] 112)).ownsRow w.heap.size 112 1 (.slice (some ⟨w.heap.size, 0, none⟩) i N) i (cellsV ss)) := HR.out.own.alloc _
            have hsp : i + 1 ≤ N := by have := HI1.out; have := HN.out; omega
            clear et1 et2 elo ehh hxb hyb
            go_wp2_with (at_builtin; refine wpList_append_fits _ rfl (.tmp 53) (.tmp 57) 72 rfl w.heap.size 112 i0 1 Tryd.underlying72 hi hz1 w.heap.size i N (cellsV ss) rfl HOA.out ⟨wr.heap.size, 0, none⟩ 1 1 [V lo] rfl rfl (one_cell wr lo) (by intro u hu; simp at hu; subst hu; rfl) hsp ?_; intro w3 hw3 hgr3)
            have HR3 : Hid (RAddR w w.heap.size N M xs ys (i + 1) hh (ss ++ [lo]) w3) := by
              have hR := HR.out
              refine ⟨(hR.bel.alloc hR.bel.size _).grown hgr3 (by have := hR.bel.size; simp; omega) (fun q hq => by simp at hq; omega), ?_, by simp [hR.len], hR.dig.append (Dig.cons hlob (Dig.nil _)), hhb, HI1.out, HLAST.out, radd_step hR.sum hR.len HXE.out HYE.out HSUM.out⟩
              have e0 : cellsV (ss ++ [lo]) = cellsV ss ++ [V lo] := by unfold cellsV; rw [List.map_append]; rfl
              rw [e0]; exact hw3
            clear hw3 hgr3
            go_roundg gg
            case measure => omega
            case rel => exact ⟨i + 1, hh, ss ++ [lo], by omega, by go_num, rfl, rfl, HR3⟩
          · have hin : i < n := ha
            obtain ⟨g, off, rfl, hc⟩ := h.cells.resolve_left (by omega)
            have hcx0 : w.cell? ⟨g, off + i, none⟩ = some (V x) := by rw [HXE.out]; exact hc i hin
            have hcx : wr.cell? ⟨g, off + i, none⟩ = some (V x) := (HR.out.bel.cell (p := ⟨g, off + i, none⟩) (World.block_lt_of_cell? w _ hcx0)).trans hcx0
            have hxw : IntKind.u64.wrap (x : Int) = (x : Int) := wrap_mod _ _ (by rw [B32_eq] at hxb; omega)
            clear hc hcx0
            have hy0 : y = 0 := by rw [HYE.out, List.getD_eq_getElem?_getD, List.getElem?_eq_none (by rw [HLY.out]; omega)]; rfl
            obtain ⟨t1, et1⟩ : ∃ t1, t1 = cy + x := ⟨_, rfl⟩
            obtain ⟨t2, et2⟩ : ∃ t2, t2 = t1 + y := ⟨_, rfl⟩
            rw [B32_eq] at hxb hyb
            have f1 : IntKind.u64.wrap ((cy : Int) + (x : Int)) = (t1 : Int) := wrap_mod _ _ (by omega)
            obtain rfl : t2 = t1 := by omega
            have ht2 : t2 < 18446744073709551616 := by omega
            obtain ⟨lo, elo⟩ : ∃ lo, lo = t2 % B32 := ⟨_, rfl⟩
            obtain ⟨hh, ehh⟩ : ∃ hh, hh = t2 / B32 := ⟨_, rfl⟩
            have hlob : lo < B32 := by rw [elo]; exact Nat.mod_lt _ B32_pos
            have hhb : hh ≤ 1 := by rw [ehh, B32_eq]; omega
            have f4 : bits .and .u64 (t2 : Int) 4294967295 = (lo : Int) := by rw [elo, B32_eq]; exact and32 t2 ht2
            have f5 : (t2 : Int) / 4294967296 = (hh : Int) := by rw [ehh, B32_eq]; exact div32 t2
            have f6 : IntKind.u32.wrap (lo : Int) = (lo : Int) := wrap32 lo hlob
            have HSUM : Hid (cy + x + y = lo + B32 * hh) := by
              have := Nat.mod_add_div t2 B32
              rw [← elo, ← ehh] at this
              show _ = _; omega
            have HLAST : Hid (i + 1 = M + 1 → hh = 0) := by
              intro hl
              exfalso; omega
            have HI1 : Hid (i + 1 ≤ M + 1) := by
              have h1 := HR.out.fin; have h2 := HR.out.last
              show _ ≤ _; omega
            have HOA : Hid ((wr.alloc (.cells #[V lo] 112)).ownsRow w.heap.size 112 1 (.slice (some ⟨w.heap.size, 0, none⟩) i N) i (cellsV ss)) := HR.out.own.alloc _
            have hsp : i + 1 ≤ N := by have := HI1.out; have := HN.out; omega
            clear et1 et2 elo ehh hxb hyb
            go_wp2_with (at_builtin; refine wpList_append_fits _ rfl (.tmp 53) (.tmp 57) 72 rfl w.heap.size 112 i0 1 Tryd.underlying72 hi hz1 w.heap.size i N (cellsV ss) rfl HOA.out ⟨wr.heap.size, 0, none⟩ 1 1 [V lo] rfl rfl (one_cell wr lo) (by intro u hu; simp at hu; subst hu; rfl) hsp ?_; intro w3 hw3 hgr3)
            have HR3 : Hid (RAddR w w.heap.size N M xs ys (i + 1) hh (ss ++ [lo]) w3) := by
              have hR := HR.out
              refine ⟨(hR.bel.alloc hR.bel.size _).grown hgr3 (by have := hR.bel.size; simp; omega) (fun q hq => by simp at hq; omega), ?_, by simp [hR.len], hR.dig.append (Dig.cons hlob (Dig.nil _)), hhb, HI1.out, HLAST.out, radd_step hR.sum hR.len HXE.out HYE.out HSUM.out⟩
              have e0 : cellsV (ss ++ [lo]) = cellsV ss ++ [V lo] := by unfold cellsV; rw [List.map_append]; rfl
              rw [e0]; exact hw3
            clear hw3 hgr3
            go_roundg gg
            case measure => omega
            case rel => exact ⟨i + 1, hh, ss ++ [lo], by omega, by go_num, rfl, rfl, HR3⟩
        · by_cases hb : i < m
          · have him : i < m := hb
            obtain ⟨g2, off2, rfl, hc2⟩ := k.cells.resolve_left (by omega)
            have hcy0 : w.cell? ⟨g2, off2 + i, none⟩ = some (V y) := by rw [HYE.out]; exact hc2 i him
            have hcy1 : wr.cell? ⟨g2, off2 + i, none⟩ = some (V y) := (HR.out.bel.cell (p := ⟨g2, off2 + i, none⟩) (World.block_lt_of_cell? w _ hcy0)).trans hcy0
            have hyw : IntKind.u64.wrap (y : Int) = (y : Int) := wrap_mod _ _ (by rw [B32_eq] at hyb; omega)
            clear hc2 hcy0
            have hx0 : x = 0 := by rw [HXE.out, List.getD_eq_getElem?_getD, List.getElem?_eq_none (by rw [HLX.out]; omega)]; rfl
            obtain ⟨t1, et1⟩ : ∃ t1, t1 = cy + x := ⟨_, rfl⟩
            obtain ⟨t2, et2⟩ : ∃ t2, t2 = t1 + y := ⟨_, rfl⟩
            rw [B32_eq] at hxb hyb
            obtain rfl : t1 = cy := by omega
            have f2 : IntKind.u64.wrap ((t1 : Int) + (y : Int)) = (t2 : Int) := wrap_mod _ _ (by omega)
            have ht2 : t2 < 18446744073709551616 := by omega
            obtain ⟨lo, elo⟩ : ∃ lo, lo = t2 % B32 := ⟨_, rfl⟩
            obtain ⟨hh, ehh⟩ : ∃ hh, hh = t2 / B32 := ⟨_, rfl⟩
            have hlob : lo < B32 := by rw [elo]; exact Nat.mod_lt _ B32_pos
            have hhb : hh ≤ 1 := by rw [ehh, B32_eq]; omega
            have f4 : bits .and .u64 (t2 : Int) 4294967295 = (lo : Int) := by rw [elo, B32_eq]; exact and32 t2 ht2
            have f5 : (t2 : Int) / 4294967296 = (hh : Int) := by rw [ehh, B32_eq]; exact div32 t2
            have f6 : IntKind.u32.wrap (lo : Int) = (lo : Int) := wrap32 lo hlob
            have HSUM : Hid (t1 + x + y = lo + B32 * hh) := by
              have := Nat.mod_add_div t2 B32
              rw [← elo, ← ehh] at this
              show _ = _; omega
            have HLAST : Hid (i + 1 = M + 1 → hh = 0) := by
              intro hl
              exfalso; omega
            have HI1 : Hid (i + 1 ≤ M + 1) := by
              have h1 := HR.out.fin; have h2 := HR.out.last
              show _ ≤ _; omega
            have HOA : Hid ((wr.alloc (.cells #[V lo] 112)).ownsRow w.heap.size 112 1 (.slice (some ⟨w.heap.size, 0, none⟩) i N) i (cellsV ss)) := HR.out.own.alloc _
            have hsp : i + 1 ≤ N := by have := HI1.out; have := HN.out; omega
            clear et1 et2 elo ehh hxb hyb
            go_wp2_with (at_builtin; refine wpList_append_fits _ rfl (.tmp 53) (.tmp 57) 72 rfl w.heap.size 112 i0 1 Tryd.underlying72 hi hz1 w.heap.size i N (cellsV ss) rfl HOA.out ⟨wr.heap.size, 0, none⟩ 1 1 [V lo] rfl rfl (one_cell wr lo) (by intro u hu; simp at hu; subst hu; rfl) hsp ?_; intro w3 hw3 hgr3)
            have HR3 : Hid (RAddR w w.heap.size N M xs ys (i + 1) hh (ss ++ [lo]) w3) := by
              have hR := HR.out
              refine ⟨(hR.bel.alloc hR.bel.size _).grown hgr3 (by have := hR.bel.size; simp; omega) (fun q hq => by simp at hq; omega), ?_, by simp [hR.len], hR.dig.append (Dig.cons hlob (Dig.nil _)), hhb, HI1.out, HLAST.out, radd_step hR.sum hR.len HXE.out HYE.out HSUM.out⟩
              have e0 : cellsV (ss ++ [lo]) = cellsV ss ++ [V lo] := by unfold cellsV; rw [List.map_append]; rfl
              rw [e0]; exact hw3
            clear hw3 hgr3
            go_roundg gg
            case measure => omega
            case rel => exact ⟨i + 1, hh, ss ++ [lo], by omega, by go_num, rfl, rfl, HR3⟩
          · have hcp : 0 < cy := by
              rcases Nat.eq_zero_or_pos cy with e | e
              · exact absurd ⟨ha, hb, e⟩ hall
              · exact e
            have hcp' : (0 : Int) < (cy : Int) := by omega
            have hx0 : x = 0 := by rw [HXE.out, List.getD_eq_getElem?_getD, List.getElem?_eq_none (by rw [HLX.out]; omega)]; rfl
            have hy0 : y = 0 := by rw [HYE.out, List.getD_eq_getElem?_getD, List.getElem?_eq_none (by rw [HLY.out]; omega)]; rfl
            obtain ⟨t1, et1⟩ : ∃ t1, t1 = cy + x := ⟨_, rfl⟩
            obtain ⟨t2, et2⟩ : ∃ t2, t2 = t1 + y := ⟨_, rfl⟩
            rw [B32_eq] at hxb hyb
            obtain rfl : t1 = cy := by omega
            obtain rfl : t2 = t1 := by omega
            have ht2 : t2 < 18446744073709551616 := by omega
            obtain ⟨lo, elo⟩ : ∃ lo, lo = t2 % B32 := ⟨_, rfl⟩
            obtain ⟨hh, ehh⟩ : ∃ hh, hh = t2 / B32 := ⟨_, rfl⟩
            have hlob : lo < B32 := by rw [elo]; exact Nat.mod_lt _ B32_pos
            have hhb : hh ≤ 1 := by rw [ehh, B32_eq]; omega
            have f4 : bits .and .u64 (t2 : Int) 4294967295 = (lo : Int) := by rw [elo, B32_eq]; exact and32 t2 ht2
            have f5 : (t2 : Int) / 4294967296 = (hh : Int) := by rw [ehh, B32_eq]; exact div32 t2
            have f6 : IntKind.u32.wrap (lo : Int) = (lo : Int) := wrap32 lo hlob
            have HSUM : Hid (t2 + x + y = lo + B32 * hh) := by
              have := Nat.mod_add_div t2 B32
              rw [← elo, ← ehh] at this
              show _ = _; omega
            have HLAST : Hid (i + 1 = M + 1 → hh = 0) := by
              intro hl
              rw [ehh, B32_eq]; omega
            have HI1 : Hid (i + 1 ≤ M + 1) := by
              have h1 := HR.out.fin; have h2 := HR.out.last
              show _ ≤ _; omega
            have HOA : Hid ((wr.alloc (.cells #[V lo] 112)).ownsRow w.heap.size 112 1 (.slice (some ⟨w.heap.size, 0, none⟩) i N) i (cellsV ss)) := HR.out.own.alloc _
            have hsp : i + 1 ≤ N := by have := HI1.out; have := HN.out; omega
            clear et1 et2 elo ehh hxb hyb
            go_wp2_with (at_builtin; refine wpList_append_fits _ rfl (.tmp 53) (.tmp 57) 72 rfl w.heap.size 112 i0 1 Tryd.underlying72 hi hz1 w.heap.size i N (cellsV ss) rfl HOA.out ⟨wr.heap.size, 0, none⟩ 1 1 [V lo] rfl rfl (one_cell wr lo) (by intro u hu; simp at hu; subst hu; rfl) hsp ?_; intro w3 hw3 hgr3)
            have HR3 : Hid (RAddR w w.heap.size N M xs ys (i + 1) hh (ss ++ [lo]) w3) := by
              have hR := HR.out
              refine ⟨(hR.bel.alloc hR.bel.size _).grown hgr3 (by have := hR.bel.size; simp; omega) (fun q hq => by simp at hq; omega), ?_, by simp [hR.len], hR.dig.append (Dig.cons hlob (Dig.nil _)), hhb, HI1.out, HLAST.out, radd_step hR.sum hR.len HXE.out HYE.out HSUM.out⟩
              have e0 : cellsV (ss ++ [lo]) = cellsV ss ++ [V lo] := by unfold cellsV; rw [List.map_append]; rfl
              rw [e0]; exact hw3
            clear hw3 hgr3
            go_roundg gg
            case measure => omega
            case rel => exact ⟨i + 1, hh, ss ++ [lo], by omega, by go_num, rfl, rfl, HR3⟩
end Go.Proofs.YteoihhgaipplfaaDoor

namespace Go.Proofs.YteoihhgaipplfaaDoor
open Go.RowKit Go.Shelf

def sgnI (z : Int) : Int := if z < 0 then -1 else if z = 0 then 0 else 1
set_option maxRecDepth 20000 in
set_option maxHeartbeats 4000000 in
/-- num.Of. -/
theorem of_full (z : Int) (w : World) (h0 : -9223372036854775808 ≤ z) (h1 : z ≤ 9223372036854775807) :
    Calls Tryd.prog 14 #[.int .i64 z] w fun e w' => ∃ v, e = .returned v ∧ AnsZ w.heap.size w' v z ∧ Below w.heap.size w w' := by
  by_cases hz : z < 0
  · have hd : decide (z < 0) = true := decide_eq_true hz
    obtain ⟨u, hu⟩ : ∃ u : Nat, (u : Int) = 18446744073709551616 + z := ⟨(18446744073709551616 + z).toNat, by omega⟩
    obtain ⟨v, hv⟩ : ∃ v : Nat, v = z.natAbs := ⟨_, rfl⟩
    have hvb : v < B64 := by rw [B64_eq]; omega
    have hw : IntKind.u64.wrap z = (u : Int) := wrap_u _ _ (by omega)
    have hw2 : IntKind.u64.wrap (-(u : Int)) = (v : Int) := wrap_u _ _ (by omega)
    have HV : Hid (v = z.natAbs) := hv
    have HVZ : Hid (z < 0) := hz
    clear hu hv h0 h1 hz
    go_enter Tryd.func14, Tryd.ntmps14
    go_wp2_with fail
    have B0 : Box (w.alloc (.cells #[.bool false, .slice none 0 0] 35)) w.heap.size (.bool false) (.slice none 0 0) := ⟨by go_simp, by go_simp, by go_simp, by go_simp⟩
    refine (word_any v _ hvb).mono ?_
    rintro e w1 ⟨p1, m1, z1, rfl, ho, hn, hm, hb⟩
    obtain ⟨c0, c1, f0, f1⟩ := B0.below hb
    have hbw := Below.on (below1 w _) hb
    have HOW : Hid (Own (w.heap.size + 1) w1 p1 m1 z1) := by have := ho; simp at this; exact this
    have HN : Hid (Nf B64 z1 v) := hn
    clear B0 ho hn hb hvb hw hw2
    go_wp2_with fail
    refine bodyPost_ret (v := ZV true p1 m1 m1) (by rw [results_cell1 rfl]; go_simp) rfl ⟨_, rfl, ⟨p1, m1, z1, by rw [decide_eq_true HVZ.out], ?_, by rw [← HV.out]; exact HN.out, by omega⟩, ?_⟩
    · exact ((HOW.out.setOld _ _ _ (by omega)).setOld _ _ _ (by omega)).mono (by omega)
    · exact bSet (bSet hbw _ _ _ (Nat.le_refl _)) _ _ _ (Nat.le_refl _)
  · have hd : decide (z < 0) = false := decide_eq_false hz
    obtain ⟨v, rfl⟩ := Int.eq_ofNat_of_zero_le (by omega : 0 ≤ z)
    have hvb : v < B64 := by rw [B64_eq]; omega
    have hw : IntKind.u64.wrap (v : Int) = (v : Int) := wrap_u _ _ (by omega)
    clear h0 h1 hz
    go_enter Tryd.func14, Tryd.ntmps14
    go_wp2_with fail
    have B0 : Box (w.alloc (.cells #[.bool false, .slice none 0 0] 35)) w.heap.size (.bool false) (.slice none 0 0) := ⟨by go_simp, by go_simp, by go_simp, by go_simp⟩
    refine (word_any v _ hvb).mono ?_
    rintro e w1 ⟨p1, m1, z1, rfl, ho, hn, hm, hb⟩
    obtain ⟨c0, c1, f0, f1⟩ := B0.below hb
    have hbw := Below.on (below1 w _) hb
    have HOW : Hid (Own (w.heap.size + 1) w1 p1 m1 z1) := by have := ho; simp at this; exact this
    have HN : Hid (Nf B64 z1 v) := hn
    clear B0 ho hn hb hvb hw
    go_wp2_with fail
    refine bodyPost_ret (v := ZV false p1 m1 m1) (by rw [results_cell1 rfl]; go_simp) rfl ⟨_, rfl, ⟨p1, m1, z1, ?_, ?_, HN.out, by omega⟩, ?_⟩
    · rw [decide_eq_false (Int.not_lt.2 (Int.natCast_nonneg v))]
    · exact ((HOW.out.setOld _ _ _ (by omega)).setOld _ _ _ (by omega)).mono (by omega)
    · exact bSet (bSet hbw _ _ _ (Nat.le_refl _)) _ _ _ (Nat.le_refl _)
theorem bits_zero (a : Nat) : bitsN a = 0 ↔ a = 0 := by
  have h1 := lt_pow_bits a 0
  constructor
  · intro e
    have := h1.2 (by omega)
    omega
  · rintro rfl
    have := h1.1 (by omega)
    omega
set_option maxRecDepth 20000 in
set_option maxHeartbeats 4000000 in
/-- num.Sign. -/
theorem sign_any {p : Option Addr} {m c : Nat} {xs : List Nat} {a : Nat} {w : World} (s : Bool) (h : Num w p m c xs a) :
    Calls Tryd.prog 17 #[ZV s p m c] w fun e w' => e = .returned (.int .i64 (sgnI (iv s a))) ∧ Below w.heap.size w w' := by
  have H : Hid (Num w p m c xs a) := h
  have hm := h.le
  obtain ⟨bb, hbb⟩ : ∃ bb, bb = bitsN a := ⟨_, rfl⟩
  have HBB : Hid (bb = bitsN a) := hbb
  clear h hbb
  by_cases ha : a = 0
  · have hb0 : bb = 0 := by rw [HBB.out]; exact (bits_zero a).2 ha
    have hr : sgnI (iv s a) = 0 := by rw [ha]; cases s <;> rfl
    rw [hr]
    clear hr ha
    go_enter Tryd.func17, Tryd.ntmps17
    go_wp2_with fail
    refine (bits_any (H.out.at_.alloc _) (by omega)).mono ?_
    rintro e w1 ⟨rfl, hw⟩
    rw [H.out.nf.val, ← HBB.out, hb0]
    have hbw : Below w.heap.size w w1 := by rw [hw]; exact below1 w _
    clear hw hb0
    go_wp2_with fail
    go_ret
    exact ⟨rfl, hbw⟩
  · have hb0 : ((bb : Int) == 0) = false := by have := mt (bits_zero a).1 ha; rw [← HBB.out] at this; simpa using this
    obtain ⟨sg, hsg⟩ : ∃ sg, sg = sgnI (iv s a) := ⟨_, rfl⟩
    rw [← hsg]
    have HSG : Hid (sg = if s = true then -1 else 1) := by
      show _ = _
      rw [hsg]; unfold sgnI
      cases s
      · rw [iv_f, if_neg (by omega), if_neg (by omega), if_neg (by simp)]
      · rw [iv_t, if_pos (by omega), if_pos rfl]
    clear hsg ha
    cases s
    · go_enter Tryd.func17, Tryd.ntmps17
      go_wp2_with fail
      refine (bits_any (H.out.at_.alloc _) (by omega)).mono ?_
      rintro e w1 ⟨rfl, hw⟩
      rw [H.out.nf.val, ← HBB.out]
      have hbw : Below w.heap.size w w1 := by rw [hw]; exact below1 w _
      have B0 : Box (w.alloc (.cells #[.bool false, .slice p m c] 35)) w.heap.size (.bool false) (.slice p m c) := ⟨by go_simp, by go_simp, by go_simp, by go_simp⟩
      obtain ⟨c0, c1, f0, f1⟩ := B0
      rw [← hw] at c0 c1 f0 f1
      clear hw
      go_wp2_with fail
      go_ret
      exact ⟨by rw [HSG.out]; rfl, hbw⟩
    · go_enter Tryd.func17, Tryd.ntmps17
      go_wp2_with fail
      refine (bits_any (H.out.at_.alloc _) (by omega)).mono ?_
      rintro e w1 ⟨rfl, hw⟩
      rw [H.out.nf.val, ← HBB.out]
      have hbw : Below w.heap.size w w1 := by rw [hw]; exact below1 w _
      have B0 : Box (w.alloc (.cells #[.bool true, .slice p m c] 35)) w.heap.size (.bool true) (.slice p m c) := ⟨by go_simp, by go_simp, by go_simp, by go_simp⟩
      obtain ⟨c0, c1, f0, f1⟩ := B0
      rw [← hw] at c0 c1 f0 f1
      clear hw
      go_wp2_with fail
      go_ret
      exact ⟨by rw [HSG.out]; rfl, hbw⟩
set_option maxRecDepth 20000 in
set_option maxHeartbeats 4000000 in
/-- law04's same. -/
theorem nsame_any {p q : Option Addr} {n m c d : Nat} {xs ys : List Nat} {a b : Nat} {w : World} (s t : Bool) (h : At w p n c xs) (k : At w q m d ys) (hx : Nf B64 xs a) (hy : Nf B64 ys b) (hs : s = true → 0 < a) (ht : t = true → 0 < b) :
    Calls Tryd.prog 23 #[ZV s p n c, ZV t q m d] w fun e w' => e = .returned (.bool (decide (iv s a = iv t b))) ∧ Below w.heap.size w w' := by
  have HX : Hid (Nf B64 xs a) := hx
  have HY : Hid (Nf B64 ys b) := hy
  by_cases hst : s = t
  · subst hst
    have he : decide (iv s a = iv s b) = decide (xs = ys) := by
      refine decide_eq_decide.2 ⟨fun e => ?_, fun e => ?_⟩
      · have : a = b := by cases s <;> simp [iv] at e <;> omega
        subst this
        exact HX.out.inj B64_one HY.out
      · rw [HX.out.ext HY.out e]
    rw [he]
    have hss : (s == s) = true := by simp
    clear he hx hy hs ht HX HY
    go_enter Tryd.func23, Tryd.ntmps23
    go_wp2_with fail
    refine (same_any ((h.alloc _).alloc _) ((k.alloc _).alloc _)).mono ?_
    rintro e w1 ⟨rfl, r, hw⟩
    have hbw : Below w.heap.size w w1 := by rw [hw]; exact bDrewN (below2 w _ _) r
    clear hw
    obtain ⟨bb, hbb⟩ : ∃ bb, bb = decide (xs = ys) := ⟨_, rfl⟩
    rw [← hbb]
    have HBQ : Hid (bb = decide (xs = ys)) := hbb
    clear hbb
    cases bb
    · go_wp2_with fail
      go_ret
      exact ⟨congrArg (fun b => Ending.returned (.bool b)) HBQ.out, hbw⟩
    · go_wp2_with fail
      go_ret
      exact ⟨congrArg (fun b => Ending.returned (.bool b)) HBQ.out, hbw⟩
  · have he : decide (iv s a = iv t b) = false := by
      refine decide_eq_false (fun e => hst ?_)
      cases s <;> cases t
      · rfl
      · have := ht rfl; simp [iv] at e; omega
      · have := hs rfl; simp [iv] at e; omega
      · rfl
    rw [he]
    have hss : (s == t) = false := by simpa using hst
    clear he hx hy hs ht HX HY hst
    go_enter Tryd.func23, Tryd.ntmps23
    go_wp2_with fail
    go_ret
    exact ⟨rfl, below2 w _ _⟩
end Go.Proofs.YteoihhgaipplfaaDoor

namespace Go.Proofs.YteoihhgaipplfaaDoor
open Go.RowKit Go.Shelf

theorem one_limb {w : World} {p : Option Addr} {m c : Nat} {xs : List Nat} {a : Nat} (h : Num w p m c xs a) (h0 : 0 < a) (hb : a < B64) : m = 1 := by
  have h1 := (h.nf.len_le B64_one (k := 1)).2 (by rw [Nat.pow_one]; exact hb)
  rw [h.at_.len] at h1
  have : m ≠ 0 := fun e => by have := h.zero.1 e; omega
  omega
theorem limb_one {w : World} {p : Option Addr} {m c : Nat} {xs : List Nat} {a : Nat} (h : Num w p m c xs a) (hm : m = 1) : xs.getD 0 0 = a := by
  have hl := h.at_.len
  rw [hm] at hl
  obtain ⟨y, rfl⟩ := List.length_eq_one_iff.1 hl
  have := h.nf.val
  simp [valB] at this
  simpa using this
set_option maxRecDepth 20000 in
set_option maxHeartbeats 4000000 in
theorem small_00 {p : Option Addr} {m c : Nat} {xs : List Nat} {a : Nat} {w : World} (h : Num w p m c xs a) (hs : false = true → 0 < a) (ha : a = 0) :
    Calls Tryd.prog 15 #[ZV false p m c] w fun e w' => e = .returned (.tuple #[.int .i64 (0), .int .i64 0]) ∧ Below w.heap.size w w' := by
  have H : Hid (Num w p m c xs a) := h
  have HS : Hid (false = true → 0 < a) := hs
  obtain rfl : m = 0 := h.zero.2 ha
  clear h hs ha
  go_enter Tryd.func15, Tryd.ntmps15
  go_wp2_with fail
  obtain ⟨W0, hW0⟩ : ∃ W0, W0 = (w.alloc (.cells #[.bool false, .slice p 0 c] 35)) := ⟨_, rfl⟩
  have Xx : Hid (Box W0 (w.heap.size) (.bool false) (.slice p 0 c)) := by rw [hW0]; exact ⟨by go_simp, by go_simp, by go_simp, by go_simp⟩
  have hb0 : Below w.heap.size w W0 := by rw [hW0]; exact below1 w _
  rw [← hW0]
  clear hW0
  have hbw : Below w.heap.size w w := Below.refl _ _
  obtain ⟨gx, hgx⟩ : ∃ g, g = w.heap.size := ⟨_, rfl⟩
  have HGx : Hid (w.heap.size ≤ gx) := by rw [hgx]; show _ ≤ _; omega
  rw [← hgx] at Xx
  try rw [← hgx]
  clear hgx
  have H' : Hid (Num W0 p 0 c xs a) := H.out.below hb0
  clear H
  have H := H'
  clear H'
  have hbw' := Below.on hbw hb0
  clear hbw
  have hbw := hbw'
  clear hbw'
  clear hb0
  refine (numform_t false H.out (fun hh => by cases hh)).mono ?_
  rintro e w1 ⟨rfl, hb1⟩
  have Yx : Hid (Box w1 gx (.bool false) (.slice p 0 c)) := Xx.out.below hb1
  clear Xx
  have Xx := Yx
  clear Yx
  have H' : Hid (Num w1 p 0 c xs a) := H.out.below hb1
  clear H
  have H := H'
  clear H'
  have hbw' := Below.on hbw hb1
  clear hbw
  have hbw := hbw'
  clear hbw'
  clear hb1
  obtain ⟨cx0, cx1, fx0, fx1⟩ := Xx.out
  have hnex : gx < w1.heap.size := World.block_lt_of_cell? w1 _ cx0
  go_wp2_with fail
  go_ret2
  exact ⟨rfl, hbw⟩
set_option maxRecDepth 20000 in
set_option maxHeartbeats 4000000 in
theorem small_l0 {p : Option Addr} {m c : Nat} {xs : List Nat} {a : Nat} {w : World} (h : Num w p m c xs a) (hs : false = true → 0 < a) (ha : 1 < m) :
    Calls Tryd.prog 15 #[ZV false p m c] w fun e w' => e = .returned (.tuple #[.int .i64 0, .int .i64 5]) ∧ Below w.heap.size w w' := by
  have H : Hid (Num w p m c xs a) := h
  have HS : Hid (false = true → 0 < a) := hs
  have hmpos : 0 < m := by omega
  obtain ⟨g, off, rfl, hc⟩ := h.at_.cells.resolve_left (by omega)
  obtain ⟨x0, hx0⟩ : ∃ x0, x0 = xs.getD 0 0 := ⟨_, rfl⟩
  have hc0 : w.cell? ⟨g, off, none⟩ = some (U x0) := by have := hc 0 hmpos; rw [Nat.add_zero, ← hx0] at this; exact this
  have hlt := World.block_lt_of_cell? w _ hc0
  have HC0 : Hid (w.cell? ⟨g, off, none⟩ = some (U x0)) := hc0
  have HLT : Hid (g < w.heap.size) := hlt
  have d1 : decide ((1 : Int) < (m : Int)) = true := decide_eq_true (by omega)
  have d2 : decide (1 < m) = true := decide_eq_true (by omega)
  have d3 : ((m : Int) == 0) = false := by simp; omega
  have d4 : ¬ m = 0 := by omega
  clear h hs hc hc0 hlt
  go_enter Tryd.func15, Tryd.ntmps15
  go_wp2_with fail
  obtain ⟨W0, hW0⟩ : ∃ W0, W0 = (w.alloc (.cells #[.bool false, .slice (some ⟨g, off, none⟩) m c] 35)) := ⟨_, rfl⟩
  have Xx : Hid (Box W0 (w.heap.size) (.bool false) (.slice (some ⟨g, off, none⟩) m c)) := by rw [hW0]; exact ⟨by go_simp, by go_simp, by go_simp, by go_simp⟩
  have hb0 : Below w.heap.size w W0 := by rw [hW0]; exact below1 w _
  rw [← hW0]
  clear hW0
  have hbw : Below w.heap.size w w := Below.refl _ _
  obtain ⟨gx, hgx⟩ : ∃ g, g = w.heap.size := ⟨_, rfl⟩
  have HGx : Hid (w.heap.size ≤ gx) := by rw [hgx]; show _ ≤ _; omega
  rw [← hgx] at Xx
  try rw [← hgx]
  clear hgx
  have H' : Hid (Num W0 (some ⟨g, off, none⟩) m c xs a) := H.out.below hb0
  clear H
  have H := H'
  clear H'
  have hbw' := Below.on hbw hb0
  clear hbw
  have hbw := hbw'
  clear hbw'
  clear hb0
  refine (numform_t false H.out (fun hh => by cases hh)).mono ?_
  rintro e w1 ⟨rfl, hb1⟩
  have Yx : Hid (Box w1 gx (.bool false) (.slice (some ⟨g, off, none⟩) m c)) := Xx.out.below hb1
  clear Xx
  have Xx := Yx
  clear Yx
  have H' : Hid (Num w1 (some ⟨g, off, none⟩) m c xs a) := H.out.below hb1
  clear H
  have H := H'
  clear H'
  have hbw' := Below.on hbw hb1
  clear hbw
  have hbw := hbw'
  clear hbw'
  clear hb1
  have hc1 : w1.cell? ⟨g, off, none⟩ = some (U x0) := (hbw.cell (p := ⟨g, off, none⟩) HLT.out).trans HC0.out
  obtain ⟨cx0, cx1, fx0, fx1⟩ := Xx.out
  have hnex : gx < w1.heap.size := World.block_lt_of_cell? w1 _ cx0
  go_wp2_with fail
  go_ret2
  exact ⟨rfl, hbw⟩
set_option maxRecDepth 20000 in
set_option maxHeartbeats 4000000 in
theorem small_l1 {p : Option Addr} {m c : Nat} {xs : List Nat} {a : Nat} {w : World} (h : Num w p m c xs a) (hs : true = true → 0 < a) (ha : 1 < m) :
    Calls Tryd.prog 15 #[ZV true p m c] w fun e w' => e = .returned (.tuple #[.int .i64 0, .int .i64 5]) ∧ Below w.heap.size w w' := by
  have H : Hid (Num w p m c xs a) := h
  have HS : Hid (true = true → 0 < a) := hs
  have hmpos : 0 < m := by omega
  obtain ⟨g, off, rfl, hc⟩ := h.at_.cells.resolve_left (by omega)
  obtain ⟨x0, hx0⟩ : ∃ x0, x0 = xs.getD 0 0 := ⟨_, rfl⟩
  have hc0 : w.cell? ⟨g, off, none⟩ = some (U x0) := by have := hc 0 hmpos; rw [Nat.add_zero, ← hx0] at this; exact this
  have hlt := World.block_lt_of_cell? w _ hc0
  have HC0 : Hid (w.cell? ⟨g, off, none⟩ = some (U x0)) := hc0
  have HLT : Hid (g < w.heap.size) := hlt
  have d1 : decide ((1 : Int) < (m : Int)) = true := decide_eq_true (by omega)
  have d2 : decide (1 < m) = true := decide_eq_true (by omega)
  have d3 : ((m : Int) == 0) = false := by simp; omega
  have d4 : ¬ m = 0 := by omega
  clear h hs hc hc0 hlt
  go_enter Tryd.func15, Tryd.ntmps15
  go_wp2_with fail
  obtain ⟨W0, hW0⟩ : ∃ W0, W0 = (w.alloc (.cells #[.bool true, .slice (some ⟨g, off, none⟩) m c] 35)) := ⟨_, rfl⟩
  have Xx : Hid (Box W0 (w.heap.size) (.bool true) (.slice (some ⟨g, off, none⟩) m c)) := by rw [hW0]; exact ⟨by go_simp, by go_simp, by go_simp, by go_simp⟩
  have hb0 : Below w.heap.size w W0 := by rw [hW0]; exact below1 w _
  rw [← hW0]
  clear hW0
  have hbw : Below w.heap.size w w := Below.refl _ _
  obtain ⟨gx, hgx⟩ : ∃ g, g = w.heap.size := ⟨_, rfl⟩
  have HGx : Hid (w.heap.size ≤ gx) := by rw [hgx]; show _ ≤ _; omega
  rw [← hgx] at Xx
  try rw [← hgx]
  clear hgx
  have H' : Hid (Num W0 (some ⟨g, off, none⟩) m c xs a) := H.out.below hb0
  clear H
  have H := H'
  clear H'
  have hbw' := Below.on hbw hb0
  clear hbw
  have hbw := hbw'
  clear hbw'
  clear hb0
  refine (numform_t true H.out (fun _ => HS.out (by simp))).mono ?_
  rintro e w1 ⟨rfl, hb1⟩
  have Yx : Hid (Box w1 gx (.bool true) (.slice (some ⟨g, off, none⟩) m c)) := Xx.out.below hb1
  clear Xx
  have Xx := Yx
  clear Yx
  have H' : Hid (Num w1 (some ⟨g, off, none⟩) m c xs a) := H.out.below hb1
  clear H
  have H := H'
  clear H'
  have hbw' := Below.on hbw hb1
  clear hbw
  have hbw := hbw'
  clear hbw'
  clear hb1
  have hc1 : w1.cell? ⟨g, off, none⟩ = some (U x0) := (hbw.cell (p := ⟨g, off, none⟩) HLT.out).trans HC0.out
  obtain ⟨cx0, cx1, fx0, fx1⟩ := Xx.out
  have hnex : gx < w1.heap.size := World.block_lt_of_cell? w1 _ cx0
  go_wp2_with fail
  go_ret2
  exact ⟨rfl, hbw⟩
set_option maxRecDepth 20000 in
set_option maxHeartbeats 4000000 in
theorem small_i0 {p : Option Addr} {m c : Nat} {xs : List Nat} {a : Nat} {w : World} (h : Num w p m c xs a) (hs : false = true → 0 < a) (ha0 : 0 < a) (ha : a < 9223372036854775808) :
    Calls Tryd.prog 15 #[ZV false p m c] w fun e w' => e = .returned (.tuple #[.int .i64 ((a : Int)), .int .i64 0]) ∧ Below w.heap.size w w' := by
  have H : Hid (Num w p m c xs a) := h
  have HS : Hid (false = true → 0 < a) := hs
  have hm1 : m = 1 := one_limb h (by omega) (by rw [B64_eq]; omega)
  have HA0 : Hid (0 < a) := ha0
  clear ha0
  have hmpos : 0 < m := by omega
  obtain ⟨g, off, rfl, hc⟩ := h.at_.cells.resolve_left (by omega)
  obtain ⟨x0, hx0⟩ : ∃ x0, x0 = xs.getD 0 0 := ⟨_, rfl⟩
  have hc0 : w.cell? ⟨g, off, none⟩ = some (U x0) := by have := hc 0 hmpos; rw [Nat.add_zero, ← hx0] at this; exact this
  have hlt := World.block_lt_of_cell? w _ hc0
  have HC0 : Hid (w.cell? ⟨g, off, none⟩ = some (U x0)) := hc0
  have HLT : Hid (g < w.heap.size) := hlt
  have hxa : x0 = a := by rw [hx0]; exact limb_one h hm1
  clear hx0
  subst hxa
  subst hm1
  have f2 : wrap64 (x0 : Int) = (x0 : Int) := by simp only [wrap64]; omega
  have d1 : decide ((9223372036854775808 : Int) < (x0 : Int)) = false := decide_eq_false (by omega)
  have d2 : ((x0 : Int) == 9223372036854775808) = false := by simp; omega
  have d3 : decide (9223372036854775808 < x0) = false := decide_eq_false (by omega)
  have d4 : ¬ 9223372036854775808 < x0 := by omega
  have d5 : ¬ x0 = 9223372036854775808 := by omega
  clear h hs hc hc0 hlt
  go_enter Tryd.func15, Tryd.ntmps15
  go_wp2_with fail
  obtain ⟨W0, hW0⟩ : ∃ W0, W0 = (w.alloc (.cells #[.bool false, .slice (some ⟨g, off, none⟩) 1 c] 35)) := ⟨_, rfl⟩
  have Xx : Hid (Box W0 (w.heap.size) (.bool false) (.slice (some ⟨g, off, none⟩) 1 c)) := by rw [hW0]; exact ⟨by go_simp, by go_simp, by go_simp, by go_simp⟩
  have hb0 : Below w.heap.size w W0 := by rw [hW0]; exact below1 w _
  rw [← hW0]
  clear hW0
  have hbw : Below w.heap.size w w := Below.refl _ _
  obtain ⟨gx, hgx⟩ : ∃ g, g = w.heap.size := ⟨_, rfl⟩
  have HGx : Hid (w.heap.size ≤ gx) := by rw [hgx]; show _ ≤ _; omega
  rw [← hgx] at Xx
  try rw [← hgx]
  clear hgx
  have H' : Hid (Num W0 (some ⟨g, off, none⟩) 1 c xs x0) := H.out.below hb0
  clear H
  have H := H'
  clear H'
  have hbw' := Below.on hbw hb0
  clear hbw
  have hbw := hbw'
  clear hbw'
  clear hb0
  refine (numform_t false H.out (fun hh => by cases hh)).mono ?_
  rintro e w1 ⟨rfl, hb1⟩
  have Yx : Hid (Box w1 gx (.bool false) (.slice (some ⟨g, off, none⟩) 1 c)) := Xx.out.below hb1
  clear Xx
  have Xx := Yx
  clear Yx
  have H' : Hid (Num w1 (some ⟨g, off, none⟩) 1 c xs x0) := H.out.below hb1
  clear H
  have H := H'
  clear H'
  have hbw' := Below.on hbw hb1
  clear hbw
  have hbw := hbw'
  clear hbw'
  clear hb1
  have hc1 : w1.cell? ⟨g, off, none⟩ = some (U x0) := (hbw.cell (p := ⟨g, off, none⟩) HLT.out).trans HC0.out
  obtain ⟨cx0, cx1, fx0, fx1⟩ := Xx.out
  have hnex : gx < w1.heap.size := World.block_lt_of_cell? w1 _ cx0
  go_wp2_with fail
  go_ret2
  exact ⟨rfl, hbw⟩
set_option maxRecDepth 20000 in
set_option maxHeartbeats 4000000 in
theorem small_i1 {p : Option Addr} {m c : Nat} {xs : List Nat} {a : Nat} {w : World} (h : Num w p m c xs a) (hs : true = true → 0 < a) (ha0 : 0 < a) (ha : a < 9223372036854775808) :
    Calls Tryd.prog 15 #[ZV true p m c] w fun e w' => e = .returned (.tuple #[.int .i64 (-(a : Int)), .int .i64 0]) ∧ Below w.heap.size w w' := by
  have H : Hid (Num w p m c xs a) := h
  have HS : Hid (true = true → 0 < a) := hs
  have hm1 : m = 1 := one_limb h (by omega) (by rw [B64_eq]; omega)
  have HA0 : Hid (0 < a) := ha0
  clear ha0
  have hmpos : 0 < m := by omega
  obtain ⟨g, off, rfl, hc⟩ := h.at_.cells.resolve_left (by omega)
  obtain ⟨x0, hx0⟩ : ∃ x0, x0 = xs.getD 0 0 := ⟨_, rfl⟩
  have hc0 : w.cell? ⟨g, off, none⟩ = some (U x0) := by have := hc 0 hmpos; rw [Nat.add_zero, ← hx0] at this; exact this
  have hlt := World.block_lt_of_cell? w _ hc0
  have HC0 : Hid (w.cell? ⟨g, off, none⟩ = some (U x0)) := hc0
  have HLT : Hid (g < w.heap.size) := hlt
  have hxa : x0 = a := by rw [hx0]; exact limb_one h hm1
  clear hx0
  subst hxa
  subst hm1
  obtain ⟨u, hu⟩ : ∃ u : Nat, u = 18446744073709551616 - x0 := ⟨_, rfl⟩
  have f1 : IntKind.u64.wrap (-(x0 : Int)) = (u : Int) := wrap_u _ _ (by have := HA0.out; omega)
  have f2 : wrap64 (u : Int) = -(x0 : Int) := by simp only [wrap64]; have := HA0.out; omega
  have F2 : Hid (wrap64 (u : Int) = -(x0 : Int)) := f2
  clear hu
  have d1 : decide ((9223372036854775808 : Int) < (x0 : Int)) = false := decide_eq_false (by omega)
  have d2 : ((x0 : Int) == 9223372036854775808) = false := by simp; omega
  have d3 : decide (9223372036854775808 < x0) = false := decide_eq_false (by omega)
  have d4 : ¬ 9223372036854775808 < x0 := by omega
  have d5 : ¬ x0 = 9223372036854775808 := by omega
  clear h hs hc hc0 hlt
  go_enter Tryd.func15, Tryd.ntmps15
  go_wp2_with fail
  obtain ⟨W0, hW0⟩ : ∃ W0, W0 = (w.alloc (.cells #[.bool true, .slice (some ⟨g, off, none⟩) 1 c] 35)) := ⟨_, rfl⟩
  have Xx : Hid (Box W0 (w.heap.size) (.bool true) (.slice (some ⟨g, off, none⟩) 1 c)) := by rw [hW0]; exact ⟨by go_simp, by go_simp, by go_simp, by go_simp⟩
  have hb0 : Below w.heap.size w W0 := by rw [hW0]; exact below1 w _
  rw [← hW0]
  clear hW0
  have hbw : Below w.heap.size w w := Below.refl _ _
  obtain ⟨gx, hgx⟩ : ∃ g, g = w.heap.size := ⟨_, rfl⟩
  have HGx : Hid (w.heap.size ≤ gx) := by rw [hgx]; show _ ≤ _; omega
  rw [← hgx] at Xx
  try rw [← hgx]
  clear hgx
  have H' : Hid (Num W0 (some ⟨g, off, none⟩) 1 c xs x0) := H.out.below hb0
  clear H
  have H := H'
  clear H'
  have hbw' := Below.on hbw hb0
  clear hbw
  have hbw := hbw'
  clear hbw'
  clear hb0
  refine (numform_t true H.out (fun _ => HS.out (by simp))).mono ?_
  rintro e w1 ⟨rfl, hb1⟩
  have Yx : Hid (Box w1 gx (.bool true) (.slice (some ⟨g, off, none⟩) 1 c)) := Xx.out.below hb1
  clear Xx
  have Xx := Yx
  clear Yx
  have H' : Hid (Num w1 (some ⟨g, off, none⟩) 1 c xs x0) := H.out.below hb1
  clear H
  have H := H'
  clear H'
  have hbw' := Below.on hbw hb1
  clear hbw
  have hbw := hbw'
  clear hbw'
  clear hb1
  have hc1 : w1.cell? ⟨g, off, none⟩ = some (U x0) := (hbw.cell (p := ⟨g, off, none⟩) HLT.out).trans HC0.out
  obtain ⟨cx0, cx1, fx0, fx1⟩ := Xx.out
  have hnex : gx < w1.heap.size := World.block_lt_of_cell? w1 _ cx0
  go_wp2_with fail
  go_ret2
  exact ⟨congrArg (fun z => Ending.returned (.tuple #[.int .i64 z, .int .i64 0])) F2.out, hbw⟩
set_option maxRecDepth 20000 in
set_option maxHeartbeats 4000000 in
theorem small_e0 {p : Option Addr} {m c : Nat} {xs : List Nat} {a : Nat} {w : World} (h : Num w p m c xs a) (hs : false = true → 0 < a) (ha : a = 9223372036854775808) :
    Calls Tryd.prog 15 #[ZV false p m c] w fun e w' => e = .returned (.tuple #[.int .i64 0, .int .i64 5]) ∧ Below w.heap.size w w' := by
  have H : Hid (Num w p m c xs a) := h
  have HS : Hid (false = true → 0 < a) := hs
  have hm1 : m = 1 := one_limb h (by omega) (by rw [B64_eq]; omega)
  have hmpos : 0 < m := by omega
  obtain ⟨g, off, rfl, hc⟩ := h.at_.cells.resolve_left (by omega)
  obtain ⟨x0, hx0⟩ : ∃ x0, x0 = xs.getD 0 0 := ⟨_, rfl⟩
  have hc0 : w.cell? ⟨g, off, none⟩ = some (U x0) := by have := hc 0 hmpos; rw [Nat.add_zero, ← hx0] at this; exact this
  have hlt := World.block_lt_of_cell? w _ hc0
  have HC0 : Hid (w.cell? ⟨g, off, none⟩ = some (U x0)) := hc0
  have HLT : Hid (g < w.heap.size) := hlt
  have hxa : x0 = a := by rw [hx0]; exact limb_one h hm1
  clear hx0
  subst hxa
  subst hm1
  subst ha
  clear h hs hc hc0 hlt
  go_enter Tryd.func15, Tryd.ntmps15
  go_wp2_with fail
  obtain ⟨W0, hW0⟩ : ∃ W0, W0 = (w.alloc (.cells #[.bool false, .slice (some ⟨g, off, none⟩) 1 c] 35)) := ⟨_, rfl⟩
  have Xx : Hid (Box W0 (w.heap.size) (.bool false) (.slice (some ⟨g, off, none⟩) 1 c)) := by rw [hW0]; exact ⟨by go_simp, by go_simp, by go_simp, by go_simp⟩
  have hb0 : Below w.heap.size w W0 := by rw [hW0]; exact below1 w _
  rw [← hW0]
  clear hW0
  have hbw : Below w.heap.size w w := Below.refl _ _
  obtain ⟨gx, hgx⟩ : ∃ g, g = w.heap.size := ⟨_, rfl⟩
  have HGx : Hid (w.heap.size ≤ gx) := by rw [hgx]; show _ ≤ _; omega
  rw [← hgx] at Xx
  try rw [← hgx]
  clear hgx
  have H' : Hid (Num W0 (some ⟨g, off, none⟩) 1 c xs 9223372036854775808) := H.out.below hb0
  clear H
  have H := H'
  clear H'
  have hbw' := Below.on hbw hb0
  clear hbw
  have hbw := hbw'
  clear hbw'
  clear hb0
  refine (numform_t false H.out (fun hh => by cases hh)).mono ?_
  rintro e w1 ⟨rfl, hb1⟩
  have Yx : Hid (Box w1 gx (.bool false) (.slice (some ⟨g, off, none⟩) 1 c)) := Xx.out.below hb1
  clear Xx
  have Xx := Yx
  clear Yx
  have H' : Hid (Num w1 (some ⟨g, off, none⟩) 1 c xs 9223372036854775808) := H.out.below hb1
  clear H
  have H := H'
  clear H'
  have hbw' := Below.on hbw hb1
  clear hbw
  have hbw := hbw'
  clear hbw'
  clear hb1
  have hc1 : w1.cell? ⟨g, off, none⟩ = some (U 9223372036854775808) := (hbw.cell (p := ⟨g, off, none⟩) HLT.out).trans HC0.out
  obtain ⟨cx0, cx1, fx0, fx1⟩ := Xx.out
  have hnex : gx < w1.heap.size := World.block_lt_of_cell? w1 _ cx0
  go_wp2_with fail
  go_ret2
  exact ⟨rfl, hbw⟩
set_option maxRecDepth 20000 in
set_option maxHeartbeats 4000000 in
theorem small_e1 {p : Option Addr} {m c : Nat} {xs : List Nat} {a : Nat} {w : World} (h : Num w p m c xs a) (hs : true = true → 0 < a) (ha : a = 9223372036854775808) :
    Calls Tryd.prog 15 #[ZV true p m c] w fun e w' => e = .returned (.tuple #[.int .i64 (-(a : Int)), .int .i64 0]) ∧ Below w.heap.size w w' := by
  have H : Hid (Num w p m c xs a) := h
  have HS : Hid (true = true → 0 < a) := hs
  have hm1 : m = 1 := one_limb h (by omega) (by rw [B64_eq]; omega)
  have hmpos : 0 < m := by omega
  obtain ⟨g, off, rfl, hc⟩ := h.at_.cells.resolve_left (by omega)
  obtain ⟨x0, hx0⟩ : ∃ x0, x0 = xs.getD 0 0 := ⟨_, rfl⟩
  have hc0 : w.cell? ⟨g, off, none⟩ = some (U x0) := by have := hc 0 hmpos; rw [Nat.add_zero, ← hx0] at this; exact this
  have hlt := World.block_lt_of_cell? w _ hc0
  have HC0 : Hid (w.cell? ⟨g, off, none⟩ = some (U x0)) := hc0
  have HLT : Hid (g < w.heap.size) := hlt
  have hxa : x0 = a := by rw [hx0]; exact limb_one h hm1
  clear hx0
  subst hxa
  subst hm1
  subst ha
  clear h hs hc hc0 hlt
  go_enter Tryd.func15, Tryd.ntmps15
  go_wp2_with fail
  obtain ⟨W0, hW0⟩ : ∃ W0, W0 = (w.alloc (.cells #[.bool true, .slice (some ⟨g, off, none⟩) 1 c] 35)) := ⟨_, rfl⟩
  have Xx : Hid (Box W0 (w.heap.size) (.bool true) (.slice (some ⟨g, off, none⟩) 1 c)) := by rw [hW0]; exact ⟨by go_simp, by go_simp, by go_simp, by go_simp⟩
  have hb0 : Below w.heap.size w W0 := by rw [hW0]; exact below1 w _
  rw [← hW0]
  clear hW0
  have hbw : Below w.heap.size w w := Below.refl _ _
  obtain ⟨gx, hgx⟩ : ∃ g, g = w.heap.size := ⟨_, rfl⟩
  have HGx : Hid (w.heap.size ≤ gx) := by rw [hgx]; show _ ≤ _; omega
  rw [← hgx] at Xx
  try rw [← hgx]
  clear hgx
  have H' : Hid (Num W0 (some ⟨g, off, none⟩) 1 c xs 9223372036854775808) := H.out.below hb0
  clear H
  have H := H'
  clear H'
  have hbw' := Below.on hbw hb0
  clear hbw
  have hbw := hbw'
  clear hbw'
  clear hb0
  refine (numform_t true H.out (fun _ => HS.out (by simp))).mono ?_
  rintro e w1 ⟨rfl, hb1⟩
  have Yx : Hid (Box w1 gx (.bool true) (.slice (some ⟨g, off, none⟩) 1 c)) := Xx.out.below hb1
  clear Xx
  have Xx := Yx
  clear Yx
  have H' : Hid (Num w1 (some ⟨g, off, none⟩) 1 c xs 9223372036854775808) := H.out.below hb1
  clear H
  have H := H'
  clear H'
  have hbw' := Below.on hbw hb1
  clear hbw
  have hbw := hbw'
  clear hbw'
  clear hb1
  have hc1 : w1.cell? ⟨g, off, none⟩ = some (U 9223372036854775808) := (hbw.cell (p := ⟨g, off, none⟩) HLT.out).trans HC0.out
  obtain ⟨cx0, cx1, fx0, fx1⟩ := Xx.out
  have hnex : gx < w1.heap.size := World.block_lt_of_cell? w1 _ cx0
  go_wp2_with fail
  go_ret2
  refine ⟨?_, hbw⟩
  show Ending.returned (.tuple #[.int .i64 (wrap64 (IntKind.u64.wrap (-9223372036854775808))), .int .i64 0]) = _
  rw [show wrap64 (IntKind.u64.wrap (-9223372036854775808)) = -9223372036854775808 from by decide +kernel]
  rfl
set_option maxRecDepth 20000 in
set_option maxHeartbeats 4000000 in
theorem small_g0 {p : Option Addr} {m c : Nat} {xs : List Nat} {a : Nat} {w : World} (h : Num w p m c xs a) (hs : false = true → 0 < a) (hm1 : m = 1) (ha : 9223372036854775808 < a) :
    Calls Tryd.prog 15 #[ZV false p m c] w fun e w' => e = .returned (.tuple #[.int .i64 0, .int .i64 5]) ∧ Below w.heap.size w w' := by
  have H : Hid (Num w p m c xs a) := h
  have HS : Hid (false = true → 0 < a) := hs
  have hmpos : 0 < m := by omega
  obtain ⟨g, off, rfl, hc⟩ := h.at_.cells.resolve_left (by omega)
  obtain ⟨x0, hx0⟩ : ∃ x0, x0 = xs.getD 0 0 := ⟨_, rfl⟩
  have hc0 : w.cell? ⟨g, off, none⟩ = some (U x0) := by have := hc 0 hmpos; rw [Nat.add_zero, ← hx0] at this; exact this
  have hlt := World.block_lt_of_cell? w _ hc0
  have HC0 : Hid (w.cell? ⟨g, off, none⟩ = some (U x0)) := hc0
  have HLT : Hid (g < w.heap.size) := hlt
  have hxa : x0 = a := by rw [hx0]; exact limb_one h hm1
  clear hx0
  subst hxa
  subst hm1
  have d1 : decide ((9223372036854775808 : Int) < (x0 : Int)) = true := decide_eq_true (by omega)
  have d3 : decide (9223372036854775808 < x0) = true := decide_eq_true (by omega)
  clear h hs hc hc0 hlt
  go_enter Tryd.func15, Tryd.ntmps15
  go_wp2_with fail
  obtain ⟨W0, hW0⟩ : ∃ W0, W0 = (w.alloc (.cells #[.bool false, .slice (some ⟨g, off, none⟩) 1 c] 35)) := ⟨_, rfl⟩
  have Xx : Hid (Box W0 (w.heap.size) (.bool false) (.slice (some ⟨g, off, none⟩) 1 c)) := by rw [hW0]; exact ⟨by go_simp, by go_simp, by go_simp, by go_simp⟩
  have hb0 : Below w.heap.size w W0 := by rw [hW0]; exact below1 w _
  rw [← hW0]
  clear hW0
  have hbw : Below w.heap.size w w := Below.refl _ _
  obtain ⟨gx, hgx⟩ : ∃ g, g = w.heap.size := ⟨_, rfl⟩
  have HGx : Hid (w.heap.size ≤ gx) := by rw [hgx]; show _ ≤ _; omega
  rw [← hgx] at Xx
  try rw [← hgx]
  clear hgx
  have H' : Hid (Num W0 (some ⟨g, off, none⟩) 1 c xs x0) := H.out.below hb0
  clear H
  have H := H'
  clear H'
  have hbw' := Below.on hbw hb0
  clear hbw
  have hbw := hbw'
  clear hbw'
  clear hb0
  refine (numform_t false H.out (fun hh => by cases hh)).mono ?_
  rintro e w1 ⟨rfl, hb1⟩
  have Yx : Hid (Box w1 gx (.bool false) (.slice (some ⟨g, off, none⟩) 1 c)) := Xx.out.below hb1
  clear Xx
  have Xx := Yx
  clear Yx
  have H' : Hid (Num w1 (some ⟨g, off, none⟩) 1 c xs x0) := H.out.below hb1
  clear H
  have H := H'
  clear H'
  have hbw' := Below.on hbw hb1
  clear hbw
  have hbw := hbw'
  clear hbw'
  clear hb1
  have hc1 : w1.cell? ⟨g, off, none⟩ = some (U x0) := (hbw.cell (p := ⟨g, off, none⟩) HLT.out).trans HC0.out
  obtain ⟨cx0, cx1, fx0, fx1⟩ := Xx.out
  have hnex : gx < w1.heap.size := World.block_lt_of_cell? w1 _ cx0
  go_wp2_with fail
  go_ret2
  exact ⟨rfl, hbw⟩
set_option maxRecDepth 20000 in
set_option maxHeartbeats 4000000 in
theorem small_g1 {p : Option Addr} {m c : Nat} {xs : List Nat} {a : Nat} {w : World} (h : Num w p m c xs a) (hs : true = true → 0 < a) (hm1 : m = 1) (ha : 9223372036854775808 < a) :
    Calls Tryd.prog 15 #[ZV true p m c] w fun e w' => e = .returned (.tuple #[.int .i64 0, .int .i64 5]) ∧ Below w.heap.size w w' := by
  have H : Hid (Num w p m c xs a) := h
  have HS : Hid (true = true → 0 < a) := hs
  have hmpos : 0 < m := by omega
  obtain ⟨g, off, rfl, hc⟩ := h.at_.cells.resolve_left (by omega)
  obtain ⟨x0, hx0⟩ : ∃ x0, x0 = xs.getD 0 0 := ⟨_, rfl⟩
  have hc0 : w.cell? ⟨g, off, none⟩ = some (U x0) := by have := hc 0 hmpos; rw [Nat.add_zero, ← hx0] at this; exact this
  have hlt := World.block_lt_of_cell? w _ hc0
  have HC0 : Hid (w.cell? ⟨g, off, none⟩ = some (U x0)) := hc0
  have HLT : Hid (g < w.heap.size) := hlt
  have hxa : x0 = a := by rw [hx0]; exact limb_one h hm1
  clear hx0
  subst hxa
  subst hm1
  have d1 : decide ((9223372036854775808 : Int) < (x0 : Int)) = true := decide_eq_true (by omega)
  have d3 : decide (9223372036854775808 < x0) = true := decide_eq_true (by omega)
  clear h hs hc hc0 hlt
  go_enter Tryd.func15, Tryd.ntmps15
  go_wp2_with fail
  obtain ⟨W0, hW0⟩ : ∃ W0, W0 = (w.alloc (.cells #[.bool true, .slice (some ⟨g, off, none⟩) 1 c] 35)) := ⟨_, rfl⟩
  have Xx : Hid (Box W0 (w.heap.size) (.bool true) (.slice (some ⟨g, off, none⟩) 1 c)) := by rw [hW0]; exact ⟨by go_simp, by go_simp, by go_simp, by go_simp⟩
  have hb0 : Below w.heap.size w W0 := by rw [hW0]; exact below1 w _
  rw [← hW0]
  clear hW0
  have hbw : Below w.heap.size w w := Below.refl _ _
  obtain ⟨gx, hgx⟩ : ∃ g, g = w.heap.size := ⟨_, rfl⟩
  have HGx : Hid (w.heap.size ≤ gx) := by rw [hgx]; show _ ≤ _; omega
  rw [← hgx] at Xx
  try rw [← hgx]
  clear hgx
  have H' : Hid (Num W0 (some ⟨g, off, none⟩) 1 c xs x0) := H.out.below hb0
  clear H
  have H := H'
  clear H'
  have hbw' := Below.on hbw hb0
  clear hbw
  have hbw := hbw'
  clear hbw'
  clear hb0
  refine (numform_t true H.out (fun _ => HS.out (by simp))).mono ?_
  rintro e w1 ⟨rfl, hb1⟩
  have Yx : Hid (Box w1 gx (.bool true) (.slice (some ⟨g, off, none⟩) 1 c)) := Xx.out.below hb1
  clear Xx
  have Xx := Yx
  clear Yx
  have H' : Hid (Num w1 (some ⟨g, off, none⟩) 1 c xs x0) := H.out.below hb1
  clear H
  have H := H'
  clear H'
  have hbw' := Below.on hbw hb1
  clear hbw
  have hbw := hbw'
  clear hbw'
  clear hb1
  have hc1 : w1.cell? ⟨g, off, none⟩ = some (U x0) := (hbw.cell (p := ⟨g, off, none⟩) HLT.out).trans HC0.out
  obtain ⟨cx0, cx1, fx0, fx1⟩ := Xx.out
  have hnex : gx < w1.heap.size := World.block_lt_of_cell? w1 _ cx0
  go_wp2_with fail
  go_ret2
  exact ⟨rfl, hbw⟩
/-- num.Small. -/
theorem small_full {p : Option Addr} {m c : Nat} {xs : List Nat} {a : Nat} {w : World} (s : Bool) (h : Num w p m c xs a) (hs : s = true → 0 < a) :
    Calls Tryd.prog 15 #[ZV s p m c] w fun e w' => e = .returned (if -9223372036854775808 ≤ iv s a ∧ iv s a ≤ 9223372036854775807 then .tuple #[.int .i64 (iv s a), .int .i64 0] else .tuple #[.int .i64 0, .int .i64 5]) ∧ Below w.heap.size w w' := by
  by_cases h0 : a = 0
  · cases s
    · rw [if_pos ⟨by rw [iv_f]; omega, by rw [iv_f]; omega⟩, show iv false a = 0 from by rw [iv_f, h0]; rfl]
      exact small_00 h hs h0
    · have := hs rfl; omega
  · by_cases hl : 1 < m
    · have hbig : B64 ≤ a := by
        rcases Nat.lt_or_ge a B64 with e | e
        · have := one_limb h (by omega) e; omega
        · exact e
      rw [B64_eq] at hbig
      cases s
      · rw [if_neg (by rw [iv_f]; omega)]; exact small_l0 h hs hl
      · rw [if_neg (by rw [iv_t]; omega)]; exact small_l1 h hs hl
    · have hm1 : m = 1 := by
        have : m ≠ 0 := fun e => by have := h.zero.1 e; omega
        omega
      rcases Nat.lt_trichotomy a 9223372036854775808 with hc | hc | hc
      · cases s
        · rw [if_pos ⟨by rw [iv_f]; omega, by rw [iv_f]; omega⟩, iv_f]; exact small_i0 h hs (by omega) hc
        · rw [if_pos ⟨by rw [iv_t]; omega, by rw [iv_t]; omega⟩, iv_t]; exact small_i1 h hs (by omega) hc
      · cases s
        · rw [if_neg (by rw [iv_f]; omega)]; exact small_e0 h hs hc
        · rw [if_pos ⟨by rw [iv_t]; omega, by rw [iv_t]; omega⟩, iv_t]; exact small_e1 h hs hc
      · cases s
        · rw [if_neg (by rw [iv_f]; omega)]; exact small_g0 h hs hm1 hc
        · rw [if_neg (by rw [iv_t]; omega)]; exact small_g1 h hs hm1 hc
end Go.Proofs.YteoihhgaipplfaaDoor

namespace Go.Proofs.YteoihhgaipplfaaDoor
open Go.RowKit Go.Shelf

theorem Nf.trim_self {b : Nat} {zs : List Nat} {a : Nat} (h : Nf b zs a) : trimL zs = zs := trimL_of_Top h.top
theorem Box.put {W : World} {g : Nat} {v0 v1 : Value} (h : Box W g v0 v1) (u0 u1 : Value) : Box ((W.setCell ⟨g, 0, none⟩ u0).setCell ⟨g, 1, none⟩ u1) g u0 u1 := by
  obtain ⟨c0, c1, f0, f1⟩ := h
  exact ⟨by go_simp, by go_simp, by go_simp, by go_simp⟩
set_option maxRecDepth 20000 in
set_option maxHeartbeats 4000000 in
/-- ref04.Of. -/
theorem rof_any (z : Int) (w : World) (h0 : -9223372036854775808 ≤ z) (h1 : z ≤ 9223372036854775807) :
    Calls Tryd.prog 58 #[.int .i64 z] w fun e w' => ∃ g m zs, e = .returned (.agg #[.bool (decide (z < 0)), .slice (some ⟨g, 0, none⟩) m m]) ∧ At32 w' (some ⟨g, 0, none⟩) m m zs ∧ Nf B32 zs z.natAbs ∧ m ≤ 3 ∧ Below w.heap.size w w' := by
  by_cases hz : z < 0
  · have hd : decide (z < 0) = true := decide_eq_true hz
    obtain ⟨v, hv⟩ : ∃ v : Nat, z = -((v : Int) + 1) := ⟨(-(z + 1)).toNat, by omega⟩
    have hvb : v < B64 := by rw [B64_eq]; omega
    have hV1 : v < 9223372036854775808 := by omega
    subst hv
    have e1 : -((v : Int) + 1) + 1 = -(v : Int) := by omega
    have e2 : wrap64 (-(v : Int)) = -(v : Int) := by simp only [wrap64]; omega
    have e3 : wrap64 (-((v : Int) + 1) + 1) = -(v : Int) := by simp only [wrap64]; omega
    have e4 : IntKind.u64.wrap (v : Int) = (v : Int) := wrap_u _ _ (by omega)
    have e5 : wrap64 (v : Int) = (v : Int) := by simp only [wrap64]; omega
    have HV : Hid (v < B64 ∧ v < 9223372036854775808) := ⟨hvb, hV1⟩
    clear h0 h1 hz hvb hV1
    go_enter Tryd.func58, Tryd.ntmps58
    go_wp2_with fail
    obtain ⟨W0, hW0⟩ : ∃ W0, W0 = (w.alloc (.cells #[.bool false, .slice none 0 0] 74)) := ⟨_, rfl⟩
    have Xr : Hid (Box W0 (w.heap.size) (.bool false) (.slice none 0 0)) := by rw [hW0]; exact ⟨by go_simp, by go_simp, by go_simp, by go_simp⟩
    have hb0 : Below w.heap.size w W0 := by rw [hW0]; exact below1 w _
    rw [← hW0]
    clear hW0
    have hbw : Below w.heap.size w w := Below.refl _ _
    obtain ⟨gr, hgr⟩ : ∃ g, g = w.heap.size := ⟨_, rfl⟩
    have HGr : Hid (w.heap.size ≤ gr) := by rw [hgr]; show _ ≤ _; omega
    rw [← hgr] at Xr
    try rw [← hgr]
    clear hgr
    have hbw' := Below.on hbw hb0
    clear hbw
    have hbw := hbw'
    clear hbw'
    clear hb0
    clear e1 e2 e3 e4 e5
    refine (rword v HV.out.1 W0).mono ?_
    rintro e w1 ⟨g1, z1, rfl, hl1, hA1, hN1, hb1⟩
    have Yr : Hid (Box w1 gr (.bool false) (.slice none 0 0)) := Xr.out.below hb1
    clear Xr
    have Xr := Yr
    clear Yr
    have hbw' := Below.on hbw hb1
    clear hbw
    have hbw := hbw'
    clear hbw'
    clear hb1
    have A1 : Hid (At32 w1 (some ⟨g1, 0, none⟩) z1.length z1.length z1) := hA1
    have N1 : Hid (Nf B32 z1 v ∧ z1.length ≤ 2) := ⟨hN1, hl1⟩
    clear hA1 hN1 hl1
    go_wp2_with fail
    rw [show Value.int IntKind.u64 1 = U 1 from rfl]
    refine (rword 1 (by decide) w1).mono ?_
    rintro e w2 ⟨g2, z2, rfl, hl2, hA2, hN2, hb2⟩
    have Yr : Hid (Box w2 gr (.bool false) (.slice none 0 0)) := Xr.out.below hb2
    clear Xr
    have Xr := Yr
    clear Yr
    have A1' : Hid (At32 w2 (some ⟨g1, 0, none⟩) z1.length z1.length z1) := A1.out.below hb2
    clear A1
    have A1 := A1'
    clear A1'
    have hbw' := Below.on hbw hb2
    clear hbw
    have hbw := hbw'
    clear hbw'
    clear hb2
    have A2 : Hid (At32 w2 (some ⟨g2, 0, none⟩) z2.length z2.length z2) := hA2
    have N2 : Hid (Nf B32 z2 1 ∧ z2.length ≤ 2) := ⟨hN2, hl2⟩
    clear hA2 hN2 hl2
    go_wp2_with fail
    have l1 := N1.out.2
    have l2 := N2.out.2
    refine (radd_any A1.out A2.out N1.out.1 N2.out.1 (by omega) (by omega)).mono ?_
    rintro e w3 ⟨p3, m3, z3, rfl, hA3, hN3, hb3⟩
    clear l1 l2
    have Yr : Hid (Box w3 gr (.bool false) (.slice none 0 0)) := Xr.out.below hb3
    clear Xr
    have Xr := Yr
    clear Yr
    have A1' : Hid (At32 w3 (some ⟨g1, 0, none⟩) z1.length z1.length z1) := A1.out.below hb3
    clear A1
    have A1 := A1'
    clear A1'
    have A2' : Hid (At32 w3 (some ⟨g2, 0, none⟩) z2.length z2.length z2) := A2.out.below hb3
    clear A2
    have A2 := A2'
    clear A2'
    have hbw' := Below.on hbw hb3
    clear hbw
    have hbw := hbw'
    clear hbw'
    clear hb3
    have A3 : Hid (At32 w3 p3 m3 m3 z3) := hA3
    have N3 : Hid (Nf B32 z3 (v + 1)) := hN3
    have hm3 : m3 ≤ 3 := by rw [← hA3.len]; exact (hN3.len_le B32_one).2 (by have := HV.out.2; have h9 : B32 ^ 3 = 79228162514264337593543950336 := (by decide); rw [h9]; omega)
    have HM3 : Hid (m3 ≤ 3) := hm3
    clear hA3 hN3 hm3
    go_wp2_with fail
    have HRL : Hid (gr < w3.heap.size) := Xr.out.lt
    refine (mk04 true A3.out (by have := HM3.out; omega)).mono ?_
    rintro e w4 ⟨g4, m4, hm4, rfl, hg4, hA4, hb4⟩
    have Yr : Hid (Box w4 gr (.bool false) (.slice none 0 0)) := Xr.out.below hb4
    clear Xr
    have Xr := Yr
    clear Yr
    have A1' : Hid (At32 w4 (some ⟨g1, 0, none⟩) z1.length z1.length z1) := A1.out.below hb4
    clear A1
    have A1 := A1'
    clear A1'
    have A2' : Hid (At32 w4 (some ⟨g2, 0, none⟩) z2.length z2.length z2) := A2.out.below hb4
    clear A2
    have A2 := A2'
    clear A2'
    have A3' : Hid (At32 w4 p3 m3 m3 z3) := A3.out.below hb4
    clear A3
    have A3 := A3'
    clear A3'
    have hbw' := Below.on hbw hb4
    clear hbw
    have hbw := hbw'
    clear hbw'
    clear hb4
    rw [N3.out.trim_self] at hm4 hA4
    have hm40 : 0 < m4 := by rw [hm4]; rcases Nat.eq_zero_or_pos z3.length with e | e; (have := (N3.out.zero_iff B32_one).1 (List.eq_nil_of_length_eq_zero e); omega); exact e
    rw [decide_eq_true hm40]
    have H4 : Hid (m4 = z3.length ∧ gr < g4) := ⟨hm4, Nat.lt_of_lt_of_le HRL.out hg4⟩
    clear hm4 hm40 hg4
    have A4 : Hid (At32 w4 (some ⟨g4, 0, none⟩) m4 m4 z3) := hA4
    clear hA4
    obtain ⟨cr0, cr1, fr0, fr1⟩ := Xr.out
    have hner : gr < w4.heap.size := World.block_lt_of_cell? w4 _ cr0
    go_wp2_with fail
    refine bodyPost_ret (v := .agg #[.bool true, .slice (some ⟨g4, 0, none⟩) m4 m4]) (by rw [results_cell1 rfl]; go_simp) rfl ⟨g4, m4, z3, ?_, ?_, ?_, ?_, ?_⟩
    · rw [decide_eq_true (by omega)]
    · have := H4.out.2
      exact (A4.out.setOther _ _ _ (by omega)).setOther _ _ _ (by omega)
    · rw [show (-((v : Int) + 1)).natAbs = v + 1 from by omega]; exact N3.out
    · rw [H4.out.1, A3.out.len]; exact HM3.out
    · exact bSet (bSet hbw _ _ _ HGr.out) _ _ _ HGr.out
  · have hd : decide (z < 0) = false := decide_eq_false hz
    obtain ⟨v, rfl⟩ := Int.eq_ofNat_of_zero_le (by omega : 0 ≤ z)
    have hvb : v < B64 := by rw [B64_eq]; omega
    have e4 : IntKind.u64.wrap (v : Int) = (v : Int) := wrap_u _ _ (by omega)
    have HV : Hid (v < B64) := hvb
    clear h0 h1 hz hvb
    go_enter Tryd.func58, Tryd.ntmps58
    go_wp2_with fail
    obtain ⟨W0, hW0⟩ : ∃ W0, W0 = (w.alloc (.cells #[.bool false, .slice none 0 0] 74)) := ⟨_, rfl⟩
    have Xr : Hid (Box W0 (w.heap.size) (.bool false) (.slice none 0 0)) := by rw [hW0]; exact ⟨by go_simp, by go_simp, by go_simp, by go_simp⟩
    have hb0 : Below w.heap.size w W0 := by rw [hW0]; exact below1 w _
    rw [← hW0]
    clear hW0
    have hbw : Below w.heap.size w w := Below.refl _ _
    obtain ⟨gr, hgr⟩ : ∃ g, g = w.heap.size := ⟨_, rfl⟩
    have HGr : Hid (w.heap.size ≤ gr) := by rw [hgr]; show _ ≤ _; omega
    rw [← hgr] at Xr
    try rw [← hgr]
    clear hgr
    have hbw' := Below.on hbw hb0
    clear hbw
    have hbw := hbw'
    clear hbw'
    clear hb0
    refine (rword v HV.out W0).mono ?_
    rintro e w1 ⟨g1, z1, rfl, hl1, hA1, hN1, hb1⟩
    have Yr : Hid (Box w1 gr (.bool false) (.slice none 0 0)) := Xr.out.below hb1
    clear Xr
    have Xr := Yr
    clear Yr
    have hbw' := Below.on hbw hb1
    clear hbw
    have hbw := hbw'
    clear hbw'
    clear hb1
    have A1 : Hid (At32 w1 (some ⟨g1, 0, none⟩) z1.length z1.length z1) := hA1
    have N1 : Hid (Nf B32 z1 v ∧ z1.length ≤ 2) := ⟨hN1, hl1⟩
    clear hA1 hN1 hl1
    go_wp2_with fail
    have HRL : Hid (gr < w1.heap.size) := Xr.out.lt
    refine (mk04 false A1.out (by have := N1.out.2; omega)).mono ?_
    rintro e w4 ⟨g4, m4, hm4, rfl, hg4, hA4, hb4⟩
    have Yr : Hid (Box w4 gr (.bool false) (.slice none 0 0)) := Xr.out.below hb4
    clear Xr
    have Xr := Yr
    clear Yr
    have A1' : Hid (At32 w4 (some ⟨g1, 0, none⟩) z1.length z1.length z1) := A1.out.below hb4
    clear A1
    have A1 := A1'
    clear A1'
    have hbw' := Below.on hbw hb4
    clear hbw
    have hbw := hbw'
    clear hbw'
    clear hb4
    rw [N1.out.1.trim_self] at hm4 hA4
    rw [Bool.false_and]
    have H4 : Hid (m4 = z1.length ∧ gr < g4) := ⟨hm4, Nat.lt_of_lt_of_le HRL.out hg4⟩
    clear hm4 hg4
    have A4 : Hid (At32 w4 (some ⟨g4, 0, none⟩) m4 m4 z1) := hA4
    clear hA4
    obtain ⟨cr0, cr1, fr0, fr1⟩ := Xr.out
    have hner : gr < w4.heap.size := World.block_lt_of_cell? w4 _ cr0
    go_wp2_with fail
    refine bodyPost_ret (v := .agg #[.bool false, .slice (some ⟨g4, 0, none⟩) m4 m4]) (by rw [results_cell1 rfl]; go_simp) rfl ⟨g4, m4, z1, ?_, ?_, N1.out.1, ?_, ?_⟩
    · rw [decide_eq_false (Int.not_lt.2 (Int.natCast_nonneg v))]
    · have := H4.out.2
      exact (A4.out.setOther _ _ _ (by omega)).setOther _ _ _ (by omega)
    · rw [H4.out.1]; have := N1.out.2; omega
    · exact bSet (bSet hbw _ _ _ HGr.out) _ _ _ HGr.out
set_option maxRecDepth 20000 in
set_option maxHeartbeats 4000000 in
/-- ref04.DocOf. -/
theorem docof_any (z : Int) (w : World) (h0 : -9223372036854775808 ≤ z) (h1 : z ≤ 9223372036854775807) :
    Calls Tryd.prog 32 #[.int .i64 z] w fun e w' => ∃ s g k N us, e = .returned (ZV s (some ⟨g, 0, none⟩) k N) ∧ s = decide (z < 0) ∧ At w' (some ⟨g, 0, none⟩) k N us ∧ Nf B64 us z.natAbs ∧ Below w.heap.size w w' := by
  have HZ : Hid (-9223372036854775808 ≤ z ∧ z ≤ 9223372036854775807) := ⟨h0, h1⟩
  clear h0 h1
  go_enter Tryd.func32, Tryd.ntmps32
  go_wp2_with fail
  obtain ⟨W0, hW0⟩ : ∃ W0, W0 = (w.alloc (.cells #[.bool false, .slice none 0 0] 35)) := ⟨_, rfl⟩
  have Xr : Hid (Box W0 (w.heap.size) (.bool false) (.slice none 0 0)) := by rw [hW0]; exact ⟨by go_simp, by go_simp, by go_simp, by go_simp⟩
  have hb0 : Below w.heap.size w W0 := by rw [hW0]; exact below1 w _
  rw [← hW0]
  clear hW0
  have hbw : Below w.heap.size w w := Below.refl _ _
  obtain ⟨gr, hgr⟩ : ∃ g, g = w.heap.size := ⟨_, rfl⟩
  have HGr : Hid (w.heap.size ≤ gr) := by rw [hgr]; show _ ≤ _; omega
  rw [← hgr] at Xr
  try rw [← hgr]
  clear hgr
  have hbw' := Below.on hbw hb0
  clear hbw
  have hbw := hbw'
  clear hbw'
  clear hb0
  refine (rof_any z W0 HZ.out.1 HZ.out.2).mono ?_
  rintro e w1 ⟨g1, m1, z1, rfl, hA1, hN1, hl1, hb1⟩
  have Yr : Hid (Box w1 gr (.bool false) (.slice none 0 0)) := Xr.out.below hb1
  clear Xr
  have Xr := Yr
  clear Yr
  have hbw' := Below.on hbw hb1
  clear hbw
  have hbw := hbw'
  clear hbw'
  clear hb1
  have A1 : Hid (At32 w1 (some ⟨g1, 0, none⟩) m1 m1 z1) := hA1
  have N1 : Hid (Nf B32 z1 z.natAbs ∧ m1 ≤ 3) := ⟨hN1, hl1⟩
  clear hA1 hN1 hl1
  obtain ⟨s, hs⟩ : ∃ s, s = decide (z < 0) := ⟨_, rfl⟩
  rw [← hs]
  have HS : Hid (s = decide (z < 0)) := hs
  clear hs
  go_wp2_with fail
  have HRL : Hid (gr < w1.heap.size) := Xr.out.lt
  have h0 : s = true → 0 < m1 := by intro e; rw [HS.out] at e; have hz := of_decide_eq_true e; rcases Nat.eq_zero_or_pos m1 with e2 | e2; (have := (N1.out.1.zero_iff B32_one).1 (List.eq_nil_of_length_eq_zero (by rw [A1.out.len]; exact e2)); omega); exact e2
  refine (to04_any s A1.out N1.out.1 (by have := N1.out.2; omega) h0).mono ?_
  rintro e w2 ⟨g2, k2, N2, us, rfl, hA2, hn2, hg2, hb2⟩
  clear h0
  have Yr : Hid (Box w2 gr (.bool false) (.slice none 0 0)) := Xr.out.below hb2
  clear Xr
  have Xr := Yr
  clear Yr
  have A1' : Hid (At32 w2 (some ⟨g1, 0, none⟩) m1 m1 z1) := A1.out.below hb2
  clear A1
  have A1 := A1'
  clear A1'
  have hbw' := Below.on hbw hb2
  clear hbw
  have hbw := hbw'
  clear hbw'
  clear hb2
  have A2 : Hid (At w2 (some ⟨g2, 0, none⟩) k2 N2 us) := hA2
  have H2 : Hid (Nf B64 us z.natAbs ∧ gr < g2) := ⟨hn2, Nat.lt_of_lt_of_le HRL.out hg2⟩
  clear hA2 hn2 hg2
  obtain ⟨cr0, cr1, fr0, fr1⟩ := Xr.out
  have hner : gr < w2.heap.size := World.block_lt_of_cell? w2 _ cr0
  go_wp2_with fail
  refine bodyPost_ret (v := ZV s (some ⟨g2, 0, none⟩) k2 N2) (by rw [results_cell1 rfl]; go_simp) rfl ⟨s, g2, k2, N2, us, rfl, HS.out, ?_, H2.out.1, ?_⟩
  · have := H2.out.2
    exact (A2.out.setOther _ _ _ (by omega)).setOther _ _ _ (by omega)
  · exact bSet (bSet hbw _ _ _ HGr.out) _ _ _ HGr.out
end Go.Proofs.YteoihhgaipplfaaDoor

namespace Go.Proofs.YteoihhgaipplfaaDoor
open Go.RowKit Go.Shelf

/-- A whole number in form, as a value in the world. -/
structure ZN (w : World) (s : Bool) (p : Option Addr) (m c : Nat) (z : Int) : Prop where
  ex : ∃ xs, Num w p m c xs z.natAbs
  sg : s = decide (z < 0)
theorem ZN.below {w w' : World} {s : Bool} {p : Option Addr} {m c : Nat} {z : Int} (h : ZN w s p m c z) (hb : Below w.heap.size w w') : ZN w' s p m c z := by
  obtain ⟨xs, hx⟩ := h.ex
  exact ⟨⟨xs, hx.below hb⟩, h.sg⟩
theorem ZN.iv {w : World} {s : Bool} {p : Option Addr} {m c : Nat} {z : Int} (h : ZN w s p m c z) : iv s z.natAbs = z := by rw [h.sg]; exact iv_abs z
theorem ZN.pos {w : World} {s : Bool} {p : Option Addr} {m c : Nat} {z : Int} (h : ZN w s p m c z) : s = true → 0 < z.natAbs := by rw [h.sg]; exact sgn_pos z
theorem ZN.lim {w : World} {s : Bool} {p : Option Addr} {m c : Nat} {z : Int} (h : ZN w s p m c z) : z.natAbs < LIM := by
  obtain ⟨xs, hx⟩ := h.ex
  exact hx.lim
theorem ZN.le {w : World} {s : Bool} {p : Option Addr} {m c : Nat} {z : Int} (h : ZN w s p m c z) : m ≤ 8192 := by
  obtain ⟨xs, hx⟩ := h.ex
  exact hx.le
theorem ZN.cast {w : World} {s : Bool} {p : Option Addr} {m c : Nat} {z z' : Int} (h : ZN w s p m c z) (e : z = z') : ZN w s p m c z' := e ▸ h
theorem ZN.of {w : World} {p : Option Addr} {m c : Nat} {xs : List Nat} {a : Nat} {t : Bool} (h : Num w p m c xs a) (ht : t = true → 0 < a) : ZN w t p m c (Go.Proofs.YteoihhgaipplfaaDoor.iv t a) :=
  ⟨⟨xs, by rw [iv_natAbs]; exact h⟩, by
    cases t
    · rw [iv_f]; exact (decide_eq_false (Int.not_lt.2 (Int.natCast_nonneg _))).symm
    · rw [iv_t]; have := ht rfl; exact (decide_eq_true (by omega)).symm⟩
/-- The answer is that number, with no error. -/
def Got (w' : World) (e : Ending) (z : Int) : Prop := ∃ s p m, e = .returned (.tuple #[ZV s p m m, .int .i64 0]) ∧ ZN w' s p m m z
theorem AnsZ.zn {B : Nat} {w' : World} {v : Value} {z : Int} (h : AnsZ B w' v z) : ∃ s p m, v = ZV s p m m ∧ ZN w' s p m m z := by
  obtain ⟨p, m, zs, rfl, ho, hn, hm⟩ := h
  exact ⟨_, p, m, rfl, ⟨zs, Num.of ho hn hm⟩, rfl⟩
theorem AnsI.zn {B : Nat} {w' : World} {e : Ending} {z : Int} (h : AnsI B w' e z) : (z.natAbs < LIM ∧ Got w' e z) ∨ (LIM ≤ z.natAbs ∧ e = .returned (.tuple #[ZV false none 0 0, .int .i64 5])) := by
  rcases h with ⟨hl, p, m, zs, rfl, ho, hn, hm⟩ | ⟨hl, rfl⟩
  · exact .inl ⟨hl, _, p, m, rfl, ⟨zs, Num.of ho hn hm⟩, rfl⟩
  · exact .inr ⟨hl, rfl⟩
theorem AnsI.got {B : Nat} {w' : World} {e : Ending} {z : Int} (h : AnsI B w' e z) (hz : z.natAbs < LIM) : Got w' e z := by
  rcases h.zn with ⟨_, k⟩ | ⟨k, _⟩
  · exact k
  · omega
variable {w : World} {s t : Bool} {p q : Option Addr} {m c n d : Nat} {x y : Int}
theorem zadd (h : ZN w s p m c x) (k : ZN w t q n d y) : Calls Tryd.prog 19 #[ZV s p m c, ZV t q n d] w fun e w' => AnsI w.heap.size w' e (x + y) ∧ Below w.heap.size w w' := by
  obtain ⟨xs, hx⟩ := h.ex
  obtain ⟨ys, hy⟩ := k.ex
  have := nadd_any s t hx hy h.pos k.pos
  rwa [h.iv, k.iv] at this
theorem zsub (h : ZN w s p m c x) (k : ZN w t q n d y) : Calls Tryd.prog 31 #[ZV s p m c, ZV t q n d] w fun e w' => AnsI w.heap.size w' e (x - y) ∧ Below w.heap.size w w' := by
  obtain ⟨xs, hx⟩ := h.ex
  obtain ⟨ys, hy⟩ := k.ex
  have := nsub_any s t hx hy h.pos k.pos
  rwa [h.iv, k.iv] at this
theorem zmul (h : ZN w s p m c x) (k : ZN w t q n d y) : Calls Tryd.prog 30 #[ZV s p m c, ZV t q n d] w fun e w' => AnsI w.heap.size w' e (x * y) ∧ Below w.heap.size w w' := by
  obtain ⟨xs, hx⟩ := h.ex
  obtain ⟨ys, hy⟩ := k.ex
  have := nmul_any s t hx hy h.pos k.pos
  rwa [h.iv, k.iv] at this
theorem zcmp (h : ZN w s p m c x) (k : ZN w t q n d y) : Calls Tryd.prog 18 #[ZV s p m c, ZV t q n d] w fun e w' => e = .returned (.tuple #[.int .i64 (cmpI x y), .int .i64 0]) ∧ Below w.heap.size w w' := by
  obtain ⟨xs, hx⟩ := h.ex
  obtain ⟨ys, hy⟩ := k.ex
  have := ncmp_any s t hx h.pos hy k.pos
  rwa [h.iv, k.iv] at this
theorem zneg (h : ZN w s p m c x) : Calls Tryd.prog 22 #[ZV s p m c] w fun e w' => Got w' e (-x) ∧ Below w.heap.size w w' := by
  obtain ⟨xs, hx⟩ := h.ex
  have := neg_any s hx h.pos
  rw [iv_not, h.iv] at this
  exact this.mono fun e w' ⟨v, he, hv, hb⟩ => by
    obtain ⟨s', p', m', rfl, hz⟩ := hv.zn
    exact ⟨⟨s', p', m', he, hz⟩, hb⟩
theorem zshl (h : ZN w s p m c x) (k : Nat) (hk : k ≤ 9223372036854775807) : Calls Tryd.prog 33 #[ZV s p m c, .int .i64 k] w fun e w' => AnsI w.heap.size w' e (x * 2 ^ k) ∧ Below w.heap.size w w' := by
  obtain ⟨xs, hx⟩ := h.ex
  have := nshl_any s hx h.pos k hk
  rwa [show Go.Proofs.YteoihhgaipplfaaDoor.iv s (2 ^ k * x.natAbs) = x * 2 ^ k from by
    have e := h.iv
    rw [show Go.Proofs.YteoihhgaipplfaaDoor.iv s (2 ^ k * x.natAbs) = Go.Proofs.YteoihhgaipplfaaDoor.iv s x.natAbs * 2 ^ k from by cases s <;> simp [Go.Proofs.YteoihhgaipplfaaDoor.iv, Int.mul_comm, Int.neg_mul], e]] at this
theorem zsign (h : ZN w s p m c x) : Calls Tryd.prog 17 #[ZV s p m c] w fun e w' => e = .returned (.int .i64 (sgnI x)) ∧ Below w.heap.size w w' := by
  obtain ⟨xs, hx⟩ := h.ex
  have := sign_any s hx
  rwa [h.iv] at this
theorem zsmall (h : ZN w s p m c x) : Calls Tryd.prog 15 #[ZV s p m c] w fun e w' => e = .returned (if -9223372036854775808 ≤ x ∧ x ≤ 9223372036854775807 then .tuple #[.int .i64 x, .int .i64 0] else .tuple #[.int .i64 0, .int .i64 5]) ∧ Below w.heap.size w w' := by
  obtain ⟨xs, hx⟩ := h.ex
  have := small_full s hx h.pos
  rwa [h.iv] at this
theorem zform (h : ZN w s p m c x) : Calls Tryd.prog 16 #[ZV s p m c] w fun e w' => e = .returned (.bool true) ∧ Below w.heap.size w w' := by
  obtain ⟨xs, hx⟩ := h.ex
  exact numform_t s hx h.pos
theorem zsame (h : ZN w s p m c x) (k : ZN w t q n d y) : Calls Tryd.prog 23 #[ZV s p m c, ZV t q n d] w fun e w' => e = .returned (.bool (decide (x = y))) ∧ Below w.heap.size w w' := by
  obtain ⟨xs, hx⟩ := h.ex
  obtain ⟨ys, hy⟩ := k.ex
  have := nsame_any s t hx.at_ hy.at_ hx.nf hy.nf h.pos k.pos
  rwa [h.iv, k.iv] at this
theorem zof (z : Int) (w : World) (h0 : -9223372036854775808 ≤ z) (h1 : z ≤ 9223372036854775807) : Calls Tryd.prog 14 #[.int .i64 z] w fun e w' => ∃ s p m, e = .returned (ZV s p m m) ∧ ZN w' s p m m z ∧ Below w.heap.size w w' :=
  (of_full z w h0 h1).mono fun e w' ⟨v, he, hv, hb⟩ => by
    obtain ⟨s', p', m', rfl, hz⟩ := hv.zn
    exact ⟨s', p', m', he, hz, hb⟩
theorem zdocof (z : Int) (w : World) (h0 : -9223372036854775808 ≤ z) (h1 : z ≤ 9223372036854775807) : Calls Tryd.prog 32 #[.int .i64 z] w fun e w' => ∃ s p m c, e = .returned (ZV s p m c) ∧ ZN w' s p m c z ∧ Below w.heap.size w w' :=
  (docof_any z w h0 h1).mono fun e w' ⟨s, g, k, N, us, he, hs, hA, hN, hb⟩ => by
    refine ⟨s, _, k, N, he, ⟨⟨us, hA, hN, ?_⟩, hs⟩, hb⟩
    have := (hN.len_le B64_one (k := 1)).2 (by rw [Nat.pow_one, B64_eq]; omega)
    rw [hA.len] at this
    omega
theorem zfshr (h : ZN w s p m c x) (k : Nat) (hk : k ≤ 9223372036854775807) (hT : Tab w) : Calls Tryd.prog 24 #[ZV s p m c, .int .i64 k] w fun e w' => Got w' e (fl (decide (x < 0)) x.natAbs (2 ^ k)) ∧ Below w.heap.size w w' := by
  obtain ⟨xs, hx⟩ := h.ex
  rw [← h.sg]
  exact (fshr_any s hx h.pos k hk hT).mono fun e w' ⟨v, he, hv, hb⟩ => by
    obtain ⟨s', p', m', rfl, hz⟩ := hv.zn
    exact ⟨⟨s', p', m', he, hz⟩, hb⟩
theorem zcshr (h : ZN w s p m c x) (k : Nat) (hk : k ≤ 9223372036854775807) (hT : Tab w) : Calls Tryd.prog 25 #[ZV s p m c, .int .i64 k] w fun e w' => Got w' e (ce (decide (x < 0)) x.natAbs (2 ^ k)) ∧ Below w.heap.size w w' := by
  obtain ⟨xs, hx⟩ := h.ex
  rw [← h.sg]
  exact (cshr_any s hx h.pos k hk hT).mono fun e w' ⟨v, he, hv, hb⟩ => by
    obtain ⟨s', p', m', rfl, hz⟩ := hv.zn
    exact ⟨⟨s', p', m', he, hz⟩, hb⟩
theorem zrshr (h : ZN w s p m c x) (k : Nat) (hk : k ≤ 9223372036854775807) (hT : Tab w) : Calls Tryd.prog 26 #[ZV s p m c, .int .i64 k] w fun e w' => Got w' e (ne (decide (x < 0)) x.natAbs (2 ^ k)) ∧ Below w.heap.size w w' := by
  obtain ⟨xs, hx⟩ := h.ex
  rw [← h.sg]
  exact (rshr_any s hx h.pos k hk hT).mono fun e w' ⟨v, he, hv, hb⟩ => by
    obtain ⟨s', p', m', rfl, hz⟩ := hv.zn
    exact ⟨⟨s', p', m', he, hz⟩, hb⟩
theorem zfdiv (h : ZN w s p m c x) (k : ZN w t q n d y) (hy0 : y ≠ 0) : Calls Tryd.prog 20 #[ZV s p m c, ZV t q n d] w fun e w' => Got w' e (fl (decide (x < 0) != decide (y < 0)) x.natAbs y.natAbs) ∧ Below w.heap.size w w' := by
  obtain ⟨xs, hx⟩ := h.ex
  obtain ⟨ys, hy⟩ := k.ex
  rw [← h.sg, ← k.sg]
  exact (fdiv_any s t hx h.pos hy k.pos (by omega)).mono fun e w' ⟨v, he, hv, hb⟩ => by
    obtain ⟨s', p', m', rfl, hz⟩ := hv.zn
    exact ⟨⟨s', p', m', he, hz⟩, hb⟩
theorem zcdiv (h : ZN w s p m c x) (k : ZN w t q n d y) (hy0 : y ≠ 0) : Calls Tryd.prog 27 #[ZV s p m c, ZV t q n d] w fun e w' => Got w' e (ce (decide (x < 0) != decide (y < 0)) x.natAbs y.natAbs) ∧ Below w.heap.size w w' := by
  obtain ⟨xs, hx⟩ := h.ex
  obtain ⟨ys, hy⟩ := k.ex
  rw [← h.sg, ← k.sg]
  exact (cdiv_any s t hx h.pos hy k.pos (by omega)).mono fun e w' ⟨v, he, hv, hb⟩ => by
    obtain ⟨s', p', m', rfl, hz⟩ := hv.zn
    exact ⟨⟨s', p', m', he, hz⟩, hb⟩
theorem zrdiv (h : ZN w s p m c x) (k : ZN w t q n d y) (hy0 : y ≠ 0) : Calls Tryd.prog 28 #[ZV s p m c, ZV t q n d] w fun e w' => Got w' e (ne (decide (x < 0) != decide (y < 0)) x.natAbs y.natAbs) ∧ Below w.heap.size w w' := by
  obtain ⟨xs, hx⟩ := h.ex
  obtain ⟨ys, hy⟩ := k.ex
  rw [← h.sg, ← k.sg]
  exact (rdiv_any s t hx h.pos hy k.pos (by omega)).mono fun e w' ⟨v, he, hv, hb⟩ => by
    obtain ⟨s', p', m', rfl, hz⟩ := hv.zn
    exact ⟨⟨s', p', m', he, hz⟩, hb⟩
theorem zmod (h : ZN w s p m c x) (k : ZN w t q n d y) (hy0 : y ≠ 0) : Calls Tryd.prog 29 #[ZV s p m c, ZV t q n d] w fun e w' => Got w' e (mo (decide (x < 0)) (decide (y < 0)) x.natAbs y.natAbs) ∧ Below w.heap.size w w' := by
  obtain ⟨xs, hx⟩ := h.ex
  obtain ⟨ys, hy⟩ := k.ex
  rw [← h.sg, ← k.sg]
  exact (mod_any s t hx h.pos hy k.pos (by omega)).mono fun e w' ⟨v, he, hv, hb⟩ => by
    obtain ⟨s', p', m', rfl, hz⟩ := hv.zn
    exact ⟨⟨s', p', m', he, hz⟩, hb⟩
theorem zfdiv0 (h : ZN w s p m c x) (k : ZN w t q n d y) (hy0 : y = 0) : Calls Tryd.prog 20 #[ZV s p m c, ZV t q n d] w fun e w' => ∃ s' p' m', e = .returned (.tuple #[ZV s' p' m' m', .int .i64 4]) ∧ ZN w' s' p' m' m' 0 ∧ Below w.heap.size w w' := by
  obtain ⟨xs, hx⟩ := h.ex
  obtain ⟨ys, hy⟩ := k.ex
  exact (fdiv_zero s t hx h.pos hy k.pos (by omega)).mono fun e w' ⟨v, he, hv, hb⟩ => by
    obtain ⟨s', p', m', rfl, hz⟩ := hv.zn
    exact ⟨s', p', m', he, hz, hb⟩
theorem zcdiv0 (h : ZN w s p m c x) (k : ZN w t q n d y) (hy0 : y = 0) : Calls Tryd.prog 27 #[ZV s p m c, ZV t q n d] w fun e w' => ∃ s' p' m', e = .returned (.tuple #[ZV s' p' m' m', .int .i64 4]) ∧ ZN w' s' p' m' m' 0 ∧ Below w.heap.size w w' := by
  obtain ⟨xs, hx⟩ := h.ex
  obtain ⟨ys, hy⟩ := k.ex
  exact (cdiv_zero s t hx h.pos hy k.pos (by omega)).mono fun e w' ⟨v, he, hv, hb⟩ => by
    obtain ⟨s', p', m', rfl, hz⟩ := hv.zn
    exact ⟨s', p', m', he, hz, hb⟩
end Go.Proofs.YteoihhgaipplfaaDoor

namespace Go.Proofs.YteoihhgaipplfaaDoor
open Go.RowKit Go.Shelf

set_option maxRecDepth 20000 in
set_option maxHeartbeats 8000000 in
theorem halves_any (w : World) (hT : Tab w) : Calls Tryd.prog 13 #[] w fun e w' => e = .returned (.bool true) ∧ Below w.heap.size w w' := by
  have HT : Hid (Tab w) := hT
  clear hT
  go_enter Tryd.func13, Tryd.ntmps13
  go_wp2_with fail
  have hbw : Below w.heap.size w w := Below.refl _ _
  refine (zof (-7) w (by omega) (by omega)).mono ?_
  rintro e v1 ⟨s1, p1, m1, rfl, hz, hb1⟩
  have HT' : Hid (Tab v1) := HT.out.below hb1
  clear HT
  have HT := HT'
  clear HT'
  have hbw' := Below.on hbw hb1
  clear hbw
  have hbw := hbw'
  clear hbw'
  clear hb1
  have Za : Hid (ZN v1 s1 p1 m1 m1 (-7)) := hz
  clear hz
  go_wp2_with fail
  refine (zof (2) v1 (by omega) (by omega)).mono ?_
  rintro e v2 ⟨s2, p2, m2, rfl, hz, hb2⟩
  have HT' : Hid (Tab v2) := HT.out.below hb2
  clear HT
  have HT := HT'
  clear HT'
  have Za' : Hid (ZN v2 s1 p1 m1 m1 (-7)) := Za.out.below hb2
  clear Za
  have Za := Za'
  clear Za'
  have hbw' := Below.on hbw hb2
  clear hbw
  have hbw := hbw'
  clear hbw'
  clear hb2
  have Zb : Hid (ZN v2 s2 p2 m2 m2 (2)) := hz
  clear hz
  go_wp2_with fail
  refine (zfdiv Za.out Zb.out (by decide)).mono ?_
  rintro e v3 ⟨⟨s3, p3, m3, rfl, hz⟩, hb3⟩
  have HT' : Hid (Tab v3) := HT.out.below hb3
  clear HT
  have HT := HT'
  clear HT'
  have Za' : Hid (ZN v3 s1 p1 m1 m1 (-7)) := Za.out.below hb3
  clear Za
  have Za := Za'
  clear Za'
  have Zb' : Hid (ZN v3 s2 p2 m2 m2 (2)) := Zb.out.below hb3
  clear Zb
  have Zb := Zb'
  clear Zb'
  have hbw' := Below.on hbw hb3
  clear hbw
  have hbw := hbw'
  clear hbw'
  clear hb3
  have hz := hz.cast (z' := -4) (by decide)
  have Zx : Hid (ZN v3 s3 p3 m3 m3 (-4)) := hz
  clear hz
  clear Za
  clear Zb
  go_wp2_with fail
  have Xx0 : Hid (Box (v3.alloc (.cells #[.bool s3, .slice p3 m3 m3] 35)) v3.heap.size (.bool s3) (.slice p3 m3 m3)) := Box.new v3 _ _ _
  have hbn : Below v3.heap.size v3 (v3.alloc (.cells #[.bool s3, .slice p3 m3 m3] 35)) := below1 v3 _
  generalize v3.alloc (.cells #[.bool s3, .slice p3 m3 m3] 35) = W3 at *
  have HGx : Hid (w.heap.size ≤ v3.heap.size) := hbw.size
  have HT' : Hid (Tab W3) := HT.out.below hbn
  clear HT
  have HT := HT'
  clear HT'
  have Zx' : Hid (ZN W3 s3 p3 m3 m3 (-4)) := Zx.out.below hbn
  clear Zx
  have Zx := Zx'
  clear Zx'
  have hbw' := Below.on hbw hbn
  clear hbw
  have hbw := hbw'
  clear hbw'
  clear hbn
  generalize v3.heap.size = gx at *
  have Xx := Xx0
  clear Xx0
  refine (zof (7) W3 (by omega) (by omega)).mono ?_
  rintro e v4 ⟨s4, p4, m4, rfl, hz, hb4⟩
  have Yx : Hid (Box v4 gx (.bool s3) (.slice p3 m3 m3)) := Xx.out.below hb4
  clear Xx
  have Xx := Yx
  clear Yx
  have HT' : Hid (Tab v4) := HT.out.below hb4
  clear HT
  have HT := HT'
  clear HT'
  have Zx' : Hid (ZN v4 s3 p3 m3 m3 (-4)) := Zx.out.below hb4
  clear Zx
  have Zx := Zx'
  clear Zx'
  have hbw' := Below.on hbw hb4
  clear hbw
  have hbw := hbw'
  clear hbw'
  clear hb4
  have Za : Hid (ZN v4 s4 p4 m4 m4 (7)) := hz
  clear hz
  go_wp2_with fail
  rw [show Value.int IntKind.i64 1 = .int .i64 ((1 : Nat) : Int) from rfl]
  refine (zrshr Za.out 1 (by omega) HT.out).mono ?_
  rintro e v5 ⟨⟨s5, p5, m5, rfl, hz⟩, hb5⟩
  have Yx : Hid (Box v5 gx (.bool s3) (.slice p3 m3 m3)) := Xx.out.below hb5
  clear Xx
  have Xx := Yx
  clear Yx
  have HT' : Hid (Tab v5) := HT.out.below hb5
  clear HT
  have HT := HT'
  clear HT'
  have Zx' : Hid (ZN v5 s3 p3 m3 m3 (-4)) := Zx.out.below hb5
  clear Zx
  have Zx := Zx'
  clear Zx'
  have Za' : Hid (ZN v5 s4 p4 m4 m4 (7)) := Za.out.below hb5
  clear Za
  have Za := Za'
  clear Za'
  have hbw' := Below.on hbw hb5
  clear hbw
  have hbw := hbw'
  clear hbw'
  clear hb5
  have hz := hz.cast (z' := 4) (by decide)
  have Zy : Hid (ZN v5 s5 p5 m5 m5 (4)) := hz
  clear hz
  clear Za
  go_wp2_with fail
  have Xy0 : Hid (Box (v5.alloc (.cells #[.bool s5, .slice p5 m5 m5] 35)) v5.heap.size (.bool s5) (.slice p5 m5 m5)) := Box.new v5 _ _ _
  have hbn : Below v5.heap.size v5 (v5.alloc (.cells #[.bool s5, .slice p5 m5 m5] 35)) := below1 v5 _
  generalize v5.alloc (.cells #[.bool s5, .slice p5 m5 m5] 35) = W5 at *
  have HGy : Hid (w.heap.size ≤ v5.heap.size) := hbw.size
  have Yx : Hid (Box W5 gx (.bool s3) (.slice p3 m3 m3)) := Xx.out.below hbn
  clear Xx
  have Xx := Yx
  clear Yx
  have HT' : Hid (Tab W5) := HT.out.below hbn
  clear HT
  have HT := HT'
  clear HT'
  have Zx' : Hid (ZN W5 s3 p3 m3 m3 (-4)) := Zx.out.below hbn
  clear Zx
  have Zx := Zx'
  clear Zx'
  have Zy' : Hid (ZN W5 s5 p5 m5 m5 (4)) := Zy.out.below hbn
  clear Zy
  have Zy := Zy'
  clear Zy'
  have hbw' := Below.on hbw hbn
  clear hbw
  have hbw := hbw'
  clear hbw'
  clear hbn
  generalize v5.heap.size = gy at *
  have Xy := Xy0
  clear Xy0
  refine (zof (-7) W5 (by omega) (by omega)).mono ?_
  rintro e v6 ⟨s6, p6, m6, rfl, hz, hb6⟩
  have Yx : Hid (Box v6 gx (.bool s3) (.slice p3 m3 m3)) := Xx.out.below hb6
  clear Xx
  have Xx := Yx
  clear Yx
  have Yy : Hid (Box v6 gy (.bool s5) (.slice p5 m5 m5)) := Xy.out.below hb6
  clear Xy
  have Xy := Yy
  clear Yy
  have HT' : Hid (Tab v6) := HT.out.below hb6
  clear HT
  have HT := HT'
  clear HT'
  have Zx' : Hid (ZN v6 s3 p3 m3 m3 (-4)) := Zx.out.below hb6
  clear Zx
  have Zx := Zx'
  clear Zx'
  have Zy' : Hid (ZN v6 s5 p5 m5 m5 (4)) := Zy.out.below hb6
  clear Zy
  have Zy := Zy'
  clear Zy'
  have hbw' := Below.on hbw hb6
  clear hbw
  have hbw := hbw'
  clear hbw'
  clear hb6
  have Za : Hid (ZN v6 s6 p6 m6 m6 (-7)) := hz
  clear hz
  go_wp2_with fail
  refine (zof (3) v6 (by omega) (by omega)).mono ?_
  rintro e v7 ⟨s7, p7, m7, rfl, hz, hb7⟩
  have Yx : Hid (Box v7 gx (.bool s3) (.slice p3 m3 m3)) := Xx.out.below hb7
  clear Xx
  have Xx := Yx
  clear Yx
  have Yy : Hid (Box v7 gy (.bool s5) (.slice p5 m5 m5)) := Xy.out.below hb7
  clear Xy
  have Xy := Yy
  clear Yy
  have HT' : Hid (Tab v7) := HT.out.below hb7
  clear HT
  have HT := HT'
  clear HT'
  have Zx' : Hid (ZN v7 s3 p3 m3 m3 (-4)) := Zx.out.below hb7
  clear Zx
  have Zx := Zx'
  clear Zx'
  have Zy' : Hid (ZN v7 s5 p5 m5 m5 (4)) := Zy.out.below hb7
  clear Zy
  have Zy := Zy'
  clear Zy'
  have Za' : Hid (ZN v7 s6 p6 m6 m6 (-7)) := Za.out.below hb7
  clear Za
  have Za := Za'
  clear Za'
  have hbw' := Below.on hbw hb7
  clear hbw
  have hbw := hbw'
  clear hbw'
  clear hb7
  have Zb : Hid (ZN v7 s7 p7 m7 m7 (3)) := hz
  clear hz
  go_wp2_with fail
  refine (zmod Za.out Zb.out (by decide)).mono ?_
  rintro e v8 ⟨⟨s8, p8, m8, rfl, hz⟩, hb8⟩
  have Yx : Hid (Box v8 gx (.bool s3) (.slice p3 m3 m3)) := Xx.out.below hb8
  clear Xx
  have Xx := Yx
  clear Yx
  have Yy : Hid (Box v8 gy (.bool s5) (.slice p5 m5 m5)) := Xy.out.below hb8
  clear Xy
  have Xy := Yy
  clear Yy
  have HT' : Hid (Tab v8) := HT.out.below hb8
  clear HT
  have HT := HT'
  clear HT'
  have Zx' : Hid (ZN v8 s3 p3 m3 m3 (-4)) := Zx.out.below hb8
  clear Zx
  have Zx := Zx'
  clear Zx'
  have Zy' : Hid (ZN v8 s5 p5 m5 m5 (4)) := Zy.out.below hb8
  clear Zy
  have Zy := Zy'
  clear Zy'
  have Za' : Hid (ZN v8 s6 p6 m6 m6 (-7)) := Za.out.below hb8
  clear Za
  have Za := Za'
  clear Za'
  have Zb' : Hid (ZN v8 s7 p7 m7 m7 (3)) := Zb.out.below hb8
  clear Zb
  have Zb := Zb'
  clear Zb'
  have hbw' := Below.on hbw hb8
  clear hbw
  have hbw := hbw'
  clear hbw'
  clear hb8
  have hz := hz.cast (z' := 2) (by decide)
  have Zz : Hid (ZN v8 s8 p8 m8 m8 (2)) := hz
  clear hz
  clear Za
  clear Zb
  go_wp2_with fail
  have Xz0 : Hid (Box (v8.alloc (.cells #[.bool s8, .slice p8 m8 m8] 35)) v8.heap.size (.bool s8) (.slice p8 m8 m8)) := Box.new v8 _ _ _
  have hbn : Below v8.heap.size v8 (v8.alloc (.cells #[.bool s8, .slice p8 m8 m8] 35)) := below1 v8 _
  generalize v8.alloc (.cells #[.bool s8, .slice p8 m8 m8] 35) = W8 at *
  have HGz : Hid (w.heap.size ≤ v8.heap.size) := hbw.size
  have Yx : Hid (Box W8 gx (.bool s3) (.slice p3 m3 m3)) := Xx.out.below hbn
  clear Xx
  have Xx := Yx
  clear Yx
  have Yy : Hid (Box W8 gy (.bool s5) (.slice p5 m5 m5)) := Xy.out.below hbn
  clear Xy
  have Xy := Yy
  clear Yy
  have HT' : Hid (Tab W8) := HT.out.below hbn
  clear HT
  have HT := HT'
  clear HT'
  have Zx' : Hid (ZN W8 s3 p3 m3 m3 (-4)) := Zx.out.below hbn
  clear Zx
  have Zx := Zx'
  clear Zx'
  have Zy' : Hid (ZN W8 s5 p5 m5 m5 (4)) := Zy.out.below hbn
  clear Zy
  have Zy := Zy'
  clear Zy'
  have Zz' : Hid (ZN W8 s8 p8 m8 m8 (2)) := Zz.out.below hbn
  clear Zz
  have Zz := Zz'
  clear Zz'
  have hbw' := Below.on hbw hbn
  clear hbw
  have hbw := hbw'
  clear hbw'
  clear hbn
  generalize v8.heap.size = gz at *
  have Xz := Xz0
  clear Xz0
  obtain ⟨W9, hW9⟩ : ∃ W1, W1 = W8.drew := ⟨_, rfl⟩
  have hbd : Below W8.heap.size W8 W9 := by rw [hW9]; exact bDrew1 (Below.refl _ _)
  have Yx : Hid (Box W9 gx (.bool s3) (.slice p3 m3 m3)) := Xx.out.below hbd
  clear Xx
  have Xx := Yx
  clear Yx
  have Yy : Hid (Box W9 gy (.bool s5) (.slice p5 m5 m5)) := Xy.out.below hbd
  clear Xy
  have Xy := Yy
  clear Yy
  have Yz : Hid (Box W9 gz (.bool s8) (.slice p8 m8 m8)) := Xz.out.below hbd
  clear Xz
  have Xz := Yz
  clear Yz
  have HT' : Hid (Tab W9) := HT.out.below hbd
  clear HT
  have HT := HT'
  clear HT'
  have Zx' : Hid (ZN W9 s3 p3 m3 m3 (-4)) := Zx.out.below hbd
  clear Zx
  have Zx := Zx'
  clear Zx'
  have Zy' : Hid (ZN W9 s5 p5 m5 m5 (4)) := Zy.out.below hbd
  clear Zy
  have Zy := Zy'
  clear Zy'
  have Zz' : Hid (ZN W9 s8 p8 m8 m8 (2)) := Zz.out.below hbd
  clear Zz
  have Zz := Zz'
  clear Zz'
  have hbw' := Below.on hbw hbd
  clear hbw
  have hbw := hbw'
  clear hbw'
  clear hbd
  have HJ : Hid ((fun W' : World => W'.cell? ⟨gx, 0, none⟩ = some (.bool s3) ∧ W'.cell? ⟨gx, 1, none⟩ = some (.slice p3 m3 m3) ∧ W'.cell? ⟨gy, 0, none⟩ = some (.bool s5) ∧ W'.cell? ⟨gy, 1, none⟩ = some (.slice p5 m5 m5) ∧ W'.cell? ⟨gz, 0, none⟩ = some (.bool s8) ∧ W'.cell? ⟨gz, 1, none⟩ = some (.slice p8 m8 m8)) W9) := ⟨Xx.out.c0, Xx.out.c1, Xy.out.c0, Xy.out.c1, Xz.out.c0, Xz.out.c1⟩
  refine wp_region_J (fun W' => W'.cell? ⟨gx, 0, none⟩ = some (.bool s3) ∧ W'.cell? ⟨gx, 1, none⟩ = some (.slice p3 m3 m3) ∧ W'.cell? ⟨gy, 0, none⟩ = some (.bool s5) ∧ W'.cell? ⟨gy, 1, none⟩ = some (.slice p5 m5 m5) ∧ W'.cell? ⟨gz, 0, none⟩ = some (.bool s8) ∧ W'.cell? ⟨gz, 1, none⟩ = some (.slice p8 m8 m8)) (by kernel_rfl) ?_
  rw [← hW9]
  clear hW9
  refine wpJ_take (i := 0) (v := ?v1x0) rfl (by kernel_rfl) (by kernel_rfl) (by kernel_rfl) (fun _ _ _ h => h) (by kernel_rfl) ?hy1x0 HJ.out ?rest1x0
  case hy1x0 => (intro W' hJ; obtain ⟨j0, j1, j2, j3, j4, j5⟩ := hJ; go_simp; first | done | with_reducible rfl)
  refine wpJ_take (i := 1) (v := ?v2x1) rfl (by kernel_rfl) (by kernel_rfl) (by kernel_rfl) (fun _ _ _ h => h) (by kernel_rfl) ?hy2x1 HJ.out ?rest2x1
  case hy2x1 => (intro W' hJ; obtain ⟨j0, j1, j2, j3, j4, j5⟩ := hJ; go_simp; first | done | with_reducible rfl)
  refine wpJ_take (i := 2) (v := ?v3x2) rfl (by kernel_rfl) (by kernel_rfl) (by kernel_rfl) (fun _ _ _ h => h) (by kernel_rfl) ?hy3x2 HJ.out ?rest3x2
  case hy3x2 => (intro W' hJ; obtain ⟨j0, j1, j2, j3, j4, j5⟩ := hJ; go_simp; first | done | with_reducible rfl)
  refine wpJ_take (i := 3) (v := ?v4x3) rfl (by kernel_rfl) (by kernel_rfl) (by kernel_rfl) (fun _ _ _ h => h) (by kernel_rfl) ?hy4x3 HJ.out ?rest4x3
  case hy4x3 => (intro W' hJ; obtain ⟨j0, j1, j2, j3, j4, j5⟩ := hJ; go_simp; first | done | with_reducible rfl)
  refine wpJ_take (i := 4) (v := ?v5x4) rfl (by kernel_rfl) (by kernel_rfl) (by kernel_rfl) (fun _ _ _ h => h) (by kernel_rfl) ?hy5x4 HJ.out ?rest5x4
  case hy5x4 => (intro W' hJ; obtain ⟨j0, j1, j2, j3, j4, j5⟩ := hJ; go_simp; first | done | with_reducible rfl)
  refine wpJ_take (i := 5) (v := ?v6x5) rfl (by kernel_rfl) (by kernel_rfl) (by kernel_rfl) (fun _ _ _ h => h) (by kernel_rfl) ?hy6x5 HJ.out ?rest6x5
  case hy6x5 => (intro W' hJ; obtain ⟨j0, j1, j2, j3, j4, j5⟩ := hJ; go_simp; first | done | with_reducible rfl)
  refine wpJ_take (i := 6) (v := ?v7x6) rfl (by kernel_rfl) (by kernel_rfl) (by kernel_rfl) (fun _ _ _ h => h) (by kernel_rfl) ?hy7x6 HJ.out ?rest7x6
  case hy7x6 => (intro W' hJ; obtain ⟨j0, j1, j2, j3, j4, j5⟩ := hJ; go_simp; first | done | with_reducible rfl)
  refine wpJ_take (i := 7) (v := ?v8x7) rfl (by kernel_rfl) (by kernel_rfl) (by kernel_rfl) (fun _ _ _ h => h) (by kernel_rfl) ?hy8x7 HJ.out ?rest8x7
  case hy8x7 => (intro W' hJ; obtain ⟨j0, j1, j2, j3, j4, j5⟩ := hJ; go_simp; first | done | with_reducible rfl)
  refine wpJ_take (i := 8) (v := ?v9x8) rfl (by kernel_rfl) (by kernel_rfl) (by kernel_rfl) (fun _ _ _ h => h) (by kernel_rfl) ?hy9x8 HJ.out ?rest9x8
  case hy9x8 => (intro W' hJ; obtain ⟨j0, j1, j2, j3, j4, j5⟩ := hJ; go_simp; first | done | with_reducible rfl)
  refine wpJ_take (i := 9) (v := ?v10x9) rfl (by kernel_rfl) (by kernel_rfl) (by kernel_rfl) (fun _ _ _ h => h) (by kernel_rfl) ?hy10x9 HJ.out ?rest10x9
  case hy10x9 => (intro W' hJ; obtain ⟨j0, j1, j2, j3, j4, j5⟩ := hJ; go_simp; first | done | with_reducible rfl)
  refine wpJ_take (i := 10) (v := ?v11x10) rfl (by kernel_rfl) (by kernel_rfl) (by kernel_rfl) (fun _ _ _ h => h) (by kernel_rfl) ?hy11x10 HJ.out ?rest11x10
  case hy11x10 => (intro W' hJ; obtain ⟨j0, j1, j2, j3, j4, j5⟩ := hJ; go_simp; first | done | with_reducible rfl)
  refine wpJ_take (i := 11) (v := ?v12x11) rfl (by kernel_rfl) (by kernel_rfl) (by kernel_rfl) (fun _ _ _ h => h) (by kernel_rfl) ?hy12x11 HJ.out ?rest12x11
  case hy12x11 => (intro W' hJ; obtain ⟨j0, j1, j2, j3, j4, j5⟩ := hJ; go_simp; first | done | with_reducible rfl)
  refine wpJ_one (i := 12) (by kernel_rfl) rfl (by kernel_rfl) (fun KJ hK => ?_)
  go_simp
  refine (zdocof (-4) W9 (by omega) (by omega)).mono ?_
  rintro e v10 ⟨s10, p10, m10, c10, rfl, hz, hb10⟩
  have Yx : Hid (Box v10 gx (.bool s3) (.slice p3 m3 m3)) := Xx.out.below hb10
  clear Xx
  have Xx := Yx
  clear Yx
  have Yy : Hid (Box v10 gy (.bool s5) (.slice p5 m5 m5)) := Xy.out.below hb10
  clear Xy
  have Xy := Yy
  clear Yy
  have Yz : Hid (Box v10 gz (.bool s8) (.slice p8 m8 m8)) := Xz.out.below hb10
  clear Xz
  have Xz := Yz
  clear Yz
  have HT' : Hid (Tab v10) := HT.out.below hb10
  clear HT
  have HT := HT'
  clear HT'
  have Zx' : Hid (ZN v10 s3 p3 m3 m3 (-4)) := Zx.out.below hb10
  clear Zx
  have Zx := Zx'
  clear Zx'
  have Zy' : Hid (ZN v10 s5 p5 m5 m5 (4)) := Zy.out.below hb10
  clear Zy
  have Zy := Zy'
  clear Zy'
  have Zz' : Hid (ZN v10 s8 p8 m8 m8 (2)) := Zz.out.below hb10
  clear Zz
  have Zz := Zz'
  clear Zz'
  have hbw' := Below.on hbw hb10
  clear hbw
  have hbw := hbw'
  clear hbw'
  clear hb10
  have Zd : Hid (ZN v10 s10 p10 m10 c10 (-4)) := hz
  clear hz
  clear HJ
  have HJ : Hid ((fun W' : World => W'.cell? ⟨gx, 0, none⟩ = some (.bool s3) ∧ W'.cell? ⟨gx, 1, none⟩ = some (.slice p3 m3 m3) ∧ W'.cell? ⟨gy, 0, none⟩ = some (.bool s5) ∧ W'.cell? ⟨gy, 1, none⟩ = some (.slice p5 m5 m5) ∧ W'.cell? ⟨gz, 0, none⟩ = some (.bool s8) ∧ W'.cell? ⟨gz, 1, none⟩ = some (.slice p8 m8 m8)) v10) := ⟨Xx.out.c0, Xx.out.c1, Xy.out.c0, Xy.out.c1, Xz.out.c0, Xz.out.c1⟩
  refine hK _ _ HJ.out ?_
  clear hK
  refine wpJ_one (i := 13) (by kernel_rfl) rfl (by kernel_rfl) (fun KJ hK => ?_)
  go_simp
  refine (zsame Zx.out Zd.out).mono ?_
  rintro e v11 ⟨rfl, hb11⟩
  rw [decide_eq_true rfl]
  have Yx : Hid (Box v11 gx (.bool s3) (.slice p3 m3 m3)) := Xx.out.below hb11
  clear Xx
  have Xx := Yx
  clear Yx
  have Yy : Hid (Box v11 gy (.bool s5) (.slice p5 m5 m5)) := Xy.out.below hb11
  clear Xy
  have Xy := Yy
  clear Yy
  have Yz : Hid (Box v11 gz (.bool s8) (.slice p8 m8 m8)) := Xz.out.below hb11
  clear Xz
  have Xz := Yz
  clear Yz
  have HT' : Hid (Tab v11) := HT.out.below hb11
  clear HT
  have HT := HT'
  clear HT'
  have Zx' : Hid (ZN v11 s3 p3 m3 m3 (-4)) := Zx.out.below hb11
  clear Zx
  have Zx := Zx'
  clear Zx'
  have Zy' : Hid (ZN v11 s5 p5 m5 m5 (4)) := Zy.out.below hb11
  clear Zy
  have Zy := Zy'
  clear Zy'
  have Zz' : Hid (ZN v11 s8 p8 m8 m8 (2)) := Zz.out.below hb11
  clear Zz
  have Zz := Zz'
  clear Zz'
  have Zd' : Hid (ZN v11 s10 p10 m10 c10 (-4)) := Zd.out.below hb11
  clear Zd
  have Zd := Zd'
  clear Zd'
  have hbw' := Below.on hbw hb11
  clear hbw
  have hbw := hbw'
  clear hbw'
  clear hb11
  clear HJ
  have HJ : Hid ((fun W' : World => W'.cell? ⟨gx, 0, none⟩ = some (.bool s3) ∧ W'.cell? ⟨gx, 1, none⟩ = some (.slice p3 m3 m3) ∧ W'.cell? ⟨gy, 0, none⟩ = some (.bool s5) ∧ W'.cell? ⟨gy, 1, none⟩ = some (.slice p5 m5 m5) ∧ W'.cell? ⟨gz, 0, none⟩ = some (.bool s8) ∧ W'.cell? ⟨gz, 1, none⟩ = some (.slice p8 m8 m8)) v11) := ⟨Xx.out.c0, Xx.out.c1, Xy.out.c0, Xy.out.c1, Xz.out.c0, Xz.out.c1⟩
  refine hK _ _ HJ.out ?_
  clear hK
  refine wpJ_take (i := 14) (v := ?v13x14) rfl (by kernel_rfl) (by kernel_rfl) (by kernel_rfl) (fun _ _ _ h => h) (by kernel_rfl) ?hy13x14 HJ.out ?rest13x14
  case hy13x14 => (intro W' hJ; obtain ⟨j0, j1, j2, j3, j4, j5⟩ := hJ; go_simp; first | done | with_reducible rfl)
  refine wpJ_take (i := 15) (v := ?v14x15) rfl (by kernel_rfl) (by kernel_rfl) (by kernel_rfl) (fun _ _ _ h => h) (by kernel_rfl) ?hy14x15 HJ.out ?rest14x15
  case hy14x15 => (intro W' hJ; obtain ⟨j0, j1, j2, j3, j4, j5⟩ := hJ; go_simp; first | done | with_reducible rfl)
  refine wpJ_take (i := 16) (v := ?v15x16) rfl (by kernel_rfl) (by kernel_rfl) (by kernel_rfl) (fun _ _ _ h => h) (by kernel_rfl) ?hy15x16 HJ.out ?rest15x16
  case hy15x16 => (intro W' hJ; obtain ⟨j0, j1, j2, j3, j4, j5⟩ := hJ; go_simp; first | done | with_reducible rfl)
  refine wpJ_one (i := 17) (by kernel_rfl) rfl (by kernel_rfl) (fun KJ hK => ?_)
  go_simp
  refine (zdocof (4) v11 (by omega) (by omega)).mono ?_
  rintro e v12 ⟨s12, p12, m12, c12, rfl, hz, hb12⟩
  have Yx : Hid (Box v12 gx (.bool s3) (.slice p3 m3 m3)) := Xx.out.below hb12
  clear Xx
  have Xx := Yx
  clear Yx
  have Yy : Hid (Box v12 gy (.bool s5) (.slice p5 m5 m5)) := Xy.out.below hb12
  clear Xy
  have Xy := Yy
  clear Yy
  have Yz : Hid (Box v12 gz (.bool s8) (.slice p8 m8 m8)) := Xz.out.below hb12
  clear Xz
  have Xz := Yz
  clear Yz
  have HT' : Hid (Tab v12) := HT.out.below hb12
  clear HT
  have HT := HT'
  clear HT'
  have Zx' : Hid (ZN v12 s3 p3 m3 m3 (-4)) := Zx.out.below hb12
  clear Zx
  have Zx := Zx'
  clear Zx'
  have Zy' : Hid (ZN v12 s5 p5 m5 m5 (4)) := Zy.out.below hb12
  clear Zy
  have Zy := Zy'
  clear Zy'
  have Zz' : Hid (ZN v12 s8 p8 m8 m8 (2)) := Zz.out.below hb12
  clear Zz
  have Zz := Zz'
  clear Zz'
  have Zd' : Hid (ZN v12 s10 p10 m10 c10 (-4)) := Zd.out.below hb12
  clear Zd
  have Zd := Zd'
  clear Zd'
  have hbw' := Below.on hbw hb12
  clear hbw
  have hbw := hbw'
  clear hbw'
  clear hb12
  have Ze : Hid (ZN v12 s12 p12 m12 c12 (4)) := hz
  clear hz
  clear HJ
  have HJ : Hid ((fun W' : World => W'.cell? ⟨gx, 0, none⟩ = some (.bool s3) ∧ W'.cell? ⟨gx, 1, none⟩ = some (.slice p3 m3 m3) ∧ W'.cell? ⟨gy, 0, none⟩ = some (.bool s5) ∧ W'.cell? ⟨gy, 1, none⟩ = some (.slice p5 m5 m5) ∧ W'.cell? ⟨gz, 0, none⟩ = some (.bool s8) ∧ W'.cell? ⟨gz, 1, none⟩ = some (.slice p8 m8 m8)) v12) := ⟨Xx.out.c0, Xx.out.c1, Xy.out.c0, Xy.out.c1, Xz.out.c0, Xz.out.c1⟩
  refine hK _ _ HJ.out ?_
  clear hK
  refine wpJ_one (i := 18) (by kernel_rfl) rfl (by kernel_rfl) (fun KJ hK => ?_)
  go_simp
  refine (zsame Zy.out Ze.out).mono ?_
  rintro e v13 ⟨rfl, hb13⟩
  rw [decide_eq_true rfl]
  have Yx : Hid (Box v13 gx (.bool s3) (.slice p3 m3 m3)) := Xx.out.below hb13
  clear Xx
  have Xx := Yx
  clear Yx
  have Yy : Hid (Box v13 gy (.bool s5) (.slice p5 m5 m5)) := Xy.out.below hb13
  clear Xy
  have Xy := Yy
  clear Yy
  have Yz : Hid (Box v13 gz (.bool s8) (.slice p8 m8 m8)) := Xz.out.below hb13
  clear Xz
  have Xz := Yz
  clear Yz
  have HT' : Hid (Tab v13) := HT.out.below hb13
  clear HT
  have HT := HT'
  clear HT'
  have Zx' : Hid (ZN v13 s3 p3 m3 m3 (-4)) := Zx.out.below hb13
  clear Zx
  have Zx := Zx'
  clear Zx'
  have Zy' : Hid (ZN v13 s5 p5 m5 m5 (4)) := Zy.out.below hb13
  clear Zy
  have Zy := Zy'
  clear Zy'
  have Zz' : Hid (ZN v13 s8 p8 m8 m8 (2)) := Zz.out.below hb13
  clear Zz
  have Zz := Zz'
  clear Zz'
  have Zd' : Hid (ZN v13 s10 p10 m10 c10 (-4)) := Zd.out.below hb13
  clear Zd
  have Zd := Zd'
  clear Zd'
  have Ze' : Hid (ZN v13 s12 p12 m12 c12 (4)) := Ze.out.below hb13
  clear Ze
  have Ze := Ze'
  clear Ze'
  have hbw' := Below.on hbw hb13
  clear hbw
  have hbw := hbw'
  clear hbw'
  clear hb13
  clear HJ
  have HJ : Hid ((fun W' : World => W'.cell? ⟨gx, 0, none⟩ = some (.bool s3) ∧ W'.cell? ⟨gx, 1, none⟩ = some (.slice p3 m3 m3) ∧ W'.cell? ⟨gy, 0, none⟩ = some (.bool s5) ∧ W'.cell? ⟨gy, 1, none⟩ = some (.slice p5 m5 m5) ∧ W'.cell? ⟨gz, 0, none⟩ = some (.bool s8) ∧ W'.cell? ⟨gz, 1, none⟩ = some (.slice p8 m8 m8)) v13) := ⟨Xx.out.c0, Xx.out.c1, Xy.out.c0, Xy.out.c1, Xz.out.c0, Xz.out.c1⟩
  refine hK _ _ HJ.out ?_
  clear hK
  refine wpJ_take (i := 19) (v := ?v16x19) rfl (by kernel_rfl) (by kernel_rfl) (by kernel_rfl) (fun _ _ _ h => h) (by kernel_rfl) ?hy16x19 HJ.out ?rest16x19
  case hy16x19 => (intro W' hJ; obtain ⟨j0, j1, j2, j3, j4, j5⟩ := hJ; go_simp; first | done | with_reducible rfl)
  refine wpJ_take (i := 20) (v := ?v17x20) rfl (by kernel_rfl) (by kernel_rfl) (by kernel_rfl) (fun _ _ _ h => h) (by kernel_rfl) ?hy17x20 HJ.out ?rest17x20
  case hy17x20 => (intro W' hJ; obtain ⟨j0, j1, j2, j3, j4, j5⟩ := hJ; go_simp; first | done | with_reducible rfl)
  refine wpJ_take (i := 21) (v := ?v18x21) rfl (by kernel_rfl) (by kernel_rfl) (by kernel_rfl) (fun _ _ _ h => h) (by kernel_rfl) ?hy18x21 HJ.out ?rest18x21
  case hy18x21 => (intro W' hJ; obtain ⟨j0, j1, j2, j3, j4, j5⟩ := hJ; go_simp; first | done | with_reducible rfl)
  refine wpJ_one (i := 22) (by kernel_rfl) rfl (by kernel_rfl) (fun KJ hK => ?_)
  go_simp
  refine (zdocof (2) v13 (by omega) (by omega)).mono ?_
  rintro e v14 ⟨s14, p14, m14, c14, rfl, hz, hb14⟩
  have Yx : Hid (Box v14 gx (.bool s3) (.slice p3 m3 m3)) := Xx.out.below hb14
  clear Xx
  have Xx := Yx
  clear Yx
  have Yy : Hid (Box v14 gy (.bool s5) (.slice p5 m5 m5)) := Xy.out.below hb14
  clear Xy
  have Xy := Yy
  clear Yy
  have Yz : Hid (Box v14 gz (.bool s8) (.slice p8 m8 m8)) := Xz.out.below hb14
  clear Xz
  have Xz := Yz
  clear Yz
  have HT' : Hid (Tab v14) := HT.out.below hb14
  clear HT
  have HT := HT'
  clear HT'
  have Zx' : Hid (ZN v14 s3 p3 m3 m3 (-4)) := Zx.out.below hb14
  clear Zx
  have Zx := Zx'
  clear Zx'
  have Zy' : Hid (ZN v14 s5 p5 m5 m5 (4)) := Zy.out.below hb14
  clear Zy
  have Zy := Zy'
  clear Zy'
  have Zz' : Hid (ZN v14 s8 p8 m8 m8 (2)) := Zz.out.below hb14
  clear Zz
  have Zz := Zz'
  clear Zz'
  have Zd' : Hid (ZN v14 s10 p10 m10 c10 (-4)) := Zd.out.below hb14
  clear Zd
  have Zd := Zd'
  clear Zd'
  have Ze' : Hid (ZN v14 s12 p12 m12 c12 (4)) := Ze.out.below hb14
  clear Ze
  have Ze := Ze'
  clear Ze'
  have hbw' := Below.on hbw hb14
  clear hbw
  have hbw := hbw'
  clear hbw'
  clear hb14
  have Zf : Hid (ZN v14 s14 p14 m14 c14 (2)) := hz
  clear hz
  clear HJ
  have HJ : Hid ((fun W' : World => W'.cell? ⟨gx, 0, none⟩ = some (.bool s3) ∧ W'.cell? ⟨gx, 1, none⟩ = some (.slice p3 m3 m3) ∧ W'.cell? ⟨gy, 0, none⟩ = some (.bool s5) ∧ W'.cell? ⟨gy, 1, none⟩ = some (.slice p5 m5 m5) ∧ W'.cell? ⟨gz, 0, none⟩ = some (.bool s8) ∧ W'.cell? ⟨gz, 1, none⟩ = some (.slice p8 m8 m8)) v14) := ⟨Xx.out.c0, Xx.out.c1, Xy.out.c0, Xy.out.c1, Xz.out.c0, Xz.out.c1⟩
  refine hK _ _ HJ.out ?_
  clear hK
  refine wpJ_one (i := 23) (by kernel_rfl) rfl (by kernel_rfl) (fun KJ hK => ?_)
  go_simp
  refine (zsame Zz.out Zf.out).mono ?_
  rintro e v15 ⟨rfl, hb15⟩
  rw [decide_eq_true rfl]
  have Yx : Hid (Box v15 gx (.bool s3) (.slice p3 m3 m3)) := Xx.out.below hb15
  clear Xx
  have Xx := Yx
  clear Yx
  have Yy : Hid (Box v15 gy (.bool s5) (.slice p5 m5 m5)) := Xy.out.below hb15
  clear Xy
  have Xy := Yy
  clear Yy
  have Yz : Hid (Box v15 gz (.bool s8) (.slice p8 m8 m8)) := Xz.out.below hb15
  clear Xz
  have Xz := Yz
  clear Yz
  have HT' : Hid (Tab v15) := HT.out.below hb15
  clear HT
  have HT := HT'
  clear HT'
  have Zx' : Hid (ZN v15 s3 p3 m3 m3 (-4)) := Zx.out.below hb15
  clear Zx
  have Zx := Zx'
  clear Zx'
  have Zy' : Hid (ZN v15 s5 p5 m5 m5 (4)) := Zy.out.below hb15
  clear Zy
  have Zy := Zy'
  clear Zy'
  have Zz' : Hid (ZN v15 s8 p8 m8 m8 (2)) := Zz.out.below hb15
  clear Zz
  have Zz := Zz'
  clear Zz'
  have Zd' : Hid (ZN v15 s10 p10 m10 c10 (-4)) := Zd.out.below hb15
  clear Zd
  have Zd := Zd'
  clear Zd'
  have Ze' : Hid (ZN v15 s12 p12 m12 c12 (4)) := Ze.out.below hb15
  clear Ze
  have Ze := Ze'
  clear Ze'
  have Zf' : Hid (ZN v15 s14 p14 m14 c14 (2)) := Zf.out.below hb15
  clear Zf
  have Zf := Zf'
  clear Zf'
  have hbw' := Below.on hbw hb15
  clear hbw
  have hbw := hbw'
  clear hbw'
  clear hb15
  clear HJ
  have HJ : Hid ((fun W' : World => W'.cell? ⟨gx, 0, none⟩ = some (.bool s3) ∧ W'.cell? ⟨gx, 1, none⟩ = some (.slice p3 m3 m3) ∧ W'.cell? ⟨gy, 0, none⟩ = some (.bool s5) ∧ W'.cell? ⟨gy, 1, none⟩ = some (.slice p5 m5 m5) ∧ W'.cell? ⟨gz, 0, none⟩ = some (.bool s8) ∧ W'.cell? ⟨gz, 1, none⟩ = some (.slice p8 m8 m8)) v15) := ⟨Xx.out.c0, Xx.out.c1, Xy.out.c0, Xy.out.c1, Xz.out.c0, Xz.out.c1⟩
  refine hK _ _ HJ.out ?_
  clear hK
  refine wpJ_take (i := 24) (v := ?v19x24) rfl (by kernel_rfl) (by kernel_rfl) (by kernel_rfl) (fun _ _ _ h => h) (by kernel_rfl) ?hy19x24 HJ.out ?rest19x24
  case hy19x24 => (intro W' hJ; obtain ⟨j0, j1, j2, j3, j4, j5⟩ := hJ; go_simp; first | done | with_reducible rfl)
  refine wpJ_take (i := 25) (v := ?v20x25) rfl (by kernel_rfl) (by kernel_rfl) (by kernel_rfl) (fun _ _ _ h => h) (by kernel_rfl) ?hy20x25 HJ.out ?rest20x25
  case hy20x25 => (intro W' hJ; obtain ⟨j0, j1, j2, j3, j4, j5⟩ := hJ; go_simp; first | done | with_reducible rfl)
  refine wpJ_done (by kernel_rfl) ?_ _
  clear HJ
  go_wp2_with fail
  go_ret
  exact ⟨rfl, hbw⟩
end Go.Proofs.YteoihhgaipplfaaDoor

