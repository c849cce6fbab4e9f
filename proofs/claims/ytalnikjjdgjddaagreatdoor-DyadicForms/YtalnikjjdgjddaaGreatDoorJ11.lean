import Derived.Test.YtalnikjjdgjddaaGreatDoorJ10
import Derived.Test.YtalnikjjdgjddaaGreatDoorJ9
import Derived.Test.YtalnikjjdgjddaaGreatDoorJ8
namespace Go.Proofs.YtalnikjjdgjddaaGreatDoor
open Go.RowKit Go.Shelf
set_option maxRecDepth 20000
set_option maxHeartbeats 0
structure RAddR (w : World) (g N M : Nat) (xs ys : List Nat) (i cy : Nat) (ss : List Nat) (wr : World) : Prop where
  bel : Below g w wr
  own : wr.ownsRow g 115 1 (.slice (some ⟨g, 0, none⟩) i N) i (cellsV ss)
  len : ss.length = i
  dig : Dig B32 ss
  car : cy ≤ 1
  fin : i ≤ M + 1
  last : i = M + 1 → cy = 0
  sum : valB B32 ss + B32 ^ i * cy = valB B32 (xs.take i) + valB B32 (ys.take i)
theorem radd_step {xs ys ss : List Nat} {i cy x y lo hh : Nat} (h : valB B32 ss + B32 ^ i * cy = valB B32 (xs.take i) + valB B32 (ys.take i)) (hl : ss.length = i) (ex : x = xs.getD i 0) (ey : y = ys.getD i 0) (hs : cy + x + y = lo + B32 * hh) :
    valB B32 (ss ++ [lo]) + B32 ^ (i + 1) * hh = valB B32 (xs.take (i + 1)) + valB B32 (ys.take (i + 1)) := by
  rw [valB_snoc, hl, valB_take_any _ xs i, valB_take_any _ ys i, ← ex, ← ey, Nat.pow_succ]
  have e1 : B32 ^ i * (cy + x + y) = B32 ^ i * (lo + B32 * hh) := by rw [hs]
  rw [Nat.mul_add, Nat.mul_add, Nat.mul_add, ← Nat.mul_assoc] at e1
  omega
theorem RAddR.at_ {w : World} {g N M : Nat} {xs ys : List Nat} {i cy : Nat} {ss : List Nat} {wr : World} (h : RAddR w g N M xs ys i cy ss wr) : At32 wr (some ⟨g, 0, none⟩) i N ss := by
  rcases h.own.2 with ⟨h', _⟩ | ⟨g', cap', cur, h', hbase, hgc, hcap', hmx, hsz, htake⟩
  · simp at h'
  · simp only [Value.slice.injEq, Option.some.injEq, Addr.mk.injEq, and_true, true_and] at h'
    obtain ⟨rfl, rfl⟩ := h'
    refine ⟨h.len, hcap', hmx, h.dig, .inr ⟨g, 0, rfl, fun jj hj => ?_⟩⟩
    rw [Nat.zero_add, cell_of_row wr g jj _ _ _ hgc]
    have e1 := cellsV_get ss jj (by rw [h.len]; exact hj)
    rw [← htake, Nat.mul_one, List.getElem?_take, if_pos hj] at e1
    rw [← Array.getElem?_toList]; exact e1
theorem one_cell (w : World) (x : Nat) : ∀ (j : Nat) (u : Value), [V x][j]? = some u → (w.alloc (.cells #[V x] 115)).cell? ((⟨w.heap.size, 0, none⟩ : Addr).add j) = some u := by
  intro j u h
  have hb : Blk32 (w.alloc (.cells #[V x] 115)) w.heap.size [x] := heap_alloc_new w _
  have hj : j < 1 := by
    have := (List.getElem?_eq_some_iff.1 h).1
    simpa using this
  have hadd : (⟨w.heap.size, 0, none⟩ : Addr).add j = ⟨w.heap.size, j, none⟩ := by unfold Addr.add; split <;> simp_all
  rw [hadd, hb.cell j (by simpa using hj)]
  obtain rfl : j = 0 := by omega
  simpa using h

theorem radd_any {p q : Option Addr} {n m c d : Nat} {xs ys : List Nat} {a b : Nat} {w : World} (h : At32 w p n c xs) (k : At32 w q m d ys) (hx : Nf B32 xs a) (hy : Nf B32 ys b) (hn : n ≤ 4398046511104) (hm : m ≤ 4398046511104) :
    Calls Tryz.prog 57 #[.slice p n c, .slice q m d] w fun e w' => ∃ p' m' zs, e = .returned (.slice p' m' m') ∧ At32 w' p' m' m' zs ∧ Nf B32 zs (a + b) ∧ Below w.heap.size w w' := by
  obtain ⟨i0, hi, hz0, hz1, hz2⟩ := info_parts Tryz.infoU32
  have HX : Hid (Nf B32 xs a) := hx
  have HY : Hid (Nf B32 ys b) := hy
  have HLX : Hid (xs.length = n) := h.len
  have HLY : Hid (ys.length = m) := k.len
  have hcap := h.cap; have hbig := h.big; have kcap := k.cap; have kbig := k.big
  unfold maxLen at hbig kbig
  obtain ⟨M, hM⟩ : ∃ M, M = max n m := ⟨_, rfl⟩
  have hM1 : n ≤ M := by omega
  have hM2 : m ≤ M := by omega
  have HM : Hid (M = n ∨ M = m) := by show _ ∨ _; omega
  have hMi : max (n : Int) (m : Int) = (M : Int) := by omega
  have hMb : M ≤ 4398046511104 := by omega
  clear hx hy hM
  go_enter Tryz.func57, Tryz.ntmps57
  go_wp2_with (at_make; refine wpList_make_own _ rfl _ _ 66 rfl w.heap.size 115 i0 (.int .u32 0) 1 Tryz.underlying66 hi hz0 hz1 _ _ _ (M + 1) rfl rfl (by omega) (by rw [hz2]; omega) (by unfold maxLen; omega) (Nat.le_refl _) ?_; intro w1 hown hgrow)
  have hb1 : Below w.heap.size w w1 := (Below.refl _ _).grown hgrow (Nat.le_refl _) (fun k hk => by simp at hk)
  have HO : Hid (RAddR w w.heap.size (M + 1) M xs ys 0 0 [] w1) := ⟨hb1, hown, rfl, Dig.nil _, by omega, by omega, fun _ => rfl, by simp [valB]⟩
  clear hown hgrow hb1 hMi
  obtain ⟨N, hN⟩ : ∃ N, N = M + 1 := ⟨_, rfl⟩
  rw [← hN] at HO ⊢
  have HN : Hid (N = M + 1) := hN
  clear hN
  -- the loop
  go_loopg [5, 6, 7] (M + 1) (fun gk sv cv iv wr => ∃ (i cy : Nat) (ss : List Nat), i + gk = M + 1 ∧ iv = .int .i64 i ∧ cv = U cy ∧ sv = .slice (some ⟨w.heap.size, 0, none⟩) i N ∧ Hid (RAddR w w.heap.size N M xs ys i cy ss wr))
  case atStart => exact ⟨0, 0, [], by omega, rfl, rfl, rfl, HO⟩
  case round =>
    obtain ⟨i, cy, ss, hig, rfl, rfl, rfl, HR⟩ := hrel
    have hcy := HR.out.car
    by_cases hall : ¬ i < n ∧ ¬ i < m ∧ cy = 0
    · obtain ⟨ha, hb, rfl⟩ := hall
      have A32 := HR.out.at_
      have hv := HR.out.sum
      rw [Nat.mul_zero, Nat.add_zero, List.take_of_length_le (by rw [HLX.out]; omega), List.take_of_length_le (by rw [HLY.out]; omega), HX.out.val, HY.out.val] at hv
      have HNF : Hid (Nf B32 (trimL ss) (a + b)) := by
        have := Nf.trim HR.out.dig
        rw [hv] at this; exact this
      have hle := trimL_length_le ss
      have HLE : Hid ((trimL ss).length ≤ M + 1) := by have := HR.out.len; have := HR.out.fin; show _ ≤ _; omega
      have hib := HR.out.fin
      have hbx := HR.out.bel
      have hc0 : ¬ (0 : Int) < ((0 : Nat) : Int) := by omega
      clear hv hle
      go_wp2_with fail
      refine (rnorm_any A32 (by omega)).mono ?_
      rintro e w5 ⟨g5, rfl, hg5, hblk5, hb5⟩
      have hd5 := HNF.out.dig
      generalize trimL ss = zs at *
      go_wp2_with fail
      go_ret
      exact ⟨_, _, zs, rfl, hblk5.at_ hd5 rfl (by have := HLE.out; unfold maxLen; omega), HNF.out, Below.on hbx hb5⟩
    · obtain ⟨x, hx⟩ : ∃ x, x = xs.getD i 0 := ⟨_, rfl⟩
      obtain ⟨y, hy⟩ : ∃ y, y = ys.getD i 0 := ⟨_, rfl⟩
      have hxb : x < B32 := by rw [hx]; exact HX.out.dig.getD B32_pos i
      have hyb : y < B32 := by rw [hy]; exact HY.out.dig.getD B32_pos i
      have HXE : Hid (x = xs.getD i 0) := hx
      have HYE : Hid (y = ys.getD i 0) := hy
      clear hx hy
      cases gk with
      | zero =>
        exfalso
        have h1 := HR.out.last (by omega)
        exact hall ⟨by omega, by omega, h1⟩
      | succ gg =>
        by_cases ha : i < n
        · by_cases hb : i < m
          · have hin : i < n := ha
            obtain ⟨g, off, rfl, hc⟩ := h.cells.resolve_left (by omega)
            have hcx0 : w.cell? ⟨g, off + i, none⟩ = some (V x) := by rw [HXE.out]; exact hc i hin
            have hcx : wr.cell? ⟨g, off + i, none⟩ = some (V x) := (HR.out.bel.cell (p := ⟨g, off + i, none⟩) (World.block_lt_of_cell? w _ hcx0)).trans hcx0
            have hxw : IntKind.u64.wrap (x : Int) = (x : Int) := wrap_mod _ _ (by rw [B32_eq] at hxb; omega)
            clear hc hcx0
            have him : i < m := hb
            obtain ⟨g2, off2, rfl, hc2⟩ := k.cells.resolve_left (by omega)
            have hcy0 : w.cell? ⟨g2, off2 + i, none⟩ = some (V y) := by rw [HYE.out]; exact hc2 i him
            have hcy1 : wr.cell? ⟨g2, off2 + i, none⟩ = some (V y) := (HR.out.bel.cell (p := ⟨g2, off2 + i, none⟩) (World.block_lt_of_cell? w _ hcy0)).trans hcy0
            have hyw : IntKind.u64.wrap (y : Int) = (y : Int) := wrap_mod _ _ (by rw [B32_eq] at hyb; omega)
            clear hc2 hcy0
            obtain ⟨t1, et1⟩ : ∃ t1, t1 = cy + x := ⟨_, rfl⟩
            obtain ⟨t2, et2⟩ : ∃ t2, t2 = t1 + y := ⟨_, rfl⟩
            rw [B32_eq] at hxb hyb
            have f1 : IntKind.u64.wrap ((cy : Int) + (x : Int)) = (t1 : Int) := wrap_mod _ _ (by omega)
            have f2 : IntKind.u64.wrap ((t1 : Int) + (y : Int)) = (t2 : Int) := wrap_mod _ _ (by omega)
            have ht2 : t2 < 18446744073709551616 := by omega
            obtain ⟨lo, elo⟩ : ∃ lo, lo = t2 % B32 := ⟨_, rfl⟩
            obtain ⟨hh, ehh⟩ : ∃ hh, hh = t2 / B32 := ⟨_, rfl⟩
            have hlob : lo < B32 := by rw [elo]; exact Nat.mod_lt _ B32_pos
            have hhb : hh ≤ 1 := by rw [ehh, B32_eq]; omega
            have f4 : bits .and .u64 (t2 : Int) 4294967295 = (lo : Int) := by rw [elo, B32_eq]; exact and32 t2 ht2
            have f5 : (t2 : Int) / 4294967296 = (hh : Int) := by rw [ehh, B32_eq]; exact div32 t2
            have f6 : IntKind.u32.wrap (lo : Int) = (lo : Int) := wrap32 lo hlob
            have HSUM : Hid (cy + x + y = lo + B32 * hh) := by
              have := Nat.mod_add_div t2 B32
              rw [← elo, ← ehh] at this
              show _ = _; omega
            have HLAST : Hid (i + 1 = M + 1 → hh = 0) := by
              intro hl
              exfalso; omega
            have HI1 : Hid (i + 1 ≤ M + 1) := by
              have h1 := HR.out.fin; have h2 := HR.out.last
              show _ ≤ _; omega
            have HOA : Hid ((wr.alloc (.cells #[V lo] 115)).ownsRow w.heap.size 115 1 (.slice (some ⟨w.heap.size, 0, none⟩) i N) i (cellsV ss)) := HR.out.own.alloc _
            have hsp : i + 1 ≤ N := by have := HI1.out; have := HN.out; omega
            clear et1 et2 elo ehh hxb hyb
            go_wp2_with (at_builtin; refine wpList_append_fits _ rfl (.tmp 53) (.tmp 57) 66 rfl w.heap.size 115 i0 1 Tryz.underlying66 hi hz1 w.heap.size i N (cellsV ss) rfl HOA.out ⟨wr.heap.size, 0, none⟩ 1 1 [V lo] rfl rfl (one_cell wr lo) (by intro u hu; simp at hu; subst hu; rfl) hsp ?_; intro w3 hw3 hgr3)
            have HR3 : Hid (RAddR w w.heap.size N M xs ys (i + 1) hh (ss ++ [lo]) w3) := by
              have hR := HR.out
              refine ⟨(hR.bel.alloc hR.bel.size _).grown hgr3 (by have := hR.bel.size; simp; omega) (fun q hq => by simp at hq; omega), ?_, by simp [hR.len], hR.dig.append (Dig.cons hlob (Dig.nil _)), hhb, HI1.out, HLAST.out, radd_step hR.sum hR.len HXE.out HYE.out HSUM.out⟩
              have e0 : cellsV (ss ++ [lo]) = cellsV ss ++ [V lo] := by unfold cellsV; rw [List.map_append]; rfl
              rw [e0]; exact hw3
            clear hw3 hgr3
            go_roundg gg
            case measure => omega
            case rel => exact ⟨i + 1, hh, ss ++ [lo], by omega, by go_num, rfl, rfl, HR3⟩
          · have hin : i < n := ha
            obtain ⟨g, off, rfl, hc⟩ := h.cells.resolve_left (by omega)
            have hcx0 : w.cell? ⟨g, off + i, none⟩ = some (V x) := by rw [HXE.out]; exact hc i hin
            have hcx : wr.cell? ⟨g, off + i, none⟩ = some (V x) := (HR.out.bel.cell (p := ⟨g, off + i, none⟩) (World.block_lt_of_cell? w _ hcx0)).trans hcx0
            have hxw : IntKind.u64.wrap (x : Int) = (x : Int) := wrap_mod _ _ (by rw [B32_eq] at hxb; omega)
            clear hc hcx0
            have hy0 : y = 0 := by rw [HYE.out, List.getD_eq_getElem?_getD, List.getElem?_eq_none (by rw [HLY.out]; omega)]; rfl
            obtain ⟨t1, et1⟩ : ∃ t1, t1 = cy + x := ⟨_, rfl⟩
            obtain ⟨t2, et2⟩ : ∃ t2, t2 = t1 + y := ⟨_, rfl⟩
            rw [B32_eq] at hxb hyb
            have f1 : IntKind.u64.wrap ((cy : Int) + (x : Int)) = (t1 : Int) := wrap_mod _ _ (by omega)
            obtain rfl : t2 = t1 := by omega
            have ht2 : t2 < 18446744073709551616 := by omega
            obtain ⟨lo, elo⟩ : ∃ lo, lo = t2 % B32 := ⟨_, rfl⟩
            obtain ⟨hh, ehh⟩ : ∃ hh, hh = t2 / B32 := ⟨_, rfl⟩
            have hlob : lo < B32 := by rw [elo]; exact Nat.mod_lt _ B32_pos
            have hhb : hh ≤ 1 := by rw [ehh, B32_eq]; omega
            have f4 : bits .and .u64 (t2 : Int) 4294967295 = (lo : Int) := by rw [elo, B32_eq]; exact and32 t2 ht2
            have f5 : (t2 : Int) / 4294967296 = (hh : Int) := by rw [ehh, B32_eq]; exact div32 t2
            have f6 : IntKind.u32.wrap (lo : Int) = (lo : Int) := wrap32 lo hlob
            have HSUM : Hid (cy + x + y = lo + B32 * hh) := by
              have := Nat.mod_add_div t2 B32
              rw [← elo, ← ehh] at this
              show _ = _; omega
            have HLAST : Hid (i + 1 = M + 1 → hh = 0) := by
              intro hl
              exfalso; omega
            have HI1 : Hid (i + 1 ≤ M + 1) := by
              have h1 := HR.out.fin; have h2 := HR.out.last
              show _ ≤ _; omega
            have HOA : Hid ((wr.alloc (.cells #[V lo] 115)).ownsRow w.heap.size 115 1 (.slice (some ⟨w.heap.size, 0, none⟩) i N) i (cellsV ss)) := HR.out.own.alloc _
            have hsp : i + 1 ≤ N := by have := HI1.out; have := HN.out; omega
            clear et1 et2 elo ehh hxb hyb
            go_wp2_with (at_builtin; refine wpList_append_fits _ rfl (.tmp 53) (.tmp 57) 66 rfl w.heap.size 115 i0 1 Tryz.underlying66 hi hz1 w.heap.size i N (cellsV ss) rfl HOA.out ⟨wr.heap.size, 0, none⟩ 1 1 [V lo] rfl rfl (one_cell wr lo) (by intro u hu; simp at hu; subst hu; rfl) hsp ?_; intro w3 hw3 hgr3)
            have HR3 : Hid (RAddR w w.heap.size N M xs ys (i + 1) hh (ss ++ [lo]) w3) := by
              have hR := HR.out
              refine ⟨(hR.bel.alloc hR.bel.size _).grown hgr3 (by have := hR.bel.size; simp; omega) (fun q hq => by simp at hq; omega), ?_, by simp [hR.len], hR.dig.append (Dig.cons hlob (Dig.nil _)), hhb, HI1.out, HLAST.out, radd_step hR.sum hR.len HXE.out HYE.out HSUM.out⟩
              have e0 : cellsV (ss ++ [lo]) = cellsV ss ++ [V lo] := by unfold cellsV; rw [List.map_append]; rfl
              rw [e0]; exact hw3
            clear hw3 hgr3
            go_roundg gg
            case measure => omega
            case rel => exact ⟨i + 1, hh, ss ++ [lo], by omega, by go_num, rfl, rfl, HR3⟩
        · by_cases hb : i < m
          · have him : i < m := hb
            obtain ⟨g2, off2, rfl, hc2⟩ := k.cells.resolve_left (by omega)
            have hcy0 : w.cell? ⟨g2, off2 + i, none⟩ = some (V y) := by rw [HYE.out]; exact hc2 i him
            have hcy1 : wr.cell? ⟨g2, off2 + i, none⟩ = some (V y) := (HR.out.bel.cell (p := ⟨g2, off2 + i, none⟩) (World.block_lt_of_cell? w _ hcy0)).trans hcy0
            have hyw : IntKind.u64.wrap (y : Int) = (y : Int) := wrap_mod _ _ (by rw [B32_eq] at hyb; omega)
            clear hc2 hcy0
            have hx0 : x = 0 := by rw [HXE.out, List.getD_eq_getElem?_getD, List.getElem?_eq_none (by rw [HLX.out]; omega)]; rfl
            obtain ⟨t1, et1⟩ : ∃ t1, t1 = cy + x := ⟨_, rfl⟩
            obtain ⟨t2, et2⟩ : ∃ t2, t2 = t1 + y := ⟨_, rfl⟩
            rw [B32_eq] at hxb hyb
            obtain rfl : t1 = cy := by omega
            have f2 : IntKind.u64.wrap ((t1 : Int) + (y : Int)) = (t2 : Int) := wrap_mod _ _ (by omega)
            have ht2 : t2 < 18446744073709551616 := by omega
            obtain ⟨lo, elo⟩ : ∃ lo, lo = t2 % B32 := ⟨_, rfl⟩
            obtain ⟨hh, ehh⟩ : ∃ hh, hh = t2 / B32 := ⟨_, rfl⟩
            have hlob : lo < B32 := by rw [elo]; exact Nat.mod_lt _ B32_pos
            have hhb : hh ≤ 1 := by rw [ehh, B32_eq]; omega
            have f4 : bits .and .u64 (t2 : Int) 4294967295 = (lo : Int) := by rw [elo, B32_eq]; exact and32 t2 ht2
            have f5 : (t2 : Int) / 4294967296 = (hh : Int) := by rw [ehh, B32_eq]; exact div32 t2
            have f6 : IntKind.u32.wrap (lo : Int) = (lo : Int) := wrap32 lo hlob
            have HSUM : Hid (t1 + x + y = lo + B32 * hh) := by
              have := Nat.mod_add_div t2 B32
              rw [← elo, ← ehh] at this
              show _ = _; omega
            have HLAST : Hid (i + 1 = M + 1 → hh = 0) := by
              intro hl
              exfalso; omega
            have HI1 : Hid (i + 1 ≤ M + 1) := by
              have h1 := HR.out.fin; have h2 := HR.out.last
              show _ ≤ _; omega
            have HOA : Hid ((wr.alloc (.cells #[V lo] 115)).ownsRow w.heap.size 115 1 (.slice (some ⟨w.heap.size, 0, none⟩) i N) i (cellsV ss)) := HR.out.own.alloc _
            have hsp : i + 1 ≤ N := by have := HI1.out; have := HN.out; omega
            clear et1 et2 elo ehh hxb hyb
            go_wp2_with (at_builtin; refine wpList_append_fits _ rfl (.tmp 53) (.tmp 57) 66 rfl w.heap.size 115 i0 1 Tryz.underlying66 hi hz1 w.heap.size i N (cellsV ss) rfl HOA.out ⟨wr.heap.size, 0, none⟩ 1 1 [V lo] rfl rfl (one_cell wr lo) (by intro u hu; simp at hu; subst hu; rfl) hsp ?_; intro w3 hw3 hgr3)
            have HR3 : Hid (RAddR w w.heap.size N M xs ys (i + 1) hh (ss ++ [lo]) w3) := by
              have hR := HR.out
              refine ⟨(hR.bel.alloc hR.bel.size _).grown hgr3 (by have := hR.bel.size; simp; omega) (fun q hq => by simp at hq; omega), ?_, by simp [hR.len], hR.dig.append (Dig.cons hlob (Dig.nil _)), hhb, HI1.out, HLAST.out, radd_step hR.sum hR.len HXE.out HYE.out HSUM.out⟩
              have e0 : cellsV (ss ++ [lo]) = cellsV ss ++ [V lo] := by unfold cellsV; rw [List.map_append]; rfl
              rw [e0]; exact hw3
            clear hw3 hgr3
            go_roundg gg
            case measure => omega
            case rel => exact ⟨i + 1, hh, ss ++ [lo], by omega, by go_num, rfl, rfl, HR3⟩
          · have hcp : 0 < cy := by
              rcases Nat.eq_zero_or_pos cy with e | e
              · exact absurd ⟨ha, hb, e⟩ hall
              · exact e
            have hcp' : (0 : Int) < (cy : Int) := by omega
            have hx0 : x = 0 := by rw [HXE.out, List.getD_eq_getElem?_getD, List.getElem?_eq_none (by rw [HLX.out]; omega)]; rfl
            have hy0 : y = 0 := by rw [HYE.out, List.getD_eq_getElem?_getD, List.getElem?_eq_none (by rw [HLY.out]; omega)]; rfl
            obtain ⟨t1, et1⟩ : ∃ t1, t1 = cy + x := ⟨_, rfl⟩
            obtain ⟨t2, et2⟩ : ∃ t2, t2 = t1 + y := ⟨_, rfl⟩
            rw [B32_eq] at hxb hyb
            obtain rfl : t1 = cy := by omega
            obtain rfl : t2 = t1 := by omega
            have ht2 : t2 < 18446744073709551616 := by omega
            obtain ⟨lo, elo⟩ : ∃ lo, lo = t2 % B32 := ⟨_, rfl⟩
            obtain ⟨hh, ehh⟩ : ∃ hh, hh = t2 / B32 := ⟨_, rfl⟩
            have hlob : lo < B32 := by rw [elo]; exact Nat.mod_lt _ B32_pos
            have hhb : hh ≤ 1 := by rw [ehh, B32_eq]; omega
            have f4 : bits .and .u64 (t2 : Int) 4294967295 = (lo : Int) := by rw [elo, B32_eq]; exact and32 t2 ht2
            have f5 : (t2 : Int) / 4294967296 = (hh : Int) := by rw [ehh, B32_eq]; exact div32 t2
            have f6 : IntKind.u32.wrap (lo : Int) = (lo : Int) := wrap32 lo hlob
            have HSUM : Hid (t2 + x + y = lo + B32 * hh) := by
              have := Nat.mod_add_div t2 B32
              rw [← elo, ← ehh] at this
              show _ = _; omega
            have HLAST : Hid (i + 1 = M + 1 → hh = 0) := by
              intro hl
              rw [ehh, B32_eq]; omega
            have HI1 : Hid (i + 1 ≤ M + 1) := by
              have h1 := HR.out.fin; have h2 := HR.out.last
              show _ ≤ _; omega
            have HOA : Hid ((wr.alloc (.cells #[V lo] 115)).ownsRow w.heap.size 115 1 (.slice (some ⟨w.heap.size, 0, none⟩) i N) i (cellsV ss)) := HR.out.own.alloc _
            have hsp : i + 1 ≤ N := by have := HI1.out; have := HN.out; omega
            clear et1 et2 elo ehh hxb hyb
            go_wp2_with (at_builtin; refine wpList_append_fits _ rfl (.tmp 53) (.tmp 57) 66 rfl w.heap.size 115 i0 1 Tryz.underlying66 hi hz1 w.heap.size i N (cellsV ss) rfl HOA.out ⟨wr.heap.size, 0, none⟩ 1 1 [V lo] rfl rfl (one_cell wr lo) (by intro u hu; simp at hu; subst hu; rfl) hsp ?_; intro w3 hw3 hgr3)
            have HR3 : Hid (RAddR w w.heap.size N M xs ys (i + 1) hh (ss ++ [lo]) w3) := by
              have hR := HR.out
              refine ⟨(hR.bel.alloc hR.bel.size _).grown hgr3 (by have := hR.bel.size; simp; omega) (fun q hq => by simp at hq; omega), ?_, by simp [hR.len], hR.dig.append (Dig.cons hlob (Dig.nil _)), hhb, HI1.out, HLAST.out, radd_step hR.sum hR.len HXE.out HYE.out HSUM.out⟩
              have e0 : cellsV (ss ++ [lo]) = cellsV ss ++ [V lo] := by unfold cellsV; rw [List.map_append]; rfl
              rw [e0]; exact hw3
            clear hw3 hgr3
            go_roundg gg
            case measure => omega
            case rel => exact ⟨i + 1, hh, ss ++ [lo], by omega, by go_num, rfl, rfl, HR3⟩
def sgnI (z : Int) : Int := if z < 0 then -1 else if z = 0 then 0 else 1
theorem of_full (z : Int) (w : World) (h0 : -9223372036854775808 ≤ z) (h1 : z ≤ 9223372036854775807) :
    Calls Tryz.prog 41 #[.int .i64 z] w fun e w' => ∃ v, e = .returned v ∧ AnsZ w.heap.size w' v z ∧ Below w.heap.size w w' := by
  by_cases hz : z < 0
  · have hd : decide (z < 0) = true := decide_eq_true hz
    obtain ⟨u, hu⟩ : ∃ u : Nat, (u : Int) = 18446744073709551616 + z := ⟨(18446744073709551616 + z).toNat, by omega⟩
    obtain ⟨v, hv⟩ : ∃ v : Nat, v = z.natAbs := ⟨_, rfl⟩
    have hvb : v < B64 := by rw [B64_eq]; omega
    have hw : IntKind.u64.wrap z = (u : Int) := wrap_u _ _ (by omega)
    have hw2 : IntKind.u64.wrap (-(u : Int)) = (v : Int) := wrap_u _ _ (by omega)
    have HV : Hid (v = z.natAbs) := hv
    have HVZ : Hid (z < 0) := hz
    clear hu hv h0 h1 hz
    go_enter Tryz.func41, Tryz.ntmps41
    go_wp2_with fail
    have B0 : Box (w.alloc (.cells #[.bool false, .slice none 0 0] 25)) w.heap.size (.bool false) (.slice none 0 0) := ⟨by go_simp, by go_simp, by go_simp, by go_simp⟩
    refine (word_any v _ hvb).mono ?_
    rintro e w1 ⟨p1, m1, z1, rfl, ho, hn, hm, hb⟩
    obtain ⟨c0, c1, f0, f1⟩ := B0.below hb
    have hbw := Below.on (below1 w _) hb
    have HOW : Hid (Own (w.heap.size + 1) w1 p1 m1 z1) := by have := ho; simp at this; exact this
    have HN : Hid (Nf B64 z1 v) := hn
    clear B0 ho hn hb hvb hw hw2
    go_wp2_with fail
    refine bodyPost_ret (v := ZV true p1 m1 m1) (by rw [results_cell1 rfl]; go_simp) rfl ⟨_, rfl, ⟨p1, m1, z1, by rw [decide_eq_true HVZ.out], ?_, by rw [← HV.out]; exact HN.out, by omega⟩, ?_⟩
    · exact ((HOW.out.setOld _ _ _ (by omega)).setOld _ _ _ (by omega)).mono (by omega)
    · exact bSet (bSet hbw _ _ _ (Nat.le_refl _)) _ _ _ (Nat.le_refl _)
  · have hd : decide (z < 0) = false := decide_eq_false hz
    obtain ⟨v, rfl⟩ := Int.eq_ofNat_of_zero_le (by omega : 0 ≤ z)
    have hvb : v < B64 := by rw [B64_eq]; omega
    have hw : IntKind.u64.wrap (v : Int) = (v : Int) := wrap_u _ _ (by omega)
    clear h0 h1 hz
    go_enter Tryz.func41, Tryz.ntmps41
    go_wp2_with fail
    have B0 : Box (w.alloc (.cells #[.bool false, .slice none 0 0] 25)) w.heap.size (.bool false) (.slice none 0 0) := ⟨by go_simp, by go_simp, by go_simp, by go_simp⟩
    refine (word_any v _ hvb).mono ?_
    rintro e w1 ⟨p1, m1, z1, rfl, ho, hn, hm, hb⟩
    obtain ⟨c0, c1, f0, f1⟩ := B0.below hb
    have hbw := Below.on (below1 w _) hb
    have HOW : Hid (Own (w.heap.size + 1) w1 p1 m1 z1) := by have := ho; simp at this; exact this
    have HN : Hid (Nf B64 z1 v) := hn
    clear B0 ho hn hb hvb hw
    go_wp2_with fail
    refine bodyPost_ret (v := ZV false p1 m1 m1) (by rw [results_cell1 rfl]; go_simp) rfl ⟨_, rfl, ⟨p1, m1, z1, ?_, ?_, HN.out, by omega⟩, ?_⟩
    · rw [decide_eq_false (Int.not_lt.2 (Int.natCast_nonneg v))]
    · exact ((HOW.out.setOld _ _ _ (by omega)).setOld _ _ _ (by omega)).mono (by omega)
    · exact bSet (bSet hbw _ _ _ (Nat.le_refl _)) _ _ _ (Nat.le_refl _)
theorem bits_zero (a : Nat) : bitsN a = 0 ↔ a = 0 := by
  have h1 := lt_pow_bits a 0
  constructor
  · intro e
    have := h1.2 (by omega)
    omega
  · rintro rfl
    have := h1.1 (by omega)
    omega
theorem sign_any {p : Option Addr} {m c : Nat} {xs : List Nat} {a : Nat} {w : World} (s : Bool) (h : Num w p m c xs a) :
    Calls Tryz.prog 12 #[ZV s p m c] w fun e w' => e = .returned (.int .i64 (sgnI (iv s a))) ∧ Below w.heap.size w w' := by
  have H : Hid (Num w p m c xs a) := h
  have hm := h.le
  obtain ⟨bb, hbb⟩ : ∃ bb, bb = bitsN a := ⟨_, rfl⟩
  have HBB : Hid (bb = bitsN a) := hbb
  clear h hbb
  by_cases ha : a = 0
  · have hb0 : bb = 0 := by rw [HBB.out]; exact (bits_zero a).2 ha
    have hr : sgnI (iv s a) = 0 := by rw [ha]; cases s <;> rfl
    rw [hr]
    clear hr ha
    go_enter Tryz.func12, Tryz.ntmps12
    go_wp2_with fail
    refine (bits_any (H.out.at_.alloc _) (by omega)).mono ?_
    rintro e w1 ⟨rfl, hw⟩
    rw [H.out.nf.val, ← HBB.out, hb0]
    have hbw : Below w.heap.size w w1 := by rw [hw]; exact below1 w _
    clear hw hb0
    go_wp2_with fail
    go_ret
    exact ⟨rfl, hbw⟩
  · have hb0 : ((bb : Int) == 0) = false := by have := mt (bits_zero a).1 ha; rw [← HBB.out] at this; simpa using this
    obtain ⟨sg, hsg⟩ : ∃ sg, sg = sgnI (iv s a) := ⟨_, rfl⟩
    rw [← hsg]
    have HSG : Hid (sg = if s = true then -1 else 1) := by
      show _ = _
      rw [hsg]; unfold sgnI
      cases s
      · rw [iv_f, if_neg (by omega), if_neg (by omega), if_neg (by simp)]
      · rw [iv_t, if_pos (by omega), if_pos rfl]
    clear hsg ha
    cases s
    · go_enter Tryz.func12, Tryz.ntmps12
      go_wp2_with fail
      refine (bits_any (H.out.at_.alloc _) (by omega)).mono ?_
      rintro e w1 ⟨rfl, hw⟩
      rw [H.out.nf.val, ← HBB.out]
      have hbw : Below w.heap.size w w1 := by rw [hw]; exact below1 w _
      have B0 : Box (w.alloc (.cells #[.bool false, .slice p m c] 25)) w.heap.size (.bool false) (.slice p m c) := ⟨by go_simp, by go_simp, by go_simp, by go_simp⟩
      obtain ⟨c0, c1, f0, f1⟩ := B0
      rw [← hw] at c0 c1 f0 f1
      clear hw
      go_wp2_with fail
      go_ret
      exact ⟨by rw [HSG.out]; rfl, hbw⟩
    · go_enter Tryz.func12, Tryz.ntmps12
      go_wp2_with fail
      refine (bits_any (H.out.at_.alloc _) (by omega)).mono ?_
      rintro e w1 ⟨rfl, hw⟩
      rw [H.out.nf.val, ← HBB.out]
      have hbw : Below w.heap.size w w1 := by rw [hw]; exact below1 w _
      have B0 : Box (w.alloc (.cells #[.bool true, .slice p m c] 25)) w.heap.size (.bool true) (.slice p m c) := ⟨by go_simp, by go_simp, by go_simp, by go_simp⟩
      obtain ⟨c0, c1, f0, f1⟩ := B0
      rw [← hw] at c0 c1 f0 f1
      clear hw
      go_wp2_with fail
      go_ret
      exact ⟨by rw [HSG.out]; rfl, hbw⟩
theorem Nf.trim_self {b : Nat} {zs : List Nat} {a : Nat} (h : Nf b zs a) : trimL zs = zs := trimL_of_Top h.top
theorem Box.put {W : World} {g : Nat} {v0 v1 : Value} (h : Box W g v0 v1) (u0 u1 : Value) : Box ((W.setCell ⟨g, 0, none⟩ u0).setCell ⟨g, 1, none⟩ u1) g u0 u1 := by
  obtain ⟨c0, c1, f0, f1⟩ := h
  exact ⟨by go_simp, by go_simp, by go_simp, by go_simp⟩
theorem rof_any (z : Int) (w : World) (h0 : -9223372036854775808 ≤ z) (h1 : z ≤ 9223372036854775807) :
    Calls Tryz.prog 35 #[.int .i64 z] w fun e w' => ∃ g m zs, e = .returned (.agg #[.bool (decide (z < 0)), .slice (some ⟨g, 0, none⟩) m m]) ∧ At32 w' (some ⟨g, 0, none⟩) m m zs ∧ Nf B32 zs z.natAbs ∧ m ≤ 3 ∧ Below w.heap.size w w' := by
  by_cases hz : z < 0
  · have hd : decide (z < 0) = true := decide_eq_true hz
    obtain ⟨v, hv⟩ : ∃ v : Nat, z = -((v : Int) + 1) := ⟨(-(z + 1)).toNat, by omega⟩
    have hvb : v < B64 := by rw [B64_eq]; omega
    have hV1 : v < 9223372036854775808 := by omega
    subst hv
    have e1 : -((v : Int) + 1) + 1 = -(v : Int) := by omega
    have e2 : wrap64 (-(v : Int)) = -(v : Int) := by simp only [wrap64]; omega
    have e3 : wrap64 (-((v : Int) + 1) + 1) = -(v : Int) := by simp only [wrap64]; omega
    have e4 : IntKind.u64.wrap (v : Int) = (v : Int) := wrap_u _ _ (by omega)
    have e5 : wrap64 (v : Int) = (v : Int) := by simp only [wrap64]; omega
    have HV : Hid (v < B64 ∧ v < 9223372036854775808) := ⟨hvb, hV1⟩
    clear h0 h1 hz hvb hV1
    go_enter Tryz.func35, Tryz.ntmps35
    go_wp2_with fail
    obtain ⟨W0, hW0⟩ : ∃ W0, W0 = (w.alloc (.cells #[.bool false, .slice none 0 0] 68)) := ⟨_, rfl⟩
    have Xr : Hid (Box W0 (w.heap.size) (.bool false) (.slice none 0 0)) := by rw [hW0]; exact ⟨by go_simp, by go_simp, by go_simp, by go_simp⟩
    have hb0 : Below w.heap.size w W0 := by rw [hW0]; exact below1 w _
    rw [← hW0]
    clear hW0
    have hbw : Below w.heap.size w w := Below.refl _ _
    obtain ⟨gr, hgr⟩ : ∃ g, g = w.heap.size := ⟨_, rfl⟩
    have HGr : Hid (w.heap.size ≤ gr) := by rw [hgr]; show _ ≤ _; omega
    rw [← hgr] at Xr
    try rw [← hgr]
    clear hgr
    replace hbw := Below.on hbw hb0
    clear hb0
    clear e1 e2 e3 e4 e5
    refine (rword v HV.out.1 W0).mono ?_
    rintro e w1 ⟨g1, z1, rfl, hl1, hA1, hN1, hb1⟩
    replace Xr : Hid _ := Xr.out.below hb1
    replace hbw := Below.on hbw hb1
    clear hb1
    have A1 : Hid (At32 w1 (some ⟨g1, 0, none⟩) z1.length z1.length z1) := hA1
    have N1 : Hid (Nf B32 z1 v ∧ z1.length ≤ 2) := ⟨hN1, hl1⟩
    clear hA1 hN1 hl1
    go_wp2_with fail
    rw [show Value.int IntKind.u64 1 = U 1 from rfl]
    refine (rword 1 (by decide) w1).mono ?_
    rintro e w2 ⟨g2, z2, rfl, hl2, hA2, hN2, hb2⟩
    replace Xr : Hid _ := Xr.out.below hb2
    replace A1 : Hid _ := A1.out.below hb2
    replace hbw := Below.on hbw hb2
    clear hb2
    have A2 : Hid (At32 w2 (some ⟨g2, 0, none⟩) z2.length z2.length z2) := hA2
    have N2 : Hid (Nf B32 z2 1 ∧ z2.length ≤ 2) := ⟨hN2, hl2⟩
    clear hA2 hN2 hl2
    go_wp2_with fail
    have l1 := N1.out.2
    have l2 := N2.out.2
    refine (radd_any A1.out A2.out N1.out.1 N2.out.1 (by omega) (by omega)).mono ?_
    rintro e w3 ⟨p3, m3, z3, rfl, hA3, hN3, hb3⟩
    clear l1 l2
    replace Xr : Hid _ := Xr.out.below hb3
    replace A1 : Hid _ := A1.out.below hb3
    replace A2 : Hid _ := A2.out.below hb3
    replace hbw := Below.on hbw hb3
    clear hb3
    have A3 : Hid (At32 w3 p3 m3 m3 z3) := hA3
    have N3 : Hid (Nf B32 z3 (v + 1)) := hN3
    have hm3 : m3 ≤ 3 := by rw [← hA3.len]; exact (hN3.len_le B32_one).2 (by have := HV.out.2; have h9 : B32 ^ 3 = 79228162514264337593543950336 := (by decide); rw [h9]; omega)
    have HM3 : Hid (m3 ≤ 3) := hm3
    clear hA3 hN3 hm3
    go_wp2_with fail
    have HRL : Hid (gr < w3.heap.size) := Xr.out.lt
    refine (mk04 true A3.out (by have := HM3.out; omega)).mono ?_
    rintro e w4 ⟨g4, m4, hm4, rfl, hg4, hA4, hb4⟩
    replace Xr : Hid _ := Xr.out.below hb4
    replace A1 : Hid _ := A1.out.below hb4
    replace A2 : Hid _ := A2.out.below hb4
    replace A3 : Hid _ := A3.out.below hb4
    replace hbw := Below.on hbw hb4
    clear hb4
    rw [N3.out.trim_self] at hm4 hA4
    have hm40 : 0 < m4 := by rw [hm4]; rcases Nat.eq_zero_or_pos z3.length with e | e; (have := (N3.out.zero_iff B32_one).1 (List.eq_nil_of_length_eq_zero e); omega); exact e
    rw [decide_eq_true hm40]
    have H4 : Hid (m4 = z3.length ∧ gr < g4) := ⟨hm4, Nat.lt_of_lt_of_le HRL.out hg4⟩
    clear hm4 hm40 hg4
    have A4 : Hid (At32 w4 (some ⟨g4, 0, none⟩) m4 m4 z3) := hA4
    clear hA4
    obtain ⟨cr0, cr1, fr0, fr1⟩ := Xr.out
    have hner := Xr.out.lt
    go_wp2_with fail
    refine bodyPost_ret (v := .agg #[.bool true, .slice (some ⟨g4, 0, none⟩) m4 m4]) (by rw [results_cell1 rfl]; go_simp) rfl ⟨g4, m4, z3, ?_, ?_, ?_, ?_, ?_⟩
    · rw [decide_eq_true (by omega)]
    · have := H4.out.2
      exact (A4.out.setOther _ _ _ (by omega)).setOther _ _ _ (by omega)
    · rw [show (-((v : Int) + 1)).natAbs = v + 1 from by omega]; exact N3.out
    · rw [H4.out.1, A3.out.len]; exact HM3.out
    · exact bSet (bSet hbw _ _ _ HGr.out) _ _ _ HGr.out
  · have hd : decide (z < 0) = false := decide_eq_false hz
    obtain ⟨v, rfl⟩ := Int.eq_ofNat_of_zero_le (by omega : 0 ≤ z)
    have hvb : v < B64 := by rw [B64_eq]; omega
    have e4 : IntKind.u64.wrap (v : Int) = (v : Int) := wrap_u _ _ (by omega)
    have HV : Hid (v < B64) := hvb
    clear h0 h1 hz hvb
    go_enter Tryz.func35, Tryz.ntmps35
    go_wp2_with fail
    obtain ⟨W0, hW0⟩ : ∃ W0, W0 = (w.alloc (.cells #[.bool false, .slice none 0 0] 68)) := ⟨_, rfl⟩
    have Xr : Hid (Box W0 (w.heap.size) (.bool false) (.slice none 0 0)) := by rw [hW0]; exact ⟨by go_simp, by go_simp, by go_simp, by go_simp⟩
    have hb0 : Below w.heap.size w W0 := by rw [hW0]; exact below1 w _
    rw [← hW0]
    clear hW0
    have hbw : Below w.heap.size w w := Below.refl _ _
    obtain ⟨gr, hgr⟩ : ∃ g, g = w.heap.size := ⟨_, rfl⟩
    have HGr : Hid (w.heap.size ≤ gr) := by rw [hgr]; show _ ≤ _; omega
    rw [← hgr] at Xr
    try rw [← hgr]
    clear hgr
    replace hbw := Below.on hbw hb0
    clear hb0
    refine (rword v HV.out W0).mono ?_
    rintro e w1 ⟨g1, z1, rfl, hl1, hA1, hN1, hb1⟩
    replace Xr : Hid _ := Xr.out.below hb1
    replace hbw := Below.on hbw hb1
    clear hb1
    have A1 : Hid (At32 w1 (some ⟨g1, 0, none⟩) z1.length z1.length z1) := hA1
    have N1 : Hid (Nf B32 z1 v ∧ z1.length ≤ 2) := ⟨hN1, hl1⟩
    clear hA1 hN1 hl1
    go_wp2_with fail
    have HRL : Hid (gr < w1.heap.size) := Xr.out.lt
    refine (mk04 false A1.out (by have := N1.out.2; omega)).mono ?_
    rintro e w4 ⟨g4, m4, hm4, rfl, hg4, hA4, hb4⟩
    replace Xr : Hid _ := Xr.out.below hb4
    replace A1 : Hid _ := A1.out.below hb4
    replace hbw := Below.on hbw hb4
    clear hb4
    rw [N1.out.1.trim_self] at hm4 hA4
    rw [Bool.false_and]
    have H4 : Hid (m4 = z1.length ∧ gr < g4) := ⟨hm4, Nat.lt_of_lt_of_le HRL.out hg4⟩
    clear hm4 hg4
    have A4 : Hid (At32 w4 (some ⟨g4, 0, none⟩) m4 m4 z1) := hA4
    clear hA4
    obtain ⟨cr0, cr1, fr0, fr1⟩ := Xr.out
    have hner := Xr.out.lt
    go_wp2_with fail
    refine bodyPost_ret (v := .agg #[.bool false, .slice (some ⟨g4, 0, none⟩) m4 m4]) (by rw [results_cell1 rfl]; go_simp) rfl ⟨g4, m4, z1, ?_, ?_, N1.out.1, ?_, ?_⟩
    · rw [decide_eq_false (Int.not_lt.2 (Int.natCast_nonneg v))]
    · have := H4.out.2
      exact (A4.out.setOther _ _ _ (by omega)).setOther _ _ _ (by omega)
    · rw [H4.out.1]; have := N1.out.2; omega
    · exact bSet (bSet hbw _ _ _ HGr.out) _ _ _ HGr.out
structure ZN (w : World) (s : Bool) (p : Option Addr) (m c : Nat) (z : Int) : Prop where
  ex : ∃ xs, Num w p m c xs z.natAbs
  sg : s = decide (z < 0)
theorem ZN.below {w w' : World} {s : Bool} {p : Option Addr} {m c : Nat} {z : Int} (h : ZN w s p m c z) (hb : Below w.heap.size w w') : ZN w' s p m c z := by
  obtain ⟨xs, hx⟩ := h.ex
  exact ⟨⟨xs, hx.below hb⟩, h.sg⟩
theorem ZN.iv {w : World} {s : Bool} {p : Option Addr} {m c : Nat} {z : Int} (h : ZN w s p m c z) : iv s z.natAbs = z := by rw [h.sg]; exact iv_abs z
theorem ZN.pos {w : World} {s : Bool} {p : Option Addr} {m c : Nat} {z : Int} (h : ZN w s p m c z) : s = true → 0 < z.natAbs := by rw [h.sg]; exact sgn_pos z
theorem ZN.lim {w : World} {s : Bool} {p : Option Addr} {m c : Nat} {z : Int} (h : ZN w s p m c z) : z.natAbs < LIM := by
  obtain ⟨xs, hx⟩ := h.ex
  exact hx.lim
theorem ZN.le {w : World} {s : Bool} {p : Option Addr} {m c : Nat} {z : Int} (h : ZN w s p m c z) : m ≤ 8192 := by
  obtain ⟨xs, hx⟩ := h.ex
  exact hx.le
theorem ZN.cast {w : World} {s : Bool} {p : Option Addr} {m c : Nat} {z z' : Int} (h : ZN w s p m c z) (e : z = z') : ZN w s p m c z' := e ▸ h
theorem ZN.of {w : World} {p : Option Addr} {m c : Nat} {xs : List Nat} {a : Nat} {t : Bool} (h : Num w p m c xs a) (ht : t = true → 0 < a) : ZN w t p m c (Go.Proofs.YtalnikjjdgjddaaGreatDoor.iv t a) :=
  ⟨⟨xs, by rw [iv_natAbs]; exact h⟩, by
    cases t
    · rw [iv_f]; exact (decide_eq_false (Int.not_lt.2 (Int.natCast_nonneg _))).symm
    · rw [iv_t]; have := ht rfl; exact (decide_eq_true (by omega)).symm⟩
def Got (w' : World) (e : Ending) (z : Int) : Prop := ∃ s p m, e = .returned (.tuple #[ZV s p m m, .int .i64 0]) ∧ ZN w' s p m m z
theorem AnsZ.zn {B : Nat} {w' : World} {v : Value} {z : Int} (h : AnsZ B w' v z) : ∃ s p m, v = ZV s p m m ∧ ZN w' s p m m z := by
  obtain ⟨p, m, zs, rfl, ho, hn, hm⟩ := h
  exact ⟨_, p, m, rfl, ⟨zs, Num.of ho hn hm⟩, rfl⟩
theorem AnsI.zn {B : Nat} {w' : World} {e : Ending} {z : Int} (h : AnsI B w' e z) : (z.natAbs < LIM ∧ Got w' e z) ∨ (LIM ≤ z.natAbs ∧ e = .returned (.tuple #[ZV false none 0 0, .int .i64 5])) := by
  rcases h with ⟨hl, p, m, zs, rfl, ho, hn, hm⟩ | ⟨hl, rfl⟩
  · exact .inl ⟨hl, _, p, m, rfl, ⟨zs, Num.of ho hn hm⟩, rfl⟩
  · exact .inr ⟨hl, rfl⟩
theorem AnsI.got {B : Nat} {w' : World} {e : Ending} {z : Int} (h : AnsI B w' e z) (hz : z.natAbs < LIM) : Got w' e z := by
  rcases h.zn with ⟨_, k⟩ | ⟨k, _⟩
  · exact k
  · omega
variable {w : World} {s t : Bool} {p q : Option Addr} {m c n d : Nat} {x y : Int}
theorem zadd (h : ZN w s p m c x) (k : ZN w t q n d y) : Calls Tryz.prog 38 #[ZV s p m c, ZV t q n d] w fun e w' => AnsI w.heap.size w' e (x + y) ∧ Below w.heap.size w w' := by
  obtain ⟨xs, hx⟩ := h.ex
  obtain ⟨ys, hy⟩ := k.ex
  have := nadd_any s t hx hy h.pos k.pos
  rwa [h.iv, k.iv] at this
theorem zcmp (h : ZN w s p m c x) (k : ZN w t q n d y) : Calls Tryz.prog 40 #[ZV s p m c, ZV t q n d] w fun e w' => e = .returned (.tuple #[.int .i64 (cmpI x y), .int .i64 0]) ∧ Below w.heap.size w w' := by
  obtain ⟨xs, hx⟩ := h.ex
  obtain ⟨ys, hy⟩ := k.ex
  have := ncmp_any s t hx h.pos hy k.pos
  rwa [h.iv, k.iv] at this
theorem zshl (h : ZN w s p m c x) (k : Nat) (hk : k ≤ 9223372036854775807) : Calls Tryz.prog 59 #[ZV s p m c, .int .i64 k] w fun e w' => AnsI w.heap.size w' e (x * 2 ^ k) ∧ Below w.heap.size w w' := by
  obtain ⟨xs, hx⟩ := h.ex
  have := nshl_any s hx h.pos k hk
  rwa [show Go.Proofs.YtalnikjjdgjddaaGreatDoor.iv s (2 ^ k * x.natAbs) = x * 2 ^ k from by
    have e := h.iv
    rw [show Go.Proofs.YtalnikjjdgjddaaGreatDoor.iv s (2 ^ k * x.natAbs) = Go.Proofs.YtalnikjjdgjddaaGreatDoor.iv s x.natAbs * 2 ^ k from by cases s <;> simp [Go.Proofs.YtalnikjjdgjddaaGreatDoor.iv, Int.mul_comm, Int.neg_mul], e]] at this
theorem zsign (h : ZN w s p m c x) : Calls Tryz.prog 12 #[ZV s p m c] w fun e w' => e = .returned (.int .i64 (sgnI x)) ∧ Below w.heap.size w w' := by
  obtain ⟨xs, hx⟩ := h.ex
  have := sign_any s hx
  rwa [h.iv] at this
theorem zform (h : ZN w s p m c x) : Calls Tryz.prog 11 #[ZV s p m c] w fun e w' => e = .returned (.bool true) ∧ Below w.heap.size w w' := by
  obtain ⟨xs, hx⟩ := h.ex
  exact numform_t s hx h.pos
theorem zof (z : Int) (w : World) (h0 : -9223372036854775808 ≤ z) (h1 : z ≤ 9223372036854775807) : Calls Tryz.prog 41 #[.int .i64 z] w fun e w' => ∃ s p m, e = .returned (ZV s p m m) ∧ ZN w' s p m m z ∧ Below w.heap.size w w' :=
  (of_full z w h0 h1).mono fun e w' ⟨v, he, hv, hb⟩ => by
    obtain ⟨s', p', m', rfl, hz⟩ := hv.zn
    exact ⟨s', p', m', he, hz, hb⟩
structure B3q (W : World) (g : Nat) (v0 v1 v2 : Value) : Prop where
  c0 : W.cell? ⟨g, 0, none⟩ = some v0
  c1 : W.cell? ⟨g, 1, none⟩ = some v1
  c2 : W.cell? ⟨g, 2, none⟩ = some v2
  f0 : W.frozen? ⟨g, 0, none⟩ = false
  f1 : W.frozen? ⟨g, 1, none⟩ = false
  f2 : W.frozen? ⟨g, 2, none⟩ = false
theorem B3q.lt {w : World} {g : Nat} {a b c : Value} (h : B3q w g a b c) : g < w.heap.size := World.block_lt_of_cell? w _ h.c0
theorem B3q.below {W W' : World} {g : Nat} {v0 v1 v2 : Value} (h : B3q W g v0 v1 v2) (hb : Below W.heap.size W W') : B3q W' g v0 v1 v2 := by
  have hl : g < W.heap.size := World.block_lt_of_cell? W _ h.c0
  exact ⟨(hb.cell (p := ⟨g, 0, none⟩) hl).trans h.c0, (hb.cell (p := ⟨g, 1, none⟩) hl).trans h.c1, (hb.cell (p := ⟨g, 2, none⟩) hl).trans h.c2, (hb.frozen (p := ⟨g, 0, none⟩) hl).trans h.f0, (hb.frozen (p := ⟨g, 1, none⟩) hl).trans h.f1, (hb.frozen (p := ⟨g, 2, none⟩) hl).trans h.f2⟩
theorem B3q.new (w : World) (ty : TypeId) (v0 v1 v2 : Value) : B3q (w.alloc (.cells #[v0, v1, v2] ty)) w.heap.size v0 v1 v2 := ⟨by go_simp, by go_simp, by go_simp, by go_simp, by go_simp, by go_simp⟩
abbrev DV (s : Bool) (p : Option Addr) (m c : Nat) (e : Int) : Value := .agg #[.bool s, .slice p m c, .int .i64 e]
def DFm (z e : Int) : Prop := (z = 0 ∧ e = 0) ∨ (z % 2 = 1 ∧ -1048576 ≤ e ∧ e ≤ 1048576)
structure DN (w : World) (s : Bool) (p : Option Addr) (m c : Nat) (e z : Int) : Prop where
  zn : ZN w s p m c z
  fm : DFm z e
theorem DN.below {w w' : World} {s : Bool} {p : Option Addr} {m c : Nat} {e z : Int} (h : DN w s p m c e z) (hb : Below w.heap.size w w') : DN w' s p m c e z := ⟨h.zn.below hb, h.fm⟩
def dv (z e : Int) : Int := z * ((2 ^ (e + 4194304).toNat : Nat) : Int)
theorem pow_pos_int (k : Nat) : ((2 ^ k : Nat) : Int) ≠ 0 := by
  have : 0 < 2 ^ k := Nat.pow_pos (by omega)
  intro h
  have := Int.ofNat.inj h
  omega
theorem dpow_split {a b : Nat} (h : a ≤ b) : ((2 ^ b : Nat) : Int) = ((2 ^ (b - a) : Nat) : Int) * ((2 ^ a : Nat) : Int) := by
  have : 2 ^ b = 2 ^ (b - a) * 2 ^ a := by rw [← Nat.pow_add, Nat.sub_add_cancel h]
  rw [this, Int.natCast_mul]
theorem dv_zero (e : Int) : dv 0 e = 0 := by unfold dv; rw [Int.zero_mul]
theorem dv_eq_zero {z e : Int} (h : dv z e = 0) : z = 0 := by
  unfold dv at h
  exact (Int.mul_eq_zero.1 h).resolve_right (pow_pos_int _)
theorem odd_ne {z z' : Int} {a b : Nat} (hz : z % 2 = 1) (h : z * ((2 ^ a : Nat) : Int) = z' * ((2 ^ b : Nat) : Int)) : b ≤ a := by
  refine Nat.le_of_not_lt fun hlt => ?_
  rw [dpow_split (Nat.le_of_lt hlt), ← Int.mul_assoc] at h
  have h1 := Int.eq_of_mul_eq_mul_right (pow_pos_int a) h
  obtain ⟨k, hk⟩ : ∃ k, b - a = k + 1 := ⟨b - a - 1, by omega⟩
  rw [hk, Nat.pow_succ, Int.natCast_mul] at h1
  have h2 : z = (z' * ((2 ^ k : Nat) : Int)) * 2 := by rw [h1, Int.mul_assoc]; rfl
  generalize z' * ((2 ^ k : Nat) : Int) = q at h2
  omega
theorem dv_inj {z e z' e' : Int} (h : DFm z e) (h' : DFm z' e') (hv : dv z e = dv z' e') : z = z' ∧ e = e' := by
  rcases h with ⟨rfl, rfl⟩ | ⟨h1, h2, h3⟩
  · rw [dv_zero] at hv
    have := dv_eq_zero hv.symm
    subst this
    rcases h' with ⟨_, rfl⟩ | ⟨k1, _⟩
    · exact ⟨rfl, rfl⟩
    · omega
  · rcases h' with ⟨rfl, rfl⟩ | ⟨k1, k2, k3⟩
    · rw [dv_zero] at hv
      have := dv_eq_zero hv
      subst this
      omega
    · unfold dv at hv
      have a1 := odd_ne h1 hv
      have a2 := odd_ne k1 hv.symm
      have he : e = e' := by omega
      subst he
      exact ⟨Int.eq_of_mul_eq_mul_right (pow_pos_int _) hv, rfl⟩
theorem dv_shift {z e f : Int} (h : f ≤ e) (hf : -4194304 ≤ f) : dv z e = dv (z * ((2 ^ (e - f).toNat : Nat) : Int)) f := by
  unfold dv
  rw [dpow_split (a := (f + 4194304).toNat) (b := (e + 4194304).toNat) (by omega), ← Int.mul_assoc, show (e + 4194304).toNat - (f + 4194304).toNat = (e - f).toNat from by omega]
theorem dv_add (x y e : Int) : dv (x + y) e = dv x e + dv y e := by unfold dv; rw [Int.add_mul]
theorem dv_neg (x e : Int) : dv (-x) e = - dv x e := by unfold dv; rw [Int.neg_mul]
theorem own_set3 {B b : Nat} {w' : World} {p : Option Addr} {m : Nat} {zs : List Nat} (h : Own B w' p m zs) {r : Nat} (hr : r < B) (hb : b ≤ B) (v0 v1 v2 : Value) : Own b (((w'.setCell ⟨r, 0, none⟩ v0).setCell ⟨r, 1, none⟩ v1).setCell ⟨r, 2, none⟩ v2) p m zs :=
  (((h.setOld _ _ _ hr).setOld _ _ _ hr).setOld _ _ _ hr).mono hb
def AnsD (B : Nat) (w' : World) (v : Value) (z e : Int) : Prop :=
  ∃ p m zs, v = DV (decide (z < 0)) p m m e ∧ Own B w' p m zs ∧ Nf B64 zs z.natAbs ∧ m ≤ 8192
theorem AnsD.dn {B : Nat} {w' : World} {v : Value} {z e : Int} (h : AnsD B w' v z e) (hf : DFm z e) : ∃ s p m, v = DV s p m m e ∧ DN w' s p m m e z := by
  obtain ⟨p, m, zs, rfl, ho, hn, hm⟩ := h
  exact ⟨_, p, m, rfl, ⟨⟨zs, Num.of ho hn hm⟩, rfl⟩, hf⟩
theorem tz_split {z : Int} {k : Nat} (hz : z ≠ 0) (h : TzO z.natAbs k) : fl (decide (z < 0)) z.natAbs (2 ^ k) % 2 = 1 ∧ fl (decide (z < 0)) z.natAbs (2 ^ k) * ((2 ^ k : Nat) : Int) = z ∧ (fl (decide (z < 0)) z.natAbs (2 ^ k)).natAbs ≤ z.natAbs := by
  rcases h with ⟨h0, _⟩ | ⟨_, h1, h2⟩
  · omega
  · have hd := Nat.div_add_mod z.natAbs (2 ^ k)
    rw [h1, Nat.add_zero, Nat.mul_comm] at hd
    have hle := Nat.div_le_self z.natAbs (2 ^ k)
    unfold fl
    rw [h1]
    generalize z.natAbs / 2 ^ k = q at *
    have hc : (q : Int) * ((2 ^ k : Nat) : Int) = (z.natAbs : Int) := by rw [← Int.natCast_mul, hd]
    by_cases hs : z < 0
    · rw [decide_eq_true hs]
      simp only [ne_eq, not_true_eq_false, decide_false, Bool.and_false, Bool.toNat_false, Nat.add_zero, iv, if_true]
      refine ⟨by omega, by rw [Int.neg_mul, hc]; omega, by omega⟩
    · rw [decide_eq_false hs]
      simp only [ne_eq, not_true_eq_false, decide_false, Bool.and_false, Bool.toNat_false, Nat.add_zero, iv]
      refine ⟨?_, ?_, ?_⟩
      · show (q : Int) % 2 = 1; omega
      · show (q : Int) * _ = z; rw [hc]; omega
      · show (q : Int).natAbs ≤ _; omega
end Go.Proofs.YtalnikjjdgjddaaGreatDoor
namespace Go.Proofs.YtalnikjjdgjddaaGreatDoor
open Go.RowKit
set_option maxRecDepth 20000
set_option maxHeartbeats 0
variable {P : Program} {md : Region.Mode} {ops : Array Oper} {Q : Exit → Act → World → Prop} {J : World → Prop}
variable {P : Program} {md : Region.Mode} {ops : Array Oper} {Q : Exit → Act → World → Prop} {J : World → Prop}
end Go.Proofs.YtalnikjjdgjddaaGreatDoor
namespace Go.Proofs.YtalnikjjdgjddaaGreatDoor
open Go.RowKit Go.Shelf
set_option maxRecDepth 20000
set_option maxHeartbeats 0
theorem dform_z {p : Option Addr} {m c : Nat} {w : World} {z e : Int} {s : Bool} (h : ZN w s p m c z) (hz : z = 0) (he : e = 0) :
    Calls Tryz.prog 7 #[DV s p m c e] w fun en w' => en = .returned (.bool true) ∧ Below w.heap.size w w' := by
  subst hz
  subst he
  have H : Hid (ZN w s p m c 0) := h
  clear h
  go_enter Tryz.func7, Tryz.ntmps7
  go_wp2_with fail
  obtain ⟨W0, hW0⟩ : ∃ W0, W0 = (w.alloc (.cells #[.bool s, .slice p m c, .int .i64 0] 27)) := ⟨_, rfl⟩
  have Xd : Hid (B3q W0 (w.heap.size) (.bool s) (.slice p m c) (.int .i64 0)) := by rw [hW0]; exact ⟨by go_simp, by go_simp, by go_simp, by go_simp, by go_simp, by go_simp⟩
  have hb0 : Below w.heap.size w W0 := by rw [hW0]; exact below1 w _
  rw [← hW0]
  clear hW0
  have hbw : Below w.heap.size w w := Below.refl _ _
  obtain ⟨gd, hgd⟩ : ∃ g, g = w.heap.size := ⟨_, rfl⟩
  have HGd : Hid (w.heap.size ≤ gd) := by rw [hgd]; show _ ≤ _; omega
  rw [← hgd] at Xd
  try rw [← hgd]
  clear hgd
  replace hbw := Below.on hbw hb0
  clear hb0
  refine (zform (H.out.below hbw)).mono ?_
  rintro e v1 ⟨rfl, hb1⟩
  replace Xd : Hid _ := Xd.out.below hb1
  replace hbw := Below.on hbw hb1
  clear hb1
  obtain ⟨cd0, cd1, cd2, fd0, fd1, fd2⟩ := Xd.out
  have hned : gd < v1.heap.size := World.block_lt_of_cell? v1 _ cd0
  go_wp2_with fail
  clear cd0 cd1 cd2 fd0 fd1 fd2 hned
  refine (zsign (H.out.below hbw)).mono ?_
  rintro e v2 ⟨rfl, hb2⟩
  rw [show sgnI 0 = 0 from rfl]
  replace Xd : Hid _ := Xd.out.below hb2
  replace hbw := Below.on hbw hb2
  clear hb2
  obtain ⟨cd0, cd1, cd2, fd0, fd1, fd2⟩ := Xd.out
  have hned : gd < v2.heap.size := World.block_lt_of_cell? v2 _ cd0
  go_wp2_with fail
  clear cd0 cd1 cd2 fd0 fd1 fd2 hned
  go_ret
  exact ⟨rfl, hbw⟩
theorem dform_o {p : Option Addr} {m c : Nat} {w : World} {z e : Int} {s : Bool} (h : ZN w s p m c z) (hz : z % 2 = 1) (he : -1048576 ≤ e ∧ e ≤ 1048576) :
    Calls Tryz.prog 7 #[DV s p m c e] w fun en w' => en = .returned (.bool true) ∧ Below w.heap.size w w' := by
  have H : Hid (ZN w s p m c z) := h
  have HZ : Hid (z % 2 = 1) := hz
  have h1 : (-1048576 : Int) ≤ e := he.1
  have h2 : e ≤ 1048576 := he.2
  have h3 : ¬ e < -1048576 := by omega
  have h4 : ¬ 1048576 < e := by omega
  clear hz he
  clear h
  go_enter Tryz.func7, Tryz.ntmps7
  go_wp2_with fail
  obtain ⟨W0, hW0⟩ : ∃ W0, W0 = (w.alloc (.cells #[.bool s, .slice p m c, .int .i64 e] 27)) := ⟨_, rfl⟩
  have Xd : Hid (B3q W0 (w.heap.size) (.bool s) (.slice p m c) (.int .i64 e)) := by rw [hW0]; exact ⟨by go_simp, by go_simp, by go_simp, by go_simp, by go_simp, by go_simp⟩
  have hb0 : Below w.heap.size w W0 := by rw [hW0]; exact below1 w _
  rw [← hW0]
  clear hW0
  have hbw : Below w.heap.size w w := Below.refl _ _
  obtain ⟨gd, hgd⟩ : ∃ g, g = w.heap.size := ⟨_, rfl⟩
  have HGd : Hid (w.heap.size ≤ gd) := by rw [hgd]; show _ ≤ _; omega
  rw [← hgd] at Xd
  try rw [← hgd]
  clear hgd
  replace hbw := Below.on hbw hb0
  clear hb0
  refine (zform (H.out.below hbw)).mono ?_
  rintro e v1 ⟨rfl, hb1⟩
  replace Xd : Hid _ := Xd.out.below hb1
  replace hbw := Below.on hbw hb1
  clear hb1
  obtain ⟨cd0, cd1, cd2, fd0, fd1, fd2⟩ := Xd.out
  have hned : gd < v1.heap.size := World.block_lt_of_cell? v1 _ cd0
  go_wp2_with fail
  clear cd0 cd1 cd2 fd0 fd1 fd2 hned
  refine (zsign (H.out.below hbw)).mono ?_
  rintro e v2 ⟨rfl, hb2⟩
  obtain ⟨sg, hsg⟩ : ∃ sg, sg = sgnI (z) := ⟨_, rfl⟩
  rw [← hsg]
  have hs0 : (sg == 0) = false := by rw [hsg]; have := HZ.out; unfold sgnI; split <;> (try split) <;> simp <;> omega
  clear hsg
  replace Xd : Hid _ := Xd.out.below hb2
  replace hbw := Below.on hbw hb2
  clear hb2
  obtain ⟨cd0, cd1, cd2, fd0, fd1, fd2⟩ := Xd.out
  have hned : gd < v2.heap.size := World.block_lt_of_cell? v2 _ cd0
  go_wp2_with fail
  clear cd0 cd1 cd2 fd0 fd1 fd2 hned
  obtain ⟨xs, hX⟩ := (H.out.below hbw).ex
  refine (bit_int hX.at_ (by have := hX.le; omega) 0 (by decide)).mono ?_
  rintro e2 v3 ⟨rfl, hw⟩
  obtain rfl := hw.symm
  clear hw
  rw [show bitO (valB B64 xs) 0 = true from by unfold bitO; rw [if_neg (by omega), hX.nf.val]; simp; have := HZ.out; omega]
  clear hX
  obtain ⟨cd0, cd1, cd2, fd0, fd1, fd2⟩ := Xd.out
  have hned : gd < v2.heap.size := World.block_lt_of_cell? v2 _ cd0
  go_wp2_with fail
  clear cd0 cd1 cd2 fd0 fd1 fd2 hned
  go_ret
  exact ⟨rfl, hbw⟩
theorem dform_t {p : Option Addr} {m c : Nat} {w : World} {z e : Int} {s : Bool} (h : DN w s p m c e z) :
    Calls Tryz.prog 7 #[DV s p m c e] w fun en w' => en = .returned (.bool true) ∧ Below w.heap.size w w' := by
  rcases h.fm with ⟨h1, h2⟩ | ⟨h1, h2⟩
  · exact dform_z h.zn h1 h2
  · exact dform_o h.zn h1 h2
theorem moved_ok (e n : Int) (w : World) (he : -1048576 ≤ e ∧ e ≤ 2097152) (hs : -1048576 ≤ e + n ∧ e + n ≤ 1048576) :
    Calls Tryz.prog 14 #[.int .i64 e, .int .i64 n] w fun en w' => en = .returned (.tuple #[.int .i64 (e + n), .int .i64 0]) ∧ w' = w := by
  have f1 : wrap64 (-1048576 - e) = -1048576 - e := by simp only [wrap64]; omega
  have f2 : wrap64 (1048576 - e) = 1048576 - e := by simp only [wrap64]; omega
  have f3 : wrap64 (e + n) = e + n := by simp only [wrap64]; omega
  have f4 : ¬ n < -1048576 - e := by omega
  have f5 : ¬ 1048576 - e < n := by omega
  clear he hs
  go_enter Tryz.func14, Tryz.ntmps14
  go_wp2_with fail
  go_ret2
  exact ⟨rfl, rfl⟩
theorem make_z {p : Option Addr} {m c : Nat} {w : World} {z e : Int} {s : Bool} (h : ZN w s p m c z) (he : -1048576 ≤ e ∧ e ≤ 524288) (hT : Tab w) (hz : z = 0) :
    Calls Tryz.prog 4 #[ZV s p m c, .int .i64 e] w fun en w' => ∃ v zo eo, en = .returned (.tuple #[v, .int .i64 0]) ∧ AnsD w.heap.size w' v zo eo ∧ DFm zo eo ∧ dv zo eo = dv z e ∧ zo.natAbs ≤ z.natAbs ∧ (zo = 0 ∨ (e ≤ eo ∧ eo ≤ e + 524288)) ∧ Below w.heap.size w w' := by
  have H : Hid (ZN w s p m c z) := h
  have HE : Hid (-1048576 ≤ e ∧ e ≤ 524288) := he
  have TB : Hid (Tab w) := hT
  subst hz
  clear h he hT
  go_enter Tryz.func4, Tryz.ntmps4
  go_wp2_with fail
  obtain ⟨W0, hW0⟩ : ∃ W0, W0 = ((w.alloc (.cells #[.bool s, .slice p m c] 25)).alloc (.cells #[.bool false, .slice none 0 0, .int .i64 0] 27)) := ⟨_, rfl⟩
  have Xm : Hid (Box W0 (w.heap.size) (.bool s) (.slice p m c)) := by rw [hW0]; exact ⟨by go_simp, by go_simp, by go_simp, by go_simp⟩
  have Xr : Hid (B3q W0 (w.heap.size + 1) (.bool false) (.slice none 0 0) (.int .i64 0)) := by rw [hW0]; exact ⟨by go_simp, by go_simp, by go_simp, by go_simp, by go_simp, by go_simp⟩
  have hb0 : Below w.heap.size w W0 := by rw [hW0]; exact below2 w _ _
  rw [← hW0]
  clear hW0
  have hbw : Below w.heap.size w w := Below.refl _ _
  obtain ⟨gr, hgr⟩ : ∃ g, g = w.heap.size + 1 := ⟨_, rfl⟩
  have HGr : Hid (w.heap.size ≤ gr) := by rw [hgr]; show _ ≤ _; omega
  rw [← hgr] at Xr
  try rw [← hgr]
  obtain ⟨gm, hgm⟩ : ∃ g, g = w.heap.size := ⟨_, rfl⟩
  have HGm : Hid (w.heap.size ≤ gm) := by rw [hgm]; show _ ≤ _; omega
  rw [← hgm] at Xm
  try rw [← hgm]
  have HGD : Hid (gm ≠ gr ∧ gr ≠ gm) := by rw [hgm, hgr]; exact ⟨by omega, by omega⟩
  clear hgm hgr
  replace hbw := Below.on hbw hb0
  clear hb0
  refine (zform (H.out.below hbw)).mono ?_
  rintro e v1 ⟨rfl, hb1⟩
  replace Xm : Hid _ := Xm.out.below hb1
  replace Xr : Hid _ := Xr.out.below hb1
  replace hbw := Below.on hbw hb1
  clear hb1
  obtain ⟨cm0, cm1, fm0, fm1⟩ := Xm.out
  have hnem := Xm.out.lt
  go_wp2_with fail
  clear cm0 cm1 fm0 fm1 hnem
  refine (zsign (H.out.below hbw)).mono ?_
  rintro e v2 ⟨rfl, hb2⟩
  rw [show sgnI 0 = 0 from rfl]
  replace Xm : Hid _ := Xm.out.below hb2
  replace Xr : Hid _ := Xr.out.below hb2
  replace hbw := Below.on hbw hb2
  clear hb2
  obtain ⟨cr0, cr1, cr2, fr0, fr1, fr2⟩ := Xr.out
  have hner : gr < v2.heap.size := World.block_lt_of_cell? v2 _ cr0
  go_wp2_with fail
  refine bodyPost_ret (v := .tuple #[DV false none 0 0 0, .int .i64 0]) (by rw [results_cell_tmp rfl]; go_simp) rfl ⟨_, 0, 0, rfl, ⟨none, 0, [], rfl, ⟨rfl, Dig.nil _, .inl rfl⟩, Nf.nil _, by omega⟩, .inl ⟨rfl, rfl⟩, by rw [dv_zero, dv_zero], by omega, .inl rfl, ?_⟩
  first | exact hbw | exact bSet (bSet (bSet hbw _ _ _ HGr.out) _ _ _ HGr.out) _ _ _ HGr.out
theorem make_n {p : Option Addr} {m c : Nat} {w : World} {z e : Int} {s : Bool} (h : ZN w s p m c z) (he : -1048576 ≤ e ∧ e ≤ 524288) (hT : Tab w) (hz : z ≠ 0) :
    Calls Tryz.prog 4 #[ZV s p m c, .int .i64 e] w fun en w' => ∃ v zo eo, en = .returned (.tuple #[v, .int .i64 0]) ∧ AnsD w.heap.size w' v zo eo ∧ DFm zo eo ∧ dv zo eo = dv z e ∧ zo.natAbs ≤ z.natAbs ∧ (zo = 0 ∨ (e ≤ eo ∧ eo ≤ e + 524288)) ∧ Below w.heap.size w w' := by
  have H : Hid (ZN w s p m c z) := h
  have HE : Hid (-1048576 ≤ e ∧ e ≤ 524288) := he
  have TB : Hid (Tab w) := hT
  have HZ : Hid (z ≠ 0) := hz
  clear hz
  clear h he hT
  go_enter Tryz.func4, Tryz.ntmps4
  go_wp2_with fail
  obtain ⟨W0, hW0⟩ : ∃ W0, W0 = ((w.alloc (.cells #[.bool s, .slice p m c] 25)).alloc (.cells #[.bool false, .slice none 0 0, .int .i64 0] 27)) := ⟨_, rfl⟩
  have Xm : Hid (Box W0 (w.heap.size) (.bool s) (.slice p m c)) := by rw [hW0]; exact ⟨by go_simp, by go_simp, by go_simp, by go_simp⟩
  have Xr : Hid (B3q W0 (w.heap.size + 1) (.bool false) (.slice none 0 0) (.int .i64 0)) := by rw [hW0]; exact ⟨by go_simp, by go_simp, by go_simp, by go_simp, by go_simp, by go_simp⟩
  have hb0 : Below w.heap.size w W0 := by rw [hW0]; exact below2 w _ _
  rw [← hW0]
  clear hW0
  have hbw : Below w.heap.size w w := Below.refl _ _
  obtain ⟨gr, hgr⟩ : ∃ g, g = w.heap.size + 1 := ⟨_, rfl⟩
  have HGr : Hid (w.heap.size ≤ gr) := by rw [hgr]; show _ ≤ _; omega
  rw [← hgr] at Xr
  try rw [← hgr]
  obtain ⟨gm, hgm⟩ : ∃ g, g = w.heap.size := ⟨_, rfl⟩
  have HGm : Hid (w.heap.size ≤ gm) := by rw [hgm]; show _ ≤ _; omega
  rw [← hgm] at Xm
  try rw [← hgm]
  have HGD : Hid (gm ≠ gr ∧ gr ≠ gm) := by rw [hgm, hgr]; exact ⟨by omega, by omega⟩
  clear hgm hgr
  replace hbw := Below.on hbw hb0
  clear hb0
  refine (zform (H.out.below hbw)).mono ?_
  rintro e v1 ⟨rfl, hb1⟩
  replace Xm : Hid _ := Xm.out.below hb1
  replace Xr : Hid _ := Xr.out.below hb1
  replace hbw := Below.on hbw hb1
  clear hb1
  obtain ⟨cm0, cm1, fm0, fm1⟩ := Xm.out
  have hnem := Xm.out.lt
  go_wp2_with fail
  clear cm0 cm1 fm0 fm1 hnem
  refine (zsign (H.out.below hbw)).mono ?_
  rintro e v2 ⟨rfl, hb2⟩
  obtain ⟨sg, hsg⟩ : ∃ sg, sg = sgnI (z) := ⟨_, rfl⟩
  rw [← hsg]
  have hs0 : (sg == 0) = false := by rw [hsg]; have := HZ.out; unfold sgnI; split <;> (try split) <;> simp <;> omega
  clear hsg
  replace Xm : Hid _ := Xm.out.below hb2
  replace Xr : Hid _ := Xr.out.below hb2
  replace hbw := Below.on hbw hb2
  clear hb2
  obtain ⟨cm0, cm1, fm0, fm1⟩ := Xm.out
  have hnem := Xm.out.lt
  go_wp2_with fail
  clear cm0 cm1 fm0 fm1 hnem
  obtain ⟨k, hk⟩ := TzO.ex z.natAbs
  have HK : Hid (TzO z.natAbs k) := hk
  have hkb : k ≤ 524288 := by
    have h1 := (lim_bits z.natAbs).1 H.out.lim
    rcases hk with ⟨h0, _⟩ | ⟨_, h2, h3⟩
    · exact absurd (Int.natAbs_eq_zero.1 h0) HZ.out
    · have h4 : 2 ^ k ≤ z.natAbs := by
        rcases Nat.lt_or_ge z.natAbs (2 ^ k) with h | h
        · rw [Nat.div_eq_of_lt h] at h3; omega
        · exact h
      have h5 := bitsN_lt z.natAbs
      have h6 := (Nat.pow_lt_pow_iff_right (by omega : 1 < 2)).1 (Nat.lt_of_le_of_lt h4 h5)
      omega
  have HKB : Hid (k ≤ 524288) := hkb
  clear hk hkb
  obtain ⟨xs, hX⟩ := (H.out.below hbw).ex
  refine (trail_any hX.at_ (by have := hX.le; omega) (k := k) (by rw [hX.nf.val]; exact HK.out) (TB.out.below hbw)).mono ?_
  rintro e2 v3 ⟨rfl, hw⟩
  obtain rfl := hw.symm
  clear hw hX
  go_wp2_with fail
  refine (moved_ok k e _ (by have := HKB.out; omega) (by have := HKB.out; have := HE.out; omega)).mono ?_
  rintro e2 v4 ⟨rfl, hw⟩
  obtain rfl := hw.symm
  clear hw
  obtain ⟨cm0, cm1, fm0, fm1⟩ := Xm.out
  have hnem := Xm.out.lt
  go_wp2_with fail
  clear cm0 cm1 fm0 fm1 hnem
  obtain ⟨o, ho9⟩ : ∃ o, o = fl (decide (z < 0)) z.natAbs (2 ^ k) := ⟨_, rfl⟩
  have HO9 : Hid (o % 2 = 1 ∧ o * ((2 ^ k : Nat) : Int) = z ∧ o.natAbs ≤ z.natAbs) := by rw [ho9]; exact tz_split HZ.out HK.out
  have HRL : Hid (gr < v2.heap.size ∧ w.heap.size ≤ v2.heap.size) := ⟨Xr.out.lt, hbw.size⟩
  obtain ⟨xs, hX⟩ := (H.out.below hbw).ex
  refine (fshr_any s hX H.out.pos k (by have := HKB.out; omega) (TB.out.below hbw)).mono ?_
  rintro e2 v5 ⟨v, rfl, hv, hb5⟩
  rw [H.out.sg, ← ho9] at hv
  obtain ⟨p5, m5, z5, rfl, ho5, hn5, hm5⟩ := hv
  clear hX ho9
  replace Xm : Hid _ := Xm.out.below hb5
  replace Xr : Hid _ := Xr.out.below hb5
  replace hbw := Below.on hbw hb5
  clear hb5
  have O5 : Hid (Own v2.heap.size v5 p5 m5 z5) := ho5
  have N5 : Hid (Nf B64 z5 o.natAbs ∧ m5 ≤ 8192) := ⟨hn5, hm5⟩
  clear ho5 hn5 hm5
  obtain ⟨so, hso⟩ : ∃ b, b = decide (o < 0) := ⟨_, rfl⟩
  rw [← hso]
  have HSO : Hid (so = decide (o < 0)) := hso
  clear hso
  obtain ⟨cr0, cr1, cr2, fr0, fr1, fr2⟩ := Xr.out
  have hner : gr < v5.heap.size := World.block_lt_of_cell? v5 _ cr0
  go_wp2_with fail
  refine bodyPost_ret (v := .tuple #[DV so p5 m5 m5 (k + e), .int .i64 0]) (by rw [results_cell_tmp rfl]; go_simp) rfl ⟨_, o, k + e, rfl, ⟨p5, m5, z5, by rw [HSO.out], ?_, N5.out.1, N5.out.2⟩, ?_, ?_, HO9.out.2.2, ?_, ?_⟩
  · exact (own_set3 O5.out HRL.out.1 HRL.out.2 _ _ _).below (below1 _ _)
  · have := HKB.out; have := HE.out
    exact .inr ⟨HO9.out.1, by omega, by omega⟩
  · rw [dv_shift (e := (k : Int) + e) (f := e) (by omega) (by have := HE.out; omega), show ((k : Int) + e - e).toNat = k from by omega, HO9.out.2.1]
  · have := HKB.out
    exact .inr ⟨by omega, by omega⟩
  · exact Below.on (bSet (bSet (bSet hbw _ _ _ HGr.out) _ _ _ HGr.out) _ _ _ HGr.out) (below1 _ _)
theorem make_any {p : Option Addr} {m c : Nat} {w : World} {z e : Int} {s : Bool} (h : ZN w s p m c z) (he : -1048576 ≤ e ∧ e ≤ 524288) (hT : Tab w) :
    Calls Tryz.prog 4 #[ZV s p m c, .int .i64 e] w fun en w' => ∃ v zo eo, en = .returned (.tuple #[v, .int .i64 0]) ∧ AnsD w.heap.size w' v zo eo ∧ DFm zo eo ∧ dv zo eo = dv z e ∧ zo.natAbs ≤ z.natAbs ∧ (zo = 0 ∨ (e ≤ eo ∧ eo ≤ e + 524288)) ∧ Below w.heap.size w w' := by
  by_cases hz : z = 0
  · exact make_z h he hT hz
  · exact make_n h he hT hz
theorem below4 (w : World) (a b c d : Obj) : Below w.heap.size w ((((w.alloc a).alloc b).alloc c).alloc d) := (below3 w a b c).alloc (by simp; omega) d
theorem results_c2t2 {fn : Func} {p u t1 t2 : Tmp} {ty ty2 : TypeId} (h : fn.results = #[.cell p ty, .cell u ty2, .tmp t1, .tmp t2]) (tmps : Array Value) (P : Program) (w : World) :
    (results fn tmps).run P w = ((asAddr (tmps.getD p undef)).run P w).andThen fun a w₁ => ((loadVar ty a).run P w₁).andThen fun v w₂ => ((asAddr (tmps.getD u undef)).run P w₂).andThen fun b w₃ => ((loadVar ty2 b).run P w₃).andThen fun v2 w₄ => .ok (.tuple #[v, v2, tmps.getD t1 undef, tmps.getD t2 undef]) w₄ := by
  simp only [results, h]
  simp [Sem.run_bind, Result.andThen]
theorem daligned {p q : Option Addr} {m c n d : Nat} {w : World} {x y e f g : Int} {s t : Bool} (h : ZN w s p m c x) (k : ZN w t q n d y) (hg : g = min e f) (he : -1048576 ≤ e ∧ e ≤ 1048576 ∧ -1048576 ≤ f ∧ f ≤ 1048576) (hx : (x * 2 ^ (e - g).toNat).natAbs < LIM) (hy : (y * 2 ^ (f - g).toNat).natAbs < LIM) :
    Calls Tryz.prog 37 #[DV s p m c e, DV t q n d f] w fun en w' => ∃ s1 p1 m1 s2 p2 m2, en = .returned (.tuple #[ZV s1 p1 m1 m1, ZV s2 p2 m2 m2, .int .i64 g, .int .i64 0]) ∧ ZN w' s1 p1 m1 m1 (x * 2 ^ (e - g).toNat) ∧ ZN w' s2 p2 m2 m2 (y * 2 ^ (f - g).toNat) ∧ Below w.heap.size w w' := by
  have H : Hid (ZN w s p m c x) := h
  have K : Hid (ZN w t q n d y) := k
  have HX : Hid ((x * 2 ^ (e - g).toNat).natAbs < LIM ∧ (y * 2 ^ (f - g).toNat).natAbs < LIM) := ⟨hx, hy⟩
  obtain ⟨a, ha⟩ : ∃ a : Nat, a = (e - g).toNat := ⟨_, rfl⟩
  obtain ⟨b, hb⟩ : ∃ b : Nat, b = (f - g).toNat := ⟨_, rfl⟩
  have f1 : wrap64 (e - g) = (a : Int) := by simp only [wrap64]; omega
  have f2 : wrap64 (f - g) = (b : Int) := by simp only [wrap64]; omega
  have f3 : min e f = g := hg.symm
  have HAB : Hid (a = (e - g).toNat ∧ b = (f - g).toNat ∧ a ≤ 9223372036854775807 ∧ b ≤ 9223372036854775807) := ⟨ha, hb, by omega, by omega⟩
  clear h k hx hy ha hb he hg
  go_enter Tryz.func37, Tryz.ntmps37
  go_wp2_with fail
  obtain ⟨W0, hW0⟩ : ∃ W0, W0 = ((((w.alloc (.cells #[.bool s, .slice p m c, .int .i64 e] 27)).alloc (.cells #[.bool t, .slice q n d, .int .i64 f] 27)).alloc (.cells #[.bool false, .slice none 0 0] 25)).alloc (.cells #[.bool false, .slice none 0 0] 25)) := ⟨_, rfl⟩
  have Xa : Hid (B3q W0 (w.heap.size) (.bool s) (.slice p m c) (.int .i64 e)) := by rw [hW0]; exact ⟨by go_simp, by go_simp, by go_simp, by go_simp, by go_simp, by go_simp⟩
  have Xb : Hid (B3q W0 (w.heap.size + 1) (.bool t) (.slice q n d) (.int .i64 f)) := by rw [hW0]; exact ⟨by go_simp, by go_simp, by go_simp, by go_simp, by go_simp, by go_simp⟩
  have Xx : Hid (Box W0 (w.heap.size + 1 + 1) (.bool false) (.slice none 0 0)) := by rw [hW0]; exact ⟨by go_simp, by go_simp, by go_simp, by go_simp⟩
  have Xy : Hid (Box W0 (w.heap.size + 1 + 1 + 1) (.bool false) (.slice none 0 0)) := by rw [hW0]; exact ⟨by go_simp, by go_simp, by go_simp, by go_simp⟩
  have hb0 : Below w.heap.size w W0 := by rw [hW0]; exact below4 w _ _ _ _
  rw [← hW0]
  clear hW0
  have hbw : Below w.heap.size w w := Below.refl _ _
  obtain ⟨gy, hgy⟩ : ∃ g, g = w.heap.size + 1 + 1 + 1 := ⟨_, rfl⟩
  have HGy : Hid (w.heap.size ≤ gy) := by rw [hgy]; show _ ≤ _; omega
  rw [← hgy] at Xy
  try rw [← hgy]
  obtain ⟨gx, hgx⟩ : ∃ g, g = w.heap.size + 1 + 1 := ⟨_, rfl⟩
  have HGx : Hid (w.heap.size ≤ gx) := by rw [hgx]; show _ ≤ _; omega
  rw [← hgx] at Xx
  try rw [← hgx]
  obtain ⟨gb, hgb⟩ : ∃ g, g = w.heap.size + 1 := ⟨_, rfl⟩
  have HGb : Hid (w.heap.size ≤ gb) := by rw [hgb]; show _ ≤ _; omega
  rw [← hgb] at Xb
  try rw [← hgb]
  obtain ⟨ga, hga⟩ : ∃ g, g = w.heap.size := ⟨_, rfl⟩
  have HGa : Hid (w.heap.size ≤ ga) := by rw [hga]; show _ ≤ _; omega
  rw [← hga] at Xa
  try rw [← hga]
  have HGD : Hid (ga ≠ gb ∧ ga ≠ gx ∧ ga ≠ gy ∧ gb ≠ ga ∧ gb ≠ gx ∧ gb ≠ gy ∧ gx ≠ ga ∧ gx ≠ gb ∧ gx ≠ gy ∧ gy ≠ ga ∧ gy ≠ gb ∧ gy ≠ gx) := by rw [hga, hgb, hgx, hgy]; exact ⟨by omega, by omega, by omega, by omega, by omega, by omega, by omega, by omega, by omega, by omega, by omega, by omega⟩
  clear hga hgb hgx hgy
  replace hbw := Below.on hbw hb0
  clear hb0
  have HB5 : Hid (gx < W0.heap.size ∧ gy < W0.heap.size ∧ w.heap.size ≤ W0.heap.size) := ⟨Xx.out.lt, Xy.out.lt, hbw.size⟩
  refine (zshl (H.out.below hbw) a HAB.out.2.2.1).mono ?_
  rintro e2 v5 ⟨ha5, hb5⟩
  rcases ha5 with ⟨_, p5, m5, z5, rfl, ho5, hn5, hm5⟩ | ⟨hl5, rfl⟩
  case inr => (exact absurd (by have h8 := HX.out.1; have h9 := HAB.out; rw [← h9.1] at h8; exact h8) (Nat.not_lt.2 hl5))
  replace Xa : Hid _ := Xa.out.below hb5
  replace Xb : Hid _ := Xb.out.below hb5
  replace Xx : Hid _ := Xx.out.below hb5
  replace Xy : Hid _ := Xy.out.below hb5
  replace hbw := Below.on hbw hb5
  clear hb5
  have O5 : Hid (Own W0.heap.size v5 p5 m5 z5) := ho5
  have N5 : Hid (Nf B64 z5 (x * 2 ^ a).natAbs ∧ m5 ≤ 8192) := ⟨hn5, hm5⟩
  obtain ⟨s5, hs5⟩ : ∃ bo, bo = decide ((x * 2 ^ a) < 0) := ⟨_, rfl⟩
  rw [← hs5]
  have HS5 : Hid (s5 = decide ((x * 2 ^ a) < 0)) := hs5
  clear ho5 hn5 hm5 hs5
  obtain ⟨hgd0, hgd1, hgd2, hgd3, hgd4, hgd5, hgd6, hgd7, hgd8, hgd9, hgd10, hgd11⟩ := HGD.out
  obtain ⟨ca0, ca1, ca2, fa0, fa1, fa2⟩ := Xa.out
  have hnea : ga < v5.heap.size := World.block_lt_of_cell? v5 _ ca0
  obtain ⟨cb0, cb1, cb2, fb0, fb1, fb2⟩ := Xb.out
  have hneb : gb < v5.heap.size := World.block_lt_of_cell? v5 _ cb0
  obtain ⟨cx0, cx1, fx0, fx1⟩ := Xx.out
  have hnex := Xx.out.lt
  go_wp2_with fail
  obtain ⟨cy0, cy1, fy0, fy1⟩ := Xy.out
  have hney := Xy.out.lt
  have Xx2 : Hid (Box ((v5.setCell ⟨gx, 0, none⟩ (.bool s5)).setCell ⟨gx, 1, none⟩ (.slice p5 m5 m5)) gx (.bool s5) (.slice p5 m5 m5)) := ⟨by go_simp, by go_simp, by go_simp, by go_simp⟩
  have Xy2 : Hid (Box ((v5.setCell ⟨gx, 0, none⟩ (.bool s5)).setCell ⟨gx, 1, none⟩ (.slice p5 m5 m5)) gy (.bool false) (.slice none 0 0)) := ⟨by go_simp, by go_simp, by go_simp, by go_simp⟩
  have Xa2 : Hid (B3q ((v5.setCell ⟨gx, 0, none⟩ (.bool s5)).setCell ⟨gx, 1, none⟩ (.slice p5 m5 m5)) ga (.bool s) (.slice p m c) (.int .i64 e)) := ⟨by go_simp, by go_simp, by go_simp, by go_simp, by go_simp, by go_simp⟩
  have Xb2 : Hid (B3q ((v5.setCell ⟨gx, 0, none⟩ (.bool s5)).setCell ⟨gx, 1, none⟩ (.slice p5 m5 m5)) gb (.bool t) (.slice q n d) (.int .i64 f)) := ⟨by go_simp, by go_simp, by go_simp, by go_simp, by go_simp, by go_simp⟩
  have O52 : Hid (Own W0.heap.size ((v5.setCell ⟨gx, 0, none⟩ (.bool s5)).setCell ⟨gx, 1, none⟩ (.slice p5 m5 m5)) p5 m5 z5) := own_set2 O5.out HB5.out.1 (Nat.le_refl _) _ _
  have hbw2 : Below w.heap.size w ((v5.setCell ⟨gx, 0, none⟩ (.bool s5)).setCell ⟨gx, 1, none⟩ (.slice p5 m5 m5)) := bSet (bSet hbw _ _ _ HGx.out) _ _ _ HGx.out
  clear ca0 ca1 ca2 fa0 fa1 fa2 hnea
  clear cb0 cb1 cb2 fb0 fb1 fb2 hneb
  clear cx0 cx1 fx0 fx1 hnex
  clear cy0 cy1 fy0 fy1 hney
  clear Xx Xy Xa Xb O5 hbw hgd0 hgd1 hgd2 hgd3 hgd4 hgd5 hgd6 hgd7 hgd8 hgd9 hgd10 hgd11
  generalize ((v5.setCell ⟨gx, 0, none⟩ (.bool s5)).setCell ⟨gx, 1, none⟩ (.slice p5 m5 m5)) = W6 at *
  have Xx := Xx2
  have Xy := Xy2
  have Xa := Xa2
  have Xb := Xb2
  have O5 := O52
  have hbw := hbw2
  clear Xx2 Xy2 Xa2 Xb2 O52 hbw2
  have HB7 : Hid (gx < W6.heap.size ∧ gy < W6.heap.size ∧ w.heap.size ≤ W6.heap.size) := ⟨Xx.out.lt, Xy.out.lt, hbw.size⟩
  refine (zshl (K.out.below hbw) b HAB.out.2.2.2).mono ?_
  rintro e2 v7 ⟨ha7, hb7⟩
  rcases ha7 with ⟨_, p7, m7, z7, rfl, ho7, hn7, hm7⟩ | ⟨hl7, rfl⟩
  case inr => (exact absurd (by have h8 := HX.out.2; have h9 := HAB.out; rw [← h9.2.1] at h8; exact h8) (Nat.not_lt.2 hl7))
  replace Xa : Hid _ := Xa.out.below hb7
  replace Xb : Hid _ := Xb.out.below hb7
  replace Xx : Hid _ := Xx.out.below hb7
  replace Xy : Hid _ := Xy.out.below hb7
  replace O5 : Hid (Own W0.heap.size v7 p5 m5 z5) := O5.out.below hb7
  replace hbw := Below.on hbw hb7
  clear hb7
  have O7 : Hid (Own W6.heap.size v7 p7 m7 z7) := ho7
  have N7 : Hid (Nf B64 z7 (y * 2 ^ b).natAbs ∧ m7 ≤ 8192) := ⟨hn7, hm7⟩
  obtain ⟨s7, hs7⟩ : ∃ bo, bo = decide ((y * 2 ^ b) < 0) := ⟨_, rfl⟩
  rw [← hs7]
  have HS7 : Hid (s7 = decide ((y * 2 ^ b) < 0)) := hs7
  clear ho7 hn7 hm7 hs7
  obtain ⟨hgd0, hgd1, hgd2, hgd3, hgd4, hgd5, hgd6, hgd7, hgd8, hgd9, hgd10, hgd11⟩ := HGD.out
  obtain ⟨cx0, cx1, fx0, fx1⟩ := Xx.out
  have hnex := Xx.out.lt
  obtain ⟨cy0, cy1, fy0, fy1⟩ := Xy.out
  have hney := Xy.out.lt
  go_wp2_with fail
  clear cx0 cx1 fx0 fx1 hnex
  clear cy0 cy1 fy0 fy1 hney
  obtain ⟨cx0, cx1, fx0, fx1⟩ := Xx.out
  have hnex := Xx.out.lt
  obtain ⟨cy0, cy1, fy0, fy1⟩ := Xy.out
  have hney := Xy.out.lt
  have Xy2 : Hid (Box ((v7.setCell ⟨gy, 0, none⟩ (.bool s7)).setCell ⟨gy, 1, none⟩ (.slice p7 m7 m7)) gy (.bool s7) (.slice p7 m7 m7)) := ⟨by go_simp, by go_simp, by go_simp, by go_simp⟩
  have Xx2 : Hid (Box ((v7.setCell ⟨gy, 0, none⟩ (.bool s7)).setCell ⟨gy, 1, none⟩ (.slice p7 m7 m7)) gx (.bool s5) (.slice p5 m5 m5)) := ⟨by go_simp, by go_simp, by go_simp, by go_simp⟩
  have O52 : Hid (Own W0.heap.size ((v7.setCell ⟨gy, 0, none⟩ (.bool s7)).setCell ⟨gy, 1, none⟩ (.slice p7 m7 m7)) p5 m5 z5) := own_set2 O5.out HB5.out.2.1 (Nat.le_refl _) _ _
  have O72 : Hid (Own W6.heap.size ((v7.setCell ⟨gy, 0, none⟩ (.bool s7)).setCell ⟨gy, 1, none⟩ (.slice p7 m7 m7)) p7 m7 z7) := own_set2 O7.out HB7.out.2.1 (Nat.le_refl _) _ _
  have hbw2 : Below w.heap.size w ((v7.setCell ⟨gy, 0, none⟩ (.bool s7)).setCell ⟨gy, 1, none⟩ (.slice p7 m7 m7)) := bSet (bSet hbw _ _ _ HGy.out) _ _ _ HGy.out
  clear cx0 cx1 fx0 fx1 hnex
  clear cy0 cy1 fy0 fy1 hney
  clear Xx Xy Xa Xb O5 O7 hbw hgd0 hgd1 hgd2 hgd3 hgd4 hgd5 hgd6 hgd7 hgd8 hgd9 hgd10 hgd11
  generalize ((v7.setCell ⟨gy, 0, none⟩ (.bool s7)).setCell ⟨gy, 1, none⟩ (.slice p7 m7 m7)) = W8 at *
  have Xx := Xx2
  have Xy := Xy2
  have O5 := O52
  have O7 := O72
  have hbw := hbw2
  clear Xx2 Xy2 O52 O72 hbw2
  obtain ⟨W9, hW9⟩ : ∃ W1, W1 = W8.drew := ⟨_, rfl⟩
  have hbd : Below W8.heap.size W8 W9 := by rw [hW9]; exact bDrew1 (Below.refl _ _)
  replace Xx : Hid _ := Xx.out.below hbd
  replace Xy : Hid _ := Xy.out.below hbd
  replace O5 : Hid (Own W0.heap.size W9 p5 m5 z5) := O5.out.below hbd
  replace O7 : Hid (Own W6.heap.size W9 p7 m7 z7) := O7.out.below hbd
  replace hbw := Below.on hbw hbd
  clear hbd
  have HJ : Hid ((fun W' : World => W'.cell? ⟨gx, 0, none⟩ = some (.bool s5) ∧ W'.cell? ⟨gx, 1, none⟩ = some (.slice p5 m5 m5) ∧ W'.cell? ⟨gy, 0, none⟩ = some (.bool s7) ∧ W'.cell? ⟨gy, 1, none⟩ = some (.slice p7 m7 m7)) W9) := ⟨Xx.out.c0, Xx.out.c1, Xy.out.c0, Xy.out.c1⟩
  refine wp_region_J (fun W' => W'.cell? ⟨gx, 0, none⟩ = some (.bool s5) ∧ W'.cell? ⟨gx, 1, none⟩ = some (.slice p5 m5 m5) ∧ W'.cell? ⟨gy, 0, none⟩ = some (.bool s7) ∧ W'.cell? ⟨gy, 1, none⟩ = some (.slice p7 m7 m7)) (by kernel_rfl) ?_
  rw [← hW9]
  clear hW9
  refine wpJ_tq 0 rfl HJ.out ?_
  refine wpJ_tq 1 rfl HJ.out ?_
  refine wpJ_tq 2 rfl HJ.out ?_
  refine wpJ_tq 3 rfl HJ.out ?_
  refine wpJ_tq 4 rfl HJ.out ?_
  refine wpJ_tq 5 rfl HJ.out ?_
  obtain ⟨cx0, cx1, fx0, fx1⟩ := Xx.out
  have hnex := Xx.out.lt
  obtain ⟨cy0, cy1, fy0, fy1⟩ := Xy.out
  have hney := Xy.out.lt
  have hq1 : gx ≠ gy := HGD.out.2.2.2.2.2.2.2.2.1
  have hq2 : gy ≠ gx := fun h => hq1 h.symm
  refine wpJ_on 6 rfl fun KJ hK => ?_
  go_simp
  have HJ2 : Hid ((fun W' : World => W'.cell? ⟨gx, 0, none⟩ = some (.bool s5) ∧ W'.cell? ⟨gx, 1, none⟩ = some (.slice p5 m5 m5) ∧ W'.cell? ⟨gy, 0, none⟩ = some (.bool s7) ∧ W'.cell? ⟨gy, 1, none⟩ = some (.slice p7 m7 m7)) ((W9.setCell ⟨gx, 0, none⟩ (.bool s5)).setCell ⟨gx, 1, none⟩ (.slice p5 m5 m5))) := ⟨by go_simp, by go_simp, by go_simp, by go_simp⟩
  have Xx2 : Hid (Box ((W9.setCell ⟨gx, 0, none⟩ (.bool s5)).setCell ⟨gx, 1, none⟩ (.slice p5 m5 m5)) gx (.bool s5) (.slice p5 m5 m5)) := ⟨by go_simp, by go_simp, by go_simp, by go_simp⟩
  have Xy2 : Hid (Box ((W9.setCell ⟨gx, 0, none⟩ (.bool s5)).setCell ⟨gx, 1, none⟩ (.slice p5 m5 m5)) gy (.bool s7) (.slice p7 m7 m7)) := ⟨by go_simp, by go_simp, by go_simp, by go_simp⟩
  have O52 : Hid (Own W0.heap.size ((W9.setCell ⟨gx, 0, none⟩ (.bool s5)).setCell ⟨gx, 1, none⟩ (.slice p5 m5 m5)) p5 m5 z5) := own_set2 O5.out HB5.out.1 (Nat.le_refl _) _ _
  have O72 : Hid (Own W6.heap.size ((W9.setCell ⟨gx, 0, none⟩ (.bool s5)).setCell ⟨gx, 1, none⟩ (.slice p5 m5 m5)) p7 m7 z7) := own_set2 O7.out HB7.out.1 (Nat.le_refl _) _ _
  have hbw2 : Below w.heap.size w ((W9.setCell ⟨gx, 0, none⟩ (.bool s5)).setCell ⟨gx, 1, none⟩ (.slice p5 m5 m5)) := bSet (bSet hbw _ _ _ HGx.out) _ _ _ HGx.out
  refine hK _ _ HJ2.out ?_
  clear hK HJ hq1 hq2
  have HJ := HJ2
  clear HJ2
  clear cx0 cx1 fx0 fx1 hnex
  clear cy0 cy1 fy0 fy1 hney
  clear Xx Xy O5 O7 hbw
  generalize ((W9.setCell ⟨gx, 0, none⟩ (.bool s5)).setCell ⟨gx, 1, none⟩ (.slice p5 m5 m5)) = Wp at *
  have Xx := Xx2
  have Xy := Xy2
  have O5 := O52
  have O7 := O72
  have hbw := hbw2
  clear Xx2 Xy2 O52 O72 hbw2
  obtain ⟨cy0, cy1, fy0, fy1⟩ := Xy.out
  have hney := Xy.out.lt
  obtain ⟨cx0, cx1, fx0, fx1⟩ := Xx.out
  have hnex := Xx.out.lt
  have hq1 : gx ≠ gy := HGD.out.2.2.2.2.2.2.2.2.1
  have hq2 : gy ≠ gx := fun h => hq1 h.symm
  refine wpJ_on 7 rfl fun KJ hK => ?_
  go_simp
  have HJ2 : Hid ((fun W' : World => W'.cell? ⟨gx, 0, none⟩ = some (.bool s5) ∧ W'.cell? ⟨gx, 1, none⟩ = some (.slice p5 m5 m5) ∧ W'.cell? ⟨gy, 0, none⟩ = some (.bool s7) ∧ W'.cell? ⟨gy, 1, none⟩ = some (.slice p7 m7 m7)) ((Wp.setCell ⟨gy, 0, none⟩ (.bool s7)).setCell ⟨gy, 1, none⟩ (.slice p7 m7 m7))) := ⟨by go_simp, by go_simp, by go_simp, by go_simp⟩
  have Xy2 : Hid (Box ((Wp.setCell ⟨gy, 0, none⟩ (.bool s7)).setCell ⟨gy, 1, none⟩ (.slice p7 m7 m7)) gy (.bool s7) (.slice p7 m7 m7)) := ⟨by go_simp, by go_simp, by go_simp, by go_simp⟩
  have Xx2 : Hid (Box ((Wp.setCell ⟨gy, 0, none⟩ (.bool s7)).setCell ⟨gy, 1, none⟩ (.slice p7 m7 m7)) gx (.bool s5) (.slice p5 m5 m5)) := ⟨by go_simp, by go_simp, by go_simp, by go_simp⟩
  have O52 : Hid (Own W0.heap.size ((Wp.setCell ⟨gy, 0, none⟩ (.bool s7)).setCell ⟨gy, 1, none⟩ (.slice p7 m7 m7)) p5 m5 z5) := own_set2 O5.out HB5.out.2.1 (Nat.le_refl _) _ _
  have O72 : Hid (Own W6.heap.size ((Wp.setCell ⟨gy, 0, none⟩ (.bool s7)).setCell ⟨gy, 1, none⟩ (.slice p7 m7 m7)) p7 m7 z7) := own_set2 O7.out HB7.out.2.1 (Nat.le_refl _) _ _
  have hbw2 : Below w.heap.size w ((Wp.setCell ⟨gy, 0, none⟩ (.bool s7)).setCell ⟨gy, 1, none⟩ (.slice p7 m7 m7)) := bSet (bSet hbw _ _ _ HGy.out) _ _ _ HGy.out
  refine hK _ _ HJ2.out ?_
  clear hK HJ hq1 hq2
  have HJ := HJ2
  clear HJ2
  clear cy0 cy1 fy0 fy1 hney
  clear cx0 cx1 fx0 fx1 hnex
  clear Xx Xy O5 O7 hbw
  generalize ((Wp.setCell ⟨gy, 0, none⟩ (.bool s7)).setCell ⟨gy, 1, none⟩ (.slice p7 m7 m7)) = Wq at *
  have Xx := Xx2
  have Xy := Xy2
  have O5 := O52
  have O7 := O72
  have hbw := hbw2
  clear Xx2 Xy2 O52 O72 hbw2
  refine wpJ_tq 8 rfl HJ.out ?_
  refine wpJ_tq 9 rfl HJ.out ?_
  refine wpJ_done (by kernel_rfl) ?_ _
  clear HJ
  obtain ⟨cx0, cx1, fx0, fx1⟩ := Xx.out
  have hnex := Xx.out.lt
  obtain ⟨cy0, cy1, fy0, fy1⟩ := Xy.out
  have hney := Xy.out.lt
  go_wp2_with fail
  refine bodyPost_ret (v := .tuple #[ZV s5 p5 m5 m5, ZV s7 p7 m7 m7, .int .i64 g, .int .i64 0]) (by rw [results_c2t2 rfl]; go_simp) rfl ⟨s5, p5, m5, s7, p7, m7, rfl, ?_, ?_, hbw⟩
  · rw [← HAB.out.1]
    exact ⟨⟨z5, Num.of O5.out N5.out.1 N5.out.2⟩, HS5.out⟩
  · rw [← HAB.out.2.1]
    exact ⟨⟨z7, Num.of O7.out N7.out.1 N7.out.2⟩, HS7.out⟩
theorem dadd_n {p q : Option Addr} {m c n d : Nat} {w : World} {x y e f g : Int} {s t : Bool} (h : DN w s p m c e x) (k : DN w t q n d f y) (hx0 : x ≠ 0) (hy0 : y ≠ 0) (hg : g = min e f) (hg2 : g ≤ 524288) (hx : (x * 2 ^ (e - g).toNat).natAbs < LIM) (hy : (y * 2 ^ (f - g).toNat).natAbs < LIM) (hl : (x * 2 ^ (e - g).toNat + y * 2 ^ (f - g).toNat).natAbs < LIM) (hT : Tab w) :
    Calls Tryz.prog 21 #[DV s p m c e, DV t q n d f] w fun en w' => ∃ v zo eo, en = .returned (.tuple #[v, .int .i64 0]) ∧ AnsD w.heap.size w' v zo eo ∧ DFm zo eo ∧ dv zo eo = dv (x * 2 ^ (e - g).toNat + y * 2 ^ (f - g).toNat) g ∧ zo.natAbs ≤ (x * 2 ^ (e - g).toNat + y * 2 ^ (f - g).toNat).natAbs ∧ (zo = 0 ∨ (g ≤ eo ∧ eo ≤ g + 524288)) ∧ Below w.heap.size w w' := by
  have H : Hid (DN w s p m c e x) := h
  have K : Hid (DN w t q n d f y) := k
  have TB : Hid (Tab w) := hT
  have HE : Hid (-1048576 ≤ e ∧ e ≤ 1048576 ∧ -1048576 ≤ f ∧ f ≤ 1048576) := by
    rcases h.fm with ⟨h1, _⟩ | ⟨_, h1, h2⟩
    · exact absurd h1 hx0
    · rcases k.fm with ⟨k1, _⟩ | ⟨_, k1, k2⟩
      · exact absurd k1 hy0
      · exact ⟨h1, h2, k1, k2⟩
  have HG : Hid (g = min e f ∧ -1048576 ≤ g ∧ g ≤ 524288) := ⟨hg, by have := HE.out; omega, hg2⟩
  obtain ⟨X, hX⟩ : ∃ X, X = x * 2 ^ (e - g).toNat := ⟨_, rfl⟩
  obtain ⟨Y, hY⟩ : ∃ Y, Y = y * 2 ^ (f - g).toNat := ⟨_, rfl⟩
  rw [← hX, ← hY] at hl ⊢
  have HL : Hid (x ≠ 0 ∧ y ≠ 0 ∧ (x * 2 ^ (e - g).toNat).natAbs < LIM ∧ (y * 2 ^ (f - g).toNat).natAbs < LIM ∧ (X + Y).natAbs < LIM) := ⟨hx0, hy0, hx, hy, hl⟩
  have HXY : Hid (X = x * 2 ^ (e - g).toNat ∧ Y = y * 2 ^ (f - g).toNat) := ⟨hX, hY⟩
  clear h k hT hx0 hy0 hx hy hl hg hg2 hX hY
  go_enter Tryz.func21, Tryz.ntmps21
  go_wp2_with fail
  obtain ⟨W0, hW0⟩ : ∃ W0, W0 = (((w.alloc (.cells #[.bool s, .slice p m c, .int .i64 e] 27)).alloc (.cells #[.bool t, .slice q n d, .int .i64 f] 27)).alloc (.cells #[.bool false, .slice none 0 0, .int .i64 0] 27)) := ⟨_, rfl⟩
  have Xa : Hid (B3q W0 (w.heap.size) (.bool s) (.slice p m c) (.int .i64 e)) := by rw [hW0]; exact ⟨by go_simp, by go_simp, by go_simp, by go_simp, by go_simp, by go_simp⟩
  have Xb : Hid (B3q W0 (w.heap.size + 1) (.bool t) (.slice q n d) (.int .i64 f)) := by rw [hW0]; exact ⟨by go_simp, by go_simp, by go_simp, by go_simp, by go_simp, by go_simp⟩
  have Xr : Hid (B3q W0 (w.heap.size + 1 + 1) (.bool false) (.slice none 0 0) (.int .i64 0)) := by rw [hW0]; exact ⟨by go_simp, by go_simp, by go_simp, by go_simp, by go_simp, by go_simp⟩
  have hb0 : Below w.heap.size w W0 := by rw [hW0]; exact below3 w _ _ _
  rw [← hW0]
  clear hW0
  have hbw : Below w.heap.size w w := Below.refl _ _
  obtain ⟨gr, hgr⟩ : ∃ g, g = w.heap.size + 1 + 1 := ⟨_, rfl⟩
  have HGr : Hid (w.heap.size ≤ gr) := by rw [hgr]; show _ ≤ _; omega
  rw [← hgr] at Xr
  try rw [← hgr]
  obtain ⟨gb, hgb⟩ : ∃ g, g = w.heap.size + 1 := ⟨_, rfl⟩
  have HGb : Hid (w.heap.size ≤ gb) := by rw [hgb]; show _ ≤ _; omega
  rw [← hgb] at Xb
  try rw [← hgb]
  obtain ⟨ga, hga⟩ : ∃ g, g = w.heap.size := ⟨_, rfl⟩
  have HGa : Hid (w.heap.size ≤ ga) := by rw [hga]; show _ ≤ _; omega
  rw [← hga] at Xa
  try rw [← hga]
  have HGD : Hid (ga ≠ gb ∧ ga ≠ gr ∧ gb ≠ ga ∧ gb ≠ gr ∧ gr ≠ ga ∧ gr ≠ gb) := by rw [hga, hgb, hgr]; exact ⟨by omega, by omega, by omega, by omega, by omega, by omega⟩
  clear hga hgb hgr
  replace hbw := Below.on hbw hb0
  clear hb0
  refine (dform_t (H.out.below hbw)).mono ?_
  rintro e v1 ⟨rfl, hb1⟩
  replace Xa : Hid _ := Xa.out.below hb1
  replace Xb : Hid _ := Xb.out.below hb1
  replace Xr : Hid _ := Xr.out.below hb1
  replace hbw := Below.on hbw hb1
  clear hb1
  obtain ⟨cb0, cb1, cb2, fb0, fb1, fb2⟩ := Xb.out
  have hneb : gb < v1.heap.size := World.block_lt_of_cell? v1 _ cb0
  go_wp2_with fail
  clear cb0 cb1 cb2 fb0 fb1 fb2 hneb
  refine (dform_t (K.out.below hbw)).mono ?_
  rintro e v2 ⟨rfl, hb2⟩
  replace Xa : Hid _ := Xa.out.below hb2
  replace Xb : Hid _ := Xb.out.below hb2
  replace Xr : Hid _ := Xr.out.below hb2
  replace hbw := Below.on hbw hb2
  clear hb2
  obtain ⟨ca0, ca1, ca2, fa0, fa1, fa2⟩ := Xa.out
  have hnea : ga < v2.heap.size := World.block_lt_of_cell? v2 _ ca0
  obtain ⟨cb0, cb1, cb2, fb0, fb1, fb2⟩ := Xb.out
  have hneb : gb < v2.heap.size := World.block_lt_of_cell? v2 _ cb0
  go_wp2_with fail
  clear ca0 ca1 ca2 fa0 fa1 fa2 hnea
  clear cb0 cb1 cb2 fb0 fb1 fb2 hneb
  refine (zsign (H.out.zn.below hbw)).mono ?_
  rintro e v3 ⟨rfl, hb3⟩
  obtain ⟨sg3, hsg⟩ : ∃ sg, sg = sgnI (x) := ⟨_, rfl⟩
  rw [← hsg]
  have hs3 : (sg3 == 0) = false := by rw [hsg]; have := HL.out.1; unfold sgnI; split <;> (try split) <;> simp <;> omega
  clear hsg
  replace Xa : Hid _ := Xa.out.below hb3
  replace Xb : Hid _ := Xb.out.below hb3
  replace Xr : Hid _ := Xr.out.below hb3
  replace hbw := Below.on hbw hb3
  clear hb3
  obtain ⟨cb0, cb1, cb2, fb0, fb1, fb2⟩ := Xb.out
  have hneb : gb < v3.heap.size := World.block_lt_of_cell? v3 _ cb0
  go_wp2_with fail
  clear cb0 cb1 cb2 fb0 fb1 fb2 hneb
  clear hs3
  refine (zsign (K.out.zn.below hbw)).mono ?_
  rintro e v4 ⟨rfl, hb4⟩
  obtain ⟨sg4, hsg⟩ : ∃ sg, sg = sgnI (y) := ⟨_, rfl⟩
  rw [← hsg]
  have hs4 : (sg4 == 0) = false := by rw [hsg]; have := HL.out.2.1; unfold sgnI; split <;> (try split) <;> simp <;> omega
  clear hsg
  replace Xa : Hid _ := Xa.out.below hb4
  replace Xb : Hid _ := Xb.out.below hb4
  replace Xr : Hid _ := Xr.out.below hb4
  replace hbw := Below.on hbw hb4
  clear hb4
  obtain ⟨ca0, ca1, ca2, fa0, fa1, fa2⟩ := Xa.out
  have hnea : ga < v4.heap.size := World.block_lt_of_cell? v4 _ ca0
  obtain ⟨cb0, cb1, cb2, fb0, fb1, fb2⟩ := Xb.out
  have hneb : gb < v4.heap.size := World.block_lt_of_cell? v4 _ cb0
  go_wp2_with fail
  clear ca0 ca1 ca2 fa0 fa1 fa2 hnea
  clear cb0 cb1 cb2 fb0 fb1 fb2 hneb
  clear hs4
  refine (daligned (H.out.zn.below hbw) (K.out.zn.below hbw) HG.out.1 HE.out HL.out.2.2.1 HL.out.2.2.2.1).mono ?_
  rintro e2 v5 ⟨s5, p5, m5, s6, p6, m6, rfl, hz5, hz6, hb5⟩
  rw [← HXY.out.1] at hz5
  rw [← HXY.out.2] at hz6
  replace Xa : Hid _ := Xa.out.below hb5
  replace Xb : Hid _ := Xb.out.below hb5
  replace Xr : Hid _ := Xr.out.below hb5
  replace hbw := Below.on hbw hb5
  clear hb5
  have Z5 : Hid (ZN v5 s5 p5 m5 m5 X) := hz5
  have Z6 : Hid (ZN v5 s6 p6 m6 m6 Y) := hz6
  clear hz5 hz6
  go_wp2_with fail
  rw [show v5.heap.size + 1 = (v5.alloc (.cells #[.bool s5, .slice p5 m5 m5] 25)).heap.size from by simp]
  have Xx0 : Hid (Box (v5.alloc (.cells #[.bool s5, .slice p5 m5 m5] 25)) v5.heap.size (.bool s5) (.slice p5 m5 m5)) := Box.new v5 _ _ _
  have hbn : Below v5.heap.size v5 (v5.alloc (.cells #[.bool s5, .slice p5 m5 m5] 25)) := below1 v5 _
  generalize v5.alloc (.cells #[.bool s5, .slice p5 m5 m5] 25) = Wx at *
  have HGx : Hid (w.heap.size ≤ v5.heap.size) := hbw.size
  replace Xa : Hid _ := Xa.out.below hbn
  replace Xb : Hid _ := Xb.out.below hbn
  replace Xr : Hid _ := Xr.out.below hbn
  replace Z5 : Hid _ := Z5.out.below hbn
  replace Z6 : Hid _ := Z6.out.below hbn
  replace hbw := Below.on hbw hbn
  clear hbn
  generalize v5.heap.size = gx at *
  have Xx := Xx0
  clear Xx0
  have Xy0 : Hid (Box (Wx.alloc (.cells #[.bool s6, .slice p6 m6 m6] 25)) Wx.heap.size (.bool s6) (.slice p6 m6 m6)) := Box.new Wx _ _ _
  have hbn : Below Wx.heap.size Wx (Wx.alloc (.cells #[.bool s6, .slice p6 m6 m6] 25)) := below1 Wx _
  generalize Wx.alloc (.cells #[.bool s6, .slice p6 m6 m6] 25) = Wy at *
  have HGy : Hid (w.heap.size ≤ Wx.heap.size) := hbw.size
  replace Xa : Hid _ := Xa.out.below hbn
  replace Xb : Hid _ := Xb.out.below hbn
  replace Xr : Hid _ := Xr.out.below hbn
  replace Xx : Hid _ := Xx.out.below hbn
  replace Z5 : Hid _ := Z5.out.below hbn
  replace Z6 : Hid _ := Z6.out.below hbn
  replace hbw := Below.on hbw hbn
  clear hbn
  generalize Wx.heap.size = gy at *
  have Xy := Xy0
  clear Xy0
  refine (zadd Z5.out Z6.out).mono ?_
  rintro e2 v7 ⟨ha, hb7⟩
  obtain ⟨s7, p7, m7, rfl, hz⟩ := ha.got HL.out.2.2.2.2
  clear ha
  replace Xa : Hid _ := Xa.out.below hb7
  replace Xb : Hid _ := Xb.out.below hb7
  replace Xr : Hid _ := Xr.out.below hb7
  replace Xx : Hid _ := Xx.out.below hb7
  replace Xy : Hid _ := Xy.out.below hb7
  replace Z5 : Hid _ := Z5.out.below hb7
  replace Z6 : Hid _ := Z6.out.below hb7
  replace hbw := Below.on hbw hb7
  clear hb7
  have Z7 : Hid (ZN v7 s7 p7 m7 m7 (X + Y)) := hz
  clear hz
  go_wp2_with fail
  have Xq0 : Hid (Box (v7.alloc (.cells #[.bool s7, .slice p7 m7 m7] 25)) v7.heap.size (.bool s7) (.slice p7 m7 m7)) := Box.new v7 _ _ _
  have hbn : Below v7.heap.size v7 (v7.alloc (.cells #[.bool s7, .slice p7 m7 m7] 25)) := below1 v7 _
  generalize v7.alloc (.cells #[.bool s7, .slice p7 m7 m7] 25) = Wq at *
  have HGq : Hid (w.heap.size ≤ v7.heap.size) := hbw.size
  replace Xa : Hid _ := Xa.out.below hbn
  replace Xb : Hid _ := Xb.out.below hbn
  replace Xr : Hid _ := Xr.out.below hbn
  replace Xx : Hid _ := Xx.out.below hbn
  replace Xy : Hid _ := Xy.out.below hbn
  replace Z5 : Hid _ := Z5.out.below hbn
  replace Z6 : Hid _ := Z6.out.below hbn
  replace Z7 : Hid _ := Z7.out.below hbn
  replace hbw := Below.on hbw hbn
  clear hbn
  generalize v7.heap.size = gq at *
  have Xq := Xq0
  clear Xq0
  clear Xx
  clear Xy
  clear Z5
  clear Z6
  have HRL : Hid (gr < Wq.heap.size ∧ w.heap.size ≤ Wq.heap.size) := ⟨Xr.out.lt, hbw.size⟩
  refine (make_any Z7.out HG.out.2 (TB.out.below hbw)).mono ?_
  rintro e2 v6 ⟨v, zo, eo, rfl, hv, hfm, hdv, hle, hor, hb6⟩
  obtain ⟨p6, m6, z6, rfl, ho6, hn6, hm6⟩ := hv
  replace Xa : Hid _ := Xa.out.below hb6
  replace Xb : Hid _ := Xb.out.below hb6
  replace Xr : Hid _ := Xr.out.below hb6
  replace Xq : Hid _ := Xq.out.below hb6
  replace Z7 : Hid _ := Z7.out.below hb6
  replace hbw := Below.on hbw hb6
  clear hb6
  have O6 : Hid (Own Wq.heap.size v6 p6 m6 z6) := ho6
  have N6 : Hid (Nf B64 z6 zo.natAbs ∧ m6 ≤ 8192 ∧ DFm zo eo ∧ dv zo eo = dv (X + Y) (g) ∧ zo.natAbs ≤ (X + Y).natAbs ∧ (zo = 0 ∨ (g ≤ eo ∧ eo ≤ g + 524288))) := ⟨hn6, hm6, hfm, hdv, hle, hor⟩
  clear ho6 hn6 hm6 hfm hdv hle hor
  obtain ⟨so, hso⟩ : ∃ b, b = decide (zo < 0) := ⟨_, rfl⟩
  rw [← hso]
  have HSO : Hid (so = decide (zo < 0)) := hso
  clear hso
  obtain ⟨cr0, cr1, cr2, fr0, fr1, fr2⟩ := Xr.out
  have hner : gr < v6.heap.size := World.block_lt_of_cell? v6 _ cr0
  go_wp2_with fail
  refine bodyPost_ret (v := .tuple #[DV so p6 m6 m6 eo, .int .i64 0]) (by rw [results_cell_tmp rfl]; go_simp) rfl ⟨_, zo, eo, rfl, ⟨p6, m6, z6, by rw [HSO.out], ?_, N6.out.1, N6.out.2.1⟩, N6.out.2.2.1, N6.out.2.2.2.1, N6.out.2.2.2.2.1, N6.out.2.2.2.2.2, ?_⟩
  · exact own_set3 O6.out HRL.out.1 HRL.out.2 _ _ _
  · exact bSet (bSet (bSet hbw _ _ _ HGr.out) _ _ _ HGr.out) _ _ _ HGr.out
theorem dcopied {p : Option Addr} {m c : Nat} {xs : List Nat} {w : World} {e : Int} (s : Bool) (h : At w p m c xs) (hm : m ≤ 8192) :
    Calls Tryz.prog 36 #[DV s p m c e] w fun en w' => ∃ p', en = .returned (DV s p' m m e) ∧ Own w.heap.size w' p' m xs ∧ Below w.heap.size w w' := by
  have H : Hid (At w p m c xs) := h
  have HM : Hid (m ≤ 8192) := hm
  have HLX : Hid (xs.length = m) := h.len
  have HDG : Hid (Dig B64 xs) := h.dig
  obtain ⟨i0, hi, hz0, hz1, hz2⟩ := info_parts Tryz.infoU64
  clear h hm
  go_enter Tryz.func36, Tryz.ntmps36
  go_wp2_with (first
    | (at_make
       obtain ⟨W0, hW0⟩ : ∃ W0, W0 = ((w.alloc (.cells #[.bool s, .slice p m c, .int .i64 e] 27)).alloc (.cells #[.bool false, .slice none 0 0, .int .i64 0] 27)) := ⟨_, rfl⟩
       have Xd : Hid (B3q W0 (w.heap.size) (.bool s) (.slice p m c) (.int .i64 e)) := by rw [hW0]; exact ⟨by go_simp, by go_simp, by go_simp, by go_simp, by go_simp, by go_simp⟩
       have Xr : Hid (B3q W0 (w.heap.size + 1) (.bool false) (.slice none 0 0) (.int .i64 0)) := by rw [hW0]; exact ⟨by go_simp, by go_simp, by go_simp, by go_simp, by go_simp, by go_simp⟩
       have hb0 : Below w.heap.size w W0 := by rw [hW0]; exact below2 w _ _
       rw [← hW0]
       clear hW0
       have hbw : Below w.heap.size w w := Below.refl _ _
       obtain ⟨gr, hgr⟩ : ∃ g, g = w.heap.size + 1 := ⟨_, rfl⟩
       have HGr : Hid (w.heap.size ≤ gr) := by rw [hgr]; show _ ≤ _; omega
       rw [← hgr] at Xr
       try rw [← hgr]
       obtain ⟨gd, hgd⟩ : ∃ g, g = w.heap.size := ⟨_, rfl⟩
       have HGd : Hid (w.heap.size ≤ gd) := by rw [hgd]; show _ ≤ _; omega
       rw [← hgd] at Xd
       try rw [← hgd]
       have HGD : Hid (gd ≠ gr ∧ gr ≠ gd) := by rw [hgd, hgr]; exact ⟨by omega, by omega⟩
       clear hgd hgr
       replace hbw := Below.on hbw hb0
       clear hb0
       refine wpList_make_full _ rfl _ _ 23 rfl W0.heap.size 31 i0 (.int .u64 0) 1 Tryz.underlying23 hi hz0 hz1 _ _ _ _ m rfl rfl (by have := HM.out; omega) (by have := HM.out; omega) (by rw [hz2]; have := HM.out; omega) (by unfold maxLen; have := HM.out; omega) (Nat.le_refl _) ?_
       intro w1 hown hgrow
       have hb1 := made_blk hown hgrow
       have HBK : Hid (Blk w1 W0.heap.size (List.replicate m 0)) := hb1.1
       have HBL : Hid (Below W0.heap.size W0 w1) := hb1.2
       have hb2 := hb1.2
       have HRB : Hid (gr < W0.heap.size ∧ gd < W0.heap.size ∧ w.heap.size ≤ W0.heap.size) := ⟨Xr.out.lt, Xd.out.lt, hbw.size⟩
       have HA0 : Hid (At W0 p m c xs) := H.out.below hbw
       clear hown hgrow hb1
       have XD0 := Xd
       have XR0 := Xr
       have HW0 : Hid (Below w.heap.size w W0) := hbw
       replace Xd : Hid _ := Xd.out.below hb2
       replace Xr : Hid _ := Xr.out.below hb2
       replace hbw := Below.on hbw hb2
       clear hb2
       skip
       obtain ⟨cd0, cd1, cd2, fd0, fd1, fd2⟩ := Xd.out
       have hned : gd < w1.heap.size := World.block_lt_of_cell? w1 _ cd0
       obtain ⟨cr0, cr1, cr2, fr0, fr1, fr2⟩ := Xr.out
       have hner : gr < w1.heap.size := World.block_lt_of_cell? w1 _ cr0)
    | (refine wpList_copy_splice rfl (.tmp 9) (.tmp 12) 23 23 rfl 31 Tryz.underlying23 Tryz.sizeU64 (some ⟨W0.heap.size, 0, none⟩) p m m m c rfl rfl W0.heap.size 0 (cellsU (List.replicate m 0)) 31 HBK.out (cellsU xs) (by rw [cellsU_length, HLX.out]; exact (Nat.min_self m).symm) (fun h0 => ⟨rfl, (HA0.out.below HBL.out).src (by rw [cellsU_length, HLX.out] at h0; omega)⟩) (by simp [cellsU_length]; have := HLX.out; omega) (cellsU_one xs) W0.heap.size W0 HBL.out (Nat.le_refl _) ?_
       intro w2 hg2 hb2
       have HG2 : Hid (Blk w2 W0.heap.size xs) := by
         have h9 := hg2
         rw [splice_cellsU, HLX.out, Nat.sub_self, List.replicate_zero, List.append_nil] at h9
         exact h9
       have HB2 : Hid (Below W0.heap.size W0 w2) := hb2
       clear hg2 cd0 cd1 cd2 fd0 fd1 fd2 hned cr0 cr1 cr2 fr0 fr1 fr2 hner
       obtain ⟨cd0, cd1, cd2, fd0, fd1, fd2⟩ := XD0.out.below hb2
       have hned : gd < w2.heap.size := World.block_lt_of_cell? w2 _ cd0
       obtain ⟨cr0, cr1, cr2, fr0, fr1, fr2⟩ := XR0.out.below hb2
       have hner : gr < w2.heap.size := World.block_lt_of_cell? w2 _ cr0
       have hq1 : gd ≠ gr := HGD.out.1
       have hq2 : gr ≠ gd := HGD.out.2
       clear hb2))
  refine bodyPost_ret (v := DV s (some ⟨W0.heap.size, 0, none⟩) m m e) (by rw [results_cell1 rfl]; go_simp) rfl ⟨_, rfl, ?_, ?_⟩
  · have h9 : Own W0.heap.size w2 (some ⟨W0.heap.size, 0, none⟩) m xs := by
      have h8 := HG2.out.own HDG.out (Nat.le_refl _)
      rw [HLX.out] at h8
      exact h8
    exact ((((h9.setOld _ _ _ HRB.out.2.1).setOld _ _ _ HRB.out.1).setOld _ _ _ HRB.out.1).setOld _ _ _ HRB.out.1).mono HRB.out.2.2
  · exact bSet (bSet (bSet (bSet (Below.on HW0.out HB2.out) _ _ _ HGd.out) _ _ _ HGr.out) _ _ _ HGr.out) _ _ _ HGr.out
theorem dadd_x {p q : Option Addr} {m c n d : Nat} {w : World} {x y e f : Int} {s t : Bool} (h : DN w s p m c e x) (k : DN w t q n d f y) (hz : x = 0) :
    Calls Tryz.prog 21 #[DV s p m c e, DV t q n d f] w fun en w' => ∃ v, en = .returned (.tuple #[v, .int .i64 0]) ∧ AnsD w.heap.size w' v y f ∧ Below w.heap.size w w' := by
  have H : Hid (DN w s p m c e x) := h
  have K : Hid (DN w t q n d f y) := k
  have HZ : Hid (x = 0) := hz
  clear h k hz
  go_enter Tryz.func21, Tryz.ntmps21
  go_wp2_with fail
  obtain ⟨W0, hW0⟩ : ∃ W0, W0 = (((w.alloc (.cells #[.bool s, .slice p m c, .int .i64 e] 27)).alloc (.cells #[.bool t, .slice q n d, .int .i64 f] 27)).alloc (.cells #[.bool false, .slice none 0 0, .int .i64 0] 27)) := ⟨_, rfl⟩
  have Xa : Hid (B3q W0 (w.heap.size) (.bool s) (.slice p m c) (.int .i64 e)) := by rw [hW0]; exact ⟨by go_simp, by go_simp, by go_simp, by go_simp, by go_simp, by go_simp⟩
  have Xb : Hid (B3q W0 (w.heap.size + 1) (.bool t) (.slice q n d) (.int .i64 f)) := by rw [hW0]; exact ⟨by go_simp, by go_simp, by go_simp, by go_simp, by go_simp, by go_simp⟩
  have Xr : Hid (B3q W0 (w.heap.size + 1 + 1) (.bool false) (.slice none 0 0) (.int .i64 0)) := by rw [hW0]; exact ⟨by go_simp, by go_simp, by go_simp, by go_simp, by go_simp, by go_simp⟩
  have hb0 : Below w.heap.size w W0 := by rw [hW0]; exact below3 w _ _ _
  rw [← hW0]
  clear hW0
  have hbw : Below w.heap.size w w := Below.refl _ _
  obtain ⟨gr, hgr⟩ : ∃ g, g = w.heap.size + 1 + 1 := ⟨_, rfl⟩
  have HGr : Hid (w.heap.size ≤ gr) := by rw [hgr]; show _ ≤ _; omega
  rw [← hgr] at Xr
  try rw [← hgr]
  obtain ⟨gb, hgb⟩ : ∃ g, g = w.heap.size + 1 := ⟨_, rfl⟩
  have HGb : Hid (w.heap.size ≤ gb) := by rw [hgb]; show _ ≤ _; omega
  rw [← hgb] at Xb
  try rw [← hgb]
  obtain ⟨ga, hga⟩ : ∃ g, g = w.heap.size := ⟨_, rfl⟩
  have HGa : Hid (w.heap.size ≤ ga) := by rw [hga]; show _ ≤ _; omega
  rw [← hga] at Xa
  try rw [← hga]
  have HGD : Hid (ga ≠ gb ∧ ga ≠ gr ∧ gb ≠ ga ∧ gb ≠ gr ∧ gr ≠ ga ∧ gr ≠ gb) := by rw [hga, hgb, hgr]; exact ⟨by omega, by omega, by omega, by omega, by omega, by omega⟩
  clear hga hgb hgr
  replace hbw := Below.on hbw hb0
  clear hb0
  refine (dform_t (H.out.below hbw)).mono ?_
  rintro e v1 ⟨rfl, hb1⟩
  replace Xa : Hid _ := Xa.out.below hb1
  replace Xb : Hid _ := Xb.out.below hb1
  replace Xr : Hid _ := Xr.out.below hb1
  replace hbw := Below.on hbw hb1
  clear hb1
  obtain ⟨cb0, cb1, cb2, fb0, fb1, fb2⟩ := Xb.out
  have hneb : gb < v1.heap.size := World.block_lt_of_cell? v1 _ cb0
  go_wp2_with fail
  clear cb0 cb1 cb2 fb0 fb1 fb2 hneb
  refine (dform_t (K.out.below hbw)).mono ?_
  rintro e v2 ⟨rfl, hb2⟩
  replace Xa : Hid _ := Xa.out.below hb2
  replace Xb : Hid _ := Xb.out.below hb2
  replace Xr : Hid _ := Xr.out.below hb2
  replace hbw := Below.on hbw hb2
  clear hb2
  obtain ⟨ca0, ca1, ca2, fa0, fa1, fa2⟩ := Xa.out
  have hnea : ga < v2.heap.size := World.block_lt_of_cell? v2 _ ca0
  obtain ⟨cb0, cb1, cb2, fb0, fb1, fb2⟩ := Xb.out
  have hneb : gb < v2.heap.size := World.block_lt_of_cell? v2 _ cb0
  go_wp2_with fail
  clear ca0 ca1 ca2 fa0 fa1 fa2 hnea
  clear cb0 cb1 cb2 fb0 fb1 fb2 hneb
  refine (zsign (H.out.zn.below hbw)).mono ?_
  rintro e v3 ⟨rfl, hb3⟩
  rw [HZ.out, show sgnI 0 = 0 from rfl]
  replace Xa : Hid _ := Xa.out.below hb3
  replace Xb : Hid _ := Xb.out.below hb3
  replace Xr : Hid _ := Xr.out.below hb3
  replace hbw := Below.on hbw hb3
  clear hb3
  obtain ⟨cb0, cb1, cb2, fb0, fb1, fb2⟩ := Xb.out
  have hneb : gb < v3.heap.size := World.block_lt_of_cell? v3 _ cb0
  go_wp2_with fail
  clear cb0 cb1 cb2 fb0 fb1 fb2 hneb
  have HRL : Hid (gr < v3.heap.size ∧ w.heap.size ≤ v3.heap.size) := ⟨Xr.out.lt, hbw.size⟩
  obtain ⟨xs, hX⟩ := (K.out.zn.below hbw).ex
  refine (dcopied t hX.at_ hX.le).mono ?_
  rintro e2 v6 ⟨p6, rfl, ho6, hb6⟩
  have N6 : Hid (Nf B64 xs (y).natAbs ∧ n ≤ 8192) := ⟨hX.nf, hX.le⟩
  clear hX
  replace Xa : Hid _ := Xa.out.below hb6
  replace Xb : Hid _ := Xb.out.below hb6
  replace Xr : Hid _ := Xr.out.below hb6
  replace hbw := Below.on hbw hb6
  clear hb6
  have O6 : Hid (Own v3.heap.size v6 p6 n xs) := ho6
  clear ho6
  obtain ⟨cr0, cr1, cr2, fr0, fr1, fr2⟩ := Xr.out
  have hner : gr < v6.heap.size := World.block_lt_of_cell? v6 _ cr0
  go_wp2_with fail
  refine bodyPost_ret (v := .tuple #[DV t p6 n n f, .int .i64 0]) (by rw [results_cell_tmp rfl]; go_simp) rfl ⟨_, rfl, ⟨p6, n, xs, by rw [K.out.zn.sg], ?_, N6.out.1, N6.out.2⟩, ?_⟩
  · exact own_set3 O6.out HRL.out.1 HRL.out.2 _ _ _
  · exact bSet (bSet (bSet hbw _ _ _ HGr.out) _ _ _ HGr.out) _ _ _ HGr.out
theorem dadd_y {p q : Option Addr} {m c n d : Nat} {w : World} {x y e f : Int} {s t : Bool} (h : DN w s p m c e x) (k : DN w t q n d f y) (hz : x ≠ 0 ∧ y = 0) :
    Calls Tryz.prog 21 #[DV s p m c e, DV t q n d f] w fun en w' => ∃ v, en = .returned (.tuple #[v, .int .i64 0]) ∧ AnsD w.heap.size w' v x e ∧ Below w.heap.size w w' := by
  have H : Hid (DN w s p m c e x) := h
  have K : Hid (DN w t q n d f y) := k
  have HZ : Hid (x ≠ 0 ∧ y = 0) := hz
  clear h k hz
  go_enter Tryz.func21, Tryz.ntmps21
  go_wp2_with fail
  obtain ⟨W0, hW0⟩ : ∃ W0, W0 = (((w.alloc (.cells #[.bool s, .slice p m c, .int .i64 e] 27)).alloc (.cells #[.bool t, .slice q n d, .int .i64 f] 27)).alloc (.cells #[.bool false, .slice none 0 0, .int .i64 0] 27)) := ⟨_, rfl⟩
  have Xa : Hid (B3q W0 (w.heap.size) (.bool s) (.slice p m c) (.int .i64 e)) := by rw [hW0]; exact ⟨by go_simp, by go_simp, by go_simp, by go_simp, by go_simp, by go_simp⟩
  have Xb : Hid (B3q W0 (w.heap.size + 1) (.bool t) (.slice q n d) (.int .i64 f)) := by rw [hW0]; exact ⟨by go_simp, by go_simp, by go_simp, by go_simp, by go_simp, by go_simp⟩
  have Xr : Hid (B3q W0 (w.heap.size + 1 + 1) (.bool false) (.slice none 0 0) (.int .i64 0)) := by rw [hW0]; exact ⟨by go_simp, by go_simp, by go_simp, by go_simp, by go_simp, by go_simp⟩
  have hb0 : Below w.heap.size w W0 := by rw [hW0]; exact below3 w _ _ _
  rw [← hW0]
  clear hW0
  have hbw : Below w.heap.size w w := Below.refl _ _
  obtain ⟨gr, hgr⟩ : ∃ g, g = w.heap.size + 1 + 1 := ⟨_, rfl⟩
  have HGr : Hid (w.heap.size ≤ gr) := by rw [hgr]; show _ ≤ _; omega
  rw [← hgr] at Xr
  try rw [← hgr]
  obtain ⟨gb, hgb⟩ : ∃ g, g = w.heap.size + 1 := ⟨_, rfl⟩
  have HGb : Hid (w.heap.size ≤ gb) := by rw [hgb]; show _ ≤ _; omega
  rw [← hgb] at Xb
  try rw [← hgb]
  obtain ⟨ga, hga⟩ : ∃ g, g = w.heap.size := ⟨_, rfl⟩
  have HGa : Hid (w.heap.size ≤ ga) := by rw [hga]; show _ ≤ _; omega
  rw [← hga] at Xa
  try rw [← hga]
  have HGD : Hid (ga ≠ gb ∧ ga ≠ gr ∧ gb ≠ ga ∧ gb ≠ gr ∧ gr ≠ ga ∧ gr ≠ gb) := by rw [hga, hgb, hgr]; exact ⟨by omega, by omega, by omega, by omega, by omega, by omega⟩
  clear hga hgb hgr
  replace hbw := Below.on hbw hb0
  clear hb0
  refine (dform_t (H.out.below hbw)).mono ?_
  rintro e v1 ⟨rfl, hb1⟩
  replace Xa : Hid _ := Xa.out.below hb1
  replace Xb : Hid _ := Xb.out.below hb1
  replace Xr : Hid _ := Xr.out.below hb1
  replace hbw := Below.on hbw hb1
  clear hb1
  obtain ⟨cb0, cb1, cb2, fb0, fb1, fb2⟩ := Xb.out
  have hneb : gb < v1.heap.size := World.block_lt_of_cell? v1 _ cb0
  go_wp2_with fail
  clear cb0 cb1 cb2 fb0 fb1 fb2 hneb
  refine (dform_t (K.out.below hbw)).mono ?_
  rintro e v2 ⟨rfl, hb2⟩
  replace Xa : Hid _ := Xa.out.below hb2
  replace Xb : Hid _ := Xb.out.below hb2
  replace Xr : Hid _ := Xr.out.below hb2
  replace hbw := Below.on hbw hb2
  clear hb2
  obtain ⟨ca0, ca1, ca2, fa0, fa1, fa2⟩ := Xa.out
  have hnea : ga < v2.heap.size := World.block_lt_of_cell? v2 _ ca0
  obtain ⟨cb0, cb1, cb2, fb0, fb1, fb2⟩ := Xb.out
  have hneb : gb < v2.heap.size := World.block_lt_of_cell? v2 _ cb0
  go_wp2_with fail
  clear ca0 ca1 ca2 fa0 fa1 fa2 hnea
  clear cb0 cb1 cb2 fb0 fb1 fb2 hneb
  refine (zsign (H.out.zn.below hbw)).mono ?_
  rintro e v3 ⟨rfl, hb3⟩
  obtain ⟨sg3, hsg⟩ : ∃ sg, sg = sgnI (x) := ⟨_, rfl⟩
  rw [← hsg]
  have hs3 : (sg3 == 0) = false := by rw [hsg]; have := HZ.out.1; unfold sgnI; split <;> (try split) <;> simp <;> omega
  clear hsg
  replace Xa : Hid _ := Xa.out.below hb3
  replace Xb : Hid _ := Xb.out.below hb3
  replace Xr : Hid _ := Xr.out.below hb3
  replace hbw := Below.on hbw hb3
  clear hb3
  obtain ⟨cb0, cb1, cb2, fb0, fb1, fb2⟩ := Xb.out
  have hneb : gb < v3.heap.size := World.block_lt_of_cell? v3 _ cb0
  go_wp2_with fail
  clear cb0 cb1 cb2 fb0 fb1 fb2 hneb
  clear hs3
  refine (zsign (K.out.zn.below hbw)).mono ?_
  rintro e v4 ⟨rfl, hb4⟩
  rw [HZ.out.2, show sgnI 0 = 0 from rfl]
  replace Xa : Hid _ := Xa.out.below hb4
  replace Xb : Hid _ := Xb.out.below hb4
  replace Xr : Hid _ := Xr.out.below hb4
  replace hbw := Below.on hbw hb4
  clear hb4
  obtain ⟨ca0, ca1, ca2, fa0, fa1, fa2⟩ := Xa.out
  have hnea : ga < v4.heap.size := World.block_lt_of_cell? v4 _ ca0
  go_wp2_with fail
  clear ca0 ca1 ca2 fa0 fa1 fa2 hnea
  have HRL : Hid (gr < v4.heap.size ∧ w.heap.size ≤ v4.heap.size) := ⟨Xr.out.lt, hbw.size⟩
  obtain ⟨xs, hX⟩ := (H.out.zn.below hbw).ex
  refine (dcopied s hX.at_ hX.le).mono ?_
  rintro e2 v6 ⟨p6, rfl, ho6, hb6⟩
  have N6 : Hid (Nf B64 xs (x).natAbs ∧ m ≤ 8192) := ⟨hX.nf, hX.le⟩
  clear hX
  replace Xa : Hid _ := Xa.out.below hb6
  replace Xb : Hid _ := Xb.out.below hb6
  replace Xr : Hid _ := Xr.out.below hb6
  replace hbw := Below.on hbw hb6
  clear hb6
  have O6 : Hid (Own v4.heap.size v6 p6 m xs) := ho6
  clear ho6
  obtain ⟨cr0, cr1, cr2, fr0, fr1, fr2⟩ := Xr.out
  have hner : gr < v6.heap.size := World.block_lt_of_cell? v6 _ cr0
  go_wp2_with fail
  refine bodyPost_ret (v := .tuple #[DV s p6 m m e, .int .i64 0]) (by rw [results_cell_tmp rfl]; go_simp) rfl ⟨_, rfl, ⟨p6, m, xs, by rw [H.out.zn.sg], ?_, N6.out.1, N6.out.2⟩, ?_⟩
  · exact own_set3 O6.out HRL.out.1 HRL.out.2 _ _ _
  · exact bSet (bSet (bSet hbw _ _ _ HGr.out) _ _ _ HGr.out) _ _ _ HGr.out
theorem exp_bound {zo eo z e : Int} {L : Nat} (h0 : zo ≠ 0) (hle : e ≤ eo) (he : -4194304 ≤ e) (hv : dv zo eo = dv z e) (hz : z.natAbs < 2 ^ L) : eo - e < L := by
  rw [dv_shift hle he] at hv
  unfold dv at hv
  have h1 := Int.eq_of_mul_eq_mul_right (pow_pos_int _) hv
  have h2 : z.natAbs = zo.natAbs * 2 ^ (eo - e).toNat := by rw [← h1, Int.natAbs_mul, Int.natAbs_natCast]
  have h3 : 2 ^ (eo - e).toNat ≤ z.natAbs := by rw [h2]; exact Nat.le_mul_of_pos_left _ (by omega)
  have h4 := (Nat.pow_lt_pow_iff_right (by omega : 1 < 2)).1 (Nat.lt_of_le_of_lt h3 hz)
  omega
theorem pow_cast (n : Nat) : (2 : Int) ^ n = ((2 ^ n : Nat) : Int) := by norm_cast
theorem shl_bound {x : Int} {K a b : Nat} (hx : x.natAbs < 2 ^ K) (ha : a ≤ b) : (x * 2 ^ a).natAbs < 2 ^ (K + b) := by
  rw [Int.natAbs_mul, pow_cast, Int.natAbs_natCast, Nat.pow_add]
  have h1 : 2 ^ a ≤ 2 ^ b := Nat.pow_le_pow_right (by omega) ha
  have h2 : 0 < 2 ^ a := Nat.pow_pos (by omega)
  exact Nat.lt_of_lt_of_le (Nat.mul_lt_mul_of_pos_right hx h2) (Nat.mul_le_mul_left _ h1)
theorem lt_LIM {n L : Nat} (h : n < 2 ^ L) (hL : L ≤ 524288) : n < LIM := by
  refine (lim_bits n).2 ?_
  by_cases h0 : n = 0
  · rw [h0, bitsN_zero]; omega
  · have h1 := bitsN_le n h0
    have h2 := (Nat.pow_lt_pow_iff_right (by omega : 1 < 2)).1 (Nat.lt_of_le_of_lt h1 h)
    omega
structure DB (z e : Int) (K E : Nat) : Prop where
  fm : DFm z e
  sz : z.natAbs < 2 ^ K
  lo : -(E : Int) ≤ e
  hi : e ≤ E
theorem DB.mono {z e : Int} {K E K' E' : Nat} (h : DB z e K E) (hK : K ≤ K') (hE : E ≤ E') : DB z e K' E' :=
  ⟨h.fm, Nat.lt_of_lt_of_le h.sz (Nat.pow_le_pow_right (by omega) hK), by have := h.lo; omega, by have := h.hi; omega⟩
theorem sum_bound {X Y : Int} {L : Nat} (hX : X.natAbs < 2 ^ L) (hY : Y.natAbs < 2 ^ L) : (X + Y).natAbs < 2 ^ (L + 1) := by
  rw [Nat.pow_succ]; omega
theorem dadd_b {p q : Option Addr} {m c n d : Nat} {w : World} {x y e f : Int} {s t : Bool} {K E : Nat} (h : DN w s p m c e x) (k : DN w t q n d f y) (bx : DB x e K E) (by_ : DB y f K E) (hK : K + 2 * E + 1 ≤ 524288) (hT : Tab w) :
    Calls Tryz.prog 21 #[DV s p m c e, DV t q n d f] w fun en w' => ∃ v zo eo, en = .returned (.tuple #[v, .int .i64 0]) ∧ AnsD w.heap.size w' v zo eo ∧ DB zo eo (K + 2 * E + 1) (K + 3 * E + 1) ∧ dv zo eo = dv x e + dv y f ∧ Below w.heap.size w w' := by
  by_cases hx0 : x = 0
  · refine (dadd_x h k hx0).mono fun en w' ⟨v, he, ha, hb⟩ => ⟨v, y, f, he, ha, by_.mono (by omega) (by omega), ?_, hb⟩
    rw [hx0, dv_zero, Int.zero_add]
  · by_cases hy0 : y = 0
    · refine (dadd_y h k ⟨hx0, hy0⟩).mono fun en w' ⟨v, he, ha, hb⟩ => ⟨v, x, e, he, ha, bx.mono (by omega) (by omega), ?_, hb⟩
      rw [hy0, dv_zero, Int.add_zero]
    · obtain ⟨g, hg⟩ : ∃ g, g = min e f := ⟨_, rfl⟩
      have h1 := bx.lo; have h2 := bx.hi; have h3 := by_.lo; have h4 := by_.hi
      have hX := shl_bound (a := (e - g).toNat) (b := 2 * E) bx.sz (by omega)
      have hY := shl_bound (a := (f - g).toNat) (b := 2 * E) by_.sz (by omega)
      have hS := sum_bound hX hY
      refine (dadd_n h k hx0 hy0 hg (by omega) (lt_LIM hX (by omega)) (lt_LIM hY (by omega)) (lt_LIM hS (by omega)) hT).mono fun en w' ⟨v, zo, eo, he, ha, hfm, hdv, hle, hor, hb⟩ => ⟨v, zo, eo, he, ha, ⟨hfm, Nat.lt_of_le_of_lt hle hS, ?_, ?_⟩, ?_, hb⟩
      · rcases hor with h0 | ⟨h5, h6⟩
        · rcases hfm with ⟨_, h7⟩ | ⟨h7, _⟩ <;> omega
        · omega
      · rcases hor with h0 | ⟨h5, h6⟩
        · rcases hfm with ⟨_, h7⟩ | ⟨h7, _⟩ <;> omega
        · by_cases hz0 : zo = 0
          · rcases hfm with ⟨_, h7⟩ | ⟨h7, _⟩ <;> omega
          · have := exp_bound hz0 h5 (by omega) hdv hS
            omega
      · rw [hdv, dv_add, pow_cast, pow_cast, ← dv_shift (e := e) (f := g) (by omega) (by omega), ← dv_shift (e := f) (f := g) (by omega) (by omega)]
def rd (up : Bool) (z : Int) (d : Nat) : Int := if up then -((-z) / (d : Int)) else z / (d : Int)
theorem dv_up {x e : Int} (k : Nat) (he : -4194304 ≤ e) : dv x (e + k) = dv (x * ((2 ^ k : Nat) : Int)) e := by
  rw [dv_shift (e := e + k) (f := e) (by omega) he, show (e + (k : Int) - e).toNat = k from by omega]
def MakeP (B : Nat) (w' : World) (en : Ending) (z e : Int) : Prop :=
  (∃ v zo eo, en = .returned (.tuple #[v, .int .i64 0]) ∧ AnsD B w' v zo eo ∧ DFm zo eo ∧ dv zo eo = dv z e) ∨
  (en = .returned (.tuple #[DV false none 0 0 0, .int .i64 5]) ∧ ∀ zo eo, DFm zo eo → dv zo eo ≠ dv z e)
theorem MakeP.form {B : Nat} {w' : World} {en : Ending} {z e zo eo : Int} (h : MakeP B w' en z e) (hf : DFm zo eo) (hv : dv zo eo = dv z e) : ∃ v, en = .returned (.tuple #[v, .int .i64 0]) ∧ AnsD B w' v zo eo := by
  rcases h with ⟨v, z1, e1, h1, h2, h3, h4⟩ | ⟨_, h2⟩
  · obtain ⟨rfl, rfl⟩ := dv_inj h3 hf (h4.trans hv.symm)
    exact ⟨v, h1, h2⟩
  · exact absurd hv (h2 _ _ hf)
theorem odd_exp {z z' e e' : Int} (hz : z % 2 = 1) (hz' : z' % 2 = 1) (he : -4194304 ≤ e) (he' : -4194304 ≤ e') (h : dv z e = dv z' e') : e = e' := by
  unfold dv at h
  have h1 := odd_ne hz h
  have h2 := odd_ne hz' h.symm
  omega
theorem make_no {z e : Int} {k : Nat} (hz : z ≠ 0) (hk : TzO z.natAbs k) (he : -4194304 ≤ e) (hn : ¬ (-1048576 ≤ k + e ∧ k + e ≤ 1048576)) : ∀ zo eo, DFm zo eo → dv zo eo ≠ dv z e := by
  intro zo eo hf hv
  obtain ⟨h1, h2, _⟩ := tz_split hz hk
  generalize fl (decide (z < 0)) z.natAbs (2 ^ k) = o at *
  rw [← h2, ← dv_up k he] at hv
  rcases hf with ⟨rfl, rfl⟩ | ⟨h3, h4, h5⟩
  · rw [dv_zero] at hv
    have := dv_eq_zero hv.symm
    omega
  · have := odd_exp h3 h1 (by omega) (by omega) hv
    omega
def MP (B : Nat) (w' : World) (s : Bool) (p : Option Addr) (m : Nat) (eo er : Int) (z e : Int) : Prop :=
  (er = 0 ∧ ∃ zo zs, s = decide (zo < 0) ∧ Own B w' p m zs ∧ Nf B64 zs zo.natAbs ∧ m ≤ 8192 ∧ DFm zo eo ∧ dv zo eo = dv z e) ∨
  (er = 5 ∧ s = false ∧ p = none ∧ m = 0 ∧ eo = 0 ∧ ∀ zo eo, DFm zo eo → dv zo eo ≠ dv z e)
theorem MakeP.open {B : Nat} {w' : World} {en : Ending} {z e : Int} (h : MakeP B w' en z e) : ∃ s p m eo er, en = .returned (.tuple #[DV s p m m eo, .int .i64 er]) ∧ MP B w' s p m eo er z e := by
  rcases h with ⟨v, z1, e1, h1, ⟨p, m, zs, rfl, h2, h3, h4⟩, h5, h6⟩ | ⟨h1, h2⟩
  · exact ⟨_, p, m, e1, 0, h1, .inl ⟨rfl, z1, zs, rfl, h2, h3, h4, h5, h6⟩⟩
  · exact ⟨_, _, _, _, 5, h1, .inr ⟨rfl, rfl, rfl, rfl, rfl, h2⟩⟩
theorem MP.set {B b : Nat} {w' : World} {s : Bool} {p : Option Addr} {m : Nat} {eo er z e : Int} (h : MP B w' s p m eo er z e) {r : Nat} (hr : r < B) (hb : b ≤ B) (v0 v1 v2 : Value) : MP b (((w'.setCell ⟨r, 0, none⟩ v0).setCell ⟨r, 1, none⟩ v1).setCell ⟨r, 2, none⟩ v2) s p m eo er z e := by
  rcases h with ⟨h0, zo, zs, h1, h2, h3, h4, h5, h6⟩ | h
  · exact .inl ⟨h0, zo, zs, h1, own_set3 h2 hr hb v0 v1 v2, h3, h4, h5, h6⟩
  · exact .inr h
theorem MP.below {B : Nat} {w w' : World} {s : Bool} {p : Option Addr} {m : Nat} {eo er z e : Int} (h : MP B w s p m eo er z e) (hb : Below w.heap.size w w') : MP B w' s p m eo er z e := by
  rcases h with ⟨h0, zo, zs, h1, h2, h3, h4, h5, h6⟩ | h
  · exact .inl ⟨h0, zo, zs, h1, h2.below hb, h3, h4, h5, h6⟩
  · exact .inr h
theorem MakeP.mono {B b : Nat} {w' : World} {en : Ending} {z e : Int} (h : MakeP B w' en z e) (hb : b ≤ B) : MakeP b w' en z e := by
  rcases h with ⟨v, z1, e1, h1, ⟨p, m, zs, h8, h2, h3, h4⟩, h5, h6⟩ | h
  · exact .inl ⟨v, z1, e1, h1, ⟨p, m, zs, h8, h2.mono hb, h3, h4⟩, h5, h6⟩
  · exact .inr h
end Go.Proofs.YtalnikjjdgjddaaGreatDoor
