import Derived.Test.YtfmbifocgljieaaGreatDoorJ10
import Derived.Test.YtfmbifocgljieaaGreatDoorJ9
import Derived.Test.YtfmbifocgljieaaGreatDoorJ8
import Derived.Deep.DeepCutAuto
import Derived.BigQuiet
namespace Go.Proofs.YtfmbifocgljieaaGreatDoor
open Go.RowKit Go.Shelf
set_option maxRecDepth 20000
set_option maxHeartbeats 0
structure RAddR (w : World) (g N M : Nat) (xs ys : List Nat) (i cy : Nat) (ss : List Nat) (wr : World) : Prop where
  bel : Below g w wr
  own : wr.ownsRow g 171 1 (.slice (some ⟨g, 0, none⟩) i N) i (cellsV ss)
  len : ss.length = i
  dig : Dig B32 ss
  car : cy ≤ 1
  fin : i ≤ M + 1
  last : i = M + 1 → cy = 0
  sum : valB B32 ss + B32 ^ i * cy = valB B32 (xs.take i) + valB B32 (ys.take i)
theorem radd_step {xs ys ss : List Nat} {i cy x y lo hh : Nat} (h : valB B32 ss + B32 ^ i * cy = valB B32 (xs.take i) + valB B32 (ys.take i)) (hl : ss.length = i) (ex : x = xs.getD i 0) (ey : y = ys.getD i 0) (hs : cy + x + y = lo + B32 * hh) :
    valB B32 (ss ++ [lo]) + B32 ^ (i + 1) * hh = valB B32 (xs.take (i + 1)) + valB B32 (ys.take (i + 1)) := by
  rw [valB_snoc, hl, valB_take_any _ xs i, valB_take_any _ ys i, ← ex, ← ey, Nat.pow_succ]
  have e1 : B32 ^ i * (cy + x + y) = B32 ^ i * (lo + B32 * hh) := by rw [hs]
  rw [Nat.mul_add, Nat.mul_add, Nat.mul_add, ← Nat.mul_assoc] at e1
  omega
theorem RAddR.at_ {w : World} {g N M : Nat} {xs ys : List Nat} {i cy : Nat} {ss : List Nat} {wr : World} (h : RAddR w g N M xs ys i cy ss wr) : At32 wr (some ⟨g, 0, none⟩) i N ss := by
  rcases h.own.2 with ⟨h', _⟩ | ⟨g', cap', cur, h', hbase, hgc, hcap', hmx, hsz, htake⟩
  · simp at h'
  · simp only [Value.slice.injEq, Option.some.injEq, Addr.mk.injEq, and_true, true_and] at h'
    obtain ⟨rfl, rfl⟩ := h'
    refine ⟨h.len, hcap', hmx, h.dig, .inr ⟨g, 0, rfl, fun jj hj => ?_⟩⟩
    rw [Nat.zero_add, cell_of_row wr g jj _ _ _ hgc]
    have e1 := cellsV_get ss jj (by rw [h.len]; exact hj)
    rw [← htake, Nat.mul_one, List.getElem?_take, if_pos hj] at e1
    rw [← Array.getElem?_toList]; exact e1
theorem one_cell (w : World) (x : Nat) : ∀ (j : Nat) (u : Value), [V x][j]? = some u → (w.alloc (.cells #[V x] 171)).cell? ((⟨w.heap.size, 0, none⟩ : Addr).add j) = some u := by
  intro j u h
  have hb : Blk32 (w.alloc (.cells #[V x] 171)) w.heap.size [x] := heap_alloc_new w _
  have hj : j < 1 := by
    have := (List.getElem?_eq_some_iff.1 h).1
    simpa using this
  have hadd : (⟨w.heap.size, 0, none⟩ : Addr).add j = ⟨w.heap.size, j, none⟩ := by unfold Addr.add; split <;> simp_all
  rw [hadd, hb.cell j (by simpa using hj)]
  obtain rfl : j = 0 := by omega
  simpa using h

theorem radd_any {p q : Option Addr} {n m c d : Nat} {xs ys : List Nat} {a b : Nat} {w : World} (h : At32 w p n c xs) (k : At32 w q m d ys) (hx : Nf B32 xs a) (hy : Nf B32 ys b) (hn : n ≤ 4398046511104) (hm : m ≤ 4398046511104) :
    Calls Tryz.prog 106 #[.slice p n c, .slice q m d] w fun e w' => ∃ p' m' zs, e = .returned (.slice p' m' m') ∧ At32 w' p' m' m' zs ∧ Nf B32 zs (a + b) ∧ Below w.heap.size w w' := by
  obtain ⟨i0, hi, hz0, hz1, hz2⟩ := info_parts Tryz.infoU32
  have HX : Hid (Nf B32 xs a) := hx
  have HY : Hid (Nf B32 ys b) := hy
  have HLX : Hid (xs.length = n) := h.len
  have HLY : Hid (ys.length = m) := k.len
  have hcap := h.cap; have hbig := h.big; have kcap := k.cap; have kbig := k.big
  unfold maxLen at hbig kbig
  obtain ⟨M, hM⟩ : ∃ M, M = max n m := ⟨_, rfl⟩
  have hM1 : n ≤ M := by omega
  have hM2 : m ≤ M := by omega
  have HM : Hid (M = n ∨ M = m) := by show _ ∨ _; omega
  have hMi : max (n : Int) (m : Int) = (M : Int) := by omega
  have hMb : M ≤ 4398046511104 := by omega
  clear hx hy hM
  go_enter Tryz.func106, Tryz.ntmps106
  go_wp2_with (at_make; refine wpList_make_own _ rfl _ _ 102 rfl w.heap.size 171 i0 (.int .u32 0) 1 Tryz.underlying102 hi hz0 hz1 _ _ _ (M + 1) rfl rfl (by omega) (by rw [hz2]; omega) (by unfold maxLen; omega) (Nat.le_refl _) ?_; intro w1 hown hgrow)
  have hb1 : Below w.heap.size w w1 := (Below.refl _ _).grown hgrow (Nat.le_refl _) (fun k hk => by simp at hk)
  have HO : Hid (RAddR w w.heap.size (M + 1) M xs ys 0 0 [] w1) := ⟨hb1, hown, rfl, Dig.nil _, by omega, by omega, fun _ => rfl, by simp [valB]⟩
  clear hown hgrow hb1 hMi
  obtain ⟨N, hN⟩ : ∃ N, N = M + 1 := ⟨_, rfl⟩
  rw [← hN] at HO ⊢
  have HN : Hid (N = M + 1) := hN
  clear hN
  -- the loop
  go_loopg [5, 6, 7] (M + 1) (fun gk sv cv iv wr => ∃ (i cy : Nat) (ss : List Nat), i + gk = M + 1 ∧ iv = .int .i64 i ∧ cv = U cy ∧ sv = .slice (some ⟨w.heap.size, 0, none⟩) i N ∧ Hid (RAddR w w.heap.size N M xs ys i cy ss wr))
  case atStart => exact ⟨0, 0, [], by omega, rfl, rfl, rfl, HO⟩
  case round =>
    obtain ⟨i, cy, ss, hig, rfl, rfl, rfl, HR⟩ := hrel
    have hcy := HR.out.car
    by_cases hall : ¬ i < n ∧ ¬ i < m ∧ cy = 0
    · obtain ⟨ha, hb, rfl⟩ := hall
      have A32 := HR.out.at_
      have hv := HR.out.sum
      rw [Nat.mul_zero, Nat.add_zero, List.take_of_length_le (by rw [HLX.out]; omega), List.take_of_length_le (by rw [HLY.out]; omega), HX.out.val, HY.out.val] at hv
      have HNF : Hid (Nf B32 (trimL ss) (a + b)) := by
        have := Nf.trim HR.out.dig
        rw [hv] at this; exact this
      have hle := trimL_length_le ss
      have HLE : Hid ((trimL ss).length ≤ M + 1) := by have := HR.out.len; have := HR.out.fin; show _ ≤ _; omega
      have hib := HR.out.fin
      have hbx := HR.out.bel
      have hc0 : ¬ (0 : Int) < ((0 : Nat) : Int) := by omega
      clear hv hle
      go_wp2_with fail
      refine (rnorm_any A32 (by omega)).mono ?_
      rintro e w5 ⟨g5, rfl, hg5, hblk5, hb5⟩
      have hd5 := HNF.out.dig
      generalize trimL ss = zs at *
      go_wp2_with fail
      go_ret
      exact ⟨_, _, zs, rfl, hblk5.at_ hd5 rfl (by have := HLE.out; unfold maxLen; omega), HNF.out, Below.on hbx hb5⟩
    · obtain ⟨x, hx⟩ : ∃ x, x = xs.getD i 0 := ⟨_, rfl⟩
      obtain ⟨y, hy⟩ : ∃ y, y = ys.getD i 0 := ⟨_, rfl⟩
      have hxb : x < B32 := by rw [hx]; exact HX.out.dig.getD B32_pos i
      have hyb : y < B32 := by rw [hy]; exact HY.out.dig.getD B32_pos i
      have HXE : Hid (x = xs.getD i 0) := hx
      have HYE : Hid (y = ys.getD i 0) := hy
      clear hx hy
      cases gk with
      | zero =>
        exfalso
        have h1 := HR.out.last (by omega)
        exact hall ⟨by omega, by omega, h1⟩
      | succ gg =>
        by_cases ha : i < n
        · by_cases hb : i < m
          · have hin : i < n := ha
            obtain ⟨g, off, rfl, hc⟩ := h.cells.resolve_left (by omega)
            have hcx0 : w.cell? ⟨g, off + i, none⟩ = some (V x) := by rw [HXE.out]; exact hc i hin
            have hcx : wr.cell? ⟨g, off + i, none⟩ = some (V x) := (HR.out.bel.cell (p := ⟨g, off + i, none⟩) (World.block_lt_of_cell? w _ hcx0)).trans hcx0
            have hxw : IntKind.u64.wrap (x : Int) = (x : Int) := wrap_mod _ _ (by rw [B32_eq] at hxb; omega)
            clear hc hcx0
            have him : i < m := hb
            obtain ⟨g2, off2, rfl, hc2⟩ := k.cells.resolve_left (by omega)
            have hcy0 : w.cell? ⟨g2, off2 + i, none⟩ = some (V y) := by rw [HYE.out]; exact hc2 i him
            have hcy1 : wr.cell? ⟨g2, off2 + i, none⟩ = some (V y) := (HR.out.bel.cell (p := ⟨g2, off2 + i, none⟩) (World.block_lt_of_cell? w _ hcy0)).trans hcy0
            have hyw : IntKind.u64.wrap (y : Int) = (y : Int) := wrap_mod _ _ (by rw [B32_eq] at hyb; omega)
            clear hc2 hcy0
            obtain ⟨t1, et1⟩ : ∃ t1, t1 = cy + x := ⟨_, rfl⟩
            obtain ⟨t2, et2⟩ : ∃ t2, t2 = t1 + y := ⟨_, rfl⟩
            rw [B32_eq] at hxb hyb
            have f1 : IntKind.u64.wrap ((cy : Int) + (x : Int)) = (t1 : Int) := wrap_mod _ _ (by omega)
            have f2 : IntKind.u64.wrap ((t1 : Int) + (y : Int)) = (t2 : Int) := wrap_mod _ _ (by omega)
            have ht2 : t2 < 18446744073709551616 := by omega
            obtain ⟨lo, elo⟩ : ∃ lo, lo = t2 % B32 := ⟨_, rfl⟩
            obtain ⟨hh, ehh⟩ : ∃ hh, hh = t2 / B32 := ⟨_, rfl⟩
            have hlob : lo < B32 := by rw [elo]; exact Nat.mod_lt _ B32_pos
            have hhb : hh ≤ 1 := by rw [ehh, B32_eq]; omega
            have f4 : bits .and .u64 (t2 : Int) 4294967295 = (lo : Int) := by rw [elo, B32_eq]; exact and32 t2 ht2
            have f5 : (t2 : Int) / 4294967296 = (hh : Int) := by rw [ehh, B32_eq]; exact div32 t2
            have f6 : IntKind.u32.wrap (lo : Int) = (lo : Int) := wrap32 lo hlob
            have HSUM : Hid (cy + x + y = lo + B32 * hh) := by
              have := Nat.mod_add_div t2 B32
              rw [← elo, ← ehh] at this
              show _ = _; omega
            have HLAST : Hid (i + 1 = M + 1 → hh = 0) := by
              intro hl
              exfalso; omega
            have HI1 : Hid (i + 1 ≤ M + 1) := by
              have h1 := HR.out.fin; have h2 := HR.out.last
              show _ ≤ _; omega
            have HOA : Hid ((wr.alloc (.cells #[V lo] 171)).ownsRow w.heap.size 171 1 (.slice (some ⟨w.heap.size, 0, none⟩) i N) i (cellsV ss)) := HR.out.own.alloc _
            have hsp : i + 1 ≤ N := by have := HI1.out; have := HN.out; omega
            clear et1 et2 elo ehh hxb hyb
            go_wp2_with (at_builtin; refine wpList_append_fits _ rfl (.tmp 53) (.tmp 57) 102 rfl w.heap.size 171 i0 1 Tryz.underlying102 hi hz1 w.heap.size i N (cellsV ss) rfl HOA.out ⟨wr.heap.size, 0, none⟩ 1 1 [V lo] rfl rfl (one_cell wr lo) (by intro u hu; simp at hu; subst hu; rfl) hsp ?_; intro w3 hw3 hgr3)
            have HR3 : Hid (RAddR w w.heap.size N M xs ys (i + 1) hh (ss ++ [lo]) w3) := by
              have hR := HR.out
              refine ⟨(hR.bel.alloc hR.bel.size _).grown hgr3 (by have := hR.bel.size; simp; omega) (fun q hq => by simp at hq; omega), ?_, by simp [hR.len], hR.dig.append (Dig.cons hlob (Dig.nil _)), hhb, HI1.out, HLAST.out, radd_step hR.sum hR.len HXE.out HYE.out HSUM.out⟩
              have e0 : cellsV (ss ++ [lo]) = cellsV ss ++ [V lo] := by unfold cellsV; rw [List.map_append]; rfl
              rw [e0]; exact hw3
            clear hw3 hgr3
            go_roundg gg
            case measure => omega
            case rel => exact ⟨i + 1, hh, ss ++ [lo], by omega, by go_num, rfl, rfl, HR3⟩
          · have hin : i < n := ha
            obtain ⟨g, off, rfl, hc⟩ := h.cells.resolve_left (by omega)
            have hcx0 : w.cell? ⟨g, off + i, none⟩ = some (V x) := by rw [HXE.out]; exact hc i hin
            have hcx : wr.cell? ⟨g, off + i, none⟩ = some (V x) := (HR.out.bel.cell (p := ⟨g, off + i, none⟩) (World.block_lt_of_cell? w _ hcx0)).trans hcx0
            have hxw : IntKind.u64.wrap (x : Int) = (x : Int) := wrap_mod _ _ (by rw [B32_eq] at hxb; omega)
            clear hc hcx0
            have hy0 : y = 0 := by rw [HYE.out, List.getD_eq_getElem?_getD, List.getElem?_eq_none (by rw [HLY.out]; omega)]; rfl
            obtain ⟨t1, et1⟩ : ∃ t1, t1 = cy + x := ⟨_, rfl⟩
            obtain ⟨t2, et2⟩ : ∃ t2, t2 = t1 + y := ⟨_, rfl⟩
            rw [B32_eq] at hxb hyb
            have f1 : IntKind.u64.wrap ((cy : Int) + (x : Int)) = (t1 : Int) := wrap_mod _ _ (by omega)
            obtain rfl : t2 = t1 := by omega
            have ht2 : t2 < 18446744073709551616 := by omega
            obtain ⟨lo, elo⟩ : ∃ lo, lo = t2 % B32 := ⟨_, rfl⟩
            obtain ⟨hh, ehh⟩ : ∃ hh, hh = t2 / B32 := ⟨_, rfl⟩
            have hlob : lo < B32 := by rw [elo]; exact Nat.mod_lt _ B32_pos
            have hhb : hh ≤ 1 := by rw [ehh, B32_eq]; omega
            have f4 : bits .and .u64 (t2 : Int) 4294967295 = (lo : Int) := by rw [elo, B32_eq]; exact and32 t2 ht2
            have f5 : (t2 : Int) / 4294967296 = (hh : Int) := by rw [ehh, B32_eq]; exact div32 t2
            have f6 : IntKind.u32.wrap (lo : Int) = (lo : Int) := wrap32 lo hlob
            have HSUM : Hid (cy + x + y = lo + B32 * hh) := by
              have := Nat.mod_add_div t2 B32
              rw [← elo, ← ehh] at this
              show _ = _; omega
            have HLAST : Hid (i + 1 = M + 1 → hh = 0) := by
              intro hl
              exfalso; omega
            have HI1 : Hid (i + 1 ≤ M + 1) := by
              have h1 := HR.out.fin; have h2 := HR.out.last
              show _ ≤ _; omega
            have HOA : Hid ((wr.alloc (.cells #[V lo] 171)).ownsRow w.heap.size 171 1 (.slice (some ⟨w.heap.size, 0, none⟩) i N) i (cellsV ss)) := HR.out.own.alloc _
            have hsp : i + 1 ≤ N := by have := HI1.out; have := HN.out; omega
            clear et1 et2 elo ehh hxb hyb
            go_wp2_with (at_builtin; refine wpList_append_fits _ rfl (.tmp 53) (.tmp 57) 102 rfl w.heap.size 171 i0 1 Tryz.underlying102 hi hz1 w.heap.size i N (cellsV ss) rfl HOA.out ⟨wr.heap.size, 0, none⟩ 1 1 [V lo] rfl rfl (one_cell wr lo) (by intro u hu; simp at hu; subst hu; rfl) hsp ?_; intro w3 hw3 hgr3)
            have HR3 : Hid (RAddR w w.heap.size N M xs ys (i + 1) hh (ss ++ [lo]) w3) := by
              have hR := HR.out
              refine ⟨(hR.bel.alloc hR.bel.size _).grown hgr3 (by have := hR.bel.size; simp; omega) (fun q hq => by simp at hq; omega), ?_, by simp [hR.len], hR.dig.append (Dig.cons hlob (Dig.nil _)), hhb, HI1.out, HLAST.out, radd_step hR.sum hR.len HXE.out HYE.out HSUM.out⟩
              have e0 : cellsV (ss ++ [lo]) = cellsV ss ++ [V lo] := by unfold cellsV; rw [List.map_append]; rfl
              rw [e0]; exact hw3
            clear hw3 hgr3
            go_roundg gg
            case measure => omega
            case rel => exact ⟨i + 1, hh, ss ++ [lo], by omega, by go_num, rfl, rfl, HR3⟩
        · by_cases hb : i < m
          · have him : i < m := hb
            obtain ⟨g2, off2, rfl, hc2⟩ := k.cells.resolve_left (by omega)
            have hcy0 : w.cell? ⟨g2, off2 + i, none⟩ = some (V y) := by rw [HYE.out]; exact hc2 i him
            have hcy1 : wr.cell? ⟨g2, off2 + i, none⟩ = some (V y) := (HR.out.bel.cell (p := ⟨g2, off2 + i, none⟩) (World.block_lt_of_cell? w _ hcy0)).trans hcy0
            have hyw : IntKind.u64.wrap (y : Int) = (y : Int) := wrap_mod _ _ (by rw [B32_eq] at hyb; omega)
            clear hc2 hcy0
            have hx0 : x = 0 := by rw [HXE.out, List.getD_eq_getElem?_getD, List.getElem?_eq_none (by rw [HLX.out]; omega)]; rfl
            obtain ⟨t1, et1⟩ : ∃ t1, t1 = cy + x := ⟨_, rfl⟩
            obtain ⟨t2, et2⟩ : ∃ t2, t2 = t1 + y := ⟨_, rfl⟩
            rw [B32_eq] at hxb hyb
            obtain rfl : t1 = cy := by omega
            have f2 : IntKind.u64.wrap ((t1 : Int) + (y : Int)) = (t2 : Int) := wrap_mod _ _ (by omega)
            have ht2 : t2 < 18446744073709551616 := by omega
            obtain ⟨lo, elo⟩ : ∃ lo, lo = t2 % B32 := ⟨_, rfl⟩
            obtain ⟨hh, ehh⟩ : ∃ hh, hh = t2 / B32 := ⟨_, rfl⟩
            have hlob : lo < B32 := by rw [elo]; exact Nat.mod_lt _ B32_pos
            have hhb : hh ≤ 1 := by rw [ehh, B32_eq]; omega
            have f4 : bits .and .u64 (t2 : Int) 4294967295 = (lo : Int) := by rw [elo, B32_eq]; exact and32 t2 ht2
            have f5 : (t2 : Int) / 4294967296 = (hh : Int) := by rw [ehh, B32_eq]; exact div32 t2
            have f6 : IntKind.u32.wrap (lo : Int) = (lo : Int) := wrap32 lo hlob
            have HSUM : Hid (t1 + x + y = lo + B32 * hh) := by
              have := Nat.mod_add_div t2 B32
              rw [← elo, ← ehh] at this
              show _ = _; omega
            have HLAST : Hid (i + 1 = M + 1 → hh = 0) := by
              intro hl
              exfalso; omega
            have HI1 : Hid (i + 1 ≤ M + 1) := by
              have h1 := HR.out.fin; have h2 := HR.out.last
              show _ ≤ _; omega
            have HOA : Hid ((wr.alloc (.cells #[V lo] 171)).ownsRow w.heap.size 171 1 (.slice (some ⟨w.heap.size, 0, none⟩) i N) i (cellsV ss)) := HR.out.own.alloc _
            have hsp : i + 1 ≤ N := by have := HI1.out; have := HN.out; omega
            clear et1 et2 elo ehh hxb hyb
            go_wp2_with (at_builtin; refine wpList_append_fits _ rfl (.tmp 53) (.tmp 57) 102 rfl w.heap.size 171 i0 1 Tryz.underlying102 hi hz1 w.heap.size i N (cellsV ss) rfl HOA.out ⟨wr.heap.size, 0, none⟩ 1 1 [V lo] rfl rfl (one_cell wr lo) (by intro u hu; simp at hu; subst hu; rfl) hsp ?_; intro w3 hw3 hgr3)
            have HR3 : Hid (RAddR w w.heap.size N M xs ys (i + 1) hh (ss ++ [lo]) w3) := by
              have hR := HR.out
              refine ⟨(hR.bel.alloc hR.bel.size _).grown hgr3 (by have := hR.bel.size; simp; omega) (fun q hq => by simp at hq; omega), ?_, by simp [hR.len], hR.dig.append (Dig.cons hlob (Dig.nil _)), hhb, HI1.out, HLAST.out, radd_step hR.sum hR.len HXE.out HYE.out HSUM.out⟩
              have e0 : cellsV (ss ++ [lo]) = cellsV ss ++ [V lo] := by unfold cellsV; rw [List.map_append]; rfl
              rw [e0]; exact hw3
            clear hw3 hgr3
            go_roundg gg
            case measure => omega
            case rel => exact ⟨i + 1, hh, ss ++ [lo], by omega, by go_num, rfl, rfl, HR3⟩
          · have hcp : 0 < cy := by
              rcases Nat.eq_zero_or_pos cy with e | e
              · exact absurd ⟨ha, hb, e⟩ hall
              · exact e
            have hcp' : (0 : Int) < (cy : Int) := by omega
            have hx0 : x = 0 := by rw [HXE.out, List.getD_eq_getElem?_getD, List.getElem?_eq_none (by rw [HLX.out]; omega)]; rfl
            have hy0 : y = 0 := by rw [HYE.out, List.getD_eq_getElem?_getD, List.getElem?_eq_none (by rw [HLY.out]; omega)]; rfl
            obtain ⟨t1, et1⟩ : ∃ t1, t1 = cy + x := ⟨_, rfl⟩
            obtain ⟨t2, et2⟩ : ∃ t2, t2 = t1 + y := ⟨_, rfl⟩
            rw [B32_eq] at hxb hyb
            obtain rfl : t1 = cy := by omega
            obtain rfl : t2 = t1 := by omega
            have ht2 : t2 < 18446744073709551616 := by omega
            obtain ⟨lo, elo⟩ : ∃ lo, lo = t2 % B32 := ⟨_, rfl⟩
            obtain ⟨hh, ehh⟩ : ∃ hh, hh = t2 / B32 := ⟨_, rfl⟩
            have hlob : lo < B32 := by rw [elo]; exact Nat.mod_lt _ B32_pos
            have hhb : hh ≤ 1 := by rw [ehh, B32_eq]; omega
            have f4 : bits .and .u64 (t2 : Int) 4294967295 = (lo : Int) := by rw [elo, B32_eq]; exact and32 t2 ht2
            have f5 : (t2 : Int) / 4294967296 = (hh : Int) := by rw [ehh, B32_eq]; exact div32 t2
            have f6 : IntKind.u32.wrap (lo : Int) = (lo : Int) := wrap32 lo hlob
            have HSUM : Hid (t2 + x + y = lo + B32 * hh) := by
              have := Nat.mod_add_div t2 B32
              rw [← elo, ← ehh] at this
              show _ = _; omega
            have HLAST : Hid (i + 1 = M + 1 → hh = 0) := by
              intro hl
              rw [ehh, B32_eq]; omega
            have HI1 : Hid (i + 1 ≤ M + 1) := by
              have h1 := HR.out.fin; have h2 := HR.out.last
              show _ ≤ _; omega
            have HOA : Hid ((wr.alloc (.cells #[V lo] 171)).ownsRow w.heap.size 171 1 (.slice (some ⟨w.heap.size, 0, none⟩) i N) i (cellsV ss)) := HR.out.own.alloc _
            have hsp : i + 1 ≤ N := by have := HI1.out; have := HN.out; omega
            clear et1 et2 elo ehh hxb hyb
            go_wp2_with (at_builtin; refine wpList_append_fits _ rfl (.tmp 53) (.tmp 57) 102 rfl w.heap.size 171 i0 1 Tryz.underlying102 hi hz1 w.heap.size i N (cellsV ss) rfl HOA.out ⟨wr.heap.size, 0, none⟩ 1 1 [V lo] rfl rfl (one_cell wr lo) (by intro u hu; simp at hu; subst hu; rfl) hsp ?_; intro w3 hw3 hgr3)
            have HR3 : Hid (RAddR w w.heap.size N M xs ys (i + 1) hh (ss ++ [lo]) w3) := by
              have hR := HR.out
              refine ⟨(hR.bel.alloc hR.bel.size _).grown hgr3 (by have := hR.bel.size; simp; omega) (fun q hq => by simp at hq; omega), ?_, by simp [hR.len], hR.dig.append (Dig.cons hlob (Dig.nil _)), hhb, HI1.out, HLAST.out, radd_step hR.sum hR.len HXE.out HYE.out HSUM.out⟩
              have e0 : cellsV (ss ++ [lo]) = cellsV ss ++ [V lo] := by unfold cellsV; rw [List.map_append]; rfl
              rw [e0]; exact hw3
            clear hw3 hgr3
            go_roundg gg
            case measure => omega
            case rel => exact ⟨i + 1, hh, ss ++ [lo], by omega, by go_num, rfl, rfl, HR3⟩
def sgnI (z : Int) : Int := if z < 0 then -1 else if z = 0 then 0 else 1
theorem bits_zero (a : Nat) : bitsN a = 0 ↔ a = 0 := by
  have h1 := lt_pow_bits a 0
  constructor
  · intro e
    have := h1.2 (by omega)
    omega
  · rintro rfl
    have := h1.1 (by omega)
    omega
theorem sign_any {p : Option Addr} {m c : Nat} {xs : List Nat} {a : Nat} {w : World} (s : Bool) (h : Num w p m c xs a) :
    Calls Tryz.prog 31 #[ZV s p m c] w fun e w' => e = .returned (.int .i64 (sgnI (iv s a))) ∧ Below w.heap.size w w' := by
  have H : Hid (Num w p m c xs a) := h
  have hm := h.le
  obtain ⟨bb, hbb⟩ : ∃ bb, bb = bitsN a := ⟨_, rfl⟩
  have HBB : Hid (bb = bitsN a) := hbb
  clear h hbb
  by_cases ha : a = 0
  · have hb0 : bb = 0 := by rw [HBB.out]; exact (bits_zero a).2 ha
    have hr : sgnI (iv s a) = 0 := by rw [ha]; cases s <;> rfl
    rw [hr]
    clear hr ha
    go_enter Tryz.func31, Tryz.ntmps31
    go_wp2_with fail
    refine (bits_any (H.out.at_.alloc _) (by omega)).mono ?_
    rintro e w1 ⟨rfl, hw⟩
    rw [H.out.nf.val, ← HBB.out, hb0]
    have hbw : Below w.heap.size w w1 := by rw [hw]; exact below1 w _
    clear hw hb0
    go_wp2_with fail
    go_ret
    exact ⟨rfl, hbw⟩
  · have hb0 : ((bb : Int) == 0) = false := by have := mt (bits_zero a).1 ha; rw [← HBB.out] at this; simpa using this
    obtain ⟨sg, hsg⟩ : ∃ sg, sg = sgnI (iv s a) := ⟨_, rfl⟩
    rw [← hsg]
    have HSG : Hid (sg = if s = true then -1 else 1) := by
      show _ = _
      rw [hsg]; unfold sgnI
      cases s
      · rw [iv_f, if_neg (by omega), if_neg (by omega), if_neg (by simp)]
      · rw [iv_t, if_pos (by omega), if_pos rfl]
    clear hsg ha
    cases s
    · go_enter Tryz.func31, Tryz.ntmps31
      go_wp2_with fail
      refine (bits_any (H.out.at_.alloc _) (by omega)).mono ?_
      rintro e w1 ⟨rfl, hw⟩
      rw [H.out.nf.val, ← HBB.out]
      have hbw : Below w.heap.size w w1 := by rw [hw]; exact below1 w _
      have B0 : Box (w.alloc (.cells #[.bool false, .slice p m c] 31)) w.heap.size (.bool false) (.slice p m c) := ⟨by go_simp, by go_simp, by go_simp, by go_simp⟩
      obtain ⟨c0, c1, f0, f1⟩ := B0
      rw [← hw] at c0 c1 f0 f1
      clear hw
      go_wp2_with fail
      go_ret
      exact ⟨by rw [HSG.out]; rfl, hbw⟩
    · go_enter Tryz.func31, Tryz.ntmps31
      go_wp2_with fail
      refine (bits_any (H.out.at_.alloc _) (by omega)).mono ?_
      rintro e w1 ⟨rfl, hw⟩
      rw [H.out.nf.val, ← HBB.out]
      have hbw : Below w.heap.size w w1 := by rw [hw]; exact below1 w _
      have B0 : Box (w.alloc (.cells #[.bool true, .slice p m c] 31)) w.heap.size (.bool true) (.slice p m c) := ⟨by go_simp, by go_simp, by go_simp, by go_simp⟩
      obtain ⟨c0, c1, f0, f1⟩ := B0
      rw [← hw] at c0 c1 f0 f1
      clear hw
      go_wp2_with fail
      go_ret
      exact ⟨by rw [HSG.out]; rfl, hbw⟩
theorem Box.put {W : World} {g : Nat} {v0 v1 : Value} (h : Box W g v0 v1) (u0 u1 : Value) : Box ((W.setCell ⟨g, 0, none⟩ u0).setCell ⟨g, 1, none⟩ u1) g u0 u1 := by
  obtain ⟨c0, c1, f0, f1⟩ := h
  exact ⟨by go_simp, by go_simp, by go_simp, by go_simp⟩
structure ZN (w : World) (s : Bool) (p : Option Addr) (m c : Nat) (z : Int) : Prop where
  ex : ∃ xs, Num w p m c xs z.natAbs
  sg : s = decide (z < 0)
theorem ZN.below {w w' : World} {s : Bool} {p : Option Addr} {m c : Nat} {z : Int} (h : ZN w s p m c z) (hb : Below w.heap.size w w') : ZN w' s p m c z := by
  obtain ⟨xs, hx⟩ := h.ex
  exact ⟨⟨xs, hx.below hb⟩, h.sg⟩
theorem ZN.iv {w : World} {s : Bool} {p : Option Addr} {m c : Nat} {z : Int} (h : ZN w s p m c z) : iv s z.natAbs = z := by rw [h.sg]; exact iv_abs z
theorem ZN.pos {w : World} {s : Bool} {p : Option Addr} {m c : Nat} {z : Int} (h : ZN w s p m c z) : s = true → 0 < z.natAbs := by rw [h.sg]; exact sgn_pos z
theorem ZN.lim {w : World} {s : Bool} {p : Option Addr} {m c : Nat} {z : Int} (h : ZN w s p m c z) : z.natAbs < LIM := by
  obtain ⟨xs, hx⟩ := h.ex
  exact hx.lim
theorem ZN.le {w : World} {s : Bool} {p : Option Addr} {m c : Nat} {z : Int} (h : ZN w s p m c z) : m ≤ 8192 := by
  obtain ⟨xs, hx⟩ := h.ex
  exact hx.le
theorem ZN.cast {w : World} {s : Bool} {p : Option Addr} {m c : Nat} {z z' : Int} (h : ZN w s p m c z) (e : z = z') : ZN w s p m c z' := e ▸ h
theorem ZN.of {w : World} {p : Option Addr} {m c : Nat} {xs : List Nat} {a : Nat} {t : Bool} (h : Num w p m c xs a) (ht : t = true → 0 < a) : ZN w t p m c (Go.Proofs.YtfmbifocgljieaaGreatDoor.iv t a) :=
  ⟨⟨xs, by rw [iv_natAbs]; exact h⟩, by
    cases t
    · rw [iv_f]; exact (decide_eq_false (Int.not_lt.2 (Int.natCast_nonneg _))).symm
    · rw [iv_t]; have := ht rfl; exact (decide_eq_true (by omega)).symm⟩
def Got (w' : World) (e : Ending) (z : Int) : Prop := ∃ s p m, e = .returned (.tuple #[ZV s p m m, .int .i64 0]) ∧ ZN w' s p m m z
theorem AnsZ.zn {B : Nat} {w' : World} {v : Value} {z : Int} (h : AnsZ B w' v z) : ∃ s p m, v = ZV s p m m ∧ ZN w' s p m m z := by
  obtain ⟨p, m, zs, rfl, ho, hn, hm⟩ := h
  exact ⟨_, p, m, rfl, ⟨zs, Num.of ho hn hm⟩, rfl⟩
theorem AnsI.zn {B : Nat} {w' : World} {e : Ending} {z : Int} (h : AnsI B w' e z) : (z.natAbs < LIM ∧ Got w' e z) ∨ (LIM ≤ z.natAbs ∧ e = .returned (.tuple #[ZV false none 0 0, .int .i64 5])) := by
  rcases h with ⟨hl, p, m, zs, rfl, ho, hn, hm⟩ | ⟨hl, rfl⟩
  · exact .inl ⟨hl, _, p, m, rfl, ⟨zs, Num.of ho hn hm⟩, rfl⟩
  · exact .inr ⟨hl, rfl⟩
variable {w : World} {s t : Bool} {p q : Option Addr} {m c n d : Nat} {x y : Int}
theorem zsign (h : ZN w s p m c x) : Calls Tryz.prog 31 #[ZV s p m c] w fun e w' => e = .returned (.int .i64 (sgnI x)) ∧ Below w.heap.size w w' := by
  obtain ⟨xs, hx⟩ := h.ex
  have := sign_any s hx
  rwa [h.iv] at this
theorem zform (h : ZN w s p m c x) : Calls Tryz.prog 65 #[ZV s p m c] w fun e w' => e = .returned (.bool true) ∧ Below w.heap.size w w' := by
  obtain ⟨xs, hx⟩ := h.ex
  exact numform_t s hx h.pos
structure B3q (W : World) (g : Nat) (v0 v1 v2 : Value) : Prop where
  c0 : W.cell? ⟨g, 0, none⟩ = some v0
  c1 : W.cell? ⟨g, 1, none⟩ = some v1
  c2 : W.cell? ⟨g, 2, none⟩ = some v2
  f0 : W.frozen? ⟨g, 0, none⟩ = false
  f1 : W.frozen? ⟨g, 1, none⟩ = false
  f2 : W.frozen? ⟨g, 2, none⟩ = false
theorem B3q.lt {w : World} {g : Nat} {a b c : Value} (h : B3q w g a b c) : g < w.heap.size := World.block_lt_of_cell? w _ h.c0
theorem B3q.below {W W' : World} {g : Nat} {v0 v1 v2 : Value} (h : B3q W g v0 v1 v2) (hb : Below W.heap.size W W') : B3q W' g v0 v1 v2 := by
  have hl : g < W.heap.size := World.block_lt_of_cell? W _ h.c0
  exact ⟨(hb.cell (p := ⟨g, 0, none⟩) hl).trans h.c0, (hb.cell (p := ⟨g, 1, none⟩) hl).trans h.c1, (hb.cell (p := ⟨g, 2, none⟩) hl).trans h.c2, (hb.frozen (p := ⟨g, 0, none⟩) hl).trans h.f0, (hb.frozen (p := ⟨g, 1, none⟩) hl).trans h.f1, (hb.frozen (p := ⟨g, 2, none⟩) hl).trans h.f2⟩
theorem B3q.new (w : World) (ty : TypeId) (v0 v1 v2 : Value) : B3q (w.alloc (.cells #[v0, v1, v2] ty)) w.heap.size v0 v1 v2 := ⟨by go_simp, by go_simp, by go_simp, by go_simp, by go_simp, by go_simp⟩
abbrev DV (s : Bool) (p : Option Addr) (m c : Nat) (e : Int) : Value := .agg #[.bool s, .slice p m c, .int .i64 e]
def DFm (z e : Int) : Prop := (z = 0 ∧ e = 0) ∨ (z % 2 = 1 ∧ -1048576 ≤ e ∧ e ≤ 1048576)
structure DN (w : World) (s : Bool) (p : Option Addr) (m c : Nat) (e z : Int) : Prop where
  zn : ZN w s p m c z
  fm : DFm z e
theorem DN.below {w w' : World} {s : Bool} {p : Option Addr} {m c : Nat} {e z : Int} (h : DN w s p m c e z) (hb : Below w.heap.size w w') : DN w' s p m c e z := ⟨h.zn.below hb, h.fm⟩
def dv (z e : Int) : Int := z * ((2 ^ (e + 4194304).toNat : Nat) : Int)
theorem pow_pos_int (k : Nat) : ((2 ^ k : Nat) : Int) ≠ 0 := by
  have : 0 < 2 ^ k := Nat.pow_pos (by omega)
  intro h
  have := Int.ofNat.inj h
  omega
theorem dpow_split {a b : Nat} (h : a ≤ b) : ((2 ^ b : Nat) : Int) = ((2 ^ (b - a) : Nat) : Int) * ((2 ^ a : Nat) : Int) := by
  have : 2 ^ b = 2 ^ (b - a) * 2 ^ a := by rw [← Nat.pow_add, Nat.sub_add_cancel h]
  rw [this, Int.natCast_mul]
theorem dv_zero (e : Int) : dv 0 e = 0 := by unfold dv; rw [Int.zero_mul]
theorem dv_eq_zero {z e : Int} (h : dv z e = 0) : z = 0 := by
  unfold dv at h
  exact (Int.mul_eq_zero.1 h).resolve_right (pow_pos_int _)
theorem odd_ne {z z' : Int} {a b : Nat} (hz : z % 2 = 1) (h : z * ((2 ^ a : Nat) : Int) = z' * ((2 ^ b : Nat) : Int)) : b ≤ a := by
  refine Nat.le_of_not_lt fun hlt => ?_
  rw [dpow_split (Nat.le_of_lt hlt), ← Int.mul_assoc] at h
  have h1 := Int.eq_of_mul_eq_mul_right (pow_pos_int a) h
  obtain ⟨k, hk⟩ : ∃ k, b - a = k + 1 := ⟨b - a - 1, by omega⟩
  rw [hk, Nat.pow_succ, Int.natCast_mul] at h1
  have h2 : z = (z' * ((2 ^ k : Nat) : Int)) * 2 := by rw [h1, Int.mul_assoc]; rfl
  generalize z' * ((2 ^ k : Nat) : Int) = q at h2
  omega
theorem dv_inj {z e z' e' : Int} (h : DFm z e) (h' : DFm z' e') (hv : dv z e = dv z' e') : z = z' ∧ e = e' := by
  rcases h with ⟨rfl, rfl⟩ | ⟨h1, h2, h3⟩
  · rw [dv_zero] at hv
    have := dv_eq_zero hv.symm
    subst this
    rcases h' with ⟨_, rfl⟩ | ⟨k1, _⟩
    · exact ⟨rfl, rfl⟩
    · omega
  · rcases h' with ⟨rfl, rfl⟩ | ⟨k1, k2, k3⟩
    · rw [dv_zero] at hv
      have := dv_eq_zero hv
      subst this
      omega
    · unfold dv at hv
      have a1 := odd_ne h1 hv
      have a2 := odd_ne k1 hv.symm
      have he : e = e' := by omega
      subst he
      exact ⟨Int.eq_of_mul_eq_mul_right (pow_pos_int _) hv, rfl⟩
theorem dv_shift {z e f : Int} (h : f ≤ e) (hf : -4194304 ≤ f) : dv z e = dv (z * ((2 ^ (e - f).toNat : Nat) : Int)) f := by
  unfold dv
  rw [dpow_split (a := (f + 4194304).toNat) (b := (e + 4194304).toNat) (by omega), ← Int.mul_assoc, show (e + 4194304).toNat - (f + 4194304).toNat = (e - f).toNat from by omega]
theorem dv_neg (x e : Int) : dv (-x) e = - dv x e := by unfold dv; rw [Int.neg_mul]
theorem own_set3 {B b : Nat} {w' : World} {p : Option Addr} {m : Nat} {zs : List Nat} (h : Own B w' p m zs) {r : Nat} (hr : r < B) (hb : b ≤ B) (v0 v1 v2 : Value) : Own b (((w'.setCell ⟨r, 0, none⟩ v0).setCell ⟨r, 1, none⟩ v1).setCell ⟨r, 2, none⟩ v2) p m zs :=
  (((h.setOld _ _ _ hr).setOld _ _ _ hr).setOld _ _ _ hr).mono hb
def AnsD (B : Nat) (w' : World) (v : Value) (z e : Int) : Prop :=
  ∃ p m zs, v = DV (decide (z < 0)) p m m e ∧ Own B w' p m zs ∧ Nf B64 zs z.natAbs ∧ m ≤ 8192
theorem AnsD.dn {B : Nat} {w' : World} {v : Value} {z e : Int} (h : AnsD B w' v z e) (hf : DFm z e) : ∃ s p m, v = DV s p m m e ∧ DN w' s p m m e z := by
  obtain ⟨p, m, zs, rfl, ho, hn, hm⟩ := h
  exact ⟨_, p, m, rfl, ⟨⟨zs, Num.of ho hn hm⟩, rfl⟩, hf⟩
theorem tz_split {z : Int} {k : Nat} (hz : z ≠ 0) (h : TzO z.natAbs k) : fl (decide (z < 0)) z.natAbs (2 ^ k) % 2 = 1 ∧ fl (decide (z < 0)) z.natAbs (2 ^ k) * ((2 ^ k : Nat) : Int) = z ∧ (fl (decide (z < 0)) z.natAbs (2 ^ k)).natAbs ≤ z.natAbs := by
  rcases h with ⟨h0, _⟩ | ⟨_, h1, h2⟩
  · omega
  · have hd := Nat.div_add_mod z.natAbs (2 ^ k)
    rw [h1, Nat.add_zero, Nat.mul_comm] at hd
    have hle := Nat.div_le_self z.natAbs (2 ^ k)
    unfold fl
    rw [h1]
    generalize z.natAbs / 2 ^ k = q at *
    have hc : (q : Int) * ((2 ^ k : Nat) : Int) = (z.natAbs : Int) := by rw [← Int.natCast_mul, hd]
    by_cases hs : z < 0
    · rw [decide_eq_true hs]
      simp only [ne_eq, not_true_eq_false, decide_false, Bool.and_false, Bool.toNat_false, Nat.add_zero, iv, if_true]
      refine ⟨by omega, by rw [Int.neg_mul, hc]; omega, by omega⟩
    · rw [decide_eq_false hs]
      simp only [ne_eq, not_true_eq_false, decide_false, Bool.and_false, Bool.toNat_false, Nat.add_zero, iv]
      refine ⟨?_, ?_, ?_⟩
      · show (q : Int) % 2 = 1; omega
      · show (q : Int) * _ = z; rw [hc]; omega
      · show (q : Int).natAbs ≤ _; omega
theorem patternOf_32 (b : Nat) (hb : b < 2 * 2147483648) (w : World) :
    Calls Tryz.prog 41 #[.int .i64 32, U b] w fun en w' => en = .returned (.tuple #[PV 32 24 (-149) (decide (2147483648 ≤ b)) (b % 2147483648), .int .i64 0]) ∧ Below w.heap.size w w' := by
  have hl : bl_bitsN b ≤ 32 := bl_le (by omega)
  have e1 : bits BinOp.and IntKind.u64 (b : Int) 2147483648 = _ := sign_and b 2147483648 31 (by decide) (by decide) hb
  have e2 : bits BinOp.andNot IntKind.u64 (b : Int) 2147483648 = _ := sign_andNot b 2147483648 31 (by decide) (by decide) hb
  obtain ⟨z, hz⟩ : ∃ z, z = b % 2147483648 := ⟨_, rfl⟩
  obtain ⟨s, hs⟩ : ∃ s, s = decide (2147483648 ≤ b) := ⟨_, rfl⟩
  obtain ⟨y, hy⟩ : ∃ y, y = (if 2147483648 ≤ b then 2147483648 else 0) := ⟨_, rfl⟩
  rw [← hz] at e2 ⊢
  rw [← hy] at e1
  rw [← hs]
  have hys2 : ((y : Int) == 0) = !s := by
    rw [hy, hs]
    by_cases h : 2147483648 ≤ b <;> simp [h]
  have hys : ((y : Int) != 0) = s := by simp [bne, hys2]
  obtain ⟨ln, hll⟩ : ∃ l, l = bl_bitsN b := ⟨_, rfl⟩
  rw [← hll] at hl
  have hltb : decide ((32 : Int) < (ln : Int)) = false := decide_eq_false (by omega)
  have HLL : Hid (bl_bitsN b = ln) := hll.symm
  have HBB : Hid (b < B64) := by show b < B64; rw [B64_eq]; omega
  clear hz hs hy hl hb hll
  go_enter Tryz.func41, Tryz.ntmps41
  go_wp2_with fail
  obtain ⟨W0, hW0⟩ : ∃ W0, W0 = (w.alloc (.cells #[.int .i64 0, .int .i64 0, .int .i64 0, .bool false, .int .u64 0] 78)) := ⟨_, rfl⟩
  have Xr : Hid (B5q W0 (w.heap.size) (.int .i64 0) (.int .i64 0) (.int .i64 0) (.bool false) (.int .u64 0)) := by rw [hW0]; exact ⟨by go_simp, by go_simp, by go_simp, by go_simp, by go_simp, by go_simp, by go_simp, by go_simp, by go_simp, by go_simp⟩
  have hb0 : Below w.heap.size w W0 := by rw [hW0]; exact below1 w _
  rw [← hW0]
  clear hW0
  have hbw : Below w.heap.size w w := Below.refl _ _
  obtain ⟨gr, hgr⟩ : ∃ g, g = w.heap.size := ⟨_, rfl⟩
  have HGr : Hid (w.heap.size ≤ gr) := by rw [hgr]; show _ ≤ _; omega
  rw [← hgr] at Xr
  try rw [← hgr]
  clear hgr
  replace hbw := Below.on hbw hb0
  clear hb0
  refine (of_32 _).mono ?_
  rintro e v1 ⟨rfl, hb1⟩
  replace Xr : Hid _ := Xr.out.below hb1
  replace hbw := Below.on hbw hb1
  clear hb1
  go_wp2_with fail
  have HDr : Hid (gr ≠ v1.heap.size) := Nat.ne_of_lt Xr.out.lt
  have Xg0 : Hid (B3q (v1.alloc (.cells #[.int .i64 32, .int .i64 24, .int .i64 (-149)] 47)) v1.heap.size (.int .i64 32) (.int .i64 24) (.int .i64 (-149))) := B3q.new v1 _ _ _ _
  have hbn : Below v1.heap.size v1 (v1.alloc (.cells #[.int .i64 32, .int .i64 24, .int .i64 (-149)] 47)) := below1 v1 _
  generalize v1.alloc (.cells #[.int .i64 32, .int .i64 24, .int .i64 (-149)] 47) = Wg at *
  have HGg : Hid (w.heap.size ≤ v1.heap.size) := hbw.size
  replace Xr : Hid _ := Xr.out.below hbn
  replace hbw := Below.on hbw hbn
  clear hbn
  generalize v1.heap.size = gg at *
  have Xg := Xg0
  clear Xg0
  obtain ⟨W3, hW3⟩ : ∃ W1, W1 = Wg.drew := ⟨_, rfl⟩
  have hbd : Below Wg.heap.size Wg W3 := by rw [hW3]; exact bDrew1 (Below.refl _ _)
  replace Xr : Hid _ := Xr.out.below hbd
  replace Xg : Hid _ := Xg.out.below hbd
  replace hbw := Below.on hbw hbd
  clear hbd
  have HJ : Hid ((fun W' : World => W'.cell? ⟨gg, 0, none⟩ = some (.int .i64 32)) W3) := Xg.out.c0
  refine wp_region_J (fun W' => W'.cell? ⟨gg, 0, none⟩ = some (.int .i64 32)) (by kernel_rfl) ?_
  rw [← hW3]
  clear hW3
  refine wpJ_tk 0 (v := ?v1x0) rfl ?hy1x0 HJ.out ?_
  case hy1x0 => (intro W' hJ; have j0 := hJ; go_simp; first | done | with_reducible rfl)
  refine wpJ_tk 2 (v := ?v2x2) rfl ?hy2x2 HJ.out ?_
  case hy2x2 => (intro W' hJ; have j0 := hJ; go_simp; first | done | with_reducible rfl)
  refine wpJ_tk 3 (v := ?v3x3) rfl ?hy3x3 HJ.out ?_
  case hy3x3 => (intro W' hJ; have j0 := hJ; go_simp; first | done | with_reducible rfl)
  refine wpJ_on 1 rfl fun KJ hK => ?_
  go_simp
  refine (bl_len_any b _ HBB.out).mono ?_
  rintro e2 v2 ⟨rfl, hw⟩
  obtain rfl := hw.symm
  clear hw
  rw [HLL.out]
  clear HJ
  have HJ : Hid ((fun W' : World => W'.cell? ⟨gg, 0, none⟩ = some (.int .i64 32)) W3) := Xg.out.c0
  refine hK _ _ HJ.out ?_
  clear hK
  refine wpJ_tk 4 (v := ?v4x4) rfl ?hy4x4 HJ.out ?_
  case hy4x4 => (intro W' hJ; have j0 := hJ; go_simp; first | done | with_reducible rfl)
  refine wpJ_done (by kernel_rfl) ?_ _
  clear HJ
  obtain ⟨cg0, cg1, cg2, fg0, fg1, fg2⟩ := Xg.out
  have hneg : gg < W3.heap.size := World.block_lt_of_cell? W3 _ cg0
  go_wp2_with fail
  clear cg0 cg1 cg2 fg0 fg1 fg2 hneg
  obtain ⟨W6, hW6⟩ : ∃ W1, W1 = W3.drew := ⟨_, rfl⟩
  have hbd : Below W3.heap.size W3 W6 := by rw [hW6]; exact bDrew1 (Below.refl _ _)
  replace Xr : Hid _ := Xr.out.below hbd
  replace Xg : Hid _ := Xg.out.below hbd
  replace hbw := Below.on hbw hbd
  clear hbd
  have HJ : Hid ((fun W' : World => W'.cell? ⟨gg, 0, none⟩ = some (.int .i64 32) ∧ W'.cell? ⟨gg, 1, none⟩ = some (.int .i64 24) ∧ W'.cell? ⟨gg, 2, none⟩ = some (.int .i64 (-149))) W6) := ⟨Xg.out.c0, Xg.out.c1, Xg.out.c2⟩
  refine wp_region_J (fun W' => W'.cell? ⟨gg, 0, none⟩ = some (.int .i64 32) ∧ W'.cell? ⟨gg, 1, none⟩ = some (.int .i64 24) ∧ W'.cell? ⟨gg, 2, none⟩ = some (.int .i64 (-149))) (by kernel_rfl) ?_
  rw [← hW6]
  clear hW6
  refine wpJ_tq 0 rfl HJ.out ?_
  refine wpJ_tq 1 rfl HJ.out ?_
  refine wpJ_tq 2 rfl HJ.out ?_
  refine wpJ_tq 6 rfl HJ.out ?_
  refine wpJ_tq 7 rfl HJ.out ?_
  refine wpJ_on 3 rfl fun KJ hK => ?_
  go_simp
  refine (sign_32 _).mono ?_
  rintro e v4 ⟨rfl, hb4⟩
  replace Xr : Hid _ := Xr.out.below hb4
  replace Xg : Hid _ := Xg.out.below hb4
  replace hbw := Below.on hbw hb4
  clear hb4
  clear HJ
  have HJ : Hid ((fun W' : World => W'.cell? ⟨gg, 0, none⟩ = some (.int .i64 32) ∧ W'.cell? ⟨gg, 1, none⟩ = some (.int .i64 24) ∧ W'.cell? ⟨gg, 2, none⟩ = some (.int .i64 (-149))) v4) := ⟨Xg.out.c0, Xg.out.c1, Xg.out.c2⟩
  refine hK _ _ HJ.out ?_
  clear hK
  refine wpJ_tq 4 rfl HJ.out ?_
  refine wpJ_tq 5 rfl HJ.out ?_
  refine wpJ_on 8 rfl fun KJ hK => ?_
  go_simp
  refine (sign_32 _).mono ?_
  rintro e v5 ⟨rfl, hb5⟩
  replace Xr : Hid _ := Xr.out.below hb5
  replace Xg : Hid _ := Xg.out.below hb5
  replace hbw := Below.on hbw hb5
  clear hb5
  clear HJ
  have HJ : Hid ((fun W' : World => W'.cell? ⟨gg, 0, none⟩ = some (.int .i64 32) ∧ W'.cell? ⟨gg, 1, none⟩ = some (.int .i64 24) ∧ W'.cell? ⟨gg, 2, none⟩ = some (.int .i64 (-149))) v5) := ⟨Xg.out.c0, Xg.out.c1, Xg.out.c2⟩
  refine hK _ _ HJ.out ?_
  clear hK
  refine wpJ_tq 9 rfl HJ.out ?_
  refine wpJ_tq 10 rfl HJ.out ?_
  obtain ⟨cr0, cr1, cr2, cr3, cr4, fr0, fr1, fr2, fr3, fr4⟩ := Xr.out
  have hner : gr < v5.heap.size := World.block_lt_of_cell? v5 _ cr0
  obtain ⟨cg0, cg1, cg2, fg0, fg1, fg2⟩ := Xg.out
  have hneg : gg < v5.heap.size := World.block_lt_of_cell? v5 _ cg0
  have qa := HDr.out
  have qb : gg ≠ gr := fun h => qa h.symm
  refine wpJ_on 11 rfl fun KJ hK => ?_
  go_simp
  have HJ2 : Hid ((fun W' : World => W'.cell? ⟨gg, 0, none⟩ = some (.int .i64 32) ∧ W'.cell? ⟨gg, 1, none⟩ = some (.int .i64 24) ∧ W'.cell? ⟨gg, 2, none⟩ = some (.int .i64 (-149))) (((((v5.setCell ⟨gr, 0, none⟩ (.int .i64 32)).setCell ⟨gr, 1, none⟩ (.int .i64 24)).setCell ⟨gr, 2, none⟩ (.int .i64 (-149))).setCell ⟨gr, 3, none⟩ (.bool s)).setCell ⟨gr, 4, none⟩ (U z))) := ⟨by go_simp, by go_simp, by go_simp⟩
  refine hK _ _ HJ2.out ?_
  clear hK HJ
  have HJ := HJ2
  clear HJ2
  refine wpJ_tq 12 rfl HJ.out ?_
  refine wpJ_done (by kernel_rfl) ?_ _
  clear HJ
  go_wp2_with fail
  refine bodyPost_ret (v := .tuple #[PV 32 24 (-149) s z, .int .i64 0]) (by rw [results_ct rfl]; go_simp) rfl ⟨rfl, ?_⟩
  exact bSet (bSet (bSet (bSet (bSet hbw _ _ _ HGr.out) _ _ _ HGr.out) _ _ _ HGr.out) _ _ _ HGr.out) _ _ _ HGr.out
theorem patternOf_64 (b : Nat) (hb : b < 2 * 9223372036854775808) (w : World) :
    Calls Tryz.prog 41 #[.int .i64 64, U b] w fun en w' => en = .returned (.tuple #[PV 64 53 (-1074) (decide (9223372036854775808 ≤ b)) (b % 9223372036854775808), .int .i64 0]) ∧ Below w.heap.size w w' := by
  have hl : bl_bitsN b ≤ 64 := bl_le (by omega)
  have e1 : bits BinOp.and IntKind.u64 (b : Int) 9223372036854775808 = _ := sign_and b 9223372036854775808 63 (by decide) (by decide) hb
  have e2 : bits BinOp.andNot IntKind.u64 (b : Int) 9223372036854775808 = _ := sign_andNot b 9223372036854775808 63 (by decide) (by decide) hb
  obtain ⟨z, hz⟩ : ∃ z, z = b % 9223372036854775808 := ⟨_, rfl⟩
  obtain ⟨s, hs⟩ : ∃ s, s = decide (9223372036854775808 ≤ b) := ⟨_, rfl⟩
  obtain ⟨y, hy⟩ : ∃ y, y = (if 9223372036854775808 ≤ b then 9223372036854775808 else 0) := ⟨_, rfl⟩
  rw [← hz] at e2 ⊢
  rw [← hy] at e1
  rw [← hs]
  have hys2 : ((y : Int) == 0) = !s := by
    rw [hy, hs]
    by_cases h : 9223372036854775808 ≤ b <;> simp [h]
  have hys : ((y : Int) != 0) = s := by simp [bne, hys2]
  obtain ⟨ln, hll⟩ : ∃ l, l = bl_bitsN b := ⟨_, rfl⟩
  rw [← hll] at hl
  have hltb : decide ((64 : Int) < (ln : Int)) = false := decide_eq_false (by omega)
  have HLL : Hid (bl_bitsN b = ln) := hll.symm
  have HBB : Hid (b < B64) := by show b < B64; rw [B64_eq]; omega
  clear hz hs hy hl hb hll
  go_enter Tryz.func41, Tryz.ntmps41
  go_wp2_with fail
  obtain ⟨W0, hW0⟩ : ∃ W0, W0 = (w.alloc (.cells #[.int .i64 0, .int .i64 0, .int .i64 0, .bool false, .int .u64 0] 78)) := ⟨_, rfl⟩
  have Xr : Hid (B5q W0 (w.heap.size) (.int .i64 0) (.int .i64 0) (.int .i64 0) (.bool false) (.int .u64 0)) := by rw [hW0]; exact ⟨by go_simp, by go_simp, by go_simp, by go_simp, by go_simp, by go_simp, by go_simp, by go_simp, by go_simp, by go_simp⟩
  have hb0 : Below w.heap.size w W0 := by rw [hW0]; exact below1 w _
  rw [← hW0]
  clear hW0
  have hbw : Below w.heap.size w w := Below.refl _ _
  obtain ⟨gr, hgr⟩ : ∃ g, g = w.heap.size := ⟨_, rfl⟩
  have HGr : Hid (w.heap.size ≤ gr) := by rw [hgr]; show _ ≤ _; omega
  rw [← hgr] at Xr
  try rw [← hgr]
  clear hgr
  replace hbw := Below.on hbw hb0
  clear hb0
  refine (of_64 _).mono ?_
  rintro e v1 ⟨rfl, hb1⟩
  replace Xr : Hid _ := Xr.out.below hb1
  replace hbw := Below.on hbw hb1
  clear hb1
  go_wp2_with fail
  have HDr : Hid (gr ≠ v1.heap.size) := Nat.ne_of_lt Xr.out.lt
  have Xg0 : Hid (B3q (v1.alloc (.cells #[.int .i64 64, .int .i64 53, .int .i64 (-1074)] 47)) v1.heap.size (.int .i64 64) (.int .i64 53) (.int .i64 (-1074))) := B3q.new v1 _ _ _ _
  have hbn : Below v1.heap.size v1 (v1.alloc (.cells #[.int .i64 64, .int .i64 53, .int .i64 (-1074)] 47)) := below1 v1 _
  generalize v1.alloc (.cells #[.int .i64 64, .int .i64 53, .int .i64 (-1074)] 47) = Wg at *
  have HGg : Hid (w.heap.size ≤ v1.heap.size) := hbw.size
  replace Xr : Hid _ := Xr.out.below hbn
  replace hbw := Below.on hbw hbn
  clear hbn
  generalize v1.heap.size = gg at *
  have Xg := Xg0
  clear Xg0
  obtain ⟨W3, hW3⟩ : ∃ W1, W1 = Wg.drew := ⟨_, rfl⟩
  have hbd : Below Wg.heap.size Wg W3 := by rw [hW3]; exact bDrew1 (Below.refl _ _)
  replace Xr : Hid _ := Xr.out.below hbd
  replace Xg : Hid _ := Xg.out.below hbd
  replace hbw := Below.on hbw hbd
  clear hbd
  have HJ : Hid ((fun W' : World => W'.cell? ⟨gg, 0, none⟩ = some (.int .i64 64)) W3) := Xg.out.c0
  refine wp_region_J (fun W' => W'.cell? ⟨gg, 0, none⟩ = some (.int .i64 64)) (by kernel_rfl) ?_
  rw [← hW3]
  clear hW3
  refine wpJ_tk 0 (v := ?v15x0) rfl ?hy15x0 HJ.out ?_
  case hy15x0 => (intro W' hJ; have j0 := hJ; go_simp; first | done | with_reducible rfl)
  refine wpJ_tk 2 (v := ?v16x2) rfl ?hy16x2 HJ.out ?_
  case hy16x2 => (intro W' hJ; have j0 := hJ; go_simp; first | done | with_reducible rfl)
  refine wpJ_tk 3 (v := ?v17x3) rfl ?hy17x3 HJ.out ?_
  case hy17x3 => (intro W' hJ; have j0 := hJ; go_simp; first | done | with_reducible rfl)
  refine wpJ_on 1 rfl fun KJ hK => ?_
  go_simp
  refine (bl_len_any b _ HBB.out).mono ?_
  rintro e2 v2 ⟨rfl, hw⟩
  obtain rfl := hw.symm
  clear hw
  rw [HLL.out]
  clear HJ
  have HJ : Hid ((fun W' : World => W'.cell? ⟨gg, 0, none⟩ = some (.int .i64 64)) W3) := Xg.out.c0
  refine hK _ _ HJ.out ?_
  clear hK
  refine wpJ_tk 4 (v := ?v18x4) rfl ?hy18x4 HJ.out ?_
  case hy18x4 => (intro W' hJ; have j0 := hJ; go_simp; first | done | with_reducible rfl)
  refine wpJ_done (by kernel_rfl) ?_ _
  clear HJ
  obtain ⟨cg0, cg1, cg2, fg0, fg1, fg2⟩ := Xg.out
  have hneg : gg < W3.heap.size := World.block_lt_of_cell? W3 _ cg0
  go_wp2_with fail
  clear cg0 cg1 cg2 fg0 fg1 fg2 hneg
  obtain ⟨W6, hW6⟩ : ∃ W1, W1 = W3.drew := ⟨_, rfl⟩
  have hbd : Below W3.heap.size W3 W6 := by rw [hW6]; exact bDrew1 (Below.refl _ _)
  replace Xr : Hid _ := Xr.out.below hbd
  replace Xg : Hid _ := Xg.out.below hbd
  replace hbw := Below.on hbw hbd
  clear hbd
  have HJ : Hid ((fun W' : World => W'.cell? ⟨gg, 0, none⟩ = some (.int .i64 64) ∧ W'.cell? ⟨gg, 1, none⟩ = some (.int .i64 53) ∧ W'.cell? ⟨gg, 2, none⟩ = some (.int .i64 (-1074))) W6) := ⟨Xg.out.c0, Xg.out.c1, Xg.out.c2⟩
  refine wp_region_J (fun W' => W'.cell? ⟨gg, 0, none⟩ = some (.int .i64 64) ∧ W'.cell? ⟨gg, 1, none⟩ = some (.int .i64 53) ∧ W'.cell? ⟨gg, 2, none⟩ = some (.int .i64 (-1074))) (by kernel_rfl) ?_
  rw [← hW6]
  clear hW6
  refine wpJ_tq 0 rfl HJ.out ?_
  refine wpJ_tq 1 rfl HJ.out ?_
  refine wpJ_tq 2 rfl HJ.out ?_
  refine wpJ_tq 6 rfl HJ.out ?_
  refine wpJ_tq 7 rfl HJ.out ?_
  refine wpJ_on 3 rfl fun KJ hK => ?_
  go_simp
  refine (sign_64 _).mono ?_
  rintro e v4 ⟨rfl, hb4⟩
  replace Xr : Hid _ := Xr.out.below hb4
  replace Xg : Hid _ := Xg.out.below hb4
  replace hbw := Below.on hbw hb4
  clear hb4
  clear HJ
  have HJ : Hid ((fun W' : World => W'.cell? ⟨gg, 0, none⟩ = some (.int .i64 64) ∧ W'.cell? ⟨gg, 1, none⟩ = some (.int .i64 53) ∧ W'.cell? ⟨gg, 2, none⟩ = some (.int .i64 (-1074))) v4) := ⟨Xg.out.c0, Xg.out.c1, Xg.out.c2⟩
  refine hK _ _ HJ.out ?_
  clear hK
  refine wpJ_tq 4 rfl HJ.out ?_
  refine wpJ_tq 5 rfl HJ.out ?_
  refine wpJ_on 8 rfl fun KJ hK => ?_
  go_simp
  refine (sign_64 _).mono ?_
  rintro e v5 ⟨rfl, hb5⟩
  replace Xr : Hid _ := Xr.out.below hb5
  replace Xg : Hid _ := Xg.out.below hb5
  replace hbw := Below.on hbw hb5
  clear hb5
  clear HJ
  have HJ : Hid ((fun W' : World => W'.cell? ⟨gg, 0, none⟩ = some (.int .i64 64) ∧ W'.cell? ⟨gg, 1, none⟩ = some (.int .i64 53) ∧ W'.cell? ⟨gg, 2, none⟩ = some (.int .i64 (-1074))) v5) := ⟨Xg.out.c0, Xg.out.c1, Xg.out.c2⟩
  refine hK _ _ HJ.out ?_
  clear hK
  refine wpJ_tq 9 rfl HJ.out ?_
  refine wpJ_tq 10 rfl HJ.out ?_
  obtain ⟨cr0, cr1, cr2, cr3, cr4, fr0, fr1, fr2, fr3, fr4⟩ := Xr.out
  have hner : gr < v5.heap.size := World.block_lt_of_cell? v5 _ cr0
  obtain ⟨cg0, cg1, cg2, fg0, fg1, fg2⟩ := Xg.out
  have hneg : gg < v5.heap.size := World.block_lt_of_cell? v5 _ cg0
  have qa := HDr.out
  have qb : gg ≠ gr := fun h => qa h.symm
  refine wpJ_on 11 rfl fun KJ hK => ?_
  go_simp
  have HJ2 : Hid ((fun W' : World => W'.cell? ⟨gg, 0, none⟩ = some (.int .i64 64) ∧ W'.cell? ⟨gg, 1, none⟩ = some (.int .i64 53) ∧ W'.cell? ⟨gg, 2, none⟩ = some (.int .i64 (-1074))) (((((v5.setCell ⟨gr, 0, none⟩ (.int .i64 64)).setCell ⟨gr, 1, none⟩ (.int .i64 53)).setCell ⟨gr, 2, none⟩ (.int .i64 (-1074))).setCell ⟨gr, 3, none⟩ (.bool s)).setCell ⟨gr, 4, none⟩ (U z))) := ⟨by go_simp, by go_simp, by go_simp⟩
  refine hK _ _ HJ2.out ?_
  clear hK HJ
  have HJ := HJ2
  clear HJ2
  refine wpJ_tq 12 rfl HJ.out ?_
  refine wpJ_done (by kernel_rfl) ?_ _
  clear HJ
  go_wp2_with fail
  refine bodyPost_ret (v := .tuple #[PV 64 53 (-1074) s z, .int .i64 0]) (by rw [results_ct rfl]; go_simp) rfl ⟨rfl, ?_⟩
  exact bSet (bSet (bSet (bSet (bSet hbw _ _ _ HGr.out) _ _ _ HGr.out) _ _ _ HGr.out) _ _ _ HGr.out) _ _ _ HGr.out
theorem patternOf_32_big (b : Nat) (hb : b < B64) (hg : 4294967296 ≤ b) (w : World) : Calls Tryz.prog 41 #[.int .i64 32, U b] w fun e w' => e = .returned (.tuple #[PV 0 0 0 false 0, .int .i64 2]) ∧ Below w.heap.size w w' := by
  have hl := bl_gt32 hg
  have hlt : (32 : Int) < (bl_bitsN b : Int) := by omega
  have hbb : b < B64 := hb
  clear hl hb hg
  obtain ⟨l, hll⟩ : ∃ l, l = bl_bitsN b := ⟨_, rfl⟩
  rw [← hll] at hlt
  have hltb : decide ((32 : Int) < (l : Int)) = true := decide_eq_true hlt
  have HLL : Hid (l = bl_bitsN b) := hll
  have HBB : Hid (b < B64) := hbb
  clear hll hbb
  go_enter Tryz.func41, Tryz.ntmps41
  go_wp2_with fail
  have X := B5q.new (w) 78 (.int .i64 0) (.int .i64 0) (.int .i64 0) (.bool false) (.int .u64 0)
  have hb0 := bwAlloc (w) (.cells #[.int .i64 0, .int .i64 0, .int .i64 0, .bool false, .int .u64 0] 78)
  generalize (w).alloc (.cells #[.int .i64 0, .int .i64 0, .int .i64 0, .bool false, .int .u64 0] 78) = W at *
  obtain ⟨g, hg⟩ : ∃ g, g = (w).heap.size := ⟨_, rfl⟩
  have HGg : Hid ((w).heap.size ≤ g) := by show _ ≤ _; omega
  rw [← hg] at X ⊢
  clear hg
  refine (of_32 _).mono ?_
  rintro e w1 ⟨rfl, hb1⟩
  have X1 := X.below hb1
  have HB1 : Hid (Below w.heap.size w w1) := bwOn hb0 hb1
  clear X hb0 hb1
  go_wp2_with fail
  have Y := B3.new (w1) 47 (.int .i64 32) (.int .i64 24) (.int .i64 (-149))
  have hb2 := bwAlloc (w1) (.cells #[.int .i64 32, .int .i64 24, .int .i64 (-149)] 47)
  generalize (w1).alloc (.cells #[.int .i64 32, .int .i64 24, .int .i64 (-149)] 47) = W2 at *
  obtain ⟨h, hh⟩ : ∃ h, h = (w1).heap.size := ⟨_, rfl⟩
  have HGh : Hid ((w1).heap.size ≤ h) := by show _ ≤ _; omega
  rw [← hh] at Y ⊢
  clear hh
  have X2 := X1.below hb2
  have HB2 : Hid (Below w.heap.size w W2) := bwOn HB1.out hb2
  clear X1 hb2 HB1
  have X3 : Hid (B5q W2.drew g _ _ _ _ _) := X2.drew
  have Y3 : Hid (B3 W2.drew h _ _ _) := Y.drew
  have HB3 : Hid (Below w.heap.size w W2.drew) := bwDrew HB2.out
  obtain ⟨y0, y1, y2, y3, y4, y5⟩ := Y
  obtain ⟨x0, x1, x2, x3, x4, x5, x6, x7, x8, x9⟩ := X2
  go_region_with (first
    | (go_at_call 68; (with_reducible refine (bl_len_any _ _ HBB.out).mono ?_); rintro e w' ⟨rfl, hw⟩; rw [← HLL.out]; obtain rfl := hw.symm; clear hw))
  all_goals
    (go_wp2_with fail
     refine bodyPost_ret (v := .tuple #[PV 0 0 0 false 0, .int .i64 2]) (by rw [results_ct rfl]; go_simp) rfl ⟨rfl, ?_⟩
     exact bwDrew (bwSet (bwSet (bwSet (bwSet (bwSet HB2.out _ _ _ HGg.out) _ _ _ HGg.out) _ _ _ HGg.out) _ _ _ HGg.out) _ _ _ HGg.out))
theorem bwDrewN {B : Nat} {a w : World} (h : Below B a w) (r : Nat) : Below B a (w.drewN r) := ⟨h.os, h.tape, h.output, h.size, h.block⟩
theorem B5q.drewN {W : World} {g : Nat} {v0 v1 v2 v3 v4 : Value} (h : B5q W g v0 v1 v2 v3 v4) (r : Nat) : B5q (W.drewN r) g v0 v1 v2 v3 v4 := ⟨h.c0, h.c1, h.c2, h.c3, h.c4, h.f0, h.f1, h.f2, h.f3, h.f4⟩
def clsN (H I s : Nat) : Int := if s = 0 then 0 else if s < H then 1 else if s < I then 2 else if s = I then 3 else 4
theorem infinity_32v {I : Nat} (hI : I = 2139095040) (w : World) : Calls Tryz.prog 20 #[WV 32 24 (-149)] w fun e w' => e = .returned (U I) ∧ Below w.heap.size w w' := by
  subst hI
  exact infinity_32 w
theorem class_32 {I : Nat} (hI : I = 2139095040) (neg : Bool) (s : Nat) (w : World) : Calls Tryz.prog 42 #[PV 32 24 (-149) neg s] w fun e w' => e = .returned (.int .i64 (clsN 8388608 I s)) ∧ Below w.heap.size w w' := by
  obtain ⟨c, hc⟩ : ∃ c, c = clsN 8388608 I s := ⟨_, rfl⟩
  rw [← hc]
  have HC : Hid (c = clsN 8388608 I s) := hc
  have HI : Hid (I = 2139095040) := hI
  have hHI : 8388608 ≤ I := by omega
  clear hc hI
  go_enter Tryz.func42, Tryz.ntmps42
  by_cases h0 : s = 0
  · subst h0
    have HC2 : Hid (c = 0) := HC.out
    go_wp2_with fail
    go_ret
    exact ⟨ret_int HC2.out.symm, bwAlloc w _⟩
  have h0b : ((s : Int) == 0) = false := by simp; omega
  by_cases h1 : s < 8388608
  · have HC2 : Hid (c = 1) := by show _ = _; rw [HC.out]; simp [clsN, h0, h1]
    have h1b : decide ((s : Int) < 8388608) = true := decide_eq_true (by omega)
    go_wp2_with fail
    go_quiet (fail)
    go_wp2_with fail
    go_ret
    exact ⟨ret_int HC2.out.symm, bwDrewN (bwAlloc w _) _⟩
  have h1b : decide ((s : Int) < 8388608) = false := decide_eq_false (by omega)
  go_wp2_with fail
  go_quiet (fail)
  go_wp2_with fail
  clear h0b h1b
  have X := (B5q.new w 78 (.int .i64 32) (.int .i64 24) (.int .i64 (-149)) (.bool neg) (U s)).drewN nq
  have hb0 := bwDrewN (bwAlloc w (.cells #[.int .i64 32, .int .i64 24, .int .i64 (-149), .bool neg, U s] 78)) nq
  generalize (w.alloc (.cells #[.int .i64 32, .int .i64 24, .int .i64 (-149), .bool neg, U s] 78)).drewN nq = W2 at *
  obtain ⟨g, hg⟩ : ∃ g, g = w.heap.size := ⟨_, rfl⟩
  rw [← hg] at X ⊢
  clear hg
  have X2 : Hid (B5q W2.drew g (.int .i64 32) (.int .i64 24) (.int .i64 (-149)) (.bool neg) (U s)) := X.drew
  have HB2 : Hid (Below w.heap.size w W2.drew) := bwDrew hb0
  obtain ⟨x0, x1, x2, x3, x4, x5, x6, x7, x8, x9⟩ := X
  clear hb0
  by_cases h2 : s < I
  · have HC2 : Hid (c = 2) := by show _ = _; rw [HC.out]; simp [clsN, h0, h1, h2]
    have h2b : decide ((s : Int) < (I : Int)) = true := decide_eq_true (by omega)
    have h2n : decide (s < I) = true := decide_eq_true h2
    clear h0 h1 h2 hHI
    go_region_with (go_at_call 20; (with_reducible refine (infinity_32v HI.out W2.drew).mono ?_); rintro e w3 ⟨rfl, hb3⟩; have X3 : Hid (B5q w3 g (.int .i64 32) (.int .i64 24) (.int .i64 (-149)) (.bool neg) (U s)) := X2.out.below hb3; obtain ⟨p0, p1, p2, p3, p4, p5, p6, p7, p8, p9⟩ := X3.out; have HB3 : Hid (Below w.heap.size w w3) := bwOn HB2.out hb3; clear hb3)
    all_goals
      (go_wp2_with fail
       go_ret
       exact ⟨ret_int HC2.out.symm, HB3.out⟩)
  have h2b : decide ((s : Int) < (I : Int)) = false := decide_eq_false (by omega)
  have h2n : decide (s < I) = false := decide_eq_false h2
  by_cases h3 : s = I
  · have HC2 : Hid (c = 3) := by show _ = _; rw [HC.out]; unfold clsN; rw [if_neg h0, if_neg h1, if_neg h2, if_pos h3]
    have h3b : ((s : Int) == (I : Int)) = true := by simp; omega
    have h3n : (s == I) = true := by simp [h3]
    have h3m : decide (s = I) = true := decide_eq_true h3
    clear h0 h1 h2 h3 hHI
    go_region_with (go_at_call 20; (with_reducible refine (infinity_32v HI.out W2.drew).mono ?_); rintro e w3 ⟨rfl, hb3⟩; have X3 : Hid (B5q w3 g (.int .i64 32) (.int .i64 24) (.int .i64 (-149)) (.bool neg) (U s)) := X2.out.below hb3; obtain ⟨p0, p1, p2, p3, p4, p5, p6, p7, p8, p9⟩ := X3.out; have HB3 : Hid (Below w.heap.size w w3) := bwOn HB2.out hb3; clear hb3)
    all_goals
      (clear x0 x1 x2 x3 x4 x5 x6 x7 x8 x9
       go_wp2_with fail
       clear h2b h2n
       go_region_with (go_at_call 20; (with_reducible refine (infinity_32v HI.out w3.drew).mono ?_); rintro e w4 ⟨rfl, hb4⟩; obtain ⟨q0, q1, q2, q3, q4, q5, q6, q7, q8, q9⟩ := X3.out.drew.below hb4; have HB4 : Hid (Below w.heap.size w w4) := bwOn (bwDrew HB3.out) hb4; clear hb4)
       all_goals
         (go_wp2_with fail
          go_ret
          exact ⟨ret_int HC2.out.symm, HB4.out⟩))
  have h3b : ((s : Int) == (I : Int)) = false := by simp; omega
  have h3n : (s == I) = false := by simp [h3]
  have h3m : decide (s = I) = false := decide_eq_false h3
  have HC2 : Hid (c = 4) := by show _ = _; rw [HC.out]; simp [clsN, h0, h1, h2, h3]
  clear h0 h1 h2 h3 hHI
  go_region_with (go_at_call 20; (with_reducible refine (infinity_32v HI.out W2.drew).mono ?_); rintro e w3 ⟨rfl, hb3⟩; have X3 : Hid (B5q w3 g (.int .i64 32) (.int .i64 24) (.int .i64 (-149)) (.bool neg) (U s)) := X2.out.below hb3; obtain ⟨p0, p1, p2, p3, p4, p5, p6, p7, p8, p9⟩ := X3.out; have HB3 : Hid (Below w.heap.size w w3) := bwOn HB2.out hb3; clear hb3)
  all_goals
    (clear x0 x1 x2 x3 x4 x5 x6 x7 x8 x9
     go_wp2_with fail
     clear h2b h2n
     go_region_with (go_at_call 20; (with_reducible refine (infinity_32v HI.out w3.drew).mono ?_); rintro e w4 ⟨rfl, hb4⟩; obtain ⟨q0, q1, q2, q3, q4, q5, q6, q7, q8, q9⟩ := X3.out.drew.below hb4; have HB4 : Hid (Below w.heap.size w w4) := bwOn (bwDrew HB3.out) hb4; clear hb4)
     all_goals
       (go_wp2_with fail
        go_ret
        exact ⟨ret_int HC2.out.symm, HB4.out⟩))
theorem infinity_64v {I : Nat} (hI : I = 9218868437227405312) (w : World) : Calls Tryz.prog 20 #[WV 64 53 (-1074)] w fun e w' => e = .returned (U I) ∧ Below w.heap.size w w' := by
  subst hI
  exact infinity_64 w
theorem class_64 {I : Nat} (hI : I = 9218868437227405312) (neg : Bool) (s : Nat) (w : World) : Calls Tryz.prog 42 #[PV 64 53 (-1074) neg s] w fun e w' => e = .returned (.int .i64 (clsN 4503599627370496 I s)) ∧ Below w.heap.size w w' := by
  obtain ⟨c, hc⟩ : ∃ c, c = clsN 4503599627370496 I s := ⟨_, rfl⟩
  rw [← hc]
  have HC : Hid (c = clsN 4503599627370496 I s) := hc
  have HI : Hid (I = 9218868437227405312) := hI
  have hHI : 4503599627370496 ≤ I := by omega
  clear hc hI
  go_enter Tryz.func42, Tryz.ntmps42
  by_cases h0 : s = 0
  · subst h0
    have HC2 : Hid (c = 0) := HC.out
    go_wp2_with fail
    go_ret
    exact ⟨ret_int HC2.out.symm, bwAlloc w _⟩
  have h0b : ((s : Int) == 0) = false := by simp; omega
  by_cases h1 : s < 4503599627370496
  · have HC2 : Hid (c = 1) := by show _ = _; rw [HC.out]; simp [clsN, h0, h1]
    have h1b : decide ((s : Int) < 4503599627370496) = true := decide_eq_true (by omega)
    go_wp2_with fail
    go_quiet (fail)
    go_wp2_with fail
    go_ret
    exact ⟨ret_int HC2.out.symm, bwDrewN (bwAlloc w _) _⟩
  have h1b : decide ((s : Int) < 4503599627370496) = false := decide_eq_false (by omega)
  go_wp2_with fail
  go_quiet (fail)
  go_wp2_with fail
  clear h0b h1b
  have X := (B5q.new w 78 (.int .i64 64) (.int .i64 53) (.int .i64 (-1074)) (.bool neg) (U s)).drewN nq
  have hb0 := bwDrewN (bwAlloc w (.cells #[.int .i64 64, .int .i64 53, .int .i64 (-1074), .bool neg, U s] 78)) nq
  generalize (w.alloc (.cells #[.int .i64 64, .int .i64 53, .int .i64 (-1074), .bool neg, U s] 78)).drewN nq = W2 at *
  obtain ⟨g, hg⟩ : ∃ g, g = w.heap.size := ⟨_, rfl⟩
  rw [← hg] at X ⊢
  clear hg
  have X2 : Hid (B5q W2.drew g (.int .i64 64) (.int .i64 53) (.int .i64 (-1074)) (.bool neg) (U s)) := X.drew
  have HB2 : Hid (Below w.heap.size w W2.drew) := bwDrew hb0
  obtain ⟨x0, x1, x2, x3, x4, x5, x6, x7, x8, x9⟩ := X
  clear hb0
  by_cases h2 : s < I
  · have HC2 : Hid (c = 2) := by show _ = _; rw [HC.out]; simp [clsN, h0, h1, h2]
    have h2b : decide ((s : Int) < (I : Int)) = true := decide_eq_true (by omega)
    have h2n : decide (s < I) = true := decide_eq_true h2
    clear h0 h1 h2 hHI
    go_region_with (go_at_call 20; (with_reducible refine (infinity_64v HI.out W2.drew).mono ?_); rintro e w3 ⟨rfl, hb3⟩; have X3 : Hid (B5q w3 g (.int .i64 64) (.int .i64 53) (.int .i64 (-1074)) (.bool neg) (U s)) := X2.out.below hb3; obtain ⟨p0, p1, p2, p3, p4, p5, p6, p7, p8, p9⟩ := X3.out; have HB3 : Hid (Below w.heap.size w w3) := bwOn HB2.out hb3; clear hb3)
    all_goals
      (go_wp2_with fail
       go_ret
       exact ⟨ret_int HC2.out.symm, HB3.out⟩)
  have h2b : decide ((s : Int) < (I : Int)) = false := decide_eq_false (by omega)
  have h2n : decide (s < I) = false := decide_eq_false h2
  by_cases h3 : s = I
  · have HC2 : Hid (c = 3) := by show _ = _; rw [HC.out]; unfold clsN; rw [if_neg h0, if_neg h1, if_neg h2, if_pos h3]
    have h3b : ((s : Int) == (I : Int)) = true := by simp; omega
    have h3n : (s == I) = true := by simp [h3]
    have h3m : decide (s = I) = true := decide_eq_true h3
    clear h0 h1 h2 h3 hHI
    go_region_with (go_at_call 20; (with_reducible refine (infinity_64v HI.out W2.drew).mono ?_); rintro e w3 ⟨rfl, hb3⟩; have X3 : Hid (B5q w3 g (.int .i64 64) (.int .i64 53) (.int .i64 (-1074)) (.bool neg) (U s)) := X2.out.below hb3; obtain ⟨p0, p1, p2, p3, p4, p5, p6, p7, p8, p9⟩ := X3.out; have HB3 : Hid (Below w.heap.size w w3) := bwOn HB2.out hb3; clear hb3)
    all_goals
      (clear x0 x1 x2 x3 x4 x5 x6 x7 x8 x9
       go_wp2_with fail
       clear h2b h2n
       go_region_with (go_at_call 20; (with_reducible refine (infinity_64v HI.out w3.drew).mono ?_); rintro e w4 ⟨rfl, hb4⟩; obtain ⟨q0, q1, q2, q3, q4, q5, q6, q7, q8, q9⟩ := X3.out.drew.below hb4; have HB4 : Hid (Below w.heap.size w w4) := bwOn (bwDrew HB3.out) hb4; clear hb4)
       all_goals
         (go_wp2_with fail
          go_ret
          exact ⟨ret_int HC2.out.symm, HB4.out⟩))
  have h3b : ((s : Int) == (I : Int)) = false := by simp; omega
  have h3n : (s == I) = false := by simp [h3]
  have h3m : decide (s = I) = false := decide_eq_false h3
  have HC2 : Hid (c = 4) := by show _ = _; rw [HC.out]; simp [clsN, h0, h1, h2, h3]
  clear h0 h1 h2 h3 hHI
  go_region_with (go_at_call 20; (with_reducible refine (infinity_64v HI.out W2.drew).mono ?_); rintro e w3 ⟨rfl, hb3⟩; have X3 : Hid (B5q w3 g (.int .i64 64) (.int .i64 53) (.int .i64 (-1074)) (.bool neg) (U s)) := X2.out.below hb3; obtain ⟨p0, p1, p2, p3, p4, p5, p6, p7, p8, p9⟩ := X3.out; have HB3 : Hid (Below w.heap.size w w3) := bwOn HB2.out hb3; clear hb3)
  all_goals
    (clear x0 x1 x2 x3 x4 x5 x6 x7 x8 x9
     go_wp2_with fail
     clear h2b h2n
     go_region_with (go_at_call 20; (with_reducible refine (infinity_64v HI.out w3.drew).mono ?_); rintro e w4 ⟨rfl, hb4⟩; obtain ⟨q0, q1, q2, q3, q4, q5, q6, q7, q8, q9⟩ := X3.out.drew.below hb4; have HB4 : Hid (Below w.heap.size w w4) := bwOn (bwDrew HB3.out) hb4; clear hb4)
     all_goals
       (go_wp2_with fail
        go_ret
        exact ⟨ret_int HC2.out.symm, HB4.out⟩))
theorem cls_ne {H I s : Nat} (h : s ≤ I) : clsN H I s ≠ 4 := by
  unfold clsN
  by_cases h0 : s = 0
  · rw [if_pos h0]; decide
  · rw [if_neg h0]
    by_cases h1 : s < H
    · rw [if_pos h1]; decide
    · rw [if_neg h1]
      by_cases h2 : s < I
      · rw [if_pos h2]; decide
      · rw [if_neg h2, if_pos (by omega)]; decide
theorem cls_nan {H I s : Nat} (hH : H ≤ I) (h : I < s) : clsN H I s = 4 := by
  unfold clsN
  rw [if_neg (by omega), if_neg (by omega), if_neg (by omega), if_neg (by omega)]
theorem cls_inf {H I s : Nat} (hH : H ≤ I) (h0 : 0 < I) : (clsN H I s == 3) = decide (s = I) := by
  unfold clsN
  by_cases h3 : s = I
  · rw [if_neg (by omega), if_neg (by omega), if_neg (by omega), if_pos h3]; simp [h3]
  · rw [decide_eq_false h3]
    by_cases h0 : s = 0
    · rw [if_pos h0]; decide
    · rw [if_neg h0]
      by_cases h1 : s < H
      · rw [if_pos h1]; decide
      · rw [if_neg h1]
        by_cases h2 : s < I
        · rw [if_pos h2]; decide
        · rw [if_neg h2, if_neg h3]; decide

theorem signed_32 (neg : Bool) (s : Nat) (hs : s < 2147483648) (w : World) : Calls Tryz.prog 19 #[WV 32 24 (-149), .bool neg, U s] w fun e w' => e = .returned (U (if neg then 2147483648 + s else s)) ∧ Below w.heap.size w w' := by
  have e1 : bits BinOp.or IntKind.u64 2147483648 (s : Int) = _ := sign_or s 2147483648 31 (by decide) (by decide) hs
  obtain ⟨r, hr⟩ : ∃ r, r = 2147483648 + s := ⟨_, rfl⟩
  rw [← hr] at e1 ⊢
  clear hr hs
  cases neg
  · clear e1
    go_enter Tryz.func19, Tryz.ntmps19
    go_wp2_with fail
    go_ret
    exact ⟨rfl, bwAlloc w _⟩
  · go_enter Tryz.func19, Tryz.ntmps19
    go_wp2_with fail
    refine (sign_32 _).mono ?_
    rintro e w1 ⟨rfl, hb1⟩
    have HB1 : Hid (Below w.heap.size w w1) := bwOn (bwAlloc w _) hb1
    clear hb1
    go_wp2_with fail
    go_ret
    exact ⟨rfl, HB1.out⟩
theorem signed_64 (neg : Bool) (s : Nat) (hs : s < 9223372036854775808) (w : World) : Calls Tryz.prog 19 #[WV 64 53 (-1074), .bool neg, U s] w fun e w' => e = .returned (U (if neg then 9223372036854775808 + s else s)) ∧ Below w.heap.size w w' := by
  have e1 : bits BinOp.or IntKind.u64 9223372036854775808 (s : Int) = _ := sign_or s 9223372036854775808 63 (by decide) (by decide) hs
  obtain ⟨r, hr⟩ : ∃ r, r = 9223372036854775808 + s := ⟨_, rfl⟩
  rw [← hr] at e1 ⊢
  clear hr hs
  cases neg
  · clear e1
    go_enter Tryz.func19, Tryz.ntmps19
    go_wp2_with fail
    go_ret
    exact ⟨rfl, bwAlloc w _⟩
  · go_enter Tryz.func19, Tryz.ntmps19
    go_wp2_with fail
    refine (sign_64 _).mono ?_
    rintro e w1 ⟨rfl, hb1⟩
    have HB1 : Hid (Below w.heap.size w w1) := bwOn (bwAlloc w _) hb1
    clear hb1
    go_wp2_with fail
    go_ret
    exact ⟨rfl, HB1.out⟩
structure Fm (f p m l : Int) (S I : Nat) : Prop where
  of : ∀ w, Calls Tryz.prog 16 #[.int .i64 f] w fun e w' => e = .returned (.tuple #[WV p m l, .int .i64 0]) ∧ Below w.heap.size w w'
  inf : ∀ w, Calls Tryz.prog 20 #[WV p m l] w fun e w' => e = .returned (U I) ∧ Below w.heap.size w w'
  sgn : ∀ (neg : Bool) (s : Nat) w, s < S → Calls Tryz.prog 19 #[WV p m l, .bool neg, U s] w fun e w' => e = .returned (U (if neg then S + s else s)) ∧ Below w.heap.size w w'
  pat : ∀ (b : Nat) w, b < 2 * S → Calls Tryz.prog 41 #[.int .i64 f, U b] w fun e w' => e = .returned (.tuple #[PV p m l (decide (S ≤ b)) (b % S), .int .i64 0]) ∧ Below w.heap.size w w'
  big : ∀ (b : Nat) w, b < B64 → 2 * S ≤ b → Calls Tryz.prog 41 #[.int .i64 f, U b] w fun e w' => e = .returned (.tuple #[PV 0 0 0 false 0, .int .i64 2]) ∧ Below w.heap.size w w'
  cls : ∀ (neg : Bool) (s : Nat) w, Calls Tryz.prog 42 #[PV p m l neg s] w fun e w' => ∃ c : Int, e = .returned (.int .i64 c) ∧ (c == 4) = decide (I < s) ∧ (c == 3) = decide (s = I) ∧ Below w.heap.size w w'
  lt : I < S
  pos : 2 < I
  le : S ≤ 9223372036854775808
theorem ranked_ok {f p m l : Int} {S I : Nat} (F : Fm f p m l S I) (b : Nat) (hb : b < 2 * S) (hr : b % S ≤ I) (w : World) : Calls Tryz.prog 121 #[.int .i64 f, U b] w fun e w' => e = .returned (.tuple #[PV p m l (decide (S ≤ b)) (b % S), .int .i64 0]) ∧ Below w.heap.size w w' := by
  have HP := fun w => F.pat b w hb
  obtain ⟨z, hz⟩ : ∃ z, z = b % S := ⟨_, rfl⟩
  obtain ⟨s, hs⟩ : ∃ s, s = decide (S ≤ b) := ⟨_, rfl⟩
  simp only [← hz, ← hs] at HP hr ⊢
  have HPH : Hid (∀ w : World, Calls Tryz.prog 41 #[.int .i64 f, U b] w fun e w' => e = .returned (.tuple #[PV p m l s z, .int .i64 0]) ∧ Below w.heap.size w w') := HP
  have HF : Hid (Fm f p m l S I) := F
  have HR : Hid (decide (I < z) = false) := decide_eq_false (by omega)
  clear hz hs HP hr hb F
  go_enter Tryz.func121, Tryz.ntmps121
  go_wp2_with fail
  have X := B5q.new (w) 78 (.int .i64 0) (.int .i64 0) (.int .i64 0) (.bool false) (.int .u64 0)
  have hb0 := bwAlloc (w) (.cells #[.int .i64 0, .int .i64 0, .int .i64 0, .bool false, .int .u64 0] 78)
  generalize (w).alloc (.cells #[.int .i64 0, .int .i64 0, .int .i64 0, .bool false, .int .u64 0] 78) = W at *
  obtain ⟨g, hg⟩ : ∃ g, g = (w).heap.size := ⟨_, rfl⟩
  have HGg : Hid ((w).heap.size ≤ g) := by show _ ≤ _; omega
  rw [← hg] at X ⊢
  clear hg
  refine (HPH.out _).mono ?_
  rintro e w1 ⟨rfl, hb1⟩
  have X1 := X.below hb1
  have HB1 : Hid (Below w.heap.size w w1) := bwOn hb0 hb1
  have XX : Hid (B5q w1 g (.int .i64 0) (.int .i64 0) (.int .i64 0) (.bool false) (.int .u64 0)) := X1
  clear X hb0 hb1
  obtain ⟨x0, x1, x2, x3, x4, x5, x6, x7, x8, x9⟩ := X1
  go_wp2_with fail
  clear x0 x1 x2 x3 x4 x5 x6 x7 x8 x9
  have Y := B5q.new (w1) 78 (.int .i64 p) (.int .i64 m) (.int .i64 l) (.bool s) (U z)
  have hb2 := bwAlloc (w1) (.cells #[.int .i64 p, .int .i64 m, .int .i64 l, .bool s, U z] 78)
  generalize (w1).alloc (.cells #[.int .i64 p, .int .i64 m, .int .i64 l, .bool s, U z] 78) = W2 at *
  obtain ⟨h, hh⟩ : ∃ h, h = (w1).heap.size := ⟨_, rfl⟩
  have HGh : Hid ((w1).heap.size ≤ h) := by show _ ≤ _; omega
  rw [← hh] at Y ⊢
  clear hh
  refine (HF.out.cls s z _).mono ?_
  rintro e w3 ⟨c, rfl, hc4, hc3, hb3⟩
  rw [HR.out] at hc4
  have hbb := bwOn hb2 hb3
  have HB3 : Hid (Below w.heap.size w w3) := bwOn HB1.out hbb
  have hgl := (XX.out.below hbb).lt
  have hhl := (Y.below hb3).lt
  obtain ⟨x0, x1, x2, x3, x4, x5, x6, x7, x8, x9⟩ := XX.out.below hbb
  obtain ⟨y0, y1, y2, y3, y4, y5, y6, y7, y8, y9⟩ := Y.below hb3
  clear Y hb2 hb3 hbb hc3 XX
  go_wp2_with fail
  refine bodyPost_ret (v := .tuple #[PV p m l s z, .int .i64 0]) (by rw [results_ct rfl]; go_simp) rfl ⟨rfl, ?_⟩
  exact bwSet (bwSet (bwSet (bwSet (bwSet HB3.out _ _ _ HGg.out) _ _ _ HGg.out) _ _ _ HGg.out) _ _ _ HGg.out) _ _ _ HGg.out
abbrev FV (S : Nat) (P E G : Int) (I Q : Nat) : Value := .agg #[U S, .int .i64 P, .int .i64 E, .int .i64 G, U I, U Q]
structure B6q (W : World) (g : Nat) (v0 v1 v2 v3 v4 v5 : Value) : Prop where
  c0 : W.cell? ⟨g, 0, none⟩ = some v0
  c1 : W.cell? ⟨g, 1, none⟩ = some v1
  c2 : W.cell? ⟨g, 2, none⟩ = some v2
  c3 : W.cell? ⟨g, 3, none⟩ = some v3
  c4 : W.cell? ⟨g, 4, none⟩ = some v4
  c5 : W.cell? ⟨g, 5, none⟩ = some v5
  f0 : W.frozen? ⟨g, 0, none⟩ = false
  f1 : W.frozen? ⟨g, 1, none⟩ = false
  f2 : W.frozen? ⟨g, 2, none⟩ = false
  f3 : W.frozen? ⟨g, 3, none⟩ = false
  f4 : W.frozen? ⟨g, 4, none⟩ = false
  f5 : W.frozen? ⟨g, 5, none⟩ = false
theorem B6q.below {W W' : World} {g : Nat} {v0 v1 v2 v3 v4 v5 : Value} (h : B6q W g v0 v1 v2 v3 v4 v5) (hb : Below W.heap.size W W') : B6q W' g v0 v1 v2 v3 v4 v5 := by
  have hl : g < W.heap.size := World.block_lt_of_cell? W _ h.c0
  exact ⟨(hb.cell (p := ⟨g, 0, none⟩) hl).trans h.c0, (hb.cell (p := ⟨g, 1, none⟩) hl).trans h.c1, (hb.cell (p := ⟨g, 2, none⟩) hl).trans h.c2, (hb.cell (p := ⟨g, 3, none⟩) hl).trans h.c3, (hb.cell (p := ⟨g, 4, none⟩) hl).trans h.c4, (hb.cell (p := ⟨g, 5, none⟩) hl).trans h.c5, (hb.frozen (p := ⟨g, 0, none⟩) hl).trans h.f0, (hb.frozen (p := ⟨g, 1, none⟩) hl).trans h.f1, (hb.frozen (p := ⟨g, 2, none⟩) hl).trans h.f2, (hb.frozen (p := ⟨g, 3, none⟩) hl).trans h.f3, (hb.frozen (p := ⟨g, 4, none⟩) hl).trans h.f4, (hb.frozen (p := ⟨g, 5, none⟩) hl).trans h.f5⟩
theorem B6q.new (w : World) (ty : TypeId) (v0 v1 v2 v3 v4 v5 : Value) : B6q (w.alloc (.cells #[v0, v1, v2, v3, v4, v5] ty)) w.heap.size v0 v1 v2 v3 v4 v5 :=
  ⟨by go_simp, by go_simp, by go_simp, by go_simp, by go_simp, by go_simp, by go_simp, by go_simp, by go_simp, by go_simp, by go_simp, by go_simp⟩
theorem B6q.lt {W : World} {g : Nat} {v0 v1 v2 v3 v4 v5 : Value} (h : B6q W g v0 v1 v2 v3 v4 v5) : g < W.heap.size := World.block_lt_of_cell? W _ h.c0
theorem B6q.drew {W : World} {g : Nat} {v0 v1 v2 v3 v4 v5 : Value} (h : B6q W g v0 v1 v2 v3 v4 v5) : B6q W.drew g v0 v1 v2 v3 v4 v5 := ⟨h.c0, h.c1, h.c2, h.c3, h.c4, h.c5, h.f0, h.f1, h.f2, h.f3, h.f4, h.f5⟩
theorem rof_32 (w : World) : Calls Tryz.prog 84 #[.int .i64 32] w fun e w' => e = .returned (.tuple #[FV 2147483648 24 (-149) 104 2139095040 2143289345, .bool true]) ∧ Below w.heap.size w w' := by
  go_enter Tryz.func84, Tryz.ntmps84
  go_wp2_with fail
  refine bodyPost_ret (v := .tuple #[FV 2147483648 24 (-149) 104 2139095040 2143289345, .bool true]) (by rw [results_ct rfl]; go_simp) rfl ⟨rfl, ?_⟩
  exact bwAlloc w _
theorem rof_64 (w : World) : Calls Tryz.prog 84 #[.int .i64 64] w fun e w' => e = .returned (.tuple #[FV 9223372036854775808 53 (-1074) 971 9218868437227405312 9221120237041090561, .bool true]) ∧ Below w.heap.size w w' := by
  go_enter Tryz.func84, Tryz.ntmps84
  go_wp2_with fail
  refine bodyPost_ret (v := .tuple #[FV 9223372036854775808 53 (-1074) 971 9218868437227405312 9221120237041090561, .bool true]) (by rw [results_ct rfl]; go_simp) rfl ⟨rfl, ?_⟩
  exact bwAlloc w _
theorem cut_any {S I Q : Nat} {P E G : Int} (h0 : 0 < S) (hS : S ≤ 9223372036854775808) (b : Nat) (w : World) : Calls Tryz.prog 94 #[FV S P E G I Q, U b] w fun e w' => e = .returned (.tuple #[.bool (decide (S ≤ b)), U (b % S)]) ∧ Below w.heap.size w w' := by
  obtain ⟨z, hz⟩ : ∃ z, z = b % S := ⟨_, rfl⟩
  obtain ⟨s, hs⟩ : ∃ s, s = decide (S ≤ b) := ⟨_, rfl⟩
  have hzl : z < S := by rw [hz]; exact Nat.mod_lt _ h0
  have hd : (b : Int).tmod S = (z : Int) := by rw [Int.tmod_eq_emod_of_nonneg (by omega), hz]; rfl
  have hwz : IntKind.u64.wrap (z : Int) = (z : Int) := by rw [IntKind.wrap_u64]; omega
  have hs0 : ((S : Int) == 0) = false := by simp; omega
  have hs1 : ¬ S = 0 := by omega
  have hs2 : decide ((S : Int) ≤ (b : Int)) = s := by rw [hs]; by_cases h : S ≤ b <;> simp [h]
  have hs3 : decide (S ≤ b) = s := hs.symm
  rw [← hz, hs3]
  clear hz hs hzl h0 hS
  go_enter Tryz.func94, Tryz.ntmps94
  go_wp2_with fail
  go_quiet (fail)
  go_wp2_with fail
  go_ret2
  exact ⟨rfl, bwDrewN (bwAlloc w _) _⟩
theorem fm_32 : Fm 32 32 24 (-149) 2147483648 2139095040 :=
  { of := of_32, inf := infinity_32v rfl, sgn := fun neg s w hs => signed_32 neg s hs w, pat := fun b w hb => patternOf_32 b hb w, big := fun b w hb hg => patternOf_32_big b hb (by omega) w,
    cls := fun neg s w => (class_32 rfl neg s w).mono (fun e w' h => ⟨_, h.1, by
      by_cases hn : 2139095040 < s
      · rw [cls_nan (by decide) hn, decide_eq_true hn]; decide
      · rw [decide_eq_false hn]; simp [cls_ne (Nat.le_of_not_lt hn)], cls_inf (by decide) (by decide), h.2⟩),
    lt := by decide, pos := by decide, le := by decide }
theorem fm_64 : Fm 64 64 53 (-1074) 9223372036854775808 9218868437227405312 :=
  { of := of_64, inf := infinity_64v rfl, sgn := fun neg s w hs => signed_64 neg s hs w, pat := fun b w hb => patternOf_64 b hb w, big := fun b w hb hg => absurd hg (by rw [B64_eq] at hb; omega),
    cls := fun neg s w => (class_64 rfl neg s w).mono (fun e w' h => ⟨_, h.1, by
      by_cases hn : 9218868437227405312 < s
      · rw [cls_nan (by decide) hn, decide_eq_true hn]; decide
      · rw [decide_eq_false hn]; simp [cls_ne (Nat.le_of_not_lt hn)], cls_inf (by decide) (by decide), h.2⟩),
    lt := by decide, pos := by decide, le := by decide }
end Go.Proofs.YtfmbifocgljieaaGreatDoor
namespace Go.Proofs.YtfmbifocgljieaaGreatDoor
open Go.RowKit
set_option maxRecDepth 20000
set_option maxHeartbeats 0
variable {P : Program} {md : Region.Mode} {ops : Array Oper} {Q : Exit → Act → World → Prop} {J : World → Prop}

theorem wpJ_two {i k : Nat} {oi ok : Oper} {fuel : Nat} {listed : Array Bool} {a : Act} {w : World} (hr : Region.ready md ops listed = [i, k]) (hi : ops[i]? = some oi) (hk : ops[k]? = some ok)
    (hwi : Region.wanted oi (yielded ops a.tmps) = true) (hwk : Region.wanted ok (yielded ops a.tmps) = true)
    (h1 : ∀ K : Act → World → Prop, (∀ a' w', J w' → wpJ P md ops Q J fuel (listed.setIfInBounds i true) a' w' → K a' w') → Oper.wp P oi a w K Q)
    (h2 : ∀ K : Act → World → Prop, (∀ a' w', J w' → wpJ P md ops Q J fuel (listed.setIfInBounds k true) a' w' → K a' w') → Oper.wp P ok a w K Q) : wpJ P md ops Q J (fuel + 1) listed a w := by
  refine ⟨fun h => (by rw [hr] at h; cases h), fun j hj => ?_⟩
  rw [hr] at hj
  rcases List.mem_cons.1 hj with rfl | hj
  · unfold wpOp
    simp only [hi, hwi, if_true]
    exact .inl (h1 _ fun a' w' h1 h2 => ⟨h1, h2⟩)
  · obtain rfl : j = k := by simpa using hj
    unfold wpOp
    simp only [hk, hwk, if_true]
    exact .inl (h2 _ fun a' w' h1 h2 => ⟨h1, h2⟩)
variable {P : Program} {md : Region.Mode} {ops : Array Oper} {Q : Exit → Act → World → Prop} {J : World → Prop}
end Go.Proofs.YtfmbifocgljieaaGreatDoor
namespace Go.Proofs.YtfmbifocgljieaaGreatDoor
open Go.RowKit Go.Shelf
set_option maxRecDepth 20000
set_option maxHeartbeats 0
theorem moved_ok (e n : Int) (w : World) (he : -1048576 ≤ e ∧ e ≤ 2097152) (hs : -1048576 ≤ e + n ∧ e + n ≤ 1048576) :
    Calls Tryz.prog 79 #[.int .i64 e, .int .i64 n] w fun en w' => en = .returned (.tuple #[.int .i64 (e + n), .int .i64 0]) ∧ w' = w := by
  have f1 : wrap64 (-1048576 - e) = -1048576 - e := by simp only [wrap64]; omega
  have f2 : wrap64 (1048576 - e) = 1048576 - e := by simp only [wrap64]; omega
  have f3 : wrap64 (e + n) = e + n := by simp only [wrap64]; omega
  have f4 : ¬ n < -1048576 - e := by omega
  have f5 : ¬ 1048576 - e < n := by omega
  clear he hs
  go_enter Tryz.func79, Tryz.ntmps79
  go_wp2_with fail
  go_ret2
  exact ⟨rfl, rfl⟩
theorem lt_LIM {n L : Nat} (h : n < 2 ^ L) (hL : L ≤ 524288) : n < LIM := by
  refine (lim_bits n).2 ?_
  by_cases h0 : n = 0
  · rw [h0, bitsN_zero]; omega
  · have h1 := bitsN_le n h0
    have h2 := (Nat.pow_lt_pow_iff_right (by omega : 1 < 2)).1 (Nat.lt_of_le_of_lt h1 h)
    omega
structure DB (z e : Int) (K E : Nat) : Prop where
  fm : DFm z e
  sz : z.natAbs < 2 ^ K
  lo : -(E : Int) ≤ e
  hi : e ≤ E
theorem DB.mono {z e : Int} {K E K' E' : Nat} (h : DB z e K E) (hK : K ≤ K') (hE : E ≤ E') : DB z e K' E' :=
  ⟨h.fm, Nat.lt_of_lt_of_le h.sz (Nat.pow_le_pow_right (by omega) hK), by have := h.lo; omega, by have := h.hi; omega⟩
theorem DFm.neg {z e : Int} (h : DFm z e) : DFm (-z) e := by
  rcases h with ⟨h1, h2⟩ | ⟨h1, h2⟩
  · exact .inl ⟨by omega, h2⟩
  · exact .inr ⟨by omega, h2⟩
theorem DB.neg {z e : Int} {K E : Nat} (h : DB z e K E) : DB (-z) e K E := ⟨h.fm.neg, by rw [Int.natAbs_neg]; exact h.sz, h.lo, h.hi⟩
theorem dv_le {x y : Int} (e : Int) (h : x ≤ y) : dv x e ≤ dv y e := by
  unfold dv
  exact Int.mul_le_mul_of_nonneg_right h (Int.natCast_nonneg _)
theorem dv_up {x e : Int} (k : Nat) (he : -4194304 ≤ e) : dv x (e + k) = dv (x * ((2 ^ k : Nat) : Int)) e := by
  rw [dv_shift (e := e + k) (f := e) (by omega) he, show (e + (k : Int) - e).toNat = k from by omega]
def MakeP (B : Nat) (w' : World) (en : Ending) (z e : Int) : Prop :=
  (∃ v zo eo, en = .returned (.tuple #[v, .int .i64 0]) ∧ AnsD B w' v zo eo ∧ DFm zo eo ∧ dv zo eo = dv z e) ∨
  (en = .returned (.tuple #[DV false none 0 0 0, .int .i64 5]) ∧ ∀ zo eo, DFm zo eo → dv zo eo ≠ dv z e)
theorem MakeP.form {B : Nat} {w' : World} {en : Ending} {z e zo eo : Int} (h : MakeP B w' en z e) (hf : DFm zo eo) (hv : dv zo eo = dv z e) : ∃ v, en = .returned (.tuple #[v, .int .i64 0]) ∧ AnsD B w' v zo eo := by
  rcases h with ⟨v, z1, e1, h1, h2, h3, h4⟩ | ⟨_, h2⟩
  · obtain ⟨rfl, rfl⟩ := dv_inj h3 hf (h4.trans hv.symm)
    exact ⟨v, h1, h2⟩
  · exact absurd hv (h2 _ _ hf)
theorem odd_exp {z z' e e' : Int} (hz : z % 2 = 1) (hz' : z' % 2 = 1) (he : -4194304 ≤ e) (he' : -4194304 ≤ e') (h : dv z e = dv z' e') : e = e' := by
  unfold dv at h
  have h1 := odd_ne hz h
  have h2 := odd_ne hz' h.symm
  omega
theorem make_no {z e : Int} {k : Nat} (hz : z ≠ 0) (hk : TzO z.natAbs k) (he : -4194304 ≤ e) (hn : ¬ (-1048576 ≤ k + e ∧ k + e ≤ 1048576)) : ∀ zo eo, DFm zo eo → dv zo eo ≠ dv z e := by
  intro zo eo hf hv
  obtain ⟨h1, h2, _⟩ := tz_split hz hk
  generalize fl (decide (z < 0)) z.natAbs (2 ^ k) = o at *
  rw [← h2, ← dv_up k he] at hv
  rcases hf with ⟨rfl, rfl⟩ | ⟨h3, h4, h5⟩
  · rw [dv_zero] at hv
    have := dv_eq_zero hv.symm
    omega
  · have := odd_exp h3 h1 (by omega) (by omega) hv
    omega
theorem form_ex {z e : Int} {L : Nat} (hz : z ≠ 0) (h1 : -1048576 ≤ e) (hL : z.natAbs ≤ 2 ^ L) (h2 : e + L ≤ 1048576) : ∃ zo eo, DFm zo eo ∧ dv zo eo = dv z e ∧ zo % 2 = 1 ∧ zo.natAbs ≤ z.natAbs ∧ e ≤ eo ∧ eo ≤ e + L := by
  obtain ⟨k, hk⟩ := TzO.ex z.natAbs
  obtain ⟨h3, h4, h5⟩ := tz_split hz hk
  have h6 : 2 ^ k ≤ 2 ^ L := by
    refine Nat.le_trans ?_ hL
    rcases hk with ⟨h0, _⟩ | ⟨_, h7, h8⟩
    · omega
    · rcases Nat.lt_or_ge z.natAbs (2 ^ k) with h | h
      · rw [Nat.div_eq_of_lt h] at h8; omega
      · exact h
  have h7 := (Nat.pow_le_pow_iff_right (by omega : 1 < 2)).1 h6
  generalize fl (decide (z < 0)) z.natAbs (2 ^ k) = o at *
  refine ⟨o, e + k, .inr ⟨h3, by omega, by omega⟩, ?_, h3, h5, by omega, by omega⟩
  rw [dv_up k (by omega), h4]
def MP (B : Nat) (w' : World) (s : Bool) (p : Option Addr) (m : Nat) (eo er : Int) (z e : Int) : Prop :=
  (er = 0 ∧ ∃ zo zs, s = decide (zo < 0) ∧ Own B w' p m zs ∧ Nf B64 zs zo.natAbs ∧ m ≤ 8192 ∧ DFm zo eo ∧ dv zo eo = dv z e) ∨
  (er = 5 ∧ s = false ∧ p = none ∧ m = 0 ∧ eo = 0 ∧ ∀ zo eo, DFm zo eo → dv zo eo ≠ dv z e)
theorem MakeP.open {B : Nat} {w' : World} {en : Ending} {z e : Int} (h : MakeP B w' en z e) : ∃ s p m eo er, en = .returned (.tuple #[DV s p m m eo, .int .i64 er]) ∧ MP B w' s p m eo er z e := by
  rcases h with ⟨v, z1, e1, h1, ⟨p, m, zs, rfl, h2, h3, h4⟩, h5, h6⟩ | ⟨h1, h2⟩
  · exact ⟨_, p, m, e1, 0, h1, .inl ⟨rfl, z1, zs, rfl, h2, h3, h4, h5, h6⟩⟩
  · exact ⟨_, _, _, _, 5, h1, .inr ⟨rfl, rfl, rfl, rfl, rfl, h2⟩⟩
theorem MP.close {B : Nat} {w' : World} {s : Bool} {p : Option Addr} {m : Nat} {eo er z e : Int} (h : MP B w' s p m eo er z e) : MakeP B w' (.returned (.tuple #[DV s p m m eo, .int .i64 er])) z e := by
  rcases h with ⟨rfl, zo, zs, rfl, h2, h3, h4, h5, h6⟩ | ⟨rfl, rfl, rfl, rfl, rfl, h2⟩
  · exact .inl ⟨_, zo, eo, rfl, ⟨p, m, zs, rfl, h2, h3, h4⟩, h5, h6⟩
  · exact .inr ⟨rfl, h2⟩
theorem MP.set {B b : Nat} {w' : World} {s : Bool} {p : Option Addr} {m : Nat} {eo er z e : Int} (h : MP B w' s p m eo er z e) {r : Nat} (hr : r < B) (hb : b ≤ B) (v0 v1 v2 : Value) : MP b (((w'.setCell ⟨r, 0, none⟩ v0).setCell ⟨r, 1, none⟩ v1).setCell ⟨r, 2, none⟩ v2) s p m eo er z e := by
  rcases h with ⟨h0, zo, zs, h1, h2, h3, h4, h5, h6⟩ | h
  · exact .inl ⟨h0, zo, zs, h1, own_set3 h2 hr hb v0 v1 v2, h3, h4, h5, h6⟩
  · exact .inr h
theorem MP.below {B : Nat} {w w' : World} {s : Bool} {p : Option Addr} {m : Nat} {eo er z e : Int} (h : MP B w s p m eo er z e) (hb : Below w.heap.size w w') : MP B w' s p m eo er z e := by
  rcases h with ⟨h0, zo, zs, h1, h2, h3, h4, h5, h6⟩ | h
  · exact .inl ⟨h0, zo, zs, h1, h2.below hb, h3, h4, h5, h6⟩
  · exact .inr h
theorem MakeP.mono {B b : Nat} {w' : World} {en : Ending} {z e : Int} (h : MakeP B w' en z e) (hb : b ≤ B) : MakeP b w' en z e := by
  rcases h with ⟨v, z1, e1, h1, ⟨p, m, zs, h8, h2, h3, h4⟩, h5, h6⟩ | h
  · exact .inl ⟨v, z1, e1, h1, ⟨p, m, zs, h8, h2.mono hb, h3, h4⟩, h5, h6⟩
  · exact .inr h
theorem moved_no (e n : Int) (w : World) (he : -1048576 ≤ e ∧ e ≤ 2097152) (hs : ¬ (-1048576 ≤ e + n ∧ e + n ≤ 1048576)) :
    Calls Tryz.prog 79 #[.int .i64 e, .int .i64 n] w fun en w' => en = .returned (.tuple #[.int .i64 0, .int .i64 5]) ∧ w' = w := by
  have f1 : wrap64 (-1048576 - e) = -1048576 - e := by simp only [wrap64]; omega
  have f2 : wrap64 (1048576 - e) = 1048576 - e := by simp only [wrap64]; omega
  by_cases f4 : n < -1048576 - e
  · clear he hs
    go_enter Tryz.func79, Tryz.ntmps79
    go_wp2_with fail
    go_ret2
    exact ⟨rfl, rfl⟩
  have f5 : 1048576 - e < n := by omega
  clear he hs
  go_enter Tryz.func79, Tryz.ntmps79
  go_wp2_with fail
  go_ret2
  exact ⟨rfl, rfl⟩
theorem makep_n {p : Option Addr} {m c : Nat} {w : World} {z e : Int} {s : Bool} (h : ZN w s p m c z) (he : -3145728 ≤ e ∧ e ≤ 3145728) (hT : Tab w) {k : Nat} (hz : z ≠ 0) (hk : TzO z.natAbs k) (hr : (-1048576 ≤ k + e ∧ k + e ≤ 1048576)) :
    Calls Tryz.prog 45 #[ZV s p m c, .int .i64 e] w fun en w' => MakeP w.heap.size w' en z e ∧ Below w.heap.size w w' := by
  have H : Hid (ZN w s p m c z) := h
  have HE : Hid (-3145728 ≤ e ∧ e ≤ 3145728) := he
  have TB : Hid (Tab w) := hT
  have HZ : Hid (z ≠ 0) := hz
  have HR : Hid ((-1048576 ≤ k + e ∧ k + e ≤ 1048576)) := hr
  have HK : Hid (TzO z.natAbs k) := hk
  clear h he hT hz hr
  go_enter Tryz.func45, Tryz.ntmps45
  go_wp2_with fail
  obtain ⟨W0, hW0⟩ : ∃ W0, W0 = ((w.alloc (.cells #[.bool s, .slice p m c] 31)).alloc (.cells #[.bool false, .slice none 0 0, .int .i64 0] 33)) := ⟨_, rfl⟩
  have Xm : Hid (Box W0 (w.heap.size) (.bool s) (.slice p m c)) := by rw [hW0]; exact ⟨by go_simp, by go_simp, by go_simp, by go_simp⟩
  have Xr : Hid (B3q W0 (w.heap.size + 1) (.bool false) (.slice none 0 0) (.int .i64 0)) := by rw [hW0]; exact ⟨by go_simp, by go_simp, by go_simp, by go_simp, by go_simp, by go_simp⟩
  have hb0 : Below w.heap.size w W0 := by rw [hW0]; exact below2 w _ _
  rw [← hW0]
  clear hW0
  have hbw : Below w.heap.size w w := Below.refl _ _
  obtain ⟨gr, hgr⟩ : ∃ g, g = w.heap.size + 1 := ⟨_, rfl⟩
  have HGr : Hid (w.heap.size ≤ gr) := by rw [hgr]; show _ ≤ _; omega
  rw [← hgr] at Xr
  try rw [← hgr]
  obtain ⟨gm, hgm⟩ : ∃ g, g = w.heap.size := ⟨_, rfl⟩
  have HGm : Hid (w.heap.size ≤ gm) := by rw [hgm]; show _ ≤ _; omega
  rw [← hgm] at Xm
  try rw [← hgm]
  have HGD : Hid (gm ≠ gr ∧ gr ≠ gm) := by rw [hgm, hgr]; exact ⟨by omega, by omega⟩
  clear hgm hgr
  replace hbw := Below.on hbw hb0
  clear hb0
  refine (zform (H.out.below hbw)).mono ?_
  rintro e v1 ⟨rfl, hb1⟩
  replace Xm : Hid _ := Xm.out.below hb1
  replace Xr : Hid _ := Xr.out.below hb1
  replace hbw := Below.on hbw hb1
  clear hb1
  obtain ⟨cm0, cm1, fm0, fm1⟩ := Xm.out
  have hnem := Xm.out.lt
  go_wp2_with fail
  clear cm0 cm1 fm0 fm1 hnem
  refine (zsign (H.out.below hbw)).mono ?_
  rintro e v2 ⟨rfl, hb2⟩
  obtain ⟨sg, hsg⟩ : ∃ sg, sg = sgnI (z) := ⟨_, rfl⟩
  rw [← hsg]
  have hs0 : (sg == 0) = false := by rw [hsg]; have := HZ.out; unfold sgnI; split <;> (try split) <;> simp <;> omega
  clear hsg
  replace Xm : Hid _ := Xm.out.below hb2
  replace Xr : Hid _ := Xr.out.below hb2
  replace hbw := Below.on hbw hb2
  clear hb2
  obtain ⟨cm0, cm1, fm0, fm1⟩ := Xm.out
  have hnem := Xm.out.lt
  go_wp2_with fail
  clear cm0 cm1 fm0 fm1 hnem
  have hkb : k ≤ 524288 := by
    have h1 := (lim_bits z.natAbs).1 H.out.lim
    rcases hk with ⟨h0, _⟩ | ⟨_, h2, h3⟩
    · exact absurd (Int.natAbs_eq_zero.1 h0) HZ.out
    · have h4 : 2 ^ k ≤ z.natAbs := by
        rcases Nat.lt_or_ge z.natAbs (2 ^ k) with h | h
        · rw [Nat.div_eq_of_lt h] at h3; omega
        · exact h
      have h5 := bitsN_lt z.natAbs
      have h6 := (Nat.pow_lt_pow_iff_right (by omega : 1 < 2)).1 (Nat.lt_of_le_of_lt h4 h5)
      omega
  have HKB : Hid (k ≤ 524288) := hkb
  clear hk hkb
  obtain ⟨xs, hX⟩ := (H.out.below hbw).ex
  refine (trail_any hX.at_ (by have := hX.le; omega) (k := k) (by rw [hX.nf.val]; exact HK.out) (TB.out.below hbw)).mono ?_
  rintro e2 v3 ⟨rfl, hw⟩
  obtain rfl := hw.symm
  clear hw hX
  go_wp2_with fail
  refine (moved_ok k e _ (by have := HKB.out; omega) HR.out).mono ?_
  rintro e2 v4 ⟨rfl, hw⟩
  obtain rfl := hw.symm
  clear hw
  obtain ⟨cm0, cm1, fm0, fm1⟩ := Xm.out
  have hnem := Xm.out.lt
  go_wp2_with fail
  clear cm0 cm1 fm0 fm1 hnem
  obtain ⟨o, ho9⟩ : ∃ o, o = fl (decide (z < 0)) z.natAbs (2 ^ k) := ⟨_, rfl⟩
  have HO9 : Hid (o % 2 = 1 ∧ o * ((2 ^ k : Nat) : Int) = z ∧ o.natAbs ≤ z.natAbs) := by rw [ho9]; exact tz_split HZ.out HK.out
  have HRL : Hid (gr < v2.heap.size ∧ w.heap.size ≤ v2.heap.size) := ⟨Xr.out.lt, hbw.size⟩
  obtain ⟨xs, hX⟩ := (H.out.below hbw).ex
  refine (fshr_any s hX H.out.pos k (by have := HKB.out; omega) (TB.out.below hbw)).mono ?_
  rintro e2 v5 ⟨v, rfl, hv, hb5⟩
  rw [H.out.sg, ← ho9] at hv
  obtain ⟨p5, m5, z5, rfl, ho5, hn5, hm5⟩ := hv
  clear hX ho9
  replace Xm : Hid _ := Xm.out.below hb5
  replace Xr : Hid _ := Xr.out.below hb5
  replace hbw := Below.on hbw hb5
  clear hb5
  have O5 : Hid (Own v2.heap.size v5 p5 m5 z5) := ho5
  have N5 : Hid (Nf B64 z5 o.natAbs ∧ m5 ≤ 8192) := ⟨hn5, hm5⟩
  clear ho5 hn5 hm5
  obtain ⟨so, hso⟩ : ∃ b, b = decide (o < 0) := ⟨_, rfl⟩
  rw [← hso]
  have HSO : Hid (so = decide (o < 0)) := hso
  clear hso
  obtain ⟨cr0, cr1, cr2, fr0, fr1, fr2⟩ := Xr.out
  have hner : gr < v5.heap.size := World.block_lt_of_cell? v5 _ cr0
  go_wp2_with fail
  refine bodyPost_ret (v := .tuple #[DV so p5 m5 m5 (k + e), .int .i64 0]) (by rw [results_cell_tmp rfl]; go_simp) rfl ⟨.inl ⟨_, o, k + e, rfl, ⟨p5, m5, z5, by rw [HSO.out], ?_, N5.out.1, N5.out.2⟩, .inr ⟨HO9.out.1, HR.out⟩, ?_⟩, ?_⟩
  · exact (own_set3 O5.out HRL.out.1 HRL.out.2 _ _ _).below (below1 _ _)
  · rw [dv_shift (e := (k : Int) + e) (f := e) (by omega) (by have := HE.out; omega), show ((k : Int) + e - e).toNat = k from by omega, HO9.out.2.1]
  · exact Below.on (bSet (bSet (bSet hbw _ _ _ HGr.out) _ _ _ HGr.out) _ _ _ HGr.out) (below1 _ _)
theorem makep_e {p : Option Addr} {m c : Nat} {w : World} {z e : Int} {s : Bool} (h : ZN w s p m c z) (he : -3145728 ≤ e ∧ e ≤ 3145728) (hT : Tab w) {k : Nat} (hz : z ≠ 0) (hk : TzO z.natAbs k) (hr : ¬ (-1048576 ≤ k + e ∧ k + e ≤ 1048576)) :
    Calls Tryz.prog 45 #[ZV s p m c, .int .i64 e] w fun en w' => MakeP w.heap.size w' en z e ∧ Below w.heap.size w w' := by
  have H : Hid (ZN w s p m c z) := h
  have HE : Hid (-3145728 ≤ e ∧ e ≤ 3145728) := he
  have TB : Hid (Tab w) := hT
  have HZ : Hid (z ≠ 0) := hz
  have HR : Hid (¬ (-1048576 ≤ k + e ∧ k + e ≤ 1048576)) := hr
  have HK : Hid (TzO z.natAbs k) := hk
  clear h he hT hz hr
  go_enter Tryz.func45, Tryz.ntmps45
  go_wp2_with fail
  obtain ⟨W0, hW0⟩ : ∃ W0, W0 = ((w.alloc (.cells #[.bool s, .slice p m c] 31)).alloc (.cells #[.bool false, .slice none 0 0, .int .i64 0] 33)) := ⟨_, rfl⟩
  have Xm : Hid (Box W0 (w.heap.size) (.bool s) (.slice p m c)) := by rw [hW0]; exact ⟨by go_simp, by go_simp, by go_simp, by go_simp⟩
  have Xr : Hid (B3q W0 (w.heap.size + 1) (.bool false) (.slice none 0 0) (.int .i64 0)) := by rw [hW0]; exact ⟨by go_simp, by go_simp, by go_simp, by go_simp, by go_simp, by go_simp⟩
  have hb0 : Below w.heap.size w W0 := by rw [hW0]; exact below2 w _ _
  rw [← hW0]
  clear hW0
  have hbw : Below w.heap.size w w := Below.refl _ _
  obtain ⟨gr, hgr⟩ : ∃ g, g = w.heap.size + 1 := ⟨_, rfl⟩
  have HGr : Hid (w.heap.size ≤ gr) := by rw [hgr]; show _ ≤ _; omega
  rw [← hgr] at Xr
  try rw [← hgr]
  obtain ⟨gm, hgm⟩ : ∃ g, g = w.heap.size := ⟨_, rfl⟩
  have HGm : Hid (w.heap.size ≤ gm) := by rw [hgm]; show _ ≤ _; omega
  rw [← hgm] at Xm
  try rw [← hgm]
  have HGD : Hid (gm ≠ gr ∧ gr ≠ gm) := by rw [hgm, hgr]; exact ⟨by omega, by omega⟩
  clear hgm hgr
  replace hbw := Below.on hbw hb0
  clear hb0
  refine (zform (H.out.below hbw)).mono ?_
  rintro e v1 ⟨rfl, hb1⟩
  replace Xm : Hid _ := Xm.out.below hb1
  replace Xr : Hid _ := Xr.out.below hb1
  replace hbw := Below.on hbw hb1
  clear hb1
  obtain ⟨cm0, cm1, fm0, fm1⟩ := Xm.out
  have hnem := Xm.out.lt
  go_wp2_with fail
  clear cm0 cm1 fm0 fm1 hnem
  refine (zsign (H.out.below hbw)).mono ?_
  rintro e v2 ⟨rfl, hb2⟩
  obtain ⟨sg, hsg⟩ : ∃ sg, sg = sgnI (z) := ⟨_, rfl⟩
  rw [← hsg]
  have hs0 : (sg == 0) = false := by rw [hsg]; have := HZ.out; unfold sgnI; split <;> (try split) <;> simp <;> omega
  clear hsg
  replace Xm : Hid _ := Xm.out.below hb2
  replace Xr : Hid _ := Xr.out.below hb2
  replace hbw := Below.on hbw hb2
  clear hb2
  obtain ⟨cm0, cm1, fm0, fm1⟩ := Xm.out
  have hnem := Xm.out.lt
  go_wp2_with fail
  clear cm0 cm1 fm0 fm1 hnem
  have hkb : k ≤ 524288 := by
    have h1 := (lim_bits z.natAbs).1 H.out.lim
    rcases hk with ⟨h0, _⟩ | ⟨_, h2, h3⟩
    · exact absurd (Int.natAbs_eq_zero.1 h0) HZ.out
    · have h4 : 2 ^ k ≤ z.natAbs := by
        rcases Nat.lt_or_ge z.natAbs (2 ^ k) with h | h
        · rw [Nat.div_eq_of_lt h] at h3; omega
        · exact h
      have h5 := bitsN_lt z.natAbs
      have h6 := (Nat.pow_lt_pow_iff_right (by omega : 1 < 2)).1 (Nat.lt_of_le_of_lt h4 h5)
      omega
  have HKB : Hid (k ≤ 524288) := hkb
  clear hk hkb
  obtain ⟨xs, hX⟩ := (H.out.below hbw).ex
  refine (trail_any hX.at_ (by have := hX.le; omega) (k := k) (by rw [hX.nf.val]; exact HK.out) (TB.out.below hbw)).mono ?_
  rintro e2 v3 ⟨rfl, hw⟩
  obtain rfl := hw.symm
  clear hw hX
  go_wp2_with fail
  refine (moved_no k e _ (by have := HKB.out; omega) HR.out).mono ?_
  rintro e2 v4 ⟨rfl, hw⟩
  obtain rfl := hw.symm
  clear hw
  obtain ⟨cr0, cr1, cr2, fr0, fr1, fr2⟩ := Xr.out
  have hner : gr < v2.heap.size := World.block_lt_of_cell? v2 _ cr0
  go_wp2_with fail
  refine bodyPost_ret (v := .tuple #[DV false none 0 0 0, .int .i64 5]) (by rw [results_cell_tmp rfl]; go_simp) rfl ⟨.inr ⟨rfl, make_no HZ.out HK.out (by have := HE.out; omega) HR.out⟩, ?_⟩
  first | exact hbw | exact bSet (bSet (bSet hbw _ _ _ HGr.out) _ _ _ HGr.out) _ _ _ HGr.out
theorem makep_z {p : Option Addr} {m c : Nat} {w : World} {z e : Int} {s : Bool} (h : ZN w s p m c z) (hz : z = 0) :
    Calls Tryz.prog 45 #[ZV s p m c, .int .i64 e] w fun en w' => MakeP w.heap.size w' en z e ∧ Below w.heap.size w w' := by
  have H : Hid (ZN w s p m c z) := h
  subst hz
  clear h
  go_enter Tryz.func45, Tryz.ntmps45
  go_wp2_with fail
  obtain ⟨W0, hW0⟩ : ∃ W0, W0 = ((w.alloc (.cells #[.bool s, .slice p m c] 31)).alloc (.cells #[.bool false, .slice none 0 0, .int .i64 0] 33)) := ⟨_, rfl⟩
  have Xm : Hid (Box W0 (w.heap.size) (.bool s) (.slice p m c)) := by rw [hW0]; exact ⟨by go_simp, by go_simp, by go_simp, by go_simp⟩
  have Xr : Hid (B3q W0 (w.heap.size + 1) (.bool false) (.slice none 0 0) (.int .i64 0)) := by rw [hW0]; exact ⟨by go_simp, by go_simp, by go_simp, by go_simp, by go_simp, by go_simp⟩
  have hb0 : Below w.heap.size w W0 := by rw [hW0]; exact below2 w _ _
  rw [← hW0]
  clear hW0
  have hbw : Below w.heap.size w w := Below.refl _ _
  obtain ⟨gr, hgr⟩ : ∃ g, g = w.heap.size + 1 := ⟨_, rfl⟩
  have HGr : Hid (w.heap.size ≤ gr) := by rw [hgr]; show _ ≤ _; omega
  rw [← hgr] at Xr
  try rw [← hgr]
  obtain ⟨gm, hgm⟩ : ∃ g, g = w.heap.size := ⟨_, rfl⟩
  have HGm : Hid (w.heap.size ≤ gm) := by rw [hgm]; show _ ≤ _; omega
  rw [← hgm] at Xm
  try rw [← hgm]
  have HGD : Hid (gm ≠ gr ∧ gr ≠ gm) := by rw [hgm, hgr]; exact ⟨by omega, by omega⟩
  clear hgm hgr
  replace hbw := Below.on hbw hb0
  clear hb0
  refine (zform (H.out.below hbw)).mono ?_
  rintro e v1 ⟨rfl, hb1⟩
  replace Xm : Hid _ := Xm.out.below hb1
  replace Xr : Hid _ := Xr.out.below hb1
  replace hbw := Below.on hbw hb1
  clear hb1
  obtain ⟨cm0, cm1, fm0, fm1⟩ := Xm.out
  have hnem := Xm.out.lt
  go_wp2_with fail
  clear cm0 cm1 fm0 fm1 hnem
  refine (zsign (H.out.below hbw)).mono ?_
  rintro e v2 ⟨rfl, hb2⟩
  rw [show sgnI 0 = 0 from rfl]
  replace Xm : Hid _ := Xm.out.below hb2
  replace Xr : Hid _ := Xr.out.below hb2
  replace hbw := Below.on hbw hb2
  clear hb2
  obtain ⟨cr0, cr1, cr2, fr0, fr1, fr2⟩ := Xr.out
  have hner : gr < v2.heap.size := World.block_lt_of_cell? v2 _ cr0
  go_wp2_with fail
  refine bodyPost_ret (v := .tuple #[DV false none 0 0 0, .int .i64 0]) (by rw [results_cell_tmp rfl]; go_simp) rfl ⟨.inl ⟨_, 0, 0, rfl, ⟨none, 0, [], rfl, ⟨rfl, Dig.nil _, .inl rfl⟩, Nf.nil _, by omega⟩, .inl ⟨rfl, rfl⟩, by rw [dv_zero, dv_zero]⟩, ?_⟩
  first | exact hbw | exact bSet (bSet (bSet hbw _ _ _ HGr.out) _ _ _ HGr.out) _ _ _ HGr.out
theorem makep {p : Option Addr} {m c : Nat} {w : World} {z e : Int} {s : Bool} (h : ZN w s p m c z) (he : -3145728 ≤ e ∧ e ≤ 3145728) (hT : Tab w) :
    Calls Tryz.prog 45 #[ZV s p m c, .int .i64 e] w fun en w' => MakeP w.heap.size w' en z e ∧ Below w.heap.size w w' := by
  by_cases hz : z = 0
  · exact makep_z h hz
  obtain ⟨k, hk⟩ := TzO.ex z.natAbs
  by_cases hr : -1048576 ≤ k + e ∧ k + e ≤ 1048576
  · exact makep_n h he hT hz hk hr
  · exact makep_e h he hT hz hk hr
def formD (s : Bool) (xs : List Nat) (e : Int) : Bool := formB xs && (decide (-1048576 ≤ e) && (decide (e ≤ 1048576) && (if xs.length = 0 then (!s && decide (e = 0)) else decide (xs.getD 0 0 % 2 = 1))))
def formZ (s : Bool) (xs : List Nat) : Bool := formB xs && !(s && decide (xs = []))
structure Pm (f p m l : Int) (S I H : Nat) : Prop where
  fm : Fm f p m l S I
  pt : ∀ (s : Nat) w, s < S → Calls Tryz.prog 77 #[WV p m l, U s] w fun e w' => e = .returned (.tuple #[U (s - (s / H - 1) * H), .int .i64 (l + ((s / H - 1 : Nat) : Int))]) ∧ Below w.heap.size w w'
  hp : 0 < H
  h2 : 2 * H ≤ I
  h9 : 2 * H ≤ 9007199254740992
  lo : -1074 ≤ l ∧ l ≤ -149
  st : ∀ s, s < I → s / H - 1 ≤ 2045
theorem pm_32 : Pm 32 32 24 (-149) 2147483648 2139095040 8388608 :=
  ⟨fm_32, fun s w hs => parts_32 s _ _ rfl rfl hs w, by decide, by decide, by decide, by decide, fun s hs => by omega⟩
theorem pm_64 : Pm 64 64 53 (-1074) 9223372036854775808 9218868437227405312 4503599627370496 :=
  ⟨fm_64, fun s w hs => parts_64 s _ _ rfl rfl hs w, by decide, by decide, by decide, by decide, fun s hs => by omega⟩
theorem results_t4 {fn : Func} {a b c d : Tmp} (h : fn.results = #[.tmp a, .tmp b, .tmp c, .tmp d]) (tmps : Array Value) (P : Program) (w : World) :
    (results fn tmps).run P w = .ok (.tuple #[tmps.getD a undef, tmps.getD b undef, tmps.getD c undef, tmps.getD d undef]) w := by
  simp only [results, h]
  simp
theorem finite_ok {f p m l : Int} {S I H : Nat} (F : Pm f p m l S I H) (b : Nat) (hb : b < 2 * S) (hr : b % S < I) (w : World) :
    Calls Tryz.prog 76 #[.int .i64 f, U b] w fun en w' => en = .returned (.tuple #[PV p m l (decide (S ≤ b)) (b % S), .int .i64 0]) ∧ Below w.heap.size w w' := by
  have HF : Hid (Pm f p m l S I H) := F
  have HR : Hid (b < 2 * S ∧ b % S ≤ I ∧ decide (b % S = I) = false) := ⟨hb, by omega, decide_eq_false (by omega)⟩
  obtain ⟨z, hz⟩ : ∃ z, z = b % S := ⟨_, rfl⟩
  obtain ⟨s, hs⟩ : ∃ s, s = decide (S ≤ b) := ⟨_, rfl⟩
  rw [← hz, ← hs]
  have HZ : Hid (b % S = z ∧ decide (S ≤ b) = s) := ⟨hz.symm, hs.symm⟩
  clear F hb hr hz hs
  go_enter Tryz.func76, Tryz.ntmps76
  go_wp2_with fail
  obtain ⟨W0, hW0⟩ : ∃ W0, W0 = (w.alloc (.cells #[.int .i64 0, .int .i64 0, .int .i64 0, .bool false, .int .u64 0] 78)) := ⟨_, rfl⟩
  have Xr : Hid (B5q W0 (w.heap.size) (.int .i64 0) (.int .i64 0) (.int .i64 0) (.bool false) (.int .u64 0)) := by rw [hW0]; exact ⟨by go_simp, by go_simp, by go_simp, by go_simp, by go_simp, by go_simp, by go_simp, by go_simp, by go_simp, by go_simp⟩
  have hb0 : Below w.heap.size w W0 := by rw [hW0]; exact below1 w _
  rw [← hW0]
  clear hW0
  have hbw : Below w.heap.size w w := Below.refl _ _
  obtain ⟨gr, hgr⟩ : ∃ g, g = w.heap.size := ⟨_, rfl⟩
  have HGr : Hid (w.heap.size ≤ gr) := by rw [hgr]; show _ ≤ _; omega
  rw [← hgr] at Xr
  try rw [← hgr]
  clear hgr
  replace hbw := Below.on hbw hb0
  clear hb0
  refine (ranked_ok HF.out.fm b HR.out.1 HR.out.2.1 _).mono ?_
  rintro e v1 ⟨rfl, hb1⟩
  rw [HZ.out.1, HZ.out.2]
  replace Xr : Hid _ := Xr.out.below hb1
  replace hbw := Below.on hbw hb1
  clear hb1
  go_wp2_with fail
  have Xp0 : Hid (B5q (v1.alloc (.cells #[.int .i64 p, .int .i64 m, .int .i64 l, .bool s, U z] 78)) v1.heap.size (.int .i64 p) (.int .i64 m) (.int .i64 l) (.bool s) (U z)) := B5q.new v1 _ _ _ _ _ _
  have hbn : Below v1.heap.size v1 (v1.alloc (.cells #[.int .i64 p, .int .i64 m, .int .i64 l, .bool s, U z] 78)) := below1 v1 _
  generalize v1.alloc (.cells #[.int .i64 p, .int .i64 m, .int .i64 l, .bool s, U z] 78) = Wp at *
  have HGp : Hid (w.heap.size ≤ v1.heap.size) := hbw.size
  replace Xr : Hid _ := Xr.out.below hbn
  replace hbw := Below.on hbw hbn
  clear hbn
  generalize v1.heap.size = gp at *
  have Xp := Xp0
  clear Xp0
  refine (HF.out.fm.cls s z _).mono ?_
  rintro e2 v2 ⟨c, rfl, hc4, hc3, hb2⟩
  have hc0 : (c == 3) = false := by rw [hc3, ← HZ.out.1]; exact HR.out.2.2
  clear hc4 hc3
  replace Xr : Hid _ := Xr.out.below hb2
  replace Xp : Hid _ := Xp.out.below hb2
  replace hbw := Below.on hbw hb2
  clear hb2
  obtain ⟨cp0, cp1, cp2, cp3, cp4, fp0, fp1, fp2, fp3, fp4⟩ := Xp.out
  have hnep : gp < v2.heap.size := World.block_lt_of_cell? v2 _ cp0
  obtain ⟨cr0, cr1, cr2, cr3, cr4, fr0, fr1, fr2, fr3, fr4⟩ := Xr.out
  have hner : gr < v2.heap.size := World.block_lt_of_cell? v2 _ cr0
  go_wp2_with fail
  refine bodyPost_ret (v := .tuple #[PV p m l s z, .int .i64 0]) (by rw [results_cell_tmp rfl]; go_simp) rfl ⟨rfl, ?_⟩
  exact bSet (bSet (bSet (bSet (bSet hbw _ _ _ HGr.out) _ _ _ HGr.out) _ _ _ HGr.out) _ _ _ HGr.out) _ _ _ HGr.out
theorem split_ok {f p m l : Int} {S I H : Nat} (F : Pm f p m l S I H) (b : Nat) (hb : b < 2 * S) (hr : b % S < I) (w : World) :
    Calls Tryz.prog 44 #[.int .i64 f, U b] w fun en w' => en = .returned (.tuple #[.bool (decide (S ≤ b)), U (b % S - (b % S / H - 1) * H), .int .i64 (l + ((b % S / H - 1 : Nat) : Int)), .int .i64 0]) ∧ Below w.heap.size w w' := by
  have HF : Hid (Pm f p m l S I H) := F
  have hS : b % S < S := Nat.mod_lt _ (by have := F.fm.lt; omega)
  have HR : Hid (b < 2 * S ∧ b % S < I ∧ b % S < S) := ⟨hb, hr, hS⟩
  obtain ⟨z, hz⟩ : ∃ z, z = b % S := ⟨_, rfl⟩
  obtain ⟨s, hs⟩ : ∃ s, s = decide (S ≤ b) := ⟨_, rfl⟩
  rw [← hz, ← hs]
  have HZ : Hid (b % S = z ∧ decide (S ≤ b) = s) := ⟨hz.symm, hs.symm⟩
  clear F hb hr hz hs hS
  go_enter Tryz.func44, Tryz.ntmps44
  go_wp2_with fail
  have hbw : Below w.heap.size w w := Below.refl _ _
  refine (finite_ok HF.out b HR.out.1 HR.out.2.1 _).mono ?_
  rintro e v1 ⟨rfl, hb1⟩
  rw [HZ.out.1, HZ.out.2]
  replace hbw := Below.on hbw hb1
  clear hb1
  go_wp2_with fail
  have Xp0 : Hid (B5q (v1.alloc (.cells #[.int .i64 p, .int .i64 m, .int .i64 l, .bool s, U z] 78)) v1.heap.size (.int .i64 p) (.int .i64 m) (.int .i64 l) (.bool s) (U z)) := B5q.new v1 _ _ _ _ _ _
  have hbn : Below v1.heap.size v1 (v1.alloc (.cells #[.int .i64 p, .int .i64 m, .int .i64 l, .bool s, U z] 78)) := below1 v1 _
  generalize v1.alloc (.cells #[.int .i64 p, .int .i64 m, .int .i64 l, .bool s, U z] 78) = Wp at *
  have HGp : Hid (w.heap.size ≤ v1.heap.size) := hbw.size
  replace hbw := Below.on hbw hbn
  clear hbn
  generalize v1.heap.size = gp at *
  have Xp := Xp0
  clear Xp0
  refine (HF.out.pt z _ (by have := HR.out.2.2; rw [HZ.out.1] at this; exact this)).mono ?_
  rintro e v2 ⟨rfl, hb2⟩
  replace Xp : Hid _ := Xp.out.below hb2
  replace hbw := Below.on hbw hb2
  clear hb2
  obtain ⟨cp0, cp1, cp2, cp3, cp4, fp0, fp1, fp2, fp3, fp4⟩ := Xp.out
  have hnep : gp < v2.heap.size := World.block_lt_of_cell? v2 _ cp0
  go_wp2_with fail
  clear cp0 cp1 cp2 cp3 cp4 fp0 fp1 fp2 fp3 fp4 hnep
  refine bodyPost_ret (v := .tuple #[.bool s, U (z - (z / H - 1) * H), .int .i64 (l + ((z / H - 1 : Nat) : Int)), .int .i64 0]) (by rw [results_t4 rfl]; go_simp) rfl ⟨rfl, hbw⟩
theorem value_ok {f p m l : Int} {S I H : Nat} (F : Pm f p m l S I H) (b : Nat) (hb : b < 2 * S) (hr : b % S < I) (w : World) (hT : Tab w) :
    Calls Tryz.prog 22 #[.int .i64 f, U b] w fun en w' => MakeP w.heap.size w' en (if S ≤ b then -(((b % S - (b % S / H - 1) * H) : Nat) : Int) else (((b % S - (b % S / H - 1) * H) : Nat) : Int)) (l + ((b % S / H - 1 : Nat) : Int)) ∧ Below w.heap.size w w' := by
  have HF : Hid (Pm f p m l S I H) := F
  have TB : Hid (Tab w) := hT
  have HR : Hid (b < 2 * S ∧ b % S < I) := ⟨hb, hr⟩
  have hst := F.st _ hr
  have hlo := F.lo
  have h9 := F.h9
  have hp := F.hp
  obtain ⟨q, hq⟩ : ∃ q, q = b % S / H - 1 := ⟨_, rfl⟩
  have hmn : b % S - q * H < 2 * H := by
    have h1 := Nat.div_add_mod (b % S) H
    have h2 := Nat.mod_lt (b % S) hp
    rw [Nat.mul_comm] at h1
    by_cases h3 : b % S / H = 0
    · rw [h3] at h1; omega
    · rw [hq, Nat.sub_mul]; omega
  obtain ⟨mn, hmn2⟩ : ∃ mn, mn = b % S - q * H := ⟨_, rfl⟩
  obtain ⟨ex, hex⟩ : ∃ ex : Int, ex = l + (q : Int) := ⟨_, rfl⟩
  obtain ⟨s, hs⟩ : ∃ s, s = decide (S ≤ b) := ⟨_, rfl⟩
  have hsv : (if S ≤ b then -((mn : Nat) : Int) else ((mn : Nat) : Int)) = iv (s && decide (mn ≠ 0)) mn := by
    rw [hs]
    by_cases h1 : S ≤ b
    · rw [if_pos h1, decide_eq_true h1, Bool.true_and]
      by_cases h2 : mn = 0
      · rw [h2]; rfl
      · rw [decide_eq_true h2]; rfl
    · rw [if_neg h1, decide_eq_false h1, Bool.false_and]; rfl
  rw [← hq, ← hmn2, ← hex, hsv]
  obtain ⟨zv, hzv⟩ : ∃ zv, zv = iv (s && decide (mn ≠ 0)) mn := ⟨_, rfl⟩
  rw [← hzv]
  have HZV : Hid (zv = iv (s && decide (mn ≠ 0)) mn) := hzv
  rw [← hmn2] at hmn
  have HX : Hid (b % S - (b % S / H - 1) * H = mn ∧ (l + ((b % S / H - 1 : Nat) : Int)) = ex ∧ decide (S ≤ b) = s) := ⟨by rw [← hq]; exact hmn2.symm, by rw [← hq]; exact hex.symm, hs.symm⟩
  have HM : Hid (mn < B64 ∧ -3145728 ≤ ex ∧ ex ≤ 3145728) := ⟨by rw [B64_eq]; omega, by omega, by omega⟩
  clear F hb hr hT hst hlo h9 hp hmn hmn2 hex hs hsv hq hzv
  go_enter Tryz.func22, Tryz.ntmps22
  go_wp2_with fail
  obtain ⟨W0, hW0⟩ : ∃ W0, W0 = (w.alloc (.cells #[.bool false, .slice none 0 0, .int .i64 0] 33)) := ⟨_, rfl⟩
  have Xr : Hid (B3q W0 (w.heap.size) (.bool false) (.slice none 0 0) (.int .i64 0)) := by rw [hW0]; exact ⟨by go_simp, by go_simp, by go_simp, by go_simp, by go_simp, by go_simp⟩
  have hb0 : Below w.heap.size w W0 := by rw [hW0]; exact below1 w _
  rw [← hW0]
  clear hW0
  have hbw : Below w.heap.size w w := Below.refl _ _
  obtain ⟨gr, hgr⟩ : ∃ g, g = w.heap.size := ⟨_, rfl⟩
  have HGr : Hid (w.heap.size ≤ gr) := by rw [hgr]; show _ ≤ _; omega
  rw [← hgr] at Xr
  try rw [← hgr]
  clear hgr
  replace hbw := Below.on hbw hb0
  clear hb0
  refine (split_ok HF.out b HR.out.1 HR.out.2 _).mono ?_
  rintro e v1 ⟨rfl, hb1⟩
  rw [HX.out.1, HX.out.2.1, HX.out.2.2]
  replace Xr : Hid _ := Xr.out.below hb1
  replace hbw := Below.on hbw hb1
  clear hb1
  cases s
  · have HEQ : Hid (iv false mn = zv ∧ True) := ⟨HZV.out.symm, trivial⟩
    clear HZV
    go_wp2_with fail
    refine (word_any mn _ HM.out.1).mono ?_
    rintro e2 v2 ⟨p2, m2, z2, rfl, ho2, hn2, hm2, hb2⟩
    replace Xr : Hid _ := Xr.out.below hb2
    replace hbw := Below.on hbw hb2
    clear hb2
    have Z2 : Hid (ZN v2 false p2 m2 m2 zv) := (ZN.of (t := false) (Num.of ho2 hn2 (by omega)) (fun h => by cases h)).cast HEQ.out.1
    clear ho2 hn2 hm2
    go_wp2_with fail
    have HRL : Hid (gr < v2.heap.size ∧ w.heap.size ≤ v2.heap.size) := ⟨Xr.out.lt, hbw.size⟩
    refine (makep Z2.out HM.out.2 (TB.out.below hbw)).mono ?_
    rintro e2 v6 ⟨hv, hb6⟩
    obtain ⟨s6, p6, m6, eo, er, rfl, hmp⟩ := hv.open
    clear hv
    replace Xr : Hid _ := Xr.out.below hb6
    replace Z2 : Hid _ := Z2.out.below hb6
    replace hbw := Below.on hbw hb6
    clear hb6
    have M6 : Hid (MP v2.heap.size v6 s6 p6 m6 eo er (zv) (ex)) := hmp
    clear hmp
    obtain ⟨cr0, cr1, cr2, fr0, fr1, fr2⟩ := Xr.out
    have hner : gr < v6.heap.size := World.block_lt_of_cell? v6 _ cr0
    go_wp2_with fail
    refine bodyPost_ret (v := .tuple #[DV s6 p6 m6 m6 eo, .int .i64 er]) (by rw [results_cell_tmp rfl]; go_simp) rfl ⟨(M6.out.set HRL.out.1 HRL.out.2 _ _ _).close, ?_⟩
    exact bSet (bSet (bSet hbw _ _ _ HGr.out) _ _ _ HGr.out) _ _ _ HGr.out
  · by_cases hm0 : mn = 0
    · have d1 : ((mn : Int) == 0) = true := by simp [hm0]
      have d2 : ((mn : Int) != 0) = false := by simp [hm0]
      have HM0 : Hid (mn = 0) := hm0
      clear hm0
      have HEQ : Hid (iv false mn = zv ∧ True) := ⟨by rw [HZV.out, HM0.out]; rfl, trivial⟩
      clear HZV
      go_wp2_with fail
      refine (word_any mn _ HM.out.1).mono ?_
      rintro e2 v2 ⟨p2, m2, z2, rfl, ho2, hn2, hm2, hb2⟩
      replace Xr : Hid _ := Xr.out.below hb2
      replace hbw := Below.on hbw hb2
      clear hb2
      have Z2 : Hid (ZN v2 false p2 m2 m2 zv) := (ZN.of (t := false) (Num.of ho2 hn2 (by omega)) (fun h => by cases h)).cast HEQ.out.1
      clear ho2 hn2 hm2
      go_wp2_with fail
      have HRL : Hid (gr < v2.heap.size ∧ w.heap.size ≤ v2.heap.size) := ⟨Xr.out.lt, hbw.size⟩
      refine (makep Z2.out HM.out.2 (TB.out.below hbw)).mono ?_
      rintro e2 v6 ⟨hv, hb6⟩
      obtain ⟨s6, p6, m6, eo, er, rfl, hmp⟩ := hv.open
      clear hv
      replace Xr : Hid _ := Xr.out.below hb6
      replace Z2 : Hid _ := Z2.out.below hb6
      replace hbw := Below.on hbw hb6
      clear hb6
      have M6 : Hid (MP v2.heap.size v6 s6 p6 m6 eo er (zv) (ex)) := hmp
      clear hmp
      obtain ⟨cr0, cr1, cr2, fr0, fr1, fr2⟩ := Xr.out
      have hner : gr < v6.heap.size := World.block_lt_of_cell? v6 _ cr0
      go_wp2_with fail
      refine bodyPost_ret (v := .tuple #[DV s6 p6 m6 m6 eo, .int .i64 er]) (by rw [results_cell_tmp rfl]; go_simp) rfl ⟨(M6.out.set HRL.out.1 HRL.out.2 _ _ _).close, ?_⟩
      exact bSet (bSet (bSet hbw _ _ _ HGr.out) _ _ _ HGr.out) _ _ _ HGr.out
    · have HMN : Hid (mn ≠ 0) := hm0
      have d1 : ((mn : Int) == 0) = false := by simp [hm0]
      have d2 : ((mn : Int) != 0) = true := by simp [hm0]
      clear hm0
      have HEQ : Hid (iv true mn = zv ∧ 0 < mn) := ⟨by rw [HZV.out, decide_eq_true HMN.out]; rfl, by have := HMN.out; omega⟩
      clear HZV
      go_wp2_with fail
      refine (word_any mn _ HM.out.1).mono ?_
      rintro e2 v2 ⟨p2, m2, z2, rfl, ho2, hn2, hm2, hb2⟩
      replace Xr : Hid _ := Xr.out.below hb2
      replace hbw := Below.on hbw hb2
      clear hb2
      have Z2 : Hid (ZN v2 true p2 m2 m2 zv) := (ZN.of (t := true) (Num.of ho2 hn2 (by omega)) (fun _ => HEQ.out.2)).cast HEQ.out.1
      clear ho2 hn2 hm2
      go_wp2_with fail
      have HRL : Hid (gr < v2.heap.size ∧ w.heap.size ≤ v2.heap.size) := ⟨Xr.out.lt, hbw.size⟩
      refine (makep Z2.out HM.out.2 (TB.out.below hbw)).mono ?_
      rintro e2 v6 ⟨hv, hb6⟩
      obtain ⟨s6, p6, m6, eo, er, rfl, hmp⟩ := hv.open
      clear hv
      replace Xr : Hid _ := Xr.out.below hb6
      replace Z2 : Hid _ := Z2.out.below hb6
      replace hbw := Below.on hbw hb6
      clear hb6
      have M6 : Hid (MP v2.heap.size v6 s6 p6 m6 eo er (zv) (ex)) := hmp
      clear hmp
      obtain ⟨cr0, cr1, cr2, fr0, fr1, fr2⟩ := Xr.out
      have hner : gr < v6.heap.size := World.block_lt_of_cell? v6 _ cr0
      go_wp2_with fail
      refine bodyPost_ret (v := .tuple #[DV s6 p6 m6 m6 eo, .int .i64 er]) (by rw [results_cell_tmp rfl]; go_simp) rfl ⟨(M6.out.set HRL.out.1 HRL.out.2 _ _ _).close, ?_⟩
      exact bSet (bSet (bSet hbw _ _ _ HGr.out) _ _ _ HGr.out) _ _ _ HGr.out
end Go.Proofs.YtfmbifocgljieaaGreatDoor
