import Derived.Test.YtmmgnkhfaiophaaDoorRAdd
import Derived.Test.YtmmgnkhfaiophaaDoorMm0
namespace Go.Proofs.YtmmgnkhfaiophaaDoor
open Go.RowKit Go.Shelf

/-- What ref.Sub has done when i digits are through. -/
structure RSubR (w : World) (g N : Nat) (xs ys : List Nat) (i ow : Nat) (ss : List Nat) (wr : World) : Prop where
  bel : Below g w wr
  own : wr.ownsRow g 127 1 (.slice (some ⟨g, 0, none⟩) i N) i (cellsV ss)
  len : ss.length = i
  dig : Dig B32 ss
  car : ow ≤ 1
  sum : valB B32 ss + valB B32 (ys.take i) = valB B32 (xs.take i) + B32 ^ i * ow
theorem rsub_step {xs ys ss : List Nat} {i ow x y lo o2 : Nat} (h : valB B32 ss + valB B32 (ys.take i) = valB B32 (xs.take i) + B32 ^ i * ow) (hl : ss.length = i) (ex : x = xs.getD i 0) (ey : y = ys.getD i 0) (hs : lo + ow + y = x + B32 * o2) :
    valB B32 (ss ++ [lo]) + valB B32 (ys.take (i + 1)) = valB B32 (xs.take (i + 1)) + B32 ^ (i + 1) * o2 := by
  rw [valB_snoc, hl, valB_take_any _ xs i, valB_take_any _ ys i, ← ex, ← ey, Nat.pow_succ]
  have e1 : B32 ^ i * (lo + ow + y) = B32 ^ i * (x + B32 * o2) := by rw [hs]
  rw [Nat.mul_add, Nat.mul_add, Nat.mul_add, ← Nat.mul_assoc] at e1
  omega
theorem RSubR.at_ {w : World} {g N : Nat} {xs ys : List Nat} {i cy : Nat} {ss : List Nat} {wr : World} (h : RSubR w g N xs ys i cy ss wr) : At32 wr (some ⟨g, 0, none⟩) i N ss := by
  rcases h.own.2 with ⟨h', _⟩ | ⟨g', cap', cur, h', hbase, hgc, hcap', hmx, hsz, htake⟩
  · simp at h'
  · simp only [Value.slice.injEq, Option.some.injEq, Addr.mk.injEq, and_true, true_and] at h'
    obtain ⟨rfl, rfl⟩ := h'
    refine ⟨h.len, hcap', hmx, h.dig, .inr ⟨g, 0, rfl, fun jj hj => ?_⟩⟩
    rw [Nat.zero_add, cell_of_row wr g jj _ _ _ hgc]
    have e1 := cellsV_get ss jj (by rw [h.len]; exact hj)
    rw [← htake, Nat.mul_one, List.getElem?_take, if_pos hj] at e1
    rw [← Array.getElem?_toList]; exact e1

set_option maxRecDepth 20000 in
set_option maxHeartbeats 2000000 in
/-- ref.Sub, of a number above the other. -/
theorem rsub_gt {p q : Option Addr} {n m c d : Nat} {xs ys : List Nat} {a b : Nat} {w : World} (h : At32 w p n c xs) (k : At32 w q m d ys) (hx : Nf B32 xs a) (hy : Nf B32 ys b) (hn : n ≤ 4398046511104) (hlt : b < a) :
    Calls Tryd.prog 77 #[.slice p n c, .slice q m d] w fun e w' => ∃ p' m' zs, e = .returned (.slice p' m' m') ∧ At32 w' p' m' m' zs ∧ Nf B32 zs (a - b) ∧ m' ≤ n ∧ Below w.heap.size w w' := by
  obtain ⟨i0, hi, hz0, hz1, hz2⟩ := info_parts Tryd.infoU32
  have HX : Hid (Nf B32 xs a) := hx
  have HY : Hid (Nf B32 ys b) := hy
  have HLX : Hid (xs.length = n) := h.len
  have HLY : Hid (ys.length = m) := k.len
  have HLT : Hid (b < a) := hlt
  have hmn : m ≤ n := by
    rcases Nat.lt_or_ge n m with e | e
    · exfalso
      have h1 := nf32_lt hx (K := n) (by rw [h.len]; exact Nat.le_refl _)
      have h2 := nf32_ge hy (K := n) (by rw [k.len]; exact e)
      omega
    · exact e
  have hcap := h.cap; have hbig := h.big; have kcap := k.cap; have kbig := k.big
  unfold maxLen at hbig kbig
  have HA : Hid (At32 w p n c xs) := h
  have HB : Hid (At32 w q m d ys) := k
  clear hx hy h k hlt
  go_enter Tryd.func77, Tryd.ntmps77
  go_wp2_with fail
  refine (rcmp_any HA.out HB.out HX.out HY.out).mono ?_
  rintro e w' ⟨rfl, r, rfl⟩
  rw [cmpN_gt HLT.out]
  have h := HA.out.drewN r
  have k := HB.out.drewN r
  have hb0 : Below w.heap.size w (w.drewN r) := bDrewN (Below.refl _ _) r
  clear HA HB
  generalize w.drewN r = w0 at *
  go_wp2_with (at_make; refine wpList_make_own _ rfl _ _ 95 rfl w0.heap.size 127 i0 (.int .u32 0) 1 Tryd.underlying95 hi hz0 hz1 _ _ _ n rfl rfl (by omega) (by rw [hz2]; omega) (by unfold maxLen; omega) (Nat.le_refl _) ?_; intro w1 hown hgrow)
  have hb1 : Below w0.heap.size w0 w1 := (Below.refl _ _).grown hgrow (Nat.le_refl _) (fun k hk => by simp at hk)
  have HO : Hid (RSubR w0 w0.heap.size n xs ys 0 0 [] w1) := ⟨hb1, hown, rfl, Dig.nil _, by omega, by simp [valB]⟩
  clear hown hgrow hb1
  go_loopg [5, 6, 7] n (fun gk sv ov iv wr => ∃ (i ow : Nat) (ss : List Nat), i + gk = n ∧ iv = .int .i64 i ∧ ov = U ow ∧ sv = .slice (some ⟨w0.heap.size, 0, none⟩) i n ∧ Hid (RSubR w0 w0.heap.size n xs ys i ow ss wr))
  case atStart => exact ⟨0, 0, [], by omega, rfl, rfl, rfl, HO⟩
  case round =>
    obtain ⟨i, ow, ss, hig, rfl, rfl, rfl, HR⟩ := hrel
    have how := HR.out.car
    cases gk with
    | zero =>
      obtain rfl : i = n := by omega
      have A32 := HR.out.at_
      have hv := HR.out.sum
      rw [List.take_of_length_le (l := ys) (by rw [HLY.out]; omega), List.take_of_length_le (l := xs) (by rw [HLX.out]; omega), HX.out.val, HY.out.val] at hv
      have hvl := valB_lt B32_pos HR.out.dig
      rw [HR.out.len] at hvl
      have hsv : valB B32 ss = a - b := sub_abs hv hvl how (Nat.le_of_lt HLT.out)
      have HNF : Hid (Nf B32 (trimL ss) (a - b)) := by
        have := Nf.trim HR.out.dig
        rw [hsv] at this; exact this
      have hle := trimL_length_le ss
      have HLE : Hid ((trimL ss).length ≤ i) := by have := HR.out.len; show _ ≤ _; omega
      have hbx := HR.out.bel
      have hni : ¬ (i : Int) < (i : Int) := by omega
      clear hv hle hvl hsv
      go_wp2_with fail
      refine (rnorm_any A32 (by omega)).mono ?_
      rintro e w5 ⟨g5, rfl, hg5, hblk5, hb5⟩
      have hd5 := HNF.out.dig
      generalize trimL ss = zs at *
      go_wp2_with fail
      go_ret
      exact ⟨_, _, zs, rfl, hblk5.at_ hd5 rfl (by have := HLE.out; unfold maxLen; omega), HNF.out, HLE.out, Below.on hb0 (Below.on hbx hb5)⟩
    | succ gg =>
      obtain ⟨x, hx⟩ : ∃ x, x = xs.getD i 0 := ⟨_, rfl⟩
      obtain ⟨y, hy⟩ : ∃ y, y = ys.getD i 0 := ⟨_, rfl⟩
      have hxb : x < B32 := by rw [hx]; exact HX.out.dig.getD B32_pos i
      have hyb : y < B32 := by rw [hy]; exact HY.out.dig.getD B32_pos i
      have HXE : Hid (x = xs.getD i 0) := hx
      have HYE : Hid (y = ys.getD i 0) := hy
      have hin : i < n := by omega
      obtain ⟨g, off, rfl, hc⟩ := h.cells.resolve_left (by omega)
      have hcx0 : w0.cell? ⟨g, off + i, none⟩ = some (V x) := by rw [HXE.out]; exact hc i hin
      have hcx : wr.cell? ⟨g, off + i, none⟩ = some (V x) := (HR.out.bel.cell (p := ⟨g, off + i, none⟩) (World.block_lt_of_cell? w0 _ hcx0)).trans hcx0
      have hxw : IntKind.u64.wrap (x : Int) = (x : Int) := wrap_mod _ _ (by rw [B32_eq] at hxb; omega)
      have hyw : IntKind.u64.wrap (y : Int) = (y : Int) := wrap_mod _ _ (by rw [B32_eq] at hyb; omega)
      rw [B32_eq] at hxb hyb
      have hsp : i + 1 ≤ n := by omega
      clear hc hcx0 hx hy
      by_cases hb : i < m
      · have him : i < m := hb
        obtain ⟨g2, off2, rfl, hc2⟩ := k.cells.resolve_left (by omega)
        have hcy0 : w0.cell? ⟨g2, off2 + i, none⟩ = some (V y) := by rw [HYE.out]; exact hc2 i him
        have hcy1 : wr.cell? ⟨g2, off2 + i, none⟩ = some (V y) := (HR.out.bel.cell (p := ⟨g2, off2 + i, none⟩) (World.block_lt_of_cell? w0 _ hcy0)).trans hcy0
        clear hc2 hcy0
        obtain ⟨t, et⟩ : ∃ t, t = ow + y := ⟨_, rfl⟩
        have f1 : IntKind.u64.wrap ((ow : Int) + (y : Int)) = (t : Int) := wrap_mod _ _ (by omega)
        by_cases hu : x < t
        · obtain ⟨x2, ex2⟩ : ∃ x2, x2 = x + 4294967296 := ⟨_, rfl⟩
          have f2 : IntKind.u64.wrap ((x : Int) + 4294967296) = (x2 : Int) := wrap_mod _ _ (by omega)
          obtain ⟨lo, elo⟩ : ∃ lo, lo = x2 - t := ⟨_, rfl⟩
          have f3 : IntKind.u64.wrap ((x2 : Int) - (t : Int)) = (lo : Int) := wrap_mod _ _ (by omega)
          have hui : (x : Int) < (t : Int) := by omega
          have hlob : lo < B32 := by rw [B32_eq]; omega
          have f6 : IntKind.u32.wrap (lo : Int) = (lo : Int) := wrap32 lo hlob
          have f7 : (lo : Int) % 4294967296 = (lo : Int) := by rw [B32_eq] at hlob; omega
          have HSUM : Hid (lo + ow + y = x + B32 * 1) := by show _ = _; rw [B32_eq]; omega
          have HOA : Hid ((wr.alloc (.cells #[V lo] 127)).ownsRow w0.heap.size 127 1 (.slice (some ⟨w0.heap.size, 0, none⟩) i n) i (cellsV ss)) := HR.out.own.alloc _
          clear elo ex2 et hxb hyb
          go_wp2_with (at_builtin; refine wpList_append_fits _ rfl (.tmp 46) (.tmp 51) 95 rfl w0.heap.size 127 i0 1 Tryd.underlying95 hi hz1 w0.heap.size i n (cellsV ss) rfl HOA.out ⟨wr.heap.size, 0, none⟩ 1 1 [V lo] rfl rfl (one_cell wr lo) (by intro u hu; simp at hu; subst hu; rfl) hsp ?_; intro w3 hw3 hgr3)
          have HR3 : Hid (RSubR w0 w0.heap.size n xs ys (i + 1) 1 (ss ++ [lo]) w3) := by
            have hR := HR.out
            refine ⟨(hR.bel.alloc hR.bel.size _).grown hgr3 (by have := hR.bel.size; simp; omega) (fun q hq => by simp at hq; omega), ?_, by simp [hR.len], hR.dig.append (Dig.cons hlob (Dig.nil _)), by omega, rsub_step hR.sum hR.len HXE.out HYE.out HSUM.out⟩
            have e0 : cellsV (ss ++ [lo]) = cellsV ss ++ [V lo] := by unfold cellsV; rw [List.map_append]; rfl
            rw [e0]; exact hw3
          clear hw3 hgr3
          go_roundg gg
          case measure => omega
          case rel => exact ⟨i + 1, 1, ss ++ [lo], by omega, by go_num, rfl, rfl, HR3⟩
        · obtain ⟨lo, elo⟩ : ∃ lo, lo = x - t := ⟨_, rfl⟩
          have f3 : IntKind.u64.wrap ((x : Int) - (t : Int)) = (lo : Int) := wrap_mod _ _ (by omega)
          have hui : ¬ (x : Int) < (t : Int) := by omega
          have hlob : lo < B32 := by rw [B32_eq]; omega
          have f6 : IntKind.u32.wrap (lo : Int) = (lo : Int) := wrap32 lo hlob
          have f7 : (lo : Int) % 4294967296 = (lo : Int) := by rw [B32_eq] at hlob; omega
          have HSUM : Hid (lo + ow + y = x + B32 * 0) := by show _ = _; rw [B32_eq]; omega
          have HOA : Hid ((wr.alloc (.cells #[V lo] 127)).ownsRow w0.heap.size 127 1 (.slice (some ⟨w0.heap.size, 0, none⟩) i n) i (cellsV ss)) := HR.out.own.alloc _
          clear elo et hxb hyb
          go_wp2_with (at_builtin; refine wpList_append_fits _ rfl (.tmp 46) (.tmp 51) 95 rfl w0.heap.size 127 i0 1 Tryd.underlying95 hi hz1 w0.heap.size i n (cellsV ss) rfl HOA.out ⟨wr.heap.size, 0, none⟩ 1 1 [V lo] rfl rfl (one_cell wr lo) (by intro u hu; simp at hu; subst hu; rfl) hsp ?_; intro w3 hw3 hgr3)
          have HR3 : Hid (RSubR w0 w0.heap.size n xs ys (i + 1) 0 (ss ++ [lo]) w3) := by
            have hR := HR.out
            refine ⟨(hR.bel.alloc hR.bel.size _).grown hgr3 (by have := hR.bel.size; simp; omega) (fun q hq => by simp at hq; omega), ?_, by simp [hR.len], hR.dig.append (Dig.cons hlob (Dig.nil _)), by omega, rsub_step hR.sum hR.len HXE.out HYE.out HSUM.out⟩
            have e0 : cellsV (ss ++ [lo]) = cellsV ss ++ [V lo] := by unfold cellsV; rw [List.map_append]; rfl
            rw [e0]; exact hw3
          clear hw3 hgr3
          go_roundg gg
          case measure => omega
          case rel => exact ⟨i + 1, 0, ss ++ [lo], by omega, by go_num, rfl, rfl, HR3⟩
      · have hy0 : y = 0 := by rw [HYE.out, List.getD_eq_getElem?_getD, List.getElem?_eq_none (by rw [HLY.out]; omega)]; rfl
        have HY0 : Hid (y = 0) := hy0
        clear hy0
        by_cases hu : x < ow
        · obtain ⟨x2, ex2⟩ : ∃ x2, x2 = x + 4294967296 := ⟨_, rfl⟩
          have f2 : IntKind.u64.wrap ((x : Int) + 4294967296) = (x2 : Int) := wrap_mod _ _ (by omega)
          obtain ⟨lo, elo⟩ : ∃ lo, lo = x2 - ow := ⟨_, rfl⟩
          have f3 : IntKind.u64.wrap ((x2 : Int) - (ow : Int)) = (lo : Int) := wrap_mod _ _ (by omega)
          have hui : (x : Int) < (ow : Int) := by omega
          have hlob : lo < B32 := by rw [B32_eq]; omega
          have f6 : IntKind.u32.wrap (lo : Int) = (lo : Int) := wrap32 lo hlob
          have f7 : (lo : Int) % 4294967296 = (lo : Int) := by rw [B32_eq] at hlob; omega
          have HSUM : Hid (lo + ow + y = x + B32 * 1) := by have h0 := HY0.out; show _ = _; rw [B32_eq]; omega
          have HOA : Hid ((wr.alloc (.cells #[V lo] 127)).ownsRow w0.heap.size 127 1 (.slice (some ⟨w0.heap.size, 0, none⟩) i n) i (cellsV ss)) := HR.out.own.alloc _
          clear elo ex2 hxb hyb
          go_wp2_with (at_builtin; refine wpList_append_fits _ rfl (.tmp 46) (.tmp 51) 95 rfl w0.heap.size 127 i0 1 Tryd.underlying95 hi hz1 w0.heap.size i n (cellsV ss) rfl HOA.out ⟨wr.heap.size, 0, none⟩ 1 1 [V lo] rfl rfl (one_cell wr lo) (by intro u hu; simp at hu; subst hu; rfl) hsp ?_; intro w3 hw3 hgr3)
          have HR3 : Hid (RSubR w0 w0.heap.size n xs ys (i + 1) 1 (ss ++ [lo]) w3) := by
            have hR := HR.out
            refine ⟨(hR.bel.alloc hR.bel.size _).grown hgr3 (by have := hR.bel.size; simp; omega) (fun q hq => by simp at hq; omega), ?_, by simp [hR.len], hR.dig.append (Dig.cons hlob (Dig.nil _)), by omega, rsub_step hR.sum hR.len HXE.out HYE.out HSUM.out⟩
            have e0 : cellsV (ss ++ [lo]) = cellsV ss ++ [V lo] := by unfold cellsV; rw [List.map_append]; rfl
            rw [e0]; exact hw3
          clear hw3 hgr3
          go_roundg gg
          case measure => omega
          case rel => exact ⟨i + 1, 1, ss ++ [lo], by omega, by go_num, rfl, rfl, HR3⟩
        · obtain ⟨lo, elo⟩ : ∃ lo, lo = x - ow := ⟨_, rfl⟩
          have f3 : IntKind.u64.wrap ((x : Int) - (ow : Int)) = (lo : Int) := wrap_mod _ _ (by omega)
          have hui : ¬ (x : Int) < (ow : Int) := by omega
          have hlob : lo < B32 := by rw [B32_eq]; omega
          have f6 : IntKind.u32.wrap (lo : Int) = (lo : Int) := wrap32 lo hlob
          have f7 : (lo : Int) % 4294967296 = (lo : Int) := by rw [B32_eq] at hlob; omega
          have HSUM : Hid (lo + ow + y = x + B32 * 0) := by have h0 := HY0.out; show _ = _; rw [B32_eq]; omega
          have HOA : Hid ((wr.alloc (.cells #[V lo] 127)).ownsRow w0.heap.size 127 1 (.slice (some ⟨w0.heap.size, 0, none⟩) i n) i (cellsV ss)) := HR.out.own.alloc _
          clear elo hxb hyb
          go_wp2_with (at_builtin; refine wpList_append_fits _ rfl (.tmp 46) (.tmp 51) 95 rfl w0.heap.size 127 i0 1 Tryd.underlying95 hi hz1 w0.heap.size i n (cellsV ss) rfl HOA.out ⟨wr.heap.size, 0, none⟩ 1 1 [V lo] rfl rfl (one_cell wr lo) (by intro u hu; simp at hu; subst hu; rfl) hsp ?_; intro w3 hw3 hgr3)
          have HR3 : Hid (RSubR w0 w0.heap.size n xs ys (i + 1) 0 (ss ++ [lo]) w3) := by
            have hR := HR.out
            refine ⟨(hR.bel.alloc hR.bel.size _).grown hgr3 (by have := hR.bel.size; simp; omega) (fun q hq => by simp at hq; omega), ?_, by simp [hR.len], hR.dig.append (Dig.cons hlob (Dig.nil _)), by omega, rsub_step hR.sum hR.len HXE.out HYE.out HSUM.out⟩
            have e0 : cellsV (ss ++ [lo]) = cellsV ss ++ [V lo] := by unfold cellsV; rw [List.map_append]; rfl
            rw [e0]; exact hw3
          clear hw3 hgr3
          go_roundg gg
          case measure => omega
          case rel => exact ⟨i + 1, 0, ss ++ [lo], by omega, by go_num, rfl, rfl, HR3⟩

theorem lit_at32q (w : World) (x y : Nat) (hx : x < B32) (hy : y < B32) : At32 (w.alloc (.cells #[V x, V y] 127)) (some ⟨w.heap.size, 0, none⟩) 2 2 [x, y] := by
  refine ⟨rfl, Nat.le_refl _, by decide, ?_, .inr ⟨w.heap.size, 0, rfl, ?_⟩⟩
  · intro z hz
    simp at hz
    rcases hz with rfl | rfl <;> assumption
  · intro j hj
    match j, hj with
    | 0, _ => exact World.cell?_alloc_new ..
    | 1, _ => exact World.cell?_alloc_new ..
theorem nf32_nilq : Nf B32 [] 0 := ⟨Dig.nil _, by intro x hx; simp at hx, rfl⟩
set_option maxRecDepth 20000 in
set_option maxHeartbeats 1000000 in
theorem rword0 (w : World) : Calls Tryd.prog 74 #[.int .u64 0] w fun e w' => ∃ g, e = .returned (.slice (some ⟨g, 0, none⟩) 0 0) ∧ Below w.heap.size w w' := by
  go_enter Tryd.func74, Tryd.ntmps74
  go_wp2_with fail
  refine (rnorm_any (lit_at32q w 0 0 (by decide) (by decide)) (by omega)).mono ?_
  rw [show trimL [0, 0] = [] from by decide]
  rintro e w1 ⟨g, rfl, hg, hb, hbl⟩
  have hbw := Below.on (below1 w _) hbl
  clear hb hbl
  go_wp2_with fail
  go_ret
  exact ⟨g, rfl, hbw⟩
set_option maxRecDepth 20000 in
set_option maxHeartbeats 1000000 in
theorem rsub_any {p q : Option Addr} {n m c d : Nat} {xs ys : List Nat} {a b : Nat} {w : World} (h : At32 w p n c xs) (k : At32 w q m d ys) (hx : Nf B32 xs a) (hy : Nf B32 ys b) (hn : n ≤ 4398046511104) (hle : b ≤ a) :
    Calls Tryd.prog 77 #[.slice p n c, .slice q m d] w fun e w' => ∃ p' m' zs, e = .returned (.slice p' m' m') ∧ At32 w' p' m' m' zs ∧ Nf B32 zs (a - b) ∧ m' ≤ n ∧ Below w.heap.size w w' := by
  rcases Nat.lt_or_ge b a with hlt | hge
  · exact rsub_gt h k hx hy hn hlt
  · have HE : Hid (a = b) := Nat.le_antisymm hge hle
    have HA : Hid (At32 w p n c xs) := h
    have HB : Hid (At32 w q m d ys) := k
    have HX : Hid (Nf B32 xs a) := hx
    have HY : Hid (Nf B32 ys b) := hy
    clear h k hx hy hle hge
    go_enter Tryd.func77, Tryd.ntmps77
    go_wp2_with fail
    refine (rcmp_any HA.out HB.out HX.out HY.out).mono ?_
    rintro e w' ⟨rfl, r, rfl⟩
    rw [cmpN_eq HE.out]
    have hb0 : Below w.heap.size w (w.drewN r) := bDrewN (Below.refl _ _) r
    generalize w.drewN r = w0 at *
    go_wp2_with fail
    refine (rword0 w0).mono ?_
    rintro e w1 ⟨g, rfl, hb1⟩
    have hbw := Below.on hb0 hb1
    clear hb1 hb0
    go_wp2_with fail
    go_ret
    exact ⟨_, 0, [], rfl, At32.empty _ _ 0 (by decide), by rw [HE.out, Nat.sub_self]; exact nf32_nilq, by omega, hbw⟩
end Go.Proofs.YtmmgnkhfaiophaaDoor
