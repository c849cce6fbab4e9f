import Derived.Test.YtfmbifocgljieaaGreatDoorJ11
import Derived.Test.YtfmbifocgljieaaGreatDoorJ9
import Derived.Deep.LoopGhost
import Derived.Deep.RegionWith
import Derived.Test.YtfmbifocgljieaaGreatDoorJ12
import Derived.Test.YtfmbifocgljieaaGreatDoorVal
import Derived.Shelf.Spec.TrailingZeros
import Derived.Test.YtfmbifocgljieaaGreatDoorJ8
import Derived.Test.YtfmbifocgljieaaGreatDoorJ10
import Derived.Laws.ResultCell
import Derived.Deep.DeepCutAuto
namespace Go.Proofs.YtfmbifocgljieaaGreatDoor
open Go.RowKit Go.Shelf
set_option maxRecDepth 20000
set_option maxHeartbeats 0
structure RSubR (w : World) (g N : Nat) (xs ys : List Nat) (i ow : Nat) (ss : List Nat) (wr : World) : Prop where
  bel : Below g w wr
  own : wr.ownsRow g 171 1 (.slice (some ⟨g, 0, none⟩) i N) i (cellsV ss)
  len : ss.length = i
  dig : Dig B32 ss
  car : ow ≤ 1
  sum : valB B32 ss + valB B32 (ys.take i) = valB B32 (xs.take i) + B32 ^ i * ow
theorem rsub_step {xs ys ss : List Nat} {i ow x y lo o2 : Nat} (h : valB B32 ss + valB B32 (ys.take i) = valB B32 (xs.take i) + B32 ^ i * ow) (hl : ss.length = i) (ex : x = xs.getD i 0) (ey : y = ys.getD i 0) (hs : lo + ow + y = x + B32 * o2) :
    valB B32 (ss ++ [lo]) + valB B32 (ys.take (i + 1)) = valB B32 (xs.take (i + 1)) + B32 ^ (i + 1) * o2 := by
  rw [valB_snoc, hl, valB_take_any _ xs i, valB_take_any _ ys i, ← ex, ← ey, Nat.pow_succ]
  have e1 : B32 ^ i * (lo + ow + y) = B32 ^ i * (x + B32 * o2) := by rw [hs]
  rw [Nat.mul_add, Nat.mul_add, Nat.mul_add, ← Nat.mul_assoc] at e1
  omega
theorem RSubR.at_ {w : World} {g N : Nat} {xs ys : List Nat} {i cy : Nat} {ss : List Nat} {wr : World} (h : RSubR w g N xs ys i cy ss wr) : At32 wr (some ⟨g, 0, none⟩) i N ss := by
  rcases h.own.2 with ⟨h', _⟩ | ⟨g', cap', cur, h', hbase, hgc, hcap', hmx, hsz, htake⟩
  · simp at h'
  · simp only [Value.slice.injEq, Option.some.injEq, Addr.mk.injEq, and_true, true_and] at h'
    obtain ⟨rfl, rfl⟩ := h'
    refine ⟨h.len, hcap', hmx, h.dig, .inr ⟨g, 0, rfl, fun jj hj => ?_⟩⟩
    rw [Nat.zero_add, cell_of_row wr g jj _ _ _ hgc]
    have e1 := cellsV_get ss jj (by rw [h.len]; exact hj)
    rw [← htake, Nat.mul_one, List.getElem?_take, if_pos hj] at e1
    rw [← Array.getElem?_toList]; exact e1

theorem rsub_gt {p q : Option Addr} {n m c d : Nat} {xs ys : List Nat} {a b : Nat} {w : World} (h : At32 w p n c xs) (k : At32 w q m d ys) (hx : Nf B32 xs a) (hy : Nf B32 ys b) (hn : n ≤ 4398046511104) (hlt : b < a) :
    Calls Tryz.prog 158 #[.slice p n c, .slice q m d] w fun e w' => ∃ p' m' zs, e = .returned (.slice p' m' m') ∧ At32 w' p' m' m' zs ∧ Nf B32 zs (a - b) ∧ m' ≤ n ∧ Below w.heap.size w w' := by
  obtain ⟨i0, hi, hz0, hz1, hz2⟩ := info_parts Tryz.infoU32
  have HX : Hid (Nf B32 xs a) := hx
  have HY : Hid (Nf B32 ys b) := hy
  have HLX : Hid (xs.length = n) := h.len
  have HLY : Hid (ys.length = m) := k.len
  have HLT : Hid (b < a) := hlt
  have hmn : m ≤ n := by
    rcases Nat.lt_or_ge n m with e | e
    · exfalso
      have h1 := nf32_lt hx (K := n) (by rw [h.len]; exact Nat.le_refl _)
      have h2 := nf32_ge hy (K := n) (by rw [k.len]; exact e)
      omega
    · exact e
  have hcap := h.cap; have hbig := h.big; have kcap := k.cap; have kbig := k.big
  unfold maxLen at hbig kbig
  have HA : Hid (At32 w p n c xs) := h
  have HB : Hid (At32 w q m d ys) := k
  clear hx hy h k hlt
  go_enter Tryz.func158, Tryz.ntmps158
  go_wp2_with fail
  refine (rcmp_any HA.out HB.out HX.out HY.out).mono ?_
  rintro e w' ⟨rfl, r, rfl⟩
  rw [cmpN_gt HLT.out]
  have h := HA.out.drewN r
  have k := HB.out.drewN r
  have hb0 : Below w.heap.size w (w.drewN r) := bDrewN (Below.refl _ _) r
  clear HA HB
  generalize w.drewN r = w0 at *
  go_wp2_with (at_make; refine wpList_make_own _ rfl _ _ 102 rfl w0.heap.size 171 i0 (.int .u32 0) 1 Tryz.underlying102 hi hz0 hz1 _ _ _ n rfl rfl (by omega) (by rw [hz2]; omega) (by unfold maxLen; omega) (Nat.le_refl _) ?_; intro w1 hown hgrow)
  have hb1 : Below w0.heap.size w0 w1 := (Below.refl _ _).grown hgrow (Nat.le_refl _) (fun k hk => by simp at hk)
  have HO : Hid (RSubR w0 w0.heap.size n xs ys 0 0 [] w1) := ⟨hb1, hown, rfl, Dig.nil _, by omega, by simp [valB]⟩
  clear hown hgrow hb1
  go_loopg [5, 6, 7] n (fun gk sv ov iv wr => ∃ (i ow : Nat) (ss : List Nat), i + gk = n ∧ iv = .int .i64 i ∧ ov = U ow ∧ sv = .slice (some ⟨w0.heap.size, 0, none⟩) i n ∧ Hid (RSubR w0 w0.heap.size n xs ys i ow ss wr))
  case atStart => exact ⟨0, 0, [], by omega, rfl, rfl, rfl, HO⟩
  case round =>
    obtain ⟨i, ow, ss, hig, rfl, rfl, rfl, HR⟩ := hrel
    have how := HR.out.car
    cases gk with
    | zero =>
      obtain rfl : i = n := by omega
      have A32 := HR.out.at_
      have hv := HR.out.sum
      rw [List.take_of_length_le (l := ys) (by rw [HLY.out]; omega), List.take_of_length_le (l := xs) (by rw [HLX.out]; omega), HX.out.val, HY.out.val] at hv
      have hvl := valB_lt B32_pos HR.out.dig
      rw [HR.out.len] at hvl
      have hsv : valB B32 ss = a - b := sub_abs hv hvl how (Nat.le_of_lt HLT.out)
      have HNF : Hid (Nf B32 (trimL ss) (a - b)) := by
        have := Nf.trim HR.out.dig
        rw [hsv] at this; exact this
      have hle := trimL_length_le ss
      have HLE : Hid ((trimL ss).length ≤ i) := by have := HR.out.len; show _ ≤ _; omega
      have hbx := HR.out.bel
      have hni : ¬ (i : Int) < (i : Int) := by omega
      clear hv hle hvl hsv
      go_wp2_with fail
      refine (rnorm_any A32 (by omega)).mono ?_
      rintro e w5 ⟨g5, rfl, hg5, hblk5, hb5⟩
      have hd5 := HNF.out.dig
      generalize trimL ss = zs at *
      go_wp2_with fail
      go_ret
      exact ⟨_, _, zs, rfl, hblk5.at_ hd5 rfl (by have := HLE.out; unfold maxLen; omega), HNF.out, HLE.out, Below.on hb0 (Below.on hbx hb5)⟩
    | succ gg =>
      obtain ⟨x, hx⟩ : ∃ x, x = xs.getD i 0 := ⟨_, rfl⟩
      obtain ⟨y, hy⟩ : ∃ y, y = ys.getD i 0 := ⟨_, rfl⟩
      have hxb : x < B32 := by rw [hx]; exact HX.out.dig.getD B32_pos i
      have hyb : y < B32 := by rw [hy]; exact HY.out.dig.getD B32_pos i
      have HXE : Hid (x = xs.getD i 0) := hx
      have HYE : Hid (y = ys.getD i 0) := hy
      have hin : i < n := by omega
      obtain ⟨g, off, rfl, hc⟩ := h.cells.resolve_left (by omega)
      have hcx0 : w0.cell? ⟨g, off + i, none⟩ = some (V x) := by rw [HXE.out]; exact hc i hin
      have hcx : wr.cell? ⟨g, off + i, none⟩ = some (V x) := (HR.out.bel.cell (p := ⟨g, off + i, none⟩) (World.block_lt_of_cell? w0 _ hcx0)).trans hcx0
      have hxw : IntKind.u64.wrap (x : Int) = (x : Int) := wrap_mod _ _ (by rw [B32_eq] at hxb; omega)
      have hyw : IntKind.u64.wrap (y : Int) = (y : Int) := wrap_mod _ _ (by rw [B32_eq] at hyb; omega)
      rw [B32_eq] at hxb hyb
      have hsp : i + 1 ≤ n := by omega
      clear hc hcx0 hx hy
      by_cases hb : i < m
      · have him : i < m := hb
        obtain ⟨g2, off2, rfl, hc2⟩ := k.cells.resolve_left (by omega)
        have hcy0 : w0.cell? ⟨g2, off2 + i, none⟩ = some (V y) := by rw [HYE.out]; exact hc2 i him
        have hcy1 : wr.cell? ⟨g2, off2 + i, none⟩ = some (V y) := (HR.out.bel.cell (p := ⟨g2, off2 + i, none⟩) (World.block_lt_of_cell? w0 _ hcy0)).trans hcy0
        clear hc2 hcy0
        obtain ⟨t, et⟩ : ∃ t, t = ow + y := ⟨_, rfl⟩
        have f1 : IntKind.u64.wrap ((ow : Int) + (y : Int)) = (t : Int) := wrap_mod _ _ (by omega)
        by_cases hu : x < t
        · obtain ⟨x2, ex2⟩ : ∃ x2, x2 = x + 4294967296 := ⟨_, rfl⟩
          have f2 : IntKind.u64.wrap ((x : Int) + 4294967296) = (x2 : Int) := wrap_mod _ _ (by omega)
          obtain ⟨lo, elo⟩ : ∃ lo, lo = x2 - t := ⟨_, rfl⟩
          have f3 : IntKind.u64.wrap ((x2 : Int) - (t : Int)) = (lo : Int) := wrap_mod _ _ (by omega)
          have hui : (x : Int) < (t : Int) := by omega
          have hlob : lo < B32 := by rw [B32_eq]; omega
          have f6 : IntKind.u32.wrap (lo : Int) = (lo : Int) := wrap32 lo hlob
          have f7 : (lo : Int) % 4294967296 = (lo : Int) := by rw [B32_eq] at hlob; omega
          have HSUM : Hid (lo + ow + y = x + B32 * 1) := by show _ = _; rw [B32_eq]; omega
          have HOA : Hid ((wr.alloc (.cells #[V lo] 171)).ownsRow w0.heap.size 171 1 (.slice (some ⟨w0.heap.size, 0, none⟩) i n) i (cellsV ss)) := HR.out.own.alloc _
          clear elo ex2 et hxb hyb
          go_wp2_with (at_builtin; refine wpList_append_fits _ rfl (.tmp 46) (.tmp 51) 102 rfl w0.heap.size 171 i0 1 Tryz.underlying102 hi hz1 w0.heap.size i n (cellsV ss) rfl HOA.out ⟨wr.heap.size, 0, none⟩ 1 1 [V lo] rfl rfl (one_cell wr lo) (by intro u hu; simp at hu; subst hu; rfl) hsp ?_; intro w3 hw3 hgr3)
          have HR3 : Hid (RSubR w0 w0.heap.size n xs ys (i + 1) 1 (ss ++ [lo]) w3) := by
            have hR := HR.out
            refine ⟨(hR.bel.alloc hR.bel.size _).grown hgr3 (by have := hR.bel.size; simp; omega) (fun q hq => by simp at hq; omega), ?_, by simp [hR.len], hR.dig.append (Dig.cons hlob (Dig.nil _)), by omega, rsub_step hR.sum hR.len HXE.out HYE.out HSUM.out⟩
            have e0 : cellsV (ss ++ [lo]) = cellsV ss ++ [V lo] := by unfold cellsV; rw [List.map_append]; rfl
            rw [e0]; exact hw3
          clear hw3 hgr3
          go_roundg gg
          case measure => omega
          case rel => exact ⟨i + 1, 1, ss ++ [lo], by omega, by go_num, rfl, rfl, HR3⟩
        · obtain ⟨lo, elo⟩ : ∃ lo, lo = x - t := ⟨_, rfl⟩
          have f3 : IntKind.u64.wrap ((x : Int) - (t : Int)) = (lo : Int) := wrap_mod _ _ (by omega)
          have hui : ¬ (x : Int) < (t : Int) := by omega
          have hlob : lo < B32 := by rw [B32_eq]; omega
          have f6 : IntKind.u32.wrap (lo : Int) = (lo : Int) := wrap32 lo hlob
          have f7 : (lo : Int) % 4294967296 = (lo : Int) := by rw [B32_eq] at hlob; omega
          have HSUM : Hid (lo + ow + y = x + B32 * 0) := by show _ = _; rw [B32_eq]; omega
          have HOA : Hid ((wr.alloc (.cells #[V lo] 171)).ownsRow w0.heap.size 171 1 (.slice (some ⟨w0.heap.size, 0, none⟩) i n) i (cellsV ss)) := HR.out.own.alloc _
          clear elo et hxb hyb
          go_wp2_with (at_builtin; refine wpList_append_fits _ rfl (.tmp 46) (.tmp 51) 102 rfl w0.heap.size 171 i0 1 Tryz.underlying102 hi hz1 w0.heap.size i n (cellsV ss) rfl HOA.out ⟨wr.heap.size, 0, none⟩ 1 1 [V lo] rfl rfl (one_cell wr lo) (by intro u hu; simp at hu; subst hu; rfl) hsp ?_; intro w3 hw3 hgr3)
          have HR3 : Hid (RSubR w0 w0.heap.size n xs ys (i + 1) 0 (ss ++ [lo]) w3) := by
            have hR := HR.out
            refine ⟨(hR.bel.alloc hR.bel.size _).grown hgr3 (by have := hR.bel.size; simp; omega) (fun q hq => by simp at hq; omega), ?_, by simp [hR.len], hR.dig.append (Dig.cons hlob (Dig.nil _)), by omega, rsub_step hR.sum hR.len HXE.out HYE.out HSUM.out⟩
            have e0 : cellsV (ss ++ [lo]) = cellsV ss ++ [V lo] := by unfold cellsV; rw [List.map_append]; rfl
            rw [e0]; exact hw3
          clear hw3 hgr3
          go_roundg gg
          case measure => omega
          case rel => exact ⟨i + 1, 0, ss ++ [lo], by omega, by go_num, rfl, rfl, HR3⟩
      · have hy0 : y = 0 := by rw [HYE.out, List.getD_eq_getElem?_getD, List.getElem?_eq_none (by rw [HLY.out]; omega)]; rfl
        have HY0 : Hid (y = 0) := hy0
        clear hy0
        by_cases hu : x < ow
        · obtain ⟨x2, ex2⟩ : ∃ x2, x2 = x + 4294967296 := ⟨_, rfl⟩
          have f2 : IntKind.u64.wrap ((x : Int) + 4294967296) = (x2 : Int) := wrap_mod _ _ (by omega)
          obtain ⟨lo, elo⟩ : ∃ lo, lo = x2 - ow := ⟨_, rfl⟩
          have f3 : IntKind.u64.wrap ((x2 : Int) - (ow : Int)) = (lo : Int) := wrap_mod _ _ (by omega)
          have hui : (x : Int) < (ow : Int) := by omega
          have hlob : lo < B32 := by rw [B32_eq]; omega
          have f6 : IntKind.u32.wrap (lo : Int) = (lo : Int) := wrap32 lo hlob
          have f7 : (lo : Int) % 4294967296 = (lo : Int) := by rw [B32_eq] at hlob; omega
          have HSUM : Hid (lo + ow + y = x + B32 * 1) := by have h0 := HY0.out; show _ = _; rw [B32_eq]; omega
          have HOA : Hid ((wr.alloc (.cells #[V lo] 171)).ownsRow w0.heap.size 171 1 (.slice (some ⟨w0.heap.size, 0, none⟩) i n) i (cellsV ss)) := HR.out.own.alloc _
          clear elo ex2 hxb hyb
          go_wp2_with (at_builtin; refine wpList_append_fits _ rfl (.tmp 46) (.tmp 51) 102 rfl w0.heap.size 171 i0 1 Tryz.underlying102 hi hz1 w0.heap.size i n (cellsV ss) rfl HOA.out ⟨wr.heap.size, 0, none⟩ 1 1 [V lo] rfl rfl (one_cell wr lo) (by intro u hu; simp at hu; subst hu; rfl) hsp ?_; intro w3 hw3 hgr3)
          have HR3 : Hid (RSubR w0 w0.heap.size n xs ys (i + 1) 1 (ss ++ [lo]) w3) := by
            have hR := HR.out
            refine ⟨(hR.bel.alloc hR.bel.size _).grown hgr3 (by have := hR.bel.size; simp; omega) (fun q hq => by simp at hq; omega), ?_, by simp [hR.len], hR.dig.append (Dig.cons hlob (Dig.nil _)), by omega, rsub_step hR.sum hR.len HXE.out HYE.out HSUM.out⟩
            have e0 : cellsV (ss ++ [lo]) = cellsV ss ++ [V lo] := by unfold cellsV; rw [List.map_append]; rfl
            rw [e0]; exact hw3
          clear hw3 hgr3
          go_roundg gg
          case measure => omega
          case rel => exact ⟨i + 1, 1, ss ++ [lo], by omega, by go_num, rfl, rfl, HR3⟩
        · obtain ⟨lo, elo⟩ : ∃ lo, lo = x - ow := ⟨_, rfl⟩
          have f3 : IntKind.u64.wrap ((x : Int) - (ow : Int)) = (lo : Int) := wrap_mod _ _ (by omega)
          have hui : ¬ (x : Int) < (ow : Int) := by omega
          have hlob : lo < B32 := by rw [B32_eq]; omega
          have f6 : IntKind.u32.wrap (lo : Int) = (lo : Int) := wrap32 lo hlob
          have f7 : (lo : Int) % 4294967296 = (lo : Int) := by rw [B32_eq] at hlob; omega
          have HSUM : Hid (lo + ow + y = x + B32 * 0) := by have h0 := HY0.out; show _ = _; rw [B32_eq]; omega
          have HOA : Hid ((wr.alloc (.cells #[V lo] 171)).ownsRow w0.heap.size 171 1 (.slice (some ⟨w0.heap.size, 0, none⟩) i n) i (cellsV ss)) := HR.out.own.alloc _
          clear elo hxb hyb
          go_wp2_with (at_builtin; refine wpList_append_fits _ rfl (.tmp 46) (.tmp 51) 102 rfl w0.heap.size 171 i0 1 Tryz.underlying102 hi hz1 w0.heap.size i n (cellsV ss) rfl HOA.out ⟨wr.heap.size, 0, none⟩ 1 1 [V lo] rfl rfl (one_cell wr lo) (by intro u hu; simp at hu; subst hu; rfl) hsp ?_; intro w3 hw3 hgr3)
          have HR3 : Hid (RSubR w0 w0.heap.size n xs ys (i + 1) 0 (ss ++ [lo]) w3) := by
            have hR := HR.out
            refine ⟨(hR.bel.alloc hR.bel.size _).grown hgr3 (by have := hR.bel.size; simp; omega) (fun q hq => by simp at hq; omega), ?_, by simp [hR.len], hR.dig.append (Dig.cons hlob (Dig.nil _)), by omega, rsub_step hR.sum hR.len HXE.out HYE.out HSUM.out⟩
            have e0 : cellsV (ss ++ [lo]) = cellsV ss ++ [V lo] := by unfold cellsV; rw [List.map_append]; rfl
            rw [e0]; exact hw3
          clear hw3 hgr3
          go_roundg gg
          case measure => omega
          case rel => exact ⟨i + 1, 0, ss ++ [lo], by omega, by go_num, rfl, rfl, HR3⟩

theorem lit_at32q (w : World) (x y : Nat) (hx : x < B32) (hy : y < B32) : At32 (w.alloc (.cells #[V x, V y] 171)) (some ⟨w.heap.size, 0, none⟩) 2 2 [x, y] := by
  refine ⟨rfl, Nat.le_refl _, by decide, ?_, .inr ⟨w.heap.size, 0, rfl, ?_⟩⟩
  · intro z hz
    simp at hz
    rcases hz with rfl | rfl <;> assumption
  · intro j hj
    match j, hj with
    | 0, _ => exact World.cell?_alloc_new ..
    | 1, _ => exact World.cell?_alloc_new ..
theorem nf32_nilq : Nf B32 [] 0 := ⟨Dig.nil _, by intro x hx; simp at hx, rfl⟩
theorem rword0 (w : World) : Calls Tryz.prog 87 #[.int .u64 0] w fun e w' => ∃ g, e = .returned (.slice (some ⟨g, 0, none⟩) 0 0) ∧ Below w.heap.size w w' := by
  go_enter Tryz.func87, Tryz.ntmps87
  go_wp2_with fail
  refine (rnorm_any (lit_at32q w 0 0 (by decide) (by decide)) (by omega)).mono ?_
  rw [show trimL [0, 0] = [] from by decide]
  rintro e w1 ⟨g, rfl, hg, hb, hbl⟩
  have hbw := Below.on (below1 w _) hbl
  clear hb hbl
  go_wp2_with fail
  go_ret
  exact ⟨g, rfl, hbw⟩
theorem rsub_any {p q : Option Addr} {n m c d : Nat} {xs ys : List Nat} {a b : Nat} {w : World} (h : At32 w p n c xs) (k : At32 w q m d ys) (hx : Nf B32 xs a) (hy : Nf B32 ys b) (hn : n ≤ 4398046511104) (hle : b ≤ a) :
    Calls Tryz.prog 158 #[.slice p n c, .slice q m d] w fun e w' => ∃ p' m' zs, e = .returned (.slice p' m' m') ∧ At32 w' p' m' m' zs ∧ Nf B32 zs (a - b) ∧ m' ≤ n ∧ Below w.heap.size w w' := by
  rcases Nat.lt_or_ge b a with hlt | hge
  · exact rsub_gt h k hx hy hn hlt
  · have HE : Hid (a = b) := Nat.le_antisymm hge hle
    have HA : Hid (At32 w p n c xs) := h
    have HB : Hid (At32 w q m d ys) := k
    have HX : Hid (Nf B32 xs a) := hx
    have HY : Hid (Nf B32 ys b) := hy
    clear h k hx hy hle hge
    go_enter Tryz.func158, Tryz.ntmps158
    go_wp2_with fail
    refine (rcmp_any HA.out HB.out HX.out HY.out).mono ?_
    rintro e w' ⟨rfl, r, rfl⟩
    rw [cmpN_eq HE.out]
    have hb0 : Below w.heap.size w (w.drewN r) := bDrewN (Below.refl _ _) r
    generalize w.drewN r = w0 at *
    go_wp2_with fail
    refine (rword0 w0).mono ?_
    rintro e w1 ⟨g, rfl, hb1⟩
    have hbw := Below.on hb0 hb1
    clear hb1 hb0
    go_wp2_with fail
    go_ret
    exact ⟨_, 0, [], rfl, At32.empty _ _ 0 (by decide), by rw [HE.out, Nat.sub_self]; exact nf32_nilq, by omega, hbw⟩
structure ZR (w : World) (s : Bool) (p : Option Addr) (m : Nat) (z : Int) : Prop where
  ex : ∃ zs, At32 w p m m zs ∧ Nf B32 zs z.natAbs
  sg : s = decide (z < 0)
theorem ZR.below {w w' : World} {s : Bool} {p : Option Addr} {m : Nat} {z : Int} (h : ZR w s p m z) (hb : Below w.heap.size w w') : ZR w' s p m z := by
  obtain ⟨zs, hA, hN⟩ := h.ex
  exact ⟨⟨zs, hA.below hb, hN⟩, h.sg⟩
theorem ZR.cast {w : World} {s : Bool} {p : Option Addr} {m : Nat} {z z' : Int} (h : ZR w s p m z) (e : z = z') : ZR w s p m z' := e ▸ h
theorem ZR.zero {w : World} {s : Bool} {p : Option Addr} {m : Nat} {z : Int} (h : ZR w s p m z) : m = 0 ↔ z = 0 := by
  obtain ⟨zs, hA, hN⟩ := h.ex
  have h1 := hN.zero_iff B32_one
  have h2 := hA.len
  constructor
  · intro e
    have := h1.1 (List.eq_nil_of_length_eq_zero (by omega))
    omega
  · intro e
    have := h1.2 (by omega)
    rw [← h2, this]; rfl
theorem ZR.iv {w : World} {s : Bool} {p : Option Addr} {m : Nat} {z : Int} (h : ZR w s p m z) : Go.Proofs.YtfmbifocgljieaaGreatDoor.iv s z.natAbs = z := by rw [h.sg]; exact iv_abs z
def GotR (B : Nat) (w' : World) (v : Value) (z : Int) (L : Nat) : Prop := ∃ s g m, v = .agg #[.bool s, .slice (some ⟨g, 0, none⟩) m m] ∧ B ≤ g ∧ ZR w' s (some ⟨g, 0, none⟩) m z ∧ m ≤ L
theorem ZR.set {w : World} {s : Bool} {g m : Nat} {z : Int} (h : ZR w s (some ⟨g, 0, none⟩) m z) (g2 o2 : Nat) (v : Value) (hne : g ≠ g2) : ZR (w.setCell ⟨g2, o2, none⟩ v) s (some ⟨g, 0, none⟩) m z := by
  obtain ⟨zs, hA, hN⟩ := h.ex
  exact ⟨⟨zs, hA.setOther g2 o2 v hne, hN⟩, h.sg⟩
theorem rmk_any {p : Option Addr} {n c : Nat} {xs : List Nat} {a : Nat} {w : World} (s : Bool) (h : At32 w p n c xs) (hx : Nf B32 xs a) (hn : n ≤ 35184372088832) :
    Calls Tryz.prog 105 #[.bool s, .slice p n c] w fun e w' => ∃ v, e = .returned v ∧ GotR w.heap.size w' v (iv s a) n ∧ Below w.heap.size w w' := by
  refine (mk04 s h hn).mono ?_
  rintro e w1 ⟨g, m, hm, rfl, hg, hA, hb⟩
  rw [trimL_of_Top hx.top] at hm hA
  have hl := h.len
  refine ⟨_, rfl, ⟨_, g, m, rfl, hg, ⟨⟨xs, hA, by rw [iv_natAbs]; exact hx⟩, ?_⟩, by omega⟩, hb⟩
  rw [iv_lt]
  have : decide (0 < m) = decide (0 < a) := by
    refine decide_eq_decide.2 ?_
    have h1 := hx.zero_iff B32_one
    constructor
    · intro h0
      rcases Nat.eq_zero_or_pos a with e | e
      · have := h1.2 e; rw [this] at hm; simp at hm; omega
      · exact e
    · intro h0
      rcases Nat.eq_zero_or_pos m with e | e
      · have := h1.1 (List.eq_nil_of_length_eq_zero (by omega)); omega
      · exact e
  rw [this]
theorem rflip_any {p : Option Addr} {m : Nat} {w : World} {z : Int} (s : Bool) (h : ZR w s p m z) (hm : m ≤ 100000) :
    Calls Tryz.prog 165 #[.agg #[.bool s, .slice p m m]] w fun e w' => ∃ v, e = .returned v ∧ GotR w.heap.size w' v (-z) m ∧ Below w.heap.size w w' := by
  have HA : Hid (ZR w s p m z) := h
  have HM : Hid (m ≤ 100000) := hm
  clear h hm
  go_enter Tryz.func165, Tryz.ntmps165
  go_wp2_with fail
  obtain ⟨W0, hW0⟩ : ∃ W0, W0 = ((w.alloc (.cells #[.bool s, .slice p m m] 104)).alloc (.cells #[.bool false, .slice none 0 0] 104)) := ⟨_, rfl⟩
  have Xa : Hid (Box W0 (w.heap.size) (.bool s) (.slice p m m)) := by rw [hW0]; exact ⟨by go_simp, by go_simp, by go_simp, by go_simp⟩
  have Xr : Hid (Box W0 (w.heap.size + 1) (.bool false) (.slice none 0 0)) := by rw [hW0]; exact ⟨by go_simp, by go_simp, by go_simp, by go_simp⟩
  have hb0 : Below w.heap.size w W0 := by rw [hW0]; exact below2 w _ _
  rw [← hW0]
  clear hW0
  have hbw : Below w.heap.size w w := Below.refl _ _
  obtain ⟨gr, hgr⟩ : ∃ g, g = w.heap.size + 1 := ⟨_, rfl⟩
  have HGr : Hid (w.heap.size ≤ gr) := by rw [hgr]; show _ ≤ _; omega
  rw [← hgr] at Xr
  try rw [← hgr]
  obtain ⟨ga, hga⟩ : ∃ g, g = w.heap.size := ⟨_, rfl⟩
  have HGa : Hid (w.heap.size ≤ ga) := by rw [hga]; show _ ≤ _; omega
  rw [← hga] at Xa
  try rw [← hga]
  have HGD : Hid (ga ≠ gr ∧ gr ≠ ga) := by rw [hga, hgr]; exact ⟨by omega, by omega⟩
  clear hga hgr
  replace HA : Hid _ := HA.out.below hb0
  replace hbw := Below.on hbw hb0
  clear hb0
  obtain ⟨zs, hA, hN⟩ := HA.out.ex
  have HRL : Hid (gr < W0.heap.size) := Xr.out.lt
  have hiv : iv (!s) z.natAbs = -z := by rw [iv_not, HA.out.iv]
  refine (rmk_any (!s) hA hN (by have := HM.out; omega)).mono ?_
  rintro e w1 ⟨v, rfl, hv, hb1⟩
  rw [hiv] at hv
  obtain ⟨s1, g1, m1, rfl, hg1, hz1, hl1⟩ := hv
  clear hA hN hiv
  have HGE : Hid (W0.heap.size ≤ g1 ∧ w.heap.size ≤ W0.heap.size) := ⟨hg1, hbw.size⟩
  replace Xa : Hid _ := Xa.out.below hb1
  replace Xr : Hid _ := Xr.out.below hb1
  replace HA : Hid _ := HA.out.below hb1
  replace hbw := Below.on hbw hb1
  clear hb1
  have ZA : Hid (ZR w1 s1 (some ⟨g1, 0, none⟩) m1 (-z)) := hz1
  have HL : Hid (m1 ≤ m) := hl1
  clear hg1 hz1 hl1
  obtain ⟨cr0, cr1, fr0, fr1⟩ := Xr.out
  have hner := Xr.out.lt
  go_wp2_with fail
  refine bodyPost_ret (v := .agg #[.bool s1, .slice (some ⟨g1, 0, none⟩) m1 m1]) (by rw [results_cell1 rfl]; go_simp) rfl ⟨_, rfl, ⟨s1, g1, m1, rfl, ?_, ?_, HL.out⟩, ?_⟩
  · exact Nat.le_trans HGE.out.2 HGE.out.1
  · have := HGE.out.1; have := HRL.out
    exact (ZA.out.set _ _ _ (by omega)).set _ _ _ (by omega)
  · exact bSet (bSet hbw _ _ _ HGr.out) _ _ _ HGr.out
theorem divsmall_abs {L x d B V W q r : Nat} (h : V * d + L = W) (hq : L * B + x = q * d + r) : (q + B * V) * d + r = x + B * W := by
  rw [← h, Nat.add_mul, Nat.mul_add]
  have e : B * V * d = B * (V * d) := by rw [Nat.mul_assoc]
  rw [e]
  have e2 : B * L = L * B := Nat.mul_comm _ _
  omega
theorem drop_set_self (qs : List Nat) (j y : Nat) (h : j < qs.length) : (qs.set j y).drop j = y :: qs.drop (j + 1) := by
  rw [List.drop_eq_getElem_cons (by simpa using h), List.getElem_set_self, List.drop_set_of_lt (by omega)]

theorem bSet0 {B : Nat} {a w : World} (h : Below B a w) (g o : Nat) (v : Value) (hB : B ≤ g) : Below B a (w.setCell ⟨g, o, none⟩ v) :=
  h.trans ((Wr.refl g o 1 w).setCell o ⟨by omega, by omega⟩ v |>.below hB)
structure DSm (w : World) (g n d : Nat) (xs : List Nat) (k L : Nat) (qs : List Nat) (wr : World) : Prop where
  bel : Below w.heap.size w wr
  row : Row32 wr g 0 n qs
  lt : L < d
  val : valB B32 (qs.drop k) * d + L = valB B32 (xs.drop k)

theorem rdivsmall {p : Option Addr} {n c : Nat} {xs : List Nat} {w : World} (h : At32 w p n c xs) (hn : n ≤ 1099511627776) (d : Nat) (hd : 1 ≤ d) (hdb : d < B32) :
    Calls Tryz.prog 143 #[.slice p n c, .int .u32 d] w fun e w' => ∃ p' m' zs r, e = .returned (.tuple #[.slice p' m' m', .int .u32 r]) ∧ At32 w' p' m' m' zs ∧ Nf B32 zs (valB B32 xs / d) ∧ m' ≤ n ∧ Below w.heap.size w w' := by
  obtain ⟨i0, hi, hz0, hz1, hz2⟩ := info_parts Tryz.infoU32
  have HLX : Hid (xs.length = n) := h.len
  have hcap := h.cap; have hbig := h.big
  unfold maxLen at hbig
  have hd0 : ((d : Int) == 0) = false := by simp; omega
  have HDB : Hid (1 ≤ d ∧ d < B32) := ⟨hd, hdb⟩
  have hdw : IntKind.u64.wrap (d : Int) = (d : Int) := wrap_mod _ _ (by rw [B32_eq] at hdb; omega)
  clear hdb
  go_enter Tryz.func143, Tryz.ntmps143
  go_wp2_with (at_make; refine wpList_make_full _ rfl _ _ 102 rfl w.heap.size 171 i0 (.int .u32 0) 1 Tryz.underlying102 hi hz0 hz1 _ _ _ _ n rfl rfl (by omega) (by omega) (by rw [hz2]; omega) (by unfold maxLen; omega) (Nat.le_refl _) ?_; intro w1 hown hgrow; have hb := made_blk32 hown hgrow; clear hown hgrow)
  have HO : Hid (DSm w w.heap.size n d xs n 0 (List.replicate n 0) w1) := by
    have hr := hb.1.row (Dig.replicate B32 n B32_pos)
    rw [List.length_replicate] at hr
    refine ⟨hb.2, hr, by omega, ?_⟩
    rw [List.drop_of_length_le (by rw [List.length_replicate]; exact Nat.le_refl _), List.drop_of_length_le (by rw [HLX.out]; exact Nat.le_refl _)]
    simp [valB]
  clear hb
  go_loopg [7, 8] n (fun gk lv iv wr => ∃ (L : Nat) (z : Int) (qs : List Nat), lv = U L ∧ iv = .int .i64 z ∧ z = (gk : Int) - 1 ∧ gk ≤ n ∧ Hid (DSm w w.heap.size n d xs gk L qs wr))
  case atStart => exact ⟨0, (n : Int) - 1, _, rfl, rfl, rfl, Nat.le_refl _, HO⟩
  case round =>
    obtain ⟨L, z, qs, rfl, rfl, hz, hgn, HR⟩ := hrel
    cases gk with
    | zero =>
      obtain rfl : z = -1 := by omega
      have hR := HR.out
      have A32 : At32 wr (some ⟨w.heap.size, 0, none⟩) n n qs := hR.row.at_ (Nat.le_refl _) (by unfold maxLen; omega)
      have hv := hR.val
      rw [List.drop_zero, List.drop_zero] at hv
      have HV : Hid (valB B32 qs = valB B32 xs / d) := by
        show _ = _
        have h1 := hR.lt
        rw [← hv, Nat.mul_comm, Nat.mul_add_div (by omega), Nat.div_eq_of_lt h1, Nat.add_zero]
      have HNF : Hid (Nf B32 (trimL qs) (valB B32 xs / d)) := by
        have := Nf.trim hR.row.dig
        rw [HV.out] at this; exact this
      have hle := trimL_length_le qs
      have HLE : Hid ((trimL qs).length ≤ n) := by have := hR.row.len; show _ ≤ _; omega
      have hLw : IntKind.u32.wrap (L : Int) = (L : Int) := wrap32 L (by have := hR.lt; have := HDB.out.2; omega)
      have hbx := hR.bel
      clear hR hv hle hz HR
      go_wp2_with fail
      refine (rnorm_any A32 (by omega)).mono ?_
      rintro e w5 ⟨g5, rfl, hg5, hblk5, hb5⟩
      have hd5 := HNF.out.dig
      generalize trimL qs = us at *
      go_wp2_with fail
      go_ret2
      exact ⟨_, _, us, _, rfl, hblk5.at_ hd5 rfl (by have := HLE.out; unfold maxLen; omega), HNF.out, HLE.out, Below.on hbx hb5⟩
    | succ j =>
      obtain rfl : z = (j : Int) := by omega
      obtain ⟨g, off, rfl, hc⟩ := h.cells.resolve_left (by omega)
      obtain ⟨x, hx⟩ : ∃ x, x = xs.getD j 0 := ⟨_, rfl⟩
      have hcx0 : w.cell? ⟨g, off + j, none⟩ = some (V x) := by rw [hx]; exact hc j (by omega)
      have hcx : wr.cell? ⟨g, off + j, none⟩ = some (V x) := (HR.out.bel.cell (p := ⟨g, off + j, none⟩) (World.block_lt_of_cell? w _ hcx0)).trans hcx0
      have hxb : x < B32 := by rw [hx]; exact h.dig.getD B32_pos j
      have hjn : j < n := by omega
      have hct : wr.cell? ⟨w.heap.size, j, none⟩ = some (V (qs.getD j 0)) := by
        have := HR.out.row.cell j hjn
        rw [Nat.zero_add] at this; exact this
      have hft : wr.frozen? ⟨w.heap.size, j, none⟩ = false := by
        have := HR.out.row.frozen j hjn
        rw [Nat.zero_add] at this; exact this
      have hL := HR.out.lt
      have hdB := HDB.out.2
      rw [B32_eq] at hdB hxb
      obtain ⟨T, hT⟩ : ∃ T, T = L * 4294967296 + x := ⟨_, rfl⟩
      obtain ⟨lh, hlh⟩ : ∃ lh, lh = L * 4294967296 := ⟨_, rfl⟩
      have f1 : IntKind.u64.wrap ((L : Int) * 4294967296) = (lh : Int) := wrap_mod _ _ (by omega)
      have f2 : IntKind.u64.wrap ((lh : Int) + (x : Int)) = (T : Int) := wrap_mod _ _ (by omega)
      have fx : IntKind.u64.wrap (x : Int) = (x : Int) := wrap_mod _ _ (by omega)
      obtain ⟨Q, hQ⟩ : ∃ Q, Q = T / d := ⟨_, rfl⟩
      obtain ⟨R, hRr⟩ : ∃ R, R = T % d := ⟨_, rfl⟩
      have q1 : (T : Int).tdiv (d : Int) = (Q : Int) := by rw [hQ, Int.tdiv_eq_ediv_of_nonneg (Int.natCast_nonneg T)]; norm_cast
      have q2 : (T : Int) / (d : Int) = (Q : Int) := by rw [hQ]; norm_cast
      have r1 : (T : Int).tmod (d : Int) = (R : Int) := by rw [hRr, Int.tmod_eq_emod_of_nonneg (Int.natCast_nonneg T)]; norm_cast
      have r2 : (T : Int) % (d : Int) = (R : Int) := by rw [hRr]; norm_cast
      have hRd : R < d := by rw [hRr]; exact Nat.mod_lt _ hd
      have hQB : Q < B32 := by
        rw [hQ, B32_eq]
        refine Nat.div_lt_of_lt_mul ?_
        have : L * 4294967296 + 4294967296 ≤ d * 4294967296 := by
          have := Nat.mul_le_mul_right 4294967296 (show L + 1 ≤ d by omega)
          rw [Nat.add_mul] at this; omega
        omega
      have fq : IntKind.u32.wrap (Q : Int) = (Q : Int) := wrap32 Q hQB
      have fq2 : IntKind.u64.wrap (Q : Int) = (Q : Int) := wrap_mod _ _ (by rw [B32_eq] at hQB; omega)
      have fq3 : (Q : Int) % 4294967296 = (Q : Int) := by rw [B32_eq] at hQB; omega
      have hQR : L * B32 + x = Q * d + R := by rw [B32_eq, ← hT, hQ, hRr, Nat.mul_comm]; exact (Nat.div_add_mod T d).symm
      have HS : Hid (DSm w w.heap.size n d xs j R (qs.set j Q) (wr.setCell ⟨w.heap.size, j, none⟩ (V Q))) := by
        have hR := HR.out
        have hs := hR.row.set j Q hjn hQB
        rw [Nat.zero_add] at hs
        refine ⟨bSet0 hR.bel _ _ _ (Nat.le_refl _), hs, hRd, ?_⟩
        rw [drop_set_self qs j Q (by rw [hR.row.len]; exact hjn), valB_cons, valB_drop B32 xs j (by rw [HLX.out]; exact hjn), ← hx]
        exact divsmall_abs hR.val hQR
      clear hz HR hc hx hcx0 hQ hRr hT hlh hQR hL hdB hxb hRd hQB
      go_wp2_with fail
      go_roundg j
      case measure => omega
      case rel => exact ⟨R, (j : Int) - 1, qs.set j Q, rfl, rfl, rfl, by omega, HS⟩
theorem At32.dropq {w : World} {g off n c : Nat} {xs : List Nat} (h : At32 w (some ⟨g, off, none⟩) n c xs) (k : Nat) (hk : k < n) : At32 w (some ⟨g, off + k, none⟩) (n - k) (c - k) (xs.drop k) := by
  refine ⟨by rw [List.length_drop, h.len], by have := h.cap; omega, by have := h.big; unfold maxLen at *; omega, h.dig.drop k, .inr ⟨g, off + k, rfl, fun j hj => ?_⟩⟩
  rcases h.cells with h0 | ⟨g', off', he, hc⟩
  · omega
  · simp only [Option.some.injEq, Addr.mk.injEq, and_true] at he
    obtain ⟨rfl, rfl⟩ := he
    have := hc (k + j) (by omega)
    rw [Nat.add_assoc, this]
    congr 2
    simp [List.getD_eq_getElem?_getD, List.getElem?_drop]
theorem drop_div32q {xs : List Nat} {v k : Nat} (hx : Nf B32 xs v) (hk : k ≤ xs.length) : valB B32 (xs.drop k) = v / B32 ^ k := by
  have h1 := valB_split B32 xs k hk
  have h2 := valB_lt B32_pos (hx.dig.take k)
  rw [List.length_take, Nat.min_eq_left hk] at h2
  rw [← hx.val, h1, Nat.add_mul_div_left _ _ (Nat.pow_pos B32_pos), Nat.div_eq_of_lt h2, Nat.zero_add]

theorem rfshr_any {p : Option Addr} {n c : Nat} {xs : List Nat} {v : Nat} {w : World} (h : At32 w p n c xs) (hx : Nf B32 xs v) (hn : n ≤ 16384) (N : Nat) (hN : 1 ≤ N) (hN2 : N ≤ 9223372036854775807) :
    Calls Tryz.prog 103 #[.slice p n c, .int .i64 N] w fun e w' => ∃ p' m' zs, e = .returned (.slice p' m' m') ∧ At32 w' p' m' m' zs ∧ Nf B32 zs (v / 2 ^ N) ∧ m' ≤ n ∧ Below w.heap.size w w' := by
  have HX : Hid (Nf B32 xs v) := hx
  have hl := h.len
  have cap := h.cap
  have big := h.big
  unfold maxLen at big
  obtain ⟨D, hD⟩ : ∃ D, D = N / 32 := ⟨_, rfl⟩
  obtain ⟨R, hR⟩ : ∃ R, R = N % 32 := ⟨_, rfl⟩
  have d1 : (N : Int).tdiv 32 = (D : Int) := by rw [Int.tdiv_eq_ediv_of_nonneg (by omega)]; omega
  have d2 : (N : Int).tmod 32 = (R : Int) := by rw [Int.tmod_eq_emod_of_nonneg (by omega)]; omega
  have hNp : ¬ (N : Int) ≤ 0 := by omega
  have hN0 : ¬ N = 0 := by omega
  have hR32 : R < 32 := by omega
  have hDb : D ≤ 288230376151711743 := by omega
  have hwD : IntKind.i64.wrap (D : Int) = (D : Int) := by simp [IntKind.wrap, IntKind.signed, IntKind.bits]; omega
  have HD : Hid (2 ^ N = B32 ^ D * 2 ^ R) := by show _ = _; rw [show B32 = 2 ^ 32 from rfl, ← Nat.pow_mul, ← Nat.pow_add]; congr 1; omega
  have HLX : Hid (xs.length = n) := hl
  clear hx hD hR hl
  by_cases hc : n ≤ D
  · have hci : (n : Int) ≤ (D : Int) := by omega
    have hcb : decide (n ≤ D) = true := decide_eq_true hc
    have HZ : Hid (v / 2 ^ N = 0) := by
      show _ = _
      rw [HD.out]
      refine Nat.div_eq_of_lt ?_
      have h1 := nf32_lt HX.out (K := D) (by rw [HLX.out]; exact hc)
      exact Nat.lt_of_lt_of_le h1 (Nat.le_mul_of_pos_right _ (Nat.pow_pos (by decide)))
    clear h
    go_enter Tryz.func103, Tryz.ntmps103
    go_wp2_with fail
    refine (rword0 w).mono ?_
    rintro e w1 ⟨g, rfl, hb⟩
    go_wp2_with fail
    go_ret
    exact ⟨_, 0, [], rfl, At32.empty _ _ 0 (by decide), by rw [HZ.out]; exact nf32_nilq, by omega, hb⟩
  · have hci : ¬ (n : Int) ≤ (D : Int) := by omega
    have hcb : decide (n ≤ D) = false := decide_eq_false hc
    have hDn : D < n := by omega
    have hDc : D < c := by omega
    have hDc2 : D ≤ c := by omega
    have hcD : ¬ c = D := by omega
    have hDn2 : D ≤ n := by omega
    obtain ⟨g, off, rfl, hcs⟩ := h.cells.resolve_left (by omega)
    have A1 : Hid (At32 w (some ⟨g, off + D, none⟩) (n - D) (c - D) (xs.drop D)) := h.dropq D hDn
    obtain ⟨d, hd⟩ : ∃ d, d = 2 ^ R := ⟨_, rfl⟩
    have hd1 : 1 ≤ d := by rw [hd]; exact Nat.pow_pos (by decide)
    have hdB : d < B32 := by rw [hd, show B32 = 2 ^ 32 from rfl]; exact Nat.pow_lt_pow_right (by decide) hR32
    have hdw : IntKind.u32.wrap (d : Int) = (d : Int) := wrap32 d hdB
    have hdI : (2 : Int) ^ R = (d : Int) := by rw [hd]; norm_cast
    have HV : Hid (valB B32 (xs.drop D) / d = v / 2 ^ N) := by
      show _ = _
      rw [HD.out, hd, drop_div32q HX.out (by rw [HLX.out]; omega), Nat.div_div_eq_div_mul]
    have A1d : Hid (At32 w.drew (some ⟨g, off + D, none⟩) (n - D) (c - D) (xs.drop D)) := A1.out.drewN 1
    have hbd : Below w.heap.size w w.drew := bDrew (Below.refl _ _)
    have HDD : Hid (1 ≤ d ∧ d < B32) := ⟨hd1, hdB⟩
    clear h hcs A1 hd hd1 hdB
    go_enter Tryz.func103, Tryz.ntmps103
    go_wp2_with fail
    (go_region_with (go_at_call 143; refine (rdivsmall A1d.out (by omega) d HDD.out.1 HDD.out.2).mono ?_; rintro e w1 ⟨p1, m1, z1, r1, rfl, hA1, hN1, hm1, hb1⟩; have A2 : Hid (At32 w1 p1 m1 m1 z1) := hA1; have N2 : Hid (Nf B32 z1 (v / 2 ^ N)) := (by rw [HV.out] at hN1; exact hN1); have hbw : Below w.heap.size w w1 := Below.on hbd hb1; have hm1' : m1 ≤ n := (by omega); clear hA1 hN1 hb1))
    all_goals
      (go_wp2_with fail
       go_ret
       exact ⟨p1, m1, z1, rfl, A2.out, N2.out, hm1', hbw⟩)
theorem rshr_0 {p : Option Addr} {n c : Nat} {xs : List Nat} {v : Nat} {w : World} (h : At32 w p n c xs) (hx : Nf B32 xs v) (hn : n ≤ 16384) :
    Calls Tryz.prog 103 #[.slice p n c, .int .i64 0] w fun e w' => ∃ g, e = .returned (.slice (some ⟨g, 0, none⟩) n n) ∧ At32 w' (some ⟨g, 0, none⟩) n n xs ∧ Below w.heap.size w w' := by
  have H : Hid (At32 w p n c xs) := h
  have HX : Hid (Nf B32 xs v) := hx
  have HN : Hid (n ≤ 16384) := hn
  have HL : Hid (xs.length = n) := h.len
  clear h hx hn
  go_enter Tryz.func103, Tryz.ntmps103
  go_wp2_with fail
  refine (rnorm_any H.out (by have := HN.out; omega)).mono ?_
  rintro e w1 ⟨g, rfl, hg, hblk, hb⟩
  rw [trimL_of_Top HX.out.top] at hblk ⊢
  rw [HL.out]
  have HB : Hid (At32 w1 (some ⟨g, 0, none⟩) n n xs) := hblk.at_ HX.out.dig HL.out (by unfold maxLen; have := HN.out; omega)
  clear hblk hg
  go_wp2_with fail
  go_ret
  exact ⟨g, rfl, HB.out, hb⟩
theorem told5 {p : Option Addr} {m : Nat} {w : World} {z e : Int} (s : Bool) (h : ZR w s p m z) (hz : z % 2 = 1) (hm : m ≤ 8000) (he : -1048576 ≤ e ∧ e ≤ 1048576) :
    Calls Tryz.prog 61 #[.agg #[.bool s, .slice p m m], .int .i64 e] w fun en w' => ∃ g m' c', en = .returned (.tuple #[DV s (some ⟨g, 0, none⟩) m' c' e, .int .i64 0]) ∧ w.heap.size ≤ g ∧ DN w' s (some ⟨g, 0, none⟩) m' c' e z ∧ Below w.heap.size w w' := by
  obtain ⟨xs, hA, hN⟩ := h.ex
  have AX : Hid (At32 w p m m xs) := hA
  have NX : Hid (Nf B32 xs z.natAbs) := hN
  have HZ : Hid (z % 2 = 1 ∧ s = decide (z < 0) ∧ m ≤ 8000) := ⟨hz, h.sg, hm⟩
  have HE : Hid (-1048576 ≤ e ∧ e ≤ 1048576) := he
  have hm0 : ¬ m = 0 := fun e0 => by have := h.zero.1 e0; omega
  have hm1 : ((m : Int) == 0) = false := by simp; omega
  have g1 : ¬ 1048576 < e := by omega
  have g2 : ¬ e < -1099511627776 := by omega
  have g3 : ¬ e < -1048576 := by omega
  have g4 : ¬ (16384 : Int) < (m : Int) := by omega
  have g5 : wrap64 e = e := by simp only [wrap64]; omega
  clear h hz hm hA hN he
  go_enter Tryz.func61, Tryz.ntmps61
  go_wp2_with fail
  obtain ⟨W0, hW0⟩ : ∃ W0, W0 = ((w.alloc (.cells #[.bool s, .slice p m m] 104)).alloc (.cells #[.bool false, .slice none 0 0, .int .i64 0] 33)) := ⟨_, rfl⟩
  have Xm : Hid (Box W0 (w.heap.size) (.bool s) (.slice p m m)) := by rw [hW0]; exact ⟨by go_simp, by go_simp, by go_simp, by go_simp⟩
  have Xr : Hid (B3q W0 (w.heap.size + 1) (.bool false) (.slice none 0 0) (.int .i64 0)) := by rw [hW0]; exact ⟨by go_simp, by go_simp, by go_simp, by go_simp, by go_simp, by go_simp⟩
  have hb0 : Below w.heap.size w W0 := by rw [hW0]; exact below2 w _ _
  rw [← hW0]
  clear hW0
  have hbw : Below w.heap.size w w := Below.refl _ _
  obtain ⟨gr, hgr⟩ : ∃ g, g = w.heap.size + 1 := ⟨_, rfl⟩
  have HGr : Hid (w.heap.size ≤ gr) := by rw [hgr]; show _ ≤ _; omega
  rw [← hgr] at Xr
  try rw [← hgr]
  obtain ⟨gm, hgm⟩ : ∃ g, g = w.heap.size := ⟨_, rfl⟩
  have HGm : Hid (w.heap.size ≤ gm) := by rw [hgm]; show _ ≤ _; omega
  rw [← hgm] at Xm
  try rw [← hgm]
  have HGD : Hid (gm ≠ gr ∧ gr ≠ gm) := by rw [hgm, hgr]; exact ⟨by omega, by omega⟩
  clear hgm hgr
  replace hbw := Below.on hbw hb0
  clear hb0
  refine (rzeros_any (k := 0) (AX.out.below hbw) NX.out (by have := HZ.out; omega) ⟨by rw [Nat.pow_zero, Nat.mod_one], by rw [Nat.pow_zero, Nat.div_one]; have := HZ.out; omega⟩ (by have := HZ.out; omega)).mono ?_
  rintro e2 v1 ⟨rfl, hw⟩
  obtain rfl := hw.symm
  clear hw
  obtain ⟨cm0, cm1, fm0, fm1⟩ := Xm.out
  have hnem := Xm.out.lt
  go_wp2_with fail
  clear cm0 cm1 fm0 fm1 hnem
  refine (rshr_0 (AX.out.below hbw) NX.out (by have := HZ.out; omega)).mono ?_
  rintro e2 v3 ⟨g3, rfl, hA3, hb3⟩
  replace Xm : Hid _ := Xm.out.below hb3
  replace Xr : Hid _ := Xr.out.below hb3
  replace hbw := Below.on hbw hb3
  clear hb3
  have A3 : Hid (At32 v3 (some ⟨g3, 0, none⟩) m m xs) := hA3
  clear hA3
  obtain ⟨cm0, cm1, fm0, fm1⟩ := Xm.out
  have hnem := Xm.out.lt
  go_wp2_with fail
  clear cm0 cm1 fm0 fm1 hnem
  refine (rmk_any s A3.out NX.out (by have := HZ.out; omega)).mono ?_
  rintro e v5 ⟨v, rfl, hv, hb5⟩
  obtain ⟨s5, g5, m5, rfl, hg5, hz5, hl5⟩ := hv
  have HN5 : Hid (v3.heap.size ≤ g5) := hg5
  have HB5 : Hid (v3.heap.size ≤ v5.heap.size) := hb5.size
  replace Xm : Hid _ := Xm.out.below hb5
  replace Xr : Hid _ := Xr.out.below hb5
  replace A3 : Hid _ := A3.out.below hb5
  replace hbw := Below.on hbw hb5
  clear hb5
  have Z5 : Hid (ZR v5 s5 (some ⟨g5, 0, none⟩) m5 (iv s z.natAbs)) := hz5
  have HL5 : Hid (m5 ≤ m) := hl5
  clear hz5 hl5 hg5
  have hz5 := Z5.out.cast (show iv s z.natAbs = z from by rw [HZ.out.2.1]; exact iv_abs z)
  obtain rfl : s5 = s := by rw [hz5.sg, HZ.out.2.1]
  obtain ⟨zs, hA5, hN5⟩ := hz5.ex
  have h05 : s5 = true → 0 < m5 := fun h8 => Nat.pos_of_ne_zero fun e0 => by have := hz5.zero.1 e0; have := HZ.out.1; omega
  have HZ5 : Hid (At32 v5 (some ⟨g5, 0, none⟩) m5 m5 zs ∧ Nf B32 zs z.natAbs ∧ (s5 = true → 0 < m5) ∧ m5 ≤ m) := ⟨hA5, hN5, h05, HL5.out⟩
  clear hz5 hA5 hN5 h05 Z5
  go_wp2_with fail
  have HRL : Hid (gr < v5.heap.size ∧ w.heap.size ≤ v5.heap.size) := ⟨Xr.out.lt, hbw.size⟩
  refine (to04_any s5 HZ5.out.1 HZ5.out.2.1 (by have := HZ5.out; have := HZ.out; omega) HZ5.out.2.2.1).mono ?_
  rintro e2 v6 ⟨g6, k6, c6, us, rfl, hA6, hN6, hg6, hb6⟩
  replace Xm : Hid _ := Xm.out.below hb6
  replace Xr : Hid _ := Xr.out.below hb6
  replace A3 : Hid _ := A3.out.below hb6
  replace hbw := Below.on hbw hb6
  clear hb6
  have A6 : Hid (At v6 (some ⟨g6, 0, none⟩) k6 c6 us) := hA6
  have N6 : Hid (Nf B64 us z.natAbs ∧ gr < g6) := ⟨hN6, Nat.lt_of_lt_of_le HRL.out.1 hg6⟩
  clear hA6 hN6 hg6
  obtain ⟨cr0, cr1, cr2, fr0, fr1, fr2⟩ := Xr.out
  have hner : gr < v6.heap.size := World.block_lt_of_cell? v6 _ cr0
  go_wp2_with fail
  refine bodyPost_ret (v := .tuple #[DV s5 (some ⟨g6, 0, none⟩) k6 c6 e, .int .i64 0]) (by rw [results_cell_tmp rfl]; go_simp) rfl ⟨g6, k6, c6, rfl, Nat.le_trans HGr.out (Nat.le_of_lt N6.out.2), ⟨⟨⟨us, ?_, N6.out.1, ?_⟩, HZ.out.2.1⟩, .inr ⟨HZ.out.1, HE.out⟩⟩, ?_⟩
  · have := N6.out.2
    exact ((A6.out.setOther _ _ _ (by omega)).setOther _ _ _ (by omega)).setOther _ _ _ (by omega)
  · have h1 := (NX.out.len_le B32_one (k := m)).1 (by rw [AX.out.len]; exact Nat.le_refl _)
    have h2 := (N6.out.1.len_le B64_one (k := m)).2 (Nat.lt_of_lt_of_le h1 (Nat.pow_le_pow_left (by decide) m))
    rw [A6.out.len] at h2
    have := HZ.out
    omega
  · exact bSet (bSet (bSet hbw _ _ _ HGr.out) _ _ _ HGr.out) _ _ _ HGr.out
theorem rfrom5 {p : Option Addr} {n c : Nat} {xs : List Nat} {w : World} (s : Bool) (h : At w p n c xs) (hn : n ≤ 17592186044416) :
    Calls Tryz.prog 62 #[ZV s p n c] w fun e w' => ∃ s' p' m', e = .returned (.agg #[.bool s', .slice p' m' m']) ∧ ZR w' s' p' m' (iv s (valB B64 xs)) ∧ m' ≤ 2 * n ∧ Below w.heap.size w w' := by
  refine (from04 s h hn).mono ?_
  rintro e w1 ⟨p1, m1, z1, rfl, hA, hN, hl, hb⟩
  refine ⟨_, p1, m1, rfl, ⟨⟨z1, hA, by rw [iv_natAbs]; exact hN⟩, ?_⟩, hl, hb⟩
  rw [iv_lt]
  have : decide (0 < m1) = decide (0 < valB B64 xs) := by
    refine decide_eq_decide.2 ?_
    have h1 := hN.zero_iff B32_one
    have h2 := hA.len
    constructor
    · intro h0
      rcases Nat.eq_zero_or_pos (valB B64 xs) with e | e
      · have := h1.2 e; rw [this] at h2; simp at h2; omega
      · exact e
    · intro h0
      rcases Nat.eq_zero_or_pos m1 with e | e
      · have := h1.1 (List.eq_nil_of_length_eq_zero (by omega)); omega
      · exact e
  rw [this]
theorem DN.set {w : World} {s : Bool} {g m c : Nat} {e z : Int} (h : DN w s (some ⟨g, 0, none⟩) m c e z) (g2 o2 : Nat) (v : Value) (hne : g ≠ g2) : DN (w.setCell ⟨g2, o2, none⟩ v) s (some ⟨g, 0, none⟩) m c e z := by
  obtain ⟨xs, hX⟩ := h.zn.ex
  exact ⟨⟨⟨xs, hX.at_.setOther g2 o2 v hne, hX.nf, hX.le⟩, h.zn.sg⟩, h.fm⟩
theorem docof5 {w : World} (z : Int) (h0 : -9223372036854775808 ≤ z) (h1 : z ≤ 9223372036854775807) (hz : z % 2 = 1) :
    Calls Tryz.prog 28 #[.int .i64 z] w fun en w' => ∃ s' g m' c', en = .returned (DV s' (some ⟨g, 0, none⟩) m' c' 0) ∧ w.heap.size ≤ g ∧ DN w' s' (some ⟨g, 0, none⟩) m' c' 0 z ∧ Below w.heap.size w w' := by
  have HZ : Hid (-9223372036854775808 ≤ z ∧ z ≤ 9223372036854775807 ∧ z % 2 = 1) := ⟨h0, h1, hz⟩
  clear h0 h1 hz
  go_enter Tryz.func28, Tryz.ntmps28
  go_wp2_with fail
  obtain ⟨W0, hW0⟩ : ∃ W0, W0 = (w.alloc (.cells #[.bool false, .slice none 0 0, .int .i64 0] 33)) := ⟨_, rfl⟩
  have Xr : Hid (B3q W0 (w.heap.size) (.bool false) (.slice none 0 0) (.int .i64 0)) := by rw [hW0]; exact ⟨by go_simp, by go_simp, by go_simp, by go_simp, by go_simp, by go_simp⟩
  have hb0 : Below w.heap.size w W0 := by rw [hW0]; exact below1 w _
  rw [← hW0]
  clear hW0
  have hbw : Below w.heap.size w w := Below.refl _ _
  obtain ⟨gr, hgr⟩ : ∃ g, g = w.heap.size := ⟨_, rfl⟩
  have HGr : Hid (w.heap.size ≤ gr) := by rw [hgr]; show _ ≤ _; omega
  rw [← hgr] at Xr
  try rw [← hgr]
  clear hgr
  replace hbw := Below.on hbw hb0
  clear hb0
  refine (rof_any z _ HZ.out.1 HZ.out.2.1).mono ?_
  rintro e2 v1 ⟨g1, m1, zs, rfl, hA1, hN1, hl1, hb1⟩
  replace Xr : Hid _ := Xr.out.below hb1
  replace hbw := Below.on hbw hb1
  clear hb1
  have Z1 : Hid (ZR v1 (decide (z < 0)) (some ⟨g1, 0, none⟩) m1 z) := ⟨⟨zs, hA1, hN1⟩, rfl⟩
  have HL1 : Hid (m1 ≤ 3) := hl1
  clear hA1 hN1 hl1
  obtain ⟨s1, hs1⟩ : ∃ b, b = decide (z < 0) := ⟨_, rfl⟩
  rw [← hs1] at Z1 ⊢
  clear hs1
  go_wp2_with fail
  refine (told5 s1 Z1.out HZ.out.2.2 (by have := HL1.out; omega) (by omega)).mono ?_
  rintro e2 v2 ⟨g2, m2, c2, rfl, hg2, hd2, hb2⟩
  have HR2 : Hid (gr < g2 ∧ w.heap.size ≤ g2) := ⟨Nat.lt_of_lt_of_le Xr.out.lt hg2, Nat.le_trans hbw.size hg2⟩
  replace Xr : Hid _ := Xr.out.below hb2
  replace Z1 : Hid _ := Z1.out.below hb2
  replace hbw := Below.on hbw hb2
  clear hb2
  have D2 : Hid (DN v2 s1 (some ⟨g2, 0, none⟩) m2 c2 0 z) := hd2
  clear hd2 hg2
  obtain ⟨cr0, cr1, cr2, fr0, fr1, fr2⟩ := Xr.out
  have hner : gr < v2.heap.size := World.block_lt_of_cell? v2 _ cr0
  go_wp2_with fail
  refine bodyPost_ret (v := DV s1 (some ⟨g2, 0, none⟩) m2 c2 0) (by rw [results_cell1 rfl]; go_simp) rfl ⟨s1, g2, m2, c2, rfl, HR2.out.2, ?_, ?_⟩
  · have := HR2.out.1
    exact (((D2.out.set _ _ _ (by omega)).set _ _ _ (by omega)).set _ _ _ (by omega)).below (below1 _ _)
  · exact Below.on (bSet (bSet (bSet hbw _ _ _ HGr.out) _ _ _ HGr.out) _ _ _ HGr.out) (below1 _ _)
theorem nought5 {p : Option Addr} {m c : Nat} {w : World} {e : Int} {s : Bool} (hm : 0 < m) :
    Calls Tryz.prog 60 #[DV s p m c e] w fun en w' => en = .returned (.bool false) ∧ Below w.heap.size w w' := by
  have h1 : ((m : Int) == 0) = false := by simp; omega
  have h2 : ¬ m = 0 := by omega
  clear hm
  go_enter Tryz.func60, Tryz.ntmps60
  go_wp2_with fail
  go_ret
  exact ⟨rfl, below1 w _⟩
theorem docscale5 {p : Option Addr} {m c : Nat} {w : World} {z e n : Int} {s : Bool} (h : DN w s p m c e z) (hz : z % 2 = 1) (hm : m ≤ 4000) (hn : -2000 ≤ n ∧ n ≤ 2000) (he : -2000 ≤ e ∧ e ≤ 2000) :
    Calls Tryz.prog 27 #[DV s p m c e, .int .i64 n] w fun en w' => ∃ s' g m' c', en = .returned (.tuple #[DV s' (some ⟨g, 0, none⟩) m' c' (e + n), .int .i64 0]) ∧ w.heap.size ≤ g ∧ DN w' s' (some ⟨g, 0, none⟩) m' c' (e + n) z ∧ Below w.heap.size w w' := by
  have H : Hid (DN w s p m c e z) := h
  have HZ : Hid (z % 2 = 1 ∧ m ≤ 4000 ∧ -2000 ≤ n ∧ n ≤ 2000 ∧ -2000 ≤ e ∧ e ≤ 2000) := ⟨hz, hm, hn.1, hn.2, he.1, he.2⟩
  have g1 : ¬ 2097152 < n := by omega
  have g2 : ¬ n < -2097152 := by omega
  have g5 : wrap64 (e + n) = e + n := by simp only [wrap64]; omega
  have g6 : IntKind.i64.wrap (e + n) = e + n := by simp [IntKind.wrap, IntKind.signed, IntKind.bits]; omega
  clear h hz hm hn he
  go_enter Tryz.func27, Tryz.ntmps27
  go_wp2_with fail
  obtain ⟨W0, hW0⟩ : ∃ W0, W0 = ((w.alloc (.cells #[.bool s, .slice p m c, .int .i64 e] 33)).alloc (.cells #[.bool false, .slice none 0 0, .int .i64 0] 33)) := ⟨_, rfl⟩
  have Xd : Hid (B3q W0 (w.heap.size) (.bool s) (.slice p m c) (.int .i64 e)) := by rw [hW0]; exact ⟨by go_simp, by go_simp, by go_simp, by go_simp, by go_simp, by go_simp⟩
  have Xr : Hid (B3q W0 (w.heap.size + 1) (.bool false) (.slice none 0 0) (.int .i64 0)) := by rw [hW0]; exact ⟨by go_simp, by go_simp, by go_simp, by go_simp, by go_simp, by go_simp⟩
  have hb0 : Below w.heap.size w W0 := by rw [hW0]; exact below2 w _ _
  rw [← hW0]
  clear hW0
  have hbw : Below w.heap.size w w := Below.refl _ _
  obtain ⟨gr, hgr⟩ : ∃ g, g = w.heap.size + 1 := ⟨_, rfl⟩
  have HGr : Hid (w.heap.size ≤ gr) := by rw [hgr]; show _ ≤ _; omega
  rw [← hgr] at Xr
  try rw [← hgr]
  obtain ⟨gd, hgd⟩ : ∃ g, g = w.heap.size := ⟨_, rfl⟩
  have HGd : Hid (w.heap.size ≤ gd) := by rw [hgd]; show _ ≤ _; omega
  rw [← hgd] at Xd
  try rw [← hgd]
  have HGD : Hid (gd ≠ gr ∧ gr ≠ gd) := by rw [hgd, hgr]; exact ⟨by omega, by omega⟩
  clear hgd hgr
  replace hbw := Below.on hbw hb0
  clear hb0
  obtain ⟨xs, hX⟩ := (H.out.zn.below hbw).ex
  have HV : Hid (valB B64 xs = z.natAbs) := hX.nf.val
  have HMP : Hid (0 < m) := by
    rcases Nat.eq_zero_or_pos m with e0 | e0
    · subst e0
      have h8 := hX.nf.val
      rw [List.eq_nil_of_length_eq_zero hX.at_.len] at h8
      have h9 := HZ.out.1
      have : z.natAbs = 0 := h8.symm
      omega
    · exact e0
  have AX : Hid (At W0 p m c xs) := hX.at_
  refine (docformd s hX.at_).mono ?_
  rintro e2 v1 ⟨rfl, hb1⟩
  rw [show formD s xs e = true from dn_formD (H.out.below hbw) hX]
  clear hX
  replace Xd : Hid _ := Xd.out.below hb1
  replace Xr : Hid _ := Xr.out.below hb1
  replace AX : Hid _ := AX.out.below hb1
  replace hbw := Below.on hbw hb1
  clear hb1
  obtain ⟨cd0, cd1, cd2, fd0, fd1, fd2⟩ := Xd.out
  have hned : gd < v1.heap.size := World.block_lt_of_cell? v1 _ cd0
  go_wp2_with fail
  clear cd0 cd1 cd2 fd0 fd1 fd2 hned
  refine (nought5 HMP.out).mono ?_
  rintro e v2 ⟨rfl, hb2⟩
  replace Xd : Hid _ := Xd.out.below hb2
  replace Xr : Hid _ := Xr.out.below hb2
  replace AX : Hid _ := AX.out.below hb2
  replace hbw := Below.on hbw hb2
  clear hb2
  obtain ⟨cd0, cd1, cd2, fd0, fd1, fd2⟩ := Xd.out
  have hned : gd < v2.heap.size := World.block_lt_of_cell? v2 _ cd0
  go_wp2_with fail
  clear cd0 cd1 cd2 fd0 fd1 fd2 hned
  obtain ⟨W5, hW5⟩ : ∃ W1, W1 = v2.drew := ⟨_, rfl⟩
  have hbd : Below v2.heap.size v2 W5 := by rw [hW5]; exact bDrew1 (Below.refl _ _)
  replace Xd : Hid _ := Xd.out.below hbd
  replace Xr : Hid _ := Xr.out.below hbd
  replace AX : Hid _ := AX.out.below hbd
  replace hbw := Below.on hbw hbd
  clear hbd
  have HJ : Hid ((fun W' : World => W'.cell? ⟨gd, 0, none⟩ = some (.bool s) ∧ W'.cell? ⟨gd, 1, none⟩ = some (.slice p m c) ∧ W'.cell? ⟨gd, 2, none⟩ = some (.int .i64 e)) W5) := ⟨Xd.out.c0, Xd.out.c1, Xd.out.c2⟩
  refine wp_region_J (fun W' => W'.cell? ⟨gd, 0, none⟩ = some (.bool s) ∧ W'.cell? ⟨gd, 1, none⟩ = some (.slice p m c) ∧ W'.cell? ⟨gd, 2, none⟩ = some (.int .i64 e)) (by kernel_rfl) ?_
  rw [← hW5]
  clear hW5
  refine wpJ_tq 0 rfl HJ.out ?_
  refine wpJ_tq 1 rfl HJ.out ?_
  refine wpJ_tq 3 rfl HJ.out ?_
  refine wpJ_tq 4 rfl HJ.out ?_
  refine wpJ_tq 5 rfl HJ.out ?_
  refine wpJ_tq 6 rfl HJ.out ?_
  refine wpJ_on 2 rfl fun KJ hK => ?_
  go_simp
  refine (rfrom5 s AX.out (by have := HZ.out; omega)).mono ?_
  rintro e2 v3 ⟨s3, p3, m3, rfl, hz3, hl3, hb3⟩
  rw [HV.out, H.out.zn.iv] at hz3
  replace Xd : Hid _ := Xd.out.below hb3
  replace Xr : Hid _ := Xr.out.below hb3
  replace AX : Hid _ := AX.out.below hb3
  replace hbw := Below.on hbw hb3
  clear hb3
  have Z3 : Hid (ZR v3 s3 p3 m3 z) := hz3
  have HL3 : Hid (m3 ≤ 8000) := by have := HZ.out; show m3 ≤ _; omega
  clear hz3 hl3
  refine hK _ _ ⟨Xd.out.c0, Xd.out.c1, Xd.out.c2⟩ ?_
  clear hK
  refine wpJ_on 7 rfl fun KJ hK => ?_
  go_simp
  refine (told5 s3 Z3.out HZ.out.1 HL3.out (by have := HZ.out; omega)).mono ?_
  rintro e2 v4 ⟨g4, m4, c4, rfl, hg4, hd4, hb4⟩
  have HR4 : Hid (gr < g4 ∧ w.heap.size ≤ g4) := ⟨Nat.lt_of_lt_of_le Xr.out.lt hg4, Nat.le_trans hbw.size hg4⟩
  replace Xd : Hid _ := Xd.out.below hb4
  replace Xr : Hid _ := Xr.out.below hb4
  replace AX : Hid _ := AX.out.below hb4
  replace Z3 : Hid _ := Z3.out.below hb4
  replace hbw := Below.on hbw hb4
  clear hb4
  have D4 : Hid (DN v4 s3 (some ⟨g4, 0, none⟩) m4 c4 (e + n) z) := hd4
  clear hd4 hg4
  clear HJ
  have HJ : Hid ((fun W' : World => W'.cell? ⟨gd, 0, none⟩ = some (.bool s) ∧ W'.cell? ⟨gd, 1, none⟩ = some (.slice p m c) ∧ W'.cell? ⟨gd, 2, none⟩ = some (.int .i64 e)) v4) := ⟨Xd.out.c0, Xd.out.c1, Xd.out.c2⟩
  refine hK _ _ HJ.out ?_
  clear hK
  refine wpJ_tq 8 rfl HJ.out ?_
  refine wpJ_tq 9 rfl HJ.out ?_
  obtain ⟨cr0, cr1, cr2, fr0, fr1, fr2⟩ := Xr.out
  have hner : gr < v4.heap.size := World.block_lt_of_cell? v4 _ cr0
  obtain ⟨cd0, cd1, cd2, fd0, fd1, fd2⟩ := Xd.out
  have hned : gd < v4.heap.size := World.block_lt_of_cell? v4 _ cd0
  obtain ⟨hgd0, hgd1⟩ := HGD.out
  refine wpJ_on 10 rfl fun KJ hK => ?_
  go_simp
  have HJ2 : Hid ((fun W' : World => W'.cell? ⟨gd, 0, none⟩ = some (.bool s) ∧ W'.cell? ⟨gd, 1, none⟩ = some (.slice p m c) ∧ W'.cell? ⟨gd, 2, none⟩ = some (.int .i64 e)) (((v4.setCell ⟨gr, 0, none⟩ (.bool s3)).setCell ⟨gr, 1, none⟩ (.slice (some ⟨g4, 0, none⟩) m4 c4)).setCell ⟨gr, 2, none⟩ (.int .i64 (e + n)))) := ⟨by go_simp, by go_simp, by go_simp⟩
  refine hK _ _ HJ2.out ?_
  clear hK HJ
  have HJ := HJ2
  clear HJ2
  refine wpJ_tq 11 rfl HJ.out ?_
  refine wpJ_done (by kernel_rfl) ?_ _
  clear HJ
  go_wp2_with fail
  refine bodyPost_ret (v := .tuple #[DV s3 (some ⟨g4, 0, none⟩) m4 c4 (e + n), .int .i64 0]) (by rw [results_cell_tmp rfl]; go_simp) rfl ⟨s3, g4, m4, c4, rfl, HR4.out.2, ?_, ?_⟩
  · have := HR4.out.1
    exact ((D4.out.set _ _ _ (by omega)).set _ _ _ (by omega)).set _ _ _ (by omega)
  · exact bSet (bSet (bSet hbw _ _ _ HGr.out) _ _ _ HGr.out) _ _ _ HGr.out
theorem isnan_i (x : Int) (w : World) : Calls Tryz.prog 140 #[.int .i64 x] w fun en w' => en = .returned (.bool false) ∧ w' = w := by
  have hb : (x == x) = true := by simp
  have hc : (x != x) = false := by simp
  go_enter Tryz.func140, Tryz.ntmps140
  go_wp2_with fail
  go_ret
  exact ⟨rfl, rfl⟩
theorem sgn3 (x : Int) : (x < 0 ∧ sgnI x = -1) ∨ (x = 0 ∧ sgnI x = 0) ∨ (0 < x ∧ sgnI x = 1) := by
  unfold sgnI
  rcases Int.lt_trichotomy x 0 with h | h | h
  · exact .inl ⟨h, if_pos h⟩
  · exact .inr (.inl ⟨h, by rw [if_neg (by omega), if_pos h]⟩)
  · exact .inr (.inr ⟨h, by rw [if_neg (by omega), if_neg (by omega)]⟩)
theorem cmp_l {a b : Int} (h : a < b) : cmpI a b = -1 := if_pos h
theorem cmp_e {a b : Int} (h : a = b) : cmpI a b = 0 := by unfold cmpI; rw [if_neg (by omega), if_pos h]
theorem cmp_g {a b : Int} (h : b < a) : cmpI a b = 1 := by unfold cmpI; rw [if_neg (by omega), if_neg (by omega)]
theorem dv3 (z e : Int) : (z < 0 ∧ dv z e < 0) ∨ (z = 0 ∧ dv z e = 0) ∨ (0 < z ∧ 0 < dv z e) := by
  have h1 : (0 : Int) < ((2 ^ (e + 4194304).toNat : Nat) : Int) := by have := Nat.pow_pos (n := (e + 4194304).toNat) (show 0 < 2 by omega); omega
  rcases Int.lt_trichotomy z 0 with h | h | h
  · exact .inl ⟨h, Int.mul_neg_of_neg_of_pos h h1⟩
  · exact .inr (.inl ⟨h, by rw [h, dv_zero]⟩)
  · exact .inr (.inr ⟨h, Int.mul_pos h h1⟩)
theorem cmp_sgn {x y e f : Int} (h : sgnI x ≠ sgnI y ∨ sgnI x = 0) : cmpI (sgnI x) (sgnI y) = cmpI (dv x e) (dv y f) := by
  have hx := dv3 x e
  have hy := dv3 y f
  generalize dv x e = X at *
  generalize dv y f = Y at *
  rcases sgn3 x with ⟨h1, ex⟩ | ⟨h1, ex⟩ | ⟨h1, ex⟩ <;> rcases sgn3 y with ⟨h2, ey⟩ | ⟨h2, ey⟩ | ⟨h2, ey⟩ <;> rw [ex, ey] at h ⊢ <;>
    first
    | exact (cmp_l (by omega)).trans (cmp_l (by omega)).symm
    | exact (cmp_e (by omega)).trans (cmp_e (by omega)).symm
    | exact (cmp_g (by omega)).trans (cmp_g (by omega)).symm
    | (exfalso; omega)
def topI (z e : Int) : Int := e + bitsN z.natAbs - 1
theorem top_lt {x y e f : Int} (hx : 0 ≤ x) (hy : 0 < y) (he : -4194304 ≤ e) (hf : -4194304 ≤ f) (h : topI x e < topI y f) : dv x e < dv y f := by
  have h1 := bitsN_lt x.natAbs
  have h2 := bitsN_le y.natAbs (by omega)
  have h3 := bitsN_pos (a := y.natAbs) (by omega)
  unfold topI at h
  have h4 : x.natAbs * 2 ^ (e + 4194304).toNat < 2 ^ (bitsN x.natAbs + (e + 4194304).toNat) := by
    rw [Nat.pow_add]
    exact Nat.mul_lt_mul_of_pos_right h1 (Nat.pow_pos (by omega))
  have h5 : 2 ^ (bitsN y.natAbs - 1 + (f + 4194304).toNat) ≤ y.natAbs * 2 ^ (f + 4194304).toNat := by
    rw [Nat.pow_add]
    exact Nat.mul_le_mul_right _ h2
  have h6 : 2 ^ (bitsN x.natAbs + (e + 4194304).toNat) ≤ 2 ^ (bitsN y.natAbs - 1 + (f + 4194304).toNat) := Nat.pow_le_pow_right (by omega) (by omega)
  have h7 : x.natAbs * 2 ^ (e + 4194304).toNat < y.natAbs * 2 ^ (f + 4194304).toNat := by omega
  unfold dv
  have h8 : ((x.natAbs * 2 ^ (e + 4194304).toNat : Nat) : Int) = x * ((2 ^ (e + 4194304).toNat : Nat) : Int) := by rw [Int.natCast_mul, Int.natAbs_of_nonneg hx]
  have h9 : ((y.natAbs * 2 ^ (f + 4194304).toNat : Nat) : Int) = y * ((2 ^ (f + 4194304).toNat : Nat) : Int) := by rw [Int.natCast_mul, Int.natAbs_of_nonneg (by omega)]
  rw [← h8, ← h9]
  omega
theorem topI_neg (z e : Int) : topI (-z) e = topI z e := by unfold topI; rw [Int.natAbs_neg]
theorem cmp_top {x y e f : Int} (hx : x ≠ 0) (hs : sgnI x = sgnI y) (he : -4194304 ≤ e) (hf : -4194304 ≤ f) (h : topI x e ≠ topI y f) : sgnI x * cmpI (topI x e) (topI y f) = cmpI (dv x e) (dv y f) := by
  unfold sgnI at hs ⊢
  rcases Int.lt_or_lt_of_ne hx with h1 | h1
  · have h2 : y < 0 := by
      rw [if_pos h1] at hs
      rcases Int.lt_trichotomy y 0 with h2 | h2 | h2
      · exact h2
      · rw [if_neg (by omega), if_pos h2] at hs; omega
      · rw [if_neg (by omega), if_neg (by omega)] at hs; omega
    rw [if_pos h1]
    rcases Int.lt_or_lt_of_ne h with h3 | h3
    · have := top_lt (x := -x) (y := -y) (by omega) (by omega) he hf (by rw [topI_neg, topI_neg]; exact h3)
      rw [dv_neg, dv_neg] at this
      unfold cmpI
      rw [if_pos h3, if_neg (by omega), if_neg (by omega)]
      rfl
    · have := top_lt (x := -y) (y := -x) (by omega) (by omega) hf he (by rw [topI_neg, topI_neg]; exact h3)
      rw [dv_neg, dv_neg] at this
      unfold cmpI
      rw [if_neg (show ¬ topI x e < topI y f by omega), if_neg h, if_pos (show dv x e < dv y f by omega)]
      rfl
  · have h2 : 0 < y := by
      rw [if_neg (by omega), if_neg (by omega)] at hs
      rcases Int.lt_trichotomy y 0 with h2 | h2 | h2
      · rw [if_pos h2] at hs; omega
      · rw [if_neg (by omega), if_pos h2] at hs; omega
      · exact h2
    rw [if_neg (by omega), if_neg (by omega), Int.one_mul]
    rcases Int.lt_or_lt_of_ne h with h3 | h3
    · have := top_lt (by omega) h2 he hf h3
      unfold cmpI
      rw [if_pos h3, if_pos this]
    · have := top_lt (by omega) h1 hf he h3
      unfold cmpI
      rw [if_neg (show ¬ topI x e < topI y f by omega), if_neg h, if_neg (show ¬ dv x e < dv y f by omega), if_neg (by omega)]
theorem cmp_same {x y e f g : Int} (h1 : g ≤ e) (h2 : g ≤ f) (hg : -4194304 ≤ g) : cmpI (x * 2 ^ (e - g).toNat) (y * 2 ^ (f - g).toNat) = cmpI (dv x e) (dv y f) := by
  rw [dv_shift h1 hg, dv_shift h2 hg, pow_cast, pow_cast]
  generalize x * ((2 ^ (e - g).toNat : Nat) : Int) = X
  generalize y * ((2 ^ (f - g).toNat : Nat) : Int) = Y
  have h3 : (0 : Int) < ((2 ^ (g + 4194304).toNat : Nat) : Int) := by have := Nat.pow_pos (n := (g + 4194304).toNat) (show 0 < 2 by omega); omega
  unfold cmpI dv
  generalize ((2 ^ (g + 4194304).toNat : Nat) : Int) = T at *
  rcases Int.lt_trichotomy X Y with h | h | h
  · rw [if_pos h, if_pos (Int.mul_lt_mul_of_pos_right h h3)]
  · subst h
    rw [if_neg (by omega), if_pos rfl, if_neg (by omega), if_pos rfl]
  · have := Int.mul_lt_mul_of_pos_right h h3
    rw [if_neg (by omega), if_neg (by omega), if_neg (by omega), if_neg (by omega)]
theorem ccmp_l (a b : Int) (w : World) (h1 : a < b) : Calls Tryz.prog 97 #[.int .i64 a, .int .i64 b] w fun en w' => en = .returned (.int .i64 (-1)) ∧ Below w.heap.size w w' := by
  go_enter Tryz.func97, Tryz.ntmps97
  go_wp2_with fail
  refine (isnan_i a w).mono ?_
  rintro e2 v1 ⟨rfl, hw⟩
  obtain rfl := hw.symm
  clear hw
  go_wp2_with fail
  refine (isnan_i b w).mono ?_
  rintro e2 v1 ⟨rfl, hw⟩
  obtain rfl := hw.symm
  clear hw
  go_wp2_with fail
  go_ret
  exact ⟨rfl, Below.refl _ _⟩
theorem ccmp_g (a b : Int) (w : World) (h2 : b < a) : Calls Tryz.prog 97 #[.int .i64 a, .int .i64 b] w fun en w' => en = .returned (.int .i64 (1)) ∧ Below w.heap.size w w' := by
  have h1 : ¬ a < b := by omega
  go_enter Tryz.func97, Tryz.ntmps97
  go_wp2_with fail
  refine (isnan_i a w).mono ?_
  rintro e2 v1 ⟨rfl, hw⟩
  obtain rfl := hw.symm
  clear hw
  go_wp2_with fail
  refine (isnan_i b w).mono ?_
  rintro e2 v1 ⟨rfl, hw⟩
  obtain rfl := hw.symm
  clear hw
  go_wp2_with fail
  go_ret
  exact ⟨rfl, Below.refl _ _⟩
theorem ccmp_e (a b : Int) (w : World) (h1 : ¬ a < b) (h2 : ¬ b < a) : Calls Tryz.prog 97 #[.int .i64 a, .int .i64 b] w fun en w' => en = .returned (.int .i64 (0)) ∧ Below w.heap.size w w' := by
  go_enter Tryz.func97, Tryz.ntmps97
  go_wp2_with fail
  refine (isnan_i a w).mono ?_
  rintro e2 v1 ⟨rfl, hw⟩
  obtain rfl := hw.symm
  clear hw
  go_wp2_with fail
  refine (isnan_i b w).mono ?_
  rintro e2 v1 ⟨rfl, hw⟩
  obtain rfl := hw.symm
  clear hw
  go_wp2_with fail
  go_ret
  exact ⟨rfl, Below.refl _ _⟩
theorem ccmp (a b : Int) (w : World) : Calls Tryz.prog 97 #[.int .i64 a, .int .i64 b] w fun en w' => en = .returned (.int .i64 (cmpI a b)) ∧ Below w.heap.size w w' := by
  unfold cmpI
  rcases Int.lt_trichotomy a b with h | h | h
  · rw [if_pos h]; exact ccmp_l a b w h
  · rw [if_neg (by omega), if_pos h]; exact ccmp_e a b w (by omega) (by omega)
  · rw [if_neg (by omega), if_neg (by omega)]; exact ccmp_g a b w h
theorem dtop {p : Option Addr} {m c : Nat} {w : World} {z e : Int} {s : Bool} (h : ZN w s p m c z) (he : -1048576 ≤ e ∧ e ≤ 1048576) :
    Calls Tryz.prog 98 #[DV s p m c e] w fun en w' => en = .returned (.int .i64 (topI z e)) ∧ Below w.heap.size w w' := by
  have H : Hid (ZN w s p m c z) := h
  have hb := (lim_bits z.natAbs).1 h.lim
  have f1 : wrap64 (e + bitsN z.natAbs) = e + bitsN z.natAbs := by simp only [wrap64]; omega
  have f2 : wrap64 (e + bitsN z.natAbs - 1) = topI z e := by unfold topI; simp only [wrap64]; omega
  have f3 : IntKind.i64.wrap (e + bitsN z.natAbs) = e + bitsN z.natAbs := by simp [IntKind.wrap, IntKind.signed, IntKind.bits]; omega
  have f4 : IntKind.i64.wrap (e + bitsN z.natAbs - 1) = topI z e := by unfold topI; simp [IntKind.wrap, IntKind.signed, IntKind.bits]; omega
  clear h he hb
  go_enter Tryz.func98, Tryz.ntmps98
  go_wp2_with fail
  obtain ⟨W0, hW0⟩ : ∃ W0, W0 = (w.alloc (.cells #[.bool s, .slice p m c, .int .i64 e] 33)) := ⟨_, rfl⟩
  have Xd : Hid (B3q W0 (w.heap.size) (.bool s) (.slice p m c) (.int .i64 e)) := by rw [hW0]; exact ⟨by go_simp, by go_simp, by go_simp, by go_simp, by go_simp, by go_simp⟩
  have hb0 : Below w.heap.size w W0 := by rw [hW0]; exact below1 w _
  rw [← hW0]
  clear hW0
  have hbw : Below w.heap.size w w := Below.refl _ _
  obtain ⟨gd, hgd⟩ : ∃ g, g = w.heap.size := ⟨_, rfl⟩
  have HGd : Hid (w.heap.size ≤ gd) := by rw [hgd]; show _ ≤ _; omega
  rw [← hgd] at Xd
  try rw [← hgd]
  clear hgd
  replace hbw := Below.on hbw hb0
  clear hb0
  obtain ⟨W1, hW1⟩ : ∃ W1, W1 = W0.drew := ⟨_, rfl⟩
  have hbd : Below W0.heap.size W0 W1 := by rw [hW1]; exact bDrew1 (Below.refl _ _)
  replace Xd : Hid _ := Xd.out.below hbd
  replace hbw := Below.on hbw hbd
  clear hbd
  have HJ : Hid ((fun W' : World => W'.cell? ⟨gd, 1, none⟩ = some (.slice p m c) ∧ W'.cell? ⟨gd, 2, none⟩ = some (.int .i64 e)) W1) := ⟨Xd.out.c1, Xd.out.c2⟩
  refine wp_region_J (fun W' => W'.cell? ⟨gd, 1, none⟩ = some (.slice p m c) ∧ W'.cell? ⟨gd, 2, none⟩ = some (.int .i64 e)) (by kernel_rfl) ?_
  rw [← hW1]
  clear hW1
  refine wpJ_tq 0 rfl HJ.out ?_
  refine wpJ_tq 1 rfl HJ.out ?_
  refine wpJ_tq 2 rfl HJ.out ?_
  refine wpJ_tq 3 rfl HJ.out ?_
  refine wpJ_tq 4 rfl HJ.out ?_
  refine wpJ_on 5 rfl fun KJ hK => ?_
  go_simp
  obtain ⟨xs, hX⟩ := (H.out.below hbw).ex
  refine (bits_any hX.at_ (by have := hX.le; omega)).mono ?_
  rintro e2 v3 ⟨rfl, hw⟩
  obtain rfl := hw.symm
  clear hw
  rw [hX.nf.val]
  clear hX
  clear HJ
  have HJ : Hid ((fun W' : World => W'.cell? ⟨gd, 1, none⟩ = some (.slice p m c) ∧ W'.cell? ⟨gd, 2, none⟩ = some (.int .i64 e)) W1) := ⟨Xd.out.c1, Xd.out.c2⟩
  refine hK _ _ HJ.out ?_
  clear hK
  refine wpJ_tq 6 rfl HJ.out ?_
  refine wpJ_tq 7 rfl HJ.out ?_
  refine wpJ_tq 8 rfl HJ.out ?_
  refine wpJ_done (by kernel_rfl) ?_ _
  clear HJ
  go_wp2_with fail
  go_ret
  exact ⟨rfl, hbw⟩
theorem dcmp_d {p q : Option Addr} {m c n d : Nat} {w : World} {x y e f : Int} {s t : Bool} (h : DN w s p m c e x) (k : DN w t q n d f y) (hs : sgnI x ≠ sgnI y) :
    Calls Tryz.prog 58 #[DV s p m c e, DV t q n d f] w fun en w' => en = .returned (.tuple #[.int .i64 (cmpI (dv x e) (dv y f)), .int .i64 0]) ∧ Below w.heap.size w w' := by
  have H : Hid (DN w s p m c e x) := h
  have K : Hid (DN w t q n d f y) := k
  obtain ⟨r, hr⟩ : ∃ r, r = cmpI (dv x e) (dv y f) := ⟨_, rfl⟩
  rw [← hr]
  rw [← cmp_sgn (.inl hs)] at hr
  obtain ⟨sx, hsx⟩ : ∃ b, b = sgnI x := ⟨_, rfl⟩
  obtain ⟨sy, hsy⟩ : ∃ b, b = sgnI y := ⟨_, rfl⟩
  rw [← hsx, ← hsy] at hr hs
  have hd1 : (sx == sy) = false := by simp [hs]
  have hd2 : (sx != sy) = true := by simp [hs]
  have HX : Hid (sgnI x = sx ∧ sgnI y = sy ∧ cmpI sx sy = r) := ⟨hsx.symm, hsy.symm, hr.symm⟩
  clear h k hs hsx hsy hr
  go_enter Tryz.func58, Tryz.ntmps58
  go_wp2_with fail
  obtain ⟨W0, hW0⟩ : ∃ W0, W0 = ((w.alloc (.cells #[.bool s, .slice p m c, .int .i64 e] 33)).alloc (.cells #[.bool t, .slice q n d, .int .i64 f] 33)) := ⟨_, rfl⟩
  have Xa : Hid (B3q W0 (w.heap.size) (.bool s) (.slice p m c) (.int .i64 e)) := by rw [hW0]; exact ⟨by go_simp, by go_simp, by go_simp, by go_simp, by go_simp, by go_simp⟩
  have Xb : Hid (B3q W0 (w.heap.size + 1) (.bool t) (.slice q n d) (.int .i64 f)) := by rw [hW0]; exact ⟨by go_simp, by go_simp, by go_simp, by go_simp, by go_simp, by go_simp⟩
  have hb0 : Below w.heap.size w W0 := by rw [hW0]; exact below2 w _ _
  rw [← hW0]
  clear hW0
  have hbw : Below w.heap.size w w := Below.refl _ _
  obtain ⟨gb, hgb⟩ : ∃ g, g = w.heap.size + 1 := ⟨_, rfl⟩
  have HGb : Hid (w.heap.size ≤ gb) := by rw [hgb]; show _ ≤ _; omega
  rw [← hgb] at Xb
  try rw [← hgb]
  obtain ⟨ga, hga⟩ : ∃ g, g = w.heap.size := ⟨_, rfl⟩
  have HGa : Hid (w.heap.size ≤ ga) := by rw [hga]; show _ ≤ _; omega
  rw [← hga] at Xa
  try rw [← hga]
  have HGD : Hid (ga ≠ gb ∧ gb ≠ ga) := by rw [hga, hgb]; exact ⟨by omega, by omega⟩
  clear hga hgb
  replace hbw := Below.on hbw hb0
  clear hb0
  refine (dform_t (H.out.below hbw)).mono ?_
  rintro e v1 ⟨rfl, hb1⟩
  replace Xa : Hid _ := Xa.out.below hb1
  replace Xb : Hid _ := Xb.out.below hb1
  replace hbw := Below.on hbw hb1
  clear hb1
  obtain ⟨cb0, cb1, cb2, fb0, fb1, fb2⟩ := Xb.out
  have hneb : gb < v1.heap.size := World.block_lt_of_cell? v1 _ cb0
  go_wp2_with fail
  clear cb0 cb1 cb2 fb0 fb1 fb2 hneb
  refine (dform_t (K.out.below hbw)).mono ?_
  rintro e v2 ⟨rfl, hb2⟩
  replace Xa : Hid _ := Xa.out.below hb2
  replace Xb : Hid _ := Xb.out.below hb2
  replace hbw := Below.on hbw hb2
  clear hb2
  obtain ⟨ca0, ca1, ca2, fa0, fa1, fa2⟩ := Xa.out
  have hnea : ga < v2.heap.size := World.block_lt_of_cell? v2 _ ca0
  obtain ⟨cb0, cb1, cb2, fb0, fb1, fb2⟩ := Xb.out
  have hneb : gb < v2.heap.size := World.block_lt_of_cell? v2 _ cb0
  go_wp2_with fail
  clear ca0 ca1 ca2 fa0 fa1 fa2 hnea
  clear cb0 cb1 cb2 fb0 fb1 fb2 hneb
  refine (zsign (H.out.zn.below hbw)).mono ?_
  rintro e v3 ⟨rfl, hb3⟩
  rw [HX.out.1]
  replace Xa : Hid _ := Xa.out.below hb3
  replace Xb : Hid _ := Xb.out.below hb3
  replace hbw := Below.on hbw hb3
  clear hb3
  obtain ⟨cb0, cb1, cb2, fb0, fb1, fb2⟩ := Xb.out
  have hneb : gb < v3.heap.size := World.block_lt_of_cell? v3 _ cb0
  go_wp2_with fail
  clear cb0 cb1 cb2 fb0 fb1 fb2 hneb
  refine (zsign (K.out.zn.below hbw)).mono ?_
  rintro e v4 ⟨rfl, hb4⟩
  rw [HX.out.2.1]
  replace Xa : Hid _ := Xa.out.below hb4
  replace Xb : Hid _ := Xb.out.below hb4
  replace hbw := Below.on hbw hb4
  clear hb4
  obtain ⟨ca0, ca1, ca2, fa0, fa1, fa2⟩ := Xa.out
  have hnea : ga < v4.heap.size := World.block_lt_of_cell? v4 _ ca0
  obtain ⟨cb0, cb1, cb2, fb0, fb1, fb2⟩ := Xb.out
  have hneb : gb < v4.heap.size := World.block_lt_of_cell? v4 _ cb0
  go_wp2_with fail
  clear ca0 ca1 ca2 fa0 fa1 fa2 hnea
  clear cb0 cb1 cb2 fb0 fb1 fb2 hneb
  refine (ccmp _ _ _).mono ?_
  rintro e v5 ⟨rfl, hb5⟩
  rw [HX.out.2.2]
  replace Xa : Hid _ := Xa.out.below hb5
  replace Xb : Hid _ := Xb.out.below hb5
  replace hbw := Below.on hbw hb5
  clear hb5
  go_wp2_with fail
  go_ret2
  exact ⟨rfl, hbw⟩
theorem dcmp_z {p q : Option Addr} {m c n d : Nat} {w : World} {x y e f : Int} {s t : Bool} (h : DN w s p m c e x) (k : DN w t q n d f y) (hs : sgnI x = sgnI y) (hx : x = 0) :
    Calls Tryz.prog 58 #[DV s p m c e, DV t q n d f] w fun en w' => en = .returned (.tuple #[.int .i64 (cmpI (dv x e) (dv y f)), .int .i64 0]) ∧ Below w.heap.size w w' := by
  have H : Hid (DN w s p m c e x) := h
  have K : Hid (DN w t q n d f y) := k
  obtain ⟨r, hr⟩ : ∃ r, r = cmpI (dv x e) (dv y f) := ⟨_, rfl⟩
  rw [← hr]
  rw [← cmp_sgn (.inr (by rw [hx]; rfl))] at hr
  have HX : Hid (sgnI x = 0 ∧ sgnI y = 0 ∧ cmpI 0 0 = r) := by
    have h0 : sgnI x = 0 := by rw [hx]; rfl
    rw [h0] at hs hr
    exact ⟨h0, hs.symm, by rw [hr, ← hs]⟩
  clear h k hs hx hr
  go_enter Tryz.func58, Tryz.ntmps58
  go_wp2_with fail
  obtain ⟨W0, hW0⟩ : ∃ W0, W0 = ((w.alloc (.cells #[.bool s, .slice p m c, .int .i64 e] 33)).alloc (.cells #[.bool t, .slice q n d, .int .i64 f] 33)) := ⟨_, rfl⟩
  have Xa : Hid (B3q W0 (w.heap.size) (.bool s) (.slice p m c) (.int .i64 e)) := by rw [hW0]; exact ⟨by go_simp, by go_simp, by go_simp, by go_simp, by go_simp, by go_simp⟩
  have Xb : Hid (B3q W0 (w.heap.size + 1) (.bool t) (.slice q n d) (.int .i64 f)) := by rw [hW0]; exact ⟨by go_simp, by go_simp, by go_simp, by go_simp, by go_simp, by go_simp⟩
  have hb0 : Below w.heap.size w W0 := by rw [hW0]; exact below2 w _ _
  rw [← hW0]
  clear hW0
  have hbw : Below w.heap.size w w := Below.refl _ _
  obtain ⟨gb, hgb⟩ : ∃ g, g = w.heap.size + 1 := ⟨_, rfl⟩
  have HGb : Hid (w.heap.size ≤ gb) := by rw [hgb]; show _ ≤ _; omega
  rw [← hgb] at Xb
  try rw [← hgb]
  obtain ⟨ga, hga⟩ : ∃ g, g = w.heap.size := ⟨_, rfl⟩
  have HGa : Hid (w.heap.size ≤ ga) := by rw [hga]; show _ ≤ _; omega
  rw [← hga] at Xa
  try rw [← hga]
  have HGD : Hid (ga ≠ gb ∧ gb ≠ ga) := by rw [hga, hgb]; exact ⟨by omega, by omega⟩
  clear hga hgb
  replace hbw := Below.on hbw hb0
  clear hb0
  refine (dform_t (H.out.below hbw)).mono ?_
  rintro e v1 ⟨rfl, hb1⟩
  replace Xa : Hid _ := Xa.out.below hb1
  replace Xb : Hid _ := Xb.out.below hb1
  replace hbw := Below.on hbw hb1
  clear hb1
  obtain ⟨cb0, cb1, cb2, fb0, fb1, fb2⟩ := Xb.out
  have hneb : gb < v1.heap.size := World.block_lt_of_cell? v1 _ cb0
  go_wp2_with fail
  clear cb0 cb1 cb2 fb0 fb1 fb2 hneb
  refine (dform_t (K.out.below hbw)).mono ?_
  rintro e v2 ⟨rfl, hb2⟩
  replace Xa : Hid _ := Xa.out.below hb2
  replace Xb : Hid _ := Xb.out.below hb2
  replace hbw := Below.on hbw hb2
  clear hb2
  obtain ⟨ca0, ca1, ca2, fa0, fa1, fa2⟩ := Xa.out
  have hnea : ga < v2.heap.size := World.block_lt_of_cell? v2 _ ca0
  obtain ⟨cb0, cb1, cb2, fb0, fb1, fb2⟩ := Xb.out
  have hneb : gb < v2.heap.size := World.block_lt_of_cell? v2 _ cb0
  go_wp2_with fail
  clear ca0 ca1 ca2 fa0 fa1 fa2 hnea
  clear cb0 cb1 cb2 fb0 fb1 fb2 hneb
  refine (zsign (H.out.zn.below hbw)).mono ?_
  rintro e v3 ⟨rfl, hb3⟩
  rw [HX.out.1]
  replace Xa : Hid _ := Xa.out.below hb3
  replace Xb : Hid _ := Xb.out.below hb3
  replace hbw := Below.on hbw hb3
  clear hb3
  obtain ⟨cb0, cb1, cb2, fb0, fb1, fb2⟩ := Xb.out
  have hneb : gb < v3.heap.size := World.block_lt_of_cell? v3 _ cb0
  go_wp2_with fail
  clear cb0 cb1 cb2 fb0 fb1 fb2 hneb
  refine (zsign (K.out.zn.below hbw)).mono ?_
  rintro e v4 ⟨rfl, hb4⟩
  rw [HX.out.2.1]
  replace Xa : Hid _ := Xa.out.below hb4
  replace Xb : Hid _ := Xb.out.below hb4
  replace hbw := Below.on hbw hb4
  clear hb4
  obtain ⟨ca0, ca1, ca2, fa0, fa1, fa2⟩ := Xa.out
  have hnea : ga < v4.heap.size := World.block_lt_of_cell? v4 _ ca0
  obtain ⟨cb0, cb1, cb2, fb0, fb1, fb2⟩ := Xb.out
  have hneb : gb < v4.heap.size := World.block_lt_of_cell? v4 _ cb0
  go_wp2_with fail
  clear ca0 ca1 ca2 fa0 fa1 fa2 hnea
  clear cb0 cb1 cb2 fb0 fb1 fb2 hneb
  refine (ccmp _ _ _).mono ?_
  rintro e v5 ⟨rfl, hb5⟩
  rw [HX.out.2.2]
  replace Xa : Hid _ := Xa.out.below hb5
  replace Xb : Hid _ := Xb.out.below hb5
  replace hbw := Below.on hbw hb5
  clear hb5
  go_wp2_with fail
  go_ret2
  exact ⟨rfl, hbw⟩
theorem dcmp_t {p q : Option Addr} {m c n d : Nat} {w : World} {x y e f : Int} {s t : Bool} (h : DN w s p m c e x) (k : DN w t q n d f y) (hs : sgnI x = sgnI y) (hx : x ≠ 0) (ht : topI x e ≠ topI y f) :
    Calls Tryz.prog 58 #[DV s p m c e, DV t q n d f] w fun en w' => en = .returned (.tuple #[.int .i64 (cmpI (dv x e) (dv y f)), .int .i64 0]) ∧ Below w.heap.size w w' := by
  have H : Hid (DN w s p m c e x) := h
  have K : Hid (DN w t q n d f y) := k
  have hy : y ≠ 0 := by
    intro h0
    rw [h0] at hs
    unfold sgnI at hs
    rw [if_neg (show ¬ (0 : Int) < 0 by omega), if_pos rfl] at hs
    rcases Int.lt_or_lt_of_ne hx with h1 | h1
    · rw [if_pos h1] at hs; omega
    · rw [if_neg (by omega), if_neg (by omega)] at hs; omega
  have hE : -1048576 ≤ e ∧ e ≤ 1048576 ∧ -1048576 ≤ f ∧ f ≤ 1048576 := by
    rcases h.fm with ⟨h1, _⟩ | ⟨_, h1, h2⟩
    · exact absurd h1 hx
    · rcases k.fm with ⟨k1, _⟩ | ⟨_, k1, k2⟩
      · exact absurd k1 hy
      · exact ⟨h1, h2, k1, k2⟩
  have HE : Hid (-1048576 ≤ e ∧ e ≤ 1048576 ∧ -1048576 ≤ f ∧ f ≤ 1048576) := hE
  have hbx := (lim_bits x.natAbs).1 h.zn.lim
  have hby := (lim_bits y.natAbs).1 k.zn.lim
  obtain ⟨r, hr⟩ : ∃ r, r = cmpI (dv x e) (dv y f) := ⟨_, rfl⟩
  rw [← hr]
  obtain ⟨sx, hsx⟩ : ∃ b, b = sgnI x := ⟨_, rfl⟩
  have hv1 : sx = 1 ∨ sx = -1 := by
    rw [hsx]
    unfold sgnI
    rcases Int.lt_or_lt_of_ne hx with h1 | h1
    · rw [if_pos h1]; exact .inr rfl
    · rw [if_neg (by omega), if_neg (by omega)]; exact .inl rfl
  have hd0 : (sx == 0) = false := by rcases hv1 with h1 | h1 <;> rw [h1] <;> rfl
  have hd1 : (sx == sx) = true := by simp
  have hd2 : (sx != sx) = false := by simp
  rw [← cmp_top hx hs (by omega) (by omega) ht, ← hsx] at hr
  have HX : Hid (sgnI x = sx ∧ sgnI y = sx ∧ sx * cmpI (topI x e) (topI y f) = r ∧ (sx = 1 ∨ sx = -1)) := ⟨hsx.symm, by rw [← hs, hsx], hr.symm, hv1⟩
  obtain ⟨tx, htx⟩ : ∃ b, b = topI x e := ⟨_, rfl⟩
  obtain ⟨ty, hty⟩ : ∃ b, b = topI y f := ⟨_, rfl⟩
  rw [← htx, ← hty] at HX ht
  have hd3 : (tx == ty) = false := by simp [ht]
  have hd4 : (tx != ty) = true := by simp [ht]
  have HTX : Hid (topI x e = tx ∧ topI y f = ty) := ⟨htx.symm, hty.symm⟩
  have f1 : wrap64 (sx * cmpI tx ty) = r := by
    have h1 := HX.out.2.2.1
    rw [h1]
    have h2 : r = -1 ∨ r = 0 ∨ r = 1 := by
      rw [← h1]
      unfold cmpI
      rcases HX.out.2.2.2 with h3 | h3 <;> rw [h3] <;> split <;> (try split) <;> omega
    simp only [wrap64]; omega
  clear h k hs hx hy hE hsx hv1 hr ht htx hty hbx hby
  go_enter Tryz.func58, Tryz.ntmps58
  go_wp2_with fail
  obtain ⟨W0, hW0⟩ : ∃ W0, W0 = ((w.alloc (.cells #[.bool s, .slice p m c, .int .i64 e] 33)).alloc (.cells #[.bool t, .slice q n d, .int .i64 f] 33)) := ⟨_, rfl⟩
  have Xa : Hid (B3q W0 (w.heap.size) (.bool s) (.slice p m c) (.int .i64 e)) := by rw [hW0]; exact ⟨by go_simp, by go_simp, by go_simp, by go_simp, by go_simp, by go_simp⟩
  have Xb : Hid (B3q W0 (w.heap.size + 1) (.bool t) (.slice q n d) (.int .i64 f)) := by rw [hW0]; exact ⟨by go_simp, by go_simp, by go_simp, by go_simp, by go_simp, by go_simp⟩
  have hb0 : Below w.heap.size w W0 := by rw [hW0]; exact below2 w _ _
  rw [← hW0]
  clear hW0
  have hbw : Below w.heap.size w w := Below.refl _ _
  obtain ⟨gb, hgb⟩ : ∃ g, g = w.heap.size + 1 := ⟨_, rfl⟩
  have HGb : Hid (w.heap.size ≤ gb) := by rw [hgb]; show _ ≤ _; omega
  rw [← hgb] at Xb
  try rw [← hgb]
  obtain ⟨ga, hga⟩ : ∃ g, g = w.heap.size := ⟨_, rfl⟩
  have HGa : Hid (w.heap.size ≤ ga) := by rw [hga]; show _ ≤ _; omega
  rw [← hga] at Xa
  try rw [← hga]
  have HGD : Hid (ga ≠ gb ∧ gb ≠ ga) := by rw [hga, hgb]; exact ⟨by omega, by omega⟩
  clear hga hgb
  replace hbw := Below.on hbw hb0
  clear hb0
  refine (dform_t (H.out.below hbw)).mono ?_
  rintro e v1 ⟨rfl, hb1⟩
  replace Xa : Hid _ := Xa.out.below hb1
  replace Xb : Hid _ := Xb.out.below hb1
  replace hbw := Below.on hbw hb1
  clear hb1
  obtain ⟨cb0, cb1, cb2, fb0, fb1, fb2⟩ := Xb.out
  have hneb : gb < v1.heap.size := World.block_lt_of_cell? v1 _ cb0
  go_wp2_with fail
  clear cb0 cb1 cb2 fb0 fb1 fb2 hneb
  refine (dform_t (K.out.below hbw)).mono ?_
  rintro e v2 ⟨rfl, hb2⟩
  replace Xa : Hid _ := Xa.out.below hb2
  replace Xb : Hid _ := Xb.out.below hb2
  replace hbw := Below.on hbw hb2
  clear hb2
  obtain ⟨ca0, ca1, ca2, fa0, fa1, fa2⟩ := Xa.out
  have hnea : ga < v2.heap.size := World.block_lt_of_cell? v2 _ ca0
  obtain ⟨cb0, cb1, cb2, fb0, fb1, fb2⟩ := Xb.out
  have hneb : gb < v2.heap.size := World.block_lt_of_cell? v2 _ cb0
  go_wp2_with fail
  clear ca0 ca1 ca2 fa0 fa1 fa2 hnea
  clear cb0 cb1 cb2 fb0 fb1 fb2 hneb
  refine (zsign (H.out.zn.below hbw)).mono ?_
  rintro e v3 ⟨rfl, hb3⟩
  rw [HX.out.1]
  replace Xa : Hid _ := Xa.out.below hb3
  replace Xb : Hid _ := Xb.out.below hb3
  replace hbw := Below.on hbw hb3
  clear hb3
  obtain ⟨cb0, cb1, cb2, fb0, fb1, fb2⟩ := Xb.out
  have hneb : gb < v3.heap.size := World.block_lt_of_cell? v3 _ cb0
  go_wp2_with fail
  clear cb0 cb1 cb2 fb0 fb1 fb2 hneb
  refine (zsign (K.out.zn.below hbw)).mono ?_
  rintro e v4 ⟨rfl, hb4⟩
  rw [HX.out.2.1]
  replace Xa : Hid _ := Xa.out.below hb4
  replace Xb : Hid _ := Xb.out.below hb4
  replace hbw := Below.on hbw hb4
  clear hb4
  obtain ⟨ca0, ca1, ca2, fa0, fa1, fa2⟩ := Xa.out
  have hnea : ga < v4.heap.size := World.block_lt_of_cell? v4 _ ca0
  obtain ⟨cb0, cb1, cb2, fb0, fb1, fb2⟩ := Xb.out
  have hneb : gb < v4.heap.size := World.block_lt_of_cell? v4 _ cb0
  go_wp2_with fail
  clear ca0 ca1 ca2 fa0 fa1 fa2 hnea
  clear cb0 cb1 cb2 fb0 fb1 fb2 hneb
  obtain ⟨W1, hW1⟩ : ∃ W1, W1 = v4.drew := ⟨_, rfl⟩
  have hbd : Below v4.heap.size v4 W1 := by rw [hW1]; exact bDrew1 (Below.refl _ _)
  replace Xa : Hid _ := Xa.out.below hbd
  replace Xb : Hid _ := Xb.out.below hbd
  replace hbw := Below.on hbw hbd
  clear hbd
  have HJ : Hid ((fun W' : World => W'.cell? ⟨ga, 0, none⟩ = some (.bool s) ∧ W'.cell? ⟨ga, 1, none⟩ = some (.slice p m c) ∧ W'.cell? ⟨ga, 2, none⟩ = some (.int .i64 e) ∧ W'.cell? ⟨gb, 0, none⟩ = some (.bool t) ∧ W'.cell? ⟨gb, 1, none⟩ = some (.slice q n d) ∧ W'.cell? ⟨gb, 2, none⟩ = some (.int .i64 f)) W1) := ⟨Xa.out.c0, Xa.out.c1, Xa.out.c2, Xb.out.c0, Xb.out.c1, Xb.out.c2⟩
  refine wp_region_J (fun W' => W'.cell? ⟨ga, 0, none⟩ = some (.bool s) ∧ W'.cell? ⟨ga, 1, none⟩ = some (.slice p m c) ∧ W'.cell? ⟨ga, 2, none⟩ = some (.int .i64 e) ∧ W'.cell? ⟨gb, 0, none⟩ = some (.bool t) ∧ W'.cell? ⟨gb, 1, none⟩ = some (.slice q n d) ∧ W'.cell? ⟨gb, 2, none⟩ = some (.int .i64 f)) (by kernel_rfl) ?_
  rw [← hW1]
  clear hW1
  refine wpJ_tq 0 rfl HJ.out ?_
  refine wpJ_tq 2 rfl HJ.out ?_
  refine wpJ_on 1 rfl fun KJ hK => ?_
  go_simp
  refine (dtop (e := e) (H.out.zn.below hbw) (by have := HE.out; omega)).mono ?_
  rintro e v5 ⟨rfl, hb5⟩
  rw [HTX.out.1]
  replace Xa : Hid _ := Xa.out.below hb5
  replace Xb : Hid _ := Xb.out.below hb5
  replace hbw := Below.on hbw hb5
  clear hb5
  refine hK _ _ ⟨Xa.out.c0, Xa.out.c1, Xa.out.c2, Xb.out.c0, Xb.out.c1, Xb.out.c2⟩ ?_
  clear hK
  refine wpJ_on 3 rfl fun KJ hK => ?_
  go_simp
  refine (dtop (e := f) (K.out.zn.below hbw) (by have := HE.out; omega)).mono ?_
  rintro e v6 ⟨rfl, hb6⟩
  rw [HTX.out.2]
  replace Xa : Hid _ := Xa.out.below hb6
  replace Xb : Hid _ := Xb.out.below hb6
  replace hbw := Below.on hbw hb6
  clear hb6
  clear HJ
  have HJ : Hid ((fun W' : World => W'.cell? ⟨ga, 0, none⟩ = some (.bool s) ∧ W'.cell? ⟨ga, 1, none⟩ = some (.slice p m c) ∧ W'.cell? ⟨ga, 2, none⟩ = some (.int .i64 e) ∧ W'.cell? ⟨gb, 0, none⟩ = some (.bool t) ∧ W'.cell? ⟨gb, 1, none⟩ = some (.slice q n d) ∧ W'.cell? ⟨gb, 2, none⟩ = some (.int .i64 f)) v6) := ⟨Xa.out.c0, Xa.out.c1, Xa.out.c2, Xb.out.c0, Xb.out.c1, Xb.out.c2⟩
  refine hK _ _ HJ.out ?_
  clear hK
  refine wpJ_tq 4 rfl HJ.out ?_
  refine wpJ_tq 5 rfl HJ.out ?_
  refine wpJ_done (by kernel_rfl) ?_ _
  clear HJ
  obtain ⟨ca0, ca1, ca2, fa0, fa1, fa2⟩ := Xa.out
  have hnea : ga < v6.heap.size := World.block_lt_of_cell? v6 _ ca0
  obtain ⟨cb0, cb1, cb2, fb0, fb1, fb2⟩ := Xb.out
  have hneb : gb < v6.heap.size := World.block_lt_of_cell? v6 _ cb0
  go_wp2_with fail
  clear ca0 ca1 ca2 fa0 fa1 fa2 hnea
  clear cb0 cb1 cb2 fb0 fb1 fb2 hneb
  refine (ccmp _ _ _).mono ?_
  rintro e v7 ⟨rfl, hb7⟩
  replace Xa : Hid _ := Xa.out.below hb7
  replace Xb : Hid _ := Xb.out.below hb7
  replace hbw := Below.on hbw hb7
  clear hb7
  have F1 : Hid (wrap64 (sx * cmpI tx ty) = r) := f1
  clear f1
  go_wp2_with fail
  go_ret2
  refine ⟨?_, hbw⟩
  show Ending.returned (.tuple #[.int .i64 (wrap64 (sx * cmpI tx ty)), .int .i64 0]) = _
  rw [F1.out]
theorem dcmp_a {p q : Option Addr} {m c n d : Nat} {w : World} {x y e f : Int} {s t : Bool} (h : DN w s p m c e x) (k : DN w t q n d f y) (hs : sgnI x = sgnI y) (hx : x ≠ 0) (ht : topI x e = topI y f) :
    Calls Tryz.prog 58 #[DV s p m c e, DV t q n d f] w fun en w' => en = .returned (.tuple #[.int .i64 (cmpI (dv x e) (dv y f)), .int .i64 0]) ∧ Below w.heap.size w w' := by
  have H : Hid (DN w s p m c e x) := h
  have K : Hid (DN w t q n d f y) := k
  have hy : y ≠ 0 := by
    intro h0
    rw [h0] at hs
    unfold sgnI at hs
    rw [if_neg (show ¬ (0 : Int) < 0 by omega), if_pos rfl] at hs
    rcases Int.lt_or_lt_of_ne hx with h1 | h1
    · rw [if_pos h1] at hs; omega
    · rw [if_neg (by omega), if_neg (by omega)] at hs; omega
  have hE : -1048576 ≤ e ∧ e ≤ 1048576 ∧ -1048576 ≤ f ∧ f ≤ 1048576 := by
    rcases h.fm with ⟨h1, _⟩ | ⟨_, h1, h2⟩
    · exact absurd h1 hx
    · rcases k.fm with ⟨k1, _⟩ | ⟨_, k1, k2⟩
      · exact absurd k1 hy
      · exact ⟨h1, h2, k1, k2⟩
  have HE : Hid (-1048576 ≤ e ∧ e ≤ 1048576 ∧ -1048576 ≤ f ∧ f ≤ 1048576) := hE
  have hbx := (lim_bits x.natAbs).1 h.zn.lim
  have hby := (lim_bits y.natAbs).1 k.zn.lim
  obtain ⟨r, hr⟩ : ∃ r, r = cmpI (dv x e) (dv y f) := ⟨_, rfl⟩
  rw [← hr]
  obtain ⟨sx, hsx⟩ : ∃ b, b = sgnI x := ⟨_, rfl⟩
  have hv1 : sx = 1 ∨ sx = -1 := by
    rw [hsx]
    unfold sgnI
    rcases Int.lt_or_lt_of_ne hx with h1 | h1
    · rw [if_pos h1]; exact .inr rfl
    · rw [if_neg (by omega), if_neg (by omega)]; exact .inl rfl
  have hd0 : (sx == 0) = false := by rcases hv1 with h1 | h1 <;> rw [h1] <;> rfl
  have hd1 : (sx == sx) = true := by simp
  have hd2 : (sx != sx) = false := by simp
  obtain ⟨g, hg⟩ : ∃ g, g = min e f := ⟨_, rfl⟩
  rw [← cmp_same (g := g) (by omega) (by omega) (by omega)] at hr
  have HX : Hid (sgnI x = sx ∧ sgnI y = sx ∧ cmpI (x * 2 ^ (e - g).toNat) (y * 2 ^ (f - g).toNat) = r) := ⟨hsx.symm, by rw [← hs, hsx], hr.symm⟩
  obtain ⟨tx, htx⟩ : ∃ b, b = topI x e := ⟨_, rfl⟩
  have HTX : Hid (topI x e = tx ∧ topI y f = tx) := ⟨htx.symm, by rw [← ht, htx]⟩
  have hd3 : (tx == tx) = true := by simp
  have hd4 : (tx != tx) = false := by simp
  have HG : Hid (g = min e f) := hg
  have hb : ∀ (u v : Int) (k2 : Nat), u ≠ 0 → bitsN u.natAbs + k2 ≤ 524288 → (u * 2 ^ k2).natAbs < LIM := by
    intro u v k2 h0 h1
    rw [Int.natAbs_mul, pow_cast, Int.natAbs_natCast, lim_bits, Nat.mul_comm, bitsN_shl _ _ (by omega)]
    omega
  have HB : Hid ((x * 2 ^ (e - g).toNat).natAbs < LIM ∧ (y * 2 ^ (f - g).toNat).natAbs < LIM) := by
    unfold topI at ht
    exact ⟨hb x x _ hx (by omega), hb y y _ hy (by omega)⟩
  clear h k hs hx hy hE hsx hv1 hr ht htx hbx hby hg hb
  go_enter Tryz.func58, Tryz.ntmps58
  go_wp2_with fail
  obtain ⟨W0, hW0⟩ : ∃ W0, W0 = ((w.alloc (.cells #[.bool s, .slice p m c, .int .i64 e] 33)).alloc (.cells #[.bool t, .slice q n d, .int .i64 f] 33)) := ⟨_, rfl⟩
  have Xa : Hid (B3q W0 (w.heap.size) (.bool s) (.slice p m c) (.int .i64 e)) := by rw [hW0]; exact ⟨by go_simp, by go_simp, by go_simp, by go_simp, by go_simp, by go_simp⟩
  have Xb : Hid (B3q W0 (w.heap.size + 1) (.bool t) (.slice q n d) (.int .i64 f)) := by rw [hW0]; exact ⟨by go_simp, by go_simp, by go_simp, by go_simp, by go_simp, by go_simp⟩
  have hb0 : Below w.heap.size w W0 := by rw [hW0]; exact below2 w _ _
  rw [← hW0]
  clear hW0
  have hbw : Below w.heap.size w w := Below.refl _ _
  obtain ⟨gb, hgb⟩ : ∃ g, g = w.heap.size + 1 := ⟨_, rfl⟩
  have HGb : Hid (w.heap.size ≤ gb) := by rw [hgb]; show _ ≤ _; omega
  rw [← hgb] at Xb
  try rw [← hgb]
  obtain ⟨ga, hga⟩ : ∃ g, g = w.heap.size := ⟨_, rfl⟩
  have HGa : Hid (w.heap.size ≤ ga) := by rw [hga]; show _ ≤ _; omega
  rw [← hga] at Xa
  try rw [← hga]
  have HGD : Hid (ga ≠ gb ∧ gb ≠ ga) := by rw [hga, hgb]; exact ⟨by omega, by omega⟩
  clear hga hgb
  replace hbw := Below.on hbw hb0
  clear hb0
  refine (dform_t (H.out.below hbw)).mono ?_
  rintro e v1 ⟨rfl, hb1⟩
  replace Xa : Hid _ := Xa.out.below hb1
  replace Xb : Hid _ := Xb.out.below hb1
  replace hbw := Below.on hbw hb1
  clear hb1
  obtain ⟨cb0, cb1, cb2, fb0, fb1, fb2⟩ := Xb.out
  have hneb : gb < v1.heap.size := World.block_lt_of_cell? v1 _ cb0
  go_wp2_with fail
  clear cb0 cb1 cb2 fb0 fb1 fb2 hneb
  refine (dform_t (K.out.below hbw)).mono ?_
  rintro e v2 ⟨rfl, hb2⟩
  replace Xa : Hid _ := Xa.out.below hb2
  replace Xb : Hid _ := Xb.out.below hb2
  replace hbw := Below.on hbw hb2
  clear hb2
  obtain ⟨ca0, ca1, ca2, fa0, fa1, fa2⟩ := Xa.out
  have hnea : ga < v2.heap.size := World.block_lt_of_cell? v2 _ ca0
  obtain ⟨cb0, cb1, cb2, fb0, fb1, fb2⟩ := Xb.out
  have hneb : gb < v2.heap.size := World.block_lt_of_cell? v2 _ cb0
  go_wp2_with fail
  clear ca0 ca1 ca2 fa0 fa1 fa2 hnea
  clear cb0 cb1 cb2 fb0 fb1 fb2 hneb
  refine (zsign (H.out.zn.below hbw)).mono ?_
  rintro e v3 ⟨rfl, hb3⟩
  rw [HX.out.1]
  replace Xa : Hid _ := Xa.out.below hb3
  replace Xb : Hid _ := Xb.out.below hb3
  replace hbw := Below.on hbw hb3
  clear hb3
  obtain ⟨cb0, cb1, cb2, fb0, fb1, fb2⟩ := Xb.out
  have hneb : gb < v3.heap.size := World.block_lt_of_cell? v3 _ cb0
  go_wp2_with fail
  clear cb0 cb1 cb2 fb0 fb1 fb2 hneb
  refine (zsign (K.out.zn.below hbw)).mono ?_
  rintro e v4 ⟨rfl, hb4⟩
  rw [HX.out.2.1]
  replace Xa : Hid _ := Xa.out.below hb4
  replace Xb : Hid _ := Xb.out.below hb4
  replace hbw := Below.on hbw hb4
  clear hb4
  obtain ⟨ca0, ca1, ca2, fa0, fa1, fa2⟩ := Xa.out
  have hnea : ga < v4.heap.size := World.block_lt_of_cell? v4 _ ca0
  obtain ⟨cb0, cb1, cb2, fb0, fb1, fb2⟩ := Xb.out
  have hneb : gb < v4.heap.size := World.block_lt_of_cell? v4 _ cb0
  go_wp2_with fail
  clear ca0 ca1 ca2 fa0 fa1 fa2 hnea
  clear cb0 cb1 cb2 fb0 fb1 fb2 hneb
  obtain ⟨W1, hW1⟩ : ∃ W1, W1 = v4.drew := ⟨_, rfl⟩
  have hbd : Below v4.heap.size v4 W1 := by rw [hW1]; exact bDrew1 (Below.refl _ _)
  replace Xa : Hid _ := Xa.out.below hbd
  replace Xb : Hid _ := Xb.out.below hbd
  replace hbw := Below.on hbw hbd
  clear hbd
  have HJ : Hid ((fun W' : World => W'.cell? ⟨ga, 0, none⟩ = some (.bool s) ∧ W'.cell? ⟨ga, 1, none⟩ = some (.slice p m c) ∧ W'.cell? ⟨ga, 2, none⟩ = some (.int .i64 e) ∧ W'.cell? ⟨gb, 0, none⟩ = some (.bool t) ∧ W'.cell? ⟨gb, 1, none⟩ = some (.slice q n d) ∧ W'.cell? ⟨gb, 2, none⟩ = some (.int .i64 f)) W1) := ⟨Xa.out.c0, Xa.out.c1, Xa.out.c2, Xb.out.c0, Xb.out.c1, Xb.out.c2⟩
  refine wp_region_J (fun W' => W'.cell? ⟨ga, 0, none⟩ = some (.bool s) ∧ W'.cell? ⟨ga, 1, none⟩ = some (.slice p m c) ∧ W'.cell? ⟨ga, 2, none⟩ = some (.int .i64 e) ∧ W'.cell? ⟨gb, 0, none⟩ = some (.bool t) ∧ W'.cell? ⟨gb, 1, none⟩ = some (.slice q n d) ∧ W'.cell? ⟨gb, 2, none⟩ = some (.int .i64 f)) (by kernel_rfl) ?_
  rw [← hW1]
  clear hW1
  refine wpJ_tq 0 rfl HJ.out ?_
  refine wpJ_tq 2 rfl HJ.out ?_
  refine wpJ_on 1 rfl fun KJ hK => ?_
  go_simp
  refine (dtop (e := e) (H.out.zn.below hbw) (by have := HE.out; omega)).mono ?_
  rintro e v5 ⟨rfl, hb5⟩
  rw [HTX.out.1]
  replace Xa : Hid _ := Xa.out.below hb5
  replace Xb : Hid _ := Xb.out.below hb5
  replace hbw := Below.on hbw hb5
  clear hb5
  refine hK _ _ ⟨Xa.out.c0, Xa.out.c1, Xa.out.c2, Xb.out.c0, Xb.out.c1, Xb.out.c2⟩ ?_
  clear hK
  refine wpJ_on 3 rfl fun KJ hK => ?_
  go_simp
  refine (dtop (e := f) (K.out.zn.below hbw) (by have := HE.out; omega)).mono ?_
  rintro e v6 ⟨rfl, hb6⟩
  rw [HTX.out.2]
  replace Xa : Hid _ := Xa.out.below hb6
  replace Xb : Hid _ := Xb.out.below hb6
  replace hbw := Below.on hbw hb6
  clear hb6
  clear HJ
  have HJ : Hid ((fun W' : World => W'.cell? ⟨ga, 0, none⟩ = some (.bool s) ∧ W'.cell? ⟨ga, 1, none⟩ = some (.slice p m c) ∧ W'.cell? ⟨ga, 2, none⟩ = some (.int .i64 e) ∧ W'.cell? ⟨gb, 0, none⟩ = some (.bool t) ∧ W'.cell? ⟨gb, 1, none⟩ = some (.slice q n d) ∧ W'.cell? ⟨gb, 2, none⟩ = some (.int .i64 f)) v6) := ⟨Xa.out.c0, Xa.out.c1, Xa.out.c2, Xb.out.c0, Xb.out.c1, Xb.out.c2⟩
  refine hK _ _ HJ.out ?_
  clear hK
  refine wpJ_tq 4 rfl HJ.out ?_
  refine wpJ_tq 5 rfl HJ.out ?_
  refine wpJ_done (by kernel_rfl) ?_ _
  clear HJ
  obtain ⟨ca0, ca1, ca2, fa0, fa1, fa2⟩ := Xa.out
  have hnea : ga < v6.heap.size := World.block_lt_of_cell? v6 _ ca0
  obtain ⟨cb0, cb1, cb2, fb0, fb1, fb2⟩ := Xb.out
  have hneb : gb < v6.heap.size := World.block_lt_of_cell? v6 _ cb0
  go_wp2_with fail
  clear ca0 ca1 ca2 fa0 fa1 fa2 hnea
  clear cb0 cb1 cb2 fb0 fb1 fb2 hneb
  refine (daligned (H.out.zn.below hbw) (K.out.zn.below hbw) HG.out HE.out HB.out.1 HB.out.2).mono ?_
  rintro e2 v8 ⟨s5, p5, m5, s6, p6, m6, rfl, hz5, hz6, hb5⟩
  replace Xa : Hid _ := Xa.out.below hb5
  replace Xb : Hid _ := Xb.out.below hb5
  replace hbw := Below.on hbw hb5
  clear hb5
  have Z5 : Hid (ZN v8 s5 p5 m5 m5 (x * 2 ^ (e - g).toNat)) := hz5
  have Z6 : Hid (ZN v8 s6 p6 m6 m6 (y * 2 ^ (f - g).toNat)) := hz6
  clear hz5 hz6
  go_wp2_with fail
  rw [show v8.heap.size + 1 = (v8.alloc (.cells #[.bool s5, .slice p5 m5 m5] 31)).heap.size from by simp]
  have Xx0 : Hid (Box (v8.alloc (.cells #[.bool s5, .slice p5 m5 m5] 31)) v8.heap.size (.bool s5) (.slice p5 m5 m5)) := Box.new v8 _ _ _
  have hbn : Below v8.heap.size v8 (v8.alloc (.cells #[.bool s5, .slice p5 m5 m5] 31)) := below1 v8 _
  generalize v8.alloc (.cells #[.bool s5, .slice p5 m5 m5] 31) = Wx at *
  have HGx : Hid (w.heap.size ≤ v8.heap.size) := hbw.size
  replace Xa : Hid _ := Xa.out.below hbn
  replace Xb : Hid _ := Xb.out.below hbn
  replace Z5 : Hid _ := Z5.out.below hbn
  replace Z6 : Hid _ := Z6.out.below hbn
  replace hbw := Below.on hbw hbn
  clear hbn
  generalize v8.heap.size = gx at *
  have Xx := Xx0
  clear Xx0
  have Xy0 : Hid (Box (Wx.alloc (.cells #[.bool s6, .slice p6 m6 m6] 31)) Wx.heap.size (.bool s6) (.slice p6 m6 m6)) := Box.new Wx _ _ _
  have hbn : Below Wx.heap.size Wx (Wx.alloc (.cells #[.bool s6, .slice p6 m6 m6] 31)) := below1 Wx _
  generalize Wx.alloc (.cells #[.bool s6, .slice p6 m6 m6] 31) = Wy at *
  have HGy : Hid (w.heap.size ≤ Wx.heap.size) := hbw.size
  replace Xa : Hid _ := Xa.out.below hbn
  replace Xb : Hid _ := Xb.out.below hbn
  replace Xx : Hid _ := Xx.out.below hbn
  replace Z5 : Hid _ := Z5.out.below hbn
  replace Z6 : Hid _ := Z6.out.below hbn
  replace hbw := Below.on hbw hbn
  clear hbn
  generalize Wx.heap.size = gy at *
  have Xy := Xy0
  clear Xy0
  refine (zcmp Z5.out Z6.out).mono ?_
  rintro e v9 ⟨rfl, hb9⟩
  rw [HX.out.2.2]
  replace Xa : Hid _ := Xa.out.below hb9
  replace Xb : Hid _ := Xb.out.below hb9
  replace Xx : Hid _ := Xx.out.below hb9
  replace Xy : Hid _ := Xy.out.below hb9
  replace Z5 : Hid _ := Z5.out.below hb9
  replace Z6 : Hid _ := Z6.out.below hb9
  replace hbw := Below.on hbw hb9
  clear hb9
  go_wp2_with fail
  go_ret2
  exact ⟨rfl, hbw⟩
theorem dcmp {p q : Option Addr} {m c n d : Nat} {w : World} {x y e f : Int} {s t : Bool} (h : DN w s p m c e x) (k : DN w t q n d f y) :
    Calls Tryz.prog 58 #[DV s p m c e, DV t q n d f] w fun en w' => en = .returned (.tuple #[.int .i64 (cmpI (dv x e) (dv y f)), .int .i64 0]) ∧ Below w.heap.size w w' := by
  by_cases hs : sgnI x = sgnI y
  · by_cases hx : x = 0
    · exact dcmp_z h k hs hx
    · by_cases ht : topI x e = topI y f
      · exact dcmp_a h k hs hx ht
      · exact dcmp_t h k hs hx ht
  · exact dcmp_d h k hs
end Go.Proofs.YtfmbifocgljieaaGreatDoor
namespace Go.Proofs.YtfmbifocgljieaaGreatDoor
open Go.RowKit
set_option maxRecDepth 20000
set_option maxHeartbeats 0
def vs (H s : Nat) : Nat := (s - (s / H - 1) * H) * 2 ^ (s / H - 1)
theorem vs_zero (H : Nat) : vs H 0 = 0 := by unfold vs; simp
theorem vs_succ {H : Nat} (hH : 0 < H) (s : Nat) : vs H s < vs H (s + 1) := by
  have h1 := Nat.div_add_mod s H
  have h2 := Nat.mod_lt s hH
  have h3 := Nat.div_add_mod (s + 1) H
  have h4 := Nat.mod_lt (s + 1) hH
  have h5 : s / H ≤ (s + 1) / H := Nat.div_le_div_right (by omega)
  have h6 : (s + 1) / H ≤ s / H + 1 := by
    have : (s + 1) / H ≤ (s + H) / H := Nat.div_le_div_right (by omega)
    rw [Nat.add_div_right _ hH] at this
    exact this
  unfold vs
  by_cases h7 : (s + 1) / H = s / H
  · rw [h7]
    have hq : (s / H - 1) * H ≤ s := by
      rw [Nat.sub_mul, Nat.mul_comm]; omega
    have hp : 0 < 2 ^ (s / H - 1) := Nat.pow_pos (by omega)
    exact Nat.mul_lt_mul_of_pos_right (by omega) hp
  · have h8 : (s + 1) / H = s / H + 1 := by omega
    rw [h8, Nat.add_sub_cancel]
    rw [h8, Nat.mul_add, Nat.mul_one] at h3
    obtain ⟨k, hk⟩ : ∃ k, k = s / H := ⟨_, rfl⟩
    rw [← hk] at h1 h3 ⊢
    obtain ⟨y, hy⟩ : ∃ y, y = H * k := ⟨_, rfl⟩
    rw [← hy] at h1 h3
    rw [Nat.mul_comm k H, ← hy]
    by_cases h9 : k = 0
    · subst h9
      have : y = 0 := by rw [hy]; simp
      simp
      omega
    · obtain ⟨j, rfl⟩ : ∃ j, k = j + 1 := ⟨k - 1, by omega⟩
      rw [Nat.add_sub_cancel, Nat.pow_succ]
      have hj : j * H + H = y := by rw [hy, Nat.mul_comm H, Nat.add_mul, Nat.one_mul]
      have hp : 0 < 2 ^ j := Nat.pow_pos (by omega)
      have e1 : s + 1 - y = H := by omega
      rw [e1, Nat.mul_comm (2 ^ j) 2, ← Nat.mul_assoc]
      exact Nat.mul_lt_mul_of_pos_right (by omega) hp
theorem vs_mono {H : Nat} (hH : 0 < H) {s t : Nat} (h : s < t) : vs H s < vs H t := by
  induction t with
  | zero => omega
  | succ t ih =>
    rcases Nat.lt_or_ge s t with h1 | h1
    · exact Nat.lt_trans (ih h1) (vs_succ hH t)
    · rw [show s = t by omega]; exact vs_succ hH t
def gR (H : Nat) (r : Int) : Int := if r < 0 then -(vs H r.natAbs : Int) else (vs H r.natAbs : Int)
def rkS (S b : Nat) : Int := if S ≤ b then -((b % S : Nat) : Int) else ((b % S : Nat) : Int)
def svS (S H b : Nat) : Int := gR H (rkS S b)
theorem svS_eq (S H b : Nat) : svS S H b = if S ≤ b then -(vs H (b % S) : Int) else (vs H (b % S) : Int) := by
  have hz := vs_zero H
  unfold svS gR rkS
  by_cases h : S ≤ b
  · rw [if_pos h, if_pos h]
    by_cases h0 : b % S = 0
    · rw [h0, hz]; simp [hz]
    · rw [if_pos (by omega), Int.natAbs_neg, Int.natAbs_natCast]
  · rw [if_neg h, if_neg h, if_neg (by omega), Int.natAbs_natCast]
end Go.Proofs.YtfmbifocgljieaaGreatDoor
namespace Go.Proofs.YtfmbifocgljieaaGreatDoor
open Go.RowKit Go.Shelf
set_option maxRecDepth 20000
set_option maxHeartbeats 0
structure VF (S H : Nat) (l : Int) (b : Nat) (zo eo : Int) : Prop where
  fm : DFm zo eo
  v : dv zo eo = dv (svS S H b) l
def qTzIs (v k : Nat) : Prop := v % 2 ^ k = 0 ∧ v / 2 ^ k % 2 = 1
theorem qTzIs.inj {v k l : Nat} (h : qTzIs v k) (h' : qTzIs v l) : k = l := by
  have aux : ∀ {a b : Nat}, qTzIs v a → qTzIs v b → ¬ a < b := by
    intro a b ha hb hab
    obtain ⟨d, hd⟩ : ∃ d, b = a + (d + 1) := ⟨b - a - 1, by omega⟩
    have h1 := Nat.dvd_of_mod_eq_zero hb.1
    obtain ⟨q, hq⟩ := h1
    have h2 := ha.2
    rw [hq, hd, Nat.pow_add, Nat.mul_assoc, Nat.mul_div_cancel_left _ (Nat.pow_pos (by decide)), Nat.pow_succ, Nat.mul_comm (2 ^ d) 2, Nat.mul_assoc, Nat.mul_mod_right] at h2
    exact absurd h2 (by decide)
  rcases Nat.lt_trichotomy k l with e | e | e
  · exact absurd e (aux h h')
  · exact e
  · exact absurd e (aux h' h)
def qTab (w : World) : Prop := TabAt 2 Lib.deBruijn64tab w
theorem qTab.below {w w' : World} (h : qTab w) (hb : Below w.heap.size w w') : qTab w' := by
  intro j hj
  have h1 := h j hj
  have hl : 2 < w.heap.size := World.block_lt_of_cell? w _ h1
  exact (hb.cell (p := ⟨2, j, none⟩) hl).trans h1
def wV (z : Nat) : Nat :=
  if z = 0 then 0 else
  (872 + (z / 8388608 - 1) + bl_bitsN (z - (z / 8388608 - 1) * 8388608)) * 4503599627370496 + (z - (z / 8388608 - 1) * 8388608) * 2 ^ (53 - bl_bitsN (z - (z / 8388608 - 1) * 8388608))
structure Jm (f p m l : Int) (S I H sd : Nat) (Be : Int) : Prop where
  pm : Pm f p m l S I H
  be : ∀ w, Calls Tryz.prog 47 #[WV p m l] w fun e w' => e = .returned (.int .i64 Be) ∧ Below w.heap.size w w'
  un : ∀ (top : Int) w, -1000000000000 ≤ top → top ≤ 5000 → Calls Tryz.prog 48 #[WV p m l, .int .i64 top] w fun e w' => e = .returned (.int .i64 (max (top - sd) l)) ∧ Below w.heap.size w w'
  sz : ∀ (man q : Nat) (u : Int) w, u = l + q → q < 2046 → (q : Int) < Be - l - sd → man ≤ 2 * H → Calls Tryz.prog 49 #[WV p m l, U man, .int .i64 u] w fun e w' => e = .returned (U (q * H + man)) ∧ Below w.heap.size w w'
  hs : H = 2 ^ sd
  sl : 1 ≤ sd ∧ sd ≤ 52
  bq : ∀ s, s < I → ((s / H - 1 : Nat) : Int) ≤ Be - l - sd - 1
  bu : Be ≤ 1024 ∧ 0 < Be
theorem jm_32 : Jm 32 32 24 (-149) 2147483648 2139095040 8388608 23 128 :=
  ⟨pm_32, beyond_32, fun top w h1 h2 => unitg_32 top h1 h2 w, fun man q u w h1 _ h3 h2 => size_32 man q u (by omega) (by omega) h2 w, by decide, by decide, fun s hs => by omega, by decide⟩
theorem jm_64 : Jm 64 64 53 (-1074) 9223372036854775808 9218868437227405312 4503599627370496 52 1024 :=
  ⟨pm_64, beyond_64, fun top w h1 h2 => unitg_64 top h1 h2 w, fun man q u w h1 _ _ h2 => size_64 man q u (by omega) (by omega) h2 w, by decide, by decide, fun s hs => by omega, by decide⟩
structure B5 (W : World) (g : Nat) (v0 v1 v2 v3 v4 : Value) : Prop where
  c0 : W.cell? ⟨g, 0, none⟩ = some v0
  c1 : W.cell? ⟨g, 1, none⟩ = some v1
  c2 : W.cell? ⟨g, 2, none⟩ = some v2
  c3 : W.cell? ⟨g, 3, none⟩ = some v3
  c4 : W.cell? ⟨g, 4, none⟩ = some v4
  f0 : W.frozen? ⟨g, 0, none⟩ = false
  f1 : W.frozen? ⟨g, 1, none⟩ = false
  f2 : W.frozen? ⟨g, 2, none⟩ = false
  f3 : W.frozen? ⟨g, 3, none⟩ = false
  f4 : W.frozen? ⟨g, 4, none⟩ = false
theorem B5.below {W W' : World} {g : Nat} {v0 v1 v2 v3 v4 : Value} (h : B5 W g v0 v1 v2 v3 v4) (hb : Below W.heap.size W W') : B5 W' g v0 v1 v2 v3 v4 := by
  have hl : g < W.heap.size := World.block_lt_of_cell? W _ h.c0
  exact ⟨(hb.cell (p := ⟨g, 0, none⟩) hl).trans h.c0, (hb.cell (p := ⟨g, 1, none⟩) hl).trans h.c1, (hb.cell (p := ⟨g, 2, none⟩) hl).trans h.c2, (hb.cell (p := ⟨g, 3, none⟩) hl).trans h.c3, (hb.cell (p := ⟨g, 4, none⟩) hl).trans h.c4,
    (hb.frozen (p := ⟨g, 0, none⟩) hl).trans h.f0, (hb.frozen (p := ⟨g, 1, none⟩) hl).trans h.f1, (hb.frozen (p := ⟨g, 2, none⟩) hl).trans h.f2, (hb.frozen (p := ⟨g, 3, none⟩) hl).trans h.f3, (hb.frozen (p := ⟨g, 4, none⟩) hl).trans h.f4⟩
theorem B5.new (w : World) (ty : TypeId) (v0 v1 v2 v3 v4 : Value) : B5 (w.alloc (.cells #[v0, v1, v2, v3, v4] ty)) w.heap.size v0 v1 v2 v3 v4 :=
  ⟨by go_simp, by go_simp, by go_simp, by go_simp, by go_simp, by go_simp, by go_simp, by go_simp, by go_simp, by go_simp⟩
theorem DocIs.inj {v : Nat} {us us' : List Nat} {f f' : Int} (h : DocIs v us f) (k : DocIs v us' f') : us = us' ∧ f = f' := by
  rcases h with ⟨h1, h2, rfl⟩ | ⟨h1, rfl, rfl⟩ <;> rcases k with ⟨k1, k2, rfl⟩ | ⟨k1, rfl, rfl⟩
  · exact ⟨h2.inj B64_one k2, rfl⟩
  · omega
  · omega
  · exact ⟨rfl, rfl⟩
theorem DocIs.er {v : Nat} {us : List Nat} {f : Int} (h : DocIs v us f) : f = 0 ∨ f = 5 := by
  rcases h with ⟨_, _, rfl⟩ | ⟨_, _, rfl⟩ <;> simp
structure Op7 where
  k : Int
  f : Int
  b : Nat
  neg : Bool
  n : Int
structure Scr7 (w : World) (P : Option Addr) (N C : Nat) (its : List Op7) : Prop where
  len : its.length = N
  cap : N ≤ C
  big : C ≤ maxLen
  ats : ∀ t ∈ its, t.b < B64 ∧ -9223372036854775808 ≤ t.n ∧ t.n ≤ 9223372036854775807
  cells : N = 0 ∨ ∃ g off, P = some ⟨g, off, none⟩ ∧ ∀ i (h : i < its.length), w.cell? ⟨g, off + i * 5, none⟩ = some (.int .i64 its[i].k) ∧ w.cell? ⟨g, off + i * 5 + 1, none⟩ = some (.int .i64 its[i].f) ∧
    w.cell? ⟨g, off + i * 5 + 2, none⟩ = some (U its[i].b) ∧ w.cell? ⟨g, off + i * 5 + 3, none⟩ = some (.bool its[i].neg) ∧ w.cell? ⟨g, off + i * 5 + 4, none⟩ = some (.int .i64 its[i].n)
theorem Scr7.below {w w' : World} {P : Option Addr} {N C : Nat} {its : List Op7} (h : Scr7 w P N C its) (hb : Below w.heap.size w w') : Scr7 w' P N C its := by
  refine ⟨h.len, h.cap, h.big, h.ats, ?_⟩
  rcases h.cells with h0 | ⟨g, off, hP, hc⟩
  · exact .inl h0
  · refine .inr ⟨g, off, hP, fun i hi => ?_⟩
    obtain ⟨h0, h1, h2, h3, h4⟩ := hc i hi
    have hl : g < w.heap.size := World.block_lt_of_cell? w _ h0
    exact ⟨(hb.cell (p := ⟨g, off + i * 5, none⟩) hl).trans h0, (hb.cell (p := ⟨g, off + i * 5 + 1, none⟩) hl).trans h1, (hb.cell (p := ⟨g, off + i * 5 + 2, none⟩) hl).trans h2,
      (hb.cell (p := ⟨g, off + i * 5 + 3, none⟩) hl).trans h3, (hb.cell (p := ⟨g, off + i * 5 + 4, none⟩) hl).trans h4⟩
structure Kds (w : World) (g : Nat) (ks : List Int) : Prop where
  c : ∀ j (h : j < ks.length), w.cell? ⟨g, j, none⟩ = some (.int .i64 ks[j])
  lt : g < w.heap.size
theorem Kds.below {w w' : World} {g : Nat} {ks : List Int} (h : Kds w g ks) (hb : Below w.heap.size w w') : Kds w' g ks :=
  ⟨fun j hj => (hb.cell (p := ⟨g, j, none⟩) h.lt).trans (h.c j hj), Nat.lt_of_lt_of_le h.lt hb.size⟩
theorem blb_le {m k : Nat} (h : m < 2 ^ k) : bl_bitsN m ≤ k := by
  by_cases h0 : m = 0
  · rw [h0, bl_bitsN_zero]; omega
  have h1 := bl_bitsN_le m h0
  have := (Nat.pow_lt_pow_iff_right (by omega : 1 < 2)).1 (Nat.lt_of_le_of_lt h1 h)
  omega
theorem blb_pos {m : Nat} (h : m ≠ 0) : 0 < bl_bitsN m := by unfold bl_bitsN; rw [if_neg h]; omega
theorem wV_parts {z : Nat} (hz : z < 2139095040) (h0 : z ≠ 0) : ∃ q m L, q = z / 8388608 - 1 ∧ m = z - q * 8388608 ∧ L = bl_bitsN m ∧ 1 ≤ L ∧ L ≤ 24 ∧ q ≤ 253 ∧ wV z = (872 + q + L) * 4503599627370496 + m * 2 ^ (53 - L) ∧ 4503599627370496 ≤ m * 2 ^ (53 - L) ∧ m * 2 ^ (53 - L) < 2 * 4503599627370496 := by
  obtain ⟨q, hq⟩ : ∃ q, q = z / 8388608 - 1 := ⟨_, rfl⟩
  obtain ⟨m, hm⟩ : ∃ m, m = z - q * 8388608 := ⟨_, rfl⟩
  obtain ⟨L, hL⟩ : ∃ L, L = bl_bitsN m := ⟨_, rfl⟩
  have hm0 : m ≠ 0 := by omega
  have hm1 : m < 16777216 := by omega
  have l1 := blb_pos hm0
  have l2 := blb_le (m := m) (k := 24) (by omega)
  have b1 := bl_bitsN_lt m
  have b2 := bl_bitsN_le m hm0
  rw [← hL] at l1 l2 b1 b2
  have e1 : (2 : Nat) ^ 52 = 4503599627370496 := by decide
  have h1 : 2 ^ (L - 1) * 2 ^ (53 - L) ≤ m * 2 ^ (53 - L) := Nat.mul_le_mul_right _ b2
  have h2 : m * 2 ^ (53 - L) < 2 ^ L * 2 ^ (53 - L) := Nat.mul_lt_mul_of_pos_right b1 (Nat.pow_pos (by omega))
  rw [← Nat.pow_add, show L - 1 + (53 - L) = 52 from by omega, e1] at h1
  rw [← Nat.pow_add, show L + (53 - L) = 52 + 1 from by omega, Nat.pow_succ, e1] at h2
  refine ⟨q, m, L, hq, hm, hL, l1, l2, by omega, ?_, h1, by omega⟩
  unfold wV
  rw [if_neg h0, ← hq, ← hm, ← hL]
theorem wV_vs {z K : Nat} (hz : z < 2139095040) (hK : K = 925) : vs 4503599627370496 (wV z) = vs 8388608 z * 2 ^ K := by
  by_cases h0 : z = 0
  · subst h0
    unfold wV
    rw [if_pos rfl, vs_zero, vs_zero, Nat.zero_mul]
  obtain ⟨q, m, L, hq, hm, _, l1, l2, l3, hw, h1, h2⟩ := wV_parts hz h0
  have hd : wV z / 4503599627370496 - 1 = 872 + q + L := by
    rw [hw]
    generalize m * 2 ^ (53 - L) = M at *
    omega
  have e1 : vs 8388608 z = m * 2 ^ q := by unfold vs; rw [← hq, ← hm]
  have e2 : wV z - (872 + q + L) * 4503599627370496 = m * 2 ^ (53 - L) := by
    rw [hw]
    generalize m * 2 ^ (53 - L) = M at *
    omega
  rw [e1]
  unfold vs
  rw [hd, e2, Nat.mul_assoc, Nat.mul_assoc, ← Nat.pow_add, ← Nat.pow_add, show 53 - L + (872 + q + L) = q + K from by omega]
theorem wV_lt {y z : Nat} (hy : y < 2139095040) (hz : z < 2139095040) (h : y < z) : wV y < wV z := by
  rcases Nat.lt_or_ge (wV y) (wV z) with h1 | h1
  · exact h1
  · have h2 := vs_mono (H := 8388608) (by decide) h
    have h3 : vs 4503599627370496 (wV z) ≤ vs 4503599627370496 (wV y) := by
      rcases Nat.lt_or_eq_of_le h1 with h4 | h4
      · exact Nat.le_of_lt (vs_mono (by decide) h4)
      · rw [h4]; exact Nat.le_refl _
    obtain ⟨K, hK⟩ : ∃ K, K = 925 := ⟨_, rfl⟩
    rw [wV_vs hy hK, wV_vs hz hK] at h3
    have h5 := Nat.le_of_mul_le_mul_right h3 (Nat.pow_pos (by omega))
    omega
theorem wV_cls {z : Nat} (hz : z < 2139095040) : wV z < 9218868437227405312 ∧ (z = 0 → wV z = 0) ∧ (z ≠ 0 → 4503599627370496 ≤ wV z) := by
  by_cases h0 : z = 0
  · subst h0
    have : wV 0 = 0 := by unfold wV; rw [if_pos rfl]
    rw [this]
    exact ⟨by decide, fun _ => rfl, fun h => absurd rfl h⟩
  obtain ⟨q, m, L, hq, hm, _, l1, l2, l3, hw, h1, h2⟩ := wV_parts hz h0
  rw [hw]
  generalize m * 2 ^ (53 - L) = M at *
  exact ⟨by omega, fun h => absurd h h0, fun _ => by omega⟩
structure WF (a x : Nat) : Prop where
  lt : x < 2 * 9223372036854775808
  nan : 2139095040 < a % 2147483648 → 9218868437227405312 < x % 9223372036854775808
  inf : a % 2147483648 = 2139095040 → x % 9223372036854775808 = 9218868437227405312
  fin : a % 2147483648 < 2139095040 → x % 9223372036854775808 = wV (a % 2147483648) ∧ (9223372036854775808 ≤ x ↔ 2147483648 ≤ a)
theorem cls_four {H I s : Nat} (hH : H ≤ I) : (clsN H I s == 4) = decide (I < s) := by
  by_cases h : I < s
  · rw [cls_nan hH h, decide_eq_true h]; rfl
  · rw [decide_eq_false h]; simp [cls_ne (Nat.le_of_not_lt h)]
theorem WF.cls {a x : Nat} (h : WF a x) : (clsN 8388608 2139095040 (a % 2147483648) == 4) = (clsN 4503599627370496 9218868437227405312 (x % 9223372036854775808) == 4) ∧ (clsN 8388608 2139095040 (a % 2147483648) == 3) = (clsN 4503599627370496 9218868437227405312 (x % 9223372036854775808) == 3) := by
  rw [cls_four (by decide), cls_four (by decide), cls_inf (by decide) (by decide), cls_inf (by decide) (by decide)]
  have h1 := h.nan
  have h2 := h.inf
  have h3 := h.fin
  rcases Nat.lt_trichotomy (a % 2147483648) 2139095040 with k | k | k
  · have k1 := (wV_cls k).1
    rw [← (h3 k).1] at k1
    refine ⟨decide_eq_decide.2 ⟨?_, ?_⟩, decide_eq_decide.2 ⟨?_, ?_⟩⟩ <;> omega
  · have := h2 k
    refine ⟨decide_eq_decide.2 ⟨?_, ?_⟩, decide_eq_decide.2 ⟨?_, ?_⟩⟩ <;> omega
  · have := h1 k
    refine ⟨decide_eq_decide.2 ⟨?_, ?_⟩, decide_eq_decide.2 ⟨?_, ?_⟩⟩ <;> omega
theorem WF.val {zo eo : Int} {a' x' : Nat} (h : WF a' x') (hf : a' % 2147483648 < 2139095040) (hv : VF 2147483648 8388608 (-149) a' zo eo) : VF 9223372036854775808 4503599627370496 (-1074) x' zo eo := by
  obtain ⟨h1, h2⟩ := h.fin hf
  refine ⟨hv.fm, ?_⟩
  obtain ⟨K, hK⟩ : ∃ K, K = 925 := ⟨_, rfl⟩
  have h3 := wV_vs hf hK
  rw [hv.v, show (-149 : Int) = -1074 + (K : Int) from by omega, dv_up K (by decide), svS_eq, svS_eq, h1, h3]
  by_cases h4 : 2147483648 ≤ a'
  · rw [if_pos h4, if_pos (h2.2 h4), Int.neg_mul, ← Int.natCast_mul]
  · rw [if_neg h4, if_neg (fun k => h4 (h2.1 k)), ← Int.natCast_mul]
theorem WF.rank {a x b y : Nat} (h : WF a x) (k : WF b y) (ha : a % 2147483648 < 2139095040) (hb : b % 2147483648 < 2139095040) : rkS 2147483648 a < rkS 2147483648 b ↔ rkS 9223372036854775808 x < rkS 9223372036854775808 y := by
  obtain ⟨h1, h2⟩ := h.fin ha
  obtain ⟨k1, k2⟩ := k.fin hb
  have a0 := (wV_cls ha).2
  have b0 := (wV_cls hb).2
  have l1 : a % 2147483648 < b % 2147483648 → wV (a % 2147483648) < wV (b % 2147483648) := wV_lt ha hb
  have l2 : b % 2147483648 < a % 2147483648 → wV (b % 2147483648) < wV (a % 2147483648) := wV_lt hb ha
  have l3 : a % 2147483648 = b % 2147483648 → wV (a % 2147483648) = wV (b % 2147483648) := fun e => by rw [e]
  unfold rkS
  rw [h1, k1]
  generalize a % 2147483648 = A at *
  generalize b % 2147483648 = B at *
  generalize wV A = WA at *
  generalize wV B = WB at *
  by_cases c1 : 2147483648 ≤ a <;> by_cases c2 : 2147483648 ≤ b
  · rw [if_pos c1, if_pos c2, if_pos (h2.2 c1), if_pos (k2.2 c2)]; omega
  · rw [if_pos c1, if_neg c2, if_pos (h2.2 c1), if_neg (fun e => c2 (k2.1 e))]; omega
  · rw [if_neg c1, if_pos c2, if_neg (fun e => c1 (h2.1 e)), if_pos (k2.2 c2)]; omega
  · rw [if_neg c1, if_neg c2, if_neg (fun e => c1 (h2.1 e)), if_neg (fun e => c2 (k2.1 e))]; omega
end Go.Proofs.YtfmbifocgljieaaGreatDoor
